import Derived.Test.YtmdhjiammcpogaaGreatDoorQ22
namespace Go.Proofs.YtmdhjiammcpogaaGreatDoor
set_option maxRecDepth 100000
set_option maxHeartbeats 16000000
open Go.RowKit
variable {N W d : Nat} {S : Nat -> Prop} {a : Tr} {f : Nd} {m : Md} {r : List Tr} {v : Value} {w : World} {x : List UInt8}
theorem loop_0 (hx : x = [102, 111, 114, 32] ++ tx a d false) (hn : f.n = 0) (hB : PutB a d) (hK : Kids w m S v [a]) (hN : ∀ i, S i -> i < N) (hT : TabN N w) :
 Puts N W (d : Int) x 113 #[.pointer (some ⟨W, 0, none⟩), nv f v] w := by
 have HN := zz hN
 have HT := zz hT
 clear hN hT
 obtain ⟨bv, ov, cv, rfl, hcv, hbv, hn_a⟩ := hK.one1
 obtain ⟨va, HCa, HKa⟩ := hn_a.cs
 obtain ⟨Aa, ca, ba, oa, rfl, h1_, h2_, h3_⟩ := HKa.out.form
 clear h1_ h2_ h3_
 have HAa := zz hn_a
 clear hK hn_a
 unfold nv
 have q1 := nk 1 hn rfl
 have q2 := nk 2 hn rfl
 have q3 := nk 3 hn rfl
 clear hn
 intro acc hw hlen
 have HW0 := zz hw
 have hWl := hw.lt
 have hNw := hw.nle
 have HX0 := zz (show x = [102, 111, 114, 32] ++ tx a d false from hx)
 have HL := zz hlen
 have HF0 := zz (Fx.refl N W w)
 clear hw hlen
 go_enter Tryz.func113, Tryz.ntmps113
 go_wp2_with fail
 obtain ⟨w1, hw1, HB, HXb, hs1⟩ := jb w f (.slice (some ⟨bv, ov, none⟩) 1 cv)
 rw [hw1]
 clear hw1
 obtain ⟨hz1, HF1, HW1⟩ := stb hNw HF0 HW0 HB
 clear HF0 HW0
 have hnb : w.heap.size ≠ W := by have := HF1.out.size; omega
 clear HB
 refine (ahead_is (f := f) (a := a) (n := 0) (by omega) (by omega) (by have := HN.out bv hbv; have := HF1.out.size; omega) (HCa.out.agree (Agree.of_below HF1.out.below HN.out) hbv) ⟨_, _, _, rfl⟩).mono ?_
 rintro e w2 ⟨rfl, b⟩
 have hz2 := Fx.size (Fx.of_below (N := N) (W := W) b (by have := HF1.out.size; omega))
 have HF2 := zz (HF1.out.trans (Fx.of_below (N := N) (W := W) b (by have := HF1.out.size; omega)))
 have HW2 := zz (HW1.out.below b)
 replace HXb := zz (HXb.out.fx (Fx.of_below (N := N) (W := W) b (by have := HF1.out.size; omega)) hnb)
 clear HF1 HW1
 clear b
 go_wp2_with fail
 obtain ⟨w3, hw3, HB, HXk, hs3⟩ := jb w2 a.f (.slice Aa a.ks.length ca)
 rw [hw3]
 clear hw3
 obtain ⟨hz3, HF3, HW3⟩ := stb hNw HF2 HW2 HB
 replace HXb := zz (HXb.out.fx (Fx.of_below (N := N) (W := W) HB.out (by have := HF2.out.size; omega)) hnb)
 clear HF2 HW2
 have hnk : w2.heap.size ≠ W := by have := HF3.out.size; omega
 clear HB
 refine (zc (x := [102, 111, 114, 32]) [⟨#[102, 111, 114, 32]⟩] (by simp [fl]) (by simp) (by omega) rfl rfl HW3.out (by have h := HL.out; rw [HX0.out] at h; (try simp only [List.length_append] at h |-); omega)).mono ?_
 rintro e w4 ⟨rfl, fx, wr⟩
 obtain ⟨hz4, HF4, HW4⟩ := stf HF3 fx wr
 replace HXb := fxx HXb fx hnb
 replace HXk := fxx HXk fx hnk
 clear HF3 HW3 fx wr
 have b0 := HXb.out.cell
 have k0 := HXk.out.cell
 go_wp2_with fail
 refine (hB (N := N) (W := W) (w := w4) (m := m) (S := S) (HKa.out.below HF4.out.below HN.out) HN.out (HT.out.below HF4.out.below) _ HW4.out (by have h := HL.out; rw [HX0.out] at h; (try simp only [List.length_append] at h |-); omega)).mono ?_
 rintro e w5 ⟨rfl, fx, wr⟩
 obtain ⟨hz5, HF5, HW5⟩ := stf HF4 fx wr
 replace HXb := fxx HXb fx hnb
 replace HXk := fxx HXk fx hnk
 clear HF4 HW4 b0 k0
 clear fx wr
 go_wp2
 go_end0
 exact ⟨rfl, HF5.out, by rw [HX0.out]; first | exact HW5.out | simpa only [List.append_assoc] using HW5.out⟩
theorem loop_1 {e : Tr} (hx : x = [102, 111, 114, 32] ++ te e ++ [32] ++ tx a d false) (hn : f.n = 1) (hE : PutE e) (hB : PutB a d) (hK : Kids w m S v [e, a]) (hN : ∀ i, S i -> i < N) (hT : TabN N w) :
 Puts N W (d : Int) x 113 #[.pointer (some ⟨W, 0, none⟩), nv f v] w := by
 have HN := zz hN
 have HT := zz hT
 clear hN hT
 obtain ⟨bv, ov, cv, rfl, hcv, hbv, hn_e, hn_a⟩ := hK.two2
 obtain ⟨ve, HCe, HKe⟩ := hn_e.cs
 obtain ⟨Ae, ce, be, oe, rfl, h1_, h2_, h3_⟩ := HKe.out.form
 clear h1_ h2_ h3_
 have HAe := zz hn_e
 obtain ⟨va, HCa, HKa⟩ := hn_a.cs
 obtain ⟨Aa, ca, ba, oa, rfl, h1_, h2_, h3_⟩ := HKa.out.form
 clear h1_ h2_ h3_
 have HAa := zz hn_a
 clear hK hn_e hn_a
 unfold nv
 have q1 := yk hn
 clear hn
 intro acc hw hlen
 have HW0 := zz hw
 have hWl := hw.lt
 have hNw := hw.nle
 have HX0 := zz (show x = [102, 111, 114, 32] ++ te e ++ [32] ++ tx a d false from hx)
 have HL := zz hlen
 have HF0 := zz (Fx.refl N W w)
 clear hw hlen
 go_enter Tryz.func113, Tryz.ntmps113
 go_wp2_with fail
 obtain ⟨w1, hw1, HB, HXb, hs1⟩ := jb w f (.slice (some ⟨bv, ov, none⟩) 2 cv)
 rw [hw1]
 clear hw1
 obtain ⟨hz1, HF1, HW1⟩ := stb hNw HF0 HW0 HB
 clear HF0 HW0
 have hnb : w.heap.size ≠ W := by have := HF1.out.size; omega
 clear HB
 refine (ahead_is (f := f) (a := a) (n := 1) (by omega) (by omega) (by have := HN.out bv hbv; have := HF1.out.size; omega) (HCa.out.agree (Agree.of_below HF1.out.below HN.out) hbv) ⟨_, _, _, rfl⟩).mono ?_
 rintro e w2 ⟨rfl, b⟩
 have hz2 := Fx.size (Fx.of_below (N := N) (W := W) b (by have := HF1.out.size; omega))
 have HF2 := zz (HF1.out.trans (Fx.of_below (N := N) (W := W) b (by have := HF1.out.size; omega)))
 have HW2 := zz (HW1.out.below b)
 replace HXb := zz (HXb.out.fx (Fx.of_below (N := N) (W := W) b (by have := HF1.out.size; omega)) hnb)
 clear HF1 HW1
 clear b
 go_wp2_with fail
 obtain ⟨w3, hw3, HB, HXk, hs3⟩ := jb w2 a.f (.slice Aa a.ks.length ca)
 rw [hw3]
 clear hw3
 obtain ⟨hz3, HF3, HW3⟩ := stb hNw HF2 HW2 HB
 replace HXb := zz (HXb.out.fx (Fx.of_below (N := N) (W := W) HB.out (by have := HF2.out.size; omega)) hnb)
 clear HF2 HW2
 have hnk : w2.heap.size ≠ W := by have := HF3.out.size; omega
 clear HB
 refine (zc (x := [102, 111, 114, 32]) [⟨#[102, 111, 114, 32]⟩] (by simp [fl]) (by simp) (by omega) rfl rfl HW3.out (by have h := HL.out; rw [HX0.out] at h; (try simp only [List.length_append] at h |-); omega)).mono ?_
 rintro e w4 ⟨rfl, fx, wr⟩
 obtain ⟨hz4, HF4, HW4⟩ := stf HF3 fx wr
 replace HXb := fxx HXb fx hnb
 replace HXk := fxx HXk fx hnk
 clear HF3 HW3 fx wr
 have b0 := HXb.out.cell
 have e0 := (HCe.out.agree (Agree.of_below HF4.out.below HN.out) hbv).cell
 go_wp2_with fail
 refine (hE (N := N) (W := W) (tb := (d : Int)) (w := w4) (m := m) (S := S) (HKe.out.below HF4.out.below HN.out) HN.out (HT.out.below HF4.out.below) _ HW4.out (by have h := HL.out; rw [HX0.out] at h; (try simp only [List.length_append] at h |-); omega)).mono ?_
 rintro e w5 ⟨rfl, fx, wr⟩
 obtain ⟨hz5, HF5, HW5⟩ := stf HF4 fx wr
 replace HXb := fxx HXb fx hnb
 replace HXk := fxx HXk fx hnk
 clear HF4 HW4 b0 e0
 clear fx wr
 go_wp2_with fail
 refine (zc (x := [32]) [⟨#[32]⟩] (by simp [fl]) (by simp) (by omega) rfl rfl HW5.out (by have h := HL.out; rw [HX0.out] at h; (try simp only [List.length_append] at h |-); omega)).mono ?_
 rintro e w6 ⟨rfl, fx, wr⟩
 obtain ⟨hz6, HF6, HW6⟩ := stf HF5 fx wr
 replace HXb := fxx HXb fx hnb
 replace HXk := fxx HXk fx hnk
 clear HF5 HW5 fx wr
 have k0 := HXk.out.cell
 go_wp2_with fail
 refine (hB (N := N) (W := W) (w := w6) (m := m) (S := S) (HKa.out.below HF6.out.below HN.out) HN.out (HT.out.below HF6.out.below) _ HW6.out (by have h := HL.out; rw [HX0.out] at h; (try simp only [List.length_append] at h |-); omega)).mono ?_
 rintro e w7 ⟨rfl, fx, wr⟩
 obtain ⟨hz7, HF7, HW7⟩ := stf HF6 fx wr
 replace HXb := fxx HXb fx hnb
 replace HXk := fxx HXk fx hnk
 clear HF6 HW6 k0
 clear fx wr
 go_wp2
 go_end0
 exact ⟨rfl, HF7.out, by rw [HX0.out]; first | exact HW7.out | simpa only [List.append_assoc] using HW7.out⟩
theorem loop_2 {g c z : Tr} (hx : x = [102, 111, 114, 32] ++ three g c z ++ [32] ++ tx a d false) (hn : f.n = 2) (hS : PutM g) (hC : ¬ c.f.k = 0 -> PutE c) (hX : ¬ z.f.k = 0 -> PutM z) (hB : PutB a d) (hK : Kids w m S v [g, c, z, a]) (hN : ∀ i, S i -> i < N) (hT : TabN N w) :
 Puts N W (d : Int) x 113 #[.pointer (some ⟨W, 0, none⟩), nv f v] w := by
 have HN := zz hN
 have HT := zz hT
 clear hN hT
 obtain ⟨bv, ov, cv, rfl, hcv, hbv, hn_g, hn_c, hn_z, hn_a⟩ := hK.four4
 obtain ⟨vg, HCg, HKg⟩ := hn_g.cs
 obtain ⟨Ag, cg, bg, og, rfl, h1_, h2_, h3_⟩ := HKg.out.form
 clear h1_ h2_ h3_
 have HAg := zz hn_g
 obtain ⟨vc, HCc, HKc⟩ := hn_c.cs
 obtain ⟨Ac, cc, bc, oc, rfl, h1_, h2_, h3_⟩ := HKc.out.form
 clear h1_ h2_ h3_
 have HAc := zz hn_c
 obtain ⟨vz, HCz, HKz⟩ := hn_z.cs
 obtain ⟨Az, cz, bz, oz, rfl, h1_, h2_, h3_⟩ := HKz.out.form
 clear h1_ h2_ h3_
 have HAz := zz hn_z
 obtain ⟨va, HCa, HKa⟩ := hn_a.cs
 obtain ⟨Aa, ca, ba, oa, rfl, h1_, h2_, h3_⟩ := HKa.out.form
 clear h1_ h2_ h3_
 have HAa := zz hn_a
 clear hK hn_g hn_c hn_z hn_a
 unfold nv
 have q1 := nk 1 hn rfl
 have q2 := yk hn
 clear hn
 intro acc hw hlen
 have HW0 := zz hw
 have hWl := hw.lt
 have hNw := hw.nle
 have HX0 := zz (show x = [102, 111, 114, 32] ++ three g c z ++ [32] ++ tx a d false from hx)
 have HL := zz hlen
 have HF0 := zz (Fx.refl N W w)
 clear hw hlen
 go_enter Tryz.func113, Tryz.ntmps113
 go_wp2_with fail
 obtain ⟨w1, hw1, HB, HXb, hs1⟩ := jb w f (.slice (some ⟨bv, ov, none⟩) 4 cv)
 rw [hw1]
 clear hw1
 obtain ⟨hz1, HF1, HW1⟩ := stb hNw HF0 HW0 HB
 clear HF0 HW0
 have hnb : w.heap.size ≠ W := by have := HF1.out.size; omega
 clear HB
 refine (ahead_is (f := f) (a := a) (n := 3) (by omega) (by omega) (by have := HN.out bv hbv; have := HF1.out.size; omega) (HCa.out.agree (Agree.of_below HF1.out.below HN.out) hbv) ⟨_, _, _, rfl⟩).mono ?_
 rintro e w2 ⟨rfl, b⟩
 have hz2 := Fx.size (Fx.of_below (N := N) (W := W) b (by have := HF1.out.size; omega))
 have HF2 := zz (HF1.out.trans (Fx.of_below (N := N) (W := W) b (by have := HF1.out.size; omega)))
 have HW2 := zz (HW1.out.below b)
 replace HXb := zz (HXb.out.fx (Fx.of_below (N := N) (W := W) b (by have := HF1.out.size; omega)) hnb)
 clear HF1 HW1
 clear b
 go_wp2_with fail
 obtain ⟨w3, hw3, HB, HXk, hs3⟩ := jb w2 a.f (.slice Aa a.ks.length ca)
 rw [hw3]
 clear hw3
 obtain ⟨hz3, HF3, HW3⟩ := stb hNw HF2 HW2 HB
 replace HXb := zz (HXb.out.fx (Fx.of_below (N := N) (W := W) HB.out (by have := HF2.out.size; omega)) hnb)
 clear HF2 HW2
 have hnk : w2.heap.size ≠ W := by have := HF3.out.size; omega
 clear HB
 refine (zc (x := [102, 111, 114, 32]) [⟨#[102, 111, 114, 32]⟩] (by simp [fl]) (by simp) (by omega) rfl rfl HW3.out (by have h := HL.out; rw [HX0.out] at h; (try simp only [List.length_append] at h |-); omega)).mono ?_
 rintro e w4 ⟨rfl, fx, wr⟩
 obtain ⟨hz4, HF4, HW4⟩ := stf HF3 fx wr
 replace HXb := fxx HXb fx hnb
 replace HXk := fxx HXk fx hnk
 clear HF3 HW3 fx wr
 have b0 := HXb.out.cell
 go_wp2_with fail
 refine (three_is (N := N) (W := W) (tb := (d : Int)) (m := m) (S := S) rfl hS hC hX hbv (HAg.out.agree (Agree.of_below HF4.out.below HN.out) hbv) (HAc.out.agree (Agree.of_below HF4.out.below HN.out) hbv) (HAz.out.agree (Agree.of_below HF4.out.below HN.out) hbv) HN.out (HT.out.below HF4.out.below) _ HW4.out (by have h := HL.out; rw [HX0.out] at h; (try simp only [List.length_append] at h |-); omega)).mono ?_
 rintro e w5 ⟨rfl, fx, wr⟩
 obtain ⟨hz5, HF5, HW5⟩ := stf HF4 fx wr
 replace HXb := fxx HXb fx hnb
 replace HXk := fxx HXk fx hnk
 clear HF4 HW4 b0
 clear fx wr
 go_wp2_with fail
 refine (zc (x := [32]) [⟨#[32]⟩] (by simp [fl]) (by simp) (by omega) rfl rfl HW5.out (by have h := HL.out; rw [HX0.out] at h; (try simp only [List.length_append] at h |-); omega)).mono ?_
 rintro e w6 ⟨rfl, fx, wr⟩
 obtain ⟨hz6, HF6, HW6⟩ := stf HF5 fx wr
 replace HXb := fxx HXb fx hnb
 replace HXk := fxx HXk fx hnk
 clear HF5 HW5 fx wr
 have k0 := HXk.out.cell
 go_wp2_with fail
 refine (hB (N := N) (W := W) (w := w6) (m := m) (S := S) (HKa.out.below HF6.out.below HN.out) HN.out (HT.out.below HF6.out.below) _ HW6.out (by have h := HL.out; rw [HX0.out] at h; (try simp only [List.length_append] at h |-); omega)).mono ?_
 rintro e w7 ⟨rfl, fx, wr⟩
 obtain ⟨hz7, HF7, HW7⟩ := stf HF6 fx wr
 replace HXb := fxx HXb fx hnb
 replace HXk := fxx HXk fx hnk
 clear HF6 HW6 k0
 clear fx wr
 go_wp2
 go_end0
 exact ⟨rfl, HF7.out, by rw [HX0.out]; first | exact HW7.out | simpa only [List.append_assoc] using HW7.out⟩
theorem loop_3 {g c : Tr} (hx : x = [102, 111, 114, 32] ++ rngT (bs f.t) g c ++ [32] ++ tx a d false) (hn : f.n = 3) (hS : ¬ bs f.t = [] -> PutE g) (hC : PutE c) (hB : PutB a d) (hK : Kids w m S v [g, c, a]) (hN : ∀ i, S i -> i < N) (hT : TabN N w) :
 Puts N W (d : Int) x 113 #[.pointer (some ⟨W, 0, none⟩), nv f v] w := by
 have HN := zz hN
 have HT := zz hT
 clear hN hT
 obtain ⟨bv, ov, cv, rfl, hcv, hbv, hn_g, hn_c, hn_a⟩ := hK.three3
 obtain ⟨vg, HCg, HKg⟩ := hn_g.cs
 obtain ⟨Ag, cg, bg, og, rfl, h1_, h2_, h3_⟩ := HKg.out.form
 clear h1_ h2_ h3_
 have HAg := zz hn_g
 obtain ⟨vc, HCc, HKc⟩ := hn_c.cs
 obtain ⟨Ac, cc, bc, oc, rfl, h1_, h2_, h3_⟩ := HKc.out.form
 clear h1_ h2_ h3_
 have HAc := zz hn_c
 obtain ⟨va, HCa, HKa⟩ := hn_a.cs
 obtain ⟨Aa, ca, ba, oa, rfl, h1_, h2_, h3_⟩ := HKa.out.form
 clear h1_ h2_ h3_
 have HAa := zz hn_a
 clear hK hn_g hn_c hn_a
 unfold nv
 have q1 := nk 1 hn rfl
 have q2 := nk 2 hn rfl
 have q3 := yk hn
 clear hn
 intro acc hw hlen
 have HW0 := zz hw
 have hWl := hw.lt
 have hNw := hw.nle
 have HX0 := zz (show x = [102, 111, 114, 32] ++ rngT (bs f.t) g c ++ [32] ++ tx a d false from hx)
 have HL := zz hlen
 have HF0 := zz (Fx.refl N W w)
 clear hw hlen
 go_enter Tryz.func113, Tryz.ntmps113
 go_wp2_with fail
 obtain ⟨w1, hw1, HB, HXb, hs1⟩ := jb w f (.slice (some ⟨bv, ov, none⟩) 3 cv)
 rw [hw1]
 clear hw1
 obtain ⟨hz1, HF1, HW1⟩ := stb hNw HF0 HW0 HB
 clear HF0 HW0
 have hnb : w.heap.size ≠ W := by have := HF1.out.size; omega
 clear HB
 refine (ahead_is (f := f) (a := a) (n := 2) (by omega) (by omega) (by have := HN.out bv hbv; have := HF1.out.size; omega) (HCa.out.agree (Agree.of_below HF1.out.below HN.out) hbv) ⟨_, _, _, rfl⟩).mono ?_
 rintro e w2 ⟨rfl, b⟩
 have hz2 := Fx.size (Fx.of_below (N := N) (W := W) b (by have := HF1.out.size; omega))
 have HF2 := zz (HF1.out.trans (Fx.of_below (N := N) (W := W) b (by have := HF1.out.size; omega)))
 have HW2 := zz (HW1.out.below b)
 replace HXb := zz (HXb.out.fx (Fx.of_below (N := N) (W := W) b (by have := HF1.out.size; omega)) hnb)
 clear HF1 HW1
 clear b
 go_wp2_with fail
 obtain ⟨w3, hw3, HB, HXk, hs3⟩ := jb w2 a.f (.slice Aa a.ks.length ca)
 rw [hw3]
 clear hw3
 obtain ⟨hz3, HF3, HW3⟩ := stb hNw HF2 HW2 HB
 replace HXb := zz (HXb.out.fx (Fx.of_below (N := N) (W := W) HB.out (by have := HF2.out.size; omega)) hnb)
 clear HF2 HW2
 have hnk : w2.heap.size ≠ W := by have := HF3.out.size; omega
 clear HB
 refine (zc (x := [102, 111, 114, 32]) [⟨#[102, 111, 114, 32]⟩] (by simp [fl]) (by simp) (by omega) rfl rfl HW3.out (by have h := HL.out; rw [HX0.out] at h; (try simp only [List.length_append] at h |-); omega)).mono ?_
 rintro e w4 ⟨rfl, fx, wr⟩
 obtain ⟨hz4, HF4, HW4⟩ := stf HF3 fx wr
 replace HXb := fxx HXb fx hnb
 replace HXk := fxx HXk fx hnk
 clear HF3 HW3 fx wr
 have b0 := HXb.out.cell
 go_wp2_with fail
 refine (range_is (N := N) (W := W) (tb := (d : Int)) (m := m) (S := S) rfl hS hC hbv (HAg.out.agree (Agree.of_below HF4.out.below HN.out) hbv) (HAc.out.agree (Agree.of_below HF4.out.below HN.out) hbv) HN.out (HT.out.below HF4.out.below) _ HW4.out (by have h := HL.out; rw [HX0.out] at h; (try simp only [List.length_append] at h |-); omega)).mono ?_
 rintro e w5 ⟨rfl, fx, wr⟩
 obtain ⟨hz5, HF5, HW5⟩ := stf HF4 fx wr
 replace HXb := fxx HXb fx hnb
 replace HXk := fxx HXk fx hnk
 clear HF4 HW4 b0
 clear fx wr
 go_wp2_with fail
 refine (zc (x := [32]) [⟨#[32]⟩] (by simp [fl]) (by simp) (by omega) rfl rfl HW5.out (by have h := HL.out; rw [HX0.out] at h; (try simp only [List.length_append] at h |-); omega)).mono ?_
 rintro e w6 ⟨rfl, fx, wr⟩
 obtain ⟨hz6, HF6, HW6⟩ := stf HF5 fx wr
 replace HXb := fxx HXb fx hnb
 replace HXk := fxx HXk fx hnk
 clear HF5 HW5 fx wr
 have k0 := HXk.out.cell
 go_wp2_with fail
 refine (hB (N := N) (W := W) (w := w6) (m := m) (S := S) (HKa.out.below HF6.out.below HN.out) HN.out (HT.out.below HF6.out.below) _ HW6.out (by have h := HL.out; rw [HX0.out] at h; (try simp only [List.length_append] at h |-); omega)).mono ?_
 rintro e w7 ⟨rfl, fx, wr⟩
 obtain ⟨hz7, HF7, HW7⟩ := stf HF6 fx wr
 replace HXb := fxx HXb fx hnb
 replace HXk := fxx HXk fx hnk
 clear HF6 HW6 k0
 clear fx wr
 go_wp2
 go_end0
 exact ⟨rfl, HF7.out, by rw [HX0.out]; first | exact HW7.out | simpa only [List.append_assoc] using HW7.out⟩
def PutI (t : Tr) (d : Nat) : Prop := ∀ {N W : Nat} {w : World} {v : Value} {m : Md} {S : Nat -> Prop}, Kids w m S v t.ks -> (∀ i, S i -> i < N) -> TabN N w -> Puts N W (d : Int) (tx t d true) 70 #[.pointer (some ⟨W, 0, none⟩), nv t.f v] w
def PutC (t : Tr) (d : Nat) : Prop := ∀ {N W : Nat} {w : World} {v : Value} {m : Md} {S : Nat -> Prop}, Kids w m S v t.ks -> (∀ i, S i -> i < N) -> TabN N w -> Puts N W (d : Int) (tx t d false) 136 #[.pointer (some ⟨W, 0, none⟩), nv t.f v] w
theorem clause_d (hx : x = tbs d ++ [100, 101, 102, 97, 117, 108, 116] ++ [58, 10] ++ tx a d true) (hd : d <= 1000000) (hn : f.n = 1) (hI : PutI a d) (hK : Kids w m S v [a]) (hN : ∀ i, S i -> i < N) (hT : TabN N w) :
 Puts N W (d : Int) x 136 #[.pointer (some ⟨W, 0, none⟩), nv f v] w := by
 have HN := zz hN
 have HT := zz hT
 clear hN hT
 obtain ⟨bv, ov, cv, rfl, hcv, hbv, hn_a⟩ := hK.one1
 obtain ⟨va, HCa, HKa⟩ := hn_a.cs
 obtain ⟨Aa, ca, ba, oa, rfl, h1_, h2_, h3_⟩ := HKa.out.form
 clear h1_ h2_ h3_
 have HAa := zz hn_a
 clear hK hn_a
 unfold nv
 have HD := zz (show kDef f = true by unfold kDef; rw [hn]; rfl)
 clear hn
 intro acc hw hlen
 have HW0 := zz hw
 have hWl := hw.lt
 have hNw := hw.nle
 have HX0 := zz (show x = tbs d ++ [100, 101, 102, 97, 117, 108, 116] ++ [58, 10] ++ tx a d true from hx)
 have HL := zz hlen
 have HF0 := zz (Fx.refl N W w)
 clear hw hlen
 go_enter Tryz.func136, Tryz.ntmps136
 go_wp2_with fail
 obtain ⟨w1, hw1, HB, HXb, hs1⟩ := jb w f (.slice (some ⟨bv, ov, none⟩) 1 cv)
 rw [hw1]
 clear hw1
 obtain ⟨hz1, HF1, HW1⟩ := stb hNw HF0 HW0 HB
 clear HF0 HW0
 have hnb : w.heap.size ≠ W := by have := HF1.out.size; omega
 clear HB
 refine (ahead_is (f := f) (a := a) (n := 0) (by omega) (by omega) (by have := HN.out bv hbv; have := HF1.out.size; omega) (HCa.out.agree (Agree.of_below HF1.out.below HN.out) hbv) ⟨_, _, _, rfl⟩).mono ?_
 rintro e w2 ⟨rfl, b⟩
 have hz2 := Fx.size (Fx.of_below (N := N) (W := W) b (by have := HF1.out.size; omega))
 have HF2 := zz (HF1.out.trans (Fx.of_below (N := N) (W := W) b (by have := HF1.out.size; omega)))
 have HW2 := zz (HW1.out.below b)
 replace HXb := zz (HXb.out.fx (Fx.of_below (N := N) (W := W) b (by have := HF1.out.size; omega)) hnb)
 clear HF1 HW1
 clear b
 go_wp2_with fail
 obtain ⟨w3, hw3, HB, HXk, hs3⟩ := jb w2 a.f (.slice Aa a.ks.length ca)
 rw [hw3]
 clear hw3
 obtain ⟨hz3, HF3, HW3⟩ := stb hNw HF2 HW2 HB
 replace HXb := zz (HXb.out.fx (Fx.of_below (N := N) (W := W) HB.out (by have := HF2.out.size; omega)) hnb)
 clear HF2 HW2
 have hnk : w2.heap.size ≠ W := by have := HF3.out.size; omega
 clear HB
 refine (indent_is (N := N) (W := W) (d := d) (by omega) _ HW3.out (by have h := HL.out; rw [HX0.out] at h; (try simp only [List.length_append] at h |-); omega)).mono ?_
 rintro e w4 ⟨rfl, fx, wr⟩
 obtain ⟨hz4, HF4, HW4⟩ := stf HF3 fx wr
 replace HXb := fxx HXb fx hnb
 replace HXk := fxx HXk fx hnk
 clear HF3 HW3 fx wr
 have b0 := HXb.out.cell
 go_wp2_with fail
 refine (kDef_is (f := f) (b := true) HD.out _).mono ?_
 rintro e w5 ⟨rfl, b⟩
 have hz5 := Fx.size (Fx.of_below (N := N) (W := W) b (by have := HF4.out.size; omega))
 have HF5 := zz (HF4.out.trans (Fx.of_below (N := N) (W := W) b (by have := HF4.out.size; omega)))
 have HW5 := zz (HW4.out.below b)
 replace HXb := zz (HXb.out.fx (Fx.of_below (N := N) (W := W) b (by have := HF4.out.size; omega)) hnb)
 replace HXk := zz (HXk.out.fx (Fx.of_below (N := N) (W := W) b (by have := HF4.out.size; omega)) hnk)
 clear HF4 HW4 b0
 clear b
 go_wp2_with fail
 refine (zc (x := [100, 101, 102, 97, 117, 108, 116]) [⟨#[100, 101, 102, 97, 117, 108, 116]⟩] (by simp [fl]) (by simp) (by omega) rfl rfl HW5.out (by have h := HL.out; rw [HX0.out] at h; (try simp only [List.length_append] at h |-); omega)).mono ?_
 rintro e w6 ⟨rfl, fx, wr⟩
 obtain ⟨hz6, HF6, HW6⟩ := stf HF5 fx wr
 replace HXb := fxx HXb fx hnb
 replace HXk := fxx HXk fx hnk
 clear HF5 HW5 fx wr
 go_wp2_with fail
 refine (zc (x := [58, 10]) [⟨#[58, 10]⟩] (by simp [fl]) (by simp) (by omega) rfl rfl HW6.out (by have h := HL.out; rw [HX0.out] at h; (try simp only [List.length_append] at h |-); omega)).mono ?_
 rintro e w7 ⟨rfl, fx, wr⟩
 obtain ⟨hz7, HF7, HW7⟩ := stf HF6 fx wr
 replace HXb := fxx HXb fx hnb
 replace HXk := fxx HXk fx hnk
 clear HF6 HW6 fx wr
 have k0 := HXk.out.cell
 go_wp2_with fail
 refine (hI (N := N) (W := W) (w := w7) (m := m) (S := S) (HKa.out.below HF7.out.below HN.out) HN.out (HT.out.below HF7.out.below) _ HW7.out (by have h := HL.out; rw [HX0.out] at h; (try simp only [List.length_append] at h |-); omega)).mono ?_
 rintro e w8 ⟨rfl, fx, wr⟩
 obtain ⟨hz8, HF8, HW8⟩ := stf HF7 fx wr
 replace HXb := fxx HXb fx hnb
 replace HXk := fxx HXk fx hnk
 clear HF7 HW7 k0
 clear fx wr
 go_wp2
 go_end0
 exact ⟨rfl, HF8.out, by rw [HX0.out]; first | exact HW8.out | simpa only [List.append_assoc] using HW8.out⟩
theorem clause_a {g : Tr} (hx : x = tbs d ++ [99, 97, 115, 101, 32] ++ te g ++ [58, 10] ++ tx a d true) (hd : d <= 1000000) (hk : f.k = 16) (hn : ¬ f.n = 1) (hS : PutM g) (hI : PutI a d) (hK : Kids w m S v [g, a]) (hN : ∀ i, S i -> i < N) (hT : TabN N w) :
 Puts N W (d : Int) x 136 #[.pointer (some ⟨W, 0, none⟩), nv f v] w := by
 have HN := zz hN
 have HT := zz hT
 clear hN hT
 obtain ⟨bv, ov, cv, rfl, hcv, hbv, hn_g, hn_a⟩ := hK.two2
 obtain ⟨vg, HCg, HKg⟩ := hn_g.cs
 obtain ⟨Ag, cg, bg, og, rfl, h1_, h2_, h3_⟩ := HKg.out.form
 clear h1_ h2_ h3_
 have HAg := zz hn_g
 obtain ⟨va, HCa, HKa⟩ := hn_a.cs
 obtain ⟨Aa, ca, ba, oa, rfl, h1_, h2_, h3_⟩ := HKa.out.form
 clear h1_ h2_ h3_
 have HAa := zz hn_a
 clear hK hn_g hn_a
 unfold nv
 have HD := zz (show kDef f = false by unfold kDef; exact beq_false_of_ne hn)
 have q16 := yk hk
 clear hn hk
 intro acc hw hlen
 have HW0 := zz hw
 have hWl := hw.lt
 have hNw := hw.nle
 have HX0 := zz (show x = tbs d ++ [99, 97, 115, 101, 32] ++ te g ++ [58, 10] ++ tx a d true from hx)
 have HL := zz hlen
 have HF0 := zz (Fx.refl N W w)
 clear hw hlen
 go_enter Tryz.func136, Tryz.ntmps136
 go_wp2_with fail
 obtain ⟨w1, hw1, HB, HXb, hs1⟩ := jb w f (.slice (some ⟨bv, ov, none⟩) 2 cv)
 rw [hw1]
 clear hw1
 obtain ⟨hz1, HF1, HW1⟩ := stb hNw HF0 HW0 HB
 clear HF0 HW0
 have hnb : w.heap.size ≠ W := by have := HF1.out.size; omega
 clear HB
 refine (ahead_is (f := f) (a := a) (n := 1) (by omega) (by omega) (by have := HN.out bv hbv; have := HF1.out.size; omega) (HCa.out.agree (Agree.of_below HF1.out.below HN.out) hbv) ⟨_, _, _, rfl⟩).mono ?_
 rintro e w2 ⟨rfl, b⟩
 have hz2 := Fx.size (Fx.of_below (N := N) (W := W) b (by have := HF1.out.size; omega))
 have HF2 := zz (HF1.out.trans (Fx.of_below (N := N) (W := W) b (by have := HF1.out.size; omega)))
 have HW2 := zz (HW1.out.below b)
 replace HXb := zz (HXb.out.fx (Fx.of_below (N := N) (W := W) b (by have := HF1.out.size; omega)) hnb)
 clear HF1 HW1
 clear b
 go_wp2_with fail
 obtain ⟨w3, hw3, HB, HXk, hs3⟩ := jb w2 a.f (.slice Aa a.ks.length ca)
 rw [hw3]
 clear hw3
 obtain ⟨hz3, HF3, HW3⟩ := stb hNw HF2 HW2 HB
 replace HXb := zz (HXb.out.fx (Fx.of_below (N := N) (W := W) HB.out (by have := HF2.out.size; omega)) hnb)
 clear HF2 HW2
 have hnk : w2.heap.size ≠ W := by have := HF3.out.size; omega
 clear HB
 refine (indent_is (N := N) (W := W) (d := d) (by omega) _ HW3.out (by have h := HL.out; rw [HX0.out] at h; (try simp only [List.length_append] at h |-); omega)).mono ?_
 rintro e w4 ⟨rfl, fx, wr⟩
 obtain ⟨hz4, HF4, HW4⟩ := stf HF3 fx wr
 replace HXb := fxx HXb fx hnb
 replace HXk := fxx HXk fx hnk
 clear HF3 HW3 fx wr
 have b0 := HXb.out.cell
 go_wp2_with fail
 refine (kDef_is (f := f) (b := false) HD.out _).mono ?_
 rintro e w5 ⟨rfl, b⟩
 have hz5 := Fx.size (Fx.of_below (N := N) (W := W) b (by have := HF4.out.size; omega))
 have HF5 := zz (HF4.out.trans (Fx.of_below (N := N) (W := W) b (by have := HF4.out.size; omega)))
 have HW5 := zz (HW4.out.below b)
 replace HXb := zz (HXb.out.fx (Fx.of_below (N := N) (W := W) b (by have := HF4.out.size; omega)) hnb)
 replace HXk := zz (HXk.out.fx (Fx.of_below (N := N) (W := W) b (by have := HF4.out.size; omega)) hnk)
 clear HF4 HW4 b0
 clear b
 have b0 := HXb.out.cell
 go_wp2_with fail
 refine (zc (x := [99, 97, 115, 101, 32]) [⟨#[99, 97, 115, 101, 32]⟩] (by simp [fl]) (by simp) (by omega) rfl rfl HW5.out (by have h := HL.out; rw [HX0.out] at h; (try simp only [List.length_append] at h |-); omega)).mono ?_
 rintro e w6 ⟨rfl, fx, wr⟩
 obtain ⟨hz6, HF6, HW6⟩ := stf HF5 fx wr
 replace HXb := fxx HXb fx hnb
 replace HXk := fxx HXk fx hnk
 clear HF5 HW5 b0
 clear fx wr
 have g0 := (HCg.out.agree (Agree.of_below HF6.out.below HN.out) hbv).cell
 go_wp2_with fail
 refine (hS (N := N) (W := W) (tb := (d : Int)) (w := w6) (m := m) (S := S) (HKg.out.below HF6.out.below HN.out) HN.out (HT.out.below HF6.out.below) _ HW6.out (by have h := HL.out; rw [HX0.out] at h; (try simp only [List.length_append] at h |-); omega)).mono ?_
 rintro e w7 ⟨rfl, fx, wr⟩
 obtain ⟨hz7, HF7, HW7⟩ := stf HF6 fx wr
 replace HXb := fxx HXb fx hnb
 replace HXk := fxx HXk fx hnk
 clear HF6 HW6 g0
 clear fx wr
 go_wp2_with fail
 refine (zc (x := [58, 10]) [⟨#[58, 10]⟩] (by simp [fl]) (by simp) (by omega) rfl rfl HW7.out (by have h := HL.out; rw [HX0.out] at h; (try simp only [List.length_append] at h |-); omega)).mono ?_
 rintro e w8 ⟨rfl, fx, wr⟩
 obtain ⟨hz8, HF8, HW8⟩ := stf HF7 fx wr
 replace HXb := fxx HXb fx hnb
 replace HXk := fxx HXk fx hnk
 clear HF7 HW7 fx wr
 have k0 := HXk.out.cell
 go_wp2_with fail
 refine (hI (N := N) (W := W) (w := w8) (m := m) (S := S) (HKa.out.below HF8.out.below HN.out) HN.out (HT.out.below HF8.out.below) _ HW8.out (by have h := HL.out; rw [HX0.out] at h; (try simp only [List.length_append] at h |-); omega)).mono ?_
 rintro e w9 ⟨rfl, fx, wr⟩
 obtain ⟨hz9, HF9, HW9⟩ := stf HF8 fx wr
 replace HXb := fxx HXb fx hnb
 replace HXk := fxx HXk fx hnk
 clear HF8 HW8 k0
 clear fx wr
 go_wp2
 go_end0
 exact ⟨rfl, HF9.out, by rw [HX0.out]; first | exact HW9.out | simpa only [List.append_assoc] using HW9.out⟩
theorem clause_c (hx : x = tbs d ++ [99, 97, 115, 101, 32] ++ cm (r.map te) ++ [58, 10] ++ tx a d true) (hd : d <= 1000000) (hk : f.k = 14) (hn : ¬ f.n = 1) (hR : ∀ t ∈ r, PutE t) (hI : PutI a d) (hK : Kids w m S v (r ++ [a])) (hN : ∀ i, S i -> i < N) (hT : TabN N w) :
 Puts N W (d : Int) x 136 #[.pointer (some ⟨W, 0, none⟩), nv f v] w := by
 have HN := zz hN
 have HT := zz hT
 clear hN hT
 have HR := zz hR
 clear hR
 obtain ⟨bv, ov, cv, rfl, hcv, hlv, hbv, hn_a, hrr⟩ := hK.snoc
 have HRr := zz hrr
 obtain ⟨va, HCa, HKa⟩ := hn_a.cs
 obtain ⟨Aa, ca, ba, oa, rfl, h1_, h2_, h3_⟩ := HKa.out.form
 clear h1_ h2_ h3_ hK hn_a hrr
 unfold nv
 have HD := zz (show kDef f = false by unfold kDef; exact beq_false_of_ne hn)
 have q16 := nk 16 hk rfl
 clear hn hk
 intro acc hw hlen
 have HW0 := zz hw
 have hWl := hw.lt
 have hNw := hw.nle
 have HX0 := zz (show x = tbs d ++ [99, 97, 115, 101, 32] ++ cm (r.map te) ++ [58, 10] ++ tx a d true from hx)
 have HL := zz hlen
 have HF0 := zz (Fx.refl N W w)
 clear hw hlen
 go_enter Tryz.func136, Tryz.ntmps136
 go_wp2_with fail
 obtain ⟨w1, hw1, HB, HXb, hs1⟩ := jb w f (.slice (some ⟨bv, ov, none⟩) (r.length + 1) cv)
 rw [hw1]
 clear hw1
 obtain ⟨hz1, HF1, HW1⟩ := stb hNw HF0 HW0 HB
 clear HF0 HW0
 have hnb : w.heap.size ≠ W := by have := HF1.out.size; omega
 clear HB
 refine (ahead_is (f := f) (a := a) hlv hcv (by have := HN.out bv hbv; have := HF1.out.size; omega) (HCa.out.agree (Agree.of_below HF1.out.below HN.out) hbv) ⟨_, _, _, rfl⟩).mono ?_
 rintro e w2 ⟨rfl, b⟩
 have hz2 := Fx.size (Fx.of_below (N := N) (W := W) b (by have := HF1.out.size; omega))
 have HF2 := zz (HF1.out.trans (Fx.of_below (N := N) (W := W) b (by have := HF1.out.size; omega)))
 have HW2 := zz (HW1.out.below b)
 replace HXb := zz (HXb.out.fx (Fx.of_below (N := N) (W := W) b (by have := HF1.out.size; omega)) hnb)
 clear HF1 HW1
 clear b
 go_wp2_with fail
 obtain ⟨w3, hw3, HB, HXk, hs3⟩ := jb w2 a.f (.slice Aa a.ks.length ca)
 rw [hw3]
 clear hw3
 obtain ⟨hz3, HF3, HW3⟩ := stb hNw HF2 HW2 HB
 replace HXb := zz (HXb.out.fx (Fx.of_below (N := N) (W := W) HB.out (by have := HF2.out.size; omega)) hnb)
 clear HF2 HW2
 have hnk : w2.heap.size ≠ W := by have := HF3.out.size; omega
 clear HB
 refine (indent_is (N := N) (W := W) (d := d) (by omega) _ HW3.out (by have h := HL.out; rw [HX0.out] at h; (try simp only [List.length_append] at h |-); omega)).mono ?_
 rintro e w4 ⟨rfl, fx, wr⟩
 obtain ⟨hz4, HF4, HW4⟩ := stf HF3 fx wr
 replace HXb := fxx HXb fx hnb
 replace HXk := fxx HXk fx hnk
 clear HF3 HW3 fx wr
 have b0 := HXb.out.cell
 go_wp2_with fail
 refine (kDef_is (f := f) (b := false) HD.out _).mono ?_
 rintro e w5 ⟨rfl, b⟩
 have hz5 := Fx.size (Fx.of_below (N := N) (W := W) b (by have := HF4.out.size; omega))
 have HF5 := zz (HF4.out.trans (Fx.of_below (N := N) (W := W) b (by have := HF4.out.size; omega)))
 have HW5 := zz (HW4.out.below b)
 replace HXb := zz (HXb.out.fx (Fx.of_below (N := N) (W := W) b (by have := HF4.out.size; omega)) hnb)
 replace HXk := zz (HXk.out.fx (Fx.of_below (N := N) (W := W) b (by have := HF4.out.size; omega)) hnk)
 clear HF4 HW4 b0
 clear b
 have b0 := HXb.out.cell
 go_wp2_with fail
 refine (zc (x := [99, 97, 115, 101, 32]) [⟨#[99, 97, 115, 101, 32]⟩] (by simp [fl]) (by simp) (by omega) rfl rfl HW5.out (by have h := HL.out; rw [HX0.out] at h; (try simp only [List.length_append] at h |-); omega)).mono ?_
 rintro e w6 ⟨rfl, fx, wr⟩
 obtain ⟨hz6, HF6, HW6⟩ := stf HF5 fx wr
 replace HXb := fxx HXb fx hnb
 replace HXk := fxx HXk fx hnk
 clear HF5 HW5 b0
 clear fx wr
 go_wp2_with fail
 refine (parted_expr (N := N) (W := W) (tb := (d : Int)) (m := m) (S := S) rfl HR.out (Lst.init hcv hlv hbv (HRr.out.agree (Agree.of_below HF6.out.below HN.out) hbv)) HN.out (HT.out.below HF6.out.below) _ HW6.out (by have h := HL.out; rw [HX0.out] at h; (try simp only [List.length_append] at h |-); omega)).mono ?_
 rintro e w7 ⟨rfl, fx, wr⟩
 obtain ⟨hz7, HF7, HW7⟩ := stf HF6 fx wr
 replace HXb := fxx HXb fx hnb
 replace HXk := fxx HXk fx hnk
 clear HF6 HW6 fx wr
 go_wp2_with fail
 refine (zc (x := [58, 10]) [⟨#[58, 10]⟩] (by simp [fl]) (by simp) (by omega) rfl rfl HW7.out (by have h := HL.out; rw [HX0.out] at h; (try simp only [List.length_append] at h |-); omega)).mono ?_
 rintro e w8 ⟨rfl, fx, wr⟩
 obtain ⟨hz8, HF8, HW8⟩ := stf HF7 fx wr
 replace HXb := fxx HXb fx hnb
 replace HXk := fxx HXk fx hnk
 clear HF7 HW7 fx wr
 have k0 := HXk.out.cell
 go_wp2_with fail
 refine (hI (N := N) (W := W) (w := w8) (m := m) (S := S) (HKa.out.below HF8.out.below HN.out) HN.out (HT.out.below HF8.out.below) _ HW8.out (by have h := HL.out; rw [HX0.out] at h; (try simp only [List.length_append] at h |-); omega)).mono ?_
 rintro e w9 ⟨rfl, fx, wr⟩
 obtain ⟨hz9, HF9, HW9⟩ := stf HF8 fx wr
 replace HXb := fxx HXb fx hnb
 replace HXk := fxx HXk fx hnk
 clear HF8 HW8 k0
 clear fx wr
 go_wp2
 go_end0
 exact ⟨rfl, HF9.out, by rw [HX0.out]; first | exact HW9.out | simpa only [List.append_assoc] using HW9.out⟩
end Go.Proofs.YtmdhjiammcpogaaGreatDoor
