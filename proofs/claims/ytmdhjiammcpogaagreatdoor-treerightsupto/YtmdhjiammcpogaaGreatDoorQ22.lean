import Derived.Test.YtmdhjiammcpogaaGreatDoorQ21
namespace Go.Proofs.YtmdhjiammcpogaaGreatDoor
set_option maxRecDepth 100000
set_option maxHeartbeats 16000000
open Go.RowKit
variable {A : Option Addr} {N W c d : Nat} {S : Nat -> Prop} {a : Tr} {f : Nd} {m : Md} {tb : Int} {v : Value} {w : World} {x : List UInt8}
def PutB (t : Tr) (d : Nat) : Prop := ∀ {N W : Nat} {w : World} {v : Value} {m : Md} {S : Nat -> Prop}, Kids w m S v t.ks -> (∀ i, S i -> i < N) -> TabN N w -> Puts N W (d : Int) (tx t d false) 34 #[.pointer (some ⟨W, 0, none⟩), nv t.f v] w
theorem Kids.four4 {c e g : Tr} (h : Kids w m S v [a, c, e, g]) : ∃ bv ov cv, v = .slice (some ⟨bv, ov, none⟩) 4 cv /\ 4 <= cv /\ S bv /\ NodeAt w m S bv ov a /\ NodeAt w m S bv (ov + 8) c /\ NodeAt w m S bv (ov + 16) e /\ NodeAt w m S bv (ov + 24) g := by
 obtain ⟨b, o, ⟨hh, _⟩, hr⟩ := h
 rcases hh with ⟨h0, _⟩ | ⟨_, h2, _, c, hn, e⟩
 ·simp at h0
 ·exact ⟨b, o, c, e, hn.2, h2, hr.1, hr.2.1, hr.2.2.1, hr.2.2.2.1⟩
theorem variable_0 (hx : x = [118, 97, 114, 32] ++ bs f.t ++ [32] ++ bs f.y) :
 Puts N W tb x 111 #[.pointer (some ⟨W, 0, none⟩), nv f (.slice A 0 c)] w := by
 unfold nv
 intro acc hw hlen
 have HW0 := zz hw
 have hWl := hw.lt
 have hNw := hw.nle
 have HX0 := zz (show x = [118, 97, 114, 32] ++ bs f.t ++ [32] ++ bs f.y from hx)
 have HL := zz hlen
 have HF0 := zz (Fx.refl N W w)
 clear hw hlen
 go_enter Tryz.func111, Tryz.ntmps111
 go_wp2_with fail
 obtain ⟨w1, hw1, HB, HXb, hs1⟩ := jb w f (.slice A 0 c)
 rw [hw1]
 clear hw1
 obtain ⟨hz1, HF1, HW1⟩ := stb hNw HF0 HW0 HB
 clear HF0 HW0
 have hnb : w.heap.size ≠ W := by have := HF1.out.size; omega
 clear HB
 refine (zc (x := [118, 97, 114, 32] ++ bs f.t ++ [32] ++ bs f.y) [⟨#[118, 97, 114, 32]⟩, f.t, ⟨#[32]⟩, f.y] (by simp [fl]) (by simp) (by omega) rfl rfl HW1.out (by have h := HL.out; rw [HX0.out] at h; (try simp only [List.length_append] at h |-); omega)).mono ?_
 rintro e w2 ⟨rfl, fx, wr⟩
 obtain ⟨hz2, HF2, HW2⟩ := stf HF1 fx wr
 replace HXb := fxx HXb fx hnb
 clear HF1 HW1 fx wr
 have b0 := HXb.out.cell
 go_wp2
 go_end0
 exact ⟨rfl, HF2.out, by rw [HX0.out]; first | exact HW2.out | simpa only [List.append_assoc] using HW2.out⟩
theorem variable_1 (hx : x = [118, 97, 114, 32] ++ bs f.t ++ [32] ++ bs f.y ++ [32, 61, 32] ++ te a) (hA : PutE a) (hK : Kids w m S v [a]) (hN : ∀ i, S i -> i < N) (hT : TabN N w) :
 Puts N W tb x 111 #[.pointer (some ⟨W, 0, none⟩), nv f v] w := by
 have HN := zz hN
 have HT := zz hT
 clear hN hT
 obtain ⟨bv, ov, cv, rfl, hcv, hbv, hn_a⟩ := hK.one1
 obtain ⟨va, HCa, HKa⟩ := hn_a.cs
 obtain ⟨Aa, ca, ba, oa, rfl, h1_, h2_, h3_⟩ := HKa.out.form
 clear h1_ h2_ h3_
 clear hK hn_a
 unfold nv
 intro acc hw hlen
 have HW0 := zz hw
 have hWl := hw.lt
 have hNw := hw.nle
 have HX0 := zz (show x = [118, 97, 114, 32] ++ bs f.t ++ [32] ++ bs f.y ++ [32, 61, 32] ++ te a from hx)
 have HL := zz hlen
 have HF0 := zz (Fx.refl N W w)
 clear hw hlen
 go_enter Tryz.func111, Tryz.ntmps111
 go_wp2_with fail
 obtain ⟨w1, hw1, HB, HXb, hs1⟩ := jb w f (.slice (some ⟨bv, ov, none⟩) 1 cv)
 rw [hw1]
 clear hw1
 obtain ⟨hz1, HF1, HW1⟩ := stb hNw HF0 HW0 HB
 clear HF0 HW0
 have hnb : w.heap.size ≠ W := by have := HF1.out.size; omega
 clear HB
 refine (zc (x := [118, 97, 114, 32] ++ bs f.t ++ [32] ++ bs f.y) [⟨#[118, 97, 114, 32]⟩, f.t, ⟨#[32]⟩, f.y] (by simp [fl]) (by simp) (by omega) rfl rfl HW1.out (by have h := HL.out; rw [HX0.out] at h; (try simp only [List.length_append] at h |-); omega)).mono ?_
 rintro e w2 ⟨rfl, fx, wr⟩
 obtain ⟨hz2, HF2, HW2⟩ := stf HF1 fx wr
 replace HXb := fxx HXb fx hnb
 clear HF1 HW1 fx wr
 have b0 := HXb.out.cell
 go_wp2_with fail
 refine (zc (x := [32, 61, 32]) [⟨#[32, 61, 32]⟩] (by simp [fl]) (by simp) (by omega) rfl rfl HW2.out (by have h := HL.out; rw [HX0.out] at h; (try simp only [List.length_append] at h |-); omega)).mono ?_
 rintro e w3 ⟨rfl, fx, wr⟩
 obtain ⟨hz3, HF3, HW3⟩ := stf HF2 fx wr
 replace HXb := fxx HXb fx hnb
 clear HF2 HW2 b0
 clear fx wr
 have b0 := HXb.out.cell
 have a0 := (HCa.out.agree (Agree.of_below HF3.out.below HN.out) hbv).cell
 go_wp2_with fail
 refine (hA (N := N) (W := W) (tb := tb) (w := w3) (m := m) (S := S) (HKa.out.below HF3.out.below HN.out) HN.out (HT.out.below HF3.out.below) _ HW3.out (by have h := HL.out; rw [HX0.out] at h; (try simp only [List.length_append] at h |-); omega)).mono ?_
 rintro e w4 ⟨rfl, fx, wr⟩
 obtain ⟨hz4, HF4, HW4⟩ := stf HF3 fx wr
 replace HXb := fxx HXb fx hnb
 clear HF3 HW3 b0 a0
 clear fx wr
 go_wp2
 go_end0
 exact ⟨rfl, HF4.out, by rw [HX0.out]; first | exact HW4.out | simpa only [List.append_assoc] using HW4.out⟩
theorem result_0 (hx : x = [114, 101, 116, 117, 114, 110]) :
 Puts N W tb x 116 #[.pointer (some ⟨W, 0, none⟩), nv f (.slice A 0 c)] w := by
 unfold nv
 intro acc hw hlen
 have HW0 := zz hw
 have hWl := hw.lt
 have hNw := hw.nle
 have HX0 := zz (show x = [114, 101, 116, 117, 114, 110] from hx)
 have HL := zz hlen
 have HF0 := zz (Fx.refl N W w)
 clear hw hlen
 go_enter Tryz.func116, Tryz.ntmps116
 go_wp2_with fail
 obtain ⟨w1, hw1, HB, HXb, hs1⟩ := jb w f (.slice A 0 c)
 rw [hw1]
 clear hw1
 obtain ⟨hz1, HF1, HW1⟩ := stb hNw HF0 HW0 HB
 clear HF0 HW0
 have hnb : w.heap.size ≠ W := by have := HF1.out.size; omega
 clear HB
 refine (zc (x := [114, 101, 116, 117, 114, 110]) [⟨#[114, 101, 116, 117, 114, 110]⟩] (by simp [fl]) (by simp) (by omega) rfl rfl HW1.out (by have h := HL.out; rw [HX0.out] at h; (try simp only [List.length_append] at h |-); omega)).mono ?_
 rintro e w2 ⟨rfl, fx, wr⟩
 obtain ⟨hz2, HF2, HW2⟩ := stf HF1 fx wr
 replace HXb := fxx HXb fx hnb
 clear HF1 HW1 fx wr
 have b0 := HXb.out.cell
 go_wp2
 go_end0
 exact ⟨rfl, HF2.out, by rw [HX0.out]; first | exact HW2.out | simpa only [List.append_assoc] using HW2.out⟩
theorem result_1 (hx : x = [114, 101, 116, 117, 114, 110] ++ [32] ++ te a) (hA : PutE a) (hK : Kids w m S v [a]) (hN : ∀ i, S i -> i < N) (hT : TabN N w) :
 Puts N W tb x 116 #[.pointer (some ⟨W, 0, none⟩), nv f v] w := by
 have HN := zz hN
 have HT := zz hT
 clear hN hT
 obtain ⟨bv, ov, cv, rfl, hcv, hbv, hn_a⟩ := hK.one1
 obtain ⟨va, HCa, HKa⟩ := hn_a.cs
 obtain ⟨Aa, ca, ba, oa, rfl, h1_, h2_, h3_⟩ := HKa.out.form
 clear h1_ h2_ h3_
 clear hK hn_a
 unfold nv
 intro acc hw hlen
 have HW0 := zz hw
 have hWl := hw.lt
 have hNw := hw.nle
 have HX0 := zz (show x = [114, 101, 116, 117, 114, 110] ++ [32] ++ te a from hx)
 have HL := zz hlen
 have HF0 := zz (Fx.refl N W w)
 clear hw hlen
 go_enter Tryz.func116, Tryz.ntmps116
 go_wp2_with fail
 obtain ⟨w1, hw1, HB, HXb, hs1⟩ := jb w f (.slice (some ⟨bv, ov, none⟩) 1 cv)
 rw [hw1]
 clear hw1
 obtain ⟨hz1, HF1, HW1⟩ := stb hNw HF0 HW0 HB
 clear HF0 HW0
 have hnb : w.heap.size ≠ W := by have := HF1.out.size; omega
 clear HB
 refine (zc (x := [114, 101, 116, 117, 114, 110]) [⟨#[114, 101, 116, 117, 114, 110]⟩] (by simp [fl]) (by simp) (by omega) rfl rfl HW1.out (by have h := HL.out; rw [HX0.out] at h; (try simp only [List.length_append] at h |-); omega)).mono ?_
 rintro e w2 ⟨rfl, fx, wr⟩
 obtain ⟨hz2, HF2, HW2⟩ := stf HF1 fx wr
 replace HXb := fxx HXb fx hnb
 clear HF1 HW1 fx wr
 have b0 := HXb.out.cell
 go_wp2_with fail
 refine (zc (x := [32]) [⟨#[32]⟩] (by simp [fl]) (by simp) (by omega) rfl rfl HW2.out (by have h := HL.out; rw [HX0.out] at h; (try simp only [List.length_append] at h |-); omega)).mono ?_
 rintro e w3 ⟨rfl, fx, wr⟩
 obtain ⟨hz3, HF3, HW3⟩ := stf HF2 fx wr
 replace HXb := fxx HXb fx hnb
 clear HF2 HW2 b0
 clear fx wr
 have b0 := HXb.out.cell
 have a0 := (HCa.out.agree (Agree.of_below HF3.out.below HN.out) hbv).cell
 go_wp2_with fail
 refine (hA (N := N) (W := W) (tb := tb) (w := w3) (m := m) (S := S) (HKa.out.below HF3.out.below HN.out) HN.out (HT.out.below HF3.out.below) _ HW3.out (by have h := HL.out; rw [HX0.out] at h; (try simp only [List.length_append] at h |-); omega)).mono ?_
 rintro e w4 ⟨rfl, fx, wr⟩
 obtain ⟨hz4, HF4, HW4⟩ := stf HF3 fx wr
 replace HXb := fxx HXb fx hnb
 clear HF3 HW3 b0 a0
 clear fx wr
 go_wp2
 go_end0
 exact ⟨rfl, HF4.out, by rw [HX0.out]; first | exact HW4.out | simpa only [List.append_assoc] using HW4.out⟩
theorem choice_2 {c : Tr} (hx : x = [105, 102, 32] ++ te a ++ [32] ++ tx c d false) (hA : PutE a) (hC : PutB c d) (hK : Kids w m S v [a, c]) (hN : ∀ i, S i -> i < N) (hT : TabN N w) :
 Puts N W (d : Int) x 112 #[.pointer (some ⟨W, 0, none⟩), nv f v] w := by
 have HN := zz hN
 have HT := zz hT
 clear hN hT
 obtain ⟨bv, ov, cv, rfl, hcv, hbv, hn_a, hn_c⟩ := hK.two2
 obtain ⟨va, HCa, HKa⟩ := hn_a.cs
 obtain ⟨Aa, ca, ba, oa, rfl, h1_, h2_, h3_⟩ := HKa.out.form
 clear h1_ h2_ h3_
 obtain ⟨vc, HCc, HKc⟩ := hn_c.cs
 obtain ⟨Ac, cc, bc, oc, rfl, h1_, h2_, h3_⟩ := HKc.out.form
 clear h1_ h2_ h3_
 clear hK hn_a hn_c
 unfold nv
 intro acc hw hlen
 have HW0 := zz hw
 have hWl := hw.lt
 have hNw := hw.nle
 have HX0 := zz (show x = [105, 102, 32] ++ te a ++ [32] ++ tx c d false from hx)
 have HL := zz hlen
 have HF0 := zz (Fx.refl N W w)
 clear hw hlen
 go_enter Tryz.func112, Tryz.ntmps112
 go_wp2_with fail
 obtain ⟨w1, hw1, HB, HXb, hs1⟩ := jb w f (.slice (some ⟨bv, ov, none⟩) 2 cv)
 rw [hw1]
 clear hw1
 obtain ⟨hz1, HF1, HW1⟩ := stb hNw HF0 HW0 HB
 clear HF0 HW0
 have hnb : w.heap.size ≠ W := by have := HF1.out.size; omega
 clear HB
 refine (zc (x := [105, 102, 32]) [⟨#[105, 102, 32]⟩] (by simp [fl]) (by simp) (by omega) rfl rfl HW1.out (by have h := HL.out; rw [HX0.out] at h; (try simp only [List.length_append] at h |-); omega)).mono ?_
 rintro e w2 ⟨rfl, fx, wr⟩
 obtain ⟨hz2, HF2, HW2⟩ := stf HF1 fx wr
 replace HXb := fxx HXb fx hnb
 clear HF1 HW1 fx wr
 have b0 := HXb.out.cell
 have a0 := (HCa.out.agree (Agree.of_below HF2.out.below HN.out) hbv).cell
 go_wp2_with fail
 refine (hA (N := N) (W := W) (tb := (d : Int)) (w := w2) (m := m) (S := S) (HKa.out.below HF2.out.below HN.out) HN.out (HT.out.below HF2.out.below) _ HW2.out (by have h := HL.out; rw [HX0.out] at h; (try simp only [List.length_append] at h |-); omega)).mono ?_
 rintro e w3 ⟨rfl, fx, wr⟩
 obtain ⟨hz3, HF3, HW3⟩ := stf HF2 fx wr
 replace HXb := fxx HXb fx hnb
 clear HF2 HW2 b0 a0
 clear fx wr
 go_wp2_with fail
 refine (zc (x := [32]) [⟨#[32]⟩] (by simp [fl]) (by simp) (by omega) rfl rfl HW3.out (by have h := HL.out; rw [HX0.out] at h; (try simp only [List.length_append] at h |-); omega)).mono ?_
 rintro e w4 ⟨rfl, fx, wr⟩
 obtain ⟨hz4, HF4, HW4⟩ := stf HF3 fx wr
 replace HXb := fxx HXb fx hnb
 clear HF3 HW3 fx wr
 have b0 := HXb.out.cell
 have c0 := (HCc.out.agree (Agree.of_below HF4.out.below HN.out) hbv).cell
 go_wp2_with fail
 refine (hC (N := N) (W := W) (w := w4) (m := m) (S := S) (HKc.out.below HF4.out.below HN.out) HN.out (HT.out.below HF4.out.below) _ HW4.out (by have h := HL.out; rw [HX0.out] at h; (try simp only [List.length_append] at h |-); omega)).mono ?_
 rintro e w5 ⟨rfl, fx, wr⟩
 obtain ⟨hz5, HF5, HW5⟩ := stf HF4 fx wr
 replace HXb := fxx HXb fx hnb
 clear HF4 HW4 b0 c0
 clear fx wr
 have b0 := HXb.out.cell
 go_wp2
 go_end0
 exact ⟨rfl, HF5.out, by rw [HX0.out]; first | exact HW5.out | simpa only [List.append_assoc] using HW5.out⟩
theorem choice_3 {c e : Tr} (hx : x = [105, 102, 32] ++ te a ++ [32] ++ tx c d false ++ [32, 101, 108, 115, 101, 32] ++ tx e d false) (hA : PutE a) (hC : PutB c d) (hE : PutS e d) (hK : Kids w m S v [a, c, e]) (hN : ∀ i, S i -> i < N) (hT : TabN N w) :
 Puts N W (d : Int) x 112 #[.pointer (some ⟨W, 0, none⟩), nv f v] w := by
 have HN := zz hN
 have HT := zz hT
 clear hN hT
 obtain ⟨bv, ov, cv, rfl, hcv, hbv, hn_a, hn_c, hn_e⟩ := hK.three3
 obtain ⟨va, HCa, HKa⟩ := hn_a.cs
 obtain ⟨Aa, ca, ba, oa, rfl, h1_, h2_, h3_⟩ := HKa.out.form
 clear h1_ h2_ h3_
 obtain ⟨vc, HCc, HKc⟩ := hn_c.cs
 obtain ⟨Ac, cc, bc, oc, rfl, h1_, h2_, h3_⟩ := HKc.out.form
 clear h1_ h2_ h3_
 obtain ⟨ve, HCe, HKe⟩ := hn_e.cs
 obtain ⟨Ae, ce, be, oe, rfl, h1_, h2_, h3_⟩ := HKe.out.form
 clear h1_ h2_ h3_
 clear hK hn_a hn_c hn_e
 unfold nv
 intro acc hw hlen
 have HW0 := zz hw
 have hWl := hw.lt
 have hNw := hw.nle
 have HX0 := zz (show x = [105, 102, 32] ++ te a ++ [32] ++ tx c d false ++ [32, 101, 108, 115, 101, 32] ++ tx e d false from hx)
 have HL := zz hlen
 have HF0 := zz (Fx.refl N W w)
 clear hw hlen
 go_enter Tryz.func112, Tryz.ntmps112
 go_wp2_with fail
 obtain ⟨w1, hw1, HB, HXb, hs1⟩ := jb w f (.slice (some ⟨bv, ov, none⟩) 3 cv)
 rw [hw1]
 clear hw1
 obtain ⟨hz1, HF1, HW1⟩ := stb hNw HF0 HW0 HB
 clear HF0 HW0
 have hnb : w.heap.size ≠ W := by have := HF1.out.size; omega
 clear HB
 refine (zc (x := [105, 102, 32]) [⟨#[105, 102, 32]⟩] (by simp [fl]) (by simp) (by omega) rfl rfl HW1.out (by have h := HL.out; rw [HX0.out] at h; (try simp only [List.length_append] at h |-); omega)).mono ?_
 rintro e w2 ⟨rfl, fx, wr⟩
 obtain ⟨hz2, HF2, HW2⟩ := stf HF1 fx wr
 replace HXb := fxx HXb fx hnb
 clear HF1 HW1 fx wr
 have b0 := HXb.out.cell
 have a0 := (HCa.out.agree (Agree.of_below HF2.out.below HN.out) hbv).cell
 go_wp2_with fail
 refine (hA (N := N) (W := W) (tb := (d : Int)) (w := w2) (m := m) (S := S) (HKa.out.below HF2.out.below HN.out) HN.out (HT.out.below HF2.out.below) _ HW2.out (by have h := HL.out; rw [HX0.out] at h; (try simp only [List.length_append] at h |-); omega)).mono ?_
 rintro e w3 ⟨rfl, fx, wr⟩
 obtain ⟨hz3, HF3, HW3⟩ := stf HF2 fx wr
 replace HXb := fxx HXb fx hnb
 clear HF2 HW2 b0 a0
 clear fx wr
 go_wp2_with fail
 refine (zc (x := [32]) [⟨#[32]⟩] (by simp [fl]) (by simp) (by omega) rfl rfl HW3.out (by have h := HL.out; rw [HX0.out] at h; (try simp only [List.length_append] at h |-); omega)).mono ?_
 rintro e w4 ⟨rfl, fx, wr⟩
 obtain ⟨hz4, HF4, HW4⟩ := stf HF3 fx wr
 replace HXb := fxx HXb fx hnb
 clear HF3 HW3 fx wr
 have b0 := HXb.out.cell
 have c0 := (HCc.out.agree (Agree.of_below HF4.out.below HN.out) hbv).cell
 go_wp2_with fail
 refine (hC (N := N) (W := W) (w := w4) (m := m) (S := S) (HKc.out.below HF4.out.below HN.out) HN.out (HT.out.below HF4.out.below) _ HW4.out (by have h := HL.out; rw [HX0.out] at h; (try simp only [List.length_append] at h |-); omega)).mono ?_
 rintro e w5 ⟨rfl, fx, wr⟩
 obtain ⟨hz5, HF5, HW5⟩ := stf HF4 fx wr
 replace HXb := fxx HXb fx hnb
 clear HF4 HW4 b0 c0
 clear fx wr
 have b0 := HXb.out.cell
 go_wp2_with fail
 refine (zc (x := [32, 101, 108, 115, 101, 32]) [⟨#[32, 101, 108, 115, 101, 32]⟩] (by simp [fl]) (by simp) (by omega) rfl rfl HW5.out (by have h := HL.out; rw [HX0.out] at h; (try simp only [List.length_append] at h |-); omega)).mono ?_
 rintro e w6 ⟨rfl, fx, wr⟩
 obtain ⟨hz6, HF6, HW6⟩ := stf HF5 fx wr
 replace HXb := fxx HXb fx hnb
 clear HF5 HW5 b0
 clear fx wr
 have b0 := HXb.out.cell
 have e0 := (HCe.out.agree (Agree.of_below HF6.out.below HN.out) hbv).cell
 go_wp2_with fail
 refine (hE (N := N) (W := W) (w := w6) (m := m) (S := S) (HKe.out.below HF6.out.below HN.out) HN.out (HT.out.below HF6.out.below) _ HW6.out (by have h := HL.out; rw [HX0.out] at h; (try simp only [List.length_append] at h |-); omega)).mono ?_
 rintro e w7 ⟨rfl, fx, wr⟩
 obtain ⟨hz7, HF7, HW7⟩ := stf HF6 fx wr
 replace HXb := fxx HXb fx hnb
 clear HF6 HW6 b0 e0
 clear fx wr
 go_wp2
 go_end0
 exact ⟨rfl, HF7.out, by rw [HX0.out]; first | exact HW7.out | simpa only [List.append_assoc] using HW7.out⟩
theorem three_is {g c x : Tr} {bv ov cv : Nat} {y : List UInt8} (hy : y = three g c x) (hS : PutM g) (hC : ¬ c.f.k = 0 -> PutE c) (hX : ¬ x.f.k = 0 -> PutM x) (hbv : S bv) (hg : NodeAt w m S bv ov g) (hc : NodeAt w m S bv (ov + 8) c) (hx : NodeAt w m S bv (ov + 16) x) (hN : ∀ i, S i -> i < N) (hT : TabN N w) :
 Puts N W tb y 134 #[.pointer (some ⟨W, 0, none⟩), .slice (some ⟨bv, ov, none⟩) 3 cv] w := by
 have HN := zz hN
 have HT := zz hT
 clear hN hT
 obtain ⟨vg, HCg, HKg⟩ := hg.cs
 obtain ⟨Ag, cg, bg, og, rfl, h1_, h2_, h3_⟩ := HKg.out.form
 clear h1_ h2_ h3_
 obtain ⟨vc, HCc, HKc⟩ := hc.cs
 obtain ⟨Ac, cc, bc, oc, rfl, h1_, h2_, h3_⟩ := HKc.out.form
 clear h1_ h2_ h3_
 obtain ⟨vx, HCx, HKx⟩ := hx.cs
 obtain ⟨Ax, cx, bx, ox, rfl, h1_, h2_, h3_⟩ := HKx.out.form
 clear h1_ h2_ h3_
 clear hg hc hx
 unfold three at hy
 by_cases h0 : c.f.k = 0
 ·by_cases h1 : x.f.k = 0
  ·replace hy : y = te g ++ [59] ++ [59] := by rw [hy, if_pos h0, if_pos h1]; simp
   have HC0 := zz (show kNone c.f = true by unfold kNone; rw [h0]; rfl)
   have HX1 := zz (show kNone x.f = true by unfold kNone; rw [h1]; rfl)
   clear hC
   clear hX
   clear h0 h1
   intro acc hw hlen
   have HW0 := zz hw
   have hWl := hw.lt
   have hNw := hw.nle
   have HX0 := zz (show y = te g ++ [59] ++ [59] from hy)
   have HL := zz hlen
   have HF0 := zz (Fx.refl N W w)
   clear hw hlen
   have g0 := HCg.out.cell
   go_enter Tryz.func134, Tryz.ntmps134
   go_wp2_with fail
   refine (hS (N := N) (W := W) (tb := tb) (w := w) (m := m) (S := S) (HKg.out.below HF0.out.below HN.out) HN.out (HT.out.below HF0.out.below) _ HW0.out (by have h := HL.out; rw [HX0.out] at h; (try simp only [List.length_append] at h |-); omega)).mono ?_
   rintro e w1 ⟨rfl, fx, wr⟩
   obtain ⟨hz1, HF1, HW1⟩ := stf HF0 fx wr
   clear HF0 HW0 g0
   clear fx wr
   go_wp2_with fail
   refine (zc (x := [59]) [⟨#[59]⟩] (by simp [fl]) (by simp) (by omega) rfl rfl HW1.out (by have h := HL.out; rw [HX0.out] at h; (try simp only [List.length_append] at h |-); omega)).mono ?_
   rintro e w2 ⟨rfl, fx, wr⟩
   obtain ⟨hz2, HF2, HW2⟩ := stf HF1 fx wr
   clear HF1 HW1 fx wr
   have c0 := (HCc.out.agree (Agree.of_below HF2.out.below HN.out) hbv).cell
   go_wp2_with fail
   refine (kNone_is (f := c.f) (b := true) HC0.out _).mono ?_
   rintro e w3 ⟨rfl, b⟩
   have hz3 := Fx.size (Fx.of_below (N := N) (W := W) b (by have := HF2.out.size; omega))
   have HF3 := zz (HF2.out.trans (Fx.of_below (N := N) (W := W) b (by have := HF2.out.size; omega)))
   have HW3 := zz (HW2.out.below b)
   clear HF2 HW2 c0
   clear b
   go_wp2_with fail
   refine (zc (x := [59]) [⟨#[59]⟩] (by simp [fl]) (by simp) (by omega) rfl rfl HW3.out (by have h := HL.out; rw [HX0.out] at h; (try simp only [List.length_append] at h |-); omega)).mono ?_
   rintro e w4 ⟨rfl, fx, wr⟩
   obtain ⟨hz4, HF4, HW4⟩ := stf HF3 fx wr
   clear HF3 HW3 fx wr
   have x0 := (HCx.out.agree (Agree.of_below HF4.out.below HN.out) hbv).cell
   go_wp2_with fail
   refine (kNone_is (f := x.f) (b := true) HX1.out _).mono ?_
   rintro e w5 ⟨rfl, b⟩
   have hz5 := Fx.size (Fx.of_below (N := N) (W := W) b (by have := HF4.out.size; omega))
   have HF5 := zz (HF4.out.trans (Fx.of_below (N := N) (W := W) b (by have := HF4.out.size; omega)))
   have HW5 := zz (HW4.out.below b)
   clear HF4 HW4 x0
   clear b
   go_wp2
   go_end0
   exact ⟨rfl, HF5.out, by rw [HX0.out]; first | exact HW5.out | simpa only [List.append_assoc] using HW5.out⟩
  ·replace hy : y = te g ++ [59] ++ [59] ++ [32] ++ te x := by rw [hy, if_pos h0, if_neg h1]; simp
   have HC0 := zz (show kNone c.f = true by unfold kNone; rw [h0]; rfl)
   have HX1 := zz (show kNone x.f = false by unfold kNone; exact beq_false_of_ne h1)
   clear hC
   replace hX : PutM x := hX h1
   clear h0 h1
   intro acc hw hlen
   have HW0 := zz hw
   have hWl := hw.lt
   have hNw := hw.nle
   have HX0 := zz (show y = te g ++ [59] ++ [59] ++ [32] ++ te x from hy)
   have HL := zz hlen
   have HF0 := zz (Fx.refl N W w)
   clear hw hlen
   have g0 := HCg.out.cell
   go_enter Tryz.func134, Tryz.ntmps134
   go_wp2_with fail
   refine (hS (N := N) (W := W) (tb := tb) (w := w) (m := m) (S := S) (HKg.out.below HF0.out.below HN.out) HN.out (HT.out.below HF0.out.below) _ HW0.out (by have h := HL.out; rw [HX0.out] at h; (try simp only [List.length_append] at h |-); omega)).mono ?_
   rintro e w1 ⟨rfl, fx, wr⟩
   obtain ⟨hz1, HF1, HW1⟩ := stf HF0 fx wr
   clear HF0 HW0 g0
   clear fx wr
   go_wp2_with fail
   refine (zc (x := [59]) [⟨#[59]⟩] (by simp [fl]) (by simp) (by omega) rfl rfl HW1.out (by have h := HL.out; rw [HX0.out] at h; (try simp only [List.length_append] at h |-); omega)).mono ?_
   rintro e w2 ⟨rfl, fx, wr⟩
   obtain ⟨hz2, HF2, HW2⟩ := stf HF1 fx wr
   clear HF1 HW1 fx wr
   have c0 := (HCc.out.agree (Agree.of_below HF2.out.below HN.out) hbv).cell
   go_wp2_with fail
   refine (kNone_is (f := c.f) (b := true) HC0.out _).mono ?_
   rintro e w3 ⟨rfl, b⟩
   have hz3 := Fx.size (Fx.of_below (N := N) (W := W) b (by have := HF2.out.size; omega))
   have HF3 := zz (HF2.out.trans (Fx.of_below (N := N) (W := W) b (by have := HF2.out.size; omega)))
   have HW3 := zz (HW2.out.below b)
   clear HF2 HW2 c0
   clear b
   go_wp2_with fail
   refine (zc (x := [59]) [⟨#[59]⟩] (by simp [fl]) (by simp) (by omega) rfl rfl HW3.out (by have h := HL.out; rw [HX0.out] at h; (try simp only [List.length_append] at h |-); omega)).mono ?_
   rintro e w4 ⟨rfl, fx, wr⟩
   obtain ⟨hz4, HF4, HW4⟩ := stf HF3 fx wr
   clear HF3 HW3 fx wr
   have x0 := (HCx.out.agree (Agree.of_below HF4.out.below HN.out) hbv).cell
   go_wp2_with fail
   refine (kNone_is (f := x.f) (b := false) HX1.out _).mono ?_
   rintro e w5 ⟨rfl, b⟩
   have hz5 := Fx.size (Fx.of_below (N := N) (W := W) b (by have := HF4.out.size; omega))
   have HF5 := zz (HF4.out.trans (Fx.of_below (N := N) (W := W) b (by have := HF4.out.size; omega)))
   have HW5 := zz (HW4.out.below b)
   clear HF4 HW4 x0
   clear b
   go_wp2_with fail
   refine (zc (x := [32]) [⟨#[32]⟩] (by simp [fl]) (by simp) (by omega) rfl rfl HW5.out (by have h := HL.out; rw [HX0.out] at h; (try simp only [List.length_append] at h |-); omega)).mono ?_
   rintro e w6 ⟨rfl, fx, wr⟩
   obtain ⟨hz6, HF6, HW6⟩ := stf HF5 fx wr
   clear HF5 HW5 fx wr
   have x0 := (HCx.out.agree (Agree.of_below HF6.out.below HN.out) hbv).cell
   go_wp2_with fail
   refine (hX (N := N) (W := W) (tb := tb) (w := w6) (m := m) (S := S) (HKx.out.below HF6.out.below HN.out) HN.out (HT.out.below HF6.out.below) _ HW6.out (by have h := HL.out; rw [HX0.out] at h; (try simp only [List.length_append] at h |-); omega)).mono ?_
   rintro e w7 ⟨rfl, fx, wr⟩
   obtain ⟨hz7, HF7, HW7⟩ := stf HF6 fx wr
   clear HF6 HW6 x0
   clear fx wr
   go_wp2
   go_end0
   exact ⟨rfl, HF7.out, by rw [HX0.out]; first | exact HW7.out | simpa only [List.append_assoc] using HW7.out⟩
 ·by_cases h1 : x.f.k = 0
  ·replace hy : y = te g ++ [59] ++ [32] ++ te c ++ [59] := by rw [hy, if_neg h0, if_pos h1]; simp
   have HC0 := zz (show kNone c.f = false by unfold kNone; exact beq_false_of_ne h0)
   have HX1 := zz (show kNone x.f = true by unfold kNone; rw [h1]; rfl)
   replace hC : PutE c := hC h0
   clear hX
   clear h0 h1
   intro acc hw hlen
   have HW0 := zz hw
   have hWl := hw.lt
   have hNw := hw.nle
   have HX0 := zz (show y = te g ++ [59] ++ [32] ++ te c ++ [59] from hy)
   have HL := zz hlen
   have HF0 := zz (Fx.refl N W w)
   clear hw hlen
   have g0 := HCg.out.cell
   go_enter Tryz.func134, Tryz.ntmps134
   go_wp2_with fail
   refine (hS (N := N) (W := W) (tb := tb) (w := w) (m := m) (S := S) (HKg.out.below HF0.out.below HN.out) HN.out (HT.out.below HF0.out.below) _ HW0.out (by have h := HL.out; rw [HX0.out] at h; (try simp only [List.length_append] at h |-); omega)).mono ?_
   rintro e w1 ⟨rfl, fx, wr⟩
   obtain ⟨hz1, HF1, HW1⟩ := stf HF0 fx wr
   clear HF0 HW0 g0
   clear fx wr
   go_wp2_with fail
   refine (zc (x := [59]) [⟨#[59]⟩] (by simp [fl]) (by simp) (by omega) rfl rfl HW1.out (by have h := HL.out; rw [HX0.out] at h; (try simp only [List.length_append] at h |-); omega)).mono ?_
   rintro e w2 ⟨rfl, fx, wr⟩
   obtain ⟨hz2, HF2, HW2⟩ := stf HF1 fx wr
   clear HF1 HW1 fx wr
   have c0 := (HCc.out.agree (Agree.of_below HF2.out.below HN.out) hbv).cell
   go_wp2_with fail
   refine (kNone_is (f := c.f) (b := false) HC0.out _).mono ?_
   rintro e w3 ⟨rfl, b⟩
   have hz3 := Fx.size (Fx.of_below (N := N) (W := W) b (by have := HF2.out.size; omega))
   have HF3 := zz (HF2.out.trans (Fx.of_below (N := N) (W := W) b (by have := HF2.out.size; omega)))
   have HW3 := zz (HW2.out.below b)
   clear HF2 HW2 c0
   clear b
   go_wp2_with fail
   refine (zc (x := [32]) [⟨#[32]⟩] (by simp [fl]) (by simp) (by omega) rfl rfl HW3.out (by have h := HL.out; rw [HX0.out] at h; (try simp only [List.length_append] at h |-); omega)).mono ?_
   rintro e w4 ⟨rfl, fx, wr⟩
   obtain ⟨hz4, HF4, HW4⟩ := stf HF3 fx wr
   clear HF3 HW3 fx wr
   have c0 := (HCc.out.agree (Agree.of_below HF4.out.below HN.out) hbv).cell
   go_wp2_with fail
   refine (hC (N := N) (W := W) (tb := tb) (w := w4) (m := m) (S := S) (HKc.out.below HF4.out.below HN.out) HN.out (HT.out.below HF4.out.below) _ HW4.out (by have h := HL.out; rw [HX0.out] at h; (try simp only [List.length_append] at h |-); omega)).mono ?_
   rintro e w5 ⟨rfl, fx, wr⟩
   obtain ⟨hz5, HF5, HW5⟩ := stf HF4 fx wr
   clear HF4 HW4 c0
   clear fx wr
   go_wp2_with fail
   refine (zc (x := [59]) [⟨#[59]⟩] (by simp [fl]) (by simp) (by omega) rfl rfl HW5.out (by have h := HL.out; rw [HX0.out] at h; (try simp only [List.length_append] at h |-); omega)).mono ?_
   rintro e w6 ⟨rfl, fx, wr⟩
   obtain ⟨hz6, HF6, HW6⟩ := stf HF5 fx wr
   clear HF5 HW5 fx wr
   have x0 := (HCx.out.agree (Agree.of_below HF6.out.below HN.out) hbv).cell
   go_wp2_with fail
   refine (kNone_is (f := x.f) (b := true) HX1.out _).mono ?_
   rintro e w7 ⟨rfl, b⟩
   have hz7 := Fx.size (Fx.of_below (N := N) (W := W) b (by have := HF6.out.size; omega))
   have HF7 := zz (HF6.out.trans (Fx.of_below (N := N) (W := W) b (by have := HF6.out.size; omega)))
   have HW7 := zz (HW6.out.below b)
   clear HF6 HW6 x0
   clear b
   go_wp2
   go_end0
   exact ⟨rfl, HF7.out, by rw [HX0.out]; first | exact HW7.out | simpa only [List.append_assoc] using HW7.out⟩
  ·replace hy : y = te g ++ [59] ++ [32] ++ te c ++ [59] ++ [32] ++ te x := by rw [hy, if_neg h0, if_neg h1]; simp
   have HC0 := zz (show kNone c.f = false by unfold kNone; exact beq_false_of_ne h0)
   have HX1 := zz (show kNone x.f = false by unfold kNone; exact beq_false_of_ne h1)
   replace hC : PutE c := hC h0
   replace hX : PutM x := hX h1
   clear h0 h1
   intro acc hw hlen
   have HW0 := zz hw
   have hWl := hw.lt
   have hNw := hw.nle
   have HX0 := zz (show y = te g ++ [59] ++ [32] ++ te c ++ [59] ++ [32] ++ te x from hy)
   have HL := zz hlen
   have HF0 := zz (Fx.refl N W w)
   clear hw hlen
   have g0 := HCg.out.cell
   go_enter Tryz.func134, Tryz.ntmps134
   go_wp2_with fail
   refine (hS (N := N) (W := W) (tb := tb) (w := w) (m := m) (S := S) (HKg.out.below HF0.out.below HN.out) HN.out (HT.out.below HF0.out.below) _ HW0.out (by have h := HL.out; rw [HX0.out] at h; (try simp only [List.length_append] at h |-); omega)).mono ?_
   rintro e w1 ⟨rfl, fx, wr⟩
   obtain ⟨hz1, HF1, HW1⟩ := stf HF0 fx wr
   clear HF0 HW0 g0
   clear fx wr
   go_wp2_with fail
   refine (zc (x := [59]) [⟨#[59]⟩] (by simp [fl]) (by simp) (by omega) rfl rfl HW1.out (by have h := HL.out; rw [HX0.out] at h; (try simp only [List.length_append] at h |-); omega)).mono ?_
   rintro e w2 ⟨rfl, fx, wr⟩
   obtain ⟨hz2, HF2, HW2⟩ := stf HF1 fx wr
   clear HF1 HW1 fx wr
   have c0 := (HCc.out.agree (Agree.of_below HF2.out.below HN.out) hbv).cell
   go_wp2_with fail
   refine (kNone_is (f := c.f) (b := false) HC0.out _).mono ?_
   rintro e w3 ⟨rfl, b⟩
   have hz3 := Fx.size (Fx.of_below (N := N) (W := W) b (by have := HF2.out.size; omega))
   have HF3 := zz (HF2.out.trans (Fx.of_below (N := N) (W := W) b (by have := HF2.out.size; omega)))
   have HW3 := zz (HW2.out.below b)
   clear HF2 HW2 c0
   clear b
   go_wp2_with fail
   refine (zc (x := [32]) [⟨#[32]⟩] (by simp [fl]) (by simp) (by omega) rfl rfl HW3.out (by have h := HL.out; rw [HX0.out] at h; (try simp only [List.length_append] at h |-); omega)).mono ?_
   rintro e w4 ⟨rfl, fx, wr⟩
   obtain ⟨hz4, HF4, HW4⟩ := stf HF3 fx wr
   clear HF3 HW3 fx wr
   have c0 := (HCc.out.agree (Agree.of_below HF4.out.below HN.out) hbv).cell
   go_wp2_with fail
   refine (hC (N := N) (W := W) (tb := tb) (w := w4) (m := m) (S := S) (HKc.out.below HF4.out.below HN.out) HN.out (HT.out.below HF4.out.below) _ HW4.out (by have h := HL.out; rw [HX0.out] at h; (try simp only [List.length_append] at h |-); omega)).mono ?_
   rintro e w5 ⟨rfl, fx, wr⟩
   obtain ⟨hz5, HF5, HW5⟩ := stf HF4 fx wr
   clear HF4 HW4 c0
   clear fx wr
   go_wp2_with fail
   refine (zc (x := [59]) [⟨#[59]⟩] (by simp [fl]) (by simp) (by omega) rfl rfl HW5.out (by have h := HL.out; rw [HX0.out] at h; (try simp only [List.length_append] at h |-); omega)).mono ?_
   rintro e w6 ⟨rfl, fx, wr⟩
   obtain ⟨hz6, HF6, HW6⟩ := stf HF5 fx wr
   clear HF5 HW5 fx wr
   have x0 := (HCx.out.agree (Agree.of_below HF6.out.below HN.out) hbv).cell
   go_wp2_with fail
   refine (kNone_is (f := x.f) (b := false) HX1.out _).mono ?_
   rintro e w7 ⟨rfl, b⟩
   have hz7 := Fx.size (Fx.of_below (N := N) (W := W) b (by have := HF6.out.size; omega))
   have HF7 := zz (HF6.out.trans (Fx.of_below (N := N) (W := W) b (by have := HF6.out.size; omega)))
   have HW7 := zz (HW6.out.below b)
   clear HF6 HW6 x0
   clear b
   go_wp2_with fail
   refine (zc (x := [32]) [⟨#[32]⟩] (by simp [fl]) (by simp) (by omega) rfl rfl HW7.out (by have h := HL.out; rw [HX0.out] at h; (try simp only [List.length_append] at h |-); omega)).mono ?_
   rintro e w8 ⟨rfl, fx, wr⟩
   obtain ⟨hz8, HF8, HW8⟩ := stf HF7 fx wr
   clear HF7 HW7 fx wr
   have x0 := (HCx.out.agree (Agree.of_below HF8.out.below HN.out) hbv).cell
   go_wp2_with fail
   refine (hX (N := N) (W := W) (tb := tb) (w := w8) (m := m) (S := S) (HKx.out.below HF8.out.below HN.out) HN.out (HT.out.below HF8.out.below) _ HW8.out (by have h := HL.out; rw [HX0.out] at h; (try simp only [List.length_append] at h |-); omega)).mono ?_
   rintro e w9 ⟨rfl, fx, wr⟩
   obtain ⟨hz9, HF9, HW9⟩ := stf HF8 fx wr
   clear HF8 HW8 x0
   clear fx wr
   go_wp2
   go_end0
   exact ⟨rfl, HF9.out, by rw [HX0.out]; first | exact HW9.out | simpa only [List.append_assoc] using HW9.out⟩
theorem range_is {g c : Tr} {sg : ByteArray} {bv ov cv : Nat} {y : List UInt8} (hy : y = rngT (bs sg) g c) (hS : ¬ bs sg = [] -> PutE g) (hC : PutE c) (hbv : S bv) (hg : NodeAt w m S bv ov g) (hc : NodeAt w m S bv (ov + 8) c) (hN : ∀ i, S i -> i < N) (hT : TabN N w) :
 Puts N W tb y 135 #[.pointer (some ⟨W, 0, none⟩), .string sg, .slice (some ⟨bv, ov, none⟩) 2 cv] w := by
 have HN := zz hN
 have HT := zz hT
 clear hN hT
 obtain ⟨vg, HCg, HKg⟩ := hg.cs
 obtain ⟨Ag, cg, bg, og, rfl, h1_, h2_, h3_⟩ := HKg.out.form
 clear h1_ h2_ h3_
 obtain ⟨vc, HCc, HKc⟩ := hc.cs
 obtain ⟨Ac, cc, bc, oc, rfl, h1_, h2_, h3_⟩ := HKc.out.form
 clear h1_ h2_ h3_
 clear hg hc
 unfold rngT at hy
 by_cases h0 : bs sg = []
 ·replace hy : y = [114, 97, 110, 103, 101, 32] ++ te c := by rw [hy, if_pos h0, List.nil_append]
  have e0 : sg.toList = [] := by rw [ByteArray.toList_eq]; exact h0
  have e1 : sg.toList.isEmpty = true := by rw [e0]; rfl
  have e2 : sg = ByteArray.empty := ba_empty h0
  subst e2
  clear h0 hS e0 e1
  intro acc hw hlen
  have HW0 := zz hw
  have hWl := hw.lt
  have hNw := hw.nle
  have HX0 := zz (show y = [114, 97, 110, 103, 101, 32] ++ te c from hy)
  have HL := zz hlen
  have HF0 := zz (Fx.refl N W w)
  clear hw hlen
  have g0 := HCg.out.cell
  go_enter Tryz.func135, Tryz.ntmps135
  go_wp2_with fail
  refine (zc (x := [114, 97, 110, 103, 101, 32]) [⟨#[114, 97, 110, 103, 101, 32]⟩] (by simp [fl]) (by simp) (by omega) rfl rfl HW0.out (by have h := HL.out; rw [HX0.out] at h; (try simp only [List.length_append] at h |-); omega)).mono ?_
  rintro e w1 ⟨rfl, fx, wr⟩
  obtain ⟨hz1, HF1, HW1⟩ := stf HF0 fx wr
  clear HF0 HW0 g0
  clear fx wr
  have c0 := (HCc.out.agree (Agree.of_below HF1.out.below HN.out) hbv).cell
  go_wp2_with fail
  refine (hC (N := N) (W := W) (tb := tb) (w := w1) (m := m) (S := S) (HKc.out.below HF1.out.below HN.out) HN.out (HT.out.below HF1.out.below) _ HW1.out (by have h := HL.out; rw [HX0.out] at h; (try simp only [List.length_append] at h |-); omega)).mono ?_
  rintro e w2 ⟨rfl, fx, wr⟩
  obtain ⟨hz2, HF2, HW2⟩ := stf HF1 fx wr
  clear HF1 HW1 c0
  clear fx wr
  go_wp2
  go_end0
  exact ⟨rfl, HF2.out, by rw [HX0.out]; first | exact HW2.out | simpa only [List.append_assoc] using HW2.out⟩
 ·replace hy : y = te g ++ ([32] ++ bs sg ++ [32]) ++ [114, 97, 110, 103, 101, 32] ++ te c := by rw [hy, if_neg h0]; simp only [List.append_assoc]
  have e0 : ¬ sg.toList = [] := by rw [ByteArray.toList_eq]; exact h0
  have e1 : sg.toList.isEmpty = false := by cases ee : sg.toList with | nil => exact absurd ee e0 | cons _ _ => rfl
  have e2 : ¬ sg = ByteArray.empty := fun e => h0 (by rw [e]; rfl)
  replace hS : PutE g := hS h0
  clear h0
  intro acc hw hlen
  have HW0 := zz hw
  have hWl := hw.lt
  have hNw := hw.nle
  have HX0 := zz (show y = te g ++ ([32] ++ bs sg ++ [32]) ++ [114, 97, 110, 103, 101, 32] ++ te c from hy)
  have HL := zz hlen
  have HF0 := zz (Fx.refl N W w)
  clear hw hlen
  have g0 := HCg.out.cell
  go_enter Tryz.func135, Tryz.ntmps135
  go_wp2_with fail
  refine (hS (N := N) (W := W) (tb := tb) (w := w) (m := m) (S := S) (HKg.out.below HF0.out.below HN.out) HN.out (HT.out.below HF0.out.below) _ HW0.out (by have h := HL.out; rw [HX0.out] at h; (try simp only [List.length_append] at h |-); omega)).mono ?_
  rintro e w1 ⟨rfl, fx, wr⟩
  obtain ⟨hz1, HF1, HW1⟩ := stf HF0 fx wr
  clear HF0 HW0 g0
  clear fx wr
  go_wp2_with fail
  refine (zc (x := ([32] ++ bs sg ++ [32])) [⟨#[32]⟩, sg, ⟨#[32]⟩] (by simp [fl]) (by simp) (by omega) rfl rfl HW1.out (by have h := HL.out; rw [HX0.out] at h; (try simp only [List.length_append] at h |-); omega)).mono ?_
  rintro e w2 ⟨rfl, fx, wr⟩
  obtain ⟨hz2, HF2, HW2⟩ := stf HF1 fx wr
  clear HF1 HW1 fx wr
  go_wp2_with fail
  refine (zc (x := [114, 97, 110, 103, 101, 32]) [⟨#[114, 97, 110, 103, 101, 32]⟩] (by simp [fl]) (by simp) (by omega) rfl rfl HW2.out (by have h := HL.out; rw [HX0.out] at h; (try simp only [List.length_append] at h |-); omega)).mono ?_
  rintro e w3 ⟨rfl, fx, wr⟩
  obtain ⟨hz3, HF3, HW3⟩ := stf HF2 fx wr
  clear HF2 HW2 fx wr
  have c0 := (HCc.out.agree (Agree.of_below HF3.out.below HN.out) hbv).cell
  go_wp2_with fail
  refine (hC (N := N) (W := W) (tb := tb) (w := w3) (m := m) (S := S) (HKc.out.below HF3.out.below HN.out) HN.out (HT.out.below HF3.out.below) _ HW3.out (by have h := HL.out; rw [HX0.out] at h; (try simp only [List.length_append] at h |-); omega)).mono ?_
  rintro e w4 ⟨rfl, fx, wr⟩
  obtain ⟨hz4, HF4, HW4⟩ := stf HF3 fx wr
  clear HF3 HW3 c0
  clear fx wr
  go_wp2
  go_end0
  exact ⟨rfl, HF4.out, by rw [HX0.out]; first | exact HW4.out | simpa only [List.append_assoc] using HW4.out⟩
end Go.Proofs.YtmdhjiammcpogaaGreatDoor
