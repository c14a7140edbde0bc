import Derived.Test.YtmdhjiammcpogaaGreatDoorQ28
namespace Go.Proofs.YtmdhjiammcpogaaGreatDoor
set_option maxRecDepth 100000
set_option maxHeartbeats 16000000
open Go.RowKit
variable {A : Option Addr} {S : Nat -> Prop} {a : Tr} {c d n : Nat} {f : Nd} {ks ts : List Tr} {m : Md} {v : Value} {w : World} {x : List UInt8}
def TellsS (t : Tr) (d : Nat) : Prop := ∀ {w : World} {v : Value} {m : Md} {S : Nat -> Prop} {D : Int}, D = (d : Int) -> Kids w m S v t.ks -> (∀ i, S i -> i < w.heap.size) -> (tx t d false).length <= 140737488355328 -> Calls Tryz.prog 72 #[nv t.f v, .int .i64 D] w fun e w' => e = .returned (.string ⟨(tx t d false).toArray⟩) /\ Below w.heap.size w w'
theorem rrows_is {va : Value} {D : Int} (hD : D = (d : Int)) (hd : d <= 1000000) (hx : x = rowsT ts d) (hl : x.length <= 140737488355328) (hE : ∀ t ∈ ts, TellsS t d) (hK : Lst w m S va ts) (hN : ∀ i, S i -> i < w.heap.size) :
 Calls Tryz.prog 36 #[va, .int .i64 D] w fun e w' => e = .returned (.string ⟨x.toArray⟩) /\ Below w.heap.size w w' := by
 subst hD
 obtain ⟨A, ca, ba, oa, rfl, hla, hcap, hA, hra⟩ := hK
 have HA := zz hA
 have HR := zz hra
 have HE := zz hE
 have HN := zz hN
 have HX0 := zz hx
 have HL := zz hl
 clear hA hra hE hN hcap hx hl
 go_enter Tryz.func36, Tryz.ntmps36
 go_wp2
 go_loopw [5, 6] (fun s i wr => ∃ (k : Nat) (y : List UInt8), k <= ts.length /\ i = .int .i64 k /\ s = .string ⟨y.toArray⟩ /\ Below w.heap.size w wr /\ y = rowsT (ts.take k) d) (fun _ i _ => ts.length - (intOf i).toNat)
 case atStart => exact ⟨0, [], Nat.zero_le _, rfl, rfl, Below.refl _ _, rfl⟩
 case round =>
  obtain ⟨k, y, hk, rfl, rfl, hbw, hy⟩ := hrel
  have hsz := hbw.size
  have HBW := zz hbw
  have HY := zz hy
  clear hbw hy
  by_cases hkl : k < ts.length
  rotate_left
  ·have E := zz (show y = x by rw [HY.out, HX0.out, List.take_of_length_le (by omega)])
   go_wp2
   go_ret
   exact ⟨ret_str E.out, HBW.out⟩
  have i0 : (0 : Int) <= (k : Int) := by omega
  have i1 : (k : Int) < (ts.length : Int) := by omega
  obtain ⟨hA1, hb⟩ := HA.out (by omega)
  subst hA1
  obtain ⟨vk, HCk, HKk⟩ := Lst.at (HR.out.agree (Agree.of_below HBW.out HN.out) hb) k hkl
  obtain ⟨Ak, ck, bk, ok, rfl, h1_, h2_, h3_⟩ := HKk.out.form
  have HTK := zz (rows_take (d := d) hkl)
  have HLE := zz (show (rowsT (ts.take (k + 1)) d).length <= 140737488355328 by have h := HL.out; rw [HX0.out] at h; have := rows_le (ks := ts) (k + 1) d; omega)
  have HLT := zz (show (tx ts[k] d false).length <= 140737488355328 by have h := HLE.out; rw [HTK.out] at h; simp only [List.length_append] at h; omega)
  clear h1_ h2_ h3_
  obtain ⟨p1, hp1⟩ : ∃ p, p = y ++ tbs d := ⟨_, rfl⟩
  obtain ⟨p2, hp2⟩ : ∃ p, p = p1 ++ tx ts[k] d false := ⟨_, rfl⟩
  obtain ⟨p3, hp3⟩ : ∃ p, p = p2 ++ [10] := ⟨_, rfl⟩
  have HLX := zz (show y.length + ((tbs d).length + (tx ts[k] d false).length + [10].length) <= 140737488355328 by have h := HLE.out; rw [HTK.out, <- HY.out] at h; simp only [List.length_append] at h; omega)
  have g1 : ∀ W' : World, (Op.stringOp .add ⟨y.toArray⟩ ⟨(tbs d).toArray⟩).run Tryz.prog W' = .ok (.string ⟨p1.toArray⟩) W' := fun W' => cat_is (x := y) (y := tbs d) W' rfl rfl hp1 (by have h := HLX.out; omega)
  have g2 : ∀ W' : World, (Op.stringOp .add ⟨p1.toArray⟩ ⟨(tx ts[k] d false).toArray⟩).run Tryz.prog W' = .ok (.string ⟨p2.toArray⟩) W' := fun W' => cat_is (x := p1) (y := tx ts[k] d false) W' rfl rfl hp2 (by have h := HLX.out; rw [hp1]; simp only [List.length_append]; omega)
  have g3 : ∀ W' : World, (Op.stringOp .add ⟨p2.toArray⟩ ⟨#[10]⟩).run Tryz.prog W' = .ok (.string ⟨p3.toArray⟩) W' := fun W' => cat_is (x := p2) (y := [10]) W' rfl rfl hp3 (by have h := HLX.out; rw [hp2, hp1]; simp only [List.length_append]; omega)
  have HY2 := zz (show p3 = rowsT (ts.take (k + 1)) d by rw [hp3, hp2, hp1, HTK.out, HY.out]; simp only [List.append_assoc])
  clear hp1 hp2 hp3 HTK
  go_wp2_with fail
  refine wp_region_held_drew (S := Below wr.heap.size wr) (by kernel_rfl) ?_ (fun zk => ?_)
  ·exact zd _
  apply tk 0 o130_ rfl (by kernel_rfl) (fun _ _ _ h => h) zk
  ·intro wq zq
   go_simp
   try rfl
  go_frame
  apply tk 1 o131_ rfl (by kernel_rfl) (fun _ _ _ h => h) zk
  ·intro wq zq
   go_simp
   try rfl
  go_frame
  apply tk 4 o132_ rfl (by kernel_rfl) (fun _ _ _ h => h) zk
  ·intro wq zq
   go_simp
   try rfl
  go_frame
  apply tk 5 o133_ rfl (by kernel_rfl) (fun _ _ _ h => h) zk
  ·intro wq zq
   go_simp
   try rfl
  go_frame
  apply tk 6 o134_ rfl (by kernel_rfl) (fun _ _ _ h => h) zk
  ·intro wq zq
   go_simp
   try rfl
  go_frame
  apply tk 7 o135_ rfl (by kernel_rfl) (fun _ _ _ h => h) zk
  ·intro wq zq
   have k0 := (HCk.out.below zq (by have := HN.out ba hb; omega)).cell
   go_simp
   try rfl
  go_frame
  apply tk 8 o136_ rfl (by kernel_rfl) (fun _ _ _ h => h) zk
  ·intro wq zq
   go_simp
   try rfl
  go_frame
  refine rd 2 o137_ rfl (by kernel_rfl) fun K hK => ?_
  go_simp
  refine (rtabs_is (d := d) hd).mono ?_
  rintro e w27 ⟨rfl, b27⟩
  have HB27 := bt2 (zz zk) b27
  clear b27
  go_wp2_with fail
  refine hK.out _ _ ?_ (fun zk => ?_)
  ·exact HB27.out
  clear hK K
  try go_frame
  apply tk 3 o138_ rfl (by kernel_rfl) (fun _ _ _ h => h) zk
  ·intro wq zq
   go_simp
   try rfl
  go_frame
  refine rd 9 o139_ rfl (by kernel_rfl) fun K hK => ?_
  go_simp
  refine (HE.out ts[k] (List.getElem_mem hkl) (m := m) (S := S) rfl (HKk.out.below zk (fun i hi => by have := HN.out i hi; omega)) (fun i hi => by have := HN.out i hi; have := zk.size; omega) HLT.out).mono ?_
  rintro e w28 ⟨rfl, b28⟩
  have HB28 := bt2 (zz zk) b28
  clear b28
  go_wp2_with fail
  refine hK.out _ _ ?_ (fun zk => ?_)
  ·exact HB28.out
  clear hK K
  try go_frame
  apply tk 10 o140_ rfl (by kernel_rfl) (fun _ _ _ h => h) zk
  ·intro wq zq
   go_simp
   try rfl
  go_frame
  apply tk 11 o141_ rfl (by kernel_rfl) (fun _ _ _ h => h) zk
  ·intro wq zq
   go_simp
   try rfl
  go_frame
  apply tk 12 o142_ rfl (by kernel_rfl) (fun _ _ _ h => h) zk
  ·intro wq zq
   go_simp
   try rfl
  go_frame
  refine wpAnyH_done (by kernel_rfl) ?_ _
  have HB9 := zz (HBW.out.trans (zk.mono hsz))
  go_wp2
  go_roundw
  case rel => exact ⟨k + 1, p3, by omega, by go_num, rfl, HB9.out, HY2.out⟩
  case measure => simp [intOf]; omega
theorem rinner_is {D : Int} (hD : D = (d : Int)) (hd : d < 1000000) (hx : x = [123, 10] ++ rowsT ks (d + 1) ++ tbs d ++ [125]) (hl : x.length <= 140737488355328) (hE : ∀ t ∈ ks, TellsS t (d + 1)) (hK : Kids w m S v ks) (hN : ∀ i, S i -> i < w.heap.size) :
 Calls Tryz.prog 22 #[nv f v, .int .i64 D] w fun e w' => e = .returned (.string ⟨x.toArray⟩) /\ Below w.heap.size w w' := by
 subst hD
 have HE := zz hE
 clear hE
 have HN := zz hN
 have HKv := zz hK
 clear hN hK
 obtain ⟨Av, cv, bv, ov, rfl, h1_, h2_, h3_⟩ := HKv.out.form
 clear h1_ h2_ h3_
 unfold nv
 have HX0 := zz hx
 have HL := zz hl
 have HB0 := zz (Below.refl w.heap.size w)
 clear hx hl
 obtain ⟨p1, g1, HP1⟩ := cte ⟨#[123, 10]⟩ ⟨(rowsT ks (d + 1)).toArray⟩ [123, 10] (rowsT ks (d + 1)) rfl rfl (by have h := HL.out; rw [HX0.out] at h; (try simp only [List.length_append] at h |-); omega)
 obtain ⟨p2, g2, HP2⟩ := cte ⟨p1.toArray⟩ ⟨(tbs d).toArray⟩ _ (tbs d) HP1.out rfl (by have h := HL.out; rw [HX0.out] at h; (try simp only [List.length_append] at h |-); omega)
 obtain ⟨p3, g3, HP3⟩ := cte ⟨p2.toArray⟩ ⟨#[125]⟩ _ [125] HP2.out rfl (by have h := HL.out; rw [HX0.out] at h; (try simp only [List.length_append] at h |-); omega)
 go_enter Tryz.func22, Tryz.ntmps22
 go_wp2_with fail
 obtain ⟨w1, hw1, HB, HXb, hs1⟩ := jb w f (.slice Av ks.length cv)
 rw [hw1]
 clear hw1
 have hz1 := (HB.out).size
 have HB1 := bt2 HB0 HB.out
 clear HB0
 clear HB
 refine (rrows_is (d := d + 1) (by omega) (by omega) rfl (by have h := HL.out; rw [HX0.out] at h; (try simp only [List.length_append] at h |-); omega) HE.out (HKv.out.below HB1.out HN.out).lstA (fun i hi => by have := HN.out i hi; have := HB1.out.size; omega)).mono ?_
 rintro e w2 ⟨rfl, b⟩
 have hz2 := (b).size
 have HB2 := bt2 HB1 b
 replace HXb := bx HXb b
 clear HB1
 clear b
 go_wp2_with fail
 refine (rtabs_is (d := d) (by omega)).mono ?_
 rintro e w3 ⟨rfl, b⟩
 have hz3 := (b).size
 have HB3 := bt2 HB2 b
 replace HXb := bx HXb b
 clear HB2
 clear b
 have E := zz (show p3 = x by rw [HP3.out, HX0.out]; first | done | simp only [List.append_assoc])
 go_wp2
 go_ret
 exact ⟨ret_str E.out, HB3.out⟩
theorem head_0 (hn : f.n = 0) :
 Calls Tryz.prog 93 #[nv f (.slice A n c)] w fun e w' => e = .returned (.string ⟨([] : List UInt8).toArray⟩) /\ Below w.heap.size w w' := by
 unfold nv
 have qn1 := nk 1 hn rfl
 have qn2 := nk 2 hn rfl
 have qn3 := nk 3 hn rfl
 clear hn
 have HB := box1 w (.cells #[.int .i64 f.k, .string f.t, .int .i64 f.n, .string f.y, .int .i64 f.s, .int .i64 f.a, .int .i64 f.l, .slice A n c] 25)
 go_enter Tryz.func93, Tryz.ntmps93
 go_wp2
 go_ret
 exact ⟨rfl, HB.out⟩
theorem head_1 {g : Tr} (hx : x = te g ++ [32]) (hl : x.length <= 140737488355328) (hn : f.n = 1) (hG : Tells g) (hK : Kids w m S v [g, a]) (hN : ∀ i, S i -> i < w.heap.size) :
 Calls Tryz.prog 93 #[nv f v] w fun e w' => e = .returned (.string ⟨x.toArray⟩) /\ Below w.heap.size w w' := by
 have HN := zz hN
 clear hN
 obtain ⟨bv, ov, cv, rfl, hcv, hbv, hn_g, hn_a⟩ := hK.two2
 obtain ⟨vg, HCg, HKg⟩ := hn_g.cs
 obtain ⟨Ag, cg, bg, og, rfl, h1_, h2_, h3_⟩ := HKg.out.form
 clear h1_ h2_ h3_
 obtain ⟨va, HCa, HKa⟩ := hn_a.cs
 obtain ⟨Aa, ca, ba, oa, rfl, h1_, h2_, h3_⟩ := HKa.out.form
 clear h1_ h2_ h3_
 clear hK hn_g hn_a
 unfold nv
 have qn1 := yk hn
 clear hn
 have HX0 := zz hx
 have HL := zz hl
 have HB0 := zz (Below.refl w.heap.size w)
 clear hx hl
 obtain ⟨p1, g1, HP1⟩ := cte ⟨(te g).toArray⟩ ⟨#[32]⟩ (te g) [32] rfl rfl (by have h := HL.out; rw [HX0.out] at h; (try simp only [List.length_append] at h |-); omega)
 have hbs : bv < w.heap.size := HN.out bv hbv
 obtain ⟨g0, g1, g2, g3, g4, g5, g6, g7⟩ := al8 hbs HCg
 go_enter Tryz.func93, Tryz.ntmps93
 go_wp2_with fail
 obtain ⟨w1, hw1, HB, HXb, hs1⟩ := jb w f (.slice (some ⟨bv, ov, none⟩) 2 cv)
 rw [hw1]
 clear hw1
 have hz1 := (HB.out).size
 have HB1 := bt2 HB0 HB.out
 clear HB0 g0 g1 g2 g3 g4 g5 g6 g7
 clear HB
 refine (hG (m := m) (S := S) (HKg.out.below HB1.out HN.out) (fun i hi => by have := HN.out i hi; have := HB1.out.size; omega) (by have h := HL.out; rw [HX0.out] at h; (try simp only [List.length_append] at h |-); omega)).mono ?_
 rintro e w2 ⟨rfl, b⟩
 have hz2 := (b).size
 have HB2 := bt2 HB1 b
 replace HXb := bx HXb b
 clear HB1
 clear b
 have E := zz (show p1 = x by rw [HP1.out, HX0.out]; first | done | simp only [List.append_assoc])
 go_wp2
 go_ret
 exact ⟨ret_str E.out, HB2.out⟩
theorem head_2 {g c z : Tr} (hx : x = three g c z ++ [32]) (hl : x.length <= 140737488355328) (hn : f.n = 2) (hG : TellsM g) (hC : ¬ c.f.k = 0 -> Tells c) (hZ : ¬ z.f.k = 0 -> TellsM z) (hK : Kids w m S v [g, c, z, a]) (hN : ∀ i, S i -> i < w.heap.size) :
 Calls Tryz.prog 93 #[nv f v] w fun e w' => e = .returned (.string ⟨x.toArray⟩) /\ Below w.heap.size w w' := by
 have HN := zz hN
 clear hN
 obtain ⟨bv, ov, cv, rfl, hcv, hbv, hn_g, hn_c, hn_z, hn_a⟩ := hK.four4
 obtain ⟨vg, HCg, HKg⟩ := hn_g.cs
 obtain ⟨Ag, cg, bg, og, rfl, h1_, h2_, h3_⟩ := HKg.out.form
 clear h1_ h2_ h3_
 obtain ⟨vc, HCc, HKc⟩ := hn_c.cs
 obtain ⟨Ac, cc, bc, oc, rfl, h1_, h2_, h3_⟩ := HKc.out.form
 clear h1_ h2_ h3_
 obtain ⟨vz, HCz, HKz⟩ := hn_z.cs
 obtain ⟨Az, cz, bz, oz, rfl, h1_, h2_, h3_⟩ := HKz.out.form
 clear h1_ h2_ h3_
 obtain ⟨va, HCa, HKa⟩ := hn_a.cs
 obtain ⟨Aa, ca, ba, oa, rfl, h1_, h2_, h3_⟩ := HKa.out.form
 clear h1_ h2_ h3_
 clear hK hn_g hn_c hn_z hn_a
 unfold nv
 have qn1 := nk 1 hn rfl
 have qn2 := yk hn
 clear hn
 by_cases h0 : c.f.k = 0
 ·by_cases h1 : z.f.k = 0
  ·replace hx : x = te g ++ [59] ++ [59] ++ [32] := by rw [hx]; unfold three; rw [if_pos h0, if_pos h1]; simp
   have qc : (c.f.k != 0) = false := by simp [h0]
   have qz : (z.f.k != 0) = false := by simp [h1]
   clear hC
   clear hZ
   clear h0 h1
   have HX0 := zz hx
   have HL := zz hl
   have HB0 := zz (Below.refl w.heap.size w)
   clear hx hl
   obtain ⟨p1, g1, HP1⟩ := cte ⟨(te g).toArray⟩ ⟨#[59]⟩ (te g) [59] rfl rfl (by have h := HL.out; rw [HX0.out] at h; (try simp only [List.length_append] at h |-); omega)
   obtain ⟨p2, g2, HP2⟩ := cte ⟨p1.toArray⟩ ⟨#[59]⟩ _ [59] HP1.out rfl (by have h := HL.out; rw [HX0.out] at h; (try simp only [List.length_append] at h |-); omega)
   obtain ⟨p3, g3, HP3⟩ := cte ⟨p2.toArray⟩ ⟨#[32]⟩ _ [32] HP2.out rfl (by have h := HL.out; rw [HX0.out] at h; (try simp only [List.length_append] at h |-); omega)
   have hbs : bv < w.heap.size := HN.out bv hbv
   obtain ⟨g0, g1, g2, g3, g4, g5, g6, g7⟩ := al8 hbs HCg
   go_enter Tryz.func93, Tryz.ntmps93
   go_wp2_with fail
   obtain ⟨w1, hw1, HB, HXb, hs1⟩ := jb w f (.slice (some ⟨bv, ov, none⟩) 4 cv)
   rw [hw1]
   clear hw1
   have hz1 := (HB.out).size
   have HB1 := bt2 HB0 HB.out
   clear HB0 g0 g1 g2 g3 g4 g5 g6 g7
   clear HB
   refine (hG (m := m) (S := S) (HKg.out.below HB1.out HN.out) (fun i hi => by have := HN.out i hi; have := HB1.out.size; omega) (by have h := HL.out; rw [HX0.out] at h; (try simp only [List.length_append] at h |-); omega)).mono ?_
   rintro e w2 ⟨rfl, b⟩
   have hz2 := (b).size
   have HB2 := bt2 HB1 b
   replace HXb := bx HXb b
   clear HB1
   clear b
   have b0 := HXb.out.cell
   have c0 := (HCc.out.agree (Agree.of_below HB2.out HN.out) hbv).cell
   have z0 := (HCz.out.agree (Agree.of_below HB2.out HN.out) hbv).cell
   have E := zz (show p3 = x by rw [HP3.out, HX0.out]; first | done | simp only [List.append_assoc])
   go_wp2
   go_ret
   exact ⟨ret_str E.out, HB2.out⟩
  ·replace hx : x = te g ++ [59] ++ [59] ++ [32] ++ te z ++ [32] := by rw [hx]; unfold three; rw [if_pos h0, if_neg h1]; simp
   have qc : (c.f.k != 0) = false := by simp [h0]
   have qz : (z.f.k != 0) = true := by simp [h1]
   clear hC
   replace hZ : TellsM z := hZ h1
   clear h0 h1
   have HX0 := zz hx
   have HL := zz hl
   have HB0 := zz (Below.refl w.heap.size w)
   clear hx hl
   obtain ⟨p1, g1, HP1⟩ := cte ⟨(te g).toArray⟩ ⟨#[59]⟩ (te g) [59] rfl rfl (by have h := HL.out; rw [HX0.out] at h; (try simp only [List.length_append] at h |-); omega)
   obtain ⟨p2, g2, HP2⟩ := cte ⟨p1.toArray⟩ ⟨#[59]⟩ _ [59] HP1.out rfl (by have h := HL.out; rw [HX0.out] at h; (try simp only [List.length_append] at h |-); omega)
   obtain ⟨p3, g3, HP3⟩ := cte ⟨p2.toArray⟩ ⟨#[32]⟩ _ [32] HP2.out rfl (by have h := HL.out; rw [HX0.out] at h; (try simp only [List.length_append] at h |-); omega)
   obtain ⟨p4, g4, HP4⟩ := cte ⟨p3.toArray⟩ ⟨(te z).toArray⟩ _ (te z) HP3.out rfl (by have h := HL.out; rw [HX0.out] at h; (try simp only [List.length_append] at h |-); omega)
   obtain ⟨p5, g5, HP5⟩ := cte ⟨p4.toArray⟩ ⟨#[32]⟩ _ [32] HP4.out rfl (by have h := HL.out; rw [HX0.out] at h; (try simp only [List.length_append] at h |-); omega)
   have hbs : bv < w.heap.size := HN.out bv hbv
   obtain ⟨g0, g1, g2, g3, g4, g5, g6, g7⟩ := al8 hbs HCg
   go_enter Tryz.func93, Tryz.ntmps93
   go_wp2_with fail
   obtain ⟨w1, hw1, HB, HXb, hs1⟩ := jb w f (.slice (some ⟨bv, ov, none⟩) 4 cv)
   rw [hw1]
   clear hw1
   have hz1 := (HB.out).size
   have HB1 := bt2 HB0 HB.out
   clear HB0 g0 g1 g2 g3 g4 g5 g6 g7
   clear HB
   refine (hG (m := m) (S := S) (HKg.out.below HB1.out HN.out) (fun i hi => by have := HN.out i hi; have := HB1.out.size; omega) (by have h := HL.out; rw [HX0.out] at h; (try simp only [List.length_append] at h |-); omega)).mono ?_
   rintro e w2 ⟨rfl, b⟩
   have hz2 := (b).size
   have HB2 := bt2 HB1 b
   replace HXb := bx HXb b
   clear HB1
   clear b
   have b0 := HXb.out.cell
   have c0 := (HCc.out.agree (Agree.of_below HB2.out HN.out) hbv).cell
   have z0 := (HCz.out.agree (Agree.of_below HB2.out HN.out) hbv).cell
   go_wp2_with fail
   refine (hZ (m := m) (S := S) (HKz.out.below HB2.out HN.out) (fun i hi => by have := HN.out i hi; have := HB2.out.size; omega) (by have h := HL.out; rw [HX0.out] at h; (try simp only [List.length_append] at h |-); omega)).mono ?_
   rintro e w3 ⟨rfl, b⟩
   have hz3 := (b).size
   have HB3 := bt2 HB2 b
   replace HXb := bx HXb b
   clear HB2 b0 c0 z0
   clear b
   have E := zz (show p5 = x by rw [HP5.out, HX0.out]; first | done | simp only [List.append_assoc])
   go_wp2
   go_ret
   exact ⟨ret_str E.out, HB3.out⟩
 ·by_cases h1 : z.f.k = 0
  ·replace hx : x = te g ++ [59] ++ [32] ++ te c ++ [59] ++ [32] := by rw [hx]; unfold three; rw [if_neg h0, if_pos h1]; simp
   have qc : (c.f.k != 0) = true := by simp [h0]
   have qz : (z.f.k != 0) = false := by simp [h1]
   replace hC : Tells c := hC h0
   clear hZ
   clear h0 h1
   have HX0 := zz hx
   have HL := zz hl
   have HB0 := zz (Below.refl w.heap.size w)
   clear hx hl
   obtain ⟨p1, g1, HP1⟩ := cte ⟨(te g).toArray⟩ ⟨#[59]⟩ (te g) [59] rfl rfl (by have h := HL.out; rw [HX0.out] at h; (try simp only [List.length_append] at h |-); omega)
   obtain ⟨p2, g2, HP2⟩ := cte ⟨p1.toArray⟩ ⟨#[32]⟩ _ [32] HP1.out rfl (by have h := HL.out; rw [HX0.out] at h; (try simp only [List.length_append] at h |-); omega)
   obtain ⟨p3, g3, HP3⟩ := cte ⟨p2.toArray⟩ ⟨(te c).toArray⟩ _ (te c) HP2.out rfl (by have h := HL.out; rw [HX0.out] at h; (try simp only [List.length_append] at h |-); omega)
   obtain ⟨p4, g4, HP4⟩ := cte ⟨p3.toArray⟩ ⟨#[59]⟩ _ [59] HP3.out rfl (by have h := HL.out; rw [HX0.out] at h; (try simp only [List.length_append] at h |-); omega)
   obtain ⟨p5, g5, HP5⟩ := cte ⟨p4.toArray⟩ ⟨#[32]⟩ _ [32] HP4.out rfl (by have h := HL.out; rw [HX0.out] at h; (try simp only [List.length_append] at h |-); omega)
   have hbs : bv < w.heap.size := HN.out bv hbv
   obtain ⟨g0, g1, g2, g3, g4, g5, g6, g7⟩ := al8 hbs HCg
   go_enter Tryz.func93, Tryz.ntmps93
   go_wp2_with fail
   obtain ⟨w1, hw1, HB, HXb, hs1⟩ := jb w f (.slice (some ⟨bv, ov, none⟩) 4 cv)
   rw [hw1]
   clear hw1
   have hz1 := (HB.out).size
   have HB1 := bt2 HB0 HB.out
   clear HB0 g0 g1 g2 g3 g4 g5 g6 g7
   clear HB
   refine (hG (m := m) (S := S) (HKg.out.below HB1.out HN.out) (fun i hi => by have := HN.out i hi; have := HB1.out.size; omega) (by have h := HL.out; rw [HX0.out] at h; (try simp only [List.length_append] at h |-); omega)).mono ?_
   rintro e w2 ⟨rfl, b⟩
   have hz2 := (b).size
   have HB2 := bt2 HB1 b
   replace HXb := bx HXb b
   clear HB1
   clear b
   have b0 := HXb.out.cell
   have c0 := (HCc.out.agree (Agree.of_below HB2.out HN.out) hbv).cell
   go_wp2_with fail
   refine (hC (m := m) (S := S) (HKc.out.below HB2.out HN.out) (fun i hi => by have := HN.out i hi; have := HB2.out.size; omega) (by have h := HL.out; rw [HX0.out] at h; (try simp only [List.length_append] at h |-); omega)).mono ?_
   rintro e w3 ⟨rfl, b⟩
   have hz3 := (b).size
   have HB3 := bt2 HB2 b
   replace HXb := bx HXb b
   clear HB2 b0 c0
   clear b
   have b0 := HXb.out.cell
   have z0 := (HCz.out.agree (Agree.of_below HB3.out HN.out) hbv).cell
   have E := zz (show p5 = x by rw [HP5.out, HX0.out]; first | done | simp only [List.append_assoc])
   go_wp2
   go_ret
   exact ⟨ret_str E.out, HB3.out⟩
  ·replace hx : x = te g ++ [59] ++ [32] ++ te c ++ [59] ++ [32] ++ te z ++ [32] := by rw [hx]; unfold three; rw [if_neg h0, if_neg h1]; simp
   have qc : (c.f.k != 0) = true := by simp [h0]
   have qz : (z.f.k != 0) = true := by simp [h1]
   replace hC : Tells c := hC h0
   replace hZ : TellsM z := hZ h1
   clear h0 h1
   have HX0 := zz hx
   have HL := zz hl
   have HB0 := zz (Below.refl w.heap.size w)
   clear hx hl
   obtain ⟨p1, g1, HP1⟩ := cte ⟨(te g).toArray⟩ ⟨#[59]⟩ (te g) [59] rfl rfl (by have h := HL.out; rw [HX0.out] at h; (try simp only [List.length_append] at h |-); omega)
   obtain ⟨p2, g2, HP2⟩ := cte ⟨p1.toArray⟩ ⟨#[32]⟩ _ [32] HP1.out rfl (by have h := HL.out; rw [HX0.out] at h; (try simp only [List.length_append] at h |-); omega)
   obtain ⟨p3, g3, HP3⟩ := cte ⟨p2.toArray⟩ ⟨(te c).toArray⟩ _ (te c) HP2.out rfl (by have h := HL.out; rw [HX0.out] at h; (try simp only [List.length_append] at h |-); omega)
   obtain ⟨p4, g4, HP4⟩ := cte ⟨p3.toArray⟩ ⟨#[59]⟩ _ [59] HP3.out rfl (by have h := HL.out; rw [HX0.out] at h; (try simp only [List.length_append] at h |-); omega)
   obtain ⟨p5, g5, HP5⟩ := cte ⟨p4.toArray⟩ ⟨#[32]⟩ _ [32] HP4.out rfl (by have h := HL.out; rw [HX0.out] at h; (try simp only [List.length_append] at h |-); omega)
   obtain ⟨p6, g6, HP6⟩ := cte ⟨p5.toArray⟩ ⟨(te z).toArray⟩ _ (te z) HP5.out rfl (by have h := HL.out; rw [HX0.out] at h; (try simp only [List.length_append] at h |-); omega)
   obtain ⟨p7, g7, HP7⟩ := cte ⟨p6.toArray⟩ ⟨#[32]⟩ _ [32] HP6.out rfl (by have h := HL.out; rw [HX0.out] at h; (try simp only [List.length_append] at h |-); omega)
   have hbs : bv < w.heap.size := HN.out bv hbv
   obtain ⟨g0, g1, g2, g3, g4, g5, g6, g7⟩ := al8 hbs HCg
   go_enter Tryz.func93, Tryz.ntmps93
   go_wp2_with fail
   obtain ⟨w1, hw1, HB, HXb, hs1⟩ := jb w f (.slice (some ⟨bv, ov, none⟩) 4 cv)
   rw [hw1]
   clear hw1
   have hz1 := (HB.out).size
   have HB1 := bt2 HB0 HB.out
   clear HB0 g0 g1 g2 g3 g4 g5 g6 g7
   clear HB
   refine (hG (m := m) (S := S) (HKg.out.below HB1.out HN.out) (fun i hi => by have := HN.out i hi; have := HB1.out.size; omega) (by have h := HL.out; rw [HX0.out] at h; (try simp only [List.length_append] at h |-); omega)).mono ?_
   rintro e w2 ⟨rfl, b⟩
   have hz2 := (b).size
   have HB2 := bt2 HB1 b
   replace HXb := bx HXb b
   clear HB1
   clear b
   have b0 := HXb.out.cell
   have c0 := (HCc.out.agree (Agree.of_below HB2.out HN.out) hbv).cell
   go_wp2_with fail
   refine (hC (m := m) (S := S) (HKc.out.below HB2.out HN.out) (fun i hi => by have := HN.out i hi; have := HB2.out.size; omega) (by have h := HL.out; rw [HX0.out] at h; (try simp only [List.length_append] at h |-); omega)).mono ?_
   rintro e w3 ⟨rfl, b⟩
   have hz3 := (b).size
   have HB3 := bt2 HB2 b
   replace HXb := bx HXb b
   clear HB2 b0 c0
   clear b
   have b0 := HXb.out.cell
   have z0 := (HCz.out.agree (Agree.of_below HB3.out HN.out) hbv).cell
   go_wp2_with fail
   refine (hZ (m := m) (S := S) (HKz.out.below HB3.out HN.out) (fun i hi => by have := HN.out i hi; have := HB3.out.size; omega) (by have h := HL.out; rw [HX0.out] at h; (try simp only [List.length_append] at h |-); omega)).mono ?_
   rintro e w4 ⟨rfl, b⟩
   have hz4 := (b).size
   have HB4 := bt2 HB3 b
   replace HXb := bx HXb b
   clear HB3 b0 z0
   clear b
   have E := zz (show p7 = x by rw [HP7.out, HX0.out]; first | done | simp only [List.append_assoc])
   go_wp2
   go_ret
   exact ⟨ret_str E.out, HB4.out⟩
theorem head_3a {g c : Tr} (hx : x = [114, 97, 110, 103, 101, 32] ++ te c ++ [32]) (hl : x.length <= 140737488355328) (hn : f.n = 3) (ht : bs f.t = []) (hC : Tells c) (hK : Kids w m S v [g, c, a]) (hN : ∀ i, S i -> i < w.heap.size) :
 Calls Tryz.prog 93 #[nv f v] w fun e w' => e = .returned (.string ⟨x.toArray⟩) /\ Below w.heap.size w w' := by
 have HN := zz hN
 clear hN
 obtain ⟨bv, ov, cv, rfl, hcv, hbv, hn_g, hn_c, hn_a⟩ := hK.three3
 obtain ⟨vg, HCg, HKg⟩ := hn_g.cs
 obtain ⟨Ag, cg, bg, og, rfl, h1_, h2_, h3_⟩ := HKg.out.form
 clear h1_ h2_ h3_
 obtain ⟨vc, HCc, HKc⟩ := hn_c.cs
 obtain ⟨Ac, cc, bc, oc, rfl, h1_, h2_, h3_⟩ := HKc.out.form
 clear h1_ h2_ h3_
 obtain ⟨va, HCa, HKa⟩ := hn_a.cs
 obtain ⟨Aa, ca, ba, oa, rfl, h1_, h2_, h3_⟩ := HKa.out.form
 clear h1_ h2_ h3_
 clear hK hn_g hn_c hn_a
 unfold nv
 have qn1 := nk 1 hn rfl
 have qn2 := nk 2 hn rfl
 have qn3 := yk hn
 clear hn
 have e3 : f.t.toList = [] := by rw [ByteArray.toList_eq]; exact ht
 have e4 : f.t.toList.isEmpty = true := by rw [e3]; rfl
 clear ht
 have HX0 := zz hx
 have HL := zz hl
 have HB0 := zz (Below.refl w.heap.size w)
 clear hx hl
 obtain ⟨p1, g1, HP1⟩ := cte ⟨#[114, 97, 110, 103, 101, 32]⟩ ⟨(te c).toArray⟩ [114, 97, 110, 103, 101, 32] (te c) rfl rfl (by have h := HL.out; rw [HX0.out] at h; (try simp only [List.length_append] at h |-); omega)
 obtain ⟨p2, g2, HP2⟩ := cte ⟨p1.toArray⟩ ⟨#[32]⟩ _ [32] HP1.out rfl (by have h := HL.out; rw [HX0.out] at h; (try simp only [List.length_append] at h |-); omega)
 have hbs : bv < w.heap.size := HN.out bv hbv
 have c0 := al8 hbs HCc
 go_enter Tryz.func93, Tryz.ntmps93
 go_wp2_with fail
 obtain ⟨w1, hw1, HB, HXb, hs1⟩ := jb w f (.slice (some ⟨bv, ov, none⟩) 3 cv)
 rw [hw1]
 clear hw1
 have hz1 := (HB.out).size
 have HB1 := bt2 HB0 HB.out
 clear HB0 c0
 clear HB
 refine (hC (m := m) (S := S) (HKc.out.below HB1.out HN.out) (fun i hi => by have := HN.out i hi; have := HB1.out.size; omega) (by have h := HL.out; rw [HX0.out] at h; (try simp only [List.length_append] at h |-); omega)).mono ?_
 rintro e w2 ⟨rfl, b⟩
 have hz2 := (b).size
 have HB2 := bt2 HB1 b
 replace HXb := bx HXb b
 clear HB1
 clear b
 have E := zz (show p2 = x by rw [HP2.out, HX0.out]; first | done | simp only [List.append_assoc])
 go_wp2
 go_ret
 exact ⟨ret_str E.out, HB2.out⟩
theorem head_3b {g c : Tr} (hx : x = bs g.f.t ++ [32] ++ bs f.t ++ [32, 114, 97, 110, 103, 101, 32] ++ te c ++ [32]) (hl : x.length <= 140737488355328) (hn : f.n = 3) (ht : ¬ bs f.t = []) (hC : Tells c) (hK : Kids w m S v [g, c, a]) (hN : ∀ i, S i -> i < w.heap.size) :
 Calls Tryz.prog 93 #[nv f v] w fun e w' => e = .returned (.string ⟨x.toArray⟩) /\ Below w.heap.size w w' := by
 have HN := zz hN
 clear hN
 obtain ⟨bv, ov, cv, rfl, hcv, hbv, hn_g, hn_c, hn_a⟩ := hK.three3
 obtain ⟨vg, HCg, HKg⟩ := hn_g.cs
 obtain ⟨Ag, cg, bg, og, rfl, h1_, h2_, h3_⟩ := HKg.out.form
 clear h1_ h2_ h3_
 obtain ⟨vc, HCc, HKc⟩ := hn_c.cs
 obtain ⟨Ac, cc, bc, oc, rfl, h1_, h2_, h3_⟩ := HKc.out.form
 clear h1_ h2_ h3_
 obtain ⟨va, HCa, HKa⟩ := hn_a.cs
 obtain ⟨Aa, ca, ba, oa, rfl, h1_, h2_, h3_⟩ := HKa.out.form
 clear h1_ h2_ h3_
 clear hK hn_g hn_c hn_a
 unfold nv
 have qn1 := nk 1 hn rfl
 have qn2 := nk 2 hn rfl
 have qn3 := yk hn
 clear hn
 have e2 : ¬ f.t = ByteArray.empty := fun e => ht (by rw [e]; rfl)
 have e3 : ¬ f.t.toList = [] := by rw [ByteArray.toList_eq]; exact ht
 have e4 : f.t.toList.isEmpty = false := by cases ee : f.t.toList with | nil => exact absurd ee e3 | cons _ _ => rfl
 clear ht
 have HX0 := zz hx
 have HL := zz hl
 have HB0 := zz (Below.refl w.heap.size w)
 clear hx hl
 obtain ⟨p1, g1, HP1⟩ := cte g.f.t ⟨#[32]⟩ (bs g.f.t) [32] rfl rfl (by have h := HL.out; rw [HX0.out] at h; (try simp only [List.length_append] at h |-); omega)
 obtain ⟨p2, g2, HP2⟩ := cte ⟨p1.toArray⟩ f.t _ (bs f.t) HP1.out rfl (by have h := HL.out; rw [HX0.out] at h; (try simp only [List.length_append] at h |-); omega)
 obtain ⟨p3, g3, HP3⟩ := cte ⟨p2.toArray⟩ ⟨#[32, 114, 97, 110, 103, 101, 32]⟩ _ [32, 114, 97, 110, 103, 101, 32] HP2.out rfl (by have h := HL.out; rw [HX0.out] at h; (try simp only [List.length_append] at h |-); omega)
 obtain ⟨p4, g4, HP4⟩ := cte ⟨p3.toArray⟩ ⟨(te c).toArray⟩ _ (te c) HP3.out rfl (by have h := HL.out; rw [HX0.out] at h; (try simp only [List.length_append] at h |-); omega)
 obtain ⟨p5, g5, HP5⟩ := cte ⟨p4.toArray⟩ ⟨#[32]⟩ _ [32] HP4.out rfl (by have h := HL.out; rw [HX0.out] at h; (try simp only [List.length_append] at h |-); omega)
 go_enter Tryz.func93, Tryz.ntmps93
 go_wp2_with fail
 obtain ⟨w1, hw1, HB, HXb, hs1⟩ := jb w f (.slice (some ⟨bv, ov, none⟩) 3 cv)
 rw [hw1]
 clear hw1
 have hz1 := (HB.out).size
 have HB1 := bt2 HB0 HB.out
 clear HB0
 clear HB
 refine wp_region_held_drew (S := Below w1.heap.size w1) (by kernel_rfl) ?_ (fun zk => ?_)
 ·exact zd _
 apply tk 0 o143_ rfl (by kernel_rfl) (fun _ _ _ h => h) zk
 ·intro wq zq
  go_simp
  try rfl
 go_frame
 apply tk 1 o144_ rfl (by kernel_rfl) (fun _ _ _ h => h) zk
 ·intro wq zq
  have b0 := (HXb.out.below zq HXb.out.lt).cell
  go_simp
  try rfl
 go_frame
 apply tk 2 o145_ rfl (by kernel_rfl) (fun _ _ _ h => h) zk
 ·intro wq zq
  go_simp
  try rfl
 go_frame
 apply tk 3 o146_ rfl (by kernel_rfl) (fun _ _ _ h => h) zk
 ·intro wq zq
  go_simp
  try rfl
 go_frame
 apply tk 4 o147_ rfl (by kernel_rfl) (fun _ _ _ h => h) zk
 ·intro wq zq
  obtain ⟨g0, g1, g2, g3, g4, g5, g6, g7⟩ := (HCg.out.agree (Agree.of_below HB1.out HN.out) hbv).below zq (by have := HN.out bv hbv; have := HB1.out.size; omega)
  go_simp
  try rfl
 go_frame
 apply tk 5 o148_ rfl (by kernel_rfl) (fun _ _ _ h => h) zk
 ·intro wq zq
  go_simp
  try rfl
 go_frame
 apply tk 6 o149_ rfl (by kernel_rfl) (fun _ _ _ h => h) zk
 ·intro wq zq
  go_simp
  try rfl
 go_frame
 apply tk 7 o150_ rfl (by kernel_rfl) (fun _ _ _ h => h) zk
 ·intro wq zq
  have b0 := (HXb.out.below zq HXb.out.lt).cell
  go_simp
  try rfl
 go_frame
 apply tk 8 o151_ rfl (by kernel_rfl) (fun _ _ _ h => h) zk
 ·intro wq zq
  go_simp
  try rfl
 go_frame
 apply tk 9 o152_ rfl (by kernel_rfl) (fun _ _ _ h => h) zk
 ·intro wq zq
  go_simp
  try rfl
 go_frame
 apply tk 10 o153_ rfl (by kernel_rfl) (fun _ _ _ h => h) zk
 ·intro wq zq
  go_simp
  try rfl
 go_frame
 apply tk 11 o154_ rfl (by kernel_rfl) (fun _ _ _ h => h) zk
 ·intro wq zq
  have b0 := (HXb.out.below zq HXb.out.lt).cell
  go_simp
  try rfl
 go_frame
 apply tk 12 o155_ rfl (by kernel_rfl) (fun _ _ _ h => h) zk
 ·intro wq zq
  go_simp
  try rfl
 go_frame
 apply tk 13 o156_ rfl (by kernel_rfl) (fun _ _ _ h => h) zk
 ·intro wq zq
  have c0 := ((HCc.out.agree (Agree.of_below HB1.out HN.out) hbv).below zq (by have := HN.out bv hbv; have := HB1.out.size; omega)).cell
  go_simp
  try rfl
 go_frame
 refine rd 14 o157_ rfl (by kernel_rfl) fun K hK => ?_
 go_simp
 refine (hC (m := m) (S := S) (HKc.out.below (HB1.out.trans (zk.mono HB1.out.size)) HN.out) (fun i hi => by have := HN.out i hi; have := HB1.out.size; have := zk.size; omega) (by have h := HL.out; rw [HX0.out] at h; (try simp only [List.length_append] at h |-); omega)).mono ?_
 rintro e w27 ⟨rfl, b27⟩
 have HB27 := bt2 (zz zk) b27
 clear b27
 go_wp2_with fail
 refine hK.out _ _ ?_ (fun zk => ?_)
 ·exact HB27.out
 clear hK K
 try go_frame
 apply tk 15 o158_ rfl (by kernel_rfl) (fun _ _ _ h => h) zk
 ·intro wq zq
  go_simp
  try rfl
 go_frame
 apply tk 16 o159_ rfl (by kernel_rfl) (fun _ _ _ h => h) zk
 ·intro wq zq
  go_simp
  try rfl
 go_frame
 apply tk 17 o160_ rfl (by kernel_rfl) (fun _ _ _ h => h) zk
 ·intro wq zq
  go_simp
  try rfl
 go_frame
 refine wpAnyH_done (by kernel_rfl) ?_ _
 replace HB1 := bt2 HB1 zk
 replace HXb := bx HXb zk
 have E := zz (show p5 = x by rw [HP5.out, HX0.out]; first | done | simp only [List.append_assoc])
 go_wp2
 go_ret
 exact ⟨ret_str E.out, HB1.out⟩
end Go.Proofs.YtmdhjiammcpogaaGreatDoor
