import Derived.Test.YtmdhjiammcpogaaGreatDoorQ29
namespace Go.Proofs.YtmdhjiammcpogaaGreatDoor
set_option maxRecDepth 100000
set_option maxHeartbeats 16000000
open Go.RowKit
variable {S : Nat -> Prop} {d : Nat} {m : Md} {ts : List Tr} {w : World} {x : List UInt8}
structure Cla (t : Tr) (d : Nat) (r : List Tr) (a : Tr) (h : List UInt8) : Prop where
 ks : t.ks = r ++ [a]
 tx : tx t d false = tbs d ++ h ++ [58, 10] ++ rowsT a.ks (d + 1)
 rows : ∀ k ∈ a.ks, TellsS k (d + 1)
def ClaOk (t : Tr) (d : Nat) : Prop := (∃ r a, t.f.n = 1 /\ Cla t d r a [100, 101, 102, 97, 117, 108, 116]) ∨ (∃ r a, t.f.n = 0 /\ t.f.k = 14 /\ (∀ x ∈ r, Tells x) /\ Cla t d r a ([99, 97, 115, 101, 32] ++ cm (r.map te))) ∨ (∃ g a, t.f.n = 0 /\ t.f.k = 16 /\ TellsM g /\ Cla t d [g] a ([99, 97, 115, 101, 32] ++ te g))
theorem rclausesOf_is {va : Value} {D : Int} (hD : D = (d : Int)) (hd : d < 1000000) (hx : x = clsT ts d) (hl : x.length <= 140737488355328) (hE : ∀ t ∈ ts, ClaOk t d) (hK : Lst w m S va ts) (hN : ∀ i, S i -> i < w.heap.size) :
 Calls Tryz.prog 94 #[va, .int .i64 D] w fun e w' => e = .returned (.string ⟨x.toArray⟩) /\ Below w.heap.size w w' := by
 subst hD
 obtain ⟨A, ca, ba, oa, rfl, hla, hcap, hA, hra⟩ := hK
 have HA := zz hA
 have HR := zz hra
 have HE := zz hE
 have HN := zz hN
 have HX0 := zz hx
 have HL := zz hl
 clear hA hra hE hN hcap hx hl
 go_enter Tryz.func94, Tryz.ntmps94
 go_wp2
 go_loopw [5, 6] (fun s i wr => ∃ (k : Nat) (y : List UInt8), k <= ts.length /\ i = .int .i64 k /\ s = .string ⟨y.toArray⟩ /\ Below w.heap.size w wr /\ y = clsT (ts.take k) d) (fun _ i _ => ts.length - (intOf i).toNat)
 case atStart => exact ⟨0, [], Nat.zero_le _, rfl, rfl, Below.refl _ _, rfl⟩
 case round =>
  obtain ⟨k, y, hk, rfl, rfl, hbw, hy⟩ := hrel
  have hsz := hbw.size
  have HBW := zz hbw
  have HY := zz hy
  clear hbw hy
  by_cases hkl : k < ts.length
  rotate_left
  ·have E := zz (show y = x by rw [HY.out, HX0.out, List.take_of_length_le (by omega)])
   go_wp2
   go_ret
   exact ⟨ret_str E.out, HBW.out⟩
  have i0 : (0 : Int) <= (k : Int) := by omega
  have i1 : (k : Int) < (ts.length : Int) := by omega
  obtain ⟨hA1, hb⟩ := HA.out (by omega)
  subst hA1
  obtain ⟨vk, HCk, HKk⟩ := Lst.at (HR.out.agree (Agree.of_below HBW.out HN.out) hb) k hkl
  have HTK := zz (cls_take (d := d) hkl)
  have HLE := zz (show (clsT (ts.take (k + 1)) d).length <= 140737488355328 by have h := HL.out; rw [HX0.out] at h; have := cls_le (ks := ts) (k + 1) d; omega)
  rcases HE.out ts[k] (List.getElem_mem hkl) with ⟨r, a, hn1, hcl⟩ | ⟨r, a, hn0, hk14, hRR, hcl⟩ | ⟨g, a, hn0, hk16, hG, hcl⟩
  ·have qn := nk 0 hn1 rfl
   clear hn1
   have j1 : (r.length : Int) < (r.length : Int) + 1 := by omega
   have j0 : (0 : Int) <= (r.length : Int) := by omega
   have HTX := zz hcl.tx
   have HRW := zz hcl.rows
   have hks := hcl.ks
   clear hcl
   obtain ⟨bv, ov, cv, hvk, hcv, hlv, hbv, hn_a, hrr⟩ := (show Kids wr m S vk (r ++ [a]) from hks ▸ HKk.out).snoc
   subst hvk
   have HRr := zz hrr
   obtain ⟨va, HCa, HKa⟩ := hn_a.cs
   obtain ⟨Aa, ca, ba_, oa_, rfl, h1_, h2_, h3_⟩ := HKa.out.form
   clear h1_ h2_ h3_ hn_a hrr hks
   have HNr := zz (show ∀ i, S i -> i < wr.heap.size from fun i hi => by have := HN.out i hi; omega)
   have HLX := zz (show y.length + ((tbs d).length + [100, 101, 102, 97, 117, 108, 116].length + [58, 10].length + (rowsT a.ks (d + 1)).length) <= 140737488355328 by have h := HLE.out; rw [HTK.out, <- HY.out, HTX.out] at h; simp only [List.length_append] at h |-; omega)
   have HLR := zz (show (rowsT a.ks (d + 1)).length <= 140737488355328 by have h := HLX.out; omega)
   obtain ⟨p1, hp1⟩ : ∃ p, p = y ++ tbs d := ⟨_, rfl⟩
   obtain ⟨p2, hp2⟩ : ∃ p, p = p1 ++ [100, 101, 102, 97, 117, 108, 116] := ⟨_, rfl⟩
   obtain ⟨p3, hp3⟩ : ∃ p, p = p2 ++ [58, 10] := ⟨_, rfl⟩
   obtain ⟨p4, hp4⟩ : ∃ p, p = p3 ++ rowsT a.ks (d + 1) := ⟨_, rfl⟩
   have g1 : ∀ W' : World, (Op.stringOp .add ⟨y.toArray⟩ ⟨(tbs d).toArray⟩).run Tryz.prog W' = .ok (.string ⟨p1.toArray⟩) W' := fun W' => cat_is (x := y) (y := tbs d) W' rfl rfl hp1 (by have h := HLX.out; omega)
   have g2 : ∀ W' : World, (Op.stringOp .add ⟨p1.toArray⟩ ⟨#[100, 101, 102, 97, 117, 108, 116]⟩).run Tryz.prog W' = .ok (.string ⟨p2.toArray⟩) W' := fun W' => cat_is (x := p1) (y := [100, 101, 102, 97, 117, 108, 116]) W' rfl rfl hp2 (by have h := HLX.out; rw [hp1]; (try simp only [List.length_append] at *); omega)
   have g3 : ∀ W' : World, (Op.stringOp .add ⟨p2.toArray⟩ ⟨#[58, 10]⟩).run Tryz.prog W' = .ok (.string ⟨p3.toArray⟩) W' := fun W' => cat_is (x := p2) (y := [58, 10]) W' rfl rfl hp3 (by have h := HLX.out; rw [hp2, hp1]; (try simp only [List.length_append] at *); omega)
   have g4 : ∀ W' : World, (Op.stringOp .add ⟨p3.toArray⟩ ⟨(rowsT a.ks (d + 1)).toArray⟩).run Tryz.prog W' = .ok (.string ⟨p4.toArray⟩) W' := fun W' => cat_is (x := p3) (y := rowsT a.ks (d + 1)) W' rfl rfl hp4 (by have h := HLX.out; rw [hp3, hp2, hp1]; (try simp only [List.length_append] at *); omega)
   have HY2 := zz (show p4 = clsT (ts.take (k + 1)) d by rw [hp4, hp3, hp2, hp1, HTK.out, HY.out, HTX.out]; simp only [List.append_assoc])
   clear hp1 hp2 hp3 hp4 HTK
   have k0 := HCk.out.cell
   go_wp2_with fail
   obtain ⟨w1, hw1, HB, HXb, hs1⟩ := jb wr ts[k].f (.slice (some ⟨bv, ov, none⟩) (r.length + 1) cv)
   rw [hw1]
   have HB1 := zz (HBW.out.trans (HB.out.mono hsz))
   replace HCa := zz (HCa.out.agree (Agree.of_below (Below.refl wr.heap.size wr) HNr.out) hbv)
   replace HKa := zz (show Kids w1 m S _ a.ks from HKa.out.below HB.out HNr.out)
   replace HCa := zz (HCa.out.agree (Agree.of_below HB.out HNr.out) hbv)
   clear hw1 k0 HB
   refine wp_region_held_drew (S := Below w1.heap.size w1) (by kernel_rfl) ?_ (fun zk => ?_)
   ·exact zd _
   apply tk 0 o161_ rfl (by kernel_rfl) (fun _ _ _ h => h) zk
   ·intro wq zq
    go_simp
    try rfl
   go_frame
   apply tk 1 o162_ rfl (by kernel_rfl) (fun _ _ _ h => h) zk
   ·intro wq zq
    go_simp
    try rfl
   go_frame
   apply tk 4 o163_ rfl (by kernel_rfl) (fun _ _ _ h => h) zk
   ·intro wq zq
    go_simp
    try rfl
   go_frame
   apply tk 7 o164_ rfl (by kernel_rfl) (fun _ _ _ h => h) zk
   ·intro wq zq
    go_simp
    try rfl
   go_frame
   apply tk 8 o165_ rfl (by kernel_rfl) (fun _ _ _ h => h) zk
   ·intro wq zq
    have b0 := (HXb.out.below zq HXb.out.lt).cell
    go_simp
    try rfl
   go_frame
   apply tk 9 o166_ rfl (by kernel_rfl) (fun _ _ _ h => h) zk
   ·intro wq zq
    go_simp
    try rfl
   go_frame
   apply tk 10 o167_ rfl (by kernel_rfl) (fun _ _ _ h => h) zk
   ·intro wq zq
    go_simp
    try rfl
   go_frame
   apply tk 11 o168_ rfl (by kernel_rfl) (fun _ _ _ h => h) zk
   ·intro wq zq
    go_simp
    try rfl
   go_frame
   apply tk 12 o169_ rfl (by kernel_rfl) (fun _ _ _ h => h) zk
   ·intro wq zq
    have a0 := (HCa.out.below zq (by have := HN.out bv hbv; have := HB1.out.size; omega)).cell
    go_simp
    try rfl
   go_frame
   apply tk 13 o170_ rfl (by kernel_rfl) (fun _ _ _ h => h) zk
   ·intro wq zq
    go_simp
    try rfl
   go_frame
   apply tk 14 o171_ rfl (by kernel_rfl) (fun _ _ _ h => h) zk
   ·intro wq zq
    go_simp
    try rfl
   go_frame
   refine rd 2 o172_ rfl (by kernel_rfl) fun K hK => ?_
   go_simp
   refine (rtabs_is (d := d) (by omega)).mono ?_
   rintro e w47 ⟨rfl, b47⟩
   have HB47 := bt2 (zz zk) b47
   clear b47
   go_wp2_with fail
   refine hK.out _ _ ?_ (fun zk => ?_)
   ·exact HB47.out
   clear hK K
   try go_frame
   apply tk 3 o173_ rfl (by kernel_rfl) (fun _ _ _ h => h) zk
   ·intro wq zq
    go_simp
    try rfl
   go_frame
   apply tk 5 o174_ rfl (by kernel_rfl) (fun _ _ _ h => h) zk
   ·intro wq zq
    go_simp
    try rfl
   go_frame
   apply tk 6 o175_ rfl (by kernel_rfl) (fun _ _ _ h => h) zk
   ·intro wq zq
    go_simp
    try rfl
   go_frame
   refine rd 15 o176_ rfl (by kernel_rfl) fun K hK => ?_
   go_simp
   refine (rrows_is (d := d + 1) (by first | omega | (rw [IntKind.wrap_i64]; omega)) (by omega) rfl HLR.out HRW.out (HKa.out.below zk (fun i hi => by have := HN.out i hi; have := HB1.out.size; omega)).lstA (fun i hi => by have := HN.out i hi; have := HB1.out.size; have := zk.size; omega)).mono ?_
   rintro e w48 ⟨rfl, b48⟩
   have HB48 := bt2 (zz zk) b48
   clear b48
   go_wp2_with fail
   refine hK.out _ _ ?_ (fun zk => ?_)
   ·exact HB48.out
   clear hK K
   try go_frame
   apply tk 16 o177_ rfl (by kernel_rfl) (fun _ _ _ h => h) zk
   ·intro wq zq
    go_simp
    try rfl
   go_frame
   apply tk 17 o178_ rfl (by kernel_rfl) (fun _ _ _ h => h) zk
   ·intro wq zq
    go_simp
    try rfl
   go_frame
   refine wpAnyH_done (by kernel_rfl) ?_ _
   have HB9 := zz (HB1.out.trans (zk.mono HB1.out.size))
   go_wp2
   go_roundw
   case rel => exact ⟨k + 1, p4, by omega, by go_num, rfl, HB9.out, HY2.out⟩
   case measure => simp [intOf]; omega
  ·have qn := yk hn0
   have q14 := yk hk14
   have q16 := nk 16 hk14 rfl
   have HRR := zz hRR
   clear hn0 hk14 hRR
   have j1 : (r.length : Int) < (r.length : Int) + 1 := by omega
   have j0 : (0 : Int) <= (r.length : Int) := by omega
   have HTX := zz hcl.tx
   have HRW := zz hcl.rows
   have hks := hcl.ks
   clear hcl
   obtain ⟨bv, ov, cv, hvk, hcv, hlv, hbv, hn_a, hrr⟩ := (show Kids wr m S vk (r ++ [a]) from hks ▸ HKk.out).snoc
   subst hvk
   have HRr := zz hrr
   obtain ⟨va, HCa, HKa⟩ := hn_a.cs
   obtain ⟨Aa, ca, ba_, oa_, rfl, h1_, h2_, h3_⟩ := HKa.out.form
   clear h1_ h2_ h3_ hn_a hrr hks
   have HNr := zz (show ∀ i, S i -> i < wr.heap.size from fun i hi => by have := HN.out i hi; omega)
   have j3 : r.length <= cv := by omega
   have j4 : (r.length : Int) <= (cv : Int) := by omega
   have HLX := zz (show y.length + ((tbs d).length + ([99, 97, 115, 101, 32] ++ cm (r.map te)).length + [58, 10].length + (rowsT a.ks (d + 1)).length) <= 140737488355328 by have h := HLE.out; rw [HTK.out, <- HY.out, HTX.out] at h; simp only [List.length_append] at h |-; omega)
   have HLR := zz (show (rowsT a.ks (d + 1)).length <= 140737488355328 by have h := HLX.out; omega)
   obtain ⟨p0, hp0⟩ : ∃ p, p = [99, 97, 115, 101, 32] ++ cm (r.map te) := ⟨_, rfl⟩
   have HLT := zz (show (cm (r.map te)).length <= 140737488355328 by have h := HLX.out; simp only [List.length_append] at h; omega)
   have g0 : ∀ W' : World, (Op.stringOp .add ⟨#[99, 97, 115, 101, 32]⟩ ⟨(cm (r.map te)).toArray⟩).run Tryz.prog W' = .ok (.string ⟨p0.toArray⟩) W' := fun W' => cat_is (x := [99, 97, 115, 101, 32]) (y := cm (r.map te)) W' rfl rfl hp0 (by have h := HLX.out; simp only [List.length_append] at h |-; omega)
   have HL0 := zz (show p0.length = (([99, 97, 115, 101, 32] ++ cm (r.map te))).length by rw [hp0])
   obtain ⟨p1, hp1⟩ : ∃ p, p = y ++ tbs d := ⟨_, rfl⟩
   obtain ⟨p2, hp2⟩ : ∃ p, p = p1 ++ p0 := ⟨_, rfl⟩
   obtain ⟨p3, hp3⟩ : ∃ p, p = p2 ++ [58, 10] := ⟨_, rfl⟩
   obtain ⟨p4, hp4⟩ : ∃ p, p = p3 ++ rowsT a.ks (d + 1) := ⟨_, rfl⟩
   have g1 : ∀ W' : World, (Op.stringOp .add ⟨y.toArray⟩ ⟨(tbs d).toArray⟩).run Tryz.prog W' = .ok (.string ⟨p1.toArray⟩) W' := fun W' => cat_is (x := y) (y := tbs d) W' rfl rfl hp1 (by have h := HLX.out; have hh := HL0.out; (try simp only [List.length_append] at *); omega)
   have g2 : ∀ W' : World, (Op.stringOp .add ⟨p1.toArray⟩ ⟨p0.toArray⟩).run Tryz.prog W' = .ok (.string ⟨p2.toArray⟩) W' := fun W' => cat_is (x := p1) (y := p0) W' rfl rfl hp2 (by have h := HLX.out; have hh := HL0.out; rw [hp1]; (try simp only [List.length_append] at *); omega)
   have g3 : ∀ W' : World, (Op.stringOp .add ⟨p2.toArray⟩ ⟨#[58, 10]⟩).run Tryz.prog W' = .ok (.string ⟨p3.toArray⟩) W' := fun W' => cat_is (x := p2) (y := [58, 10]) W' rfl rfl hp3 (by have h := HLX.out; have hh := HL0.out; rw [hp2, hp1]; (try simp only [List.length_append] at *); omega)
   have g4 : ∀ W' : World, (Op.stringOp .add ⟨p3.toArray⟩ ⟨(rowsT a.ks (d + 1)).toArray⟩).run Tryz.prog W' = .ok (.string ⟨p4.toArray⟩) W' := fun W' => cat_is (x := p3) (y := rowsT a.ks (d + 1)) W' rfl rfl hp4 (by have h := HLX.out; have hh := HL0.out; rw [hp3, hp2, hp1]; (try simp only [List.length_append] at *); omega)
   have HY2 := zz (show p4 = clsT (ts.take (k + 1)) d by rw [hp4, hp3, hp2, hp1, hp0, HTK.out, HY.out, HTX.out]; simp only [List.append_assoc])
   clear hp1 hp2 hp3 hp4 hp0 HTK
   have k0 := HCk.out.cell
   go_wp2_with fail
   obtain ⟨w1, hw1, HB, HXb, hs1⟩ := jb wr ts[k].f (.slice (some ⟨bv, ov, none⟩) (r.length + 1) cv)
   rw [hw1]
   have HB1 := zz (HBW.out.trans (HB.out.mono hsz))
   replace HCa := zz (HCa.out.agree (Agree.of_below (Below.refl wr.heap.size wr) HNr.out) hbv)
   replace HKa := zz (show Kids w1 m S _ a.ks from HKa.out.below HB.out HNr.out)
   replace HCa := zz (HCa.out.agree (Agree.of_below HB.out HNr.out) hbv)
   replace HRr := zz (HRr.out.agree (Agree.of_below HB.out HNr.out) hbv)
   clear hw1 k0 HB
   refine (rlist_is rfl HLT.out HRR.out (Lst.init hcv hlv hbv HRr.out) (fun i hi => by have := HNr.out i hi; omega)).mono ?_
   rintro e w2 ⟨rfl, b⟩
   have hz2 := b.size
   have HB2 := bt2 HB1 b
   replace HXb := bx HXb b
   replace HKa := zz (HKa.out.below b (fun i hi => by have := HNr.out i hi; omega))
   replace HCa := zz (HCa.out.below b (by have := HNr.out bv hbv; omega))
   clear b HB1
   have b0 := HXb.out.cell
   go_wp2_with fail
   refine wp_region_held_drew (S := Below w2.heap.size w2) (by kernel_rfl) ?_ (fun zk => ?_)
   ·exact zd _
   apply tk 0 o161_ rfl (by kernel_rfl) (fun _ _ _ h => h) zk
   ·intro wq zq
    go_simp
    try rfl
   go_frame
   apply tk 1 o162_ rfl (by kernel_rfl) (fun _ _ _ h => h) zk
   ·intro wq zq
    go_simp
    try rfl
   go_frame
   apply tk 4 o163_ rfl (by kernel_rfl) (fun _ _ _ h => h) zk
   ·intro wq zq
    go_simp
    try rfl
   go_frame
   apply tk 7 o164_ rfl (by kernel_rfl) (fun _ _ _ h => h) zk
   ·intro wq zq
    go_simp
    try rfl
   go_frame
   apply tk 8 o165_ rfl (by kernel_rfl) (fun _ _ _ h => h) zk
   ·intro wq zq
    have b0 := (HXb.out.below zq HXb.out.lt).cell
    go_simp
    try rfl
   go_frame
   apply tk 9 o166_ rfl (by kernel_rfl) (fun _ _ _ h => h) zk
   ·intro wq zq
    go_simp
    try rfl
   go_frame
   apply tk 10 o167_ rfl (by kernel_rfl) (fun _ _ _ h => h) zk
   ·intro wq zq
    go_simp
    try rfl
   go_frame
   apply tk 11 o168_ rfl (by kernel_rfl) (fun _ _ _ h => h) zk
   ·intro wq zq
    go_simp
    try rfl
   go_frame
   apply tk 12 o169_ rfl (by kernel_rfl) (fun _ _ _ h => h) zk
   ·intro wq zq
    have a0 := (HCa.out.below zq (by have := HN.out bv hbv; have := HB2.out.size; omega)).cell
    go_simp
    try rfl
   go_frame
   apply tk 13 o170_ rfl (by kernel_rfl) (fun _ _ _ h => h) zk
   ·intro wq zq
    go_simp
    try rfl
   go_frame
   apply tk 14 o171_ rfl (by kernel_rfl) (fun _ _ _ h => h) zk
   ·intro wq zq
    go_simp
    try rfl
   go_frame
   refine rd 2 o172_ rfl (by kernel_rfl) fun K hK => ?_
   go_simp
   refine (rtabs_is (d := d) (by omega)).mono ?_
   rintro e w47 ⟨rfl, b47⟩
   have HB47 := bt2 (zz zk) b47
   clear b47
   go_wp2_with fail
   refine hK.out _ _ ?_ (fun zk => ?_)
   ·exact HB47.out
   clear hK K
   try go_frame
   apply tk 3 o173_ rfl (by kernel_rfl) (fun _ _ _ h => h) zk
   ·intro wq zq
    go_simp
    try rfl
   go_frame
   apply tk 5 o174_ rfl (by kernel_rfl) (fun _ _ _ h => h) zk
   ·intro wq zq
    go_simp
    try rfl
   go_frame
   apply tk 6 o175_ rfl (by kernel_rfl) (fun _ _ _ h => h) zk
   ·intro wq zq
    go_simp
    try rfl
   go_frame
   refine rd 15 o176_ rfl (by kernel_rfl) fun K hK => ?_
   go_simp
   refine (rrows_is (d := d + 1) (by first | omega | (rw [IntKind.wrap_i64]; omega)) (by omega) rfl HLR.out HRW.out (HKa.out.below zk (fun i hi => by have := HN.out i hi; have := HB2.out.size; omega)).lstA (fun i hi => by have := HN.out i hi; have := HB2.out.size; have := zk.size; omega)).mono ?_
   rintro e w48 ⟨rfl, b48⟩
   have HB48 := bt2 (zz zk) b48
   clear b48
   go_wp2_with fail
   refine hK.out _ _ ?_ (fun zk => ?_)
   ·exact HB48.out
   clear hK K
   try go_frame
   apply tk 16 o177_ rfl (by kernel_rfl) (fun _ _ _ h => h) zk
   ·intro wq zq
    go_simp
    try rfl
   go_frame
   apply tk 17 o178_ rfl (by kernel_rfl) (fun _ _ _ h => h) zk
   ·intro wq zq
    go_simp
    try rfl
   go_frame
   refine wpAnyH_done (by kernel_rfl) ?_ _
   have HB9 := zz (HB2.out.trans (zk.mono HB2.out.size))
   go_wp2
   go_roundw
   case rel => exact ⟨k + 1, p4, by omega, by go_num, rfl, HB9.out, HY2.out⟩
   case measure => simp [intOf]; omega
  ·have qn := yk hn0
   have q14 := nk 14 hk16 rfl
   have q16 := yk hk16
   clear hn0 hk16
   have HTX := zz hcl.tx
   have HRW := zz hcl.rows
   have hks := hcl.ks
   clear hcl
   obtain ⟨bv, ov, cv, hvk, hcv, hlv, hbv, hn_a, hrr⟩ := (show Kids wr m S vk ([g] ++ [a]) from hks ▸ HKk.out).snoc
   subst hvk
   simp only [List.length_cons, List.length_nil, Nat.zero_add, Nat.reduceAdd, Nat.one_mul] at hcv hlv hn_a hrr HCk HKk
   have HRr := zz hrr
   obtain ⟨va, HCa, HKa⟩ := hn_a.cs
   obtain ⟨Aa, ca, ba_, oa_, rfl, h1_, h2_, h3_⟩ := HKa.out.form
   clear h1_ h2_ h3_ hn_a hrr hks
   obtain ⟨vg, HCg, HKg⟩ := HRr.out.1.cs
   obtain ⟨Ag, cg, bg, og, rfl, h1_, h2_, h3_⟩ := HKg.out.form
   clear h1_ h2_ h3_
   have hbs : bv < wr.heap.size := by have := HN.out bv hbv; omega
   obtain ⟨gg0, gg1, gg2, gg3, gg4, gg5, gg6, gg7⟩ := HCg.out
   replace gg0 := fun o => (World.cell?_alloc_lt wr o _ hbs).trans gg0
   replace gg1 := fun o => (World.cell?_alloc_lt wr o _ hbs).trans gg1
   replace gg2 := fun o => (World.cell?_alloc_lt wr o _ hbs).trans gg2
   replace gg3 := fun o => (World.cell?_alloc_lt wr o _ hbs).trans gg3
   replace gg4 := fun o => (World.cell?_alloc_lt wr o _ hbs).trans gg4
   replace gg5 := fun o => (World.cell?_alloc_lt wr o _ hbs).trans gg5
   replace gg6 := fun o => (World.cell?_alloc_lt wr o _ hbs).trans gg6
   replace gg7 := fun o => (World.cell?_alloc_lt wr o _ hbs).trans gg7
   have HNr := zz (show ∀ i, S i -> i < wr.heap.size from fun i hi => by have := HN.out i hi; omega)
   have HLX := zz (show y.length + ((tbs d).length + ([99, 97, 115, 101, 32] ++ te g).length + [58, 10].length + (rowsT a.ks (d + 1)).length) <= 140737488355328 by have h := HLE.out; rw [HTK.out, <- HY.out, HTX.out] at h; simp only [List.length_append] at h |-; omega)
   have HLR := zz (show (rowsT a.ks (d + 1)).length <= 140737488355328 by have h := HLX.out; omega)
   obtain ⟨p0, hp0⟩ : ∃ p, p = [99, 97, 115, 101, 32] ++ te g := ⟨_, rfl⟩
   have HLT := zz (show (te g).length <= 140737488355328 by have h := HLX.out; simp only [List.length_append] at h; omega)
   have g0 : ∀ W' : World, (Op.stringOp .add ⟨#[99, 97, 115, 101, 32]⟩ ⟨(te g).toArray⟩).run Tryz.prog W' = .ok (.string ⟨p0.toArray⟩) W' := fun W' => cat_is (x := [99, 97, 115, 101, 32]) (y := te g) W' rfl rfl hp0 (by have h := HLX.out; simp only [List.length_append] at h |-; omega)
   have HL0 := zz (show p0.length = (([99, 97, 115, 101, 32] ++ te g)).length by rw [hp0])
   obtain ⟨p1, hp1⟩ : ∃ p, p = y ++ tbs d := ⟨_, rfl⟩
   obtain ⟨p2, hp2⟩ : ∃ p, p = p1 ++ p0 := ⟨_, rfl⟩
   obtain ⟨p3, hp3⟩ : ∃ p, p = p2 ++ [58, 10] := ⟨_, rfl⟩
   obtain ⟨p4, hp4⟩ : ∃ p, p = p3 ++ rowsT a.ks (d + 1) := ⟨_, rfl⟩
   have g1 : ∀ W' : World, (Op.stringOp .add ⟨y.toArray⟩ ⟨(tbs d).toArray⟩).run Tryz.prog W' = .ok (.string ⟨p1.toArray⟩) W' := fun W' => cat_is (x := y) (y := tbs d) W' rfl rfl hp1 (by have h := HLX.out; have hh := HL0.out; (try simp only [List.length_append] at *); omega)
   have g2 : ∀ W' : World, (Op.stringOp .add ⟨p1.toArray⟩ ⟨p0.toArray⟩).run Tryz.prog W' = .ok (.string ⟨p2.toArray⟩) W' := fun W' => cat_is (x := p1) (y := p0) W' rfl rfl hp2 (by have h := HLX.out; have hh := HL0.out; rw [hp1]; (try simp only [List.length_append] at *); omega)
   have g3 : ∀ W' : World, (Op.stringOp .add ⟨p2.toArray⟩ ⟨#[58, 10]⟩).run Tryz.prog W' = .ok (.string ⟨p3.toArray⟩) W' := fun W' => cat_is (x := p2) (y := [58, 10]) W' rfl rfl hp3 (by have h := HLX.out; have hh := HL0.out; rw [hp2, hp1]; (try simp only [List.length_append] at *); omega)
   have g4 : ∀ W' : World, (Op.stringOp .add ⟨p3.toArray⟩ ⟨(rowsT a.ks (d + 1)).toArray⟩).run Tryz.prog W' = .ok (.string ⟨p4.toArray⟩) W' := fun W' => cat_is (x := p3) (y := rowsT a.ks (d + 1)) W' rfl rfl hp4 (by have h := HLX.out; have hh := HL0.out; rw [hp3, hp2, hp1]; (try simp only [List.length_append] at *); omega)
   have HY2 := zz (show p4 = clsT (ts.take (k + 1)) d by rw [hp4, hp3, hp2, hp1, hp0, HTK.out, HY.out, HTX.out]; simp only [List.append_assoc])
   clear hp1 hp2 hp3 hp4 hp0 HTK
   have k0 := HCk.out.cell
   go_wp2_with fail
   obtain ⟨w1, hw1, HB, HXb, hs1⟩ := jb wr ts[k].f (.slice (some ⟨bv, ov, none⟩) 2 cv)
   rw [hw1]
   have HB1 := zz (HBW.out.trans (HB.out.mono hsz))
   replace HCa := zz (HCa.out.agree (Agree.of_below (Below.refl wr.heap.size wr) HNr.out) hbv)
   replace HKa := zz (show Kids w1 m S _ a.ks from HKa.out.below HB.out HNr.out)
   replace HCa := zz (HCa.out.agree (Agree.of_below HB.out HNr.out) hbv)
   replace HKg := zz (HKg.out.below HB.out HNr.out)
   clear hw1 k0 HB gg0 gg1 gg2 gg3 gg4 gg5 gg6 gg7
   refine (hG (w := w1) (m := m) (S := S) HKg.out (fun i hi => by have := HNr.out i hi; omega) HLT.out).mono ?_
   rintro e w2 ⟨rfl, b⟩
   have hz2 := b.size
   have HB2 := bt2 HB1 b
   replace HXb := bx HXb b
   replace HKa := zz (HKa.out.below b (fun i hi => by have := HNr.out i hi; omega))
   replace HCa := zz (HCa.out.below b (by have := HNr.out bv hbv; omega))
   clear b HB1
   have b0 := HXb.out.cell
   go_wp2_with fail
   refine wp_region_held_drew (S := Below w2.heap.size w2) (by kernel_rfl) ?_ (fun zk => ?_)
   ·exact zd _
   apply tk 0 o161_ rfl (by kernel_rfl) (fun _ _ _ h => h) zk
   ·intro wq zq
    go_simp
    try rfl
   go_frame
   apply tk 1 o162_ rfl (by kernel_rfl) (fun _ _ _ h => h) zk
   ·intro wq zq
    go_simp
    try rfl
   go_frame
   apply tk 4 o163_ rfl (by kernel_rfl) (fun _ _ _ h => h) zk
   ·intro wq zq
    go_simp
    try rfl
   go_frame
   apply tk 7 o164_ rfl (by kernel_rfl) (fun _ _ _ h => h) zk
   ·intro wq zq
    go_simp
    try rfl
   go_frame
   apply tk 8 o165_ rfl (by kernel_rfl) (fun _ _ _ h => h) zk
   ·intro wq zq
    have b0 := (HXb.out.below zq HXb.out.lt).cell
    go_simp
    try rfl
   go_frame
   apply tk 9 o166_ rfl (by kernel_rfl) (fun _ _ _ h => h) zk
   ·intro wq zq
    go_simp
    try rfl
   go_frame
   apply tk 10 o167_ rfl (by kernel_rfl) (fun _ _ _ h => h) zk
   ·intro wq zq
    go_simp
    try rfl
   go_frame
   apply tk 11 o168_ rfl (by kernel_rfl) (fun _ _ _ h => h) zk
   ·intro wq zq
    go_simp
    try rfl
   go_frame
   apply tk 12 o169_ rfl (by kernel_rfl) (fun _ _ _ h => h) zk
   ·intro wq zq
    have a0 := (HCa.out.below zq (by have := HN.out bv hbv; have := HB2.out.size; omega)).cell
    go_simp
    try rfl
   go_frame
   apply tk 13 o170_ rfl (by kernel_rfl) (fun _ _ _ h => h) zk
   ·intro wq zq
    go_simp
    try rfl
   go_frame
   apply tk 14 o171_ rfl (by kernel_rfl) (fun _ _ _ h => h) zk
   ·intro wq zq
    go_simp
    try rfl
   go_frame
   refine rd 2 o172_ rfl (by kernel_rfl) fun K hK => ?_
   go_simp
   refine (rtabs_is (d := d) (by omega)).mono ?_
   rintro e w47 ⟨rfl, b47⟩
   have HB47 := bt2 (zz zk) b47
   clear b47
   go_wp2_with fail
   refine hK.out _ _ ?_ (fun zk => ?_)
   ·exact HB47.out
   clear hK K
   try go_frame
   apply tk 3 o173_ rfl (by kernel_rfl) (fun _ _ _ h => h) zk
   ·intro wq zq
    go_simp
    try rfl
   go_frame
   apply tk 5 o174_ rfl (by kernel_rfl) (fun _ _ _ h => h) zk
   ·intro wq zq
    go_simp
    try rfl
   go_frame
   apply tk 6 o175_ rfl (by kernel_rfl) (fun _ _ _ h => h) zk
   ·intro wq zq
    go_simp
    try rfl
   go_frame
   refine rd 15 o176_ rfl (by kernel_rfl) fun K hK => ?_
   go_simp
   refine (rrows_is (d := d + 1) (by first | omega | (rw [IntKind.wrap_i64]; omega)) (by omega) rfl HLR.out HRW.out (HKa.out.below zk (fun i hi => by have := HN.out i hi; have := HB2.out.size; omega)).lstA (fun i hi => by have := HN.out i hi; have := HB2.out.size; have := zk.size; omega)).mono ?_
   rintro e w48 ⟨rfl, b48⟩
   have HB48 := bt2 (zz zk) b48
   clear b48
   go_wp2_with fail
   refine hK.out _ _ ?_ (fun zk => ?_)
   ·exact HB48.out
   clear hK K
   try go_frame
   apply tk 16 o177_ rfl (by kernel_rfl) (fun _ _ _ h => h) zk
   ·intro wq zq
    go_simp
    try rfl
   go_frame
   apply tk 17 o178_ rfl (by kernel_rfl) (fun _ _ _ h => h) zk
   ·intro wq zq
    go_simp
    try rfl
   go_frame
   refine wpAnyH_done (by kernel_rfl) ?_ _
   have HB9 := zz (HB2.out.trans (zk.mono HB2.out.size))
   go_wp2
   go_roundw
   case rel => exact ⟨k + 1, p4, by omega, by go_num, rfl, HB9.out, HY2.out⟩
   case measure => simp [intOf]; omega
end Go.Proofs.YtmdhjiammcpogaaGreatDoor
