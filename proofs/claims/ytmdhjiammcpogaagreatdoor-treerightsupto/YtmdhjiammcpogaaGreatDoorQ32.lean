import Derived.Test.YtmdhjiammcpogaaGreatDoorQ31
namespace Go.Proofs.YtmdhjiammcpogaaGreatDoor
set_option maxRecDepth 100000
set_option maxHeartbeats 16000000
section
open Go.RowKit
variable {S : Nat -> Prop} {a : Tr} {d : Nat} {f : Nd} {m : Md} {v : Value} {w : World} {x : List UInt8}
theorem row_11e {c e : Tr} {D : Int} (hD : D = (d : Int)) (hx : x = [105, 102, 32] ++ te a ++ [32] ++ tx c d false ++ [32, 101, 108, 115, 101, 32] ++ tx e d false) (hl : x.length <= 140737488355328) (hk : f.k = 11) (hA : Tells a) (hC : TellsB c d) (hE : TellsS e d) (hK : Kids w m S v [a, c, e]) (hN : ∀ i, S i -> i < w.heap.size) :
 Calls Tryz.prog 72 #[nv f v, .int .i64 D] w fun e w' => e = .returned (.string ⟨x.toArray⟩) /\ Below w.heap.size w w' := by
 subst hD
 have HN := zz hN
 clear hN
 obtain ⟨bv, ov, cv, rfl, hcv, hbv, hn_a, hn_c, hn_e⟩ := hK.three3
 obtain ⟨va, HCa, HKa⟩ := hn_a.cs
 obtain ⟨Aa, ca, ba, oa, rfl, h1_, h2_, h3_⟩ := HKa.out.form
 clear h1_ h2_ h3_
 obtain ⟨vc, HCc, HKc⟩ := hn_c.cs
 obtain ⟨Ac, cc, bc, oc, rfl, h1_, h2_, h3_⟩ := HKc.out.form
 clear h1_ h2_ h3_
 obtain ⟨ve, HCe, HKe⟩ := hn_e.cs
 obtain ⟨Ae, ce, be, oe, rfl, h1_, h2_, h3_⟩ := HKe.out.form
 clear h1_ h2_ h3_
 clear hK hn_a hn_c hn_e
 unfold nv
 have q4 := nk 4 hk rfl
 have q5 := nk 5 hk rfl
 have q11 := yk hk
 clear hk
 have HX0 := zz hx
 have HL := zz hl
 have HB0 := zz (Below.refl w.heap.size w)
 clear hx hl
 obtain ⟨p1, g1, HP1⟩ := cte ⟨#[105, 102, 32]⟩ ⟨(te a).toArray⟩ [105, 102, 32] (te a) rfl rfl (by have h := HL.out; rw [HX0.out] at h; (try simp only [List.length_append] at h |-); omega)
 obtain ⟨p2, g2, HP2⟩ := cte ⟨p1.toArray⟩ ⟨#[32]⟩ _ [32] HP1.out rfl (by have h := HL.out; rw [HX0.out] at h; (try simp only [List.length_append] at h |-); omega)
 obtain ⟨p3, g3, HP3⟩ := cte ⟨p2.toArray⟩ ⟨(tx c d false).toArray⟩ _ (tx c d false) HP2.out rfl (by have h := HL.out; rw [HX0.out] at h; (try simp only [List.length_append] at h |-); omega)
 obtain ⟨p4, g4, HP4⟩ := cte ⟨p3.toArray⟩ ⟨#[32, 101, 108, 115, 101, 32]⟩ _ [32, 101, 108, 115, 101, 32] HP3.out rfl (by have h := HL.out; rw [HX0.out] at h; (try simp only [List.length_append] at h |-); omega)
 obtain ⟨p5, g5, HP5⟩ := cte ⟨p4.toArray⟩ ⟨(tx e d false).toArray⟩ _ (tx e d false) HP4.out rfl (by have h := HL.out; rw [HX0.out] at h; (try simp only [List.length_append] at h |-); omega)
 go_enter Tryz.func72, Tryz.ntmps72
 go_wp2_with fail
 obtain ⟨w1, hw1, HB, HXb, hs1⟩ := jb w f (.slice (some ⟨bv, ov, none⟩) 3 cv)
 rw [hw1]
 clear hw1
 have hz1 := (HB.out).size
 have HB1 := bt2 HB0 HB.out
 clear HB0
 clear HB
 refine wp_region_held_drew (S := Below w1.heap.size w1) (by kernel_rfl) ?_ (fun zk => ?_)
 ·exact zd _
 apply tk 0 o179_ rfl (by kernel_rfl) (fun _ _ _ h => h) zk
 ·intro wq zq
  go_simp
  try rfl
 go_frame
 apply tk 1 o180_ rfl (by kernel_rfl) (fun _ _ _ h => h) zk
 ·intro wq zq
  have b0 := (HXb.out.below zq HXb.out.lt).cell
  go_simp
  try rfl
 go_frame
 apply tk 2 o181_ rfl (by kernel_rfl) (fun _ _ _ h => h) zk
 ·intro wq zq
  go_simp
  try rfl
 go_frame
 apply tk 3 o182_ rfl (by kernel_rfl) (fun _ _ _ h => h) zk
 ·intro wq zq
  have a0 := ((HCa.out.agree (Agree.of_below HB1.out HN.out) hbv).below zq (by have := HN.out bv hbv; have := HB1.out.size; omega)).cell
  go_simp
  try rfl
 go_frame
 apply tk 7 o183_ rfl (by kernel_rfl) (fun _ _ _ h => h) zk
 ·intro wq zq
  go_simp
  try rfl
 go_frame
 apply tk 8 o184_ rfl (by kernel_rfl) (fun _ _ _ h => h) zk
 ·intro wq zq
  have b0 := (HXb.out.below zq HXb.out.lt).cell
  go_simp
  try rfl
 go_frame
 apply tk 9 o185_ rfl (by kernel_rfl) (fun _ _ _ h => h) zk
 ·intro wq zq
  go_simp
  try rfl
 go_frame
 apply tk 10 o186_ rfl (by kernel_rfl) (fun _ _ _ h => h) zk
 ·intro wq zq
  have c0 := ((HCc.out.agree (Agree.of_below HB1.out HN.out) hbv).below zq (by have := HN.out bv hbv; have := HB1.out.size; omega)).cell
  go_simp
  try rfl
 go_frame
 apply tk 11 o187_ rfl (by kernel_rfl) (fun _ _ _ h => h) zk
 ·intro wq zq
  go_simp
  try rfl
 go_frame
 refine rd 4 o188_ rfl (by kernel_rfl) fun K hK => ?_
 go_simp
 refine (hA (m := m) (S := S) (HKa.out.below (HB1.out.trans (zk.mono HB1.out.size)) HN.out) (fun i hi => by have := HN.out i hi; have := HB1.out.size; have := zk.size; omega) (by have h := HL.out; rw [HX0.out] at h; (try simp only [List.length_append] at h |-); omega)).mono ?_
 rintro e w27 ⟨rfl, b27⟩
 have HB27 := bt2 (zz zk) b27
 clear b27
 go_wp2_with fail
 refine hK.out _ _ ?_ (fun zk => ?_)
 ·exact HB27.out
 clear hK K
 try go_frame
 apply tk 5 o189_ rfl (by kernel_rfl) (fun _ _ _ h => h) zk
 ·intro wq zq
  go_simp
  try rfl
 go_frame
 apply tk 6 o190_ rfl (by kernel_rfl) (fun _ _ _ h => h) zk
 ·intro wq zq
  go_simp
  try rfl
 go_frame
 refine rd 12 o191_ rfl (by kernel_rfl) fun K hK => ?_
 go_simp
 refine (hC (m := m) (S := S) rfl (HKc.out.below (HB1.out.trans (zk.mono HB1.out.size)) HN.out) (fun i hi => by have := HN.out i hi; have := HB1.out.size; have := zk.size; omega) (by have h := HL.out; rw [HX0.out] at h; (try simp only [List.length_append] at h |-); omega)).mono ?_
 rintro e w28 ⟨rfl, b28⟩
 have HB28 := bt2 (zz zk) b28
 clear b28
 go_wp2_with fail
 refine hK.out _ _ ?_ (fun zk => ?_)
 ·exact HB28.out
 clear hK K
 try go_frame
 apply tk 13 o192_ rfl (by kernel_rfl) (fun _ _ _ h => h) zk
 ·intro wq zq
  go_simp
  try rfl
 go_frame
 apply tk 14 o193_ rfl (by kernel_rfl) (fun _ _ _ h => h) zk
 ·intro wq zq
  go_simp
  try rfl
 go_frame
 refine wpAnyH_done (by kernel_rfl) ?_ _
 have HBd := zz zk
 have hz28 := (HBd.out).size
 have HB28 := zz (HB1.out.trans ((HBd.out).mono HB1.out.size))
 replace HXb := zz (HXb.out.below HBd.out HXb.out.lt)
 clear HB1
 clear HBd zk
 have b0 := HXb.out.cell
 have e0 := (HCe.out.agree (Agree.of_below HB28.out HN.out) hbv).cell
 go_wp2_with fail
 refine (hE (m := m) (S := S) rfl (HKe.out.below HB28.out HN.out) (fun i hi => by have := HN.out i hi; have := HB28.out.size; omega) (by have h := HL.out; rw [HX0.out] at h; (try simp only [List.length_append] at h |-); omega)).mono ?_
 rintro e w29 ⟨rfl, b⟩
 have hz29 := (b).size
 have HB29 := bt2 HB28 b
 replace HXb := bx HXb b
 clear HB28 b0 e0
 clear b
 have E := zz (show p5 = x by rw [HP5.out, HX0.out]; first | done | simp only [List.append_assoc])
 go_wp2
 go_ret
 exact ⟨ret_str E.out, HB29.out⟩
end
section
open Go.RowKit
variable {S : Nat -> Prop} {d : Nat} {f : Nd} {m : Md} {r : List Tr} {v : Value} {w : World} {x : List UInt8}
theorem row_13 {e : Tr} {D : Int} (hD : D = (d : Int)) (hd : d < 1000000) (hx : x = [115, 119, 105, 116, 99, 104, 32] ++ te e ++ [32] ++ [123, 10] ++ clsT r d ++ tbs d ++ [125]) (hl : x.length <= 140737488355328) (hk : f.k = 13) (hn : f.n = 1) (hA : Tells e) (hE : ∀ t ∈ r, ClaOk t d) (hK : Kids w m S v (e :: r)) (hN : ∀ i, S i -> i < w.heap.size) :
 Calls Tryz.prog 72 #[nv f v, .int .i64 D] w fun e w' => e = .returned (.string ⟨x.toArray⟩) /\ Below w.heap.size w w' := by
 subst hD
 have HE := zz hE
 have HN := zz hN
 have HQ := zz hn
 clear hE hN
 have qn := yk hn
 clear hn
 obtain ⟨bv, ov, cv, rfl, hcv, hlv, hbv, hn_a, hrr⟩ := hK.cons1
 have HRr := zz hrr
 obtain ⟨ve, HCe, HKe⟩ := hn_a.cs
 obtain ⟨Ae, ce, be, oe, rfl, h1_, h2_, h3_⟩ := HKe.out.form
 clear h1_ h2_ h3_ hK hn_a hrr
 unfold nv
 have q4 := nk 4 hk rfl
 have q5 := nk 5 hk rfl
 have q11 := nk 11 hk rfl
 have q12 := nk 12 hk rfl
 have q13 := yk hk
 clear hk
 have i1 : (1 : Int) <= (r.length : Int) + 1 := by omega
 have i2 : r.length + 1 <= cv := hcv
 by_cases hc1 : cv = 1
 ·obtain rfl : r = [] := List.eq_nil_of_length_eq_zero (by omega)
  subst hc1
  clear i1 i2
  simp only [List.length_nil, Nat.zero_add] at *
  obtain ⟨yy, hyy⟩ : ∃ y, y = clsT [] d := ⟨_, rfl⟩
  rw [<- hyy] at hx
  have HYY := zz hyy
  clear hyy
  have HX0 := zz hx
  have HL := zz hl
  have HB0 := zz (Below.refl w.heap.size w)
  clear hx hl
  obtain ⟨p1, g1, HP1⟩ := cte ⟨#[115, 119, 105, 116, 99, 104, 32]⟩ ⟨(te e).toArray⟩ [115, 119, 105, 116, 99, 104, 32] (te e) rfl rfl (by have h := HL.out; rw [HX0.out] at h; (try simp only [List.length_append] at h |-); omega)
  obtain ⟨p2, g2, HP2⟩ := cte ⟨p1.toArray⟩ ⟨#[32]⟩ _ [32] HP1.out rfl (by have h := HL.out; rw [HX0.out] at h; (try simp only [List.length_append] at h |-); omega)
  obtain ⟨p3, g3, HP3⟩ := cte ⟨p2.toArray⟩ ⟨#[123, 10]⟩ _ [123, 10] HP2.out rfl (by have h := HL.out; rw [HX0.out] at h; (try simp only [List.length_append] at h |-); omega)
  obtain ⟨p4, g4, HP4⟩ := cte ⟨p3.toArray⟩ ⟨(yy).toArray⟩ _ yy HP3.out rfl (by have h := HL.out; rw [HX0.out] at h; (try simp only [List.length_append] at h |-); omega)
  obtain ⟨p5, g5, HP5⟩ := cte ⟨p4.toArray⟩ ⟨(tbs d).toArray⟩ _ (tbs d) HP4.out rfl (by have h := HL.out; rw [HX0.out] at h; (try simp only [List.length_append] at h |-); omega)
  obtain ⟨p6, g6, HP6⟩ := cte ⟨p5.toArray⟩ ⟨#[125]⟩ _ [125] HP5.out rfl (by have h := HL.out; rw [HX0.out] at h; (try simp only [List.length_append] at h |-); omega)
  have hbs : bv < w.heap.size := HN.out bv hbv
  have e0 := al8 hbs HCe
  go_enter Tryz.func72, Tryz.ntmps72
  go_wp2_with fail
  obtain ⟨w1, hw1, HB, HXb, hs1⟩ := jb w f (.slice (some ⟨bv, ov, none⟩) 1 1)
  rw [hw1]
  clear hw1
  have hz1 := (HB.out).size
  have HB1 := bt2 HB0 HB.out
  clear HB0 e0
  clear HB
  refine (hA (m := m) (S := S) (HKe.out.below HB1.out HN.out) (fun i hi => by have := HN.out i hi; have := HB1.out.size; omega) (by have h := HL.out; rw [HX0.out] at h; (try simp only [List.length_append] at h |-); omega)).mono ?_
  rintro e w2 ⟨rfl, b⟩
  have hz2 := (b).size
  have HB2 := bt2 HB1 b
  replace HXb := bx HXb b
  clear HB1
  clear b
  have b0 := HXb.out.cell
  rw [HQ.out] at b0
  go_wp2_with fail
  refine (rclausesOf_is (d := d) rfl hd HYY.out (by have h := HL.out; rw [HX0.out] at h; (try simp only [List.length_append] at h |-); omega) HE.out (Lst.tail (r := []) (bv := bv) (ov := ov) (fun h => absurd h (by simp)) (Nat.le_refl _) hlv hbv (HRr.out.agree (Agree.of_below HB2.out HN.out) hbv)) (fun i hi => by have := HN.out i hi; have := HB2.out.size; omega)).mono ?_
  rintro e w3 ⟨rfl, b⟩
  have hz3 := (b).size
  have HB3 := bt2 HB2 b
  replace HXb := bx HXb b
  clear HB2 b0
  clear b
  go_wp2_with fail
  refine (rtabs_is (d := d) (by omega)).mono ?_
  rintro e w4 ⟨rfl, b⟩
  have hz4 := (b).size
  have HB4 := bt2 HB3 b
  replace HXb := bx HXb b
  clear HB3
  clear b
  have E := zz (show p6 = x by rw [HP6.out, HX0.out]; first | done | simp only [List.append_assoc])
  go_wp2
  go_ret
  exact ⟨ret_str E.out, HB4.out⟩
 ·have hc2 := beq_false_of_ne hc1
  have HX0 := zz hx
  have HL := zz hl
  have HB0 := zz (Below.refl w.heap.size w)
  clear hx hl
  obtain ⟨p1, g1, HP1⟩ := cte ⟨#[115, 119, 105, 116, 99, 104, 32]⟩ ⟨(te e).toArray⟩ [115, 119, 105, 116, 99, 104, 32] (te e) rfl rfl (by have h := HL.out; rw [HX0.out] at h; (try simp only [List.length_append] at h |-); omega)
  obtain ⟨p2, g2, HP2⟩ := cte ⟨p1.toArray⟩ ⟨#[32]⟩ _ [32] HP1.out rfl (by have h := HL.out; rw [HX0.out] at h; (try simp only [List.length_append] at h |-); omega)
  obtain ⟨p3, g3, HP3⟩ := cte ⟨p2.toArray⟩ ⟨#[123, 10]⟩ _ [123, 10] HP2.out rfl (by have h := HL.out; rw [HX0.out] at h; (try simp only [List.length_append] at h |-); omega)
  obtain ⟨p4, g4, HP4⟩ := cte ⟨p3.toArray⟩ ⟨(clsT r d).toArray⟩ _ (clsT r d) HP3.out rfl (by have h := HL.out; rw [HX0.out] at h; (try simp only [List.length_append] at h |-); omega)
  obtain ⟨p5, g5, HP5⟩ := cte ⟨p4.toArray⟩ ⟨(tbs d).toArray⟩ _ (tbs d) HP4.out rfl (by have h := HL.out; rw [HX0.out] at h; (try simp only [List.length_append] at h |-); omega)
  obtain ⟨p6, g6, HP6⟩ := cte ⟨p5.toArray⟩ ⟨#[125]⟩ _ [125] HP5.out rfl (by have h := HL.out; rw [HX0.out] at h; (try simp only [List.length_append] at h |-); omega)
  have hbs : bv < w.heap.size := HN.out bv hbv
  have e0 := al8 hbs HCe
  go_enter Tryz.func72, Tryz.ntmps72
  go_wp2_with fail
  obtain ⟨w1, hw1, HB, HXb, hs1⟩ := jb w f (.slice (some ⟨bv, ov, none⟩) (r.length + 1) cv)
  rw [hw1]
  clear hw1
  have hz1 := (HB.out).size
  have HB1 := bt2 HB0 HB.out
  clear HB0 e0
  clear HB
  refine (hA (m := m) (S := S) (HKe.out.below HB1.out HN.out) (fun i hi => by have := HN.out i hi; have := HB1.out.size; omega) (by have h := HL.out; rw [HX0.out] at h; (try simp only [List.length_append] at h |-); omega)).mono ?_
  rintro e w2 ⟨rfl, b⟩
  have hz2 := (b).size
  have HB2 := bt2 HB1 b
  replace HXb := bx HXb b
  clear HB1
  clear b
  have b0 := HXb.out.cell
  rw [HQ.out] at b0
  go_wp2_with fail
  refine (rclausesOf_is (d := d) rfl hd rfl (by have h := HL.out; rw [HX0.out] at h; (try simp only [List.length_append] at h |-); omega) HE.out (Lst.tail (bv := bv) (ov := ov) (fun _ => rfl) (by omega) hlv hbv (HRr.out.agree (Agree.of_below HB2.out HN.out) hbv)) (fun i hi => by have := HN.out i hi; have := HB2.out.size; omega)).mono ?_
  rintro e w3 ⟨rfl, b⟩
  have hz3 := (b).size
  have HB3 := bt2 HB2 b
  replace HXb := bx HXb b
  clear HB2 b0
  clear b
  go_wp2_with fail
  refine (rtabs_is (d := d) (by omega)).mono ?_
  rintro e w4 ⟨rfl, b⟩
  have hz4 := (b).size
  have HB4 := bt2 HB3 b
  replace HXb := bx HXb b
  clear HB3
  clear b
  have E := zz (show p6 = x by rw [HP6.out, HX0.out]; first | done | simp only [List.append_assoc])
  go_wp2
  go_ret
  exact ⟨ret_str E.out, HB4.out⟩
end
end Go.Proofs.YtmdhjiammcpogaaGreatDoor
