import Derived.Test.YtmdhjiammcpogaaGreatDoorQ33
namespace Go.Proofs.YtmdhjiammcpogaaGreatDoor
set_option maxRecDepth 100000
set_option maxHeartbeats 16000000
open Go.RowKit
variable {S : Nat -> Prop} {a : Tr} {f : Nd} {m : Md} {r : List Tr} {v : Value} {w : World} {x : List UInt8}
theorem told_30 (hx : x = brk (meB a.f) (te a) ++ ([46] ++ bs f.t) ++ ([40] ++ cm (r.map te) ++ [41])) (hl : x.length <= 140737488355328) (hk : f.k = 30) (hA : Tells a) (hR : ∀ t ∈ r, Tells t) (hK : Kids w m S v (a :: r)) (hN : ∀ i, S i -> i < w.heap.size) :
 Calls Tryz.prog 92 #[nv f v] w fun e w' => e = .returned (.string ⟨x.toArray⟩) /\ Below w.heap.size w w' := by
 have HE := zz hR
 have HN := zz hN
 clear hR hN
 obtain ⟨bv, ov, cv, rfl, hcv, hlv, hbv, hn_a, hrr⟩ := hK.cons1
 have HRr := zz hrr
 obtain ⟨va, HCa, HKa⟩ := hn_a.cs
 obtain ⟨Aa, ca, ba, oa, rfl, h1_, h2_, h3_⟩ := HKa.out.form
 clear h1_ h2_ h3_ hK hn_a hrr
 unfold nv
 have q21 := nk 21 hk rfl
 have q22 := nk 22 hk rfl
 have q23 := nk 23 hk rfl
 have q24 := nk 24 hk rfl
 have q25 := nk 25 hk rfl
 have q26 := nk 26 hk rfl
 have q27 := nk 27 hk rfl
 have q28 := nk 28 hk rfl
 have q29 := nk 29 hk rfl
 clear hk
 have i1 : (1 : Int) <= (r.length : Int) + 1 := by omega
 have i2 : r.length + 1 <= cv := hcv
 by_cases hc1 : cv = 1
 ·obtain rfl : r = [] := List.eq_nil_of_length_eq_zero (by omega)
  subst hc1
  clear i1 i2
  simp only [List.length_nil, Nat.zero_add] at *
  obtain ⟨yy, hyy⟩ : ∃ y, y = cm (([] : List Tr).map te) := ⟨_, rfl⟩
  rw [<- hyy] at hx
  have HYY := zz hyy
  clear hyy
  by_cases h27 : a.f.k = 27
  ·have q27' := yk h27
   have HM := zz (show meB a.f = true by unfold meB; rw [q27']; simp)
   clear h27
   have HX0 := zz hx
   have HL := zz hl
   have HB0 := zz (Below.refl w.heap.size w)
   clear hx hl
   obtain ⟨p1, g1, HP1⟩ := cte ⟨(brk (meB a.f) (te a)).toArray⟩ ⟨#[46]⟩ (brk (meB a.f) (te a)) [46] rfl rfl (by have h := HL.out; rw [HX0.out] at h; (try simp only [List.length_append] at h |-); omega)
   obtain ⟨p2, g2, HP2⟩ := cte ⟨p1.toArray⟩ f.t _ (bs f.t) HP1.out rfl (by have h := HL.out; rw [HX0.out] at h; (try simp only [List.length_append] at h |-); omega)
   obtain ⟨p3, g3, HP3⟩ := cte ⟨p2.toArray⟩ ⟨#[40]⟩ _ [40] HP2.out rfl (by have h := HL.out; rw [HX0.out] at h; (try simp only [List.length_append] at h |-); omega)
   obtain ⟨p4, g4, HP4⟩ := cte ⟨p3.toArray⟩ ⟨(yy).toArray⟩ _ yy HP3.out rfl (by have h := HL.out; rw [HX0.out] at h; (try simp only [List.length_append] at h |-); omega)
   obtain ⟨p5, g5, HP5⟩ := cte ⟨p4.toArray⟩ ⟨#[41]⟩ _ [41] HP4.out rfl (by have h := HL.out; rw [HX0.out] at h; (try simp only [List.length_append] at h |-); omega)
   have hbs : bv < w.heap.size := HN.out bv hbv
   have a0 := al8 hbs HCa
   go_enter Tryz.func92, Tryz.ntmps92
   go_wp2_with fail
   obtain ⟨w1, hw1, HB, HXb, hs1⟩ := jb w f (.slice (some ⟨bv, ov, none⟩) 1 1)
   rw [hw1]
   clear hw1
   have hz1 := (HB.out).size
   have HB1 := bt2 HB0 HB.out
   clear HB0 a0
   clear HB
   obtain ⟨w2, hw2, HB, HXk, hs2⟩ := jb w1 a.f (.slice Aa a.ks.length ca)
   rw [hw2]
   clear hw2
   have hz2 := (HB.out).size
   have HB2 := bt2 HB1 HB.out
   replace HXb := bx HXb HB.out
   clear HB1
   rw [show w1.heap.size = w.heap.size + 1 by omega] at HXk
   clear HB
   refine wp_region_held_drew (S := Below w2.heap.size w2) (by kernel_rfl) ?_ (fun zk => ?_)
   ·exact zd _
   apply tk 0 o281_ rfl (by kernel_rfl) (fun _ _ _ h => h) zk
   ·intro wq zq
    have k0 := (HXk.out.below zq HXk.out.lt).cell
    go_simp
    try rfl
   go_frame
   apply tk 1 o282_ rfl (by kernel_rfl) (fun _ _ _ h => h) zk
   ·intro wq zq
    go_simp
    try rfl
   go_frame
   apply tk 2 o283_ rfl (by kernel_rfl) (fun _ _ _ h => h) zk
   ·intro wq zq
    have k0 := (HXk.out.below zq HXk.out.lt).cell
    go_simp
    try rfl
   go_frame
   apply tk 3 o284_ rfl (by kernel_rfl) (fun _ _ _ h => h) zk
   ·intro wq zq
    go_simp
    try rfl
   go_frame
   apply tk 4 o285_ rfl (by kernel_rfl) (fun _ _ _ h => h) zk
   ·intro wq zq
    go_simp
    try rfl
   go_frame
   refine sk 5 o286_ rfl (by kernel_rfl) (fun _ _ _ h => h) zk ?_
   go_frame
   refine sk 6 o287_ rfl (by kernel_rfl) (fun _ _ _ h => h) zk ?_
   go_frame
   refine sk 7 o288_ rfl (by kernel_rfl) (fun _ _ _ h => h) zk ?_
   go_frame
   apply tk 8 o289_ rfl (by kernel_rfl) (fun _ _ _ h => h) zk
   ·intro wq zq
    go_simp
    try rfl
   go_frame
   apply tk 11 o290_ rfl (by kernel_rfl) (fun _ _ _ h => h) zk
   ·intro wq zq
    go_simp
    try rfl
   go_frame
   apply tk 12 o291_ rfl (by kernel_rfl) (fun _ _ _ h => h) zk
   ·intro wq zq
    have b0 := (HXb.out.below zq HXb.out.lt).cell
    go_simp
    try rfl
   go_frame
   apply tk 15 o292_ rfl (by kernel_rfl) (fun _ _ _ h => h) zk
   ·intro wq zq
    go_simp
    try rfl
   go_frame
   apply tk 16 o293_ rfl (by kernel_rfl) (fun _ _ _ h => h) zk
   ·intro wq zq
    have b0 := (HXb.out.below zq HXb.out.lt).cell
    go_simp
    try rfl
   go_frame
   apply tk 17 o294_ rfl (by kernel_rfl) (fun _ _ _ h => h) zk
   ·intro wq zq
    go_simp
    try rfl
   go_frame
   refine rd 9 o295_ rfl (by kernel_rfl) fun K hK => ?_
   go_simp
   refine (rheld_is (x := brk (meB a.f) (te a)) (b := true) (by rw [HM.out]) (by have h := HL.out; rw [HX0.out] at h; (try simp only [List.length_append] at h |-); omega) hA (HKa.out.below (HB2.out.trans (zk.mono HB2.out.size)) HN.out) (fun i hi => by have := HN.out i hi; have := HB2.out.size; have := zk.size; omega)).mono ?_
   rintro e w27 ⟨rfl, b27⟩
   have HB27 := bt2 (zz zk) b27
   clear b27
   go_wp2_with fail
   refine hK.out _ _ ?_ (fun zk => ?_)
   ·exact HB27.out
   clear hK K
   try go_frame
   apply tk 10 o296_ rfl (by kernel_rfl) (fun _ _ _ h => h) zk
   ·intro wq zq
    go_simp
    try rfl
   go_frame
   apply tk 13 o297_ rfl (by kernel_rfl) (fun _ _ _ h => h) zk
   ·intro wq zq
    go_simp
    try rfl
   go_frame
   apply tk 14 o298_ rfl (by kernel_rfl) (fun _ _ _ h => h) zk
   ·intro wq zq
    go_simp
    try rfl
   go_frame
   refine rd 18 o299_ rfl (by kernel_rfl) fun K hK => ?_
   go_simp
   refine (rlist_is HYY.out (by have h := HL.out; rw [HX0.out] at h; (try simp only [List.length_append] at h |-); omega) HE.out (Lst.tail (r := []) (bv := bv) (ov := ov) (fun h => absurd h (by simp)) (Nat.le_refl _) hlv hbv (HRr.out.agree (Agree.of_below (HB2.out.trans (zk.mono HB2.out.size)) HN.out) hbv)) (fun i hi => by have := HN.out i hi; have := HB2.out.size; have := zk.size; omega)).mono ?_
   rintro e w28 ⟨rfl, b28⟩
   have HB28 := bt2 (zz zk) b28
   clear b28
   go_wp2_with fail
   refine hK.out _ _ ?_ (fun zk => ?_)
   ·exact HB28.out
   clear hK K
   try go_frame
   apply tk 19 o300_ rfl (by kernel_rfl) (fun _ _ _ h => h) zk
   ·intro wq zq
    go_simp
    try rfl
   go_frame
   apply tk 20 o301_ rfl (by kernel_rfl) (fun _ _ _ h => h) zk
   ·intro wq zq
    go_simp
    try rfl
   go_frame
   apply tk 21 o302_ rfl (by kernel_rfl) (fun _ _ _ h => h) zk
   ·intro wq zq
    go_simp
    try rfl
   go_frame
   refine wpAnyH_done (by kernel_rfl) ?_ _
   replace HB2 := bt2 HB2 zk
   replace HXb := bx HXb zk
   replace HXk := bx HXk zk
   have E := zz (show p5 = x by rw [HP5.out, HX0.out]; first | done | simp only [List.append_assoc])
   go_wp2
   go_ret
   exact ⟨ret_str E.out, HB2.out⟩
  have q27' := beq_false_of_ne h27
  by_cases h26 : a.f.k = 26
  ·have q26' := yk h26
   have HM := zz (show meB a.f = true by unfold meB; rw [q26']; rfl)
   clear h27 h26
   have HX0 := zz hx
   have HL := zz hl
   have HB0 := zz (Below.refl w.heap.size w)
   clear hx hl
   obtain ⟨p1, g1, HP1⟩ := cte ⟨(brk (meB a.f) (te a)).toArray⟩ ⟨#[46]⟩ (brk (meB a.f) (te a)) [46] rfl rfl (by have h := HL.out; rw [HX0.out] at h; (try simp only [List.length_append] at h |-); omega)
   obtain ⟨p2, g2, HP2⟩ := cte ⟨p1.toArray⟩ f.t _ (bs f.t) HP1.out rfl (by have h := HL.out; rw [HX0.out] at h; (try simp only [List.length_append] at h |-); omega)
   obtain ⟨p3, g3, HP3⟩ := cte ⟨p2.toArray⟩ ⟨#[40]⟩ _ [40] HP2.out rfl (by have h := HL.out; rw [HX0.out] at h; (try simp only [List.length_append] at h |-); omega)
   obtain ⟨p4, g4, HP4⟩ := cte ⟨p3.toArray⟩ ⟨(yy).toArray⟩ _ yy HP3.out rfl (by have h := HL.out; rw [HX0.out] at h; (try simp only [List.length_append] at h |-); omega)
   obtain ⟨p5, g5, HP5⟩ := cte ⟨p4.toArray⟩ ⟨#[41]⟩ _ [41] HP4.out rfl (by have h := HL.out; rw [HX0.out] at h; (try simp only [List.length_append] at h |-); omega)
   have hbs : bv < w.heap.size := HN.out bv hbv
   have a0 := al8 hbs HCa
   go_enter Tryz.func92, Tryz.ntmps92
   go_wp2_with fail
   obtain ⟨w1, hw1, HB, HXb, hs1⟩ := jb w f (.slice (some ⟨bv, ov, none⟩) 1 1)
   rw [hw1]
   clear hw1
   have hz1 := (HB.out).size
   have HB1 := bt2 HB0 HB.out
   clear HB0 a0
   clear HB
   obtain ⟨w2, hw2, HB, HXk, hs2⟩ := jb w1 a.f (.slice Aa a.ks.length ca)
   rw [hw2]
   clear hw2
   have hz2 := (HB.out).size
   have HB2 := bt2 HB1 HB.out
   replace HXb := bx HXb HB.out
   clear HB1
   rw [show w1.heap.size = w.heap.size + 1 by omega] at HXk
   clear HB
   refine wp_region_held_drew (S := Below w2.heap.size w2) (by kernel_rfl) ?_ (fun zk => ?_)
   ·exact zd _
   apply tk 0 o281_ rfl (by kernel_rfl) (fun _ _ _ h => h) zk
   ·intro wq zq
    have k0 := (HXk.out.below zq HXk.out.lt).cell
    go_simp
    try rfl
   go_frame
   apply tk 1 o282_ rfl (by kernel_rfl) (fun _ _ _ h => h) zk
   ·intro wq zq
    go_simp
    try rfl
   go_frame
   apply tk 2 o283_ rfl (by kernel_rfl) (fun _ _ _ h => h) zk
   ·intro wq zq
    have k0 := (HXk.out.below zq HXk.out.lt).cell
    go_simp
    try rfl
   go_frame
   apply tk 3 o284_ rfl (by kernel_rfl) (fun _ _ _ h => h) zk
   ·intro wq zq
    go_simp
    try rfl
   go_frame
   apply tk 4 o285_ rfl (by kernel_rfl) (fun _ _ _ h => h) zk
   ·intro wq zq
    go_simp
    try rfl
   go_frame
   apply tk 5 o286_ rfl (by kernel_rfl) (fun _ _ _ h => h) zk
   ·intro wq zq
    go_simp
    try rfl
   go_frame
   apply tk 6 o287_ rfl (by kernel_rfl) (fun _ _ _ h => h) zk
   ·intro wq zq
    have k0 := (HXk.out.below zq HXk.out.lt).cell
    go_simp
    try rfl
   go_frame
   apply tk 7 o288_ rfl (by kernel_rfl) (fun _ _ _ h => h) zk
   ·intro wq zq
    go_simp
    try rfl
   go_frame
   apply tk 8 o289_ rfl (by kernel_rfl) (fun _ _ _ h => h) zk
   ·intro wq zq
    go_simp
    try rfl
   go_frame
   apply tk 11 o290_ rfl (by kernel_rfl) (fun _ _ _ h => h) zk
   ·intro wq zq
    go_simp
    try rfl
   go_frame
   apply tk 12 o291_ rfl (by kernel_rfl) (fun _ _ _ h => h) zk
   ·intro wq zq
    have b0 := (HXb.out.below zq HXb.out.lt).cell
    go_simp
    try rfl
   go_frame
   apply tk 15 o292_ rfl (by kernel_rfl) (fun _ _ _ h => h) zk
   ·intro wq zq
    go_simp
    try rfl
   go_frame
   apply tk 16 o293_ rfl (by kernel_rfl) (fun _ _ _ h => h) zk
   ·intro wq zq
    have b0 := (HXb.out.below zq HXb.out.lt).cell
    go_simp
    try rfl
   go_frame
   apply tk 17 o294_ rfl (by kernel_rfl) (fun _ _ _ h => h) zk
   ·intro wq zq
    go_simp
    try rfl
   go_frame
   refine rd 9 o295_ rfl (by kernel_rfl) fun K hK => ?_
   go_simp
   refine (rheld_is (x := brk (meB a.f) (te a)) (b := true) (by rw [HM.out]) (by have h := HL.out; rw [HX0.out] at h; (try simp only [List.length_append] at h |-); omega) hA (HKa.out.below (HB2.out.trans (zk.mono HB2.out.size)) HN.out) (fun i hi => by have := HN.out i hi; have := HB2.out.size; have := zk.size; omega)).mono ?_
   rintro e w27 ⟨rfl, b27⟩
   have HB27 := bt2 (zz zk) b27
   clear b27
   go_wp2_with fail
   refine hK.out _ _ ?_ (fun zk => ?_)
   ·exact HB27.out
   clear hK K
   try go_frame
   apply tk 10 o296_ rfl (by kernel_rfl) (fun _ _ _ h => h) zk
   ·intro wq zq
    go_simp
    try rfl
   go_frame
   apply tk 13 o297_ rfl (by kernel_rfl) (fun _ _ _ h => h) zk
   ·intro wq zq
    go_simp
    try rfl
   go_frame
   apply tk 14 o298_ rfl (by kernel_rfl) (fun _ _ _ h => h) zk
   ·intro wq zq
    go_simp
    try rfl
   go_frame
   refine rd 18 o299_ rfl (by kernel_rfl) fun K hK => ?_
   go_simp
   refine (rlist_is HYY.out (by have h := HL.out; rw [HX0.out] at h; (try simp only [List.length_append] at h |-); omega) HE.out (Lst.tail (r := []) (bv := bv) (ov := ov) (fun h => absurd h (by simp)) (Nat.le_refl _) hlv hbv (HRr.out.agree (Agree.of_below (HB2.out.trans (zk.mono HB2.out.size)) HN.out) hbv)) (fun i hi => by have := HN.out i hi; have := HB2.out.size; have := zk.size; omega)).mono ?_
   rintro e w28 ⟨rfl, b28⟩
   have HB28 := bt2 (zz zk) b28
   clear b28
   go_wp2_with fail
   refine hK.out _ _ ?_ (fun zk => ?_)
   ·exact HB28.out
   clear hK K
   try go_frame
   apply tk 19 o300_ rfl (by kernel_rfl) (fun _ _ _ h => h) zk
   ·intro wq zq
    go_simp
    try rfl
   go_frame
   apply tk 20 o301_ rfl (by kernel_rfl) (fun _ _ _ h => h) zk
   ·intro wq zq
    go_simp
    try rfl
   go_frame
   apply tk 21 o302_ rfl (by kernel_rfl) (fun _ _ _ h => h) zk
   ·intro wq zq
    go_simp
    try rfl
   go_frame
   refine wpAnyH_done (by kernel_rfl) ?_ _
   replace HB2 := bt2 HB2 zk
   replace HXb := bx HXb zk
   replace HXk := bx HXk zk
   have E := zz (show p5 = x by rw [HP5.out, HX0.out]; first | done | simp only [List.append_assoc])
   go_wp2
   go_ret
   exact ⟨ret_str E.out, HB2.out⟩
  have q26' := beq_false_of_ne h26
  have HM := zz (show meB a.f = false by unfold meB; rw [q26', q27']; rfl)
  clear h27 h26
  have HX0 := zz hx
  have HL := zz hl
  have HB0 := zz (Below.refl w.heap.size w)
  clear hx hl
  obtain ⟨p1, g1, HP1⟩ := cte ⟨(brk (meB a.f) (te a)).toArray⟩ ⟨#[46]⟩ (brk (meB a.f) (te a)) [46] rfl rfl (by have h := HL.out; rw [HX0.out] at h; (try simp only [List.length_append] at h |-); omega)
  obtain ⟨p2, g2, HP2⟩ := cte ⟨p1.toArray⟩ f.t _ (bs f.t) HP1.out rfl (by have h := HL.out; rw [HX0.out] at h; (try simp only [List.length_append] at h |-); omega)
  obtain ⟨p3, g3, HP3⟩ := cte ⟨p2.toArray⟩ ⟨#[40]⟩ _ [40] HP2.out rfl (by have h := HL.out; rw [HX0.out] at h; (try simp only [List.length_append] at h |-); omega)
  obtain ⟨p4, g4, HP4⟩ := cte ⟨p3.toArray⟩ ⟨(yy).toArray⟩ _ yy HP3.out rfl (by have h := HL.out; rw [HX0.out] at h; (try simp only [List.length_append] at h |-); omega)
  obtain ⟨p5, g5, HP5⟩ := cte ⟨p4.toArray⟩ ⟨#[41]⟩ _ [41] HP4.out rfl (by have h := HL.out; rw [HX0.out] at h; (try simp only [List.length_append] at h |-); omega)
  have hbs : bv < w.heap.size := HN.out bv hbv
  have a0 := al8 hbs HCa
  go_enter Tryz.func92, Tryz.ntmps92
  go_wp2_with fail
  obtain ⟨w1, hw1, HB, HXb, hs1⟩ := jb w f (.slice (some ⟨bv, ov, none⟩) 1 1)
  rw [hw1]
  clear hw1
  have hz1 := (HB.out).size
  have HB1 := bt2 HB0 HB.out
  clear HB0 a0
  clear HB
  obtain ⟨w2, hw2, HB, HXk, hs2⟩ := jb w1 a.f (.slice Aa a.ks.length ca)
  rw [hw2]
  clear hw2
  have hz2 := (HB.out).size
  have HB2 := bt2 HB1 HB.out
  replace HXb := bx HXb HB.out
  clear HB1
  rw [show w1.heap.size = w.heap.size + 1 by omega] at HXk
  clear HB
  refine wp_region_held_drew (S := Below w2.heap.size w2) (by kernel_rfl) ?_ (fun zk => ?_)
  ·exact zd _
  apply tk 0 o281_ rfl (by kernel_rfl) (fun _ _ _ h => h) zk
  ·intro wq zq
   have k0 := (HXk.out.below zq HXk.out.lt).cell
   go_simp
   try rfl
  go_frame
  apply tk 1 o282_ rfl (by kernel_rfl) (fun _ _ _ h => h) zk
  ·intro wq zq
   go_simp
   try rfl
  go_frame
  apply tk 2 o283_ rfl (by kernel_rfl) (fun _ _ _ h => h) zk
  ·intro wq zq
   have k0 := (HXk.out.below zq HXk.out.lt).cell
   go_simp
   try rfl
  go_frame
  apply tk 3 o284_ rfl (by kernel_rfl) (fun _ _ _ h => h) zk
  ·intro wq zq
   go_simp
   try rfl
  go_frame
  apply tk 4 o285_ rfl (by kernel_rfl) (fun _ _ _ h => h) zk
  ·intro wq zq
   go_simp
   try rfl
  go_frame
  apply tk 5 o286_ rfl (by kernel_rfl) (fun _ _ _ h => h) zk
  ·intro wq zq
   go_simp
   try rfl
  go_frame
  apply tk 6 o287_ rfl (by kernel_rfl) (fun _ _ _ h => h) zk
  ·intro wq zq
   have k0 := (HXk.out.below zq HXk.out.lt).cell
   go_simp
   try rfl
  go_frame
  apply tk 7 o288_ rfl (by kernel_rfl) (fun _ _ _ h => h) zk
  ·intro wq zq
   go_simp
   try rfl
  go_frame
  apply tk 8 o289_ rfl (by kernel_rfl) (fun _ _ _ h => h) zk
  ·intro wq zq
   go_simp
   try rfl
  go_frame
  apply tk 11 o290_ rfl (by kernel_rfl) (fun _ _ _ h => h) zk
  ·intro wq zq
   go_simp
   try rfl
  go_frame
  apply tk 12 o291_ rfl (by kernel_rfl) (fun _ _ _ h => h) zk
  ·intro wq zq
   have b0 := (HXb.out.below zq HXb.out.lt).cell
   go_simp
   try rfl
  go_frame
  apply tk 15 o292_ rfl (by kernel_rfl) (fun _ _ _ h => h) zk
  ·intro wq zq
   go_simp
   try rfl
  go_frame
  apply tk 16 o293_ rfl (by kernel_rfl) (fun _ _ _ h => h) zk
  ·intro wq zq
   have b0 := (HXb.out.below zq HXb.out.lt).cell
   go_simp
   try rfl
  go_frame
  apply tk 17 o294_ rfl (by kernel_rfl) (fun _ _ _ h => h) zk
  ·intro wq zq
   go_simp
   try rfl
  go_frame
  refine rd 9 o295_ rfl (by kernel_rfl) fun K hK => ?_
  go_simp
  refine (rheld_is (x := brk (meB a.f) (te a)) (b := false) (by rw [HM.out]) (by have h := HL.out; rw [HX0.out] at h; (try simp only [List.length_append] at h |-); omega) hA (HKa.out.below (HB2.out.trans (zk.mono HB2.out.size)) HN.out) (fun i hi => by have := HN.out i hi; have := HB2.out.size; have := zk.size; omega)).mono ?_
  rintro e w27 ⟨rfl, b27⟩
  have HB27 := bt2 (zz zk) b27
  clear b27
  go_wp2_with fail
  refine hK.out _ _ ?_ (fun zk => ?_)
  ·exact HB27.out
  clear hK K
  try go_frame
  apply tk 10 o296_ rfl (by kernel_rfl) (fun _ _ _ h => h) zk
  ·intro wq zq
   go_simp
   try rfl
  go_frame
  apply tk 13 o297_ rfl (by kernel_rfl) (fun _ _ _ h => h) zk
  ·intro wq zq
   go_simp
   try rfl
  go_frame
  apply tk 14 o298_ rfl (by kernel_rfl) (fun _ _ _ h => h) zk
  ·intro wq zq
   go_simp
   try rfl
  go_frame
  refine rd 18 o299_ rfl (by kernel_rfl) fun K hK => ?_
  go_simp
  refine (rlist_is HYY.out (by have h := HL.out; rw [HX0.out] at h; (try simp only [List.length_append] at h |-); omega) HE.out (Lst.tail (r := []) (bv := bv) (ov := ov) (fun h => absurd h (by simp)) (Nat.le_refl _) hlv hbv (HRr.out.agree (Agree.of_below (HB2.out.trans (zk.mono HB2.out.size)) HN.out) hbv)) (fun i hi => by have := HN.out i hi; have := HB2.out.size; have := zk.size; omega)).mono ?_
  rintro e w28 ⟨rfl, b28⟩
  have HB28 := bt2 (zz zk) b28
  clear b28
  go_wp2_with fail
  refine hK.out _ _ ?_ (fun zk => ?_)
  ·exact HB28.out
  clear hK K
  try go_frame
  apply tk 19 o300_ rfl (by kernel_rfl) (fun _ _ _ h => h) zk
  ·intro wq zq
   go_simp
   try rfl
  go_frame
  apply tk 20 o301_ rfl (by kernel_rfl) (fun _ _ _ h => h) zk
  ·intro wq zq
   go_simp
   try rfl
  go_frame
  apply tk 21 o302_ rfl (by kernel_rfl) (fun _ _ _ h => h) zk
  ·intro wq zq
   go_simp
   try rfl
  go_frame
  refine wpAnyH_done (by kernel_rfl) ?_ _
  replace HB2 := bt2 HB2 zk
  replace HXb := bx HXb zk
  replace HXk := bx HXk zk
  have E := zz (show p5 = x by rw [HP5.out, HX0.out]; first | done | simp only [List.append_assoc])
  go_wp2
  go_ret
  exact ⟨ret_str E.out, HB2.out⟩
 ·have hc2 := beq_false_of_ne hc1
  by_cases h27 : a.f.k = 27
  ·have q27' := yk h27
   have HM := zz (show meB a.f = true by unfold meB; rw [q27']; simp)
   clear h27
   have HX0 := zz hx
   have HL := zz hl
   have HB0 := zz (Below.refl w.heap.size w)
   clear hx hl
   obtain ⟨p1, g1, HP1⟩ := cte ⟨(brk (meB a.f) (te a)).toArray⟩ ⟨#[46]⟩ (brk (meB a.f) (te a)) [46] rfl rfl (by have h := HL.out; rw [HX0.out] at h; (try simp only [List.length_append] at h |-); omega)
   obtain ⟨p2, g2, HP2⟩ := cte ⟨p1.toArray⟩ f.t _ (bs f.t) HP1.out rfl (by have h := HL.out; rw [HX0.out] at h; (try simp only [List.length_append] at h |-); omega)
   obtain ⟨p3, g3, HP3⟩ := cte ⟨p2.toArray⟩ ⟨#[40]⟩ _ [40] HP2.out rfl (by have h := HL.out; rw [HX0.out] at h; (try simp only [List.length_append] at h |-); omega)
   obtain ⟨p4, g4, HP4⟩ := cte ⟨p3.toArray⟩ ⟨(cm (r.map te)).toArray⟩ _ (cm (r.map te)) HP3.out rfl (by have h := HL.out; rw [HX0.out] at h; (try simp only [List.length_append] at h |-); omega)
   obtain ⟨p5, g5, HP5⟩ := cte ⟨p4.toArray⟩ ⟨#[41]⟩ _ [41] HP4.out rfl (by have h := HL.out; rw [HX0.out] at h; (try simp only [List.length_append] at h |-); omega)
   have hbs : bv < w.heap.size := HN.out bv hbv
   have a0 := al8 hbs HCa
   go_enter Tryz.func92, Tryz.ntmps92
   go_wp2_with fail
   obtain ⟨w1, hw1, HB, HXb, hs1⟩ := jb w f (.slice (some ⟨bv, ov, none⟩) (r.length + 1) cv)
   rw [hw1]
   clear hw1
   have hz1 := (HB.out).size
   have HB1 := bt2 HB0 HB.out
   clear HB0 a0
   clear HB
   obtain ⟨w2, hw2, HB, HXk, hs2⟩ := jb w1 a.f (.slice Aa a.ks.length ca)
   rw [hw2]
   clear hw2
   have hz2 := (HB.out).size
   have HB2 := bt2 HB1 HB.out
   replace HXb := bx HXb HB.out
   clear HB1
   rw [show w1.heap.size = w.heap.size + 1 by omega] at HXk
   clear HB
   refine wp_region_held_drew (S := Below w2.heap.size w2) (by kernel_rfl) ?_ (fun zk => ?_)
   ·exact zd _
   apply tk 0 o281_ rfl (by kernel_rfl) (fun _ _ _ h => h) zk
   ·intro wq zq
    have k0 := (HXk.out.below zq HXk.out.lt).cell
    go_simp
    try rfl
   go_frame
   apply tk 1 o282_ rfl (by kernel_rfl) (fun _ _ _ h => h) zk
   ·intro wq zq
    go_simp
    try rfl
   go_frame
   apply tk 2 o283_ rfl (by kernel_rfl) (fun _ _ _ h => h) zk
   ·intro wq zq
    have k0 := (HXk.out.below zq HXk.out.lt).cell
    go_simp
    try rfl
   go_frame
   apply tk 3 o284_ rfl (by kernel_rfl) (fun _ _ _ h => h) zk
   ·intro wq zq
    go_simp
    try rfl
   go_frame
   apply tk 4 o285_ rfl (by kernel_rfl) (fun _ _ _ h => h) zk
   ·intro wq zq
    go_simp
    try rfl
   go_frame
   refine sk 5 o286_ rfl (by kernel_rfl) (fun _ _ _ h => h) zk ?_
   go_frame
   refine sk 6 o287_ rfl (by kernel_rfl) (fun _ _ _ h => h) zk ?_
   go_frame
   refine sk 7 o288_ rfl (by kernel_rfl) (fun _ _ _ h => h) zk ?_
   go_frame
   apply tk 8 o289_ rfl (by kernel_rfl) (fun _ _ _ h => h) zk
   ·intro wq zq
    go_simp
    try rfl
   go_frame
   apply tk 11 o290_ rfl (by kernel_rfl) (fun _ _ _ h => h) zk
   ·intro wq zq
    go_simp
    try rfl
   go_frame
   apply tk 12 o291_ rfl (by kernel_rfl) (fun _ _ _ h => h) zk
   ·intro wq zq
    have b0 := (HXb.out.below zq HXb.out.lt).cell
    go_simp
    try rfl
   go_frame
   apply tk 15 o292_ rfl (by kernel_rfl) (fun _ _ _ h => h) zk
   ·intro wq zq
    go_simp
    try rfl
   go_frame
   apply tk 16 o293_ rfl (by kernel_rfl) (fun _ _ _ h => h) zk
   ·intro wq zq
    have b0 := (HXb.out.below zq HXb.out.lt).cell
    go_simp
    try rfl
   go_frame
   apply tk 17 o294_ rfl (by kernel_rfl) (fun _ _ _ h => h) zk
   ·intro wq zq
    go_simp
    try rfl
   go_frame
   refine rd 9 o295_ rfl (by kernel_rfl) fun K hK => ?_
   go_simp
   refine (rheld_is (x := brk (meB a.f) (te a)) (b := true) (by rw [HM.out]) (by have h := HL.out; rw [HX0.out] at h; (try simp only [List.length_append] at h |-); omega) hA (HKa.out.below (HB2.out.trans (zk.mono HB2.out.size)) HN.out) (fun i hi => by have := HN.out i hi; have := HB2.out.size; have := zk.size; omega)).mono ?_
   rintro e w27 ⟨rfl, b27⟩
   have HB27 := bt2 (zz zk) b27
   clear b27
   go_wp2_with fail
   refine hK.out _ _ ?_ (fun zk => ?_)
   ·exact HB27.out
   clear hK K
   try go_frame
   apply tk 10 o296_ rfl (by kernel_rfl) (fun _ _ _ h => h) zk
   ·intro wq zq
    go_simp
    try rfl
   go_frame
   apply tk 13 o297_ rfl (by kernel_rfl) (fun _ _ _ h => h) zk
   ·intro wq zq
    go_simp
    try rfl
   go_frame
   apply tk 14 o298_ rfl (by kernel_rfl) (fun _ _ _ h => h) zk
   ·intro wq zq
    go_simp
    try rfl
   go_frame
   refine rd 18 o299_ rfl (by kernel_rfl) fun K hK => ?_
   go_simp
   refine (rlist_is rfl (by have h := HL.out; rw [HX0.out] at h; (try simp only [List.length_append] at h |-); omega) HE.out (Lst.tail (bv := bv) (ov := ov) (fun _ => rfl) (by omega) hlv hbv (HRr.out.agree (Agree.of_below (HB2.out.trans (zk.mono HB2.out.size)) HN.out) hbv)) (fun i hi => by have := HN.out i hi; have := HB2.out.size; have := zk.size; omega)).mono ?_
   rintro e w28 ⟨rfl, b28⟩
   have HB28 := bt2 (zz zk) b28
   clear b28
   go_wp2_with fail
   refine hK.out _ _ ?_ (fun zk => ?_)
   ·exact HB28.out
   clear hK K
   try go_frame
   apply tk 19 o300_ rfl (by kernel_rfl) (fun _ _ _ h => h) zk
   ·intro wq zq
    go_simp
    try rfl
   go_frame
   apply tk 20 o301_ rfl (by kernel_rfl) (fun _ _ _ h => h) zk
   ·intro wq zq
    go_simp
    try rfl
   go_frame
   apply tk 21 o302_ rfl (by kernel_rfl) (fun _ _ _ h => h) zk
   ·intro wq zq
    go_simp
    try rfl
   go_frame
   refine wpAnyH_done (by kernel_rfl) ?_ _
   replace HB2 := bt2 HB2 zk
   replace HXb := bx HXb zk
   replace HXk := bx HXk zk
   have E := zz (show p5 = x by rw [HP5.out, HX0.out]; first | done | simp only [List.append_assoc])
   go_wp2
   go_ret
   exact ⟨ret_str E.out, HB2.out⟩
  have q27' := beq_false_of_ne h27
  by_cases h26 : a.f.k = 26
  ·have q26' := yk h26
   have HM := zz (show meB a.f = true by unfold meB; rw [q26']; rfl)
   clear h27 h26
   have HX0 := zz hx
   have HL := zz hl
   have HB0 := zz (Below.refl w.heap.size w)
   clear hx hl
   obtain ⟨p1, g1, HP1⟩ := cte ⟨(brk (meB a.f) (te a)).toArray⟩ ⟨#[46]⟩ (brk (meB a.f) (te a)) [46] rfl rfl (by have h := HL.out; rw [HX0.out] at h; (try simp only [List.length_append] at h |-); omega)
   obtain ⟨p2, g2, HP2⟩ := cte ⟨p1.toArray⟩ f.t _ (bs f.t) HP1.out rfl (by have h := HL.out; rw [HX0.out] at h; (try simp only [List.length_append] at h |-); omega)
   obtain ⟨p3, g3, HP3⟩ := cte ⟨p2.toArray⟩ ⟨#[40]⟩ _ [40] HP2.out rfl (by have h := HL.out; rw [HX0.out] at h; (try simp only [List.length_append] at h |-); omega)
   obtain ⟨p4, g4, HP4⟩ := cte ⟨p3.toArray⟩ ⟨(cm (r.map te)).toArray⟩ _ (cm (r.map te)) HP3.out rfl (by have h := HL.out; rw [HX0.out] at h; (try simp only [List.length_append] at h |-); omega)
   obtain ⟨p5, g5, HP5⟩ := cte ⟨p4.toArray⟩ ⟨#[41]⟩ _ [41] HP4.out rfl (by have h := HL.out; rw [HX0.out] at h; (try simp only [List.length_append] at h |-); omega)
   have hbs : bv < w.heap.size := HN.out bv hbv
   have a0 := al8 hbs HCa
   go_enter Tryz.func92, Tryz.ntmps92
   go_wp2_with fail
   obtain ⟨w1, hw1, HB, HXb, hs1⟩ := jb w f (.slice (some ⟨bv, ov, none⟩) (r.length + 1) cv)
   rw [hw1]
   clear hw1
   have hz1 := (HB.out).size
   have HB1 := bt2 HB0 HB.out
   clear HB0 a0
   clear HB
   obtain ⟨w2, hw2, HB, HXk, hs2⟩ := jb w1 a.f (.slice Aa a.ks.length ca)
   rw [hw2]
   clear hw2
   have hz2 := (HB.out).size
   have HB2 := bt2 HB1 HB.out
   replace HXb := bx HXb HB.out
   clear HB1
   rw [show w1.heap.size = w.heap.size + 1 by omega] at HXk
   clear HB
   refine wp_region_held_drew (S := Below w2.heap.size w2) (by kernel_rfl) ?_ (fun zk => ?_)
   ·exact zd _
   apply tk 0 o281_ rfl (by kernel_rfl) (fun _ _ _ h => h) zk
   ·intro wq zq
    have k0 := (HXk.out.below zq HXk.out.lt).cell
    go_simp
    try rfl
   go_frame
   apply tk 1 o282_ rfl (by kernel_rfl) (fun _ _ _ h => h) zk
   ·intro wq zq
    go_simp
    try rfl
   go_frame
   apply tk 2 o283_ rfl (by kernel_rfl) (fun _ _ _ h => h) zk
   ·intro wq zq
    have k0 := (HXk.out.below zq HXk.out.lt).cell
    go_simp
    try rfl
   go_frame
   apply tk 3 o284_ rfl (by kernel_rfl) (fun _ _ _ h => h) zk
   ·intro wq zq
    go_simp
    try rfl
   go_frame
   apply tk 4 o285_ rfl (by kernel_rfl) (fun _ _ _ h => h) zk
   ·intro wq zq
    go_simp
    try rfl
   go_frame
   apply tk 5 o286_ rfl (by kernel_rfl) (fun _ _ _ h => h) zk
   ·intro wq zq
    go_simp
    try rfl
   go_frame
   apply tk 6 o287_ rfl (by kernel_rfl) (fun _ _ _ h => h) zk
   ·intro wq zq
    have k0 := (HXk.out.below zq HXk.out.lt).cell
    go_simp
    try rfl
   go_frame
   apply tk 7 o288_ rfl (by kernel_rfl) (fun _ _ _ h => h) zk
   ·intro wq zq
    go_simp
    try rfl
   go_frame
   apply tk 8 o289_ rfl (by kernel_rfl) (fun _ _ _ h => h) zk
   ·intro wq zq
    go_simp
    try rfl
   go_frame
   apply tk 11 o290_ rfl (by kernel_rfl) (fun _ _ _ h => h) zk
   ·intro wq zq
    go_simp
    try rfl
   go_frame
   apply tk 12 o291_ rfl (by kernel_rfl) (fun _ _ _ h => h) zk
   ·intro wq zq
    have b0 := (HXb.out.below zq HXb.out.lt).cell
    go_simp
    try rfl
   go_frame
   apply tk 15 o292_ rfl (by kernel_rfl) (fun _ _ _ h => h) zk
   ·intro wq zq
    go_simp
    try rfl
   go_frame
   apply tk 16 o293_ rfl (by kernel_rfl) (fun _ _ _ h => h) zk
   ·intro wq zq
    have b0 := (HXb.out.below zq HXb.out.lt).cell
    go_simp
    try rfl
   go_frame
   apply tk 17 o294_ rfl (by kernel_rfl) (fun _ _ _ h => h) zk
   ·intro wq zq
    go_simp
    try rfl
   go_frame
   refine rd 9 o295_ rfl (by kernel_rfl) fun K hK => ?_
   go_simp
   refine (rheld_is (x := brk (meB a.f) (te a)) (b := true) (by rw [HM.out]) (by have h := HL.out; rw [HX0.out] at h; (try simp only [List.length_append] at h |-); omega) hA (HKa.out.below (HB2.out.trans (zk.mono HB2.out.size)) HN.out) (fun i hi => by have := HN.out i hi; have := HB2.out.size; have := zk.size; omega)).mono ?_
   rintro e w27 ⟨rfl, b27⟩
   have HB27 := bt2 (zz zk) b27
   clear b27
   go_wp2_with fail
   refine hK.out _ _ ?_ (fun zk => ?_)
   ·exact HB27.out
   clear hK K
   try go_frame
   apply tk 10 o296_ rfl (by kernel_rfl) (fun _ _ _ h => h) zk
   ·intro wq zq
    go_simp
    try rfl
   go_frame
   apply tk 13 o297_ rfl (by kernel_rfl) (fun _ _ _ h => h) zk
   ·intro wq zq
    go_simp
    try rfl
   go_frame
   apply tk 14 o298_ rfl (by kernel_rfl) (fun _ _ _ h => h) zk
   ·intro wq zq
    go_simp
    try rfl
   go_frame
   refine rd 18 o299_ rfl (by kernel_rfl) fun K hK => ?_
   go_simp
   refine (rlist_is rfl (by have h := HL.out; rw [HX0.out] at h; (try simp only [List.length_append] at h |-); omega) HE.out (Lst.tail (bv := bv) (ov := ov) (fun _ => rfl) (by omega) hlv hbv (HRr.out.agree (Agree.of_below (HB2.out.trans (zk.mono HB2.out.size)) HN.out) hbv)) (fun i hi => by have := HN.out i hi; have := HB2.out.size; have := zk.size; omega)).mono ?_
   rintro e w28 ⟨rfl, b28⟩
   have HB28 := bt2 (zz zk) b28
   clear b28
   go_wp2_with fail
   refine hK.out _ _ ?_ (fun zk => ?_)
   ·exact HB28.out
   clear hK K
   try go_frame
   apply tk 19 o300_ rfl (by kernel_rfl) (fun _ _ _ h => h) zk
   ·intro wq zq
    go_simp
    try rfl
   go_frame
   apply tk 20 o301_ rfl (by kernel_rfl) (fun _ _ _ h => h) zk
   ·intro wq zq
    go_simp
    try rfl
   go_frame
   apply tk 21 o302_ rfl (by kernel_rfl) (fun _ _ _ h => h) zk
   ·intro wq zq
    go_simp
    try rfl
   go_frame
   refine wpAnyH_done (by kernel_rfl) ?_ _
   replace HB2 := bt2 HB2 zk
   replace HXb := bx HXb zk
   replace HXk := bx HXk zk
   have E := zz (show p5 = x by rw [HP5.out, HX0.out]; first | done | simp only [List.append_assoc])
   go_wp2
   go_ret
   exact ⟨ret_str E.out, HB2.out⟩
  have q26' := beq_false_of_ne h26
  have HM := zz (show meB a.f = false by unfold meB; rw [q26', q27']; rfl)
  clear h27 h26
  have HX0 := zz hx
  have HL := zz hl
  have HB0 := zz (Below.refl w.heap.size w)
  clear hx hl
  obtain ⟨p1, g1, HP1⟩ := cte ⟨(brk (meB a.f) (te a)).toArray⟩ ⟨#[46]⟩ (brk (meB a.f) (te a)) [46] rfl rfl (by have h := HL.out; rw [HX0.out] at h; (try simp only [List.length_append] at h |-); omega)
  obtain ⟨p2, g2, HP2⟩ := cte ⟨p1.toArray⟩ f.t _ (bs f.t) HP1.out rfl (by have h := HL.out; rw [HX0.out] at h; (try simp only [List.length_append] at h |-); omega)
  obtain ⟨p3, g3, HP3⟩ := cte ⟨p2.toArray⟩ ⟨#[40]⟩ _ [40] HP2.out rfl (by have h := HL.out; rw [HX0.out] at h; (try simp only [List.length_append] at h |-); omega)
  obtain ⟨p4, g4, HP4⟩ := cte ⟨p3.toArray⟩ ⟨(cm (r.map te)).toArray⟩ _ (cm (r.map te)) HP3.out rfl (by have h := HL.out; rw [HX0.out] at h; (try simp only [List.length_append] at h |-); omega)
  obtain ⟨p5, g5, HP5⟩ := cte ⟨p4.toArray⟩ ⟨#[41]⟩ _ [41] HP4.out rfl (by have h := HL.out; rw [HX0.out] at h; (try simp only [List.length_append] at h |-); omega)
  have hbs : bv < w.heap.size := HN.out bv hbv
  have a0 := al8 hbs HCa
  go_enter Tryz.func92, Tryz.ntmps92
  go_wp2_with fail
  obtain ⟨w1, hw1, HB, HXb, hs1⟩ := jb w f (.slice (some ⟨bv, ov, none⟩) (r.length + 1) cv)
  rw [hw1]
  clear hw1
  have hz1 := (HB.out).size
  have HB1 := bt2 HB0 HB.out
  clear HB0 a0
  clear HB
  obtain ⟨w2, hw2, HB, HXk, hs2⟩ := jb w1 a.f (.slice Aa a.ks.length ca)
  rw [hw2]
  clear hw2
  have hz2 := (HB.out).size
  have HB2 := bt2 HB1 HB.out
  replace HXb := bx HXb HB.out
  clear HB1
  rw [show w1.heap.size = w.heap.size + 1 by omega] at HXk
  clear HB
  refine wp_region_held_drew (S := Below w2.heap.size w2) (by kernel_rfl) ?_ (fun zk => ?_)
  ·exact zd _
  apply tk 0 o281_ rfl (by kernel_rfl) (fun _ _ _ h => h) zk
  ·intro wq zq
   have k0 := (HXk.out.below zq HXk.out.lt).cell
   go_simp
   try rfl
  go_frame
  apply tk 1 o282_ rfl (by kernel_rfl) (fun _ _ _ h => h) zk
  ·intro wq zq
   go_simp
   try rfl
  go_frame
  apply tk 2 o283_ rfl (by kernel_rfl) (fun _ _ _ h => h) zk
  ·intro wq zq
   have k0 := (HXk.out.below zq HXk.out.lt).cell
   go_simp
   try rfl
  go_frame
  apply tk 3 o284_ rfl (by kernel_rfl) (fun _ _ _ h => h) zk
  ·intro wq zq
   go_simp
   try rfl
  go_frame
  apply tk 4 o285_ rfl (by kernel_rfl) (fun _ _ _ h => h) zk
  ·intro wq zq
   go_simp
   try rfl
  go_frame
  apply tk 5 o286_ rfl (by kernel_rfl) (fun _ _ _ h => h) zk
  ·intro wq zq
   go_simp
   try rfl
  go_frame
  apply tk 6 o287_ rfl (by kernel_rfl) (fun _ _ _ h => h) zk
  ·intro wq zq
   have k0 := (HXk.out.below zq HXk.out.lt).cell
   go_simp
   try rfl
  go_frame
  apply tk 7 o288_ rfl (by kernel_rfl) (fun _ _ _ h => h) zk
  ·intro wq zq
   go_simp
   try rfl
  go_frame
  apply tk 8 o289_ rfl (by kernel_rfl) (fun _ _ _ h => h) zk
  ·intro wq zq
   go_simp
   try rfl
  go_frame
  apply tk 11 o290_ rfl (by kernel_rfl) (fun _ _ _ h => h) zk
  ·intro wq zq
   go_simp
   try rfl
  go_frame
  apply tk 12 o291_ rfl (by kernel_rfl) (fun _ _ _ h => h) zk
  ·intro wq zq
   have b0 := (HXb.out.below zq HXb.out.lt).cell
   go_simp
   try rfl
  go_frame
  apply tk 15 o292_ rfl (by kernel_rfl) (fun _ _ _ h => h) zk
  ·intro wq zq
   go_simp
   try rfl
  go_frame
  apply tk 16 o293_ rfl (by kernel_rfl) (fun _ _ _ h => h) zk
  ·intro wq zq
   have b0 := (HXb.out.below zq HXb.out.lt).cell
   go_simp
   try rfl
  go_frame
  apply tk 17 o294_ rfl (by kernel_rfl) (fun _ _ _ h => h) zk
  ·intro wq zq
   go_simp
   try rfl
  go_frame
  refine rd 9 o295_ rfl (by kernel_rfl) fun K hK => ?_
  go_simp
  refine (rheld_is (x := brk (meB a.f) (te a)) (b := false) (by rw [HM.out]) (by have h := HL.out; rw [HX0.out] at h; (try simp only [List.length_append] at h |-); omega) hA (HKa.out.below (HB2.out.trans (zk.mono HB2.out.size)) HN.out) (fun i hi => by have := HN.out i hi; have := HB2.out.size; have := zk.size; omega)).mono ?_
  rintro e w27 ⟨rfl, b27⟩
  have HB27 := bt2 (zz zk) b27
  clear b27
  go_wp2_with fail
  refine hK.out _ _ ?_ (fun zk => ?_)
  ·exact HB27.out
  clear hK K
  try go_frame
  apply tk 10 o296_ rfl (by kernel_rfl) (fun _ _ _ h => h) zk
  ·intro wq zq
   go_simp
   try rfl
  go_frame
  apply tk 13 o297_ rfl (by kernel_rfl) (fun _ _ _ h => h) zk
  ·intro wq zq
   go_simp
   try rfl
  go_frame
  apply tk 14 o298_ rfl (by kernel_rfl) (fun _ _ _ h => h) zk
  ·intro wq zq
   go_simp
   try rfl
  go_frame
  refine rd 18 o299_ rfl (by kernel_rfl) fun K hK => ?_
  go_simp
  refine (rlist_is rfl (by have h := HL.out; rw [HX0.out] at h; (try simp only [List.length_append] at h |-); omega) HE.out (Lst.tail (bv := bv) (ov := ov) (fun _ => rfl) (by omega) hlv hbv (HRr.out.agree (Agree.of_below (HB2.out.trans (zk.mono HB2.out.size)) HN.out) hbv)) (fun i hi => by have := HN.out i hi; have := HB2.out.size; have := zk.size; omega)).mono ?_
  rintro e w28 ⟨rfl, b28⟩
  have HB28 := bt2 (zz zk) b28
  clear b28
  go_wp2_with fail
  refine hK.out _ _ ?_ (fun zk => ?_)
  ·exact HB28.out
  clear hK K
  try go_frame
  apply tk 19 o300_ rfl (by kernel_rfl) (fun _ _ _ h => h) zk
  ·intro wq zq
   go_simp
   try rfl
  go_frame
  apply tk 20 o301_ rfl (by kernel_rfl) (fun _ _ _ h => h) zk
  ·intro wq zq
   go_simp
   try rfl
  go_frame
  apply tk 21 o302_ rfl (by kernel_rfl) (fun _ _ _ h => h) zk
  ·intro wq zq
   go_simp
   try rfl
  go_frame
  refine wpAnyH_done (by kernel_rfl) ?_ _
  replace HB2 := bt2 HB2 zk
  replace HXb := bx HXb zk
  replace HXk := bx HXk zk
  have E := zz (show p5 = x by rw [HP5.out, HX0.out]; first | done | simp only [List.append_assoc])
  go_wp2
  go_ret
  exact ⟨ret_str E.out, HB2.out⟩
end Go.Proofs.YtmdhjiammcpogaaGreatDoor
