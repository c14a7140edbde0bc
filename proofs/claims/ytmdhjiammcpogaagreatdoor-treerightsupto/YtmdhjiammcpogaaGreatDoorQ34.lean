import Derived.Test.YtmdhjiammcpogaaGreatDoorQ33
namespace Go.Proofs.YtmdhjiammcpogaaGreatDoor
set_option maxRecDepth 100000
set_option maxHeartbeats 16000000
open Go.RowKit
variable {S : Nat -> Prop} {a : Tr} {f : Nd} {m : Md} {v : Value} {w : World} {x : List UInt8}
theorem told_26 (hx : x = bs f.t ++ brk (unB f a.f) (te a)) (hl : x.length <= 140737488355328) (hk : f.k = 26) (hA : Tells a) (hK : Kids w m S v [a]) (hN : ∀ i, S i -> i < w.heap.size) :
 Calls Tryz.prog 92 #[nv f v] w fun e w' => e = .returned (.string ⟨x.toArray⟩) /\ Below w.heap.size w w' := by
 have HN := zz hN
 clear hN
 obtain ⟨bv, ov, cv, rfl, hcv, hbv, hn_a⟩ := hK.one1
 obtain ⟨va, HCa, HKa⟩ := hn_a.cs
 obtain ⟨Aa, ca, ba, oa, rfl, h1_, h2_, h3_⟩ := HKa.out.form
 clear h1_ h2_ h3_
 clear hK hn_a
 unfold nv
 have h26 := yk hk
 have q21 := nk 21 hk rfl
 have q22 := nk 22 hk rfl
 have q23 := nk 23 hk rfl
 have q24 := nk 24 hk rfl
 have q25 := nk 25 hk rfl
 have q26 := yk hk
 by_cases ha : a.f.k = 26
 rotate_left
 ·have qa := beq_false_of_ne ha
  by_cases hb : a.f.k = 27
  ·have qb := yk hb
   have HM := zz (show unB f a.f = true by unfold unB; rw [qb]; rfl)
   clear hk h26 ha hb
   have HX0 := zz hx
   have HL := zz hl
   have HB0 := zz (Below.refl w.heap.size w)
   clear hx hl
   obtain ⟨p1, g1, HP1⟩ := cte f.t ⟨(brk (unB f a.f) (te a)).toArray⟩ (bs f.t) (brk (unB f a.f) (te a)) rfl rfl (by have h := HL.out; rw [HX0.out] at h; (try simp only [List.length_append] at h |-); omega)
   have hbs : bv < w.heap.size := HN.out bv hbv
   have a0 := al8 hbs HCa
   go_enter Tryz.func92, Tryz.ntmps92
   go_wp2_with fail
   obtain ⟨w1, hw1, HB, HXb, hs1⟩ := jb w f (.slice (some ⟨bv, ov, none⟩) 1 cv)
   rw [hw1]
   clear hw1
   have hz1 := (HB.out).size
   have HB1 := bt2 HB0 HB.out
   clear HB0 a0
   clear HB
   obtain ⟨w2, hw2, HB, HXk, hs2⟩ := jb w1 a.f (.slice Aa a.ks.length ca)
   rw [hw2]
   clear hw2
   have hz2 := (HB.out).size
   have HB2 := bt2 HB1 HB.out
   replace HXb := bx HXb HB.out
   clear HB1
   rw [show w1.heap.size = w.heap.size + 1 by omega] at HXk
   clear HB
   refine wp_region_held_drew (S := Below w2.heap.size w2) (by kernel_rfl) ?_ (fun zk => ?_)
   ·exact zd _
   apply tk 0 o230_ rfl (by kernel_rfl) (fun _ _ _ h => h) zk
   ·intro wq zq
    go_simp
    try rfl
   go_frame
   apply tk 1 o231_ rfl (by kernel_rfl) (fun _ _ _ h => h) zk
   ·intro wq zq
    obtain ⟨b0, b1, b2, b3, b4, b5, b6, b7⟩ := (HXb.out.below zq HXb.out.lt).cell
    go_simp
    try rfl
   go_frame
   apply tk 2 o232_ rfl (by kernel_rfl) (fun _ _ _ h => h) zk
   ·intro wq zq
    have k0 := (HXk.out.below zq HXk.out.lt).cell
    go_simp
    try rfl
   go_frame
   apply tk 3 o233_ rfl (by kernel_rfl) (fun _ _ _ h => h) zk
   ·intro wq zq
    go_simp
    try rfl
   go_frame
   apply tk 4 o234_ rfl (by kernel_rfl) (fun _ _ _ h => h) zk
   ·intro wq zq
    go_simp
    try rfl
   go_frame
   apply tk 5 o235_ rfl (by kernel_rfl) (fun _ _ _ h => h) zk
   ·intro wq zq
    go_simp
    try rfl
   go_frame
   apply tk 6 o236_ rfl (by kernel_rfl) (fun _ _ _ h => h) zk
   ·intro wq zq
    have k0 := (HXk.out.below zq HXk.out.lt).cell
    go_simp
    try rfl
   go_frame
   apply tk 7 o237_ rfl (by kernel_rfl) (fun _ _ _ h => h) zk
   ·intro wq zq
    go_simp
    try rfl
   go_frame
   apply tk 8 o238_ rfl (by kernel_rfl) (fun _ _ _ h => h) zk
   ·intro wq zq
    go_simp
    try rfl
   go_frame
   refine rd 9 o239_ rfl (by kernel_rfl) fun K hK => ?_
   go_simp
   refine (rheld_is (x := brk (unB f a.f) (te a)) (b := true) (by rw [HM.out]) (by have h := HL.out; rw [HX0.out] at h; (try simp only [List.length_append] at h |-); omega) hA (HKa.out.below (HB2.out.trans (zk.mono HB2.out.size)) HN.out) (fun i hi => by have := HN.out i hi; have := HB2.out.size; have := zk.size; omega)).mono ?_
   rintro e w7 ⟨rfl, b7⟩
   have HB7 := bt2 (zz zk) b7
   clear b7
   go_wp2_with fail
   refine hK.out _ _ ?_ (fun zk => ?_)
   ·exact HB7.out
   clear hK K
   try go_frame
   apply tk 10 o240_ rfl (by kernel_rfl) (fun _ _ _ h => h) zk
   ·intro wq zq
    go_simp
    try rfl
   go_frame
   apply tk 11 o241_ rfl (by kernel_rfl) (fun _ _ _ h => h) zk
   ·intro wq zq
    go_simp
    try rfl
   go_frame
   refine wpAnyH_done (by kernel_rfl) ?_ _
   replace HB2 := bt2 HB2 zk
   replace HXb := bx HXb zk
   replace HXk := bx HXk zk
   have E := zz (show p1 = x by rw [HP1.out, HX0.out]; first | done | simp only [List.append_assoc])
   go_wp2
   go_ret
   exact ⟨ret_str E.out, HB2.out⟩
  ·have qb := beq_false_of_ne hb
   have HM := zz (show unB f a.f = false by unfold unB sgn; rw [qa, qb]; simp)
   clear hk h26 ha hb
   have HX0 := zz hx
   have HL := zz hl
   have HB0 := zz (Below.refl w.heap.size w)
   clear hx hl
   obtain ⟨p1, g1, HP1⟩ := cte f.t ⟨(brk (unB f a.f) (te a)).toArray⟩ (bs f.t) (brk (unB f a.f) (te a)) rfl rfl (by have h := HL.out; rw [HX0.out] at h; (try simp only [List.length_append] at h |-); omega)
   have hbs : bv < w.heap.size := HN.out bv hbv
   have a0 := al8 hbs HCa
   go_enter Tryz.func92, Tryz.ntmps92
   go_wp2_with fail
   obtain ⟨w1, hw1, HB, HXb, hs1⟩ := jb w f (.slice (some ⟨bv, ov, none⟩) 1 cv)
   rw [hw1]
   clear hw1
   have hz1 := (HB.out).size
   have HB1 := bt2 HB0 HB.out
   clear HB0 a0
   clear HB
   obtain ⟨w2, hw2, HB, HXk, hs2⟩ := jb w1 a.f (.slice Aa a.ks.length ca)
   rw [hw2]
   clear hw2
   have hz2 := (HB.out).size
   have HB2 := bt2 HB1 HB.out
   replace HXb := bx HXb HB.out
   clear HB1
   rw [show w1.heap.size = w.heap.size + 1 by omega] at HXk
   clear HB
   refine wp_region_held_drew (S := Below w2.heap.size w2) (by kernel_rfl) ?_ (fun zk => ?_)
   ·exact zd _
   apply tk 0 o230_ rfl (by kernel_rfl) (fun _ _ _ h => h) zk
   ·intro wq zq
    go_simp
    try rfl
   go_frame
   apply tk 1 o231_ rfl (by kernel_rfl) (fun _ _ _ h => h) zk
   ·intro wq zq
    obtain ⟨b0, b1, b2, b3, b4, b5, b6, b7⟩ := (HXb.out.below zq HXb.out.lt).cell
    go_simp
    try rfl
   go_frame
   apply tk 2 o232_ rfl (by kernel_rfl) (fun _ _ _ h => h) zk
   ·intro wq zq
    have k0 := (HXk.out.below zq HXk.out.lt).cell
    go_simp
    try rfl
   go_frame
   apply tk 3 o233_ rfl (by kernel_rfl) (fun _ _ _ h => h) zk
   ·intro wq zq
    go_simp
    try rfl
   go_frame
   apply tk 4 o234_ rfl (by kernel_rfl) (fun _ _ _ h => h) zk
   ·intro wq zq
    go_simp
    try rfl
   go_frame
   apply tk 5 o235_ rfl (by kernel_rfl) (fun _ _ _ h => h) zk
   ·intro wq zq
    go_simp
    try rfl
   go_frame
   apply tk 6 o236_ rfl (by kernel_rfl) (fun _ _ _ h => h) zk
   ·intro wq zq
    have k0 := (HXk.out.below zq HXk.out.lt).cell
    go_simp
    try rfl
   go_frame
   apply tk 7 o237_ rfl (by kernel_rfl) (fun _ _ _ h => h) zk
   ·intro wq zq
    go_simp
    try rfl
   go_frame
   apply tk 8 o238_ rfl (by kernel_rfl) (fun _ _ _ h => h) zk
   ·intro wq zq
    go_simp
    try rfl
   go_frame
   refine rd 9 o239_ rfl (by kernel_rfl) fun K hK => ?_
   go_simp
   refine (rheld_is (x := brk (unB f a.f) (te a)) (b := false) (by rw [HM.out]) (by have h := HL.out; rw [HX0.out] at h; (try simp only [List.length_append] at h |-); omega) hA (HKa.out.below (HB2.out.trans (zk.mono HB2.out.size)) HN.out) (fun i hi => by have := HN.out i hi; have := HB2.out.size; have := zk.size; omega)).mono ?_
   rintro e w7 ⟨rfl, b7⟩
   have HB7 := bt2 (zz zk) b7
   clear b7
   go_wp2_with fail
   refine hK.out _ _ ?_ (fun zk => ?_)
   ·exact HB7.out
   clear hK K
   try go_frame
   apply tk 10 o240_ rfl (by kernel_rfl) (fun _ _ _ h => h) zk
   ·intro wq zq
    go_simp
    try rfl
   go_frame
   apply tk 11 o241_ rfl (by kernel_rfl) (fun _ _ _ h => h) zk
   ·intro wq zq
    go_simp
    try rfl
   go_frame
   refine wpAnyH_done (by kernel_rfl) ?_ _
   replace HB2 := bt2 HB2 zk
   replace HXb := bx HXb zk
   replace HXk := bx HXk zk
   have E := zz (show p1 = x by rw [HP1.out, HX0.out]; first | done | simp only [List.append_assoc])
   go_wp2
   go_ret
   exact ⟨ret_str E.out, HB2.out⟩
 have qa := yk ha
 have qb := nk 27 ha rfl
 by_cases ha1 : a.f.t.data.toList = [43]
 ·have a1_ : (a.f.t.toList == [43]) = true := by rw [ByteArray.toList_eq, ha1]; rfl
  by_cases hf1 : f.t.data.toList = [43]
  ·have f1 : (f.t.toList == [43]) = true := by rw [ByteArray.toList_eq, hf1]; rfl
   have HM := zz (show unB f a.f = true by unfold unB sgn; rw [qa, qb, h26]; simp [hf1, ha1])
   clear hk h26 ha hf1 ha1
   have HX0 := zz hx
   have HL := zz hl
   have HB0 := zz (Below.refl w.heap.size w)
   clear hx hl
   obtain ⟨p1, g1, HP1⟩ := cte f.t ⟨(brk (unB f a.f) (te a)).toArray⟩ (bs f.t) (brk (unB f a.f) (te a)) rfl rfl (by have h := HL.out; rw [HX0.out] at h; (try simp only [List.length_append] at h |-); omega)
   have hbs : bv < w.heap.size := HN.out bv hbv
   have a0 := al8 hbs HCa
   go_enter Tryz.func92, Tryz.ntmps92
   go_wp2_with fail
   obtain ⟨w1, hw1, HB, HXb, hs1⟩ := jb w f (.slice (some ⟨bv, ov, none⟩) 1 cv)
   rw [hw1]
   clear hw1
   have hz1 := (HB.out).size
   have HB1 := bt2 HB0 HB.out
   clear HB0 a0
   clear HB
   obtain ⟨w2, hw2, HB, HXk, hs2⟩ := jb w1 a.f (.slice Aa a.ks.length ca)
   rw [hw2]
   clear hw2
   have hz2 := (HB.out).size
   have HB2 := bt2 HB1 HB.out
   replace HXb := bx HXb HB.out
   clear HB1
   rw [show w1.heap.size = w.heap.size + 1 by omega] at HXk
   clear HB
   refine wp_region_held_drew (S := Below w2.heap.size w2) (by kernel_rfl) ?_ (fun zk => ?_)
   ·exact zd _
   apply tk 0 o230_ rfl (by kernel_rfl) (fun _ _ _ h => h) zk
   ·intro wq zq
    go_simp
    try rfl
   go_frame
   apply tk 1 o231_ rfl (by kernel_rfl) (fun _ _ _ h => h) zk
   ·intro wq zq
    obtain ⟨b0, b1, b2, b3, b4, b5, b6, b7⟩ := (HXb.out.below zq HXb.out.lt).cell
    go_simp
    try rfl
   go_frame
   apply tk 2 o232_ rfl (by kernel_rfl) (fun _ _ _ h => h) zk
   ·intro wq zq
    have k0 := (HXk.out.below zq HXk.out.lt).cell
    go_simp
    try rfl
   go_frame
   apply tk 3 o233_ rfl (by kernel_rfl) (fun _ _ _ h => h) zk
   ·intro wq zq
    go_simp
    try rfl
   go_frame
   apply tk 4 o234_ rfl (by kernel_rfl) (fun _ _ _ h => h) zk
   ·intro wq zq
    go_simp
    try rfl
   go_frame
   refine sk 5 o235_ rfl (by kernel_rfl) (fun _ _ _ h => h) zk ?_
   go_frame
   refine sk 6 o236_ rfl (by kernel_rfl) (fun _ _ _ h => h) zk ?_
   go_frame
   refine sk 7 o237_ rfl (by kernel_rfl) (fun _ _ _ h => h) zk ?_
   go_frame
   apply tk 8 o238_ rfl (by kernel_rfl) (fun _ _ _ h => h) zk
   ·intro wq zq
    go_simp
    try rfl
   go_frame
   refine rd 9 o239_ rfl (by kernel_rfl) fun K hK => ?_
   go_simp
   refine (rheld_is (x := brk (unB f a.f) (te a)) (b := true) (by rw [HM.out]) (by have h := HL.out; rw [HX0.out] at h; (try simp only [List.length_append] at h |-); omega) hA (HKa.out.below (HB2.out.trans (zk.mono HB2.out.size)) HN.out) (fun i hi => by have := HN.out i hi; have := HB2.out.size; have := zk.size; omega)).mono ?_
   rintro e w7 ⟨rfl, b7⟩
   have HB7 := bt2 (zz zk) b7
   clear b7
   go_wp2_with fail
   refine hK.out _ _ ?_ (fun zk => ?_)
   ·exact HB7.out
   clear hK K
   try go_frame
   apply tk 10 o240_ rfl (by kernel_rfl) (fun _ _ _ h => h) zk
   ·intro wq zq
    go_simp
    try rfl
   go_frame
   apply tk 11 o241_ rfl (by kernel_rfl) (fun _ _ _ h => h) zk
   ·intro wq zq
    go_simp
    try rfl
   go_frame
   refine wpAnyH_done (by kernel_rfl) ?_ _
   replace HB2 := bt2 HB2 zk
   replace HXb := bx HXb zk
   replace HXk := bx HXk zk
   have E := zz (show p1 = x by rw [HP1.out, HX0.out]; first | done | simp only [List.append_assoc])
   go_wp2
   go_ret
   exact ⟨ret_str E.out, HB2.out⟩
  have f1 : (f.t.toList == [43]) = false := by rw [ByteArray.toList_eq]; exact beq_false_of_ne hf1
  by_cases hf2 : f.t.data.toList = [45]
  ·have f2 : (f.t.toList == [45]) = true := by rw [ByteArray.toList_eq, hf2]; rfl
   have HM := zz (show unB f a.f = true by unfold unB sgn; rw [qa, qb, h26]; simp [hf2, ha1])
   clear hk h26 ha hf1 hf2 ha1
   have HX0 := zz hx
   have HL := zz hl
   have HB0 := zz (Below.refl w.heap.size w)
   clear hx hl
   obtain ⟨p1, g1, HP1⟩ := cte f.t ⟨(brk (unB f a.f) (te a)).toArray⟩ (bs f.t) (brk (unB f a.f) (te a)) rfl rfl (by have h := HL.out; rw [HX0.out] at h; (try simp only [List.length_append] at h |-); omega)
   have hbs : bv < w.heap.size := HN.out bv hbv
   have a0 := al8 hbs HCa
   go_enter Tryz.func92, Tryz.ntmps92
   go_wp2_with fail
   obtain ⟨w1, hw1, HB, HXb, hs1⟩ := jb w f (.slice (some ⟨bv, ov, none⟩) 1 cv)
   rw [hw1]
   clear hw1
   have hz1 := (HB.out).size
   have HB1 := bt2 HB0 HB.out
   clear HB0 a0
   clear HB
   obtain ⟨w2, hw2, HB, HXk, hs2⟩ := jb w1 a.f (.slice Aa a.ks.length ca)
   rw [hw2]
   clear hw2
   have hz2 := (HB.out).size
   have HB2 := bt2 HB1 HB.out
   replace HXb := bx HXb HB.out
   clear HB1
   rw [show w1.heap.size = w.heap.size + 1 by omega] at HXk
   clear HB
   refine wp_region_held_drew (S := Below w2.heap.size w2) (by kernel_rfl) ?_ (fun zk => ?_)
   ·exact zd _
   apply tk 0 o230_ rfl (by kernel_rfl) (fun _ _ _ h => h) zk
   ·intro wq zq
    go_simp
    try rfl
   go_frame
   apply tk 1 o231_ rfl (by kernel_rfl) (fun _ _ _ h => h) zk
   ·intro wq zq
    obtain ⟨b0, b1, b2, b3, b4, b5, b6, b7⟩ := (HXb.out.below zq HXb.out.lt).cell
    go_simp
    try rfl
   go_frame
   apply tk 2 o232_ rfl (by kernel_rfl) (fun _ _ _ h => h) zk
   ·intro wq zq
    have k0 := (HXk.out.below zq HXk.out.lt).cell
    go_simp
    try rfl
   go_frame
   apply tk 3 o233_ rfl (by kernel_rfl) (fun _ _ _ h => h) zk
   ·intro wq zq
    go_simp
    try rfl
   go_frame
   apply tk 4 o234_ rfl (by kernel_rfl) (fun _ _ _ h => h) zk
   ·intro wq zq
    go_simp
    try rfl
   go_frame
   refine sk 5 o235_ rfl (by kernel_rfl) (fun _ _ _ h => h) zk ?_
   go_frame
   refine sk 6 o236_ rfl (by kernel_rfl) (fun _ _ _ h => h) zk ?_
   go_frame
   refine sk 7 o237_ rfl (by kernel_rfl) (fun _ _ _ h => h) zk ?_
   go_frame
   apply tk 8 o238_ rfl (by kernel_rfl) (fun _ _ _ h => h) zk
   ·intro wq zq
    go_simp
    try rfl
   go_frame
   refine rd 9 o239_ rfl (by kernel_rfl) fun K hK => ?_
   go_simp
   refine (rheld_is (x := brk (unB f a.f) (te a)) (b := true) (by rw [HM.out]) (by have h := HL.out; rw [HX0.out] at h; (try simp only [List.length_append] at h |-); omega) hA (HKa.out.below (HB2.out.trans (zk.mono HB2.out.size)) HN.out) (fun i hi => by have := HN.out i hi; have := HB2.out.size; have := zk.size; omega)).mono ?_
   rintro e w7 ⟨rfl, b7⟩
   have HB7 := bt2 (zz zk) b7
   clear b7
   go_wp2_with fail
   refine hK.out _ _ ?_ (fun zk => ?_)
   ·exact HB7.out
   clear hK K
   try go_frame
   apply tk 10 o240_ rfl (by kernel_rfl) (fun _ _ _ h => h) zk
   ·intro wq zq
    go_simp
    try rfl
   go_frame
   apply tk 11 o241_ rfl (by kernel_rfl) (fun _ _ _ h => h) zk
   ·intro wq zq
    go_simp
    try rfl
   go_frame
   refine wpAnyH_done (by kernel_rfl) ?_ _
   replace HB2 := bt2 HB2 zk
   replace HXb := bx HXb zk
   replace HXk := bx HXk zk
   have E := zz (show p1 = x by rw [HP1.out, HX0.out]; first | done | simp only [List.append_assoc])
   go_wp2
   go_ret
   exact ⟨ret_str E.out, HB2.out⟩
  have f2 : (f.t.toList == [45]) = false := by rw [ByteArray.toList_eq]; exact beq_false_of_ne hf2
  have HM := zz (show unB f a.f = false by unfold unB sgn; rw [qa, qb, h26]; simp [hf1, hf2])
  clear hk h26 ha hf1 hf2 ha1
  have HX0 := zz hx
  have HL := zz hl
  have HB0 := zz (Below.refl w.heap.size w)
  clear hx hl
  obtain ⟨p1, g1, HP1⟩ := cte f.t ⟨(brk (unB f a.f) (te a)).toArray⟩ (bs f.t) (brk (unB f a.f) (te a)) rfl rfl (by have h := HL.out; rw [HX0.out] at h; (try simp only [List.length_append] at h |-); omega)
  have hbs : bv < w.heap.size := HN.out bv hbv
  have a0 := al8 hbs HCa
  go_enter Tryz.func92, Tryz.ntmps92
  go_wp2_with fail
  obtain ⟨w1, hw1, HB, HXb, hs1⟩ := jb w f (.slice (some ⟨bv, ov, none⟩) 1 cv)
  rw [hw1]
  clear hw1
  have hz1 := (HB.out).size
  have HB1 := bt2 HB0 HB.out
  clear HB0 a0
  clear HB
  obtain ⟨w2, hw2, HB, HXk, hs2⟩ := jb w1 a.f (.slice Aa a.ks.length ca)
  rw [hw2]
  clear hw2
  have hz2 := (HB.out).size
  have HB2 := bt2 HB1 HB.out
  replace HXb := bx HXb HB.out
  clear HB1
  rw [show w1.heap.size = w.heap.size + 1 by omega] at HXk
  clear HB
  refine wp_region_held_drew (S := Below w2.heap.size w2) (by kernel_rfl) ?_ (fun zk => ?_)
  ·exact zd _
  apply tk 0 o230_ rfl (by kernel_rfl) (fun _ _ _ h => h) zk
  ·intro wq zq
   go_simp
   try rfl
  go_frame
  apply tk 1 o231_ rfl (by kernel_rfl) (fun _ _ _ h => h) zk
  ·intro wq zq
   obtain ⟨b0, b1, b2, b3, b4, b5, b6, b7⟩ := (HXb.out.below zq HXb.out.lt).cell
   go_simp
   try rfl
  go_frame
  apply tk 2 o232_ rfl (by kernel_rfl) (fun _ _ _ h => h) zk
  ·intro wq zq
   have k0 := (HXk.out.below zq HXk.out.lt).cell
   go_simp
   try rfl
  go_frame
  apply tk 3 o233_ rfl (by kernel_rfl) (fun _ _ _ h => h) zk
  ·intro wq zq
   go_simp
   try rfl
  go_frame
  apply tk 4 o234_ rfl (by kernel_rfl) (fun _ _ _ h => h) zk
  ·intro wq zq
   go_simp
   try rfl
  go_frame
  apply tk 5 o235_ rfl (by kernel_rfl) (fun _ _ _ h => h) zk
  ·intro wq zq
   go_simp
   try rfl
  go_frame
  apply tk 6 o236_ rfl (by kernel_rfl) (fun _ _ _ h => h) zk
  ·intro wq zq
   have k0 := (HXk.out.below zq HXk.out.lt).cell
   go_simp
   try rfl
  go_frame
  apply tk 7 o237_ rfl (by kernel_rfl) (fun _ _ _ h => h) zk
  ·intro wq zq
   go_simp
   try rfl
  go_frame
  apply tk 8 o238_ rfl (by kernel_rfl) (fun _ _ _ h => h) zk
  ·intro wq zq
   go_simp
   try rfl
  go_frame
  refine rd 9 o239_ rfl (by kernel_rfl) fun K hK => ?_
  go_simp
  refine (rheld_is (x := brk (unB f a.f) (te a)) (b := false) (by rw [HM.out]) (by have h := HL.out; rw [HX0.out] at h; (try simp only [List.length_append] at h |-); omega) hA (HKa.out.below (HB2.out.trans (zk.mono HB2.out.size)) HN.out) (fun i hi => by have := HN.out i hi; have := HB2.out.size; have := zk.size; omega)).mono ?_
  rintro e w7 ⟨rfl, b7⟩
  have HB7 := bt2 (zz zk) b7
  clear b7
  go_wp2_with fail
  refine hK.out _ _ ?_ (fun zk => ?_)
  ·exact HB7.out
  clear hK K
  try go_frame
  apply tk 10 o240_ rfl (by kernel_rfl) (fun _ _ _ h => h) zk
  ·intro wq zq
   go_simp
   try rfl
  go_frame
  apply tk 11 o241_ rfl (by kernel_rfl) (fun _ _ _ h => h) zk
  ·intro wq zq
   go_simp
   try rfl
  go_frame
  refine wpAnyH_done (by kernel_rfl) ?_ _
  replace HB2 := bt2 HB2 zk
  replace HXb := bx HXb zk
  replace HXk := bx HXk zk
  have E := zz (show p1 = x by rw [HP1.out, HX0.out]; first | done | simp only [List.append_assoc])
  go_wp2
  go_ret
  exact ⟨ret_str E.out, HB2.out⟩
 have a1_ : (a.f.t.toList == [43]) = false := by rw [ByteArray.toList_eq]; exact beq_false_of_ne ha1
 by_cases ha2 : a.f.t.data.toList = [45]
 ·have a2_ : (a.f.t.toList == [45]) = true := by rw [ByteArray.toList_eq, ha2]; rfl
  by_cases hf1 : f.t.data.toList = [43]
  ·have f1 : (f.t.toList == [43]) = true := by rw [ByteArray.toList_eq, hf1]; rfl
   have HM := zz (show unB f a.f = true by unfold unB sgn; rw [qa, qb, h26]; simp [hf1, ha2])
   clear hk h26 ha hf1 ha1 ha2
   have HX0 := zz hx
   have HL := zz hl
   have HB0 := zz (Below.refl w.heap.size w)
   clear hx hl
   obtain ⟨p1, g1, HP1⟩ := cte f.t ⟨(brk (unB f a.f) (te a)).toArray⟩ (bs f.t) (brk (unB f a.f) (te a)) rfl rfl (by have h := HL.out; rw [HX0.out] at h; (try simp only [List.length_append] at h |-); omega)
   have hbs : bv < w.heap.size := HN.out bv hbv
   have a0 := al8 hbs HCa
   go_enter Tryz.func92, Tryz.ntmps92
   go_wp2_with fail
   obtain ⟨w1, hw1, HB, HXb, hs1⟩ := jb w f (.slice (some ⟨bv, ov, none⟩) 1 cv)
   rw [hw1]
   clear hw1
   have hz1 := (HB.out).size
   have HB1 := bt2 HB0 HB.out
   clear HB0 a0
   clear HB
   obtain ⟨w2, hw2, HB, HXk, hs2⟩ := jb w1 a.f (.slice Aa a.ks.length ca)
   rw [hw2]
   clear hw2
   have hz2 := (HB.out).size
   have HB2 := bt2 HB1 HB.out
   replace HXb := bx HXb HB.out
   clear HB1
   rw [show w1.heap.size = w.heap.size + 1 by omega] at HXk
   clear HB
   refine wp_region_held_drew (S := Below w2.heap.size w2) (by kernel_rfl) ?_ (fun zk => ?_)
   ·exact zd _
   apply tk 0 o230_ rfl (by kernel_rfl) (fun _ _ _ h => h) zk
   ·intro wq zq
    go_simp
    try rfl
   go_frame
   apply tk 1 o231_ rfl (by kernel_rfl) (fun _ _ _ h => h) zk
   ·intro wq zq
    obtain ⟨b0, b1, b2, b3, b4, b5, b6, b7⟩ := (HXb.out.below zq HXb.out.lt).cell
    go_simp
    try rfl
   go_frame
   apply tk 2 o232_ rfl (by kernel_rfl) (fun _ _ _ h => h) zk
   ·intro wq zq
    have k0 := (HXk.out.below zq HXk.out.lt).cell
    go_simp
    try rfl
   go_frame
   apply tk 3 o233_ rfl (by kernel_rfl) (fun _ _ _ h => h) zk
   ·intro wq zq
    go_simp
    try rfl
   go_frame
   apply tk 4 o234_ rfl (by kernel_rfl) (fun _ _ _ h => h) zk
   ·intro wq zq
    go_simp
    try rfl
   go_frame
   refine sk 5 o235_ rfl (by kernel_rfl) (fun _ _ _ h => h) zk ?_
   go_frame
   refine sk 6 o236_ rfl (by kernel_rfl) (fun _ _ _ h => h) zk ?_
   go_frame
   refine sk 7 o237_ rfl (by kernel_rfl) (fun _ _ _ h => h) zk ?_
   go_frame
   apply tk 8 o238_ rfl (by kernel_rfl) (fun _ _ _ h => h) zk
   ·intro wq zq
    go_simp
    try rfl
   go_frame
   refine rd 9 o239_ rfl (by kernel_rfl) fun K hK => ?_
   go_simp
   refine (rheld_is (x := brk (unB f a.f) (te a)) (b := true) (by rw [HM.out]) (by have h := HL.out; rw [HX0.out] at h; (try simp only [List.length_append] at h |-); omega) hA (HKa.out.below (HB2.out.trans (zk.mono HB2.out.size)) HN.out) (fun i hi => by have := HN.out i hi; have := HB2.out.size; have := zk.size; omega)).mono ?_
   rintro e w7 ⟨rfl, b7⟩
   have HB7 := bt2 (zz zk) b7
   clear b7
   go_wp2_with fail
   refine hK.out _ _ ?_ (fun zk => ?_)
   ·exact HB7.out
   clear hK K
   try go_frame
   apply tk 10 o240_ rfl (by kernel_rfl) (fun _ _ _ h => h) zk
   ·intro wq zq
    go_simp
    try rfl
   go_frame
   apply tk 11 o241_ rfl (by kernel_rfl) (fun _ _ _ h => h) zk
   ·intro wq zq
    go_simp
    try rfl
   go_frame
   refine wpAnyH_done (by kernel_rfl) ?_ _
   replace HB2 := bt2 HB2 zk
   replace HXb := bx HXb zk
   replace HXk := bx HXk zk
   have E := zz (show p1 = x by rw [HP1.out, HX0.out]; first | done | simp only [List.append_assoc])
   go_wp2
   go_ret
   exact ⟨ret_str E.out, HB2.out⟩
  have f1 : (f.t.toList == [43]) = false := by rw [ByteArray.toList_eq]; exact beq_false_of_ne hf1
  by_cases hf2 : f.t.data.toList = [45]
  ·have f2 : (f.t.toList == [45]) = true := by rw [ByteArray.toList_eq, hf2]; rfl
   have HM := zz (show unB f a.f = true by unfold unB sgn; rw [qa, qb, h26]; simp [hf2, ha2])
   clear hk h26 ha hf1 hf2 ha1 ha2
   have HX0 := zz hx
   have HL := zz hl
   have HB0 := zz (Below.refl w.heap.size w)
   clear hx hl
   obtain ⟨p1, g1, HP1⟩ := cte f.t ⟨(brk (unB f a.f) (te a)).toArray⟩ (bs f.t) (brk (unB f a.f) (te a)) rfl rfl (by have h := HL.out; rw [HX0.out] at h; (try simp only [List.length_append] at h |-); omega)
   have hbs : bv < w.heap.size := HN.out bv hbv
   have a0 := al8 hbs HCa
   go_enter Tryz.func92, Tryz.ntmps92
   go_wp2_with fail
   obtain ⟨w1, hw1, HB, HXb, hs1⟩ := jb w f (.slice (some ⟨bv, ov, none⟩) 1 cv)
   rw [hw1]
   clear hw1
   have hz1 := (HB.out).size
   have HB1 := bt2 HB0 HB.out
   clear HB0 a0
   clear HB
   obtain ⟨w2, hw2, HB, HXk, hs2⟩ := jb w1 a.f (.slice Aa a.ks.length ca)
   rw [hw2]
   clear hw2
   have hz2 := (HB.out).size
   have HB2 := bt2 HB1 HB.out
   replace HXb := bx HXb HB.out
   clear HB1
   rw [show w1.heap.size = w.heap.size + 1 by omega] at HXk
   clear HB
   refine wp_region_held_drew (S := Below w2.heap.size w2) (by kernel_rfl) ?_ (fun zk => ?_)
   ·exact zd _
   apply tk 0 o230_ rfl (by kernel_rfl) (fun _ _ _ h => h) zk
   ·intro wq zq
    go_simp
    try rfl
   go_frame
   apply tk 1 o231_ rfl (by kernel_rfl) (fun _ _ _ h => h) zk
   ·intro wq zq
    obtain ⟨b0, b1, b2, b3, b4, b5, b6, b7⟩ := (HXb.out.below zq HXb.out.lt).cell
    go_simp
    try rfl
   go_frame
   apply tk 2 o232_ rfl (by kernel_rfl) (fun _ _ _ h => h) zk
   ·intro wq zq
    have k0 := (HXk.out.below zq HXk.out.lt).cell
    go_simp
    try rfl
   go_frame
   apply tk 3 o233_ rfl (by kernel_rfl) (fun _ _ _ h => h) zk
   ·intro wq zq
    go_simp
    try rfl
   go_frame
   apply tk 4 o234_ rfl (by kernel_rfl) (fun _ _ _ h => h) zk
   ·intro wq zq
    go_simp
    try rfl
   go_frame
   refine sk 5 o235_ rfl (by kernel_rfl) (fun _ _ _ h => h) zk ?_
   go_frame
   refine sk 6 o236_ rfl (by kernel_rfl) (fun _ _ _ h => h) zk ?_
   go_frame
   refine sk 7 o237_ rfl (by kernel_rfl) (fun _ _ _ h => h) zk ?_
   go_frame
   apply tk 8 o238_ rfl (by kernel_rfl) (fun _ _ _ h => h) zk
   ·intro wq zq
    go_simp
    try rfl
   go_frame
   refine rd 9 o239_ rfl (by kernel_rfl) fun K hK => ?_
   go_simp
   refine (rheld_is (x := brk (unB f a.f) (te a)) (b := true) (by rw [HM.out]) (by have h := HL.out; rw [HX0.out] at h; (try simp only [List.length_append] at h |-); omega) hA (HKa.out.below (HB2.out.trans (zk.mono HB2.out.size)) HN.out) (fun i hi => by have := HN.out i hi; have := HB2.out.size; have := zk.size; omega)).mono ?_
   rintro e w7 ⟨rfl, b7⟩
   have HB7 := bt2 (zz zk) b7
   clear b7
   go_wp2_with fail
   refine hK.out _ _ ?_ (fun zk => ?_)
   ·exact HB7.out
   clear hK K
   try go_frame
   apply tk 10 o240_ rfl (by kernel_rfl) (fun _ _ _ h => h) zk
   ·intro wq zq
    go_simp
    try rfl
   go_frame
   apply tk 11 o241_ rfl (by kernel_rfl) (fun _ _ _ h => h) zk
   ·intro wq zq
    go_simp
    try rfl
   go_frame
   refine wpAnyH_done (by kernel_rfl) ?_ _
   replace HB2 := bt2 HB2 zk
   replace HXb := bx HXb zk
   replace HXk := bx HXk zk
   have E := zz (show p1 = x by rw [HP1.out, HX0.out]; first | done | simp only [List.append_assoc])
   go_wp2
   go_ret
   exact ⟨ret_str E.out, HB2.out⟩
  have f2 : (f.t.toList == [45]) = false := by rw [ByteArray.toList_eq]; exact beq_false_of_ne hf2
  have HM := zz (show unB f a.f = false by unfold unB sgn; rw [qa, qb, h26]; simp [hf1, hf2])
  clear hk h26 ha hf1 hf2 ha1 ha2
  have HX0 := zz hx
  have HL := zz hl
  have HB0 := zz (Below.refl w.heap.size w)
  clear hx hl
  obtain ⟨p1, g1, HP1⟩ := cte f.t ⟨(brk (unB f a.f) (te a)).toArray⟩ (bs f.t) (brk (unB f a.f) (te a)) rfl rfl (by have h := HL.out; rw [HX0.out] at h; (try simp only [List.length_append] at h |-); omega)
  have hbs : bv < w.heap.size := HN.out bv hbv
  have a0 := al8 hbs HCa
  go_enter Tryz.func92, Tryz.ntmps92
  go_wp2_with fail
  obtain ⟨w1, hw1, HB, HXb, hs1⟩ := jb w f (.slice (some ⟨bv, ov, none⟩) 1 cv)
  rw [hw1]
  clear hw1
  have hz1 := (HB.out).size
  have HB1 := bt2 HB0 HB.out
  clear HB0 a0
  clear HB
  obtain ⟨w2, hw2, HB, HXk, hs2⟩ := jb w1 a.f (.slice Aa a.ks.length ca)
  rw [hw2]
  clear hw2
  have hz2 := (HB.out).size
  have HB2 := bt2 HB1 HB.out
  replace HXb := bx HXb HB.out
  clear HB1
  rw [show w1.heap.size = w.heap.size + 1 by omega] at HXk
  clear HB
  refine wp_region_held_drew (S := Below w2.heap.size w2) (by kernel_rfl) ?_ (fun zk => ?_)
  ·exact zd _
  apply tk 0 o230_ rfl (by kernel_rfl) (fun _ _ _ h => h) zk
  ·intro wq zq
   go_simp
   try rfl
  go_frame
  apply tk 1 o231_ rfl (by kernel_rfl) (fun _ _ _ h => h) zk
  ·intro wq zq
   obtain ⟨b0, b1, b2, b3, b4, b5, b6, b7⟩ := (HXb.out.below zq HXb.out.lt).cell
   go_simp
   try rfl
  go_frame
  apply tk 2 o232_ rfl (by kernel_rfl) (fun _ _ _ h => h) zk
  ·intro wq zq
   have k0 := (HXk.out.below zq HXk.out.lt).cell
   go_simp
   try rfl
  go_frame
  apply tk 3 o233_ rfl (by kernel_rfl) (fun _ _ _ h => h) zk
  ·intro wq zq
   go_simp
   try rfl
  go_frame
  apply tk 4 o234_ rfl (by kernel_rfl) (fun _ _ _ h => h) zk
  ·intro wq zq
   go_simp
   try rfl
  go_frame
  apply tk 5 o235_ rfl (by kernel_rfl) (fun _ _ _ h => h) zk
  ·intro wq zq
   go_simp
   try rfl
  go_frame
  apply tk 6 o236_ rfl (by kernel_rfl) (fun _ _ _ h => h) zk
  ·intro wq zq
   have k0 := (HXk.out.below zq HXk.out.lt).cell
   go_simp
   try rfl
  go_frame
  apply tk 7 o237_ rfl (by kernel_rfl) (fun _ _ _ h => h) zk
  ·intro wq zq
   go_simp
   try rfl
  go_frame
  apply tk 8 o238_ rfl (by kernel_rfl) (fun _ _ _ h => h) zk
  ·intro wq zq
   go_simp
   try rfl
  go_frame
  refine rd 9 o239_ rfl (by kernel_rfl) fun K hK => ?_
  go_simp
  refine (rheld_is (x := brk (unB f a.f) (te a)) (b := false) (by rw [HM.out]) (by have h := HL.out; rw [HX0.out] at h; (try simp only [List.length_append] at h |-); omega) hA (HKa.out.below (HB2.out.trans (zk.mono HB2.out.size)) HN.out) (fun i hi => by have := HN.out i hi; have := HB2.out.size; have := zk.size; omega)).mono ?_
  rintro e w7 ⟨rfl, b7⟩
  have HB7 := bt2 (zz zk) b7
  clear b7
  go_wp2_with fail
  refine hK.out _ _ ?_ (fun zk => ?_)
  ·exact HB7.out
  clear hK K
  try go_frame
  apply tk 10 o240_ rfl (by kernel_rfl) (fun _ _ _ h => h) zk
  ·intro wq zq
   go_simp
   try rfl
  go_frame
  apply tk 11 o241_ rfl (by kernel_rfl) (fun _ _ _ h => h) zk
  ·intro wq zq
   go_simp
   try rfl
  go_frame
  refine wpAnyH_done (by kernel_rfl) ?_ _
  replace HB2 := bt2 HB2 zk
  replace HXb := bx HXb zk
  replace HXk := bx HXk zk
  have E := zz (show p1 = x by rw [HP1.out, HX0.out]; first | done | simp only [List.append_assoc])
  go_wp2
  go_ret
  exact ⟨ret_str E.out, HB2.out⟩
 have a2_ : (a.f.t.toList == [45]) = false := by rw [ByteArray.toList_eq]; exact beq_false_of_ne ha2
 have HM := zz (show unB f a.f = false by unfold unB sgn; rw [qa, qb]; simp [ha1, ha2])
 clear hk h26 ha ha1 ha2
 have HX0 := zz hx
 have HL := zz hl
 have HB0 := zz (Below.refl w.heap.size w)
 clear hx hl
 obtain ⟨p1, g1, HP1⟩ := cte f.t ⟨(brk (unB f a.f) (te a)).toArray⟩ (bs f.t) (brk (unB f a.f) (te a)) rfl rfl (by have h := HL.out; rw [HX0.out] at h; (try simp only [List.length_append] at h |-); omega)
 have hbs : bv < w.heap.size := HN.out bv hbv
 have a0 := al8 hbs HCa
 go_enter Tryz.func92, Tryz.ntmps92
 go_wp2_with fail
 obtain ⟨w1, hw1, HB, HXb, hs1⟩ := jb w f (.slice (some ⟨bv, ov, none⟩) 1 cv)
 rw [hw1]
 clear hw1
 have hz1 := (HB.out).size
 have HB1 := bt2 HB0 HB.out
 clear HB0 a0
 clear HB
 obtain ⟨w2, hw2, HB, HXk, hs2⟩ := jb w1 a.f (.slice Aa a.ks.length ca)
 rw [hw2]
 clear hw2
 have hz2 := (HB.out).size
 have HB2 := bt2 HB1 HB.out
 replace HXb := bx HXb HB.out
 clear HB1
 rw [show w1.heap.size = w.heap.size + 1 by omega] at HXk
 clear HB
 refine wp_region_held_drew (S := Below w2.heap.size w2) (by kernel_rfl) ?_ (fun zk => ?_)
 ·exact zd _
 apply tk 0 o230_ rfl (by kernel_rfl) (fun _ _ _ h => h) zk
 ·intro wq zq
  go_simp
  try rfl
 go_frame
 apply tk 1 o231_ rfl (by kernel_rfl) (fun _ _ _ h => h) zk
 ·intro wq zq
  obtain ⟨b0, b1, b2, b3, b4, b5, b6, b7⟩ := (HXb.out.below zq HXb.out.lt).cell
  go_simp
  try rfl
 go_frame
 apply tk 2 o232_ rfl (by kernel_rfl) (fun _ _ _ h => h) zk
 ·intro wq zq
  have k0 := (HXk.out.below zq HXk.out.lt).cell
  go_simp
  try rfl
 go_frame
 apply tk 3 o233_ rfl (by kernel_rfl) (fun _ _ _ h => h) zk
 ·intro wq zq
  go_simp
  try rfl
 go_frame
 apply tk 4 o234_ rfl (by kernel_rfl) (fun _ _ _ h => h) zk
 ·intro wq zq
  go_simp
  try rfl
 go_frame
 apply tk 5 o235_ rfl (by kernel_rfl) (fun _ _ _ h => h) zk
 ·intro wq zq
  go_simp
  try rfl
 go_frame
 apply tk 6 o236_ rfl (by kernel_rfl) (fun _ _ _ h => h) zk
 ·intro wq zq
  have k0 := (HXk.out.below zq HXk.out.lt).cell
  go_simp
  try rfl
 go_frame
 apply tk 7 o237_ rfl (by kernel_rfl) (fun _ _ _ h => h) zk
 ·intro wq zq
  go_simp
  try rfl
 go_frame
 apply tk 8 o238_ rfl (by kernel_rfl) (fun _ _ _ h => h) zk
 ·intro wq zq
  go_simp
  try rfl
 go_frame
 refine rd 9 o239_ rfl (by kernel_rfl) fun K hK => ?_
 go_simp
 refine (rheld_is (x := brk (unB f a.f) (te a)) (b := false) (by rw [HM.out]) (by have h := HL.out; rw [HX0.out] at h; (try simp only [List.length_append] at h |-); omega) hA (HKa.out.below (HB2.out.trans (zk.mono HB2.out.size)) HN.out) (fun i hi => by have := HN.out i hi; have := HB2.out.size; have := zk.size; omega)).mono ?_
 rintro e w7 ⟨rfl, b7⟩
 have HB7 := bt2 (zz zk) b7
 clear b7
 go_wp2_with fail
 refine hK.out _ _ ?_ (fun zk => ?_)
 ·exact HB7.out
 clear hK K
 try go_frame
 apply tk 10 o240_ rfl (by kernel_rfl) (fun _ _ _ h => h) zk
 ·intro wq zq
  go_simp
  try rfl
 go_frame
 apply tk 11 o241_ rfl (by kernel_rfl) (fun _ _ _ h => h) zk
 ·intro wq zq
  go_simp
  try rfl
 go_frame
 refine wpAnyH_done (by kernel_rfl) ?_ _
 replace HB2 := bt2 HB2 zk
 replace HXb := bx HXb zk
 replace HXk := bx HXk zk
 have E := zz (show p1 = x by rw [HP1.out, HX0.out]; first | done | simp only [List.append_assoc])
 go_wp2
 go_ret
 exact ⟨ret_str E.out, HB2.out⟩
end Go.Proofs.YtmdhjiammcpogaaGreatDoor
