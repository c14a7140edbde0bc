import Derived.Test.YtmdhjiammcpogaaGreatDoorQ33
namespace Go.Proofs.YtmdhjiammcpogaaGreatDoor
set_option maxRecDepth 100000
set_option maxHeartbeats 16000000
open Go.RowKit
variable {S : Nat -> Prop} {a : Tr} {f : Nd} {m : Md} {v : Value} {w : World} {x : List UInt8}
theorem told_27_all {c : Tr} (hx : x = brk (leB f a.f) (te a) ++ ([32] ++ bs f.t ++ [32]) ++ brk (riB f c.f) (te c)) (hl : x.length <= 140737488355328) (hk : f.k = 27) (hA : Tells a) (hC : Tells c) (hK : Kids w m S v [a, c]) (hN : ∀ i, S i -> i < w.heap.size) :
 Calls Tryz.prog 92 #[nv f v] w fun e w' => e = .returned (.string ⟨x.toArray⟩) /\ Below w.heap.size w w' := by
 have HN := zz hN
 clear hN
 obtain ⟨bv, ov, cv, rfl, hcv, hbv, hn_a, hn_c⟩ := hK.two2
 obtain ⟨va, HCa, HKa⟩ := hn_a.cs
 obtain ⟨Aa, ca, ba_, oa, rfl, h1_, h2_, h3_⟩ := HKa.out.form
 clear h1_ h2_ h3_
 obtain ⟨vc, HCc, HKc⟩ := hn_c.cs
 obtain ⟨Ac, cc, bc_, oc, rfl, h1_, h2_, h3_⟩ := HKc.out.form
 clear h1_ h2_ h3_
 clear hK hn_a hn_c
 unfold nv
 have q21 := nk 21 hk rfl
 have q22 := nk 22 hk rfl
 have q23 := nk 23 hk rfl
 have q24 := nk 24 hk rfl
 have q25 := nk 25 hk rfl
 have q26 := nk 26 hk rfl
 have q27 := yk hk
 clear hk
 rcases lea f a.f with ⟨qa, ba, hba, HMa⟩ | ⟨qa, HMa⟩ <;> rcases ria f c.f with ⟨qc, bc, hbc, HMc⟩ | ⟨qc, HMc⟩
 all_goals
  have HX0 := zz hx
  have HL := zz hl
  have HB0 := zz (Below.refl w.heap.size w)
  clear hx hl
  obtain ⟨p1, g1, HP1⟩ := cte ⟨(brk (leB f a.f) (te a)).toArray⟩ ⟨#[32]⟩ (brk (leB f a.f) (te a)) [32] rfl rfl (by have h := HL.out; rw [HX0.out] at h; (try simp only [List.length_append] at h |-); omega)
  obtain ⟨p2, g2, HP2⟩ := cte ⟨p1.toArray⟩ f.t _ (bs f.t) HP1.out rfl (by have h := HL.out; rw [HX0.out] at h; (try simp only [List.length_append] at h |-); omega)
  obtain ⟨p3, g3, HP3⟩ := cte ⟨p2.toArray⟩ ⟨#[32]⟩ _ [32] HP2.out rfl (by have h := HL.out; rw [HX0.out] at h; (try simp only [List.length_append] at h |-); omega)
  obtain ⟨p4, g4, HP4⟩ := cte ⟨p3.toArray⟩ ⟨(brk (riB f c.f) (te c)).toArray⟩ _ (brk (riB f c.f) (te c)) HP3.out rfl (by have h := HL.out; rw [HX0.out] at h; (try simp only [List.length_append] at h |-); omega)
  have hbs : bv < w.heap.size := HN.out bv hbv
  have a0 := al8 hbs HCa
  obtain ⟨c0, c1, c2, c3, c4, c5, c6, c7⟩ := al8 hbs HCc
  have cd0 := al1 (show bv < w.heap.size by omega) c0
  have cd1 := al1 (show bv < w.heap.size by omega) c1
  have cd2 := al1 (show bv < w.heap.size by omega) c2
  have cd3 := al1 (show bv < w.heap.size by omega) c3
  have cd4 := al1 (show bv < w.heap.size by omega) c4
  have cd5 := al1 (show bv < w.heap.size by omega) c5
  have cd6 := al1 (show bv < w.heap.size by omega) c6
  have cd7 := al1 (show bv < w.heap.size by omega) c7
  have bd : ∀ o o', ((w.alloc (.cells #[.int .i64 f.k, .string f.t, .int .i64 f.n, .string f.y, .int .i64 f.s, .int .i64 f.a, .int .i64 f.l, .slice (some ⟨bv, ov, none⟩) 2 cv] o')).alloc o).cell? ⟨w.heap.size, 7, none⟩ = some (.slice (some ⟨bv, ov, none⟩) 2 cv) := fun o o' => (World.cell?_alloc_lt _ o _ (by rw [World.size_alloc]; show w.heap.size < _; omega)).trans (by rw [Lib.cell_of_heap (MapKept.heap_alloc w _).1]; rfl)
  go_enter Tryz.func92, Tryz.ntmps92
  go_wp2_with fail
  obtain ⟨w1, hw1, HB, HXb, hs1⟩ := jb w f (.slice (some ⟨bv, ov, none⟩) 2 cv)
  rw [hw1]
  clear hw1
  have hz1 := (HB.out).size
  have HB1 := bt2 HB0 HB.out
  clear HB0 a0 c0 c1 c2 c3 c4 c5 c6 c7 cd0 cd1 cd2 cd3 cd4 cd5 cd6 cd7 bd
  clear HB
  obtain ⟨w2, hw2, HB, HXk, hs2⟩ := jb w1 a.f (.slice Aa a.ks.length ca)
  rw [hw2]
  clear hw2
  have hz2 := (HB.out).size
  have HB2 := bt2 HB1 HB.out
  replace HXb := bx HXb HB.out
  clear HB1
  rw [show w1.heap.size = w.heap.size + 1 by omega] at HXk
  clear HB
  obtain ⟨w3, hw3, HB, HXl, hs3⟩ := jb w2 c.f (.slice Ac c.ks.length cc)
  rw [hw3]
  clear hw3
  have hz3 := (HB.out).size
  have HB3 := bt2 HB2 HB.out
  replace HXb := bx HXb HB.out
  replace HXk := bx HXk HB.out
  clear HB2
  rw [show w2.heap.size = w.heap.size + 1 + 1 by omega] at HXl
  clear HB
  refine wp_region_held_drew (S := Below w3.heap.size w3) (by kernel_rfl) ?_ (fun zk => ?_)
  ·exact zd _
  apply tk 0 o242_ rfl (by kernel_rfl) (fun _ _ _ h => h) zk
  ·intro wq zq
   go_simp
   try rfl
  go_frame
  apply tk 1 o243_ rfl (by kernel_rfl) (fun _ _ _ h => h) zk
  ·intro wq zq
   have k0 := (HXk.out.below zq HXk.out.lt).cell
   go_simp
   try rfl
  go_frame
  apply tk 2 o244_ rfl (by kernel_rfl) (fun _ _ _ h => h) zk
  ·intro wq zq
   go_simp
   try rfl
  go_frame
  apply tk 3 o245_ rfl (by kernel_rfl) (fun _ _ _ h => h) zk
  ·intro wq zq
   go_simp
   try rfl
  go_frame
  first
   |have := hba
    apply tk 4 o246_ rfl (by kernel_rfl) (fun _ _ _ h => h) zk
    ·intro wq zq
     go_simp
     try rfl
    go_frame
    apply tk 5 o247_ rfl (by kernel_rfl) (fun _ _ _ h => h) zk
    ·intro wq zq
     have k0 := (HXk.out.below zq HXk.out.lt).cell
     go_simp
     try rfl
    go_frame
    apply tk 7 o249_ rfl (by kernel_rfl) (fun _ _ _ h => h) zk
    ·intro wq zq
     go_simp
     try rfl
    go_frame
    apply tk 8 o250_ rfl (by kernel_rfl) (fun _ _ _ h => h) zk
    ·intro wq zq
     have b0 := (HXb.out.below zq HXb.out.lt).cell
     go_simp
     try rfl
    go_frame
    refine rd 6 o248_ rfl (by kernel_rfl) fun K hK => ?_
    go_simp
    refine (rbnd_is (s := a.f.t) rfl _).mono ?_
    rintro e wq ⟨rfl, rfl⟩
    go_wp2_with fail
    refine hK.out _ _ ?_ (fun zk => ?_)
    ·exact zk
    clear hK K
    try go_frame
    refine rd 9 o251_ rfl (by kernel_rfl) fun K hK => ?_
    go_simp
    refine (rbnd_is (s := f.t) rfl _).mono ?_
    rintro e wq ⟨rfl, rfl⟩
    go_wp2_with fail
    refine hK.out _ _ ?_ (fun zk => ?_)
    ·exact zk
    clear hK K
    try go_frame
    apply tk 10 o252_ rfl (by kernel_rfl) (fun _ _ _ h => h) zk
    ·intro wq zq
     have := zq
     go_simp
     try rfl
    go_frame
   |refine sk 4 o246_ rfl (by kernel_rfl) (fun _ _ _ h => h) zk ?_
    go_frame
    refine sk 5 o247_ rfl (by kernel_rfl) (fun _ _ _ h => h) zk ?_
    go_frame
    refine sk 6 o248_ rfl (by kernel_rfl) (fun _ _ _ h => h) zk ?_
    go_frame
    refine sk 7 o249_ rfl (by kernel_rfl) (fun _ _ _ h => h) zk ?_
    go_frame
    refine sk 8 o250_ rfl (by kernel_rfl) (fun _ _ _ h => h) zk ?_
    go_frame
    refine sk 9 o251_ rfl (by kernel_rfl) (fun _ _ _ h => h) zk ?_
    go_frame
    refine sk 10 o252_ rfl (by kernel_rfl) (fun _ _ _ h => h) zk ?_
    go_frame
  apply tk 11 o253_ rfl (by kernel_rfl) (fun _ _ _ h => h) zk
  ·intro wq zq
   go_simp
   try rfl
  go_frame
  apply tk 12 o254_ rfl (by kernel_rfl) (fun _ _ _ h => h) zk
  ·intro wq zq
   go_simp
   try rfl
  go_frame
  refine wpAnyH_done (by kernel_rfl) ?_ _
  have HBd := zz zk
  generalize w3.drew = w4 at *
  have hz4 := (HBd.out).size
  have HB4 := zz (HB3.out.trans ((HBd.out).mono HB3.out.size))
  replace HXb := zz (HXb.out.below HBd.out HXb.out.lt)
  replace HXk := zz (HXk.out.below HBd.out HXk.out.lt)
  replace HXl := zz (HXl.out.below HBd.out HXl.out.lt)
  clear HB3
  clear HBd zk
  go_wp2_with fail
  refine wp_region_held_drew (S := Below w4.heap.size w4) (by kernel_rfl) ?_ (fun zk => ?_)
  ·exact zd _
  apply tk 0 o255_ rfl (by kernel_rfl) (fun _ _ _ h => h) zk
  ·intro wq zq
   go_simp
   try rfl
  go_frame
  apply tk 1 o256_ rfl (by kernel_rfl) (fun _ _ _ h => h) zk
  ·intro wq zq
   have l0 := (HXl.out.below zq HXl.out.lt).cell
   go_simp
   try rfl
  go_frame
  apply tk 2 o257_ rfl (by kernel_rfl) (fun _ _ _ h => h) zk
  ·intro wq zq
   go_simp
   try rfl
  go_frame
  apply tk 3 o258_ rfl (by kernel_rfl) (fun _ _ _ h => h) zk
  ·intro wq zq
   go_simp
   try rfl
  go_frame
  first
   |have := hbc
    apply tk 4 o259_ rfl (by kernel_rfl) (fun _ _ _ h => h) zk
    ·intro wq zq
     go_simp
     try rfl
    go_frame
    apply tk 5 o260_ rfl (by kernel_rfl) (fun _ _ _ h => h) zk
    ·intro wq zq
     have l0 := (HXl.out.below zq HXl.out.lt).cell
     go_simp
     try rfl
    go_frame
    apply tk 7 o262_ rfl (by kernel_rfl) (fun _ _ _ h => h) zk
    ·intro wq zq
     go_simp
     try rfl
    go_frame
    apply tk 8 o263_ rfl (by kernel_rfl) (fun _ _ _ h => h) zk
    ·intro wq zq
     have b0 := (HXb.out.below zq HXb.out.lt).cell
     go_simp
     try rfl
    go_frame
    refine rd 6 o261_ rfl (by kernel_rfl) fun K hK => ?_
    go_simp
    refine (rbnd_is (s := c.f.t) rfl _).mono ?_
    rintro e wq ⟨rfl, rfl⟩
    go_wp2_with fail
    refine hK.out _ _ ?_ (fun zk => ?_)
    ·exact zk
    clear hK K
    try go_frame
    refine rd 9 o264_ rfl (by kernel_rfl) fun K hK => ?_
    go_simp
    refine (rbnd_is (s := f.t) rfl _).mono ?_
    rintro e wq ⟨rfl, rfl⟩
    go_wp2_with fail
    refine hK.out _ _ ?_ (fun zk => ?_)
    ·exact zk
    clear hK K
    try go_frame
    apply tk 10 o265_ rfl (by kernel_rfl) (fun _ _ _ h => h) zk
    ·intro wq zq
     have := zq
     go_simp
     try rfl
    go_frame
   |refine sk 4 o259_ rfl (by kernel_rfl) (fun _ _ _ h => h) zk ?_
    go_frame
    refine sk 5 o260_ rfl (by kernel_rfl) (fun _ _ _ h => h) zk ?_
    go_frame
    refine sk 6 o261_ rfl (by kernel_rfl) (fun _ _ _ h => h) zk ?_
    go_frame
    refine sk 7 o262_ rfl (by kernel_rfl) (fun _ _ _ h => h) zk ?_
    go_frame
    refine sk 8 o263_ rfl (by kernel_rfl) (fun _ _ _ h => h) zk ?_
    go_frame
    refine sk 9 o264_ rfl (by kernel_rfl) (fun _ _ _ h => h) zk ?_
    go_frame
    refine sk 10 o265_ rfl (by kernel_rfl) (fun _ _ _ h => h) zk ?_
    go_frame
  apply tk 11 o266_ rfl (by kernel_rfl) (fun _ _ _ h => h) zk
  ·intro wq zq
   go_simp
   try rfl
  go_frame
  apply tk 12 o267_ rfl (by kernel_rfl) (fun _ _ _ h => h) zk
  ·intro wq zq
   go_simp
   try rfl
  go_frame
  refine wpAnyH_done (by kernel_rfl) ?_ _
  have HBd := zz zk
  generalize w4.drew = w5 at *
  have hz5 := (HBd.out).size
  have HB5 := zz (HB4.out.trans ((HBd.out).mono HB4.out.size))
  replace HXb := zz (HXb.out.below HBd.out HXb.out.lt)
  replace HXk := zz (HXk.out.below HBd.out HXk.out.lt)
  replace HXl := zz (HXl.out.below HBd.out HXl.out.lt)
  clear HB4
  clear HBd zk
  go_wp2_with fail
  refine wp_region_held_drew (S := Below w5.heap.size w5) (by kernel_rfl) ?_ (fun zk => ?_)
  ·exact zd _
  apply tk 0 o268_ rfl (by kernel_rfl) (fun _ _ _ h => h) zk
  ·intro wq zq
   have k0 := (HXk.out.below zq HXk.out.lt).cell
   go_simp
   try rfl
  go_frame
  apply tk 1 o269_ rfl (by kernel_rfl) (fun _ _ _ h => h) zk
  ·intro wq zq
   go_simp
   try rfl
  go_frame
  apply tk 4 o270_ rfl (by kernel_rfl) (fun _ _ _ h => h) zk
  ·intro wq zq
   go_simp
   try rfl
  go_frame
  apply tk 5 o271_ rfl (by kernel_rfl) (fun _ _ _ h => h) zk
  ·intro wq zq
   have b0 := (HXb.out.below zq HXb.out.lt).cell
   go_simp
   try rfl
  go_frame
  apply tk 8 o272_ rfl (by kernel_rfl) (fun _ _ _ h => h) zk
  ·intro wq zq
   have l0 := (HXl.out.below zq HXl.out.lt).cell
   go_simp
   try rfl
  go_frame
  apply tk 9 o273_ rfl (by kernel_rfl) (fun _ _ _ h => h) zk
  ·intro wq zq
   go_simp
   try rfl
  go_frame
  refine rd 2 o274_ rfl (by kernel_rfl) fun K hK => ?_
  go_simp
  first
   |refine (rheld_is (x := brk (leB f a.f) (te a)) (b := ba) (by rw [HMa.out]) (by have h := HL.out; rw [HX0.out] at h; (try simp only [List.length_append] at h |-); omega) hA (HKa.out.below (HB5.out.trans (zk.mono HB5.out.size)) HN.out) (fun i hi => by have := HN.out i hi; have := HB5.out.size; have := zk.size; omega)).mono ?_
   |refine (rheld_is (x := brk (leB f a.f) (te a)) (b := false) (by rw [HMa.out]) (by have h := HL.out; rw [HX0.out] at h; (try simp only [List.length_append] at h |-); omega) hA (HKa.out.below (HB5.out.trans (zk.mono HB5.out.size)) HN.out) (fun i hi => by have := HN.out i hi; have := HB5.out.size; have := zk.size; omega)).mono ?_
  rintro e w27 ⟨rfl, b27⟩
  have HB27 := bt2 (zz zk) b27
  clear b27
  go_wp2_with fail
  refine hK.out _ _ ?_ (fun zk => ?_)
  ·exact HB27.out
  clear hK K
  try go_frame
  apply tk 3 o275_ rfl (by kernel_rfl) (fun _ _ _ h => h) zk
  ·intro wq zq
   go_simp
   try rfl
  go_frame
  apply tk 6 o276_ rfl (by kernel_rfl) (fun _ _ _ h => h) zk
  ·intro wq zq
   go_simp
   try rfl
  go_frame
  apply tk 7 o277_ rfl (by kernel_rfl) (fun _ _ _ h => h) zk
  ·intro wq zq
   go_simp
   try rfl
  go_frame
  refine rd 10 o278_ rfl (by kernel_rfl) fun K hK => ?_
  go_simp
  first
   |refine (rheld_is (x := brk (riB f c.f) (te c)) (b := bc) (by rw [HMc.out]) (by have h := HL.out; rw [HX0.out] at h; (try simp only [List.length_append] at h |-); omega) hC (HKc.out.below (HB5.out.trans (zk.mono HB5.out.size)) HN.out) (fun i hi => by have := HN.out i hi; have := HB5.out.size; have := zk.size; omega)).mono ?_
   |refine (rheld_is (x := brk (riB f c.f) (te c)) (b := false) (by rw [HMc.out]) (by have h := HL.out; rw [HX0.out] at h; (try simp only [List.length_append] at h |-); omega) hC (HKc.out.below (HB5.out.trans (zk.mono HB5.out.size)) HN.out) (fun i hi => by have := HN.out i hi; have := HB5.out.size; have := zk.size; omega)).mono ?_
  rintro e w28 ⟨rfl, b28⟩
  have HB28 := bt2 (zz zk) b28
  clear b28
  go_wp2_with fail
  refine hK.out _ _ ?_ (fun zk => ?_)
  ·exact HB28.out
  clear hK K
  try go_frame
  apply tk 11 o279_ rfl (by kernel_rfl) (fun _ _ _ h => h) zk
  ·intro wq zq
   go_simp
   try rfl
  go_frame
  apply tk 12 o280_ rfl (by kernel_rfl) (fun _ _ _ h => h) zk
  ·intro wq zq
   go_simp
   try rfl
  go_frame
  refine wpAnyH_done (by kernel_rfl) ?_ _
  replace HB5 := bt2 HB5 zk
  replace HXb := bx HXb zk
  replace HXk := bx HXk zk
  replace HXl := bx HXl zk
  have E := zz (show p4 = x by rw [HP4.out, HX0.out]; first | done | simp only [List.append_assoc])
  go_wp2
  go_ret
  exact ⟨ret_str E.out, HB5.out⟩
end Go.Proofs.YtmdhjiammcpogaaGreatDoor
