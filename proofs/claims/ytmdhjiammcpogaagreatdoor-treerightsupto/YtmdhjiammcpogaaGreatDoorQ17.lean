import Derived.Test.YtmdhjiammcpogaaGreatDoorQ15
namespace Go.Proofs.YtmdhjiammcpogaaGreatDoor
set_option maxRecDepth 100000
set_option maxHeartbeats 16000000
open Go.RowKit
variable {N W : Nat} {S : Nat -> Prop} {a : Tr} {f : Nd} {m : Md} {tb : Int} {v : Value} {w : World} {x : List UInt8}
theorem binary_10 {c : Tr} (h1 : a.f.k = 27) (h2 : ¬ c.f.k = 27) (hx : x = brk (leB f a.f) (te a) ++ ([32] ++ bs f.t ++ [32]) ++ brk (riB f c.f) (te c)) (hA : PutE a) (hC : PutE c) (hK : Kids w m S v [a, c]) (hN : ∀ i, S i -> i < N) (hT : TabN N w) :
 Puts N W tb x 141 #[.pointer (some ⟨W, 0, none⟩), nv f v] w := by
 have HN := zz hN
 have HT := zz hT
 clear hN hT
 obtain ⟨bv, ov, cv, rfl, hcv, hbv, hna, hnc⟩ := hK.two2
 obtain ⟨va, HCa, HKa⟩ := hna.cs
 obtain ⟨Aa, ca, ba_, oa, rfl, _, _, _⟩ := HKa.out.form
 obtain ⟨vc, HCc, HKc⟩ := hnc.cs
 obtain ⟨Ac, cc, bc_, oc, rfl, _, _, _⟩ := HKc.out.form
 clear hna hK hnc
 unfold nv
 have qa := yk h1
 obtain ⟨ba, hba⟩ : ∃ b, decide (bnd (bs a.f.t) < bnd (bs f.t)) = b := ⟨_, rfl⟩
 have HMa := zz (show leB f a.f = ba by unfold leB; rw [qa, <- hba]; rfl)
 have HMM : Hid True := zz trivial
 have qc := beq_false_of_ne h2
 have HMc := zz (show riB f c.f = false by unfold riB; rw [qc]; rfl)
 clear h1 h2
 intro acc hw hlen
 have HW0 := zz hw
 have hWl := hw.lt
 have hNw := hw.nle
 have HX0 := zz (show x = brk (leB f a.f) (te a) ++ ([32] ++ bs f.t ++ [32]) ++ brk (riB f c.f) (te c) from hx)
 have HL := zz hlen
 have HF0 := zz (Fx.refl N W w)
 clear hw hlen
 have hbs : bv < w.heap.size := by have := HN.out bv hbv; omega
 go_enter Tryz.func141, Tryz.ntmps141
 go_wp2_with fail
 obtain ⟨w1, hw1, HB, HXb, hs1⟩ := jb w f (.slice (some ⟨bv, ov, none⟩) 2 cv)
 rw [hw1]
 clear hw1
 obtain ⟨hz1, HF1, HW1⟩ := stb hNw HF0 HW0 HB
 clear HF0 HW0
 have hnb : w.heap.size ≠ W := by have := HF1.out.size; omega
 clear HB
 have b0 := HXb.out.cell
 obtain ⟨a0, a1, a2, a3, a4, a5, a6, a7⟩ := HCa.out.agree (Agree.of_below HF1.out.below HN.out) hbv
 have ad0 := al2 (show bv < w1.heap.size by omega) a0
 have ad1 := al2 (show bv < w1.heap.size by omega) a1
 have ad2 := al2 (show bv < w1.heap.size by omega) a2
 have ad3 := al2 (show bv < w1.heap.size by omega) a3
 have ad4 := al2 (show bv < w1.heap.size by omega) a4
 have ad5 := al2 (show bv < w1.heap.size by omega) a5
 have ad6 := al2 (show bv < w1.heap.size by omega) a6
 have ad7 := al2 (show bv < w1.heap.size by omega) a7
 obtain ⟨c0, c1, c2, c3, c4, c5, c6, c7⟩ := HCc.out.agree (Agree.of_below HF1.out.below HN.out) hbv
 have cd0 := al2 (show bv < w1.heap.size by omega) c0
 have cd1 := al2 (show bv < w1.heap.size by omega) c1
 have cd2 := al2 (show bv < w1.heap.size by omega) c2
 have cd3 := al2 (show bv < w1.heap.size by omega) c3
 have cd4 := al2 (show bv < w1.heap.size by omega) c4
 have cd5 := al2 (show bv < w1.heap.size by omega) c5
 have cd6 := al2 (show bv < w1.heap.size by omega) c6
 have cd7 := al2 (show bv < w1.heap.size by omega) c7
 have n1 : ¬ bv = w1.heap.size := by omega
 have n2 : ¬ bv = w1.heap.size + 1 := by omega
 have n3 : ¬ w1.heap.size = bv := by omega
 have n4 : ¬ w1.heap.size + 1 = bv := by omega
 go_region
 obtain ⟨w2, hw2, HB, HXa, HXc⟩ := boxed2 w1 a.f (.slice Aa a.ks.length ca) c.f (.slice Ac c.ks.length cc)
 rw [hw2]
 clear hw2
 obtain ⟨hz2, HF2, HW2⟩ := stb hNw HF1 HW1 HB
 replace HXb := zz (HXb.out.fx (Fx.of_below (N := N) (W := W) HB.out (by have := HF1.out.size; omega)) hnb)
 clear HF1 HW1 b0 a0 a1 a2 a3 a4 a5 a6 a7 ad0 ad1 ad2 ad3 ad4 ad5 ad6 ad7 c0 c1 c2 c3 c4 c5 c6 c7 cd0 cd1 cd2 cd3 cd4 cd5 cd6 cd7 n1 n2 n3 n4
 clear HB
 have hna : w.heap.size + 1 ≠ W := by omega
 have hnc : w.heap.size + 1 + 1 ≠ W := by omega
 rw [hs1] at HXa HXc
 rotate_left
 obtain ⟨w2, hw2, HB, HXc, HXa⟩ := boxed2 w1 c.f (.slice Ac c.ks.length cc) a.f (.slice Aa a.ks.length ca)
 rw [hw2]
 clear hw2
 obtain ⟨hz2, HF2, HW2⟩ := stb hNw HF1 HW1 HB
 replace HXb := zz (HXb.out.fx (Fx.of_below (N := N) (W := W) HB.out (by have := HF1.out.size; omega)) hnb)
 clear HF1 HW1 b0 a0 a1 a2 a3 a4 a5 a6 a7 ad0 ad1 ad2 ad3 ad4 ad5 ad6 ad7 c0 c1 c2 c3 c4 c5 c6 c7 cd0 cd1 cd2 cd3 cd4 cd5 cd6 cd7 n1 n2 n3 n4
 clear HB
 have hnc : w.heap.size + 1 ≠ W := by omega
 have hna : w.heap.size + 1 + 1 ≠ W := by omega
 rw [hs1] at HXc HXa
 all_goals
  go_wp2_with fail
  refine wp_region_held_drew (S := Fx N W w2) (by kernel_rfl) ?_ (fun zk => ?_)
  ·exact fx_drw _ _ _
  apply tk 0 o39_ rfl (by kernel_rfl) (fun _ _ _ h => h) zk
  ·intro wq zq
   go_simp
   try rfl
  go_frame
  apply tk 1 o40_ rfl (by kernel_rfl) (fun _ _ _ h => h) zk
  ·intro wq zq
   obtain ⟨a0, a1, a2, a3, a4, a5, a6, a7⟩ := (HXa.out.fx zq hna).cell
   go_simp
   try rfl
  go_frame
  apply tk 2 o41_ rfl (by kernel_rfl) (fun _ _ _ h => h) zk
  ·intro wq zq
   go_simp
   try rfl
  go_frame
  apply tk 3 o42_ rfl (by kernel_rfl) (fun _ _ _ h => h) zk
  ·intro wq zq
   obtain ⟨a0, a1, a2, a3, a4, a5, a6, a7⟩ := (HXa.out.fx zq hna).cell
   go_simp
   try rfl
  go_frame
  apply tk 4 o43_ rfl (by kernel_rfl) (fun _ _ _ h => h) zk
  ·intro wq zq
   go_simp
   try rfl
  go_frame
  apply tk 5 o44_ rfl (by kernel_rfl) (fun _ _ _ h => h) zk
  ·intro wq zq
   go_simp
   try rfl
  go_frame
  apply tk 6 o45_ rfl (by kernel_rfl) (fun _ _ _ h => h) zk
  ·intro wq zq
   go_simp
   try rfl
  go_frame
  apply tk 7 o46_ rfl (by kernel_rfl) (fun _ _ _ h => h) zk
  ·intro wq zq
   have b0 := (HXb.out.fx zq hnb).cell
   go_simp
   try rfl
  go_frame
  apply tk 9 o48_ rfl (by kernel_rfl) (fun _ _ _ h => h) zk
  ·intro wq zq
   go_simp
   try rfl
  go_frame
  apply tk 10 o49_ rfl (by kernel_rfl) (fun _ _ _ h => h) zk
  ·intro wq zq
   obtain ⟨a0, a1, a2, a3, a4, a5, a6, a7⟩ := (HXa.out.fx zq hna).cell
   go_simp
   try rfl
  go_frame
  refine rd 8 o47_ rfl (by kernel_rfl) fun K hK => ?_
  go_simp
  refine (bnd_is (s := f.t) rfl _).mono ?_
  rintro e wq ⟨rfl, rfl⟩
  go_wp2_with fail
  refine hK.out _ _ ?_ (fun zk => ?_)
  ·exact zk
  clear hK K
  try go_frame
  refine rd 11 o50_ rfl (by kernel_rfl) fun K hK => ?_
  go_simp
  refine (bnd_is (s := a.f.t) rfl _).mono ?_
  rintro e wq ⟨rfl, rfl⟩
  go_wp2_with fail
  refine hK.out _ _ ?_ (fun zk => ?_)
  ·exact zk
  clear hK K
  try go_frame
  apply tk 12 o51_ rfl (by kernel_rfl) (fun _ _ _ h => h) zk
  ·intro wq zq
   have := zq
   go_simp
   try rfl
  go_frame
  apply tk 13 o52_ rfl (by kernel_rfl) (fun _ _ _ h => h) zk
  ·intro wq zq
   go_simp
   try rfl
  go_frame
  refine rd 14 o53_ rfl (by kernel_rfl) fun K hK => ?_
  go_simp
  refine (operand_is (x := brk (leB f a.f) (te a)) (N := N) (W := W) (tb := tb) (m := m) (S := S) (b := ba) (by rw [HMa.out]) hA ((HKa.out.below HF2.out.below HN.out).below zk.below HN.out) HN.out ((HT.out.below HF2.out.below).below zk.below) _ HW2.out.drw (by have h := HL.out; rw [HX0.out] at h; (try simp only [List.length_append] at h |-); omega)).mono ?_
  rintro e w3 ⟨rfl, fx, wr⟩
  have HG := zz (zk.trans fx)
  have HWw := zz wr
  clear fx wr
  go_wp2_with fail
  refine hK.out _ _ ?_ (fun zk => ?_)
  ·exact HG.out
  clear hK K
  try go_frame
  refine wpAnyH_done (by kernel_rfl) ?_ _
  have hz3 := Fx.size HG.out
  have HF3 := zz (HF2.out.trans HG.out)
  have HW3 := zz (show Wr N W (acc ++ (brk (leB f a.f) (te a))) tb w3 from by first | exact HWw.out | simpa only [List.append_assoc] using HWw.out)
  replace HXb := zz (HXb.out.fx HG.out hnb)
  replace HXa := zz (HXa.out.fx HG.out hna)
  replace HXc := zz (HXc.out.fx HG.out hnc)
  clear HF2 HW2
  clear HG HWw zk
  have b0 := HXb.out.cell
  go_wp2_with fail
  refine (zc (x := ([32] ++ bs f.t ++ [32])) [⟨#[32]⟩, f.t, ⟨#[32]⟩] (by simp [fl]) (by simp) (by omega) rfl rfl HW3.out (by have h := HL.out; rw [HX0.out] at h; (try simp only [List.length_append] at h |-); omega)).mono ?_
  rintro e w4 ⟨rfl, fx, wr⟩
  obtain ⟨hz4, HF4, HW4⟩ := stf HF3 fx wr
  replace HXb := fxx HXb fx hnb
  replace HXa := fxx HXa fx hna
  replace HXc := fxx HXc fx hnc
  clear HF3 HW3 b0
  clear fx wr
  go_wp2_with fail
  refine wp_region_held_drew (S := Fx N W w4) (by kernel_rfl) ?_ (fun zk => ?_)
  ·exact fx_drw _ _ _
  apply tk 0 o54_ rfl (by kernel_rfl) (fun _ _ _ h => h) zk
  ·intro wq zq
   go_simp
   try rfl
  go_frame
  apply tk 1 o55_ rfl (by kernel_rfl) (fun _ _ _ h => h) zk
  ·intro wq zq
   obtain ⟨c0, c1, c2, c3, c4, c5, c6, c7⟩ := (HXc.out.fx zq hnc).cell
   go_simp
   try rfl
  go_frame
  apply tk 2 o56_ rfl (by kernel_rfl) (fun _ _ _ h => h) zk
  ·intro wq zq
   go_simp
   try rfl
  go_frame
  apply tk 3 o57_ rfl (by kernel_rfl) (fun _ _ _ h => h) zk
  ·intro wq zq
   obtain ⟨c0, c1, c2, c3, c4, c5, c6, c7⟩ := (HXc.out.fx zq hnc).cell
   go_simp
   try rfl
  go_frame
  apply tk 4 o58_ rfl (by kernel_rfl) (fun _ _ _ h => h) zk
  ·intro wq zq
   go_simp
   try rfl
  go_frame
  apply tk 5 o59_ rfl (by kernel_rfl) (fun _ _ _ h => h) zk
  ·intro wq zq
   go_simp
   try rfl
  go_frame
  refine sk 6 o60_ rfl (by kernel_rfl) (fun _ _ _ h => h) zk ?_
  go_frame
  refine sk 7 o61_ rfl (by kernel_rfl) (fun _ _ _ h => h) zk ?_
  go_frame
  refine sk 8 o62_ rfl (by kernel_rfl) (fun _ _ _ h => h) zk ?_
  go_frame
  refine sk 9 o63_ rfl (by kernel_rfl) (fun _ _ _ h => h) zk ?_
  go_frame
  refine sk 10 o64_ rfl (by kernel_rfl) (fun _ _ _ h => h) zk ?_
  go_frame
  refine sk 11 o65_ rfl (by kernel_rfl) (fun _ _ _ h => h) zk ?_
  go_frame
  refine sk 12 o66_ rfl (by kernel_rfl) (fun _ _ _ h => h) zk ?_
  go_frame
  apply tk 13 o67_ rfl (by kernel_rfl) (fun _ _ _ h => h) zk
  ·intro wq zq
   go_simp
   try rfl
  go_frame
  refine rd 14 o68_ rfl (by kernel_rfl) fun K hK => ?_
  go_simp
  refine (operand_is (x := brk (riB f c.f) (te c)) (N := N) (W := W) (tb := tb) (m := m) (S := S) (b := false) (by rw [HMc.out]) hC ((HKc.out.below HF4.out.below HN.out).below zk.below HN.out) HN.out ((HT.out.below HF4.out.below).below zk.below) _ HW4.out.drw (by have h := HL.out; rw [HX0.out] at h; (try simp only [List.length_append] at h |-); omega)).mono ?_
  rintro e w5 ⟨rfl, fx, wr⟩
  have HG := zz (zk.trans fx)
  have HWw := zz wr
  clear fx wr
  go_wp2_with fail
  refine hK.out _ _ ?_ (fun zk => ?_)
  ·exact HG.out
  clear hK K
  try go_frame
  refine wpAnyH_done (by kernel_rfl) ?_ _
  have hz5 := Fx.size HG.out
  have HF5 := zz (HF4.out.trans HG.out)
  have HW5 := zz (show Wr N W (acc ++ (brk (leB f a.f) (te a) ++ ([32] ++ bs f.t ++ [32]) ++ brk (riB f c.f) (te c))) tb w5 from by first | exact HWw.out | simpa only [List.append_assoc] using HWw.out)
  replace HXb := zz (HXb.out.fx HG.out hnb)
  replace HXa := zz (HXa.out.fx HG.out hna)
  replace HXc := zz (HXc.out.fx HG.out hnc)
  clear HF4 HW4
  clear HG HWw zk
  go_wp2
  go_end0
  exact ⟨rfl, HF5.out, by rw [HX0.out]; first | exact HW5.out | simpa only [List.append_assoc] using HW5.out⟩
end Go.Proofs.YtmdhjiammcpogaaGreatDoor
