import Derived.Test.YtmdhjiammcpogaaGreatDoorQ46
namespace Go.Proofs.YtmdhjiammcpogaaGreatDoor
set_option maxRecDepth 100000
set_option maxHeartbeats 16000000
open Go.RowKit
variable {S : Nat -> Prop} {b : Bool} {m : Md} {t : Tr} {v : Value} {w : World}
theorem rfors_2b {z : Bool} (hE : ∀ k ∈ t.ks, AskE k) (hB : ∀ k ∈ t.ks, AskB k) (hEE : ∀ s ∈ t.ks, ∀ k ∈ s.ks, AskE k) (hk : t.f.k = 12) (hn : t.f.n = 2) (hl : t.ks.length = 4) (g0 : 0 < t.ks.length) (hM0 : okM (t.ks[0]'g0) = false) (hN0 : okN (t.ks[0]'g0) = z) (hF : AllF t) (hK : Kids w m S v t.ks) (hN : ∀ i, S i -> i < w.heap.size) (h : fitT t = b) :
 Calls Tryz.prog 102 #[nv t.f v] w fun e w' => e = .returned (.bool b) /\ Below w.heap.size w w' := by
 have HH := zz h
 have HK := zz hK
 have HN := zz hN
 have HF := zz hF
 clear h hK hN hF
 obtain ⟨Av, cv, bv, ov, rfl, hlv, hAv, hrv⟩ := HK.out.form
 have HAv := zz hAv
 have HRv := zz hrv
 clear hAv hrv
 unfold nv
 have HM0 := zz hM0
 clear hM0
 have HN0 := zz hN0
 clear hN0
 have HKK := zz hk
 have HNN := zz hn
 have HL := zz hl
 have HE := zz hE
 have HB0 := zz hB
 have HEE := zz hEE
 have HMK := zz (show mrk t.f.k = false by rw [hk]; rfl)
 have hm0 : 0 < t.ks.length := by omega
 have hm1 : 1 < t.ks.length := by omega
 have hm2 : 2 < t.ks.length := by omega
 have hm3 : 3 < t.ks.length := by omega
 obtain ⟨hA1, hbv, _⟩ := HAv.out hm0
 subst hA1
 rw [hl] at hlv |-
 clear hk hn hl hE hB hEE
 obtain ⟨r0, hr0⟩ : ∃ x, (emn t.f) = x := ⟨_, rfl⟩
 have Hr0 := zz hr0
 clear hr0
 go_enter Tryz.func102, Tryz.ntmps102
 go_wp2
 obtain ⟨w1, hw1, HB1, HX1, hs1⟩ := jb w t.f (.slice (some ⟨bv, ov, none⟩) 4 cv)
 rw [hw1]
 clear hw1
 refine wp_region_held_drew (S := Below w1.heap.size w1) (by kernel_rfl) ?_ (fun zk => ?_)
 ·exact zd _
 apply tk 0 o303_ rfl (by kernel_rfl) (fun _ _ _ h => h) zk
 ·intro wq zq
  go_simp
  try rfl
 go_frame
 apply tk 1 o304_ rfl (by kernel_rfl) (fun _ _ _ h => h) zk
 ·intro wq zq
  have x0 := (HX1.out.below zq (by omega)).cell
  rw [HNN.out] at x0
  go_simp
  try rfl
 go_frame
 apply tk 2 o305_ rfl (by kernel_rfl) (fun _ _ _ h => h) zk
 ·intro wq zq
  go_simp
  try rfl
 go_frame
 apply tk 3 o306_ rfl (by kernel_rfl) (fun _ _ _ h => h) zk
 ·intro wq zq
  go_simp
  try rfl
 go_frame
 apply tk 4 o307_ rfl (by kernel_rfl) (fun _ _ _ h => h) zk
 ·intro wq zq
  go_simp
  try rfl
 go_frame
 apply tk 5 o308_ rfl (by kernel_rfl) (fun _ _ _ h => h) zk
 ·intro wq zq
  have x0 := (HX1.out.below zq (by omega)).cell
  rw [HNN.out] at x0
  go_simp
  try rfl
 go_frame
 apply tk 6 o309_ rfl (by kernel_rfl) (fun _ _ _ h => h) zk
 ·intro wq zq
  go_simp
  try rfl
 go_frame
 apply tk 7 o310_ rfl (by kernel_rfl) (fun _ _ _ h => h) zk
 ·intro wq zq
  go_simp
  try rfl
 go_frame
 apply tk 8 o311_ rfl (by kernel_rfl) (fun _ _ _ h => h) zk
 ·intro wq zq
  go_simp
  try rfl
 go_frame
 apply tk 9 o312_ rfl (by kernel_rfl) (fun _ _ _ h => h) zk
 ·intro wq zq
  go_simp
  try rfl
 go_frame
 apply tk 10 o313_ rfl (by kernel_rfl) (fun _ _ _ h => h) zk
 ·intro wq zq
  have x0 := (HX1.out.below zq (by omega)).cell
  rw [HNN.out] at x0
  go_simp
  try rfl
 go_frame
 apply tk 11 o314_ rfl (by kernel_rfl) (fun _ _ _ h => h) zk
 ·intro wq zq
  go_simp
  try rfl
 go_frame
 apply tk 13 o316_ rfl (by kernel_rfl) (fun _ _ _ h => h) zk
 ·intro wq zq
  go_simp
  try rfl
 go_frame
 apply tk 14 o317_ rfl (by kernel_rfl) (fun _ _ _ h => h) zk
 ·intro wq zq
  have x0 := (HX1.out.below zq (by omega)).cell
  rw [HNN.out] at x0
  go_simp
  try rfl
 go_frame
 refine rd 12 o315_ rfl (by kernel_rfl) fun K hK => ?_
 go_simp
 refine hK.out _ _ ?_ (fun zk => ?_)
 ·exact zk.alloc zk.size _
 clear hK K
 try go_frame
 apply tk 15 o318_ rfl (by kernel_rfl) (fun _ _ _ h => h) zk
 ·intro wq zq
  go_simp
  try rfl
 go_frame
 refine rd 16 o319_ rfl (by kernel_rfl) fun K hK => ?_
 have cL : (w1.alloc (.cells #[.int .i64 1, .int .i64 2, .int .i64 4, .int .i64 3] 3)).drew.cell? ⟨w1.heap.size, 2, none⟩ = some (.int .i64 4) := by
  have h1 := (MapKept.heap_alloc w1 (.cells #[.int .i64 1, .int .i64 2, .int .i64 4, .int .i64 3] 3)).1
  show (w1.alloc (.cells #[.int .i64 1, .int .i64 2, .int .i64 4, .int .i64 3] 3)).cell? _ = _
  simp only [World.cell?, h1]
  rfl
 rw [hs1] at cL
 go_simp
 refine hK.out _ _ ?_ (fun zk => ?_)
 ·exact zk
 clear hK K
 try go_frame
 apply tk 17 o320_ rfl (by kernel_rfl) (fun _ _ _ h => h) zk
 ·intro wq zq
  go_simp
  try rfl
 go_frame
 apply tk 18 o321_ rfl (by kernel_rfl) (fun _ _ _ h => h) zk
 ·intro wq zq
  go_simp
  try rfl
 go_frame
 apply tk 19 o322_ rfl (by kernel_rfl) (fun _ _ _ h => h) zk
 ·intro wq zq
  go_simp
  try rfl
 go_frame
 apply tk 20 o323_ rfl (by kernel_rfl) (fun _ _ _ h => h) zk
 ·intro wq zq
  have x0 := (HX1.out.below zq (by omega)).cell
  go_simp
  try rfl
 go_frame
 apply tk 21 o324_ rfl (by kernel_rfl) (fun _ _ _ h => h) zk
 ·intro wq zq
  go_simp
  try rfl
 go_frame
 apply tk 22 o325_ rfl (by kernel_rfl) (fun _ _ _ h => h) zk
 ·intro wq zq
  have x0 := (HX1.out.below zq (by omega)).cell
  rw [HNN.out] at x0
  go_simp
  try rfl
 go_frame
 apply tk 23 o326_ rfl (by kernel_rfl) (fun _ _ _ h => h) zk
 ·intro wq zq
  go_simp
  try rfl
 go_frame
 refine rd 24 o327_ rfl (by kernel_rfl) fun K hK => ?_
 go_simp
 refine (rbare_is (f := t.f) (x := false) (y := false) (z := true) (r := r0) ((rbare_fft HMK.out).trans Hr0.out) _).mono ?_
 rintro e w5 ⟨rfl, b5⟩
 have HB5 := bt2 (zz zk) b5
 clear b5
 go_wp2_with fail
 refine hK.out _ _ ?_ (fun zk => ?_)
 ·exact HB5.out
 clear hK K
 try go_frame
 apply tk 25 o328_ rfl (by kernel_rfl) (fun _ _ _ h => h) zk
 ·intro wq zq
  go_simp
  try rfl
 go_frame
 apply tk 26 o329_ rfl (by kernel_rfl) (fun _ _ _ h => h) zk
 ·intro wq zq
  go_simp
  try rfl
 go_frame
 refine wpAnyH_done (by kernel_rfl) ?_ _
 have hz5 := zk.size
 have HB5' := zz (HB1.out.trans (zk.mono (by omega)))
 have HX5 := zz (HX1.out.below zk (by omega))
 clear HB1 HX1 HB5 zk
 have HB5 := HB5'
 clear HB5'
 have x0 := HX5.out.cell
 rw [HNN.out] at x0
 cases r0
 ·cases z
  all_goals
   go_wp2
   go_ret
   exact ⟨zb (by rw [<- HH.out, for2 HKK.out HNN.out (lst_four HL.out), Hr0.out]; rfl), HB5.out⟩
 ·have hq := (HRv.out.agree (Agree.of_below HB5.out HN.out) hbv).get 3 hm3
  have hq2 : NodeAt w5 m S bv (ov + 24) t.ks[3] := by simpa using hq
  clear hq
  obtain ⟨vp3, p30, p31, p32, p33, p34, p35, p36, p37, hkp3⟩ := hq2.open
  have HKp3 := zz hkp3
  clear hkp3 hq2
  go_wp2_with fail
  refine (HB0.out t.ks[3] (List.getElem_mem hm3) _ _ m S HKp3.out (fun i hi => by have := HN.out i hi; have := HB5.out.size; omega)).mono ?_
  rintro e w6 ⟨rfl, b⟩
  have hz6 := b.size
  have HB6 := bt2 HB5 b
  have HX6 := bx HX5 b
  clear b HB5 HX5 x0 p30 p31 p32 p33 p34 p35 p36 p37
  have x0 := HX6.out.cell
  rw [HNN.out] at x0
  cases c1 : okB t.ks[3]
  ·have Hc1 := zz c1
   clear c1
   cases z
   all_goals
    go_wp2
    go_ret
    exact ⟨zb (by rw [<- HH.out, for2 HKK.out HNN.out (lst_four HL.out), Hr0.out, Hc1.out]; rfl), HB6.out⟩
  ·have Hc1 := zz c1
   clear c1
   have hq := (HRv.out.agree (Agree.of_below HB6.out HN.out) hbv).get 0 hm0
   have hq2 : NodeAt w6 m S bv (ov) t.ks[0] := by simpa using hq
   clear hq
   obtain ⟨vp0, p00, p01, p02, p03, p04, p05, p06, p07, hkp0⟩ := hq2.open
   have HKp0 := zz hkp0
   clear hkp0 hq2
   go_wp2_with fail
   refine (rsimple_is (t := t.ks[0]) (b := okM t.ks[0]) (HEE.out t.ks[0] (List.getElem_mem hm0)) (AllFs.get HF.out.ks _ (List.getElem_mem hm0)) HKp0.out (fun i hi => by have := HN.out i hi; have := HB6.out.size; omega) rfl).mono ?_
   rintro e w7 ⟨rfl, b⟩
   have hz7 := b.size
   have HB7 := bt2 HB6 b
   have HX7 := bx HX6 b
   clear b HB6 HX6 x0 p00 p01 p02 p03 p04 p05 p06 p07
   have x0 := HX7.out.cell
   rw [HNN.out] at x0
   rw [HM0.out]
   have hq := (HRv.out.agree (Agree.of_below HB7.out HN.out) hbv).get 0 hm0
   have hq2 : NodeAt w7 m S bv (ov) t.ks[0] := by simpa using hq
   clear hq
   obtain ⟨vp0, p00, p01, p02, p03, p04, p05, p06, p07, hkp0⟩ := hq2.open
   have HKp0 := zz hkp0
   clear hkp0 hq2
   go_wp2_with fail
   refine (rnothing_is (t := t.ks[0]) (b := okN t.ks[0]) (AllFs.get HF.out.ks _ (List.getElem_mem hm0)) HKp0.out (fun i hi => by have := HN.out i hi; have := HB7.out.size; omega) rfl).mono ?_
   rintro e w8 ⟨rfl, b⟩
   have hz8 := b.size
   have HB8 := bt2 HB7 b
   have HX8 := bx HX7 b
   clear b HB7 HX7 x0 p00 p01 p02 p03 p04 p05 p06 p07
   have x0 := HX8.out.cell
   rw [HNN.out] at x0
   rw [HN0.out]
   have hq := (HRv.out.agree (Agree.of_below HB8.out HN.out) hbv).get 1 hm1
   have hq2 : NodeAt w8 m S bv (ov + 8) t.ks[1] := by simpa using hq
   clear hq
   obtain ⟨vp1, p10, p11, p12, p13, p14, p15, p16, p17, hkp1⟩ := hq2.open
   have HKp1 := zz hkp1
   clear hkp1 hq2
   go_wp2_with fail
   refine (HE.out t.ks[1] (List.getElem_mem hm1) _ _ m S HKp1.out (fun i hi => by have := HN.out i hi; have := HB8.out.size; omega)).mono ?_
   rintro e w9 ⟨rfl, b⟩
   have hz9 := b.size
   have HB9 := bt2 HB8 b
   have HX9 := bx HX8 b
   clear b HB8 HX8 x0 p10 p11 p12 p13 p14 p15 p16 p17
   have x0 := HX9.out.cell
   rw [HNN.out] at x0
   cases c4 : okE t.ks[1]
   ·have Hc4 := zz c4
    clear c4
    have hq := (HRv.out.agree (Agree.of_below HB9.out HN.out) hbv).get 1 hm1
    have hq2 : NodeAt w9 m S bv (ov + 8) t.ks[1] := by simpa using hq
    clear hq
    obtain ⟨vp1, p10, p11, p12, p13, p14, p15, p16, p17, hkp1⟩ := hq2.open
    have HKp1 := zz hkp1
    clear hkp1 hq2
    go_wp2_with fail
    refine (rnothing_is (t := t.ks[1]) (b := okN t.ks[1]) (AllFs.get HF.out.ks _ (List.getElem_mem hm1)) HKp1.out (fun i hi => by have := HN.out i hi; have := HB9.out.size; omega) rfl).mono ?_
    rintro e w10 ⟨rfl, b⟩
    have hz10 := b.size
    have HB10 := bt2 HB9 b
    have HX10 := bx HX9 b
    clear b HB9 HX9 x0 p10 p11 p12 p13 p14 p15 p16 p17
    have x0 := HX10.out.cell
    rw [HNN.out] at x0
    cases c5 : okN t.ks[1]
    ·have Hc5 := zz c5
     clear c5
     have hq := (HRv.out.agree (Agree.of_below HB10.out HN.out) hbv).get 2 hm2
     have hq2 : NodeAt w10 m S bv (ov + 16) t.ks[2] := by simpa using hq
     clear hq
     obtain ⟨vp2, p20, p21, p22, p23, p24, p25, p26, p27, hkp2⟩ := hq2.open
     have HKp2 := zz hkp2
     clear hkp2 hq2
     go_wp2_with fail
     refine (rsimple_is (t := t.ks[2]) (b := okM t.ks[2]) (HEE.out t.ks[2] (List.getElem_mem hm2)) (AllFs.get HF.out.ks _ (List.getElem_mem hm2)) HKp2.out (fun i hi => by have := HN.out i hi; have := HB10.out.size; omega) rfl).mono ?_
     rintro e w11 ⟨rfl, b⟩
     have hz11 := b.size
     have HB11 := bt2 HB10 b
     have HX11 := bx HX10 b
     clear b HB10 HX10 x0 p20 p21 p22 p23 p24 p25 p26 p27
     have x0 := HX11.out.cell
     rw [HNN.out] at x0
     cases c6 : okM t.ks[2]
     ·have Hc6 := zz c6
      clear c6
      have hq := (HRv.out.agree (Agree.of_below HB11.out HN.out) hbv).get 2 hm2
      have hq2 : NodeAt w11 m S bv (ov + 16) t.ks[2] := by simpa using hq
      clear hq
      obtain ⟨vp2, p20, p21, p22, p23, p24, p25, p26, p27, hkp2⟩ := hq2.open
      have HKp2 := zz hkp2
      clear hkp2 hq2
      go_wp2_with fail
      refine (rnothing_is (t := t.ks[2]) (b := okN t.ks[2]) (AllFs.get HF.out.ks _ (List.getElem_mem hm2)) HKp2.out (fun i hi => by have := HN.out i hi; have := HB11.out.size; omega) rfl).mono ?_
      rintro e w12 ⟨rfl, b⟩
      have hz12 := b.size
      have HB12 := bt2 HB11 b
      have HX12 := bx HX11 b
      clear b HB11 HX11 x0 p20 p21 p22 p23 p24 p25 p26 p27
      have x0 := HX12.out.cell
      rw [HNN.out] at x0
      cases c7 : okN t.ks[2]
      ·have Hc7 := zz c7
       clear c7
       cases z
       all_goals
        go_wp2
        go_ret
        exact ⟨zb (by rw [<- HH.out, for2 HKK.out HNN.out (lst_four HL.out), Hr0.out, Hc1.out, HM0.out, HN0.out, Hc4.out, Hc5.out, Hc6.out, Hc7.out]; rfl), HB12.out⟩
      ·have Hc7 := zz c7
       clear c7
       cases z
       all_goals
        go_wp2
        go_ret
        exact ⟨zb (by rw [<- HH.out, for2 HKK.out HNN.out (lst_four HL.out), Hr0.out, Hc1.out, HM0.out, HN0.out, Hc4.out, Hc5.out, Hc6.out, Hc7.out]; rfl), HB12.out⟩
     ·have Hc6 := zz c6
      clear c6
      have hq := (HRv.out.agree (Agree.of_below HB11.out HN.out) hbv).get 2 hm2
      have hq2 : NodeAt w11 m S bv (ov + 16) t.ks[2] := by simpa using hq
      clear hq
      obtain ⟨vs2, s20, s21, s22, s23, s24, s25, s26, s27, hks2⟩ := hq2.open
      have HKs2 := zz hks2
      clear hks2 hq2
      by_cases k6 : t.ks[2].f.k = 6
      ·have q6 : (t.ks[2].f.k != 6) = false := by simp [k6]
       have Hk6 := zz (show (t.ks[2].f.k == 6) = true by rw [k6]; rfl)
       clear k6
       go_wp2_with fail
       refine (rnothing_is (t := t.ks[2]) (b := okN t.ks[2]) (AllFs.get HF.out.ks _ (List.getElem_mem hm2)) HKs2.out (fun i hi => by have := HN.out i hi; have := HB11.out.size; omega) rfl).mono ?_
       rintro e w12 ⟨rfl, b⟩
       have hz12 := b.size
       have HB12 := bt2 HB11 b
       have HX12 := bx HX11 b
       clear b HB11 HX11 x0 s20 s21 s22 s23 s24 s25 s26 s27
       have x0 := HX12.out.cell
       rw [HNN.out] at x0
       cases c8 : okN t.ks[2]
       ·have Hc8 := zz c8
        clear c8
        cases z
        all_goals
         go_wp2
         go_ret
         exact ⟨zb (by rw [<- HH.out, for2 HKK.out HNN.out (lst_four HL.out), Hr0.out, Hc1.out, HM0.out, HN0.out, Hc4.out, Hc5.out, Hc6.out, Hk6.out, Hc8.out]; rfl), HB12.out⟩
       ·have Hc8 := zz c8
        clear c8
        cases z
        all_goals
         go_wp2
         go_ret
         exact ⟨zb (by rw [<- HH.out, for2 HKK.out HNN.out (lst_four HL.out), Hr0.out, Hc1.out, HM0.out, HN0.out, Hc4.out, Hc5.out, Hc6.out, Hk6.out, Hc8.out]; rfl), HB12.out⟩
      ·have q6 : (t.ks[2].f.k != 6) = true := by simp [k6]
       have Hk6 := zz (beq_false_of_ne k6)
       clear k6
       cases z
       all_goals
        go_wp2
        go_ret
        exact ⟨zb (by rw [<- HH.out, for2 HKK.out HNN.out (lst_four HL.out), Hr0.out, Hc1.out, HM0.out, HN0.out, Hc4.out, Hc5.out, Hc6.out, Hk6.out]; rfl), HB11.out⟩
    ·have Hc5 := zz c5
     clear c5
     have hq := (HRv.out.agree (Agree.of_below HB10.out HN.out) hbv).get 2 hm2
     have hq2 : NodeAt w10 m S bv (ov + 16) t.ks[2] := by simpa using hq
     clear hq
     obtain ⟨vp2, p20, p21, p22, p23, p24, p25, p26, p27, hkp2⟩ := hq2.open
     have HKp2 := zz hkp2
     clear hkp2 hq2
     go_wp2_with fail
     refine (rsimple_is (t := t.ks[2]) (b := okM t.ks[2]) (HEE.out t.ks[2] (List.getElem_mem hm2)) (AllFs.get HF.out.ks _ (List.getElem_mem hm2)) HKp2.out (fun i hi => by have := HN.out i hi; have := HB10.out.size; omega) rfl).mono ?_
     rintro e w11 ⟨rfl, b⟩
     have hz11 := b.size
     have HB11 := bt2 HB10 b
     have HX11 := bx HX10 b
     clear b HB10 HX10 x0 p20 p21 p22 p23 p24 p25 p26 p27
     have x0 := HX11.out.cell
     rw [HNN.out] at x0
     cases c6 : okM t.ks[2]
     ·have Hc6 := zz c6
      clear c6
      have hq := (HRv.out.agree (Agree.of_below HB11.out HN.out) hbv).get 2 hm2
      have hq2 : NodeAt w11 m S bv (ov + 16) t.ks[2] := by simpa using hq
      clear hq
      obtain ⟨vp2, p20, p21, p22, p23, p24, p25, p26, p27, hkp2⟩ := hq2.open
      have HKp2 := zz hkp2
      clear hkp2 hq2
      go_wp2_with fail
      refine (rnothing_is (t := t.ks[2]) (b := okN t.ks[2]) (AllFs.get HF.out.ks _ (List.getElem_mem hm2)) HKp2.out (fun i hi => by have := HN.out i hi; have := HB11.out.size; omega) rfl).mono ?_
      rintro e w12 ⟨rfl, b⟩
      have hz12 := b.size
      have HB12 := bt2 HB11 b
      have HX12 := bx HX11 b
      clear b HB11 HX11 x0 p20 p21 p22 p23 p24 p25 p26 p27
      have x0 := HX12.out.cell
      rw [HNN.out] at x0
      cases c7 : okN t.ks[2]
      ·have Hc7 := zz c7
       clear c7
       cases z
       all_goals
        go_wp2
        go_ret
        exact ⟨zb (by rw [<- HH.out, for2 HKK.out HNN.out (lst_four HL.out), Hr0.out, Hc1.out, HM0.out, HN0.out, Hc4.out, Hc5.out, Hc6.out, Hc7.out]; rfl), HB12.out⟩
      ·have Hc7 := zz c7
       clear c7
       cases z
       all_goals
        go_wp2
        go_ret
        exact ⟨zb (by rw [<- HH.out, for2 HKK.out HNN.out (lst_four HL.out), Hr0.out, Hc1.out, HM0.out, HN0.out, Hc4.out, Hc5.out, Hc6.out, Hc7.out]; rfl), HB12.out⟩
     ·have Hc6 := zz c6
      clear c6
      have hq := (HRv.out.agree (Agree.of_below HB11.out HN.out) hbv).get 2 hm2
      have hq2 : NodeAt w11 m S bv (ov + 16) t.ks[2] := by simpa using hq
      clear hq
      obtain ⟨vs2, s20, s21, s22, s23, s24, s25, s26, s27, hks2⟩ := hq2.open
      have HKs2 := zz hks2
      clear hks2 hq2
      by_cases k6 : t.ks[2].f.k = 6
      ·have q6 : (t.ks[2].f.k != 6) = false := by simp [k6]
       have Hk6 := zz (show (t.ks[2].f.k == 6) = true by rw [k6]; rfl)
       clear k6
       go_wp2_with fail
       refine (rnothing_is (t := t.ks[2]) (b := okN t.ks[2]) (AllFs.get HF.out.ks _ (List.getElem_mem hm2)) HKs2.out (fun i hi => by have := HN.out i hi; have := HB11.out.size; omega) rfl).mono ?_
       rintro e w12 ⟨rfl, b⟩
       have hz12 := b.size
       have HB12 := bt2 HB11 b
       have HX12 := bx HX11 b
       clear b HB11 HX11 x0 s20 s21 s22 s23 s24 s25 s26 s27
       have x0 := HX12.out.cell
       rw [HNN.out] at x0
       cases c8 : okN t.ks[2]
       ·have Hc8 := zz c8
        clear c8
        cases z
        all_goals
         go_wp2
         go_ret
         exact ⟨zb (by rw [<- HH.out, for2 HKK.out HNN.out (lst_four HL.out), Hr0.out, Hc1.out, HM0.out, HN0.out, Hc4.out, Hc5.out, Hc6.out, Hk6.out, Hc8.out]; rfl), HB12.out⟩
       ·have Hc8 := zz c8
        clear c8
        cases z
        all_goals
         go_wp2
         go_ret
         exact ⟨zb (by rw [<- HH.out, for2 HKK.out HNN.out (lst_four HL.out), Hr0.out, Hc1.out, HM0.out, HN0.out, Hc4.out, Hc5.out, Hc6.out, Hk6.out, Hc8.out]; rfl), HB12.out⟩
      ·have q6 : (t.ks[2].f.k != 6) = true := by simp [k6]
       have Hk6 := zz (beq_false_of_ne k6)
       clear k6
       cases z
       all_goals
        go_wp2
        go_ret
        exact ⟨zb (by rw [<- HH.out, for2 HKK.out HNN.out (lst_four HL.out), Hr0.out, Hc1.out, HM0.out, HN0.out, Hc4.out, Hc5.out, Hc6.out, Hk6.out]; rfl), HB11.out⟩
   ·have Hc4 := zz c4
    clear c4
    have hq := (HRv.out.agree (Agree.of_below HB9.out HN.out) hbv).get 2 hm2
    have hq2 : NodeAt w9 m S bv (ov + 16) t.ks[2] := by simpa using hq
    clear hq
    obtain ⟨vp2, p20, p21, p22, p23, p24, p25, p26, p27, hkp2⟩ := hq2.open
    have HKp2 := zz hkp2
    clear hkp2 hq2
    go_wp2_with fail
    refine (rsimple_is (t := t.ks[2]) (b := okM t.ks[2]) (HEE.out t.ks[2] (List.getElem_mem hm2)) (AllFs.get HF.out.ks _ (List.getElem_mem hm2)) HKp2.out (fun i hi => by have := HN.out i hi; have := HB9.out.size; omega) rfl).mono ?_
    rintro e w10 ⟨rfl, b⟩
    have hz10 := b.size
    have HB10 := bt2 HB9 b
    have HX10 := bx HX9 b
    clear b HB9 HX9 x0 p20 p21 p22 p23 p24 p25 p26 p27
    have x0 := HX10.out.cell
    rw [HNN.out] at x0
    cases c5 : okM t.ks[2]
    ·have Hc5 := zz c5
     clear c5
     have hq := (HRv.out.agree (Agree.of_below HB10.out HN.out) hbv).get 2 hm2
     have hq2 : NodeAt w10 m S bv (ov + 16) t.ks[2] := by simpa using hq
     clear hq
     obtain ⟨vp2, p20, p21, p22, p23, p24, p25, p26, p27, hkp2⟩ := hq2.open
     have HKp2 := zz hkp2
     clear hkp2 hq2
     go_wp2_with fail
     refine (rnothing_is (t := t.ks[2]) (b := okN t.ks[2]) (AllFs.get HF.out.ks _ (List.getElem_mem hm2)) HKp2.out (fun i hi => by have := HN.out i hi; have := HB10.out.size; omega) rfl).mono ?_
     rintro e w11 ⟨rfl, b⟩
     have hz11 := b.size
     have HB11 := bt2 HB10 b
     have HX11 := bx HX10 b
     clear b HB10 HX10 x0 p20 p21 p22 p23 p24 p25 p26 p27
     have x0 := HX11.out.cell
     rw [HNN.out] at x0
     cases c6 : okN t.ks[2]
     ·have Hc6 := zz c6
      clear c6
      cases z
      all_goals
       go_wp2
       go_ret
       exact ⟨zb (by rw [<- HH.out, for2 HKK.out HNN.out (lst_four HL.out), Hr0.out, Hc1.out, HM0.out, HN0.out, Hc4.out, Hc5.out, Hc6.out]; rfl), HB11.out⟩
     ·have Hc6 := zz c6
      clear c6
      cases z
      all_goals
       go_wp2
       go_ret
       exact ⟨zb (by rw [<- HH.out, for2 HKK.out HNN.out (lst_four HL.out), Hr0.out, Hc1.out, HM0.out, HN0.out, Hc4.out, Hc5.out, Hc6.out]; rfl), HB11.out⟩
    ·have Hc5 := zz c5
     clear c5
     have hq := (HRv.out.agree (Agree.of_below HB10.out HN.out) hbv).get 2 hm2
     have hq2 : NodeAt w10 m S bv (ov + 16) t.ks[2] := by simpa using hq
     clear hq
     obtain ⟨vs2, s20, s21, s22, s23, s24, s25, s26, s27, hks2⟩ := hq2.open
     have HKs2 := zz hks2
     clear hks2 hq2
     by_cases k6 : t.ks[2].f.k = 6
     ·have q6 : (t.ks[2].f.k != 6) = false := by simp [k6]
      have Hk6 := zz (show (t.ks[2].f.k == 6) = true by rw [k6]; rfl)
      clear k6
      go_wp2_with fail
      refine (rnothing_is (t := t.ks[2]) (b := okN t.ks[2]) (AllFs.get HF.out.ks _ (List.getElem_mem hm2)) HKs2.out (fun i hi => by have := HN.out i hi; have := HB10.out.size; omega) rfl).mono ?_
      rintro e w11 ⟨rfl, b⟩
      have hz11 := b.size
      have HB11 := bt2 HB10 b
      have HX11 := bx HX10 b
      clear b HB10 HX10 x0 s20 s21 s22 s23 s24 s25 s26 s27
      have x0 := HX11.out.cell
      rw [HNN.out] at x0
      cases c7 : okN t.ks[2]
      ·have Hc7 := zz c7
       clear c7
       cases z
       all_goals
        go_wp2
        go_ret
        exact ⟨zb (by rw [<- HH.out, for2 HKK.out HNN.out (lst_four HL.out), Hr0.out, Hc1.out, HM0.out, HN0.out, Hc4.out, Hc5.out, Hk6.out, Hc7.out]; rfl), HB11.out⟩
      ·have Hc7 := zz c7
       clear c7
       cases z
       all_goals
        go_wp2
        go_ret
        exact ⟨zb (by rw [<- HH.out, for2 HKK.out HNN.out (lst_four HL.out), Hr0.out, Hc1.out, HM0.out, HN0.out, Hc4.out, Hc5.out, Hk6.out, Hc7.out]; rfl), HB11.out⟩
     ·have q6 : (t.ks[2].f.k != 6) = true := by simp [k6]
      have Hk6 := zz (beq_false_of_ne k6)
      clear k6
      cases z
      all_goals
       go_wp2
       go_ret
       exact ⟨zb (by rw [<- HH.out, for2 HKK.out HNN.out (lst_four HL.out), Hr0.out, Hc1.out, HM0.out, HN0.out, Hc4.out, Hc5.out, Hk6.out]; rfl), HB10.out⟩
end Go.Proofs.YtmdhjiammcpogaaGreatDoor
