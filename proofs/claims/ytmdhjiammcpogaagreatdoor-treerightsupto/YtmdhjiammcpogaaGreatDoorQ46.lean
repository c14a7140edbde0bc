import Derived.Test.YtmdhjiammcpogaaGreatDoorQ44
namespace Go.Proofs.YtmdhjiammcpogaaGreatDoor
set_option maxRecDepth 100000
set_option maxHeartbeats 16000000
open Go.RowKit
variable {S : Nat -> Prop} {b : Bool} {f : Nd} {m : Md} {t : Tr} {v : Value} {w : World}
theorem rbare_tft (h : mrk f.k = false) : rbare f true false true = decide (f.y.data.toList = []) := by simp [rbare, dE, h]
theorem lst_one {l : List Tr} (h : l.length = 1) : l = [l[0]'(by omega)] := by
 rcases l with _ | ⟨a, _ | ⟨b, r⟩⟩
 ·simp at h
 ·rfl
 ·simp at h
theorem lst_four {l : List Tr} (h : l.length = 4) : l = [l[0]'(by omega), l[1]'(by omega), l[2]'(by omega), l[3]'(by omega)] := by
 rcases l with _ | ⟨a, _ | ⟨b, _ | ⟨c, _ | ⟨d, _ | ⟨e, r⟩⟩⟩⟩⟩
 ·simp at h
 ·simp at h
 ·simp at h
 ·simp at h
 ·rfl
 ·simp at h
theorem rfors_lo (hn : t.f.n < 0) (hk : t.f.k = 12) (hF : AllF t) (hK : Kids w m S v t.ks) (hN : ∀ i, S i -> i < w.heap.size) (h : fitT t = b) :
 Calls Tryz.prog 102 #[nv t.f v] w fun e w' => e = .returned (.bool b) /\ Below w.heap.size w w' := by
 have HH := zz h
 have HK := zz hK
 have HN := zz hN
 have HF := zz hF
 clear h hK hN hF
 obtain ⟨Av, cv, bv, ov, rfl, hlv, hAv, hrv⟩ := HK.out.form
 have HAv := zz hAv
 have HRv := zz hrv
 clear hAv hrv
 unfold nv
 have HKK := zz hk
 have qn : decide (t.f.n < 0) = true := decide_eq_true hn
 have E := zz (show false = b by rw [<- HH.out, for_num HKK.out (Or.inl hn)])
 clear hk hn
 go_enter Tryz.func102, Tryz.ntmps102
 go_wp2
 obtain ⟨w1, hw1, HB1, HX1, hs1⟩ := jb w t.f (.slice Av t.ks.length cv)
 rw [hw1]
 clear hw1
 refine wp_region_held_drew (S := Below w1.heap.size w1) (by kernel_rfl) ?_ (fun zk => ?_)
 ·exact zd _
 apply tk 0 o303_ rfl (by kernel_rfl) (fun _ _ _ h => h) zk
 ·intro wq zq
  go_simp
  try rfl
 go_frame
 apply tk 1 o304_ rfl (by kernel_rfl) (fun _ _ _ h => h) zk
 ·intro wq zq
  have x0 := (HX1.out.below zq (by omega)).cell
  go_simp
  try rfl
 go_frame
 apply tk 2 o305_ rfl (by kernel_rfl) (fun _ _ _ h => h) zk
 ·intro wq zq
  go_simp
  try rfl
 go_frame
 apply tk 3 o306_ rfl (by kernel_rfl) (fun _ _ _ h => h) zk
 ·intro wq zq
  go_simp
  try rfl
 go_frame
 refine sk 4 o307_ rfl (by kernel_rfl) (fun _ _ _ h => h) zk ?_
 go_frame
 refine sk 5 o308_ rfl (by kernel_rfl) (fun _ _ _ h => h) zk ?_
 go_frame
 refine sk 6 o309_ rfl (by kernel_rfl) (fun _ _ _ h => h) zk ?_
 go_frame
 apply tk 7 o310_ rfl (by kernel_rfl) (fun _ _ _ h => h) zk
 ·intro wq zq
  go_simp
  try rfl
 go_frame
 apply tk 8 o311_ rfl (by kernel_rfl) (fun _ _ _ h => h) zk
 ·intro wq zq
  go_simp
  try rfl
 go_frame
 refine sk 9 o312_ rfl (by kernel_rfl) (fun _ _ _ h => h) zk ?_
 go_frame
 refine sk 10 o313_ rfl (by kernel_rfl) (fun _ _ _ h => h) zk ?_
 go_frame
 refine sk 11 o314_ rfl (by kernel_rfl) (fun _ _ _ h => h) zk ?_
 go_frame
 refine sk 12 o315_ rfl (by kernel_rfl) (fun _ _ _ h => h) zk ?_
 go_frame
 refine sk 13 o316_ rfl (by kernel_rfl) (fun _ _ _ h => h) zk ?_
 go_frame
 refine sk 14 o317_ rfl (by kernel_rfl) (fun _ _ _ h => h) zk ?_
 go_frame
 refine sk 15 o318_ rfl (by kernel_rfl) (fun _ _ _ h => h) zk ?_
 go_frame
 refine sk 16 o319_ rfl (by kernel_rfl) (fun _ _ _ h => h) zk ?_
 go_frame
 refine sk 17 o320_ rfl (by kernel_rfl) (fun _ _ _ h => h) zk ?_
 go_frame
 apply tk 18 o321_ rfl (by kernel_rfl) (fun _ _ _ h => h) zk
 ·intro wq zq
  go_simp
  try rfl
 go_frame
 apply tk 19 o322_ rfl (by kernel_rfl) (fun _ _ _ h => h) zk
 ·intro wq zq
  go_simp
  try rfl
 go_frame
 refine sk 20 o323_ rfl (by kernel_rfl) (fun _ _ _ h => h) zk ?_
 go_frame
 refine sk 21 o324_ rfl (by kernel_rfl) (fun _ _ _ h => h) zk ?_
 go_frame
 refine sk 22 o325_ rfl (by kernel_rfl) (fun _ _ _ h => h) zk ?_
 go_frame
 refine sk 23 o326_ rfl (by kernel_rfl) (fun _ _ _ h => h) zk ?_
 go_frame
 refine sk 24 o327_ rfl (by kernel_rfl) (fun _ _ _ h => h) zk ?_
 go_frame
 refine sk 25 o328_ rfl (by kernel_rfl) (fun _ _ _ h => h) zk ?_
 go_frame
 apply tk 26 o329_ rfl (by kernel_rfl) (fun _ _ _ h => h) zk
 ·intro wq zq
  go_simp
  try rfl
 go_frame
 refine wpAnyH_done (by kernel_rfl) ?_ _
 have HB2 := zz (HB1.out.trans (zk.mono (by omega)))
 go_wp2
 go_ret
 exact ⟨zb E.out, HB2.out⟩
theorem rfors_hi (hn : 3 < t.f.n) (hk : t.f.k = 12) (hF : AllF t) (hK : Kids w m S v t.ks) (hN : ∀ i, S i -> i < w.heap.size) (h : fitT t = b) :
 Calls Tryz.prog 102 #[nv t.f v] w fun e w' => e = .returned (.bool b) /\ Below w.heap.size w w' := by
 have HH := zz h
 have HK := zz hK
 have HN := zz hN
 have HF := zz hF
 clear h hK hN hF
 obtain ⟨Av, cv, bv, ov, rfl, hlv, hAv, hrv⟩ := HK.out.form
 have HAv := zz hAv
 have HRv := zz hrv
 clear hAv hrv
 unfold nv
 have HKK := zz hk
 have qn : decide (t.f.n < 0) = false := decide_eq_false (by omega)
 have qm : decide (3 < t.f.n) = true := decide_eq_true hn
 have E := zz (show false = b by rw [<- HH.out, for_num HKK.out (Or.inr hn)])
 clear hk hn
 go_enter Tryz.func102, Tryz.ntmps102
 go_wp2
 obtain ⟨w1, hw1, HB1, HX1, hs1⟩ := jb w t.f (.slice Av t.ks.length cv)
 rw [hw1]
 clear hw1
 refine wp_region_held_drew (S := Below w1.heap.size w1) (by kernel_rfl) ?_ (fun zk => ?_)
 ·exact zd _
 apply tk 0 o303_ rfl (by kernel_rfl) (fun _ _ _ h => h) zk
 ·intro wq zq
  go_simp
  try rfl
 go_frame
 apply tk 1 o304_ rfl (by kernel_rfl) (fun _ _ _ h => h) zk
 ·intro wq zq
  have x0 := (HX1.out.below zq (by omega)).cell
  go_simp
  try rfl
 go_frame
 apply tk 2 o305_ rfl (by kernel_rfl) (fun _ _ _ h => h) zk
 ·intro wq zq
  go_simp
  try rfl
 go_frame
 apply tk 3 o306_ rfl (by kernel_rfl) (fun _ _ _ h => h) zk
 ·intro wq zq
  go_simp
  try rfl
 go_frame
 apply tk 4 o307_ rfl (by kernel_rfl) (fun _ _ _ h => h) zk
 ·intro wq zq
  go_simp
  try rfl
 go_frame
 apply tk 5 o308_ rfl (by kernel_rfl) (fun _ _ _ h => h) zk
 ·intro wq zq
  have x0 := (HX1.out.below zq (by omega)).cell
  go_simp
  try rfl
 go_frame
 apply tk 6 o309_ rfl (by kernel_rfl) (fun _ _ _ h => h) zk
 ·intro wq zq
  go_simp
  try rfl
 go_frame
 apply tk 7 o310_ rfl (by kernel_rfl) (fun _ _ _ h => h) zk
 ·intro wq zq
  go_simp
  try rfl
 go_frame
 apply tk 8 o311_ rfl (by kernel_rfl) (fun _ _ _ h => h) zk
 ·intro wq zq
  go_simp
  try rfl
 go_frame
 refine sk 9 o312_ rfl (by kernel_rfl) (fun _ _ _ h => h) zk ?_
 go_frame
 refine sk 10 o313_ rfl (by kernel_rfl) (fun _ _ _ h => h) zk ?_
 go_frame
 refine sk 11 o314_ rfl (by kernel_rfl) (fun _ _ _ h => h) zk ?_
 go_frame
 refine sk 12 o315_ rfl (by kernel_rfl) (fun _ _ _ h => h) zk ?_
 go_frame
 refine sk 13 o316_ rfl (by kernel_rfl) (fun _ _ _ h => h) zk ?_
 go_frame
 refine sk 14 o317_ rfl (by kernel_rfl) (fun _ _ _ h => h) zk ?_
 go_frame
 refine sk 15 o318_ rfl (by kernel_rfl) (fun _ _ _ h => h) zk ?_
 go_frame
 refine sk 16 o319_ rfl (by kernel_rfl) (fun _ _ _ h => h) zk ?_
 go_frame
 refine sk 17 o320_ rfl (by kernel_rfl) (fun _ _ _ h => h) zk ?_
 go_frame
 apply tk 18 o321_ rfl (by kernel_rfl) (fun _ _ _ h => h) zk
 ·intro wq zq
  go_simp
  try rfl
 go_frame
 apply tk 19 o322_ rfl (by kernel_rfl) (fun _ _ _ h => h) zk
 ·intro wq zq
  go_simp
  try rfl
 go_frame
 refine sk 20 o323_ rfl (by kernel_rfl) (fun _ _ _ h => h) zk ?_
 go_frame
 refine sk 21 o324_ rfl (by kernel_rfl) (fun _ _ _ h => h) zk ?_
 go_frame
 refine sk 22 o325_ rfl (by kernel_rfl) (fun _ _ _ h => h) zk ?_
 go_frame
 refine sk 23 o326_ rfl (by kernel_rfl) (fun _ _ _ h => h) zk ?_
 go_frame
 refine sk 24 o327_ rfl (by kernel_rfl) (fun _ _ _ h => h) zk ?_
 go_frame
 refine sk 25 o328_ rfl (by kernel_rfl) (fun _ _ _ h => h) zk ?_
 go_frame
 apply tk 26 o329_ rfl (by kernel_rfl) (fun _ _ _ h => h) zk
 ·intro wq zq
  go_simp
  try rfl
 go_frame
 refine wpAnyH_done (by kernel_rfl) ?_ _
 have HB2 := zz (HB1.out.trans (zk.mono (by omega)))
 go_wp2
 go_ret
 exact ⟨zb E.out, HB2.out⟩
theorem rfors_0n (hk : t.f.k = 12) (hn : t.f.n = 0) (hl : ¬ t.ks.length = 1) (hF : AllF t) (hK : Kids w m S v t.ks) (hN : ∀ i, S i -> i < w.heap.size) (h : fitT t = b) :
 Calls Tryz.prog 102 #[nv t.f v] w fun e w' => e = .returned (.bool b) /\ Below w.heap.size w w' := by
 have HH := zz h
 have HK := zz hK
 have HN := zz hN
 have HF := zz hF
 clear h hK hN hF
 obtain ⟨Av, cv, bv, ov, rfl, hlv, hAv, hrv⟩ := HK.out.form
 have HAv := zz hAv
 have HRv := zz hrv
 clear hAv hrv
 unfold nv
 have HKK := zz hk
 have HNN := zz hn
 have ql : ((t.ks.length : Int) != 1) = true := by simp; omega
 have E := zz (show false = b by rw [<- HH.out, for_len HKK.out (by omega)])
 clear hk hn hl
 go_enter Tryz.func102, Tryz.ntmps102
 go_wp2
 obtain ⟨w1, hw1, HB1, HX1, hs1⟩ := jb w t.f (.slice Av t.ks.length cv)
 rw [hw1]
 clear hw1
 refine wp_region_held_drew (S := Below w1.heap.size w1) (by kernel_rfl) ?_ (fun zk => ?_)
 ·exact zd _
 apply tk 0 o303_ rfl (by kernel_rfl) (fun _ _ _ h => h) zk
 ·intro wq zq
  go_simp
  try rfl
 go_frame
 apply tk 1 o304_ rfl (by kernel_rfl) (fun _ _ _ h => h) zk
 ·intro wq zq
  have x0 := (HX1.out.below zq (by omega)).cell
  rw [HNN.out] at x0
  go_simp
  try rfl
 go_frame
 apply tk 2 o305_ rfl (by kernel_rfl) (fun _ _ _ h => h) zk
 ·intro wq zq
  go_simp
  try rfl
 go_frame
 apply tk 3 o306_ rfl (by kernel_rfl) (fun _ _ _ h => h) zk
 ·intro wq zq
  go_simp
  try rfl
 go_frame
 apply tk 4 o307_ rfl (by kernel_rfl) (fun _ _ _ h => h) zk
 ·intro wq zq
  go_simp
  try rfl
 go_frame
 apply tk 5 o308_ rfl (by kernel_rfl) (fun _ _ _ h => h) zk
 ·intro wq zq
  have x0 := (HX1.out.below zq (by omega)).cell
  rw [HNN.out] at x0
  go_simp
  try rfl
 go_frame
 apply tk 6 o309_ rfl (by kernel_rfl) (fun _ _ _ h => h) zk
 ·intro wq zq
  go_simp
  try rfl
 go_frame
 apply tk 7 o310_ rfl (by kernel_rfl) (fun _ _ _ h => h) zk
 ·intro wq zq
  go_simp
  try rfl
 go_frame
 apply tk 8 o311_ rfl (by kernel_rfl) (fun _ _ _ h => h) zk
 ·intro wq zq
  go_simp
  try rfl
 go_frame
 apply tk 9 o312_ rfl (by kernel_rfl) (fun _ _ _ h => h) zk
 ·intro wq zq
  go_simp
  try rfl
 go_frame
 apply tk 10 o313_ rfl (by kernel_rfl) (fun _ _ _ h => h) zk
 ·intro wq zq
  have x0 := (HX1.out.below zq (by omega)).cell
  rw [HNN.out] at x0
  go_simp
  try rfl
 go_frame
 apply tk 11 o314_ rfl (by kernel_rfl) (fun _ _ _ h => h) zk
 ·intro wq zq
  go_simp
  try rfl
 go_frame
 apply tk 13 o316_ rfl (by kernel_rfl) (fun _ _ _ h => h) zk
 ·intro wq zq
  go_simp
  try rfl
 go_frame
 apply tk 14 o317_ rfl (by kernel_rfl) (fun _ _ _ h => h) zk
 ·intro wq zq
  have x0 := (HX1.out.below zq (by omega)).cell
  rw [HNN.out] at x0
  go_simp
  try rfl
 go_frame
 refine rd 12 o315_ rfl (by kernel_rfl) fun K hK => ?_
 go_simp
 refine hK.out _ _ ?_ (fun zk => ?_)
 ·exact zk.alloc zk.size _
 clear hK K
 try go_frame
 apply tk 15 o318_ rfl (by kernel_rfl) (fun _ _ _ h => h) zk
 ·intro wq zq
  go_simp
  try rfl
 go_frame
 refine rd 16 o319_ rfl (by kernel_rfl) fun K hK => ?_
 have cL : (w1.alloc (.cells #[.int .i64 1, .int .i64 2, .int .i64 4, .int .i64 3] 3)).drew.cell? ⟨w1.heap.size, 0, none⟩ = some (.int .i64 1) := by
  have h1 := (MapKept.heap_alloc w1 (.cells #[.int .i64 1, .int .i64 2, .int .i64 4, .int .i64 3] 3)).1
  show (w1.alloc (.cells #[.int .i64 1, .int .i64 2, .int .i64 4, .int .i64 3] 3)).cell? _ = _
  simp only [World.cell?, h1]
  rfl
 rw [hs1] at cL
 go_simp
 refine hK.out _ _ ?_ (fun zk => ?_)
 ·exact zk
 clear hK K
 try go_frame
 apply tk 17 o320_ rfl (by kernel_rfl) (fun _ _ _ h => h) zk
 ·intro wq zq
  go_simp
  try rfl
 go_frame
 apply tk 18 o321_ rfl (by kernel_rfl) (fun _ _ _ h => h) zk
 ·intro wq zq
  go_simp
  try rfl
 go_frame
 apply tk 19 o322_ rfl (by kernel_rfl) (fun _ _ _ h => h) zk
 ·intro wq zq
  go_simp
  try rfl
 go_frame
 refine sk 20 o323_ rfl (by kernel_rfl) (fun _ _ _ h => h) zk ?_
 go_frame
 refine sk 21 o324_ rfl (by kernel_rfl) (fun _ _ _ h => h) zk ?_
 go_frame
 refine sk 22 o325_ rfl (by kernel_rfl) (fun _ _ _ h => h) zk ?_
 go_frame
 refine sk 23 o326_ rfl (by kernel_rfl) (fun _ _ _ h => h) zk ?_
 go_frame
 refine sk 24 o327_ rfl (by kernel_rfl) (fun _ _ _ h => h) zk ?_
 go_frame
 refine sk 25 o328_ rfl (by kernel_rfl) (fun _ _ _ h => h) zk ?_
 go_frame
 apply tk 26 o329_ rfl (by kernel_rfl) (fun _ _ _ h => h) zk
 ·intro wq zq
  go_simp
  try rfl
 go_frame
 refine wpAnyH_done (by kernel_rfl) ?_ _
 have HB2 := zz (HB1.out.trans (zk.mono (by omega)))
 go_wp2
 go_ret
 exact ⟨zb E.out, HB2.out⟩
theorem rfors_1n (hk : t.f.k = 12) (hn : t.f.n = 1) (hl : ¬ t.ks.length = 2) (hF : AllF t) (hK : Kids w m S v t.ks) (hN : ∀ i, S i -> i < w.heap.size) (h : fitT t = b) :
 Calls Tryz.prog 102 #[nv t.f v] w fun e w' => e = .returned (.bool b) /\ Below w.heap.size w w' := by
 have HH := zz h
 have HK := zz hK
 have HN := zz hN
 have HF := zz hF
 clear h hK hN hF
 obtain ⟨Av, cv, bv, ov, rfl, hlv, hAv, hrv⟩ := HK.out.form
 have HAv := zz hAv
 have HRv := zz hrv
 clear hAv hrv
 unfold nv
 have HKK := zz hk
 have HNN := zz hn
 have ql : ((t.ks.length : Int) != 2) = true := by simp; omega
 have E := zz (show false = b by rw [<- HH.out, for_len HKK.out (by omega)])
 clear hk hn hl
 go_enter Tryz.func102, Tryz.ntmps102
 go_wp2
 obtain ⟨w1, hw1, HB1, HX1, hs1⟩ := jb w t.f (.slice Av t.ks.length cv)
 rw [hw1]
 clear hw1
 refine wp_region_held_drew (S := Below w1.heap.size w1) (by kernel_rfl) ?_ (fun zk => ?_)
 ·exact zd _
 apply tk 0 o303_ rfl (by kernel_rfl) (fun _ _ _ h => h) zk
 ·intro wq zq
  go_simp
  try rfl
 go_frame
 apply tk 1 o304_ rfl (by kernel_rfl) (fun _ _ _ h => h) zk
 ·intro wq zq
  have x0 := (HX1.out.below zq (by omega)).cell
  rw [HNN.out] at x0
  go_simp
  try rfl
 go_frame
 apply tk 2 o305_ rfl (by kernel_rfl) (fun _ _ _ h => h) zk
 ·intro wq zq
  go_simp
  try rfl
 go_frame
 apply tk 3 o306_ rfl (by kernel_rfl) (fun _ _ _ h => h) zk
 ·intro wq zq
  go_simp
  try rfl
 go_frame
 apply tk 4 o307_ rfl (by kernel_rfl) (fun _ _ _ h => h) zk
 ·intro wq zq
  go_simp
  try rfl
 go_frame
 apply tk 5 o308_ rfl (by kernel_rfl) (fun _ _ _ h => h) zk
 ·intro wq zq
  have x0 := (HX1.out.below zq (by omega)).cell
  rw [HNN.out] at x0
  go_simp
  try rfl
 go_frame
 apply tk 6 o309_ rfl (by kernel_rfl) (fun _ _ _ h => h) zk
 ·intro wq zq
  go_simp
  try rfl
 go_frame
 apply tk 7 o310_ rfl (by kernel_rfl) (fun _ _ _ h => h) zk
 ·intro wq zq
  go_simp
  try rfl
 go_frame
 apply tk 8 o311_ rfl (by kernel_rfl) (fun _ _ _ h => h) zk
 ·intro wq zq
  go_simp
  try rfl
 go_frame
 apply tk 9 o312_ rfl (by kernel_rfl) (fun _ _ _ h => h) zk
 ·intro wq zq
  go_simp
  try rfl
 go_frame
 apply tk 10 o313_ rfl (by kernel_rfl) (fun _ _ _ h => h) zk
 ·intro wq zq
  have x0 := (HX1.out.below zq (by omega)).cell
  rw [HNN.out] at x0
  go_simp
  try rfl
 go_frame
 apply tk 11 o314_ rfl (by kernel_rfl) (fun _ _ _ h => h) zk
 ·intro wq zq
  go_simp
  try rfl
 go_frame
 apply tk 13 o316_ rfl (by kernel_rfl) (fun _ _ _ h => h) zk
 ·intro wq zq
  go_simp
  try rfl
 go_frame
 apply tk 14 o317_ rfl (by kernel_rfl) (fun _ _ _ h => h) zk
 ·intro wq zq
  have x0 := (HX1.out.below zq (by omega)).cell
  rw [HNN.out] at x0
  go_simp
  try rfl
 go_frame
 refine rd 12 o315_ rfl (by kernel_rfl) fun K hK => ?_
 go_simp
 refine hK.out _ _ ?_ (fun zk => ?_)
 ·exact zk.alloc zk.size _
 clear hK K
 try go_frame
 apply tk 15 o318_ rfl (by kernel_rfl) (fun _ _ _ h => h) zk
 ·intro wq zq
  go_simp
  try rfl
 go_frame
 refine rd 16 o319_ rfl (by kernel_rfl) fun K hK => ?_
 have cL : (w1.alloc (.cells #[.int .i64 1, .int .i64 2, .int .i64 4, .int .i64 3] 3)).drew.cell? ⟨w1.heap.size, 1, none⟩ = some (.int .i64 2) := by
  have h1 := (MapKept.heap_alloc w1 (.cells #[.int .i64 1, .int .i64 2, .int .i64 4, .int .i64 3] 3)).1
  show (w1.alloc (.cells #[.int .i64 1, .int .i64 2, .int .i64 4, .int .i64 3] 3)).cell? _ = _
  simp only [World.cell?, h1]
  rfl
 rw [hs1] at cL
 go_simp
 refine hK.out _ _ ?_ (fun zk => ?_)
 ·exact zk
 clear hK K
 try go_frame
 apply tk 17 o320_ rfl (by kernel_rfl) (fun _ _ _ h => h) zk
 ·intro wq zq
  go_simp
  try rfl
 go_frame
 apply tk 18 o321_ rfl (by kernel_rfl) (fun _ _ _ h => h) zk
 ·intro wq zq
  go_simp
  try rfl
 go_frame
 apply tk 19 o322_ rfl (by kernel_rfl) (fun _ _ _ h => h) zk
 ·intro wq zq
  go_simp
  try rfl
 go_frame
 refine sk 20 o323_ rfl (by kernel_rfl) (fun _ _ _ h => h) zk ?_
 go_frame
 refine sk 21 o324_ rfl (by kernel_rfl) (fun _ _ _ h => h) zk ?_
 go_frame
 refine sk 22 o325_ rfl (by kernel_rfl) (fun _ _ _ h => h) zk ?_
 go_frame
 refine sk 23 o326_ rfl (by kernel_rfl) (fun _ _ _ h => h) zk ?_
 go_frame
 refine sk 24 o327_ rfl (by kernel_rfl) (fun _ _ _ h => h) zk ?_
 go_frame
 refine sk 25 o328_ rfl (by kernel_rfl) (fun _ _ _ h => h) zk ?_
 go_frame
 apply tk 26 o329_ rfl (by kernel_rfl) (fun _ _ _ h => h) zk
 ·intro wq zq
  go_simp
  try rfl
 go_frame
 refine wpAnyH_done (by kernel_rfl) ?_ _
 have HB2 := zz (HB1.out.trans (zk.mono (by omega)))
 go_wp2
 go_ret
 exact ⟨zb E.out, HB2.out⟩
theorem rfors_2n (hk : t.f.k = 12) (hn : t.f.n = 2) (hl : ¬ t.ks.length = 4) (hF : AllF t) (hK : Kids w m S v t.ks) (hN : ∀ i, S i -> i < w.heap.size) (h : fitT t = b) :
 Calls Tryz.prog 102 #[nv t.f v] w fun e w' => e = .returned (.bool b) /\ Below w.heap.size w w' := by
 have HH := zz h
 have HK := zz hK
 have HN := zz hN
 have HF := zz hF
 clear h hK hN hF
 obtain ⟨Av, cv, bv, ov, rfl, hlv, hAv, hrv⟩ := HK.out.form
 have HAv := zz hAv
 have HRv := zz hrv
 clear hAv hrv
 unfold nv
 have HKK := zz hk
 have HNN := zz hn
 have ql : ((t.ks.length : Int) != 4) = true := by simp; omega
 have E := zz (show false = b by rw [<- HH.out, for_len HKK.out (by omega)])
 clear hk hn hl
 go_enter Tryz.func102, Tryz.ntmps102
 go_wp2
 obtain ⟨w1, hw1, HB1, HX1, hs1⟩ := jb w t.f (.slice Av t.ks.length cv)
 rw [hw1]
 clear hw1
 refine wp_region_held_drew (S := Below w1.heap.size w1) (by kernel_rfl) ?_ (fun zk => ?_)
 ·exact zd _
 apply tk 0 o303_ rfl (by kernel_rfl) (fun _ _ _ h => h) zk
 ·intro wq zq
  go_simp
  try rfl
 go_frame
 apply tk 1 o304_ rfl (by kernel_rfl) (fun _ _ _ h => h) zk
 ·intro wq zq
  have x0 := (HX1.out.below zq (by omega)).cell
  rw [HNN.out] at x0
  go_simp
  try rfl
 go_frame
 apply tk 2 o305_ rfl (by kernel_rfl) (fun _ _ _ h => h) zk
 ·intro wq zq
  go_simp
  try rfl
 go_frame
 apply tk 3 o306_ rfl (by kernel_rfl) (fun _ _ _ h => h) zk
 ·intro wq zq
  go_simp
  try rfl
 go_frame
 apply tk 4 o307_ rfl (by kernel_rfl) (fun _ _ _ h => h) zk
 ·intro wq zq
  go_simp
  try rfl
 go_frame
 apply tk 5 o308_ rfl (by kernel_rfl) (fun _ _ _ h => h) zk
 ·intro wq zq
  have x0 := (HX1.out.below zq (by omega)).cell
  rw [HNN.out] at x0
  go_simp
  try rfl
 go_frame
 apply tk 6 o309_ rfl (by kernel_rfl) (fun _ _ _ h => h) zk
 ·intro wq zq
  go_simp
  try rfl
 go_frame
 apply tk 7 o310_ rfl (by kernel_rfl) (fun _ _ _ h => h) zk
 ·intro wq zq
  go_simp
  try rfl
 go_frame
 apply tk 8 o311_ rfl (by kernel_rfl) (fun _ _ _ h => h) zk
 ·intro wq zq
  go_simp
  try rfl
 go_frame
 apply tk 9 o312_ rfl (by kernel_rfl) (fun _ _ _ h => h) zk
 ·intro wq zq
  go_simp
  try rfl
 go_frame
 apply tk 10 o313_ rfl (by kernel_rfl) (fun _ _ _ h => h) zk
 ·intro wq zq
  have x0 := (HX1.out.below zq (by omega)).cell
  rw [HNN.out] at x0
  go_simp
  try rfl
 go_frame
 apply tk 11 o314_ rfl (by kernel_rfl) (fun _ _ _ h => h) zk
 ·intro wq zq
  go_simp
  try rfl
 go_frame
 apply tk 13 o316_ rfl (by kernel_rfl) (fun _ _ _ h => h) zk
 ·intro wq zq
  go_simp
  try rfl
 go_frame
 apply tk 14 o317_ rfl (by kernel_rfl) (fun _ _ _ h => h) zk
 ·intro wq zq
  have x0 := (HX1.out.below zq (by omega)).cell
  rw [HNN.out] at x0
  go_simp
  try rfl
 go_frame
 refine rd 12 o315_ rfl (by kernel_rfl) fun K hK => ?_
 go_simp
 refine hK.out _ _ ?_ (fun zk => ?_)
 ·exact zk.alloc zk.size _
 clear hK K
 try go_frame
 apply tk 15 o318_ rfl (by kernel_rfl) (fun _ _ _ h => h) zk
 ·intro wq zq
  go_simp
  try rfl
 go_frame
 refine rd 16 o319_ rfl (by kernel_rfl) fun K hK => ?_
 have cL : (w1.alloc (.cells #[.int .i64 1, .int .i64 2, .int .i64 4, .int .i64 3] 3)).drew.cell? ⟨w1.heap.size, 2, none⟩ = some (.int .i64 4) := by
  have h1 := (MapKept.heap_alloc w1 (.cells #[.int .i64 1, .int .i64 2, .int .i64 4, .int .i64 3] 3)).1
  show (w1.alloc (.cells #[.int .i64 1, .int .i64 2, .int .i64 4, .int .i64 3] 3)).cell? _ = _
  simp only [World.cell?, h1]
  rfl
 rw [hs1] at cL
 go_simp
 refine hK.out _ _ ?_ (fun zk => ?_)
 ·exact zk
 clear hK K
 try go_frame
 apply tk 17 o320_ rfl (by kernel_rfl) (fun _ _ _ h => h) zk
 ·intro wq zq
  go_simp
  try rfl
 go_frame
 apply tk 18 o321_ rfl (by kernel_rfl) (fun _ _ _ h => h) zk
 ·intro wq zq
  go_simp
  try rfl
 go_frame
 apply tk 19 o322_ rfl (by kernel_rfl) (fun _ _ _ h => h) zk
 ·intro wq zq
  go_simp
  try rfl
 go_frame
 refine sk 20 o323_ rfl (by kernel_rfl) (fun _ _ _ h => h) zk ?_
 go_frame
 refine sk 21 o324_ rfl (by kernel_rfl) (fun _ _ _ h => h) zk ?_
 go_frame
 refine sk 22 o325_ rfl (by kernel_rfl) (fun _ _ _ h => h) zk ?_
 go_frame
 refine sk 23 o326_ rfl (by kernel_rfl) (fun _ _ _ h => h) zk ?_
 go_frame
 refine sk 24 o327_ rfl (by kernel_rfl) (fun _ _ _ h => h) zk ?_
 go_frame
 refine sk 25 o328_ rfl (by kernel_rfl) (fun _ _ _ h => h) zk ?_
 go_frame
 apply tk 26 o329_ rfl (by kernel_rfl) (fun _ _ _ h => h) zk
 ·intro wq zq
  go_simp
  try rfl
 go_frame
 refine wpAnyH_done (by kernel_rfl) ?_ _
 have HB2 := zz (HB1.out.trans (zk.mono (by omega)))
 go_wp2
 go_ret
 exact ⟨zb E.out, HB2.out⟩
theorem rfors_3n (hk : t.f.k = 12) (hn : t.f.n = 3) (hl : ¬ t.ks.length = 3) (hF : AllF t) (hK : Kids w m S v t.ks) (hN : ∀ i, S i -> i < w.heap.size) (h : fitT t = b) :
 Calls Tryz.prog 102 #[nv t.f v] w fun e w' => e = .returned (.bool b) /\ Below w.heap.size w w' := by
 have HH := zz h
 have HK := zz hK
 have HN := zz hN
 have HF := zz hF
 clear h hK hN hF
 obtain ⟨Av, cv, bv, ov, rfl, hlv, hAv, hrv⟩ := HK.out.form
 have HAv := zz hAv
 have HRv := zz hrv
 clear hAv hrv
 unfold nv
 have HKK := zz hk
 have HNN := zz hn
 have ql : ((t.ks.length : Int) != 3) = true := by simp; omega
 have E := zz (show false = b by rw [<- HH.out, for_len HKK.out (by omega)])
 clear hk hn hl
 go_enter Tryz.func102, Tryz.ntmps102
 go_wp2
 obtain ⟨w1, hw1, HB1, HX1, hs1⟩ := jb w t.f (.slice Av t.ks.length cv)
 rw [hw1]
 clear hw1
 refine wp_region_held_drew (S := Below w1.heap.size w1) (by kernel_rfl) ?_ (fun zk => ?_)
 ·exact zd _
 apply tk 0 o303_ rfl (by kernel_rfl) (fun _ _ _ h => h) zk
 ·intro wq zq
  go_simp
  try rfl
 go_frame
 apply tk 1 o304_ rfl (by kernel_rfl) (fun _ _ _ h => h) zk
 ·intro wq zq
  have x0 := (HX1.out.below zq (by omega)).cell
  rw [HNN.out] at x0
  go_simp
  try rfl
 go_frame
 apply tk 2 o305_ rfl (by kernel_rfl) (fun _ _ _ h => h) zk
 ·intro wq zq
  go_simp
  try rfl
 go_frame
 apply tk 3 o306_ rfl (by kernel_rfl) (fun _ _ _ h => h) zk
 ·intro wq zq
  go_simp
  try rfl
 go_frame
 apply tk 4 o307_ rfl (by kernel_rfl) (fun _ _ _ h => h) zk
 ·intro wq zq
  go_simp
  try rfl
 go_frame
 apply tk 5 o308_ rfl (by kernel_rfl) (fun _ _ _ h => h) zk
 ·intro wq zq
  have x0 := (HX1.out.below zq (by omega)).cell
  rw [HNN.out] at x0
  go_simp
  try rfl
 go_frame
 apply tk 6 o309_ rfl (by kernel_rfl) (fun _ _ _ h => h) zk
 ·intro wq zq
  go_simp
  try rfl
 go_frame
 apply tk 7 o310_ rfl (by kernel_rfl) (fun _ _ _ h => h) zk
 ·intro wq zq
  go_simp
  try rfl
 go_frame
 apply tk 8 o311_ rfl (by kernel_rfl) (fun _ _ _ h => h) zk
 ·intro wq zq
  go_simp
  try rfl
 go_frame
 apply tk 9 o312_ rfl (by kernel_rfl) (fun _ _ _ h => h) zk
 ·intro wq zq
  go_simp
  try rfl
 go_frame
 apply tk 10 o313_ rfl (by kernel_rfl) (fun _ _ _ h => h) zk
 ·intro wq zq
  have x0 := (HX1.out.below zq (by omega)).cell
  rw [HNN.out] at x0
  go_simp
  try rfl
 go_frame
 apply tk 11 o314_ rfl (by kernel_rfl) (fun _ _ _ h => h) zk
 ·intro wq zq
  go_simp
  try rfl
 go_frame
 apply tk 13 o316_ rfl (by kernel_rfl) (fun _ _ _ h => h) zk
 ·intro wq zq
  go_simp
  try rfl
 go_frame
 apply tk 14 o317_ rfl (by kernel_rfl) (fun _ _ _ h => h) zk
 ·intro wq zq
  have x0 := (HX1.out.below zq (by omega)).cell
  rw [HNN.out] at x0
  go_simp
  try rfl
 go_frame
 refine rd 12 o315_ rfl (by kernel_rfl) fun K hK => ?_
 go_simp
 refine hK.out _ _ ?_ (fun zk => ?_)
 ·exact zk.alloc zk.size _
 clear hK K
 try go_frame
 apply tk 15 o318_ rfl (by kernel_rfl) (fun _ _ _ h => h) zk
 ·intro wq zq
  go_simp
  try rfl
 go_frame
 refine rd 16 o319_ rfl (by kernel_rfl) fun K hK => ?_
 have cL : (w1.alloc (.cells #[.int .i64 1, .int .i64 2, .int .i64 4, .int .i64 3] 3)).drew.cell? ⟨w1.heap.size, 3, none⟩ = some (.int .i64 3) := by
  have h1 := (MapKept.heap_alloc w1 (.cells #[.int .i64 1, .int .i64 2, .int .i64 4, .int .i64 3] 3)).1
  show (w1.alloc (.cells #[.int .i64 1, .int .i64 2, .int .i64 4, .int .i64 3] 3)).cell? _ = _
  simp only [World.cell?, h1]
  rfl
 rw [hs1] at cL
 go_simp
 refine hK.out _ _ ?_ (fun zk => ?_)
 ·exact zk
 clear hK K
 try go_frame
 apply tk 17 o320_ rfl (by kernel_rfl) (fun _ _ _ h => h) zk
 ·intro wq zq
  go_simp
  try rfl
 go_frame
 apply tk 18 o321_ rfl (by kernel_rfl) (fun _ _ _ h => h) zk
 ·intro wq zq
  go_simp
  try rfl
 go_frame
 apply tk 19 o322_ rfl (by kernel_rfl) (fun _ _ _ h => h) zk
 ·intro wq zq
  go_simp
  try rfl
 go_frame
 refine sk 20 o323_ rfl (by kernel_rfl) (fun _ _ _ h => h) zk ?_
 go_frame
 refine sk 21 o324_ rfl (by kernel_rfl) (fun _ _ _ h => h) zk ?_
 go_frame
 refine sk 22 o325_ rfl (by kernel_rfl) (fun _ _ _ h => h) zk ?_
 go_frame
 refine sk 23 o326_ rfl (by kernel_rfl) (fun _ _ _ h => h) zk ?_
 go_frame
 refine sk 24 o327_ rfl (by kernel_rfl) (fun _ _ _ h => h) zk ?_
 go_frame
 refine sk 25 o328_ rfl (by kernel_rfl) (fun _ _ _ h => h) zk ?_
 go_frame
 apply tk 26 o329_ rfl (by kernel_rfl) (fun _ _ _ h => h) zk
 ·intro wq zq
  go_simp
  try rfl
 go_frame
 refine wpAnyH_done (by kernel_rfl) ?_ _
 have HB2 := zz (HB1.out.trans (zk.mono (by omega)))
 go_wp2
 go_ret
 exact ⟨zb E.out, HB2.out⟩
theorem rfors_0 (hB : ∀ k ∈ t.ks, AskB k) (hk : t.f.k = 12) (hn : t.f.n = 0) (hl : t.ks.length = 1) (hF : AllF t) (hK : Kids w m S v t.ks) (hN : ∀ i, S i -> i < w.heap.size) (h : fitT t = b) :
 Calls Tryz.prog 102 #[nv t.f v] w fun e w' => e = .returned (.bool b) /\ Below w.heap.size w w' := by
 have HH := zz h
 have HK := zz hK
 have HN := zz hN
 have HF := zz hF
 clear h hK hN hF
 obtain ⟨Av, cv, bv, ov, rfl, hlv, hAv, hrv⟩ := HK.out.form
 have HAv := zz hAv
 have HRv := zz hrv
 clear hAv hrv
 unfold nv
 have HKK := zz hk
 have HNN := zz hn
 have HL := zz hl
 have HB0 := zz hB
 have HMK := zz (show mrk t.f.k = false by rw [hk]; rfl)
 have hm0 : 0 < t.ks.length := by omega
 obtain ⟨hA1, hbv, _⟩ := HAv.out hm0
 subst hA1
 rw [hl] at hlv |-
 clear hk hn hl hB
 obtain ⟨r0, hr0⟩ : ∃ x, (emn t.f) = x := ⟨_, rfl⟩
 have Hr0 := zz hr0
 clear hr0
 go_enter Tryz.func102, Tryz.ntmps102
 go_wp2
 obtain ⟨w1, hw1, HB1, HX1, hs1⟩ := jb w t.f (.slice (some ⟨bv, ov, none⟩) 1 cv)
 rw [hw1]
 clear hw1
 refine wp_region_held_drew (S := Below w1.heap.size w1) (by kernel_rfl) ?_ (fun zk => ?_)
 ·exact zd _
 apply tk 0 o303_ rfl (by kernel_rfl) (fun _ _ _ h => h) zk
 ·intro wq zq
  go_simp
  try rfl
 go_frame
 apply tk 1 o304_ rfl (by kernel_rfl) (fun _ _ _ h => h) zk
 ·intro wq zq
  have x0 := (HX1.out.below zq (by omega)).cell
  rw [HNN.out] at x0
  go_simp
  try rfl
 go_frame
 apply tk 2 o305_ rfl (by kernel_rfl) (fun _ _ _ h => h) zk
 ·intro wq zq
  go_simp
  try rfl
 go_frame
 apply tk 3 o306_ rfl (by kernel_rfl) (fun _ _ _ h => h) zk
 ·intro wq zq
  go_simp
  try rfl
 go_frame
 apply tk 4 o307_ rfl (by kernel_rfl) (fun _ _ _ h => h) zk
 ·intro wq zq
  go_simp
  try rfl
 go_frame
 apply tk 5 o308_ rfl (by kernel_rfl) (fun _ _ _ h => h) zk
 ·intro wq zq
  have x0 := (HX1.out.below zq (by omega)).cell
  rw [HNN.out] at x0
  go_simp
  try rfl
 go_frame
 apply tk 6 o309_ rfl (by kernel_rfl) (fun _ _ _ h => h) zk
 ·intro wq zq
  go_simp
  try rfl
 go_frame
 apply tk 7 o310_ rfl (by kernel_rfl) (fun _ _ _ h => h) zk
 ·intro wq zq
  go_simp
  try rfl
 go_frame
 apply tk 8 o311_ rfl (by kernel_rfl) (fun _ _ _ h => h) zk
 ·intro wq zq
  go_simp
  try rfl
 go_frame
 apply tk 9 o312_ rfl (by kernel_rfl) (fun _ _ _ h => h) zk
 ·intro wq zq
  go_simp
  try rfl
 go_frame
 apply tk 10 o313_ rfl (by kernel_rfl) (fun _ _ _ h => h) zk
 ·intro wq zq
  have x0 := (HX1.out.below zq (by omega)).cell
  rw [HNN.out] at x0
  go_simp
  try rfl
 go_frame
 apply tk 11 o314_ rfl (by kernel_rfl) (fun _ _ _ h => h) zk
 ·intro wq zq
  go_simp
  try rfl
 go_frame
 apply tk 13 o316_ rfl (by kernel_rfl) (fun _ _ _ h => h) zk
 ·intro wq zq
  go_simp
  try rfl
 go_frame
 apply tk 14 o317_ rfl (by kernel_rfl) (fun _ _ _ h => h) zk
 ·intro wq zq
  have x0 := (HX1.out.below zq (by omega)).cell
  rw [HNN.out] at x0
  go_simp
  try rfl
 go_frame
 refine rd 12 o315_ rfl (by kernel_rfl) fun K hK => ?_
 go_simp
 refine hK.out _ _ ?_ (fun zk => ?_)
 ·exact zk.alloc zk.size _
 clear hK K
 try go_frame
 apply tk 15 o318_ rfl (by kernel_rfl) (fun _ _ _ h => h) zk
 ·intro wq zq
  go_simp
  try rfl
 go_frame
 refine rd 16 o319_ rfl (by kernel_rfl) fun K hK => ?_
 have cL : (w1.alloc (.cells #[.int .i64 1, .int .i64 2, .int .i64 4, .int .i64 3] 3)).drew.cell? ⟨w1.heap.size, 0, none⟩ = some (.int .i64 1) := by
  have h1 := (MapKept.heap_alloc w1 (.cells #[.int .i64 1, .int .i64 2, .int .i64 4, .int .i64 3] 3)).1
  show (w1.alloc (.cells #[.int .i64 1, .int .i64 2, .int .i64 4, .int .i64 3] 3)).cell? _ = _
  simp only [World.cell?, h1]
  rfl
 rw [hs1] at cL
 go_simp
 refine hK.out _ _ ?_ (fun zk => ?_)
 ·exact zk
 clear hK K
 try go_frame
 apply tk 17 o320_ rfl (by kernel_rfl) (fun _ _ _ h => h) zk
 ·intro wq zq
  go_simp
  try rfl
 go_frame
 apply tk 18 o321_ rfl (by kernel_rfl) (fun _ _ _ h => h) zk
 ·intro wq zq
  go_simp
  try rfl
 go_frame
 apply tk 19 o322_ rfl (by kernel_rfl) (fun _ _ _ h => h) zk
 ·intro wq zq
  go_simp
  try rfl
 go_frame
 apply tk 20 o323_ rfl (by kernel_rfl) (fun _ _ _ h => h) zk
 ·intro wq zq
  have x0 := (HX1.out.below zq (by omega)).cell
  go_simp
  try rfl
 go_frame
 apply tk 21 o324_ rfl (by kernel_rfl) (fun _ _ _ h => h) zk
 ·intro wq zq
  go_simp
  try rfl
 go_frame
 apply tk 22 o325_ rfl (by kernel_rfl) (fun _ _ _ h => h) zk
 ·intro wq zq
  have x0 := (HX1.out.below zq (by omega)).cell
  rw [HNN.out] at x0
  go_simp
  try rfl
 go_frame
 apply tk 23 o326_ rfl (by kernel_rfl) (fun _ _ _ h => h) zk
 ·intro wq zq
  go_simp
  try rfl
 go_frame
 refine rd 24 o327_ rfl (by kernel_rfl) fun K hK => ?_
 go_simp
 refine (rbare_is (f := t.f) (x := false) (y := false) (z := true) (r := r0) ((rbare_fft HMK.out).trans Hr0.out) _).mono ?_
 rintro e w5 ⟨rfl, b5⟩
 have HB5 := bt2 (zz zk) b5
 clear b5
 go_wp2_with fail
 refine hK.out _ _ ?_ (fun zk => ?_)
 ·exact HB5.out
 clear hK K
 try go_frame
 apply tk 25 o328_ rfl (by kernel_rfl) (fun _ _ _ h => h) zk
 ·intro wq zq
  go_simp
  try rfl
 go_frame
 apply tk 26 o329_ rfl (by kernel_rfl) (fun _ _ _ h => h) zk
 ·intro wq zq
  go_simp
  try rfl
 go_frame
 refine wpAnyH_done (by kernel_rfl) ?_ _
 have hz5 := zk.size
 have HB5' := zz (HB1.out.trans (zk.mono (by omega)))
 have HX5 := zz (HX1.out.below zk (by omega))
 clear HB1 HX1 HB5 zk
 have HB5 := HB5'
 clear HB5'
 have x0 := HX5.out.cell
 rw [HNN.out] at x0
 cases r0
 ·have E := zz (show false = b by rw [<- HH.out, for0 HKK.out HNN.out (lst_one HL.out), Hr0.out]; rfl)
  go_wp2
  go_ret
  exact ⟨zb E.out, HB5.out⟩
 ·have hq := (HRv.out.agree (Agree.of_below HB5.out HN.out) hbv).get 0 hm0
  have hq2 : NodeAt w5 m S bv (ov) t.ks[0] := by simpa using hq
  clear hq
  obtain ⟨vp0, p00, p01, p02, p03, p04, p05, p06, p07, hkp0⟩ := hq2.open
  have HKp0 := zz hkp0
  clear hkp0 hq2
  go_wp2_with fail
  refine (HB0.out t.ks[0] (List.getElem_mem hm0) _ _ m S HKp0.out (fun i hi => by have := HN.out i hi; have := HB5.out.size; omega)).mono ?_
  rintro e w6 ⟨rfl, b⟩
  have hz6 := b.size
  have HB6 := bt2 HB5 b
  have HX6 := bx HX5 b
  clear b HB5 HX5 x0 p00 p01 p02 p03 p04 p05 p06 p07
  have x0 := HX6.out.cell
  rw [HNN.out] at x0
  cases c1 : okB t.ks[0]
  ·have Hc1 := zz c1
   clear c1
   have E := zz (show false = b by rw [<- HH.out, for0 HKK.out HNN.out (lst_one HL.out), Hr0.out, Hc1.out]; rfl)
   go_wp2
   go_ret
   exact ⟨zb E.out, HB6.out⟩
  ·have Hc1 := zz c1
   clear c1
   have E := zz (show true = b by rw [<- HH.out, for0 HKK.out HNN.out (lst_one HL.out), Hr0.out, Hc1.out]; rfl)
   go_wp2
   go_ret
   exact ⟨zb E.out, HB6.out⟩
theorem rfors_1 (hE : ∀ k ∈ t.ks, AskE k) (hB : ∀ k ∈ t.ks, AskB k) (hk : t.f.k = 12) (hn : t.f.n = 1) (hl : t.ks.length = 2) (hF : AllF t) (hK : Kids w m S v t.ks) (hN : ∀ i, S i -> i < w.heap.size) (h : fitT t = b) :
 Calls Tryz.prog 102 #[nv t.f v] w fun e w' => e = .returned (.bool b) /\ Below w.heap.size w w' := by
 have HH := zz h
 have HK := zz hK
 have HN := zz hN
 have HF := zz hF
 clear h hK hN hF
 obtain ⟨Av, cv, bv, ov, rfl, hlv, hAv, hrv⟩ := HK.out.form
 have HAv := zz hAv
 have HRv := zz hrv
 clear hAv hrv
 unfold nv
 have HKK := zz hk
 have HNN := zz hn
 have HL := zz hl
 have HE := zz hE
 have HB0 := zz hB
 have HMK := zz (show mrk t.f.k = false by rw [hk]; rfl)
 have hm0 : 0 < t.ks.length := by omega
 have hm1 : 1 < t.ks.length := by omega
 obtain ⟨hA1, hbv, _⟩ := HAv.out hm0
 subst hA1
 rw [hl] at hlv |-
 clear hk hn hl hE hB
 obtain ⟨r0, hr0⟩ : ∃ x, (emn t.f) = x := ⟨_, rfl⟩
 have Hr0 := zz hr0
 clear hr0
 go_enter Tryz.func102, Tryz.ntmps102
 go_wp2
 obtain ⟨w1, hw1, HB1, HX1, hs1⟩ := jb w t.f (.slice (some ⟨bv, ov, none⟩) 2 cv)
 rw [hw1]
 clear hw1
 refine wp_region_held_drew (S := Below w1.heap.size w1) (by kernel_rfl) ?_ (fun zk => ?_)
 ·exact zd _
 apply tk 0 o303_ rfl (by kernel_rfl) (fun _ _ _ h => h) zk
 ·intro wq zq
  go_simp
  try rfl
 go_frame
 apply tk 1 o304_ rfl (by kernel_rfl) (fun _ _ _ h => h) zk
 ·intro wq zq
  have x0 := (HX1.out.below zq (by omega)).cell
  rw [HNN.out] at x0
  go_simp
  try rfl
 go_frame
 apply tk 2 o305_ rfl (by kernel_rfl) (fun _ _ _ h => h) zk
 ·intro wq zq
  go_simp
  try rfl
 go_frame
 apply tk 3 o306_ rfl (by kernel_rfl) (fun _ _ _ h => h) zk
 ·intro wq zq
  go_simp
  try rfl
 go_frame
 apply tk 4 o307_ rfl (by kernel_rfl) (fun _ _ _ h => h) zk
 ·intro wq zq
  go_simp
  try rfl
 go_frame
 apply tk 5 o308_ rfl (by kernel_rfl) (fun _ _ _ h => h) zk
 ·intro wq zq
  have x0 := (HX1.out.below zq (by omega)).cell
  rw [HNN.out] at x0
  go_simp
  try rfl
 go_frame
 apply tk 6 o309_ rfl (by kernel_rfl) (fun _ _ _ h => h) zk
 ·intro wq zq
  go_simp
  try rfl
 go_frame
 apply tk 7 o310_ rfl (by kernel_rfl) (fun _ _ _ h => h) zk
 ·intro wq zq
  go_simp
  try rfl
 go_frame
 apply tk 8 o311_ rfl (by kernel_rfl) (fun _ _ _ h => h) zk
 ·intro wq zq
  go_simp
  try rfl
 go_frame
 apply tk 9 o312_ rfl (by kernel_rfl) (fun _ _ _ h => h) zk
 ·intro wq zq
  go_simp
  try rfl
 go_frame
 apply tk 10 o313_ rfl (by kernel_rfl) (fun _ _ _ h => h) zk
 ·intro wq zq
  have x0 := (HX1.out.below zq (by omega)).cell
  rw [HNN.out] at x0
  go_simp
  try rfl
 go_frame
 apply tk 11 o314_ rfl (by kernel_rfl) (fun _ _ _ h => h) zk
 ·intro wq zq
  go_simp
  try rfl
 go_frame
 apply tk 13 o316_ rfl (by kernel_rfl) (fun _ _ _ h => h) zk
 ·intro wq zq
  go_simp
  try rfl
 go_frame
 apply tk 14 o317_ rfl (by kernel_rfl) (fun _ _ _ h => h) zk
 ·intro wq zq
  have x0 := (HX1.out.below zq (by omega)).cell
  rw [HNN.out] at x0
  go_simp
  try rfl
 go_frame
 refine rd 12 o315_ rfl (by kernel_rfl) fun K hK => ?_
 go_simp
 refine hK.out _ _ ?_ (fun zk => ?_)
 ·exact zk.alloc zk.size _
 clear hK K
 try go_frame
 apply tk 15 o318_ rfl (by kernel_rfl) (fun _ _ _ h => h) zk
 ·intro wq zq
  go_simp
  try rfl
 go_frame
 refine rd 16 o319_ rfl (by kernel_rfl) fun K hK => ?_
 have cL : (w1.alloc (.cells #[.int .i64 1, .int .i64 2, .int .i64 4, .int .i64 3] 3)).drew.cell? ⟨w1.heap.size, 1, none⟩ = some (.int .i64 2) := by
  have h1 := (MapKept.heap_alloc w1 (.cells #[.int .i64 1, .int .i64 2, .int .i64 4, .int .i64 3] 3)).1
  show (w1.alloc (.cells #[.int .i64 1, .int .i64 2, .int .i64 4, .int .i64 3] 3)).cell? _ = _
  simp only [World.cell?, h1]
  rfl
 rw [hs1] at cL
 go_simp
 refine hK.out _ _ ?_ (fun zk => ?_)
 ·exact zk
 clear hK K
 try go_frame
 apply tk 17 o320_ rfl (by kernel_rfl) (fun _ _ _ h => h) zk
 ·intro wq zq
  go_simp
  try rfl
 go_frame
 apply tk 18 o321_ rfl (by kernel_rfl) (fun _ _ _ h => h) zk
 ·intro wq zq
  go_simp
  try rfl
 go_frame
 apply tk 19 o322_ rfl (by kernel_rfl) (fun _ _ _ h => h) zk
 ·intro wq zq
  go_simp
  try rfl
 go_frame
 apply tk 20 o323_ rfl (by kernel_rfl) (fun _ _ _ h => h) zk
 ·intro wq zq
  have x0 := (HX1.out.below zq (by omega)).cell
  go_simp
  try rfl
 go_frame
 apply tk 21 o324_ rfl (by kernel_rfl) (fun _ _ _ h => h) zk
 ·intro wq zq
  go_simp
  try rfl
 go_frame
 apply tk 22 o325_ rfl (by kernel_rfl) (fun _ _ _ h => h) zk
 ·intro wq zq
  have x0 := (HX1.out.below zq (by omega)).cell
  rw [HNN.out] at x0
  go_simp
  try rfl
 go_frame
 apply tk 23 o326_ rfl (by kernel_rfl) (fun _ _ _ h => h) zk
 ·intro wq zq
  go_simp
  try rfl
 go_frame
 refine rd 24 o327_ rfl (by kernel_rfl) fun K hK => ?_
 go_simp
 refine (rbare_is (f := t.f) (x := false) (y := false) (z := true) (r := r0) ((rbare_fft HMK.out).trans Hr0.out) _).mono ?_
 rintro e w5 ⟨rfl, b5⟩
 have HB5 := bt2 (zz zk) b5
 clear b5
 go_wp2_with fail
 refine hK.out _ _ ?_ (fun zk => ?_)
 ·exact HB5.out
 clear hK K
 try go_frame
 apply tk 25 o328_ rfl (by kernel_rfl) (fun _ _ _ h => h) zk
 ·intro wq zq
  go_simp
  try rfl
 go_frame
 apply tk 26 o329_ rfl (by kernel_rfl) (fun _ _ _ h => h) zk
 ·intro wq zq
  go_simp
  try rfl
 go_frame
 refine wpAnyH_done (by kernel_rfl) ?_ _
 have hz5 := zk.size
 have HB5' := zz (HB1.out.trans (zk.mono (by omega)))
 have HX5 := zz (HX1.out.below zk (by omega))
 clear HB1 HX1 HB5 zk
 have HB5 := HB5'
 clear HB5'
 have x0 := HX5.out.cell
 rw [HNN.out] at x0
 cases r0
 ·have E := zz (show false = b by rw [<- HH.out, for1 HKK.out HNN.out (lst_two HL.out), Hr0.out]; rfl)
  go_wp2
  go_ret
  exact ⟨zb E.out, HB5.out⟩
 ·have hq := (HRv.out.agree (Agree.of_below HB5.out HN.out) hbv).get 1 hm1
  have hq2 : NodeAt w5 m S bv (ov + 8) t.ks[1] := by simpa using hq
  clear hq
  obtain ⟨vp1, p10, p11, p12, p13, p14, p15, p16, p17, hkp1⟩ := hq2.open
  have HKp1 := zz hkp1
  clear hkp1 hq2
  go_wp2_with fail
  refine (HB0.out t.ks[1] (List.getElem_mem hm1) _ _ m S HKp1.out (fun i hi => by have := HN.out i hi; have := HB5.out.size; omega)).mono ?_
  rintro e w6 ⟨rfl, b⟩
  have hz6 := b.size
  have HB6 := bt2 HB5 b
  have HX6 := bx HX5 b
  clear b HB5 HX5 x0 p10 p11 p12 p13 p14 p15 p16 p17
  have x0 := HX6.out.cell
  rw [HNN.out] at x0
  cases c1 : okB t.ks[1]
  ·have Hc1 := zz c1
   clear c1
   have E := zz (show false = b by rw [<- HH.out, for1 HKK.out HNN.out (lst_two HL.out), Hr0.out, Hc1.out]; rfl)
   go_wp2
   go_ret
   exact ⟨zb E.out, HB6.out⟩
  ·have Hc1 := zz c1
   clear c1
   have hq := (HRv.out.agree (Agree.of_below HB6.out HN.out) hbv).get 0 hm0
   have hq2 : NodeAt w6 m S bv (ov) t.ks[0] := by simpa using hq
   clear hq
   obtain ⟨vp0, p00, p01, p02, p03, p04, p05, p06, p07, hkp0⟩ := hq2.open
   have HKp0 := zz hkp0
   clear hkp0 hq2
   go_wp2_with fail
   refine (HE.out t.ks[0] (List.getElem_mem hm0) _ _ m S HKp0.out (fun i hi => by have := HN.out i hi; have := HB6.out.size; omega)).mono ?_
   rintro e w7 ⟨rfl, b⟩
   have hz7 := b.size
   have HB7 := bt2 HB6 b
   have HX7 := bx HX6 b
   clear b HB6 HX6 x0 p00 p01 p02 p03 p04 p05 p06 p07
   have x0 := HX7.out.cell
   rw [HNN.out] at x0
   have E := zz (show okE t.ks[0] = b by rw [<- HH.out, for1 HKK.out HNN.out (lst_two HL.out), Hr0.out, Hc1.out]; rfl)
   go_wp2
   go_ret
   exact ⟨zb E.out, HB7.out⟩
end Go.Proofs.YtmdhjiammcpogaaGreatDoor
