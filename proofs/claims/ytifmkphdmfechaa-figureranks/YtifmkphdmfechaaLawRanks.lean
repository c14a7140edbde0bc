/- Proved: for every list of float64 values the law FigureRanks answers true and leaves its argument as it was. Conditions: none. -/
import Derived.Test.YtifmkphdmfechaaLift
import Derived.Test.YtifmkphdmfechaaRank
import Derived.SizedLaws
namespace Go.Proofs.Ytifmkphdmfechaa
open Go.ChangeShapes Go.WideShapes Go.ChangeAt Go.RowKit

theorem want_at {w : World} {D n : Nat} {zs rs : Nat → Nat} (h : Ranked zs n rs) (hw : ∀ i, i < n → w.cell? ⟨D, cntR zs i n, none⟩ = some (.int .i64 i)) :
    ∀ p, p < n → w.cell? ⟨D, p, none⟩ = some (.int .i64 (rs p)) := by
  intro p hp
  have h1 := hw (rs p) (h.1 p hp)
  rw [h.pos p hp] at h1
  exact h1

theorem two_newI (w : World) (u v : Value) (t : TypeId) : ∀ (j : Nat) (x : Value), [u, v][j]? = some x → (w.alloc (.cells #[u, v] t)).cell? ((⟨w.heap.size, 0, none⟩ : Addr).add j) = some x := by
  intro j x hj
  match j, hj with
  | 0, hj => simp at hj; subst hj; simp [Addr.add]
  | 1, hj => simp at hj; subst hj; simp [Addr.add]

theorem cells_below {w w' : World} {D n : Nat} {g : Nat → Nat} {f : Nat → Int} (hD : D < w.heap.size) (hb : Below w.heap.size w w') (h : ∀ i, i < n → w.cell? ⟨D, g i, none⟩ = some (.int .i64 (f i))) : ∀ i, i < n → w'.cell? ⟨D, g i, none⟩ = some (.int .i64 (f i)) :=
  fun i hi => (hb.cell (p := ⟨D, g i, none⟩) hD).trans (h i hi)

theorem cells_keep {w w' : World} {C D n : Nat} {g : Nat → Nat} {f : Nat → Int} (hk : Keep C w w') (hne : D ≠ C) (h : ∀ i, i < n → w.cell? ⟨D, g i, none⟩ = some (.int .i64 (f i))) : ∀ i, i < n → w'.cell? ⟨D, g i, none⟩ = some (.int .i64 (f i)) :=
  fun i hi => World.grownBy.cell hk (h i hi) (by intro e; exact hne (Option.some.inj e))

set_option maxHeartbeats 4000000 in
theorem ranks_walk {a : Option Addr} {n cap : Nat} {zs : Nat → Nat} {w : World} (hR : Row w a n zs) (hz : ∀ i, i < n → zs i < 18446744073709551616) (hn : n ≤ 17592186044414) :
    Calls Try.prog 5 #[.slice a n cap] w fun e w' => e = .returned (.bool true) ∧ Below w.heap.size w w' := by
  have HR := hide hR
  have HZ := hide hz
  have hn1 : n ≤ 17592186044416 := by omega
  clear hR hz
  obtain ⟨i0, hi0, hz0, hz1, hz2⟩ := info_parts Try.infoI
  go_enter Try.func5, Try.ntmps5
  go_wp2_with fail
  refine (awake_any _).mono ?_
  rintro e w1 ⟨rfl, hb1⟩
  have HR1 := hide ((unhide HR).below hb1)
  go_wp2_with fail
  refine (own_any (unhide HR1) hn1).mono ?_
  rintro e w2 ⟨rfl, hM, hb2⟩
  have HM2 := hide hM
  have HR2 := hide ((unhide HR1).below hb2)
  have HB2 := hide (hb1.trans (hb2.mono hb1.size))
  have s1 := hb1.size
  have s2 := hM.lt
  clear hM hb1 hb2 HR1
  go_wp2_with fail
  refine (refrank_any (unhide HR2) (unhide HZ) hn1).mono ?_
  rintro e w3 ⟨rfl, hw3, hk3, hb3⟩
  have HM3 := hide ((unhide HM2).below hb3)
  have HW3 := hide hw3
  have s3 := hk3.lt
  have HB3 := hide ((unhide HB2).trans (hb3.mono (by omega)))
  clear hw3 hk3 hb3 HM2 HR2 HB2
  go_wp2_with fail
  refine (rank_any (unhide HM3).row hn1).mono ?_
  rintro e w4 ⟨rs, rfl, hr4, hc4, hk4, hb4⟩
  have HW4 := hide (cells_below s3 hb4 (unhide HW3))
  have HM4 := hide ((unhide HM3).below hb4)
  have HK4 := hide hk4
  have HC4 := hide hc4
  have HR4 := hide hr4
  have s4 := hk4.lt
  have HB4 := hide ((unhide HB3).trans (hb4.mono (by omega)))
  clear hr4 hc4 hk4 hb4 HM3 HW3 HB3
  go_wp2_with fail
  refine (sameints_any (unhide HC4) (want_at (unhide HR4) (unhide HW4)) hn1).mono ?_
  rintro e w5 ⟨rfl, m5, rfl⟩
  go_wp2
  go_loopw [8] (fun i wr => ∃ q : Nat, q ≤ n ∧ i = .int .i64 q ∧ Keep (w3.heap.size + 1) w4 wr ∧ Blk wr (w3.heap.size + 1) n 3) (fun i _ => n - (intOf i).toNat)
  case atStart => exact ⟨0, by omega, rfl, (Keep.refl _ _).drewN m5, unhide HK4⟩
  case round =>
    obtain ⟨q, hq, rfl, hK, hBq⟩ := hrel
    by_cases hlt2 : q < n
    · obtain ⟨u, hu⟩ := hBq.cell q hlt2
      have hfz := hBq.froz q
      have HK := hide (hK.set q (.int .i64 (-7)))
      have HQ := hide (hBq.set q (.int .i64 (-7)))
      clear hK hBq
      go_wp2
      go_roundw
      case rel => exact ⟨q + 1, by omega, by go_num, unhide HK, unhide HQ⟩
      case measure => simp [intOf]; omega
    · have e : q = n := by omega
      subst e
      obtain ⟨xs, hown⟩ := hBq.own (base := w.heap.size) (by omega) (by unfold maxLen; omega)
      have HO := hide hown
      have HK := hide hK
      have hsz := hK.size
      clear hown hK hBq
      go_wp2_with (first
        | (at_builtin; refine wpList_append_own _ rfl _ _ 34 rfl w.heap.size 3 i0 (.int .i64 0) 1 8 Try.underlying34 hi0 hz0 hz1 hz2 rfl (by decide) _ _ _ rfl ((unhide HO).alloc _) ⟨wr.heap.size, 0, none⟩ 2 2 [.int .i64 (-7), .int .i64 (-7)] rfl rfl (two_newI _ _ _ _) (by intro u hu; simp at hu; subst hu; rfl) (by unfold maxLen; omega) (by omega) (by simp; omega) ?_)
        | fail)
      intro v' w6 _ hgrow _
      have HK6 := hide (((unhide HK).alloc _).trans hgrow)
      have HB6 := hide (Keep.below (unhide HB4) (by omega) (unhide HK6))
      have HR6 := hide ((unhide HR).below (unhide HB6))
      have HM6 := hide (Keep.mine (unhide HK6) (unhide HM4) (by omega))
      have HW6 := hide (cells_keep (unhide HK6) (show w2.heap.size ≠ w3.heap.size + 1 by omega) (unhide HW4))
      have s6 : w4.heap.size ≤ w6.heap.size := (unhide HK6).size
      clear hgrow HW4 HM4 HK4 HC4 HR4 HB4 HO HK HK6 hsz
      go_wp2_with fail
      refine (rank_any (unhide HM6).row hn1).mono ?_
      rintro e w7 ⟨rs2, rfl, hr7, hc7, hk7, hb7⟩
      have HW7 := hide (want_at hr7 (cells_below (by omega) hb7 (unhide HW6)))
      have HC7 := hide hc7
      have HM7 := hide ((unhide HM6).below hb7)
      have HR7 := hide ((unhide HR6).below hb7)
      have HB7 := hide ((unhide HB6).trans (hb7.mono (unhide HB6).size))
      clear hr7 hc7 hk7 hb7 HW6 HM6 HR6 HB6
      go_wp2_with fail
      refine (sameints_any (unhide HC7) (unhide HW7) hn1).mono ?_
      rintro e w8 ⟨rfl, m8, rfl⟩
      go_wp2_with fail
      refine (still_any ((unhide HR7).drewN _) ((unhide HM7).drewN _) hn1).mono ?_
      rintro e w9 ⟨rfl, m9, rfl⟩
      go_wp2
      go_ret
      exact ⟨rfl, below_drewN' (unhide HB7) _⟩

set_option maxRecDepth 100000 in
theorem ranks_lifted (os : Os) (started : os.Started) (H : Type) (enc : TypeId × Value → H) :
    ReturnsInHanded {} Try.checked os 5 .any (Rows.figureRanksSpec.pre6 enc Try.prog Try.f5 Rows.figureRanksRow.domain false) (Rows.figureRanksSpec.post enc Try.prog Try.f5 false true false false) := by
  refine returnsInHanded_of_change_sized (C := Try.checked) own_knob started (by kernel_rfl) Try.func5
    (ChangeSpec.witness6 (enc := enc) (C := Try.checked) false ⟨#[], #[.slice none 0 0], []⟩ 8 (by kernel_rfl) (by kernel_rfl) (by kernel_rfl) (by kernel_rfl)) ?_
  intro W base args ds gs before hval0 hW _ hsz0 _
  have hval : ∀ (j : Nat) t v, Try.f5.params[j]? = some t → args[j]? = some v → Value.okWide Try.prog W .any base t v := hval0
  have hW' := hW
  obtain ⟨p, q, hA0, hV, rfl, hfz, hnd⟩ := hW
  have hA : DataW.TrodAll enc Try.prog W 0 (fun _ => true) true Try.f5.params.toList args.toList ds p := hA0
  have hsz : (DataW.weightsEach Try.prog (Try.f5.params.toList ++ Rows.figureRanksSpec.plain.varTypes Try.prog) (ds ++ gs)).all (· ≤ reachBytes) = true := hsz0
  rw [Try.params5] at hA hval hsz
  obtain ⟨v0, vs0, d0, ds0, p0, q0, hargs, rfl, rfl, h0, r0⟩ := trodAll_cons hA
  obtain ⟨rfl, rfl, rfl⟩ := trodAll_nil r0
  obtain rfl : args = #[v0] := by cases args; simp_all
  obtain ⟨rfl, rfl⟩ := trodVars_none hV
  obtain ⟨a0, len0, cap0, rfl⟩ := okWide_slice Try.underlying28 (hval 0 28 v0 rfl rfl)
  have k0 := h0
  have lt0 : ∀ x ∈ p0, x.block < W.heap.size := by obtain ⟨m, hm⟩ := k0; exact DataW.trod_lt m _ _ _ hm
  obtain ⟨z0, w0, u0, s0⟩ := floats_of_trod h0
  have n0 : len0 ≤ 17592186043904 := by
    rcases s0 with e | ⟨elems, spare, rfl, e⟩
    · omega
    · have z := sized_slice hsz (j := 0) (t := 28) (e := 22) rfl rfl Try.underlying28
      rw [Try.bytesF] at z
      unfold reachBytes at z
      omega
  clear hA0 hval0 hsz hsz0
  refine (ranks_walk w0 u0 (by omega)).mono fun e W' ⟨he, bel⟩ => ?_
  subst he
  exact ⟨_, rfl, _, _, _, [], _, [], hW', trodAll_mk1 (shut_bool Try.underlying4 _), (trodAll_cons_mk (Below.trod laid_out (by kernel_rfl) (of_decide_eq_true (by kernel_rfl)) k0 bel lt0) trodAll_mk0), rfl, bel.frame _, fun h => by cases h⟩

theorem figureRanks_holds : Rows.FigureRanksSaid :=
  OpenClaim.holds_of_wide 5 Try.f5 rfl rfl rfl rfl rfl rfl rfl ⟨rfl, rfl, rfl, rfl, rfl⟩ rfl rfl rfl rfl rfl (by kernel_rfl) Try.func5 (by kernel_rfl)
    (of_decide_eq_true (by kernel_rfl)) (by unfold Func.isWrapper; first | (rw [if_pos (by decide +kernel)]; kernel_rfl) | (rw [if_neg (by decide +kernel)]; exact ⟨rfl, rfl⟩))
    (fun os started H enc _ => ranks_lifted os started H enc)

end Go.Proofs.Ytifmkphdmfechaa
