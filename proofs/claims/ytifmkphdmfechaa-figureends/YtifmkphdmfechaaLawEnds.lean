/- Proved: for every list of float64 values the law FigureEnds answers true and leaves its argument as it was. Conditions: none. -/
import Derived.Test.YtifmkphdmfechaaLift
import Derived.Test.YtifmkphdmfechaaEnds
import Derived.SizedLaws
namespace Go.Proofs.Ytifmkphdmfechaa
open Go.ChangeShapes Go.WideShapes Go.ChangeAt Go.RowKit

set_option maxHeartbeats 2000000 in
theorem ends_walk {a : Option Addr} {n cap : Nat} {zs : Nat → Nat} {w : World} (hR : Row w a n zs) (hz : ∀ i, i < n → zs i < 18446744073709551616) (hn : n ≤ 17592186044416) :
    Calls Try.prog 4 #[.slice a n cap] w fun e w' => e = .returned (.bool true) ∧ Below w.heap.size w w' := by
  have HR := hide hR
  have HZ := hide hz
  have HN := hide (show n ≤ 281474976710656 by omega)
  clear hR hz
  go_enter Try.func4, Try.ntmps4
  go_wp2_with fail
  refine (awake_any _).mono ?_
  rintro e w1 ⟨rfl, hb1⟩
  have HR1 := hide ((unhide HR).below hb1)
  go_wp2_with fail
  refine (own_any (unhide HR1) hn).mono ?_
  rintro e w2 ⟨rfl, hM, hb2⟩
  have HM := hide hM
  have HR2 := hide ((unhide HR1).below hb2)
  have HB := hide (hb1.trans (hb2.mono hb1.size))
  clear hM hb1 hb2
  go_wp2_with fail
  refine (least_any (unhide HM).row (unhide HN)).mono ?_
  rintro e w3 ⟨rfl, rfl⟩
  go_wp2_with fail
  refine (most_any (unhide HM).row (unhide HN)).mono ?_
  rintro e w3 ⟨rfl, rfl⟩
  go_wp2_with fail
  refine (least_any (unhide HM).row (unhide HN)).mono ?_
  rintro e w3 ⟨rfl, rfl⟩
  go_wp2_with fail
  refine (refleast_any (unhide HR2) (unhide HZ) hn).mono ?_
  rintro e w4 ⟨r, rfl, hF, m1, rfl⟩
  rw [fore_is zs (-1) (Or.inr rfl) n r hF]
  clear hF
  go_wp2_with fail
  refine (refmost_any ((unhide HR2).drewN m1) (unhide HZ) hn).mono ?_
  rintro e w5 ⟨r2, rfl, hF, m2, rfl⟩
  rw [fore_is zs 1 (Or.inl rfl) n r2 hF]
  clear hF
  go_wp2_with fail
  refine (bits_any _ _ _).mono ?_
  rintro e w6 ⟨rfl, rfl⟩
  rw [decide_eq_true rfl]
  go_wp2_with fail
  refine (bits_any _ _ _).mono ?_
  rintro e w6 ⟨rfl, rfl⟩
  rw [decide_eq_true rfl]
  go_wp2_with fail
  refine (bits_any _ _ _).mono ?_
  rintro e w6 ⟨rfl, rfl⟩
  rw [decide_eq_true rfl]
  go_wp2_with fail
  refine (still_any ((unhide HR2).drewN _) ((unhide HM).drewN _) hn).mono ?_
  rintro e w7 ⟨rfl, m3, rfl⟩
  have q1 : (r == r) = true := by simp
  have q2 : (r2 == r2) = true := by simp
  go_wp2
  go_ret
  exact ⟨rfl, below_drewN' (unhide HB) _⟩

set_option maxRecDepth 100000 in
theorem ends_lifted (os : Os) (started : os.Started) (H : Type) (enc : TypeId × Value → H) :
    ReturnsInHanded {} Try.checked os 4 .any (Rows.figureEndsSpec.pre6 enc Try.prog Try.f4 Rows.figureEndsRow.domain false) (Rows.figureEndsSpec.post enc Try.prog Try.f4 false true false false) := by
  refine returnsInHanded_of_change_sized (C := Try.checked) own_knob started (by kernel_rfl) Try.func4
    (ChangeSpec.witness6 (enc := enc) (C := Try.checked) false ⟨#[], #[.slice none 0 0], []⟩ 8 (by kernel_rfl) (by kernel_rfl) (by kernel_rfl) (by kernel_rfl)) ?_
  intro W base args ds gs before hval0 hW _ hsz0 _
  have hval : ∀ (j : Nat) t v, Try.f4.params[j]? = some t → args[j]? = some v → Value.okWide Try.prog W .any base t v := hval0
  have hW' := hW
  obtain ⟨p, q, hA0, hV, rfl, hfz, hnd⟩ := hW
  have hA : DataW.TrodAll enc Try.prog W 0 (fun _ => true) true Try.f4.params.toList args.toList ds p := hA0
  have hsz : (DataW.weightsEach Try.prog (Try.f4.params.toList ++ Rows.figureEndsSpec.plain.varTypes Try.prog) (ds ++ gs)).all (· ≤ reachBytes) = true := hsz0
  rw [Try.params4] at hA hval hsz
  obtain ⟨v0, vs0, d0, ds0, p0, q0, hargs, rfl, rfl, h0, r0⟩ := trodAll_cons hA
  obtain ⟨rfl, rfl, rfl⟩ := trodAll_nil r0
  obtain rfl : args = #[v0] := by cases args; simp_all
  obtain ⟨rfl, rfl⟩ := trodVars_none hV
  obtain ⟨a0, len0, cap0, rfl⟩ := okWide_slice Try.underlying28 (hval 0 28 v0 rfl rfl)
  have k0 := h0
  have lt0 : ∀ x ∈ p0, x.block < W.heap.size := by obtain ⟨m, hm⟩ := k0; exact DataW.trod_lt m _ _ _ hm
  obtain ⟨z0, w0, u0, s0⟩ := floats_of_trod h0
  have n0 : len0 ≤ 17592186044416 := by
    rcases s0 with e | ⟨elems, spare, rfl, e⟩
    · omega
    · have z := sized_slice hsz (j := 0) (t := 28) (e := 22) rfl rfl Try.underlying28
      rw [Try.bytesF] at z
      unfold reachBytes at z
      omega
  clear hA0 hval0 hsz hsz0
  refine (ends_walk w0 u0 n0).mono fun e W' ⟨he, bel⟩ => ?_
  subst he
  exact ⟨_, rfl, _, _, _, [], _, [], hW', trodAll_mk1 (shut_bool Try.underlying4 _), (trodAll_cons_mk (Below.trod laid_out (by kernel_rfl) (of_decide_eq_true (by kernel_rfl)) k0 bel lt0) trodAll_mk0), rfl, bel.frame _, fun h => by cases h⟩

theorem figureEnds_holds : Rows.FigureEndsSaid :=
  OpenClaim.holds_of_wide 4 Try.f4 rfl rfl rfl rfl rfl rfl rfl ⟨rfl, rfl, rfl, rfl, rfl⟩ rfl rfl rfl rfl rfl (by kernel_rfl) Try.func4 (by kernel_rfl)
    (of_decide_eq_true (by kernel_rfl)) (by unfold Func.isWrapper; first | (rw [if_pos (by decide +kernel)]; kernel_rfl) | (rw [if_neg (by decide +kernel)]; exact ⟨rfl, rfl⟩))
    (fun os started H enc _ => ends_lifted os started H enc)

end Go.Proofs.Ytifmkphdmfechaa
