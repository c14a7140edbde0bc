/- Proved: for every three float64 values the law FigureOrder answers true and leaves its arguments as they were. Conditions: none. -/
import Derived.Test.YtifmkphdmfechabLift
namespace Go.Proofs.Ytifmkphdmfechab
open Go.ChangeShapes Go.WideShapes Go.ChangeAt Go.RowKit

theorem lt_okey (a b : Nat) (h : (Ieee.double.order a b == some .lt) = true) : FM.okey a < FM.okey b := by
  cases ha : FM.nan a
  · cases hb : FM.nan b
    · rw [FM.lt_iff a b ha hb, decide_eq_true_eq] at h
      have h1 := FM.okey_sg a ha
      have h2 := FM.okey_sg b hb
      have ca := FM.cls_cases a
      have cb := FM.cls_cases b
      by_cases e : FM.cls a = FM.cls b
      · rw [← e] at h2; omega
      · split at h1 <;> split at h2 <;> omega
    · rw [FM.lt_nan a b (Or.inr hb)] at h; cases h
  · rw [FM.lt_nan a b (Or.inl ha)] at h; cases h

theorem gt_okey (a b : Nat) (h : (Ieee.double.order a b == some .gt) = true) : FM.okey b < FM.okey a := by
  cases ha : FM.nan a
  · cases hb : FM.nan b
    · rw [FM.gt_iff a b ha hb, decide_eq_true_eq] at h
      have h1 := FM.okey_sg a ha
      have h2 := FM.okey_sg b hb
      have ca := FM.cls_cases a
      have cb := FM.cls_cases b
      by_cases e : FM.cls a = FM.cls b
      · rw [← e] at h2; omega
      · split at h1 <;> split at h2 <;> omega
    · rw [FM.gt_nan a b (Or.inr hb)] at h; cases h
  · rw [FM.gt_nan a b (Or.inl ha)] at h; cases h

theorem ord_lt {a b : Nat} (h : FM.okey a < FM.okey b) : ord a b = -1 := FM.cmp3_lt h
theorem ord_gt {a b : Nat} (h : FM.okey b < FM.okey a) : ord a b = 1 := FM.cmp3_gt h
theorem ord_eq {a b : Nat} (h : FM.okey a = FM.okey b) : ord a b = 0 := FM.cmp3_eq h

set_option maxHeartbeats 2000000 in
theorem order_walk (a b c : Nat) (w : World) :
    Calls Try.prog 3 #[.float .f64 a, .float .f64 b, .float .f64 c] w fun e w' => e = .returned (.bool true) ∧ Below w.heap.size w w' := by
  have hm := ord_eq (a := a) (b := a) rfl
  have L := lt_okey a b
  have G := gt_okey a b
  go_enter Try.func3, Try.ntmps3
  go_wp2_with fail
  refine (awake_any _).mono ?_
  rintro e w1 ⟨rfl, hb⟩
  go_wp2_with fail
  refine (order_any _ _ _).mono ?_
  rintro e w2 ⟨rfl, rfl⟩
  go_wp2_with fail
  refine (order_any _ _ _).mono ?_
  rintro e w2 ⟨rfl, rfl⟩
  go_wp2_with fail
  refine (order_any _ _ _).mono ?_
  rintro e w2 ⟨rfl, rfl⟩
  go_wp2_with fail
  refine (order_any _ _ _).mono ?_
  rintro e w2 ⟨rfl, rfl⟩
  go_wp2_with fail
  refine (order_any _ _ _).mono ?_
  rintro e w2 ⟨rfl, rfl⟩
  rcases Int.lt_trichotomy (FM.okey a) (FM.okey b) with h1 | h1 | h1 <;>
  rcases Int.lt_trichotomy (FM.okey b) (FM.okey c) with h2 | h2 | h2 <;>
  rcases Int.lt_trichotomy (FM.okey a) (FM.okey c) with h3 | h3 | h3
  all_goals
    cases hl : (FloatKind.f64.format.order a b == some Ordering.lt) <;>
    cases hg : (FloatKind.f64.format.order a b == some Ordering.gt)
  all_goals first
    | (exfalso; omega)
    | (exfalso; have := L hl; omega)
    | (exfalso; have := G hg; omega)
    | ((first | (have e1 : ord a b = -1 := ord_lt h1; have e4 : ord b a = 1 := ord_gt h1) | (have e1 : ord a b = 1 := ord_gt h1; have e4 : ord b a = -1 := ord_lt h1) | (have e1 : ord a b = 0 := ord_eq h1; have e4 : ord b a = 0 := ord_eq h1.symm))
       (first | (have e2 : ord b c = -1 := ord_lt h2) | (have e2 : ord b c = 1 := ord_gt h2) | (have e2 : ord b c = 0 := ord_eq h2))
       (first | (have e3 : ord a c = -1 := ord_lt h3) | (have e3 : ord a c = 1 := ord_gt h3) | (have e3 : ord a c = 0 := ord_eq h3))
       clear h1 h2 h3 L G
       go_wp2
       go_ret
       exact ⟨rfl, hb⟩)

set_option maxRecDepth 100000 in
theorem order_lifted (os : Os) (started : os.Started) (H : Type) (enc : TypeId × Value → H) :
    ReturnsInHanded {} Try.checked os 3 .any (Rows.figureOrderSpec.pre6 enc Try.prog Try.f3 Rows.figureOrderRow.domain false) (Rows.figureOrderSpec.post enc Try.prog Try.f3 false true false false) := by
  refine returnsInHanded_of_change (C := Try.checked) own_knob started (by kernel_rfl) Try.func3
    (ChangeSpec.witness6 (enc := enc) (C := Try.checked) false ⟨#[], #[.float .f64 0, .float .f64 0, .float .f64 0], []⟩ 8 (by kernel_rfl) (by kernel_rfl) (by kernel_rfl) (by kernel_rfl)) ?_
  intro W base args ds gs before hval0 hW _ _
  have hval : ∀ (j : Nat) t v, Try.f3.params[j]? = some t → args[j]? = some v → Value.okWide Try.prog W .any base t v := hval0
  have hW' := hW
  obtain ⟨p, q, hA0, hV, rfl, hfz, hnd⟩ := hW
  have hA : DataW.TrodAll enc Try.prog W 0 (fun _ => true) true Try.f3.params.toList args.toList ds p := hA0
  rw [Try.params3] at hA hval
  obtain ⟨v0, vs0, d0, ds0, p0, q0, hargs, rfl, rfl, h0, r0⟩ := trodAll_cons hA
  obtain ⟨v1, vs1, d1, ds1, p1, q1, rfl, rfl, rfl, h1, r1⟩ := trodAll_cons r0
  obtain ⟨v2, vs2, d2, ds2, p2, q2, rfl, rfl, rfl, h2, r2⟩ := trodAll_cons r1
  obtain ⟨rfl, rfl, rfl⟩ := trodAll_nil r2
  obtain rfl : args = #[v0, v1, v2] := by cases args; simp_all
  obtain ⟨rfl, rfl⟩ := trodVars_none hV
  obtain ⟨a0, rfl, rfl, rfl, w0⟩ := open_float Try.underlying22 (hval 0 22 v0 rfl rfl) h0
  obtain ⟨a1, rfl, rfl, rfl, w1⟩ := open_float Try.underlying22 (hval 1 22 v1 rfl rfl) h1
  obtain ⟨a2, rfl, rfl, rfl, w2⟩ := open_float Try.underlying22 (hval 2 22 v2 rfl rfl) h2
  clear hA0 hval0
  refine (order_walk a0 a1 a2 W).mono fun e W' ⟨he, bel⟩ => ?_
  subst he
  exact ⟨_, rfl, _, _, _, [], _, [], hW', trodAll_mk1 (shut_bool Try.underlying4 _), (trodAll_cons_mk (shut_float Try.underlying22 w0) (trodAll_cons_mk (shut_float Try.underlying22 w1) (trodAll_cons_mk (shut_float Try.underlying22 w2) trodAll_mk0))), rfl, bel.frame _, fun h => by cases h⟩

theorem figureOrder_holds : Rows.FigureOrderSaid :=
  OpenClaim.holds_of_wide 3 Try.f3 rfl rfl rfl rfl rfl rfl rfl ⟨rfl, rfl, rfl, rfl, rfl⟩ rfl rfl rfl rfl rfl (by kernel_rfl) Try.func3 (by kernel_rfl)
    (of_decide_eq_true (by kernel_rfl)) (by unfold Func.isWrapper; first | (rw [if_pos (by decide +kernel)]; kernel_rfl) | (rw [if_neg (by decide +kernel)]; exact ⟨rfl, rfl⟩))
    (fun os started H enc _ => order_lifted os started H enc)

end Go.Proofs.Ytifmkphdmfechab
