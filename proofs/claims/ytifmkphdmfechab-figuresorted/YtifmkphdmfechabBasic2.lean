/- The contracts of the document's class and order. -/
import Derived.Test.YtifmkphdmfechabBasic
namespace Go.Proofs.Ytifmkphdmfechab
open Go.RowKit
attribute [local go_sem] run_fb run_ff unary_neg_f

theorem cls_by {x : Nat} (hx : x < 18446744073709551616) (hn : FM.nan x = false) {r z m : Bool}
    (hr : ((x : Int) % 9223372036854775808 == 9218868437227405312) = r) (hz : ((x : Int) % 9223372036854775808 == 0) = z)
    (hm : decide (9223372036854775808 ≤ (x : Int)) = m) :
    FM.cls x = if r then (if m then 1 else 6) else if z then (if m then 3 else 4) else (if m then 2 else 5) := by
  have e1 : decide (FM.rung x = 9218868437227405312) = r := by
    rw [← hr, Bool.eq_iff_iff, beq_iff_eq, decide_eq_true_eq]; unfold FM.rung; omega
  have e2 : decide (FM.rung x = 0) = z := by
    rw [← hz, Bool.eq_iff_iff, beq_iff_eq, decide_eq_true_eq]; unfold FM.rung; omega
  have e3 : FM.neg x = m := by
    rw [← hm, Bool.eq_iff_iff, decide_eq_true_eq]; unfold FM.neg; rw [beq_iff_eq]; omega
  unfold FM.cls
  rw [hn, if_neg Bool.false_ne_true, e3]
  cases r <;> cases z <;> simp_all

theorem cmpint_any (a b : Int) (w : World) :
    Calls Try.prog 16 #[.int .i64 a, .int .i64 b] w fun e w' => e = .returned (.int .i64 (FM.cmp3 a b)) ∧ w' = w := by
  rcases Int.lt_trichotomy a b with h | h | h
  · have E : Hid (FM.cmp3 a b = -1) := FM.cmp3_lt h
    go_enter Try.func16, Try.ntmps16
    go_wp2
    go_ret
    exact ⟨ret_int E.out.symm, rfl⟩
  · subst h
    have E : Hid (FM.cmp3 a a = 0) := FM.cmp3_eq rfl
    go_enter Try.func16, Try.ntmps16
    go_wp2
    go_ret
    exact ⟨ret_int E.out.symm, rfl⟩
  · have E : Hid (FM.cmp3 a b = 1) := FM.cmp3_gt h
    go_enter Try.func16, Try.ntmps16
    go_wp2
    go_ret
    exact ⟨ret_int E.out.symm, rfl⟩

theorem o_lt (x y : Nat) (hx : FM.nan x = false) (hy : FM.nan y = false) : (FloatKind.f64.format.order x y == some Ordering.lt) = decide (FM.sg x < FM.sg y) := FM.lt_iff x y hx hy
theorem o_gt (x y : Nat) (hx : FM.nan x = false) (hy : FM.nan y = false) : (FloatKind.f64.format.order x y == some Ordering.gt) = decide (FM.sg y < FM.sg x) := FM.gt_iff x y hx hy

set_option maxHeartbeats 400000 in
theorem cmpfloat_any (x y : Nat) (w : World) (hx : FM.nan x = false) (hy : FM.nan y = false) :
    Calls Try.prog 17 #[.float .f64 x, .float .f64 y] w fun e w' => e = .returned (.int .i64 (FM.cmp3 (FM.sg x) (FM.sg y))) ∧ w' = w := by
  have n1 := ne_nan x
  have n2 := ne_nan y
  have l := o_lt x y hx hy
  have g := o_gt x y hx hy
  rw [hx] at n1
  rw [hy] at n2
  clear hx hy
  rcases Int.lt_trichotomy (FM.sg x) (FM.sg y) with h | h | h
  · have E := hide (FM.cmp3_lt h)
    rw [decide_eq_true h] at l
    clear h g
    go_enter Try.func17, Try.ntmps17
    go_wp2
    go_ret
    exact ⟨ret_int (unhide E).symm, rfl⟩
  · have E := hide (FM.cmp3_eq h)
    rw [decide_eq_false (by omega)] at l g
    clear h
    go_enter Try.func17, Try.ntmps17
    go_wp2
    go_ret
    exact ⟨ret_int (unhide E).symm, rfl⟩
  · have E := hide (FM.cmp3_gt h)
    rw [decide_eq_false (by omega)] at l
    rw [decide_eq_true h] at g
    clear h
    go_enter Try.func17, Try.ntmps17
    go_wp2
    go_ret
    exact ⟨ret_int (unhide E).symm, rfl⟩

theorem nan_of_cls {x : Nat} (h : FM.cls x ≠ 7) : FM.nan x = false := by
  cases hn : FM.nan x
  · rfl
  · exact absurd (FM.cls_nan hn) h

/-- Order, by places -/
def ord (a b : Nat) : Int := FM.cmp3 (FM.okey a) (FM.okey b)

set_option maxHeartbeats 1000000 in
theorem order_any (a b : Nat) (w : World) :
    Calls Try.prog 7 #[.float .f64 a, .float .f64 b] w fun e w' => e = .returned (.int .i64 (ord a b)) ∧ w' = w := by
  by_cases h : FM.cls a = FM.cls b
  · have hb : (FM.cls a != FM.cls b) = false := by rw [h]; simp
    cases h2 : (FM.cls a == 2)
    · cases h5 : (FM.cls a == 5)
      · have E : Hid (ord a b = 0) := FM.order_eq0 a b h (by simpa using h2) (by simpa using h5)
        clear h
        go_enter Try.func7, Try.ntmps7
        go_wp2_with (go_at_call 15; refine (class_any _ _).mono ?_; rintro e w' ⟨rfl, rfl⟩)
        go_ret
        exact ⟨ret_int (unhide E).symm, rfl⟩
      · have e5 : FM.cls a = 5 := eq_of_beq h5
        have E : Hid (FM.cmp3 (FM.sg a) (FM.sg b) = ord a b) := FM.order_in a b h (Or.inr e5)
        have na := hide (nan_of_cls (x := a) (by omega))
        have nb := hide (nan_of_cls (x := b) (by omega))
        clear h e5
        go_enter Try.func7, Try.ntmps7
        go_wp2_with (first | (go_at_call 15; refine (class_any _ _).mono ?_; rintro e w' ⟨rfl, rfl⟩) | (go_at_call 17; refine (cmpfloat_any _ _ _ (unhide na) (unhide nb)).mono ?_; rintro e w' ⟨rfl, rfl⟩))
        go_ret
        exact ⟨ret_int (unhide E), rfl⟩
    · have e5 : FM.cls a = 2 := eq_of_beq h2
      have E : Hid (FM.cmp3 (FM.sg a) (FM.sg b) = ord a b) := FM.order_in a b h (Or.inl e5)
      have na := hide (nan_of_cls (x := a) (by omega))
      have nb := hide (nan_of_cls (x := b) (by omega))
      clear h e5
      go_enter Try.func7, Try.ntmps7
      go_wp2_with (first | (go_at_call 15; refine (class_any _ _).mono ?_; rintro e w' ⟨rfl, rfl⟩) | (go_at_call 17; refine (cmpfloat_any _ _ _ (unhide na) (unhide nb)).mono ?_; rintro e w' ⟨rfl, rfl⟩))
      go_ret
      exact ⟨ret_int (unhide E), rfl⟩
  · have hb : (FM.cls a != FM.cls b) = true := by simpa using h
    have E : Hid (FM.cmp3 (FM.cls a) (FM.cls b) = ord a b) := FM.order_ne a b h
    clear h
    go_enter Try.func7, Try.ntmps7
    go_wp2_with (first | (go_at_call 15; refine (class_any _ _).mono ?_; rintro e w' ⟨rfl, rfl⟩) | (go_at_call 16; refine (cmpint_any _ _ _).mono ?_; rintro e w' ⟨rfl, rfl⟩))
    go_ret
    exact ⟨ret_int (unhide E), rfl⟩

set_option maxHeartbeats 400000 in
theorem same_any (a b : Nat) (w : World) :
    Calls Try.prog 11 #[.float .f64 a, .float .f64 b] w fun e w' => e = .returned (.bool (ord a b == 0)) ∧ w' = w := by
  go_enter Try.func11, Try.ntmps11
  go_wp2_with (go_at_call 7; refine (order_any _ _ _).mono ?_; rintro e w' ⟨rfl, rfl⟩)
  go_ret
  exact ⟨rfl, rfl⟩

end Go.Proofs.Ytifmkphdmfechab
