/- Ratio, of the program and of the document: the same bits; where the quotient is no number, the one NaN. -/
import Derived.Test.YtifmkphdmfechabBasic2
namespace Go.Proofs.Ytifmkphdmfechab
open Go.RowKit

/-- the bits that a quotient that is no number has: the tape's -/
def nd (x y : Nat) (w : World) : Nat := Question.cut (.nanBits .f64 x y) (w.tape w.drawn (.nanBits .f64 x y))

theorem nd_nan (x y : Nat) (w : World) : FM.nan (nd x y w) = true := by
  unfold nd
  generalize w.tape w.drawn (.nanBits .f64 x y) = t
  show decide (9218868437227405312 < FM.rung ((t % 2) * 2 ^ 63 + 0x7ff0000000000000 + 1 + (t / 2) % (2 ^ 52 - 1))) = true
  rw [decide_eq_true_eq]
  unfold FM.rung
  have h1 : (t / 2) % (2 ^ 52 - 1) < 4503599627370495 := Nat.mod_lt _ (by decide)
  generalize (t / 2) % (2 ^ 52 - 1) = m at h1
  rcases (show t % 2 = 0 ∨ t % 2 = 1 by omega) with h2 | h2 <;> rw [h2] <;> omega

/-- a by b -/
def quo (x y : Nat) : Nat := match Ieee.double.div x y with
  | some r => FM.one r
  | none => 9221120237041090561

theorem run_quo_some (t : TypeId) (x y r : Nat) (w : World) (h : Ieee.double.div x y = some r) :
    (binOp .quo t (.float .f64 x) (.float .f64 y)).run Try.prog w = .ok (.float .f64 r) w := run_float_arith w .quo t .f64 x y r h

theorem run_quo_none (t : TypeId) (x y : Nat) (w : World) (h : Ieee.double.div x y = none) :
    (binOp .quo t (.float .f64 x) (.float .f64 y)).run Try.prog w = .ok (.float .f64 (nd x y w)) w.drew := by
  have h' : FloatKind.f64.format.div x y = none := h
  simp [binOp, Op.floatArith, h', Question.forced, nd]

set_option maxHeartbeats 400000 in
theorem ratio_any (a b : Int) (w : World) :
    Calls Try.prog 13 #[.int .i64 a, .int .i64 b] w fun e w' => e = .returned (.float .f64 (quo (floatOfInt .f64 a) (floatOfInt .f64 b))) ∧ ∃ n, w' = w.drewN n := by
  cases h : Ieee.double.div (floatOfInt .f64 a) (floatOfInt .f64 b) with
  | some r =>
    have hq := fun t w => run_quo_some t _ _ _ w h
    have E : Hid (quo (floatOfInt .f64 a) (floatOfInt .f64 b) = FM.one r) := by show quo _ _ = _; unfold quo; rw [h]
    clear h
    go_enter Try.func13, Try.ntmps13
    go_wp2_with (go_at_call 23; refine (one_any _ _).mono ?_; rintro e w' ⟨rfl, rfl⟩)
    go_ret
    exact ⟨ret_float (unhide E).symm, 0, rfl⟩
  | none =>
    have hq := fun t w => run_quo_none t _ _ w h
    have E : Hid (quo (floatOfInt .f64 a) (floatOfInt .f64 b) = 9221120237041090561) := by show quo _ _ = _; unfold quo; rw [h]
    clear h
    go_enter Try.func13, Try.ntmps13
    go_wp2_with (go_at_call 23; refine (one_any _ _).mono ?_; rintro e w' ⟨rfl, rfl⟩)
    go_ret
    exact ⟨ret_float (by rw [unhide E, FM.one, nd_nan]; rfl), 1, rfl⟩

end Go.Proofs.Ytifmkphdmfechab
