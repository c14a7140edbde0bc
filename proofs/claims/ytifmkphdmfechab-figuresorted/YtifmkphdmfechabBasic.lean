/- The contracts of the small functions of layer 1 over floats. -/
import Derived.Test.YtifmkphdmfechabRows
import Derived.WalkKit
import Derived.WalkSpells
import Derived.WalkLawsBesides
import Derived.Deep.QuietTactic
import Derived.BigQuiet
import Derived.Laws.Externs
import Derived.Test.YtifmkphdmfechabFm
namespace Go.Proofs.Ytifmkphdmfechab
open Go.RowKit

theorem run_fb (x : Nat) (w : World) : (callFunc 25 #[.float .f64 x]).run Try.prog w = .ok (.value (.int .u64 x)) w :=
  run_callFunc_extern (e := Extern.MathFloatBits.float64bits) Try.func25 (by kernel_rfl) (by kernel_rfl) (by kernel_rfl) (by kernel_rfl) _ w

theorem run_ff (n : Int) (w : World) : (callFunc 45 #[.int .u64 n]).run Try.prog w = .ok (.value (.float .f64 n.toNat)) w :=
  run_callFunc_extern (e := Extern.MathFloatBits.float64frombits) Try.func45 (by kernel_rfl) (by kernel_rfl) (by kernel_rfl) (by kernel_rfl) _ w

theorem unary_neg_f (b : Nat) : Op.unary .neg (.float .f64 b) = pure (.float .f64 (b ^^^ 2 ^ 63)) := rfl

attribute [local go_sem] run_fb run_ff unary_neg_f

theorem ne_nan (x : Nat) : ((FloatKind.f64.format.order x x) != some Ordering.eq) = FM.nan x := by
  have h := FM.nan_iff x
  have e : FloatKind.f64.format = Ieee.double := rfl
  rw [e, bne, h, Bool.not_not]

theorem hide {p : Prop} (h : p) : Hid p := h
theorem unhide {p : Prop} (h : Hid p) : p := h.out

theorem ret_bool {a b : Bool} (h : a = b) : Ending.returned (.bool a) = .returned (.bool b) := by rw [h]
theorem ret_float {a b : Nat} (h : a = b) : Ending.returned (.float .f64 a) = .returned (.float .f64 b) := by rw [h]
theorem ret_int {k : IntKind} {a b : Int} (h : a = b) : Ending.returned (.int k a) = .returned (.int k b) := by rw [h]

set_option maxHeartbeats 400000 in
theorem isnan_any (x : Nat) (w : World) :
    Calls Try.prog 26 #[.float .f64 x] w fun e w' => e = .returned (.bool (FM.nan x)) ∧ w' = w := by
  go_enter Try.func26, Try.ntmps26
  go_wp2
  go_ret
  exact ⟨ret_bool (ne_nan x), rfl⟩

set_option maxHeartbeats 400000 in
theorem thenan_any (w : World) :
    Calls Try.prog 33 #[] w fun e w' => e = .returned (.float .f64 9221120237041090561) ∧ w' = w := by
  go_enter Try.func33, Try.ntmps33
  go_wp2
  go_ret
  exact ⟨ret_float (by decide), rfl⟩

set_option maxHeartbeats 400000 in
theorem isinf_pos (x : Nat) (w : World) :
    Calls Try.prog 27 #[.float .f64 x, .int .i64 1] w fun e w' => e = .returned (.bool (FM.pinf x)) ∧ w' = w := by
  go_enter Try.func27, Try.ntmps27
  go_wp2
  go_ret
  exact ⟨ret_bool (FM.gt_max x), rfl⟩

set_option maxHeartbeats 400000 in
theorem isinf_neg (x : Nat) (w : World) :
    Calls Try.prog 27 #[.float .f64 x, .int .i64 (-1)] w fun e w' => e = .returned (.bool (FM.ninf x)) ∧ w' = w := by
  go_enter Try.func27, Try.ntmps27
  go_wp2
  go_ret
  exact ⟨ret_bool (FM.neg_gt_max x), rfl⟩

/-- the sign bit, as the signed integer of the same bits tells it -/
theorem sign_wrap (x : Nat) : decide (wrap64 (x : Int) < 0) = FM.neg x := by
  unfold FM.neg wrap64
  rw [Bool.eq_iff_iff, decide_eq_true_eq, beq_iff_eq]
  omega

set_option maxHeartbeats 400000 in
theorem signbit_any (x : Nat) (w : World) :
    Calls Try.prog 28 #[.float .f64 x] w fun e w' => e = .returned (.bool (FM.neg x)) ∧ w' = w := by
  go_enter Try.func28, Try.ntmps28
  go_wp2
  go_ret
  exact ⟨ret_bool (sign_wrap x), rfl⟩

set_option maxHeartbeats 400000 in
theorem one_any (x : Nat) (w : World) :
    Calls Try.prog 23 #[.float .f64 x] w fun e w' => e = .returned (.float .f64 (FM.one x)) ∧ w' = w := by
  cases hn : FM.nan x
  · have e : FM.one x = x := by unfold FM.one; rw [hn]; rfl
    have E : Hid (FM.one x = x) := e
    clear e
    go_enter Try.func23, Try.ntmps23
    go_wp2_with (go_at_call 26; refine (isnan_any _ _).mono ?_; rintro e w' ⟨rfl, rfl⟩)
    go_ret
    exact ⟨ret_float E.out.symm, rfl⟩
  · have e : FM.one x = 9221120237041090561 := by unfold FM.one; rw [hn]; rfl
    have E : Hid (FM.one x = 9221120237041090561) := e
    clear e
    go_enter Try.func23, Try.ntmps23
    go_wp2_with (first | (go_at_call 26; refine (isnan_any _ _).mono ?_; rintro e w' ⟨rfl, rfl⟩) | (go_at_call 33; refine (thenan_any _).mono ?_; rintro e w' ⟨rfl, rfl⟩))
    go_ret
    exact ⟨ret_float E.out.symm, rfl⟩

theorem ne_nan_f (x : Nat) : ((FloatKind.f64.format.order x x) == some Ordering.eq) = !(FM.nan x) := FM.nan_iff x

theorem int_beq (x y : Nat) : ((x : Int) == (y : Int)) = decide (x = y) := by
  rw [Bool.eq_iff_iff, beq_iff_eq, decide_eq_true_eq]; omega

theorem ret_cls {x : Nat} {k : Int} (h : FM.cls x = k) : Ending.returned (.int .i64 k) = .returned (.int .i64 (FM.cls x)) := by rw [h]

set_option maxHeartbeats 1000000 in
theorem class_any (x : Nat) (w : World) :
    Calls Try.prog 15 #[.float .f64 x] w fun e w' => e = .returned (.int .i64 (FM.cls x)) ∧ w' = w := by
  cases hn : FM.nan x
  case true =>
    have E : Hid (FM.cls x = 7) := FM.cls_nan hn
    go_enter Try.func15, Try.ntmps15
    go_wp2_with (go_at_call 26; refine (isnan_any _ _).mono ?_; rintro e w' ⟨rfl, rfl⟩)
    go_ret
    exact ⟨ret_cls E.out, rfl⟩
  cases h1 : FM.ninf x
  case true =>
    have E : Hid (FM.cls x = 1) := FM.cls_ninf hn h1
    go_enter Try.func15, Try.ntmps15
    go_wp2_with (first | (go_at_call 26; refine (isnan_any _ _).mono ?_; rintro e w' ⟨rfl, rfl⟩) | (go_at_call 27; refine (isinf_neg _ _).mono ?_; rintro e w' ⟨rfl, rfl⟩))
    go_ret
    exact ⟨ret_cls E.out, rfl⟩
  cases h2 : FM.pinf x
  case true =>
    have E : Hid (FM.cls x = 6) := FM.cls_pinf hn h2
    go_enter Try.func15, Try.ntmps15
    go_wp2_with fail
    refine (isnan_any _ _).mono ?_; rintro e w' ⟨rfl, rfl⟩
    go_wp2_with fail
    refine (isinf_neg _ _).mono ?_; rintro e w' ⟨rfl, rfl⟩
    go_wp2_with fail
    refine (isinf_pos _ _).mono ?_; rintro e w' ⟨rfl, rfl⟩
    go_wp2_with fail
    go_ret
    exact ⟨ret_cls E.out, rfl⟩
  cases h3 : FM.below x
  case true =>
    have E : Hid (FM.cls x = 2) := FM.cls_below hn h1 h3
    have h3' : (FloatKind.f64.format.order x 0 == some Ordering.lt) = true := h3
    clear h3
    go_enter Try.func15, Try.ntmps15
    go_wp2_with fail
    refine (isnan_any _ _).mono ?_; rintro e w' ⟨rfl, rfl⟩
    go_wp2_with fail
    refine (isinf_neg _ _).mono ?_; rintro e w' ⟨rfl, rfl⟩
    go_wp2_with fail
    refine (isinf_pos _ _).mono ?_; rintro e w' ⟨rfl, rfl⟩
    go_wp2_with fail
    go_ret
    exact ⟨ret_cls E.out, rfl⟩
  cases h4 : FM.above x
  case true =>
    have E : Hid (FM.cls x = 5) := FM.cls_above hn h2 h4
    have h3' : (FloatKind.f64.format.order x 0 == some Ordering.lt) = false := h3
    have h4' : (FloatKind.f64.format.order x 0 == some Ordering.gt) = true := h4
    clear h3 h4
    go_enter Try.func15, Try.ntmps15
    go_wp2_with fail
    refine (isnan_any _ _).mono ?_; rintro e w' ⟨rfl, rfl⟩
    go_wp2_with fail
    refine (isinf_neg _ _).mono ?_; rintro e w' ⟨rfl, rfl⟩
    go_wp2_with fail
    refine (isinf_pos _ _).mono ?_; rintro e w' ⟨rfl, rfl⟩
    go_wp2_with fail
    go_ret
    exact ⟨ret_cls E.out, rfl⟩
  have e0 := FM.cls_zero hn h3 h4
  have h3' : (FloatKind.f64.format.order x 0 == some Ordering.lt) = false := h3
  have h4' : (FloatKind.f64.format.order x 0 == some Ordering.gt) = false := h4
  clear h3 h4
  cases h5 : FM.neg x
  · rw [h5, if_neg Bool.false_ne_true] at e0
    have E : Hid (FM.cls x = 4) := e0
    clear e0
    go_enter Try.func15, Try.ntmps15
    go_wp2_with fail
    refine (isnan_any _ _).mono ?_; rintro e w' ⟨rfl, rfl⟩
    go_wp2_with fail
    refine (isinf_neg _ _).mono ?_; rintro e w' ⟨rfl, rfl⟩
    go_wp2_with fail
    refine (isinf_pos _ _).mono ?_; rintro e w' ⟨rfl, rfl⟩
    go_wp2_with fail
    refine (signbit_any _ _).mono ?_; rintro e w' ⟨rfl, rfl⟩
    go_wp2_with fail
    go_ret
    exact ⟨ret_cls E.out, rfl⟩
  · rw [h5, if_pos rfl] at e0
    have E : Hid (FM.cls x = 3) := e0
    clear e0
    go_enter Try.func15, Try.ntmps15
    go_wp2_with fail
    refine (isnan_any _ _).mono ?_; rintro e w' ⟨rfl, rfl⟩
    go_wp2_with fail
    refine (isinf_neg _ _).mono ?_; rintro e w' ⟨rfl, rfl⟩
    go_wp2_with fail
    refine (isinf_pos _ _).mono ?_; rintro e w' ⟨rfl, rfl⟩
    go_wp2_with fail
    refine (signbit_any _ _).mono ?_; rintro e w' ⟨rfl, rfl⟩
    go_wp2_with fail
    go_ret
    exact ⟨ret_cls E.out, rfl⟩

end Go.Proofs.Ytifmkphdmfechab
