/- Sums, products and quotients of words, what is no number taken as the one NaN: no program in it. -/
import Derived.Test.YtifmkphdmfechabFm
namespace Go.Proofs.Ytifmkphdmfechab
namespace FM
open Ieee

/-- what an operation gives, the one NaN in the place of every other -/
def can (r : Option Nat) : Nat := match r with
  | some r => one r
  | none => 9221120237041090561

def fadd (x y : Nat) : Nat := can (double.add x y)
def fmul (x y : Nat) : Nat := can (double.mul x y)
def fdiv (x y : Nat) : Nat := can (double.div x y)

theorem nan_the : nan 9221120237041090561 = true := by decide
theorem one_nan {x : Nat} (h : nan x = true) : one x = 9221120237041090561 := by unfold one; rw [if_pos h]
theorem one_num {x : Nat} (h : nan x = false) : one x = x := by unfold one; rw [h, if_neg Bool.false_ne_true]
theorem nan_one (x : Nat) : nan (one x) = nan x := by
  cases h : nan x
  · rw [one_num h, h]
  · rw [one_nan h, nan_the]
theorem one_one (x : Nat) : one (one x) = one x := by
  cases h : nan x
  · rw [one_num h, one_num h]
  · rw [one_nan h]; exact one_nan nan_the
theorem one_eq_nan {x y : Nat} (h : one x = one y) : nan x = nan y := by rw [← nan_one x, h, nan_one]

theorem add_nan_l {x y : Nat} (h : nan x = true) : double.add x y = none := by unfold Format.add; rw [read_nan x h]; rfl
theorem add_nan_r {x y : Nat} (h : nan y = true) : double.add x y = none := by unfold Format.add; rw [read_nan y h]; cases double.read x <;> rfl
theorem mul_nan_l {x y : Nat} (h : nan x = true) : double.mul x y = none := by unfold Format.mul; rw [read_nan x h]; rfl
theorem mul_nan_r {x y : Nat} (h : nan y = true) : double.mul x y = none := by unfold Format.mul; rw [read_nan y h]; cases double.read x <;> rfl
theorem div_nan_l {x y : Nat} (h : nan x = true) : double.div x y = none := by unfold Format.div; rw [read_nan x h]; rfl
theorem div_nan_r {x y : Nat} (h : nan y = true) : double.div x y = none := by unfold Format.div; rw [read_nan y h]; cases double.read x <;> rfl

/-- an operation that knows but the one NaN -/
structure Blind (f : Nat → Nat → Option Nat) : Prop where
  l : ∀ {x y}, nan x = true → f x y = none
  r : ∀ {x y}, nan y = true → f x y = none

theorem blind_add : Blind double.add := ⟨add_nan_l, add_nan_r⟩
theorem blind_mul : Blind double.mul := ⟨mul_nan_l, mul_nan_r⟩
theorem blind_div : Blind double.div := ⟨div_nan_l, div_nan_r⟩

theorem Blind.same {f : Nat → Nat → Option Nat} (h : Blind f) {x x' y y' : Nat} (hx : one x = one x') (hy : one y = one y') : can (f x y) = can (f x' y') := by
  cases nx : nan x
  · have nx' : nan x' = false := by rw [← one_eq_nan hx]; exact nx
    cases ny : nan y
    · have ny' : nan y' = false := by rw [← one_eq_nan hy]; exact ny
      rw [one_num nx, one_num nx'] at hx
      rw [one_num ny, one_num ny'] at hy
      rw [hx, hy]
    · have ny' : nan y' = true := by rw [← one_eq_nan hy]; exact ny
      rw [h.r ny, h.r ny']
  · have nx' : nan x' = true := by rw [← one_eq_nan hx]; exact nx
    rw [h.l nx, h.l nx']

theorem one_can (r : Option Nat) : one (can r) = can r := by
  cases r with
  | none => exact one_nan nan_the
  | some r => exact one_one r

/-- the sum of the first k + 1 -/
def sumk (zs : Nat → Nat) : Nat → Nat
  | 0 => one (zs 0)
  | k + 1 => fadd (sumk zs k) (zs (k + 1))

theorem one_sumk (zs : Nat → Nat) (k : Nat) : one (sumk zs k) = sumk zs k := by
  cases k with
  | zero => exact one_one _
  | succ k => exact one_can _

theorem sumk_same {zs ys : Nat → Nat} (k : Nat) (h : ∀ i, i ≤ k → one (zs i) = one (ys i)) : sumk zs k = sumk ys k := by
  induction k with
  | zero => exact h 0 (Nat.le_refl _)
  | succ k ih =>
    have e := ih fun i hi => h i (by omega)
    rw [sumk, sumk, e]
    exact blind_add.same rfl (h (k + 1) (Nat.le_refl _))

/-- the sum -/
def fsum (zs : Nat → Nat) (n : Nat) : Nat := if n = 0 then 0 else sumk zs (n - 1)

theorem fsum_same {zs ys : Nat → Nat} (n : Nat) (h : ∀ i, i < n → one (zs i) = one (ys i)) : fsum zs n = fsum ys n := by
  unfold fsum
  split
  · rfl
  · exact sumk_same _ fun i hi => h i (by omega)

end FM
end Go.Proofs.Ytifmkphdmfechab
