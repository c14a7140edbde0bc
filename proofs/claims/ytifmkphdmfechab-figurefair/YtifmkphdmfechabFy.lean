/- Even shares of whole numbers: between 0 and 1, and 1 of all the same; no program in it. -/
import Derived.Test.YtifmkphdmfechabFx
namespace Go.Proofs.Ytifmkphdmfechab
namespace FM
open Ieee

/-- the sum of the first k, and of their squares -/
def S1 (xs : Nat → Nat) : Nat → Nat
  | 0 => 0
  | k + 1 => S1 xs k + xs k
def S2 (xs : Nat → Nat) : Nat → Nat
  | 0 => 0
  | k + 1 => S2 xs k + xs k * xs k

theorem S1_le {xs : Nat → Nat} (k : Nat) (h : ∀ i, i < k → xs i ≤ 1000) : S1 xs k ≤ 1000 * k := by
  induction k with
  | zero => exact Nat.le_refl _
  | succ k ih => have := ih fun i hi => h i (by omega); have := h k (by omega); rw [S1]; omega

theorem S2_le {xs : Nat → Nat} (k : Nat) (h : ∀ i, i < k → xs i ≤ 1000) : S2 xs k ≤ 1000000 * k := by
  induction k with
  | zero => exact Nat.le_refl _
  | succ k ih =>
    have := ih fun i hi => h i (by omega)
    have h1 := h k (by omega)
    have := Nat.mul_le_mul h1 h1
    rw [S2]; omega

theorem two_xy (x y : Nat) : 2 * (x * y) ≤ x * x + y * y := by
  rcases Nat.le_total x y with h | h
  · obtain ⟨d, rfl⟩ := Nat.exists_eq_add_of_le h
    have e : x * x + (x + d) * (x + d) = 2 * (x * (x + d)) + d * d := by grind
    omega
  · obtain ⟨d, rfl⟩ := Nat.exists_eq_add_of_le h
    have e : (y + d) * (y + d) + y * y = 2 * ((y + d) * y) + d * d := by grind
    omega

theorem cross (xs : Nat → Nat) (x k : Nat) : 2 * (S1 xs k * x) ≤ S2 xs k + k * (x * x) := by
  induction k with
  | zero => simp [S1]
  | succ k ih =>
    have h := two_xy (xs k) x
    rw [S1, S2]
    have e1 : 2 * ((S1 xs k + xs k) * x) = 2 * (S1 xs k * x) + 2 * (xs k * x) := by grind
    have e2 : (k + 1) * (x * x) = k * (x * x) + x * x := by grind
    omega

theorem cauchy (xs : Nat → Nat) (k : Nat) : S1 xs k * S1 xs k ≤ k * S2 xs k := by
  induction k with
  | zero => simp [S1]
  | succ k ih =>
    have h := cross xs (xs k) k
    rw [S1, S2]
    have e1 : (S1 xs k + xs k) * (S1 xs k + xs k) = S1 xs k * S1 xs k + 2 * (S1 xs k * xs k) + xs k * xs k := by grind
    have e2 : (k + 1) * (S2 xs k + xs k * xs k) = k * S2 xs k + S2 xs k + k * (xs k * xs k) + xs k * xs k := by grind
    omega

theorem S1_same {xs : Nat → Nat} {v : Nat} (k : Nat) (h : ∀ i, i < k → xs i = v) : S1 xs k = k * v ∧ S2 xs k = k * (v * v) := by
  induction k with
  | zero => simp [S1, S2]
  | succ k ih =>
    obtain ⟨a, b⟩ := ih fun i hi => h i (by omega)
    rw [S1, S2, a, b, h k (by omega)]
    constructor <;> grind

theorem S2_zero {xs : Nat → Nat} (k : Nat) (h : S1 xs k = 0) : S2 xs k = 0 := by
  induction k with
  | zero => rfl
  | succ k ih =>
    rw [S1] at h
    have h1 : xs k = 0 := by omega
    rw [S2, ih (by omega), h1]

theorem one_fi {c : Nat} (h : c < 9007199254740992) : one (fi c) = fi c := by
  by_cases e : c = 0
  · subst e; decide
  · rw [fi_pos (by omega)]
    exact one_num (small_word (wn_lt (by omega) h).2).2.2

theorem fadd_fi {a b : Nat} (h : a + b < 9007199254740992) : fadd (fi a) (fi b) = fi (a + b) := by
  unfold fadd; rw [add_fi h]; exact one_fi h
theorem fmul_fi {a b : Nat} (ha : a < 9007199254740992) (hb : b < 9007199254740992) (h : a * b < 9007199254740992) : fmul (fi a) (fi b) = fi (a * b) := by
  unfold fmul; rw [mul_fi ha hb h]; exact one_fi h

theorem sumk_fi {xs : Nat → Nat} (k : Nat) (h : S1 xs (k + 1) < 9007199254740992) : sumk (fun i => fi (xs i)) k = fi (S1 xs (k + 1)) := by
  induction k with
  | zero =>
    have e : S1 xs 1 = xs 0 := by simp [S1]
    rw [e] at h ⊢
    exact one_fi h
  | succ k ih =>
    have e : S1 xs (k + 1 + 1) = S1 xs (k + 1) + xs (k + 1) := rfl
    rw [e] at h ⊢
    rw [sumk, ih (by omega)]
    exact fadd_fi h

theorem fsum_fi {xs : Nat → Nat} (n : Nat) (h : S1 xs n < 9007199254740992) : fsum (fun i => fi (xs i)) n = fi (S1 xs n) := by
  cases n with
  | zero => unfold fsum; rw [if_pos rfl]; exact fi_zero.symm
  | succ k => exact sumk_fi k h

theorem S1_sq (xs : Nat → Nat) (k : Nat) : S1 (fun i => xs i * xs i) k = S2 xs k := by
  induction k with
  | zero => rfl
  | succ k ih => rw [S1, S2, ih]

/-- Fair, of whole numbers -/
theorem fair_fi {zs xs : Nat → Nat} {n : Nat} (hz : ∀ i, i < n → zs i = fi (xs i)) (hn : n ≤ 1000) (hx : ∀ i, i < n → xs i ≤ 1000) :
    fdiv (fmul (fsum zs n) (fsum zs n)) (fmul (fi n) (fsum (fun i => fmul (zs i) (zs i)) n)) = fdiv (fi (S1 xs n * S1 xs n)) (fi (n * S2 xs n)) := by
  have s1 := S1_le n hx
  have s2 := S2_le n hx
  have hA : S1 xs n * S1 xs n ≤ 1000000 * 1000000 := Nat.mul_le_mul (by omega) (by omega)
  have hB : n * S2 xs n ≤ 1000 * 1000000000 := Nat.mul_le_mul hn (by omega)
  have e1 : fsum zs n = fi (S1 xs n) := by
    rw [fsum_same (ys := fun i => fi (xs i)) n (fun i hi => by rw [hz i hi])]
    exact fsum_fi n (by omega)
  have e2 : fsum (fun i => fmul (zs i) (zs i)) n = fi (S2 xs n) := by
    rw [fsum_same (ys := fun i => fi (xs i * xs i)) n (fun i hi => by
      have h := hx i hi
      have h2 := Nat.mul_le_mul h h
      simp only [hz i hi]
      rw [fmul_fi (by omega) (by omega) (by omega)])]
    rw [fsum_fi (xs := fun i => xs i * xs i) n (by rw [S1_sq]; omega), S1_sq]
  rw [e1, e2, fmul_fi (by omega) (by omega) (by omega), fmul_fi (by omega) (by omega) (by omega)]

theorem fair_zero {xs : Nat → Nat} {n : Nat} (h : S1 xs n = 0) : fdiv (fi (S1 xs n * S1 xs n)) (fi (n * S2 xs n)) = 9221120237041090561 := by
  rw [S2_zero n h, h, Nat.mul_zero, Nat.mul_zero, fi_zero]
  decide +kernel

theorem fair_part {xs : Nat → Nat} {n : Nat} (hn : n ≤ 1000) (hx : ∀ i, i < n → xs i ≤ 1000) (h : 0 < S1 xs n) :
    ∃ z, fdiv (fi (S1 xs n * S1 xs n)) (fi (n * S2 xs n)) = z ∧ 4503599627370496 ≤ z ∧ z ≤ 4607182418800017408 ∧ ((∀ i, i < n → xs i = xs 0) → z = 4607182418800017408) := by
  have s2 := S2_le n hx
  have hB : n * S2 xs n ≤ 1000 * 1000000000 := Nat.mul_le_mul hn (by omega)
  obtain ⟨z, hd, z1, z2, z3⟩ := div_fi (a := S1 xs n * S1 xs n) (b := n * S2 xs n) (Nat.mul_pos h h) (cauchy xs n) (by omega)
  refine ⟨z, ?_, z1, z2, fun hs => z3 ?_⟩
  · unfold fdiv
    rw [hd]
    exact one_num (small_word (by omega)).2.2
  · obtain ⟨a, b⟩ := S1_same n hs
    rw [a, b]; grind

/-- how a word from above 0 to 1 stands to 0 and to 1 -/
theorem part_order {z : Nat} (h1 : 4503599627370496 ≤ z) (h2 : z ≤ 4607182418800017408) :
    (double.order z 0 == some .gt) = true ∧ (double.order z 4607182418800017408 == some .lt || double.order z 4607182418800017408 == some .eq) = true := by
  obtain ⟨r, n, a⟩ := small_word (x := z) (by omega)
  have hg : sg z = z := by unfold sg; rw [n, r, if_neg Bool.false_ne_true]
  obtain ⟨_, _, n0, g0⟩ := max_facts
  have n1 : nan 4607182418800017408 = false := by decide
  have g1 : sg 4607182418800017408 = 4607182418800017408 := by decide
  constructor
  · rw [gt_iff z 0 a n0, hg, g0]; exact decide_eq_true (by omega)
  · rw [order_eq, if_neg (by simp [a, n1]), hg, g1]
    by_cases e : z = 4607182418800017408
    · subst e
      rw [Int.compare_eq_eq.2 (by omega)]; rfl
    · rw [Int.compare_eq_lt.2 (by omega)]; rfl

end FM
end Go.Proofs.Ytifmkphdmfechab
