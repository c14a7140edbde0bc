/- The order of binary64 words is the order of their signed rungs: facts on the words of the model alone, no program in it. -/
import Derived.Laws.FloatBits
namespace Go.Proofs.Ytifmkphdmfechab
namespace FM

/-- the lower 63 bits -/
def rung (x : Nat) : Nat := x % 9223372036854775808
/-- the sign bit -/
def neg (x : Nat) : Bool := x / 9223372036854775808 % 2 == 1
/-- what is no number -/
def nan (x : Nat) : Bool := decide (9218868437227405312 < rung x)
/-- the signed rung: both noughts are 0 -/
def sg (x : Nat) : Int := if neg x then -(rung x : Int) else (rung x : Int)

/-- what a rung stands for, in units of the least number -/
def V (r : Nat) : Nat := if r < 4503599627370496 then r else (4503599627370496 + r % 4503599627370496) * 2 ^ (r / 4503599627370496 - 1)

theorem V_lt (r : Nat) : V r < 4503599627370496 * 2 ^ (r / 4503599627370496) := by
  unfold V
  split
  · rename_i h
    rw [Nat.div_eq_of_lt h]; omega
  · rename_i h
    have hq : r / 4503599627370496 = (r / 4503599627370496 - 1) + 1 := by omega
    rw [hq, Nat.add_sub_cancel, Nat.pow_succ]
    have hp : 0 < 2 ^ (r / 4503599627370496 - 1) := Nat.two_pow_pos _
    have hm : r % 4503599627370496 < 4503599627370496 := Nat.mod_lt _ (by omega)
    generalize 2 ^ (r / 4503599627370496 - 1) = p at *
    generalize r % 4503599627370496 = m at *
    calc (4503599627370496 + m) * p < (4503599627370496 + 4503599627370496) * p := by
          apply Nat.mul_lt_mul_of_pos_right _ hp; omega
      _ = 4503599627370496 * (p * 2) := by omega

theorem V_ge (r : Nat) (h : ¬ r < 4503599627370496) : 4503599627370496 * 2 ^ (r / 4503599627370496 - 1) ≤ V r := by
  unfold V
  rw [if_neg h]
  exact Nat.mul_le_mul_right _ (by omega)

theorem V_mono {r s : Nat} (h : r < s) : V r < V s := by
  by_cases hs : s < 4503599627370496
  · unfold V; rw [if_pos hs, if_pos (by omega)]; exact h
  · by_cases hq : r / 4503599627370496 < s / 4503599627370496
    · have h1 := V_lt r
      have h2 := V_ge s hs
      have h3 : 2 ^ (r / 4503599627370496) ≤ 2 ^ (s / 4503599627370496 - 1) := Nat.pow_le_pow_right (by omega) (by omega)
      have h4 := Nat.mul_le_mul_left 4503599627370496 h3
      omega
    · have hq' : r / 4503599627370496 = s / 4503599627370496 := by omega
      have hr : ¬ r < 4503599627370496 := by omega
      unfold V
      rw [if_neg hs, if_neg hr, hq']
      have hp : 0 < 2 ^ (s / 4503599627370496 - 1) := Nat.two_pow_pos _
      refine Nat.mul_lt_mul_of_pos_right ?_ hp
      omega

theorem V_zero : V 0 = 0 := by decide

def sV (x : Nat) : Int := if neg x then -(V (rung x) : Int) else (V (rung x) : Int)

theorem V_inj_lt (r s : Nat) : V r < V s ↔ r < s := by
  constructor
  · intro h
    rcases Nat.lt_trichotomy r s with h1 | h1 | h1
    · exact h1
    · subst h1; omega
    · have := V_mono h1; omega
  · exact V_mono

theorem V_pos (r : Nat) : 0 < V r ↔ 0 < r := by have := V_inj_lt 0 r; rw [V_zero] at this; exact this

theorem compare_congr {a b c d : Int} (h1 : a < b ↔ c < d) (h2 : b < a ↔ d < c) : compare a b = compare c d := by
  rcases Int.lt_trichotomy a b with h | h | h
  · rw [Int.compare_eq_lt.2 h, Int.compare_eq_lt.2 (h1.1 h)]
  · have hc : c = d := by omega
    rw [Int.compare_eq_eq.2 h, Int.compare_eq_eq.2 hc]
  · rw [Int.compare_eq_gt.2 h, Int.compare_eq_gt.2 (h2.1 h)]

theorem sV_lt (x y : Nat) : sV x < sV y ↔ sg x < sg y := by
  unfold sV sg
  have h1 := V_inj_lt (rung x) (rung y)
  have h2 := V_inj_lt (rung y) (rung x)
  have h3 := V_pos (rung x)
  have h4 := V_pos (rung y)
  split <;> split <;> omega

theorem sV_compare (x y : Nat) : compare (sV x) (sV y) = compare (sg x) (sg y) := compare_congr (sV_lt x y) (sV_lt y x)

open Ieee

theorem read_eq (x : Nat) : double.read x =
    if rung x < 4503599627370496 then .number (neg x) (rung x) (-1074)
    else if rung x < 9218868437227405312 then .number (neg x) (4503599627370496 + rung x % 4503599627370496) (-1074 + ((rung x / 4503599627370496 - 1 : Nat) : Int))
    else if rung x = 9218868437227405312 then .infinity (neg x)
    else .nan (neg x) (rung x - 9218868437227405312) := rfl

theorem signed_shift (s : Bool) (m k j : Nat) : signed s m (k + j) = signed s m k * (2 ^ j : Nat) := by
  unfold signed
  have h : m <<< (k + j) = m <<< k * 2 ^ j := by
    rw [Nat.shiftLeft_eq, Nat.shiftLeft_eq, Nat.pow_add, Nat.mul_assoc]
  split
  · rw [h, Int.natCast_mul, Int.neg_mul]
  · rw [h, Int.natCast_mul]

theorem compare_mul_pos (a b : Int) (p : Nat) (hp : 0 < p) : compare (a * (p : Int)) (b * (p : Int)) = compare a b := by
  have hp' : (0 : Int) < p := by omega
  exact compare_congr (Int.mul_lt_mul_right hp') (Int.mul_lt_mul_right hp')

theorem order_numbers (s t : Bool) (m n : Nat) (i j : Nat) :
    Datum.order (.number s m (-1074 + (i : Int))) (.number t n (-1074 + (j : Int))) = some (compare (signed s m i) (signed t n j)) := by
  simp only [Datum.order]
  rcases Nat.le_total i j with h | h
  · have hb : min (-1074 + (i : Int)) (-1074 + (j : Int)) = -1074 + (i : Int) := by omega
    rw [hb]
    have e1 : (-1074 + (i : Int) - (-1074 + (i : Int))).toNat = 0 := by omega
    have e2 : (-1074 + (j : Int) - (-1074 + (i : Int))).toNat = j - i := by omega
    rw [e1, e2]
    have h1 := signed_shift s m 0 i
    have h2 := signed_shift t n (j - i) i
    rw [Nat.zero_add] at h1
    rw [Nat.sub_add_cancel h] at h2
    rw [h1, h2, compare_mul_pos _ _ _ (Nat.two_pow_pos _)]
  · have hb : min (-1074 + (i : Int)) (-1074 + (j : Int)) = -1074 + (j : Int) := by omega
    rw [hb]
    have e1 : (-1074 + (j : Int) - (-1074 + (j : Int))).toNat = 0 := by omega
    have e2 : (-1074 + (i : Int) - (-1074 + (j : Int))).toNat = i - j := by omega
    rw [e1, e2]
    have h1 := signed_shift t n 0 j
    have h2 := signed_shift s m (i - j) j
    rw [Nat.zero_add] at h1
    rw [Nat.sub_add_cancel h] at h2
    rw [h1, h2, compare_mul_pos _ _ _ (Nat.two_pow_pos _)]

/-- a number's word, read: with what its rung stands for -/
theorem read_number (x : Nat) (h : rung x < 9218868437227405312) :
    ∃ m i : Nat, double.read x = .number (neg x) m (-1074 + (i : Int)) ∧ signed (neg x) m i = sV x := by
  rw [read_eq]
  by_cases h1 : rung x < 4503599627370496
  · refine ⟨rung x, 0, ?_, ?_⟩
    · rw [if_pos h1]; rfl
    · unfold signed sV V
      rw [if_pos h1, Nat.shiftLeft_zero]
  · refine ⟨4503599627370496 + rung x % 4503599627370496, rung x / 4503599627370496 - 1, ?_, ?_⟩
    · rw [if_neg h1, if_pos h]
    · unfold signed sV V
      rw [if_neg h1, Nat.shiftLeft_eq]

theorem read_inf (x : Nat) (h : rung x = 9218868437227405312) : double.read x = .infinity (neg x) := by
  rw [read_eq, if_neg (by omega), if_neg (by omega), if_pos h]

theorem read_nan (x : Nat) (h : nan x = true) : double.read x = .nan (neg x) (rung x - 9218868437227405312) := by
  have h' : 9218868437227405312 < rung x := of_decide_eq_true h
  rw [read_eq, if_neg (by omega), if_neg (by omega), if_neg (by omega)]

theorem sg_inf_lt {x y : Nat} (hx : rung x = 9218868437227405312) (hy : rung y < 9218868437227405312) :
    compare (sg x) (sg y) = if neg x then .lt else .gt := by
  unfold sg
  cases neg x <;> simp only [Bool.false_eq_true, if_false, if_true] <;> split
  all_goals first
    | exact Int.compare_eq_lt.2 (by omega)
    | exact Int.compare_eq_gt.2 (by omega)

theorem lt_sg_inf {x y : Nat} (hx : rung x < 9218868437227405312) (hy : rung y = 9218868437227405312) :
    compare (sg x) (sg y) = if neg y then .gt else .lt := by
  unfold sg
  cases neg y <;> simp only [Bool.false_eq_true, if_false, if_true] <;> split
  all_goals first
    | exact Int.compare_eq_lt.2 (by omega)
    | exact Int.compare_eq_gt.2 (by omega)

/-- THE ORDER OF TWO WORDS. -/
theorem order_eq (x y : Nat) : double.order x y = if nan x = true ∨ nan y = true then none else some (compare (sg x) (sg y)) := by
  unfold Format.order
  by_cases hx : nan x = true
  · rw [if_pos (Or.inl hx), read_nan x hx]; rfl
  by_cases hy : nan y = true
  · rw [if_pos (Or.inr hy), read_nan y hy]
    cases double.read x <;> rfl
  rw [if_neg (by simp [hx, hy])]
  have hx' : ¬ 9218868437227405312 < rung x := by simpa [nan] using hx
  have hy' : ¬ 9218868437227405312 < rung y := by simpa [nan] using hy
  by_cases ix : rung x = 9218868437227405312
  · rw [read_inf x ix]
    by_cases iy : rung y = 9218868437227405312
    · rw [read_inf y iy]
      have e : sg x = if neg x then -9218868437227405312 else 9218868437227405312 := by unfold sg; rw [ix]; rfl
      have e' : sg y = if neg y then -9218868437227405312 else 9218868437227405312 := by unfold sg; rw [iy]; rfl
      rw [e, e']
      cases neg x <;> cases neg y <;> rfl
    · obtain ⟨m, i, hr, _⟩ := read_number y (by omega)
      rw [hr, sg_inf_lt ix (by omega)]; rfl
  · obtain ⟨m, i, hr, hv⟩ := read_number x (by omega)
    rw [hr]
    by_cases iy : rung y = 9218868437227405312
    · rw [read_inf y iy, lt_sg_inf (by omega) iy]; rfl
    · obtain ⟨n, j, hr', hv'⟩ := read_number y (by omega)
      rw [hr', order_numbers, hv, hv', sV_compare]

theorem nan_iff (x : Nat) : (double.order x x == some .eq) = !(nan x) := by
  rw [order_eq]
  cases h : nan x
  · simp
  · simp

theorem lt_iff (x y : Nat) (hx : nan x = false) (hy : nan y = false) : (double.order x y == some .lt) = decide (sg x < sg y) := by
  rw [order_eq, if_neg (by simp [hx, hy])]
  rcases Int.lt_trichotomy (sg x) (sg y) with h | h | h
  · rw [Int.compare_eq_lt.2 h]; simp [h]
  · rw [Int.compare_eq_eq.2 h]; simp [h]
  · rw [Int.compare_eq_gt.2 h]; simp; omega

theorem gt_iff (x y : Nat) (hx : nan x = false) (hy : nan y = false) : (double.order x y == some .gt) = decide (sg y < sg x) := by
  rw [order_eq, if_neg (by simp [hx, hy])]
  rcases Int.lt_trichotomy (sg x) (sg y) with h | h | h
  · rw [Int.compare_eq_lt.2 h]; simp; omega
  · rw [Int.compare_eq_eq.2 h]; simp [h]
  · rw [Int.compare_eq_gt.2 h]; simp [h]

theorem lt_nan (x y : Nat) (h : nan x = true ∨ nan y = true) : (double.order x y == some .lt) = false := by
  rw [order_eq, if_pos h]; rfl

theorem gt_nan (x y : Nat) (h : nan x = true ∨ nan y = true) : (double.order x y == some .gt) = false := by
  rw [order_eq, if_pos h]; rfl

/-- the sign bit turned -/
theorem flip_rung (x : Nat) : rung (x ^^^ 2 ^ 63) = rung x := by
  have h : (9223372036854775808 : Nat) = 2 ^ 63 := by decide
  unfold rung
  rw [h, Nat.xor_mod_two_pow, Nat.mod_self, Nat.xor_zero]

theorem flip_neg (x : Nat) : neg (x ^^^ 2 ^ 63) = !(neg x) := by
  have h : (9223372036854775808 : Nat) = 2 ^ 63 := by decide
  unfold neg
  rw [h, Nat.xor_div_two_pow, Nat.div_self (Nat.two_pow_pos _)]
  generalize x / 2 ^ 63 = q
  have h2 := Nat.xor_mod_two_pow (a := q) (b := 1) (n := 1)
  have h3 : q % 2 = 0 ∨ q % 2 = 1 := by omega
  rcases h3 with h3 | h3
  · rw [show (2 : Nat) ^ 1 = 2 from rfl, h3] at h2; rw [h2, h3]; rfl
  · rw [show (2 : Nat) ^ 1 = 2 from rfl, h3] at h2; rw [h2, h3]; rfl

theorem flip_nan (x : Nat) : nan (x ^^^ 2 ^ 63) = nan x := by unfold nan; rw [flip_rung]

theorem flip_sg (x : Nat) : sg (x ^^^ 2 ^ 63) = - sg x := by
  unfold sg
  rw [flip_rung, flip_neg]
  cases neg x <;> simp

/-- the class of a word, as the document counts -/
def cls (x : Nat) : Int :=
  if nan x then 7
  else if rung x = 9218868437227405312 then (if neg x then 1 else 6)
  else if rung x = 0 then (if neg x then 3 else 4)
  else (if neg x then 2 else 5)

/-- the place of a word in the order of all numbers -/
def okey (x : Nat) : Int :=
  if nan x then 9223372036854775808 else if neg x then -(rung x : Int) - 1 else (rung x : Int)

/-- -1, 0, 1 -/
def cmp3 (a b : Int) : Int := if a < b then -1 else if b < a then 1 else 0

/-- the one NaN in the place of every other -/
def one (x : Nat) : Nat := if nan x then 9221120237041090561 else x

theorem sg_pos_inf (x : Nat) (hn : nan x = false) : decide (9218868437227405311 < sg x) = (decide (rung x = 9218868437227405312) && !(neg x)) := by
  have h : ¬ 9218868437227405312 < rung x := by simpa [nan] using hn
  unfold sg
  cases neg x <;> simp <;> omega

theorem sg_neg_inf (x : Nat) (hn : nan x = false) : decide (9218868437227405311 < - sg x) = (decide (rung x = 9218868437227405312) && neg x) := by
  have h : ¬ 9218868437227405312 < rung x := by simpa [nan] using hn
  unfold sg
  cases neg x <;> simp <;> omega

theorem max_facts : nan 9218868437227405311 = false ∧ sg 9218868437227405311 = 9218868437227405311 ∧ nan 0 = false ∧ sg 0 = 0 := by decide

/-- x > MaxFloat64 -/
theorem gt_max (x : Nat) : (double.order x 9218868437227405311 == some .gt) = (decide (rung x = 9218868437227405312) && !(neg x)) := by
  obtain ⟨h1, h2, _, _⟩ := max_facts
  cases hn : nan x
  · rw [gt_iff _ _ hn h1, h2, sg_pos_inf x hn]
  · rw [gt_nan _ _ (Or.inl hn)]
    have h : 9218868437227405312 < rung x := by simpa [nan] using hn
    have : ¬ rung x = 9218868437227405312 := by omega
    simp [this]

/-- -x > MaxFloat64 -/
theorem neg_gt_max (x : Nat) : (double.order (x ^^^ 2 ^ 63) 9218868437227405311 == some .gt) = (decide (rung x = 9218868437227405312) && neg x) := by
  rw [gt_max, flip_rung, flip_neg, Bool.not_not]

theorem lt_zero (x : Nat) (hn : nan x = false) : (double.order x 0 == some .lt) = (decide (0 < rung x) && neg x) := by
  obtain ⟨_, _, h3, h4⟩ := max_facts
  rw [lt_iff _ _ hn h3, h4]
  unfold sg
  cases neg x <;> simp <;> omega

theorem gt_zero (x : Nat) (hn : nan x = false) : (double.order x 0 == some .gt) = (decide (0 < rung x) && !(neg x)) := by
  obtain ⟨_, _, h3, h4⟩ := max_facts
  rw [gt_iff _ _ hn h3, h4]
  unfold sg
  cases neg x <;> simp <;> omega

theorem okey_bounds (x : Nat) : -9218868437227405313 ≤ okey x ∧ okey x ≤ 9223372036854775808 := by
  unfold okey nan
  split
  · omega
  · rename_i h
    have h : ¬ 9218868437227405312 < rung x := by simpa using h
    split <;> omega

theorem cls_cases (x : Nat) :
    (cls x = 1 ∧ okey x = -9218868437227405313) ∨ (cls x = 2 ∧ -9218868437227405313 < okey x ∧ okey x < -1 ∧ okey x = sg x - 1) ∨
    (cls x = 3 ∧ okey x = -1) ∨ (cls x = 4 ∧ okey x = 0) ∨ (cls x = 5 ∧ 0 < okey x ∧ okey x < 9218868437227405312 ∧ okey x = sg x) ∨
    (cls x = 6 ∧ okey x = 9218868437227405312) ∨ (cls x = 7 ∧ okey x = 9223372036854775808) := by
  cases hn : nan x
  · have h : ¬ 9218868437227405312 < rung x := by simpa [nan] using hn
    unfold cls okey sg
    rw [hn]
    simp only [Bool.false_eq_true, if_false]
    by_cases h1 : rung x = 9218868437227405312
    · rw [if_pos h1, h1]
      cases neg x <;> simp
    · rw [if_neg h1]
      by_cases h2 : rung x = 0
      · rw [if_pos h2, h2]
        cases neg x <;> simp
      · rw [if_neg h2]
        cases neg x <;> simp <;> omega
  · unfold cls okey
    rw [hn]; simp

theorem cmp3_lt {a b : Int} (h : a < b) : cmp3 a b = -1 := by unfold cmp3; rw [if_pos h]
theorem cmp3_gt {a b : Int} (h : b < a) : cmp3 a b = 1 := by unfold cmp3; rw [if_neg (by omega), if_pos h]
theorem cmp3_eq {a b : Int} (h : a = b) : cmp3 a b = 0 := by unfold cmp3; rw [if_neg (by omega), if_neg (by omega)]

/-- the order by classes, and in a class by numbers, is the order of the places -/
theorem order_ne (a b : Nat) (h : cls a ≠ cls b) : cmp3 (cls a) (cls b) = cmp3 (okey a) (okey b) := by
  have ha := cls_cases a
  have hb := cls_cases b
  rcases Int.lt_trichotomy (cls a) (cls b) with h1 | h1 | h1
  · rw [cmp3_lt h1, cmp3_lt (by omega)]
  · exact absurd h1 h
  · rw [cmp3_gt h1, cmp3_gt (by omega)]

theorem order_in (a b : Nat) (h : cls a = cls b) (h' : cls a = 2 ∨ cls a = 5) : cmp3 (sg a) (sg b) = cmp3 (okey a) (okey b) := by
  have ha := cls_cases a
  have hb := cls_cases b
  rcases Int.lt_trichotomy (sg a) (sg b) with h1 | h1 | h1
  · rw [cmp3_lt h1, cmp3_lt (by omega)]
  · rw [cmp3_eq h1, cmp3_eq (by omega)]
  · rw [cmp3_gt h1, cmp3_gt (by omega)]

theorem order_eq0 (a b : Nat) (h : cls a = cls b) (h1 : cls a ≠ 2) (h2 : cls a ≠ 5) : cmp3 (okey a) (okey b) = 0 := by
  have ha := cls_cases a
  have hb := cls_cases b
  exact cmp3_eq (by omega)

def pinf (x : Nat) : Bool := decide (rung x = 9218868437227405312) && !(neg x)
def ninf (x : Nat) : Bool := decide (rung x = 9218868437227405312) && neg x
def below (x : Nat) : Bool := double.order x 0 == some .lt
def above (x : Nat) : Bool := double.order x 0 == some .gt

theorem cls_nan {x : Nat} (h : nan x = true) : cls x = 7 := by unfold cls; rw [h]; rfl
theorem cls_ninf {x : Nat} (h : nan x = false) (h1 : ninf x = true) : cls x = 1 := by
  unfold ninf at h1
  simp only [Bool.and_eq_true, decide_eq_true_eq] at h1
  unfold cls; rw [h, if_neg Bool.false_ne_true, if_pos h1.1, h1.2]; rfl
theorem cls_pinf {x : Nat} (h : nan x = false) (h1 : pinf x = true) : cls x = 6 := by
  unfold pinf at h1
  simp only [Bool.and_eq_true, decide_eq_true_eq, Bool.not_eq_true'] at h1
  unfold cls; rw [h, if_neg Bool.false_ne_true, if_pos h1.1, h1.2]; rfl
theorem cls_below {x : Nat} (h : nan x = false) (h1 : ninf x = false) (h3 : below x = true) : cls x = 2 := by
  unfold below at h3
  rw [lt_zero x h] at h3
  simp only [Bool.and_eq_true, decide_eq_true_eq] at h3
  unfold ninf at h1
  rw [h3.2, Bool.and_true] at h1
  have h1 : ¬ rung x = 9218868437227405312 := of_decide_eq_false h1
  unfold cls; rw [h, if_neg Bool.false_ne_true, if_neg h1, if_neg (by omega), h3.2]; rfl
theorem cls_above {x : Nat} (h : nan x = false) (h1 : pinf x = false) (h3 : above x = true) : cls x = 5 := by
  unfold above at h3
  rw [gt_zero x h] at h3
  simp only [Bool.and_eq_true, decide_eq_true_eq, Bool.not_eq_true'] at h3
  unfold pinf at h1
  rw [h3.2, Bool.not_false, Bool.and_true] at h1
  have h1 : ¬ rung x = 9218868437227405312 := of_decide_eq_false h1
  unfold cls; rw [h, if_neg Bool.false_ne_true, if_neg h1, if_neg (by omega), h3.2]; rfl
theorem cls_zero {x : Nat} (h : nan x = false) (h3 : below x = false) (h4 : above x = false) : cls x = if neg x then 3 else 4 := by
  unfold below at h3
  unfold above at h4
  rw [lt_zero x h] at h3
  rw [gt_zero x h] at h4
  have h0 : rung x = 0 := by
    cases hn : neg x
    · rw [hn, Bool.not_false, Bool.and_true] at h4; have := of_decide_eq_false h4; omega
    · rw [hn, Bool.and_true] at h3; have := of_decide_eq_false h3; omega
  unfold cls; rw [h, if_neg Bool.false_ne_true, if_neg (by omega), if_pos h0]

theorem okey_sg (x : Nat) (h : nan x = false) : okey x = sg x - (if cls x ≤ 3 then 1 else 0) := by
  unfold okey sg cls
  rw [h, if_neg Bool.false_ne_true, if_neg Bool.false_ne_true]
  cases neg x <;> simp <;> (repeat' split) <;> omega

theorem same_lt (a b : Nat) (h : cls a = cls b) : (double.order a b == some .lt) = decide (okey a < okey b) := by
  cases ha : nan a
  · cases hb : nan b
    · have h1 := okey_sg a ha
      have h2 := okey_sg b hb
      rw [← h] at h2
      rw [lt_iff a b ha hb, Bool.eq_iff_iff, decide_eq_true_eq, decide_eq_true_eq]
      omega
    · have := cls_cases a
      have := cls_nan hb
      have : okey a = okey b := by have := cls_cases b; omega
      rw [lt_nan a b (Or.inr hb), decide_eq_false (by omega)]
  · have : okey a = okey b := by have := cls_nan ha; have := cls_cases a; have := cls_cases b; omega
    rw [lt_nan a b (Or.inl ha), decide_eq_false (by omega)]

theorem same_gt (a b : Nat) (h : cls a = cls b) : (double.order a b == some .gt) = decide (okey b < okey a) := by
  cases ha : nan a
  · cases hb : nan b
    · have h1 := okey_sg a ha
      have h2 := okey_sg b hb
      rw [← h] at h2
      rw [gt_iff a b ha hb, Bool.eq_iff_iff, decide_eq_true_eq, decide_eq_true_eq]
      omega
    · have : okey a = okey b := by have := cls_nan hb; have := cls_cases a; have := cls_cases b; omega
      rw [gt_nan a b (Or.inr hb), decide_eq_false (by omega)]
  · have : okey a = okey b := by have := cls_nan ha; have := cls_cases a; have := cls_cases b; omega
    rw [gt_nan a b (Or.inl ha), decide_eq_false (by omega)]

end FM
end Go.Proofs.Ytifmkphdmfechab
