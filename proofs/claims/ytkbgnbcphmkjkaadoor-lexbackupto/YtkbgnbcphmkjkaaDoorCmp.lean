/- Rows of digits of one length: their order is that of what they spell. No program in it. -/
import Derived.Test.YtkbgnbcphmkjkaaDoorNum
namespace Go.Proofs.YtkbgnbcphmkjkaaDoor

theorem less_cons (c d : UInt8) (x y : List UInt8) : Op.bytesLess (c :: x) (d :: y) = (decide (c < d) || (c == d && Op.bytesLess x y)) := rfl

theorem less_lt {c d : UInt8} (x y : List UInt8) (h : c.toNat < d.toNat) : Op.bytesLess (c :: x) (d :: y) = true := by
  rw [less_cons, decide_eq_true (UInt8.lt_iff_toNat_lt.2 h), Bool.true_or]
theorem less_eq (c : UInt8) (x y : List UInt8) : Op.bytesLess (c :: x) (c :: y) = Op.bytesLess x y := by
  rw [less_cons, decide_eq_false (by rw [UInt8.lt_iff_toNat_lt]; omega), beq_self_eq_true, Bool.false_or, Bool.true_and]
theorem less_gt {c d : UInt8} (x y : List UInt8) (h : d.toNat < c.toNat) : Op.bytesLess (c :: x) (d :: y) = false := by
  rw [less_cons, decide_eq_false (by rw [UInt8.lt_iff_toNat_lt]; omega), beq_false_of_ne (by intro e; rw [e] at h; omega), Bool.false_and, Bool.or_false]

theorem cmp3 : ∀ (x y : List UInt8) (p : Nat), x.length = y.length → (∀ c ∈ x, digs c = true) → (∀ c ∈ y, digs c = true) →
    (Op.bytesLess x y = true ∧ dval p x < dval p y) ∨ x = y ∨ (Op.bytesLess x y = false ∧ x ≠ y ∧ dval p y < dval p x) := by
  intro x
  induction x with
  | nil =>
    intro y p hl _ _
    have e : y = [] := List.length_eq_zero_iff.1 hl.symm
    exact Or.inr (Or.inl e.symm)
  | cons c x ih =>
    intro y p hl hx hy
    cases y with
    | nil => simp at hl
    | cons d y =>
      have hl' : x.length = y.length := by simpa using hl
      have hc := digs_iff.1 (hx c (by simp))
      have hd := digs_iff.1 (hy d (by simp))
      have hx' : ∀ z ∈ x, digs z = true := fun z hz => hx z (by simp [hz])
      have hy' : ∀ z ∈ y, digs z = true := fun z hz => hy z (by simp [hz])
      rw [dval_cons, dval_cons]
      rcases Nat.lt_trichotomy c.toNat d.toNat with h | h | h
      · left
        refine ⟨?_, ?_⟩
        · exact less_lt x y h
        · have h1 := dval_lt_pow x hx' (p * 10 + (c.toNat - 48))
          have h2 := dval_ge_pow y (p * 10 + (d.toNat - 48))
          rw [hl'] at h1
          exact Nat.lt_of_lt_of_le h1 (Nat.le_trans (Nat.mul_le_mul_right _ (by omega)) h2)
      · have e : c = d := UInt8.toNat_inj.1 h
        subst e
        rcases ih y (p * 10 + (c.toNat - 48)) hl' hx' hy' with ⟨h1, h2⟩ | h1 | ⟨h1, h2, h3⟩
        · exact Or.inl ⟨by rw [less_eq]; exact h1, h2⟩
        · exact Or.inr (Or.inl (by rw [h1]))
        · exact Or.inr (Or.inr ⟨by rw [less_eq]; exact h1, by intro e; apply h2; simpa using e, h3⟩)
      · right; right
        refine ⟨?_, ?_, ?_⟩
        · exact less_gt x y h
        · intro e; simp at e; rw [e.1] at h; omega
        · have h1 := dval_lt_pow y hy' (p * 10 + (d.toNat - 48))
          have h2 := dval_ge_pow x (p * 10 + (c.toNat - 48))
          rw [← hl'] at h1
          exact Nat.lt_of_lt_of_le h1 (Nat.le_trans (Nat.mul_le_mul_right _ (by omega)) h2)

/-- is a row of digits above another one? -/
def abv (a b : ByteArray) : Bool := if a.size = b.size then !Op.bytesLess a.toList b.toList && !(a.toList == b.toList) else decide (b.size < a.size)

theorem pow18 {n : Nat} (h : n ≤ 18) : 10 ^ n ≤ 1000000000000000000 := Nat.le_trans (Nat.pow_le_pow_right (by decide) h) (by decide)
theorem pow19 {n : Nat} (h : 19 ≤ n) : 10000000000000000000 ≤ 10 ^ n := Nat.le_trans (by decide) (Nat.pow_le_pow_right (by decide) h)

theorem abv_val (d m : ByteArray) (hd : d.data.toList = [48] ∨ plainDigits d.data.toList) (hm : plainDigits m.data.toList) (h19 : m.size = 19) (v : Nat) (hv : dval 0 m.data.toList = v) (hlo : 1000000000000000000 ≤ v) (hhi : v < 10000000000000000000) : abv d m = decide (v < dval 0 d.data.toList) := by
  have sd : d.size = d.data.toList.length := by rw [Array.length_toList]; rfl
  have sm : m.size = m.data.toList.length := by rw [Array.length_toList]; rfl
  have dd : ∀ c ∈ d.data.toList, digs c = true := by
    rcases hd with h | h
    · intro c hc; rw [h, List.mem_singleton] at hc; subst hc; decide
    · exact h.2
  unfold abv
  by_cases h : d.size = m.size
  · rw [if_pos h]
    rw [ByteArray.toList_eq, ByteArray.toList_eq]
    rcases cmp3 d.data.toList m.data.toList 0 (by omega) dd hm.2 with ⟨h1, h2⟩ | h1 | ⟨h1, h2, h3⟩
    · rw [h1, decide_eq_false (by omega)]; rfl
    · rw [h1, hv, decide_eq_false (by omega)]; simp
    · rw [h1, beq_false_of_ne h2, decide_eq_true (by omega)]; rfl
  · rw [if_neg h]
    by_cases h2 : m.size < d.size
    · rw [decide_eq_true h2]
      rcases hd with h3 | h3
      · rw [h3] at sd; simp at sd; omega
      · have h4 := plain_pos h3
        have h5 := pow19 (n := d.data.toList.length - 1) (by omega)
        rw [decide_eq_true (by omega)]
    · rw [decide_eq_false h2]
      have h4 := dval_lt_pow d.data.toList dd 0
      have h5 := pow18 (n := d.data.toList.length) (by omega)
      rw [decide_eq_false (by omega)]

end Go.Proofs.YtkbgnbcphmkjkaaDoor
