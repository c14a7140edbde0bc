/- The order of places; how many stand ahead of each. -/
import Derived.Test.YtifmkphdmfechabRank1
namespace Go.Proofs.Ytifmkphdmfechab

/-- does place k stand ahead of place i? -/
def rlt (zs : Nat → Nat) (k i : Nat) : Bool := decide (FM.okey (zs k) < FM.okey (zs i) ∨ (FM.okey (zs k) = FM.okey (zs i) ∧ k < i))

theorem rlt_iff {zs : Nat → Nat} {k i : Nat} : rlt zs k i = true ↔ (FM.okey (zs k) < FM.okey (zs i) ∨ (FM.okey (zs k) = FM.okey (zs i) ∧ k < i)) := by unfold rlt; rw [decide_eq_true_eq]
theorem rlt_no {zs : Nat → Nat} {k i : Nat} : rlt zs k i = false ↔ ¬ (FM.okey (zs k) < FM.okey (zs i) ∨ (FM.okey (zs k) = FM.okey (zs i) ∧ k < i)) := by unfold rlt; rw [decide_eq_false_iff_not]

theorem ord_cases (a b : Nat) : (ord a b = -1 ∧ FM.okey a < FM.okey b) ∨ (ord a b = 0 ∧ FM.okey a = FM.okey b) ∨ (ord a b = 1 ∧ FM.okey b < FM.okey a) := by
  rcases Int.lt_trichotomy (FM.okey a) (FM.okey b) with h | h | h
  · exact Or.inl ⟨FM.cmp3_lt h, h⟩
  · exact Or.inr (Or.inl ⟨FM.cmp3_eq h, h⟩)
  · exact Or.inr (Or.inr ⟨FM.cmp3_gt h, h⟩)

theorem cfr_neg (zs : Nat → Nat) (i j : Nat) : decide (cfr zs i j < 0) = rlt zs i j := by
  rw [Bool.eq_iff_iff, decide_eq_true_eq, rlt_iff]
  unfold cfr orv
  rcases ord_cases (zs i) (zs j) with ⟨h1, h2⟩ | ⟨h1, h2⟩ | ⟨h1, h2⟩
  · rw [h1, if_pos (by omega)]; omega
  · rw [h1, if_neg (by omega)]
    rcases Int.lt_trichotomy (i : Int) (j : Int) with h | h | h
    · rw [FM.cmp3_lt h]; omega
    · rw [FM.cmp3_eq h]; omega
    · rw [FM.cmp3_gt h]; omega
  · rw [h1, if_pos (by omega)]; omega

/-- how many of the first k stand ahead of i -/
def cntR (zs : Nat → Nat) (i : Nat) : Nat → Nat
  | 0 => 0
  | k + 1 => if rlt zs k i then cntR zs i k + 1 else cntR zs i k

theorem cntR_yes {zs : Nat → Nat} {i k : Nat} (h : rlt zs k i = true) : cntR zs i (k + 1) = cntR zs i k + 1 := by rw [cntR, if_pos h]
theorem cntR_no {zs : Nat → Nat} {i k : Nat} (h : rlt zs k i = false) : cntR zs i (k + 1) = cntR zs i k := by rw [cntR, h, if_neg Bool.false_ne_true]

theorem cntR_le (zs : Nat → Nat) (i k : Nat) : cntR zs i k + (if i < k then 1 else 0) ≤ k := by
  induction k with
  | zero => simp [cntR]
  | succ k ih =>
    by_cases e : k = i
    · subst e
      rw [cntR_no (rlt_no.2 (by omega))]
      rw [if_neg (by omega)] at ih
      rw [if_pos (by omega)]; omega
    · rw [cntR]
      split at ih <;> split <;> split <;> omega

theorem cntR_lt (zs : Nat → Nat) {i n : Nat} (h : i < n) : cntR zs i n < n := by
  have := cntR_le zs i n
  rw [if_pos h] at this; omega

theorem cntR_mono {zs : Nat → Nat} {i j : Nat} (h : rlt zs i j = true) (k : Nat) : cntR zs i k + (if i < k then 1 else 0) ≤ cntR zs j k := by
  induction k with
  | zero => simp [cntR]
  | succ k ih =>
    by_cases e : k = i
    · subst e
      rw [cntR_no (rlt_no.2 (by omega)), cntR_yes h]
      rw [if_neg (by omega)] at ih
      rw [if_pos (by omega)]; omega
    · have hi : (if i < k + 1 then 1 else 0) = (if i < k then 1 else 0) := by
        by_cases h1 : i < k
        · rw [if_pos h1, if_pos (by omega)]
        · rw [if_neg h1, if_neg (by omega)]
      rw [hi]
      cases hk : rlt zs k i
      · rw [cntR_no hk]
        cases hj : rlt zs k j
        · rw [cntR_no hj]; exact ih
        · rw [cntR_yes hj]; omega
      · have hj : rlt zs k j = true := by
          rw [rlt_iff] at *; omega
        rw [cntR_yes hk, cntR_yes hj]; omega

theorem cntR_strict {zs : Nat → Nat} {i j n : Nat} (h : rlt zs i j = true) (hi : i < n) : cntR zs i n < cntR zs j n := by
  have := cntR_mono h n
  rw [if_pos hi] at this; omega

theorem rlt_total (zs : Nat → Nat) {i j : Nat} (h : i ≠ j) : rlt zs i j = true ∨ rlt zs j i = true := by
  rw [rlt_iff, rlt_iff]; omega

theorem cntR_inj {zs : Nat → Nat} {i j n : Nat} (hi : i < n) (hj : j < n) (h : cntR zs i n = cntR zs j n) : i = j := by
  by_cases e : i = j
  · exact e
  · rcases rlt_total zs e with h1 | h1
    · have := cntR_strict h1 hi; omega
    · have := cntR_strict h1 hj; omega

/-- rs has the places in their order -/
def Ranked (zs : Nat → Nat) (n : Nat) (rs : Nat → Nat) : Prop := (∀ p, p < n → rs p < n) ∧ ∀ p q, p < q → q < n → rlt zs (rs p) (rs q) = true

theorem steps_id {f : Nat → Nat} {n : Nat} (h1 : ∀ p, p < n → f p < n) (h2 : ∀ p q, p < q → q < n → f p < f q) : ∀ p, p < n → f p = p := by
  have lo : ∀ p, p < n → p ≤ f p := by
    intro p
    induction p with
    | zero => intro _; omega
    | succ p ih => intro hp; have := ih (by omega); have := h2 p (p + 1) (by omega) hp; omega
  have hi : ∀ d p, p + d < n → f p + d ≤ f (p + d) := by
    intro d
    induction d with
    | zero => intro p _; exact Nat.le_refl _
    | succ d ih => intro p hp; have := ih p (by omega); have := h2 (p + d) (p + (d + 1)) (by omega) hp; omega
  intro p hp
  have a := lo p hp
  have b := hi (n - 1 - p) p (by omega)
  have c := h1 (p + (n - 1 - p)) (by omega)
  omega

theorem Ranked.pos {zs : Nat → Nat} {n : Nat} {rs : Nat → Nat} (h : Ranked zs n rs) : ∀ p, p < n → cntR zs (rs p) n = p :=
  steps_id (f := fun p => cntR zs (rs p) n) (fun p hp => cntR_lt zs (h.1 p hp)) (fun p q hpq hq => cntR_strict (h.2 p q hpq hq) (h.1 p (by omega)))

end Go.Proofs.Ytifmkphdmfechab
