/- What foremost has found, said of all places. -/
import Derived.Test.YtifmkphdmfechabFore
namespace Go.Proofs.Ytifmkphdmfechab

theorem cls7 (x : Nat) : (FM.cls x == 7) = FM.nan x := by
  cases hn : FM.nan x
  · have h := FM.cls_cases x
    have : FM.cls x ≠ 7 := by
      intro e
      unfold FM.cls at e
      rw [hn, if_neg Bool.false_ne_true] at e
      revert e
      repeat' split
      all_goals omega
    simpa using this
  · rw [FM.cls_nan hn]; rfl

theorem ord_is (a b : Nat) : (ord a b = -1 ∧ FM.okey a < FM.okey b) ∨ (ord a b = 0 ∧ FM.okey a = FM.okey b) ∨ (ord a b = 1 ∧ FM.okey b < FM.okey a) := by
  rcases Int.lt_trichotomy (FM.okey a) (FM.okey b) with h | h | h
  · exact Or.inl ⟨FM.cmp3_lt h, h⟩
  · exact Or.inr (Or.inl ⟨FM.cmp3_eq h, h⟩)
  · exact Or.inr (Or.inr ⟨FM.cmp3_gt h, h⟩)

/-- what foremost has found behind n places -/
def Found (zs : Nat → Nat) (way : Int) (n : Nat) (f : Nat) (p : Int) : Prop :=
  (p = -1 ∧ f = 9221120237041090561 ∧ ∀ j, j < n → FM.nan (zs j) = true) ∨
  ∃ i : Nat, i < n ∧ p = (i : Int) ∧ f = zs i ∧ FM.nan (zs i) = false ∧ (∀ j, j < n → FM.nan (zs j) = false → ord (zs j) (zs i) ≠ way) ∧ (∀ j, j < i → FM.nan (zs j) = false → ord (zs j) (zs i) ≠ 0)

theorem fore_found (zs : Nat → Nat) (way : Int) (hway : way = 1 ∨ way = -1) (n : Nat) : Found zs way n (fore zs way n).1 (fore zs way n).2 := by
  induction n with
  | zero => exact Or.inl ⟨rfl, rfl, fun j hj => by omega⟩
  | succ k ih =>
    cases hn : FM.nan (zs k)
    · have h7 : (FM.cls (zs k) == 7) = false := by rw [cls7, hn]
      rcases ih with ⟨hp, hf, hall⟩ | ⟨i, hi, hp, hf, hni, h1, h2⟩
      · rw [fore_first h7 (by omega)]
        refine Or.inr ⟨k, by omega, rfl, rfl, hn, ?_, ?_⟩
        · intro j hj hnj
          by_cases e : j = k
          · subst e; have := ord_is (zs j) (zs j); omega
          · rw [hall j (by omega)] at hnj; cases hnj
        · intro j hj hnj
          rw [hall j (by omega)] at hnj; cases hnj
      · cases ho : (ord (zs k) (fore zs way k).1 == way)
        · rw [fore_else h7 (by omega) ho]
          have ho' : ord (zs k) (zs i) ≠ way := by rw [← hf]; simpa using ho
          refine Or.inr ⟨i, by omega, hp, hf, hni, ?_, h2⟩
          intro j hj hnj
          by_cases e : j = k
          · subst e; exact ho'
          · exact h1 j (by omega) hnj
        · rw [fore_side h7 ho]
          have ho' : ord (zs k) (zs i) = way := by rw [← hf]; exact eq_of_beq ho
          refine Or.inr ⟨k, by omega, rfl, rfl, hn, ?_, ?_⟩
          · intro j hj hnj
            by_cases e : j = k
            · subst e; have := ord_is (zs j) (zs j); omega
            · have a := h1 j (by omega) hnj
              have b := ord_is (zs j) (zs i)
              have c := ord_is (zs k) (zs i)
              have d := ord_is (zs j) (zs k)
              omega
          · intro j hj hnj
            have a := h1 j (by omega) hnj
            have b := ord_is (zs j) (zs i)
            have c := ord_is (zs k) (zs i)
            have d := ord_is (zs j) (zs k)
            omega
    · have h7 : (FM.cls (zs k) == 7) = true := by rw [cls7, hn]
      rw [fore_nan h7]
      rcases ih with ⟨hp, hf, hall⟩ | ⟨i, hi, hp, hf, hni, h1, h2⟩
      · refine Or.inl ⟨hp, hf, fun j hj => ?_⟩
        by_cases e : j = k
        · rw [e]; exact hn
        · exact hall j (by omega)
      · refine Or.inr ⟨i, by omega, hp, hf, hni, fun j hj hnj => ?_, h2⟩
        by_cases e : j = k
        · subst e; rw [hn] at hnj; cases hnj
        · exact h1 j (by omega) hnj

end Go.Proofs.Ytifmkphdmfechab
