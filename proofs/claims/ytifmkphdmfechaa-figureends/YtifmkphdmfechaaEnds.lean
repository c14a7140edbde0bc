/- foremost and the document's first come to the same place. -/
import Derived.Test.YtifmkphdmfechaaFirst
import Derived.Test.YtifmkphdmfechaaFore
namespace Go.Proofs.Ytifmkphdmfechaa

theorem cls7 (x : Nat) : (FM.cls x == 7) = FM.nan x := by
  cases hn : FM.nan x
  · have h := FM.cls_cases x
    have : FM.cls x ≠ 7 := by
      intro e
      unfold FM.cls at e
      rw [hn, if_neg Bool.false_ne_true] at e
      revert e
      repeat' split
      all_goals omega
    simpa using this
  · rw [FM.cls_nan hn]; rfl

theorem ord_is (a b : Nat) : (ord a b = -1 ∧ FM.okey a < FM.okey b) ∨ (ord a b = 0 ∧ FM.okey a = FM.okey b) ∨ (ord a b = 1 ∧ FM.okey b < FM.okey a) := by
  rcases Int.lt_trichotomy (FM.okey a) (FM.okey b) with h | h | h
  · exact Or.inl ⟨FM.cmp3_lt h, h⟩
  · exact Or.inr (Or.inl ⟨FM.cmp3_eq h, h⟩)
  · exact Or.inr (Or.inr ⟨FM.cmp3_gt h, h⟩)

/-- what foremost has found behind n places -/
def Found (zs : Nat → Nat) (way : Int) (n : Nat) (f : Nat) (p : Int) : Prop :=
  (p = -1 ∧ f = 9221120237041090561 ∧ ∀ j, j < n → FM.nan (zs j) = true) ∨
  ∃ i : Nat, i < n ∧ p = (i : Int) ∧ f = zs i ∧ FM.nan (zs i) = false ∧ (∀ j, j < n → FM.nan (zs j) = false → ord (zs j) (zs i) ≠ way) ∧ (∀ j, j < i → FM.nan (zs j) = false → ord (zs j) (zs i) ≠ 0)

theorem fore_found (zs : Nat → Nat) (way : Int) (hway : way = 1 ∨ way = -1) (n : Nat) : Found zs way n (fore zs way n).1 (fore zs way n).2 := by
  induction n with
  | zero => exact Or.inl ⟨rfl, rfl, fun j hj => by omega⟩
  | succ k ih =>
    cases hn : FM.nan (zs k)
    · have h7 : (FM.cls (zs k) == 7) = false := by rw [cls7, hn]
      rcases ih with ⟨hp, hf, hall⟩ | ⟨i, hi, hp, hf, hni, h1, h2⟩
      · rw [fore_first h7 (by omega)]
        refine Or.inr ⟨k, by omega, rfl, rfl, hn, ?_, ?_⟩
        · intro j hj hnj
          by_cases e : j = k
          · subst e; have := ord_is (zs j) (zs j); omega
          · rw [hall j (by omega)] at hnj; cases hnj
        · intro j hj hnj
          rw [hall j (by omega)] at hnj; cases hnj
      · cases ho : (ord (zs k) (fore zs way k).1 == way)
        · rw [fore_else h7 (by omega) ho]
          have ho' : ord (zs k) (zs i) ≠ way := by rw [← hf]; simpa using ho
          refine Or.inr ⟨i, by omega, hp, hf, hni, ?_, h2⟩
          intro j hj hnj
          by_cases e : j = k
          · subst e; exact ho'
          · exact h1 j (by omega) hnj
        · rw [fore_side h7 ho]
          have ho' : ord (zs k) (zs i) = way := by rw [← hf]; exact eq_of_beq ho
          refine Or.inr ⟨k, by omega, rfl, rfl, hn, ?_, ?_⟩
          · intro j hj hnj
            by_cases e : j = k
            · subst e; have := ord_is (zs j) (zs j); omega
            · have a := h1 j (by omega) hnj
              have b := ord_is (zs j) (zs i)
              have c := ord_is (zs k) (zs i)
              have d := ord_is (zs j) (zs k)
              omega
          · intro j hj hnj
            have a := h1 j (by omega) hnj
            have b := ord_is (zs j) (zs i)
            have c := ord_is (zs k) (zs i)
            have d := ord_is (zs j) (zs k)
            omega
    · have h7 : (FM.cls (zs k) == 7) = true := by rw [cls7, hn]
      rw [fore_nan h7]
      rcases ih with ⟨hp, hf, hall⟩ | ⟨i, hi, hp, hf, hni, h1, h2⟩
      · refine Or.inl ⟨hp, hf, fun j hj => ?_⟩
        by_cases e : j = k
        · rw [e]; exact hn
        · exact hall j (by omega)
      · refine Or.inr ⟨i, by omega, hp, hf, hni, fun j hj hnj => ?_, h2⟩
        by_cases e : j = k
        · subst e; rw [hn] at hnj; cases hnj
        · exact h1 j (by omega) hnj

theorem cntF_zero {zs : Nat → Nat} {way : Int} {i : Nat} (k : Nat) (h : ∀ j, j < k → frb zs way i j = false) : cntF zs way i k = 0 := by
  induction k with
  | zero => rfl
  | succ k ih => rw [cntF_no (h k (by omega)), ih fun j hj => h j (by omega)]

theorem cntF_all {zs : Nat → Nat} {way : Int} {i : Nat} (k : Nat) (h : cntF zs way i k = 0) : ∀ j, j < k → frb zs way i j = false := by
  induction k with
  | zero => intro j hj; omega
  | succ k ih =>
    cases hf : frb zs way i k
    · rw [cntF_no hf] at h
      intro j hj
      by_cases e : j = k
      · rw [e]; exact hf
      · exact ih h j (by omega)
    · rw [cntF_yes hf] at h; omega

theorem frb_false {zs : Nat → Nat} {way : Int} {i j : Nat} : frb zs way i j = false ↔ (FM.nan (zs j) = true ∨ (ord (zs j) (zs i) ≠ way ∧ ¬ (ord (zs j) (zs i) = 0 ∧ j < i))) := by
  unfold frb
  cases FM.nan (zs j) <;> simp

/-- the two come to one -/
theorem fore_is (zs : Nat → Nat) (way : Int) (hway : way = 1 ∨ way = -1) (n : Nat) (r : Int) (h : IsFirst zs way n r) : fore zs way n = (endv zs r, r) := by
  have hf := fore_found zs way hway n
  generalize hF : fore zs way n = F at hf
  obtain ⟨f, p⟩ := F
  simp only at hf
  rcases hf with ⟨hp, hf, hall⟩ | ⟨i, hi, hp, hf, hni, h1, h2⟩
  · rcases h with ⟨hr, _⟩ | ⟨i, hi, hr, hok, _⟩
    · subst hp hf hr; rfl
    · unfold okf at hok
      rw [hall i hi] at hok
      cases hok
  · have oki : okf zs way n i = true := by
      unfold okf
      rw [hni, cntF_zero n (fun j hj => frb_false.2 ?_)]
      · rfl
      · cases hnj : FM.nan (zs j)
        · exact Or.inr ⟨h1 j hj hnj, fun ⟨a, b⟩ => h2 j b hnj a⟩
        · exact Or.inl rfl
    rcases h with ⟨_, hno⟩ | ⟨i', hi', hr, hok, hno⟩
    · rw [hno i hi] at oki; cases oki
    · have hle : ¬ i < i' := fun hlt => by rw [hno i hlt] at oki; cases oki
      have e : i' = i := by
        by_cases e : i' = i
        · exact e
        · exfalso
          unfold okf at hok
          rw [Bool.and_eq_true] at hok
          have hn' : FM.nan (zs i') = false := by simpa using hok.1
          have hc' : cntF zs way i' n = 0 := eq_of_beq hok.2
          have a := cntF_all n hc' i hi
          rw [frb_false, hni] at a
          simp only [Bool.false_eq_true, false_or] at a
          have b := h1 i' hi' hn'
          have c := h2 i' (by omega) hn'
          have d := ord_is (zs i) (zs i')
          have d' := ord_is (zs i') (zs i)
          omega
      subst e
      subst hp hf hr
      unfold endv
      rw [if_neg (by omega), Int.toNat_natCast]

end Go.Proofs.Ytifmkphdmfechaa
