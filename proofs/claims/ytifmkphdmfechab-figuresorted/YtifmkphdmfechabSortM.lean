/- The first and the last of the ranked places that are numbers. -/
import Derived.Test.YtifmkphdmfechabRankM
import Derived.Test.YtifmkphdmfechabFound
namespace Go.Proofs.Ytifmkphdmfechab

/-- how many of the first k are numbers -/
def cnn (zs : Nat → Nat) : Nat → Nat
  | 0 => 0
  | k + 1 => if FM.nan (zs k) then cnn zs k else cnn zs k + 1

theorem cnn_nan {zs : Nat → Nat} {k : Nat} (h : FM.nan (zs k) = true) : cnn zs (k + 1) = cnn zs k := by rw [cnn, if_pos h]
theorem cnn_num {zs : Nat → Nat} {k : Nat} (h : FM.nan (zs k) = false) : cnn zs (k + 1) = cnn zs k + 1 := by rw [cnn, h, if_neg Bool.false_ne_true]

theorem cnn_le (zs : Nat → Nat) (k : Nat) : cnn zs k ≤ k := by
  induction k with
  | zero => exact Nat.le_refl _
  | succ k ih => rw [cnn]; split <;> omega

theorem cnn_zero {zs : Nat → Nat} (k : Nat) (h : cnn zs k = 0) : ∀ j, j < k → FM.nan (zs j) = true := by
  induction k with
  | zero => intro j hj; omega
  | succ k ih =>
    cases hn : FM.nan (zs k)
    · rw [cnn_num hn] at h; omega
    · rw [cnn_nan hn] at h
      intro j hj
      by_cases e : j = k
      · rw [e]; exact hn
      · exact ih h j (by omega)

theorem cnn_pos {zs : Nat → Nat} (k j : Nat) (hj : j < k) (h : FM.nan (zs j) = false) : 0 < cnn zs k := by
  rcases Nat.eq_zero_or_pos (cnn zs k) with h0 | h0
  · rw [cnn_zero k h0 j hj] at h; cases h
  · exact h0

theorem okey_nan {x : Nat} (h : FM.nan x = true) : FM.okey x = 9223372036854775808 := by unfold FM.okey; rw [if_pos h]
theorem okey_num {x : Nat} (h : FM.nan x = false) : FM.okey x < 9223372036854775808 := by
  have h1 : ¬ 9218868437227405312 < FM.rung x := by simpa [FM.nan] using h
  unfold FM.okey
  rw [h, if_neg Bool.false_ne_true]
  split <;> omega

/-- whoever stands ahead of a number is one -/
theorem num_of_rlt {zs : Nat → Nat} {k m : Nat} (h : rlt zs k m = true) (hm : FM.nan (zs m) = false) : FM.nan (zs k) = false := by
  cases hk : FM.nan (zs k)
  · rfl
  · rw [rlt_iff, okey_nan hk] at h
    have := okey_num hm
    omega

/-- a number stands ahead of what is none -/
theorem rlt_nan {zs : Nat → Nat} {k m : Nat} (hk : FM.nan (zs k) = false) (hm : FM.nan (zs m) = true) : rlt zs k m = true := by
  rw [rlt_iff, okey_nan hm]
  have := okey_num hk
  omega

/-- all numbers stand ahead of what is none -/
theorem cnn_le_cntR {zs : Nat → Nat} {m : Nat} (hm : FM.nan (zs m) = true) (k : Nat) : cnn zs k ≤ cntR zs m k := by
  induction k with
  | zero => exact Nat.le_refl _
  | succ k ih =>
    cases hk : FM.nan (zs k)
    · rw [cnn_num hk, cntR_yes (rlt_nan hk hm)]; omega
    · rw [cnn_nan hk, cntR]; split <;> omega

/-- two numbers that do not stand ahead of the first of them -/
theorem two_more {zs : Nat → Nat} {m j : Nat} (hm : FM.nan (zs m) = false) (hj : FM.nan (zs j) = false) (hne : j ≠ m) (hjm : rlt zs j m = false) (k : Nat) :
    cntR zs m k + (if m < k then 1 else 0) + (if j < k then 1 else 0) ≤ cnn zs k := by
  induction k with
  | zero => simp [cntR]
  | succ k ih =>
    by_cases e1 : k = m
    · subst e1
      rw [cntR_no (rlt_no.2 (by omega)), cnn_num hm]
      rw [if_neg (by omega)] at ih
      rw [if_pos (by omega)]
      by_cases h : j < k
      · rw [if_pos h] at ih; rw [if_pos (by omega)]; omega
      · rw [if_neg h] at ih; rw [if_neg (by omega)]; omega
    · by_cases e2 : k = j
      · subst e2
        rw [cntR_no hjm, cnn_num hj]
        rw [if_neg (Nat.lt_irrefl k)] at ih
        rw [if_pos (Nat.lt_succ_self k)]
        by_cases h : m < k
        · rw [if_pos h] at ih; rw [if_pos (by omega)]; omega
        · rw [if_neg h] at ih; rw [if_neg (by omega)]; omega
      · have h1 : (if m < k + 1 then 1 else 0) = (if m < k then 1 else 0) := by
          by_cases h : m < k
          · rw [if_pos h, if_pos (by omega)]
          · rw [if_neg h, if_neg (by omega)]
        have h2 : (if j < k + 1 then 1 else 0) = (if j < k then 1 else 0) := by
          by_cases h : j < k
          · rw [if_pos h, if_pos (by omega)]
          · rw [if_neg h, if_neg (by omega)]
        rw [h1, h2]
        cases hk : rlt zs k m
        · rw [cntR_no hk]
          cases hn : FM.nan (zs k)
          · rw [cnn_num hn]; omega
          · rw [cnn_nan hn]; omega
        · rw [cntR_yes hk, cnn_num (num_of_rlt hk hm)]; omega

/-- the last of the ranked that is a number -/
theorem last_num {zs : Nat → Nat} {n : Nat} {rs : Nat → Nat} (h : Ranked zs n rs) (h0 : 0 < cnn zs n) :
    FM.nan (zs (rs (cnn zs n - 1))) = false ∧ ∀ j, j < n → FM.nan (zs j) = false → FM.okey (zs j) ≤ FM.okey (zs (rs (cnn zs n - 1))) := by
  have hl := cnn_le zs n
  have hp := h.pos (cnn zs n - 1) (by omega)
  have hlt := h.1 (cnn zs n - 1) (by omega)
  generalize rs (cnn zs n - 1) = m at *
  have hm : FM.nan (zs m) = false := by
    cases hm : FM.nan (zs m)
    · rfl
    · have := cnn_le_cntR hm n; omega
  refine ⟨hm, fun j hj hnj => ?_⟩
  by_cases e : j = m
  · rw [e]; exact Int.le_refl _
  · cases hr : rlt zs j m
    · have := two_more hm hnj e hr n
      rw [if_pos hlt, if_pos hj] at this
      omega
    · rw [rlt_iff] at hr; omega

/-- the first of the ranked is the least -/
theorem first_least {zs : Nat → Nat} {n : Nat} {rs : Nat → Nat} (h : Ranked zs n rs) {i : Nat} (hi : i < n) (hni : FM.nan (zs i) = false)
    (h1 : ∀ j, j < n → FM.nan (zs j) = false → ord (zs j) (zs i) ≠ -1) (h2 : ∀ j, j < i → FM.nan (zs j) = false → ord (zs j) (zs i) ≠ 0) : rs 0 = i := by
  have hp := h.pos 0 (by omega)
  have hlt := h.1 0 (by omega)
  generalize rs 0 = m at *
  by_cases e : m = i
  · exact e
  · exfalso
    have hr : rlt zs i m = true := by
      cases hm : FM.nan (zs m)
      · have a := h1 m hlt hm
        have c := ord_cases (zs m) (zs i)
        rw [rlt_iff]
        by_cases hmi : m < i
        · have b := h2 m hmi hm; omega
        · omega
      · exact rlt_nan hni hm
    have := cntR_strict hr hi
    omega

end Go.Proofs.Ytifmkphdmfechab
