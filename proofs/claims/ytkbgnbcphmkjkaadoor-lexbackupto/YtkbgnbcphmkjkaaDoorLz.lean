/- Tokens, on lists of bytes alone: where they stand. -/
import Derived.Test.YtkbgnbcphmkjkaaDoorLy
namespace Go.Proofs.YtkbgnbcphmkjkaaDoor

theorem scanFrom_bounds : ∀ (f : Nat) (l : List UInt8) (a ln : Nat) (k : Int) (t : List UInt8) (x : List Tok), scanFrom f l a ln k t = .ok x → l.length + 1 ≤ f → (∀ u ∈ x, u.at_ ≤ a + l.length ∧ u.line ≤ ln + l.length) ∧ x ≠ [] ∧ x.length ≤ l.length + 2 := by
  intro f
  induction f with
  | zero => intro l a ln k t x h hf; omega
  | succ f ih =>
    intro l a ln k t x h hf
    cases l with
    | nil =>
      rw [scanFrom_nil] at h
      cases h
      refine ⟨fun u hu => ?_, by simp, by split <;> simp⟩
      rw [List.mem_append] at hu
      rcases hu with hu | hu
      · split at hu
        · simp at hu; subst hu; simp [semiAt]
        · cases hu
      · simp at hu; subst hu; simp [endAt]
    | cons c r =>
      rw [scanFrom_cons] at h
      rw [List.length_cons] at hf
      have hcl := cmt_le (c :: r)
      rw [List.length_cons] at hcl ⊢
      by_cases h0 : 0 < cmt (c :: r)
      · rw [if_pos h0] at h
        obtain ⟨i1, i2, i3⟩ := ih _ _ _ _ _ x h (by rw [List.length_drop, List.length_cons]; omega)
        rw [List.length_drop, List.length_cons] at i1 i3
        refine ⟨fun u hu => ?_, i2, by omega⟩
        have := i1 u hu
        omega
      rw [if_neg h0] at h
      by_cases h10 : c.toNat = 10
      · rw [if_pos h10] at h
        cases hs : scanFrom f r (a + 1) (ln + 1) 0 [] with
        | error p => rw [hs] at h; cases h
        | ok y =>
          rw [hs] at h
          cases h
          obtain ⟨i1, i2, i3⟩ := ih _ _ _ _ _ y hs (by omega)
          refine ⟨fun u hu => ?_, by simp [i2], by rw [List.length_append]; split <;> simp <;> omega⟩
          rw [List.mem_append] at hu
          rcases hu with hu | hu
          · split at hu
            · simp at hu; subst hu; simp [semiAt]
            · cases hu
          · have := i1 u hu
            omega
      rw [if_neg h10] at h
      by_cases hb : c.toNat = 32 ∨ c.toNat = 9 ∨ c.toNat = 13
      · rw [if_pos hb] at h
        obtain ⟨i1, i2, i3⟩ := ih _ _ _ _ _ x h (by omega)
        refine ⟨fun u hu => ?_, i2, by omega⟩
        have := i1 u hu
        omega
      rw [if_neg hb] at h
      by_cases he : (tk (c :: r)).e = 0
      · have hl := tk_len he
        rw [if_pos he] at h
        rw [List.length_cons] at hl
        cases hs : scanFrom f ((c :: r).drop (tk (c :: r)).len) (a + (tk (c :: r)).len) ln (tk (c :: r)).k (tk (c :: r)).t with
        | error p => rw [hs] at h; cases h
        | ok y =>
          rw [hs] at h
          cases h
          obtain ⟨i1, i2, i3⟩ := ih _ _ _ _ _ y hs (by rw [List.length_drop, List.length_cons]; omega)
          rw [List.length_drop, List.length_cons] at i1 i3
          refine ⟨fun u hu => ?_, by simp, by rw [List.length_cons]; omega⟩
          rw [List.mem_cons] at hu
          rcases hu with rfl | hu
          · simp
          · have := i1 u hu
            omega
      · rw [if_neg he] at h; cases h

theorem scan_bounds {l : List UInt8} {x : List Tok} (h : scan l = .ok x) : l.length ≤ 20000 ∧ (∀ u ∈ x, u.at_ ≤ 20000 ∧ u.line ≤ 20001) ∧ 0 < x.length ∧ x.length ≤ 20002 := by
  unfold scan at h
  by_cases hl : 20000 < l.length
  · rw [if_pos hl] at h; cases h
  rw [if_neg hl] at h
  obtain ⟨i1, i2, i3⟩ := scanFrom_bounds _ _ _ _ _ _ x h (Nat.le_refl _)
  refine ⟨by omega, fun u hu => ?_, List.length_pos_iff.2 i2, by omega⟩
  have := i1 u hu
  omega

theorem scan_a : scan [97] = .ok [⟨1, [97], 0, 0, 1⟩, semiAt 1 1, endAt 1 1] := by rfl

end Go.Proofs.YtkbgnbcphmkjkaaDoor
