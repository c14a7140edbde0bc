/- Right depths: what holds of them along any way. -/
import Derived.Test.YtgheaieghoekhaaDoorCl
namespace Go.Proofs.YtgheaieghoekhaaDoor
open Go.RowKit

theorem lay_keep {d : List Int} {fr to j : Nat} {x : Int} (h : j ≠ to ∨ j ≤ fr ∨ d.getD j 0 ≠ -1) : (layL d fr to x).getD j 0 = d.getD j 0 := by
  unfold layL
  split
  · rename_i hc
    by_cases e : j = to
    · subst e
      rcases h with h | h | h
      · exact absurd rfl h
      · omega
      · exact absurd hc.1 h
    · rw [List.getD_eq_getElem?_getD, List.getD_eq_getElem?_getD, List.getElem?_set_ne (by omega)]
  · rfl

theorem lay_at {d : List Int} {fr to : Nat} {x : Int} (h : layB d fr to x = true) : (layL d fr to x).getD to 0 = x := by
  unfold layB at h
  simpa using h

/-- what is so of an instruction that is come to -/
structure Good (p : Pg) (d : List Int) (k : Nat) (i : In) : Prop where
  le : (eff p i).1 ≤ d.getD k 0
  most : d.getD k 0 - (eff p i).1 + (eff p i).2 ≤ 1000
  next : tS i.op.toNat = false → k + 1 < d.length ∧ d.getD (k + 1) 0 = d.getD k 0 - (eff p i).1 + (eff p i).2
  jump : tA i.op.toNat = 3 → d.getD i.a.toNat 0 = d.getD k 0 - (eff p i).1 + (eff p i).2

/-- pass, where nothing is wrong -/
theorem pass_good {p : Pg} {d : List Int} {k : Nat} {i : In} (hk : k < d.length) (h : (passS p d k i).1 = 0) :
    (∀ j, j ≤ k ∨ d.getD j 0 ≠ -1 → (passS p d k i).2.getD j 0 = d.getD j 0) ∧ Good p (passS p d k i).2 k i := by
  unfold passS at h ⊢
  split at h
  · cases h
  rename_i hb
  rw [if_neg hb]
  have gv := (eff_gv p i).1
  generalize hx : d.getD k 0 - (eff p i).1 + (eff p i).2 = x at *
  split at h
  rotate_left
  · rename_i h1
    exact absurd h h1
  rename_i h1
  rw [if_pos h1]
  -- the next one
  have s1 : (∀ j, j ≤ k ∨ d.getD j 0 ≠ -1 → (stp1 d i.op.toNat k x).2.getD j 0 = d.getD j 0) ∧ (stp1 d i.op.toNat k x).2.length = d.length ∧ (tS i.op.toNat = false → k + 1 < d.length ∧ (stp1 d i.op.toNat k x).2.getD (k + 1) 0 = x) := by
    unfold stp1 at h1 ⊢
    split
    · rename_i hS
      exact ⟨fun _ _ => rfl, rfl, fun hS' => by rw [hS] at hS'; cases hS'⟩
    · rename_i hS
      rw [if_neg hS] at h1
      split
      · rename_i he
        rw [if_pos he] at h1
        cases h1
      · rename_i he
        rw [if_neg he] at h1
        split
        · rename_i hl
          exact ⟨fun j hj => lay_keep (by rcases hj with hj | hj; exact Or.inr (Or.inl hj); exact Or.inr (Or.inr hj)), lay_len _ _ _ _, fun _ => ⟨by omega, lay_at hl⟩⟩
        · rename_i hl
          rw [if_neg hl] at h1
          cases h1
  obtain ⟨a1, a2, a3⟩ := s1
  generalize (stp1 d i.op.toNat k x).2 = d1 at *
  have x0 : 0 ≤ x := by omega
  have s2 : (∀ j, j ≤ k ∨ d1.getD j 0 ≠ -1 → (stp2 d1 i.op.toNat k i.a.toNat x).2.getD j 0 = d1.getD j 0) ∧ (stp2 d1 i.op.toNat k i.a.toNat x).2.length = d1.length ∧ (tA i.op.toNat = 3 → (stp2 d1 i.op.toNat k i.a.toNat x).2.getD i.a.toNat 0 = x) := by
    unfold stp2 at h ⊢
    split
    · rename_i hA
      rw [if_pos hA] at h
      split
      · rename_i hl
        exact ⟨fun j hj => lay_keep (by rcases hj with hj | hj; exact Or.inr (Or.inl hj); exact Or.inr (Or.inr hj)), lay_len _ _ _ _, fun _ => lay_at hl⟩
      · rename_i hl
        rw [if_neg hl] at h
        cases h
    · rename_i hA
      exact ⟨fun _ _ => rfl, rfl, fun hA' => absurd hA' hA⟩
  obtain ⟨b1, b2, b3⟩ := s2
  generalize (stp2 d1 i.op.toNat k i.a.toNat x).2 = d2 at *
  have keep : ∀ j, j ≤ k ∨ d.getD j 0 ≠ -1 → d2.getD j 0 = d.getD j 0 := fun j hj => by
    have e := a1 j hj
    rw [← e]
    refine b1 j ?_
    rcases hj with hj | hj
    · exact Or.inl hj
    · exact Or.inr (by rw [e]; exact hj)
  have ek := keep k (Or.inl (Nat.le_refl _))
  refine ⟨keep, ?_, ?_, ?_, ?_⟩
  · rw [ek]; omega
  · rw [ek, hx]; omega
  · intro hS
    obtain ⟨c1, c2⟩ := a3 hS
    refine ⟨by omega, ?_⟩
    rw [ek, hx, b1 (k + 1) (Or.inr (by rw [c2]; omega)), c2]
  · intro hA
    rw [ek, hx, b3 hA]

theorem dps_good {p : Pg} : ∀ {r : List In} {k : Nat} {d0 : List Int}, k + r.length = d0.length → (dps p r k d0).1 = 0 →
    (dps p r k d0).2.2.length = d0.length ∧ (∀ j, j < k ∨ d0.getD j 0 ≠ -1 → (dps p r k d0).2.2.getD j 0 = d0.getD j 0) ∧
      ∀ j (h : j < r.length), (dps p r k d0).2.2.getD (k + j) 0 = -1 ∨ Good p (dps p r k d0).2.2 (k + j) r[j]
  | [], k, d0, _, _ => ⟨rfl, fun _ _ => rfl, fun j h => by cases h⟩
  | i :: r, k, d0, hl, h => by
    rw [List.length_cons] at hl
    unfold dps at h ⊢
    by_cases c : d0.getD k 0 = -1
    · rw [if_pos c] at h ⊢
      obtain ⟨h1, h2, h3⟩ := dps_good (by omega) h
      refine ⟨h1, fun j hj => h2 j (by rcases hj with hj | hj; exact Or.inl (by omega); exact Or.inr hj), fun j hj => ?_⟩
      cases j with
      | zero => exact Or.inl ((h2 k (Or.inl (by omega))).trans c)
      | succ j =>
        have := h3 j (by simpa using hj)
        rw [show k + 1 + j = k + (j + 1) by omega] at this
        simpa using this
    · rw [if_neg c] at h ⊢
      by_cases e : (passS p d0 k i).1 = 0
      · rw [if_pos e] at h ⊢
        obtain ⟨p1, p2⟩ := pass_good (by omega) e
        have pl := pass_len p d0 k i
        obtain ⟨h1, h2, h3⟩ := dps_good (by omega) h
        have gv := (eff_gv p i).1
        generalize (passS p d0 k i).2 = d1 at *
        generalize (dps p r (k + 1) d1).2.2 = d at *
        have ek : d.getD k 0 = d1.getD k 0 := h2 k (Or.inl (by omega))
        refine ⟨by omega, fun j hj => ?_, fun j hj => ?_⟩
        · have e1 := p1 j (by rcases hj with hj | hj; exact Or.inl (by omega); exact Or.inr hj)
          rw [← e1]
          refine h2 j ?_
          rcases hj with hj | hj
          · exact Or.inl (by omega)
          · exact Or.inr (by rw [e1]; exact hj)
        · cases j with
          | zero =>
            have q1 := p2.le
            refine Or.inr (show Good p d k i from ⟨by rw [ek]; exact q1, by rw [ek]; exact p2.most, fun hS => ?_, fun hA => ?_⟩)
            · obtain ⟨c1, c2⟩ := p2.next hS
              refine ⟨by omega, ?_⟩
              rw [ek, ← c2]
              exact h2 (k + 1) (Or.inr (by rw [c2]; omega))
            · have c2 := p2.jump hA
              rw [ek, ← c2]
              exact h2 _ (Or.inr (by rw [c2]; omega))
          | succ j =>
            have := h3 j (by simpa using hj)
            rw [show k + 1 + j = k + (j + 1) by omega] at this
            simpa using this
      · rw [if_neg e] at h
        exact absurd h e

end Go.Proofs.YtgheaieghoekhaaDoor
