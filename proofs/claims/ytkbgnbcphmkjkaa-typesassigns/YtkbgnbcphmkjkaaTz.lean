/- The document's way of taking a type's text apart, against the plain one; no program. -/
import Derived.Test.YtkbgnbcphmkjkaaTy
namespace Go.Proofs.Ytkbgnbcphmkjkaa
open Go.RowKit

/-- by the first words alone -/
def rsplit (l : List UInt8) : Nat × List UInt8 × Bool :=
  if hp pB l then (if 2 ≤ (l.drop 5).length ∧ hp [40] (l.drop 5) = true ∧ hs [41] (l.drop 5) = true then (0, inn (l.drop 5), hp ar (inn (l.drop 5))) else (0, l.drop 5, !hp ar (l.drop 5)))
  else if hp pS l then (1, l.drop 7, true) else if hp pR l then (2, l.drop 7, true) else (0, [], false)

theorem pB_pS {l : List UInt8} (h : hp pB l = true) : hp pS l = false ∧ hp pR l = false := by
  obtain ⟨r, rfl⟩ := (hp_iff _ _).1 h
  exact ⟨by simp [pS, pB, hp_cons], by simp [pR, pB, hp_cons]⟩

theorem hp40 {e : List UInt8} (h : hp [40] e = true) : e = 40 :: e.drop 1 := drop_app h

theorem hs_drop {e : List UInt8} (h : hp [40] e = true) : (hs [41] (e.drop 1) = true) ↔ (2 ≤ e.length ∧ hs [41] e = true) := by
  obtain ⟨r, rfl⟩ := (hp_iff _ _).1 h
  rw [hs_iff, hs_iff]
  constructor
  · rintro ⟨q, hq⟩
    have hq' : r = q ++ [41] := hq
    subst hq'
    exact ⟨by simp, [40] ++ q, by simp⟩
  · rintro ⟨h2, q, hq⟩
    cases q with
    | nil => simp at hq
    | cons a q =>
      have : r = q ++ [41] := by simpa using (List.cons.inj hq).2
      exact ⟨q, this⟩

theorem rsplit_some {l : List UInt8} {d : Nat} {e : List UInt8} (h : peel l = some (d, e)) : rsplit l = (d, e, true) := by
  unfold peel at h
  split at h
  · rename_i h1
    cases h
    unfold rsplit
    rw [if_neg (fun hc => by rw [(pB_pS hc).1] at h1; cases h1), if_pos h1]
  split at h
  · rename_i h0 h1
    cases h
    unfold rsplit
    rw [if_neg (fun hc => by rw [(pB_pS hc).2] at h1; cases h1), if_neg h0, if_pos h1]
  split at h
  · rename_i h1
    unfold rsplit
    rw [if_pos h1]
    unfold peelB at h
    split at h
    · rename_i h2
      split at h
      · rename_i h3
        obtain ⟨q1, q2⟩ := (hs_drop h2).1 h3
        split at h
        · rename_i h4
          cases h
          rw [if_pos ⟨q1, h2, q2⟩, h4]
        · cases h
      · cases h
    · rename_i h2
      split at h
      · cases h
      · rename_i h3
        cases h
        rw [if_neg (fun hc => h2 hc.2.1)]
        simp at h3
        rw [h3]
        rfl
  · cases h

theorem rsplit_none {l : List UInt8} (h : peel l = none) (ho : (rsplit l).2.2 = true) : ∃ r, (rsplit l).2.1 = 40 :: r := by
  unfold peel at h
  split at h
  · cases h
  split at h
  · cases h
  rename_i h0 h1
  split at h
  · rename_i h2
    unfold rsplit at ho ⊢
    rw [if_pos h2] at ho ⊢
    unfold peelB at h
    split at h
    · rename_i h3
      split at h
      · rename_i h4
        obtain ⟨q1, q2⟩ := (hs_drop h3).1 h4
        rw [if_pos ⟨q1, h3, q2⟩] at ho ⊢
        rw [if_pos ho] at h
        cases h
      · rename_i h4
        rw [if_neg (fun hc => h4 ((hs_drop h3).2 ⟨hc.1, hc.2.2⟩))]
        exact ⟨_, hp40 h3⟩
    · rename_i h3
      split at h
      · rename_i h4
        rw [if_neg (fun hc => h3 hc.2.1), h4] at ho
        cases ho
      · cases h
  · rename_i h2
    unfold rsplit at ho
    rw [if_neg h2, if_neg h0, if_neg h1] at ho
    cases ho

theorem meas_brack (n : Nat) (r : List UInt8) : meas n (40 :: r) = none := by
  cases n with
  | zero => rfl
  | succ n =>
    unfold meas
    rw [if_neg (by rw [(brack r).1]; simp), (brack r).2]

theorem rsplit_base {l : List UInt8} (h : base l = true) : rsplit l = (0, [], false) := by
  unfold base at h
  simp only [Bool.or_eq_true, decide_eq_true_eq] at h
  rcases h with ((rfl | rfl) | rfl) | rfl <;> decide

theorem meas_base {n : Nat} {l : List UInt8} (h : base l = true) : meas (n + 1) l = some 0 := by
  unfold meas; rw [if_pos h]
theorem meas_none {n : Nat} {l : List UInt8} (h : base l = false) (hp : peel l = none) : meas (n + 1) l = none := by
  unfold meas; rw [if_neg (by rw [h]; simp), hp]
theorem meas_some {n : Nat} {l : List UInt8} {d : Nat} {e : List UInt8} (h : base l = false) (hp : peel l = some (d, e)) : meas (n + 1) l = (meas n e).map (· + 1) := by
  conv => lhs; unfold meas
  rw [if_neg (by rw [h]; simp), hp]

/-- a step of the document's measuring -/
theorem right_step {n : Nat} {l : List UInt8} (h : base l = false) : (meas (n + 1) l).isSome = ((rsplit l).2.2 && (meas n (rsplit l).2.1).isSome) := by
  cases hp : peel l with
  | some p =>
    obtain ⟨d, e⟩ := p
    rw [meas_some h hp, rsplit_some hp]
    simp
  | none =>
    rw [meas_none h hp]
    cases ho : (rsplit l).2.2 with
    | false => rfl
    | true =>
      obtain ⟨r, hr⟩ := rsplit_none hp ho
      rw [hr, meas_brack]
      rfl

/-- a step of the document's counting, in a type's text -/
theorem depth_step {n k : Nat} {l : List UInt8} (h : meas (n + 1) l = some k) : ((rsplit l).2.2 = false ∧ k = 0) ∨ ((rsplit l).2.2 = true ∧ ∃ j, k = j + 1 ∧ meas n (rsplit l).2.1 = some j) := by
  cases hb : base l with
  | true =>
    rw [meas_base hb] at h
    exact Or.inl ⟨by rw [rsplit_base hb], (Option.some.inj h).symm⟩
  | false =>
    cases hp : peel l with
    | none => rw [meas_none hb hp] at h; cases h
    | some p =>
      obtain ⟨d, e⟩ := p
      rw [meas_some hb hp] at h
      rw [rsplit_some hp]
      cases hm : meas n e with
      | none => rw [hm] at h; cases h
      | some j => rw [hm] at h; exact Or.inr ⟨rfl, j, (Option.some.inj h).symm, rfl⟩

/-- taken apart, of a type's text -/
theorem rsplit_splt {l : List UInt8} (h : right l = true) : rsplit l = match splt l with | some (d, e) => (d, e, true) | none => (0, [], false) := by
  unfold splt
  rw [if_pos h]
  cases hp : peel l with
  | some p => obtain ⟨d, e⟩ := p; exact rsplit_some hp
  | none =>
    cases hb : base l with
    | true => exact rsplit_base hb
    | false =>
      obtain ⟨k, hk, _⟩ := right_meas h
      rw [meas_none hb hp] at hk
      cases hk

/-- nil's types -/
theorem hasNil_of {l : List UInt8} (h : right l = true) : hasNil l = ((splt l).isSome || decide (l = tMutex) || decide (l = tGroup)) := by
  unfold splt
  rw [if_pos h]
  cases hb : base l with
  | true =>
    rw [base_peel hb]
    unfold base at hb
    simp only [Bool.or_eq_true, decide_eq_true_eq] at hb
    rcases hb with ((rfl | rfl) | rfl) | rfl <;> decide
  | false =>
    have hn : hasNil l = true := by
      unfold base at hb
      unfold hasNil
      simp only [Bool.or_eq_false_iff] at hb
      rw [hb.1.1.1, hb.1.1.2]
      rfl
    obtain ⟨k, hk, _⟩ := right_meas h
    cases hp : peel l with
    | none => rw [meas_none hb hp] at hk; cases hk
    | some p => rw [hn]; rfl

/-- the document's form of a channel's narrowing: another channel's -/
theorem narrows_of {f t : List UInt8} (h : f ≠ t) : narrows f t = match splt f, splt t with | some (k, e), some (d, e') => decide (k = 0) && !decide (d = 0) && decide (e' = e) | _, _ => false := by
  unfold narrows
  cases hf : splt f with
  | none => rfl
  | some p =>
    obtain ⟨k, e⟩ := p
    cases ht : splt t with
    | none => rfl
    | some q =>
      obtain ⟨d, e'⟩ := q
      simp only
      by_cases e1 : e = e'
      · subst e1
        by_cases k0 : k = 0
        · subst k0
          have hd : d ≠ 0 := fun hd => h (by rw [(splt_mk hf).1, (splt_mk ht).1, hd])
          simp [hd]
        · simp [k0]
      · have e2 : e' ≠ e := fun hc => e1 hc.symm
        simp [e1, e2]

end Go.Proofs.Ytkbgnbcphmkjkaa
