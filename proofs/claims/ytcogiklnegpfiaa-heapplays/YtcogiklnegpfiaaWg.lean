/- Layer 10: all things ever taken, seen slot by slot. -/
import Derived.Test.YtcogiklnegpfiaaWf
namespace Go.Proofs.Ytcogiklnegpfiaa
open Go.RowKit

section
variable {α : Type}

/-- what was taken later in the same slot found the earlier gone -/
def Lt (l : List (ThG α)) : Prop := ∀ i j (hi : i < l.length) (hj : j < l.length), i < j → l[i].s = l[j].s → l[i].d = true

theorem Lt.nil : Lt ([] : List (ThG α)) := fun i j h => (by cases h)
theorem Lt.tkd {l : List (ThG α)} (h : Lt l) (M : Nat) (x : α) : Lt (tkd l M x) := by
  unfold Proofs.Ytcogiklnegpfiaa.tkd
  cases he : emp l M 1 with
  | none => exact h
  | some s =>
    obtain ⟨h1, h2, h3⟩ := emp_some he
    show Lt (tkn l s x)
    unfold tkn
    intro i j hi hj hij e
    rw [List.length_append, List.length_singleton] at hi hj
    have hl : i < l.length := by omega
    rw [List.getElem_append_left hl] at e ⊢
    by_cases hl' : j < l.length
    · rw [List.getElem_append_left hl'] at e
      exact h i j hl hl' hij e
    · have : j = l.length := by omega
      subst this
      rw [List.getElem_append_right (Nat.le_refl _)] at e
      simp at e
      cases hd : l[i].d
      · exact absurd e (usd_false h1 hl hd)
      · rfl
theorem Lt.mod {l : List (ThG α)} (h : Lt l) (i : Nat) (f : ThG α → ThG α) (hf : ∀ t, (f t).s = t.s) (hd : ∀ t, t.d = true → (f t).d = true) : Lt (l.modify i f) := by
  intro a b ha hb hab e
  have ha' : a < l.length := by simpa using ha
  have hb' : b < l.length := by simpa using hb
  have at_ : ∀ k (hk : k < (l.modify i f).length) (hk' : k < l.length), (l.modify i f)[k].s = l[k].s ∧ (l[k].d = true → (l.modify i f)[k].d = true) := by
    intro k hk hk'
    rw [List.getElem_modify]
    split
    · exact ⟨hf _, hd _⟩
    · exact ⟨rfl, id⟩
  rw [(at_ a ha ha').1, (at_ b hb hb').1] at e
  exact (at_ a ha ha').2 (h a b ha' hb' hab e)
theorem Lt.frd {l : List (ThG α)} (h : Lt l) (s g : Int) : Lt (frd l s g) := by
  unfold Proofs.Ytcogiklnegpfiaa.frd
  cases fnd l s g with
  | none => exact h
  | some i => exact h.mod i _ (fun _ => rfl) (fun _ _ => rfl)
theorem Lt.std {l : List (ThG α)} (h : Lt l) (s g : Int) (x : α) : Lt (std l s g x) := by
  unfold Proofs.Ytcogiklnegpfiaa.std
  cases fnd l s g with
  | none => exact h
  | some i => exact h.mod i _ (fun _ => rfl) (fun _ h => h)

/-- the place of what lives in a slot -/
def liv (l : List (ThG α)) (s : Int) : Option Nat := l.findIdx? fun t => decide (t.s = s) && !t.d
theorem liv_some {l : List (ThG α)} {s : Int} {i : Nat} (h : liv l s = some i) : ∃ hi : i < l.length, l[i].s = s ∧ l[i].d = false := by
  obtain ⟨hi, h1, _⟩ := List.findIdx?_eq_some_iff_getElem.1 h
  simp only [Bool.and_eq_true, decide_eq_true_eq, Bool.not_eq_true'] at h1
  exact ⟨hi, h1⟩
theorem liv_isSome (l : List (ThG α)) (s : Int) : (liv l s).isSome = usd l s := by
  unfold liv usd
  rw [List.findIdx?_isSome]
theorem liv_of {l : List (ThG α)} {M : Nat} (h : Wf l M) {i : Nat} (hi : i < l.length) (hd : l[i].d = false) : liv l l[i].s = some i := by
  cases e : liv l l[i].s with
  | none =>
    have := liv_isSome l l[i].s
    rw [e] at this
    exact absurd rfl (usd_false this.symm hi hd)
  | some j =>
    obtain ⟨hj, h1, h2⟩ := liv_some e
    rw [h.one j i hj hi h2 hd h1]
theorem gens_split (l : List (ThG α)) (s : Int) (k : Nat) : gens l s = gens (l.take k) s + gens (l.drop k) s := by
  unfold gens
  rw [← List.countP_append, List.take_append_drop]
/-- what lives is the last of its slot -/
theorem last_gen {l : List (ThG α)} {M : Nat} (h : Wf l M) (hl : Lt l) {i : Nat} (hi : i < l.length) (hd : l[i].d = false) : l[i].g = gens l l[i].s := by
  rw [gens_split l l[i].s (i + 1), gens_take_succ hi, h.gen i hi]
  have : gens (l.drop (i + 1)) l[i].s = 0 := by
    unfold gens
    rw [List.countP_eq_zero]
    intro t ht
    obtain ⟨k, hk, rfl⟩ := List.getElem_of_mem ht
    rw [List.length_drop] at hk
    rw [List.getElem_drop]
    intro e
    have e' : l[i + 1 + k].s = l[i].s := by simpa using e
    have := hl i (i + 1 + k) hi (by omega) (by omega) e'.symm
    rw [hd] at this
    cases this
  rw [this]
  simp
/-- a handle lives just if its slot is used and its generation is the slot's -/
theorem fnd_liv {l : List (ThG α)} {M : Nat} (h : Wf l M) (hl : Lt l) (s g : Int) : fnd l s g = if (gens l s : Int) = g then liv l s else none := by
  cases hf : fnd l s g with
  | some i =>
    obtain ⟨hi, h1, h2, h3⟩ := fnd_some hf
    have e := last_gen h hl hi h3
    have e2 := liv_of h hi h3
    rw [h1] at e e2
    rw [h2] at e
    rw [if_pos e.symm, e2]
  | none =>
    split
    · rename_i hg
      cases e : liv l s with
      | none => rfl
      | some i =>
        obtain ⟨hi, h1, h2⟩ := liv_some e
        have e3 := last_gen h hl hi h2
        have e4 := h.fnd_live hi h2
        rw [h1] at e3 e4
        rw [e3, hg, hf] at e4
        cases e4
    · rfl
theorem fnB_liv {l : List (ThG α)} {M : Nat} (h : Wf l M) (hl : Lt l) (s g : Int) : fnB l s g = (usd l s && decide ((gens l s : Int) = g)) := by
  unfold fnB
  rw [fnd_liv h hl, ← liv_isSome]
  split <;> rename_i hg <;> simp [hg]

/-! ### slot by slot, behind each call -/

theorem usd_tkd (l : List (ThG α)) (M : Nat) (x : α) (s : Int) : usd (tkd l M x) s = (usd l s || (tkB l M && decide (tkS l M = s))) := by
  unfold tkd tkB tkS
  cases he : emp l M 1 with
  | none => simp
  | some r => simp [tkn, usd]
theorem gens_tkd (l : List (ThG α)) (M : Nat) (x : α) (s : Int) : gens (tkd l M x) s = gens l s + if tkB l M && decide (tkS l M = s) then 1 else 0 := by
  unfold tkd tkB tkS
  cases he : emp l M 1 with
  | none => simp
  | some r =>
    show gens (tkn l r x) s = _
    unfold tkn gens
    rw [List.countP_append]
    by_cases hr : r = s <;> simp [hr]
theorem gens_frd (l : List (ThG α)) (s g s' : Int) : gens (frd l s g) s' = gens l s' := by
  unfold frd
  cases fnd l s g with
  | none => rfl
  | some i =>
    have := gens_mod l i (fun t => { t with d := true }) (fun _ => rfl) l.length s'
    rw [List.take_of_length_le (by simp), List.take_of_length_le (Nat.le_refl _)] at this
    exact this
theorem gens_std (l : List (ThG α)) (s g : Int) (x : α) (s' : Int) : gens (std l s g x) s' = gens l s' := by
  unfold std
  cases fnd l s g with
  | none => rfl
  | some i =>
    have := gens_mod l i (fun t => { t with x := x }) (fun _ => rfl) l.length s'
    rw [List.take_of_length_le (by simp), List.take_of_length_le (Nat.le_refl _)] at this
    exact this
theorem liv_std (l : List (ThG α)) (s g : Int) (x : α) (s' : Int) : liv (std l s g x) s' = liv l s' := by
  unfold std
  cases fnd l s g with
  | none => rfl
  | some i =>
    show liv (sett l i x) s' = _
    unfold liv sett
    induction l generalizing i with
    | nil => simp
    | cons t l ih =>
      cases i with
      | zero => simp [List.findIdx?_cons]
      | succ i => simp [List.findIdx?_cons, ih]
theorem liv_tkd {l : List (ThG α)} {M : Nat} (x : α) (hB : tkB l M = true) (s : Int) : liv (tkd l M x) s = if tkS l M = s then some l.length else liv l s := by
  unfold tkB at hB
  unfold tkd tkS
  cases he : emp l M 1 with
  | none => rw [he] at hB; cases hB
  | some r =>
    show liv (tkn l r x) s = if r = s then _ else _
    unfold tkn liv
    rw [List.findIdx?_append]
    obtain ⟨h1, _, _⟩ := emp_some he
    by_cases hr : r = s
    · subst hr
      have : l.findIdx? (fun t => decide (t.s = r) && !t.d) = none := by
        have := liv_isSome l r
        rw [h1] at this
        unfold liv at this
        exact Option.isSome_eq_false_iff.1 this |> Option.isNone_iff_eq_none.1
      rw [this, if_pos rfl]
      simp [List.findIdx?_cons]
    · rw [if_neg hr]
      simp [List.findIdx?_cons, hr]
theorem liv_frd {l : List (ThG α)} {M : Nat} (h : Wf l M) {s g : Int} (hB : fnB l s g = true) (s' : Int) : liv (frd l s g) s' = if s = s' then none else liv l s' := by
  unfold fnB at hB
  unfold frd
  cases hf : fnd l s g with
  | none => rw [hf] at hB; cases hB
  | some i =>
    obtain ⟨hi, h1, h2, h3⟩ := fnd_some hf
    show liv (fre l i) s' = _
    have hlen : (fre l i).length = l.length := by simp [fre]
    have at_ : ∀ k (hk : k < (fre l i).length) (hk' : k < l.length), (fre l i)[k] = if i = k then { l[k] with d := true } else l[k] := by
      intro k hk hk'
      simp only [fre, List.getElem_modify]
    have hw : Wf (fre l i) M := by
      have := h.frd s g
      unfold frd at this
      rw [hf] at this
      exact this
    by_cases hs : s = s'
    · subst hs
      rw [if_pos rfl]
      cases e : liv (fre l i) s with
      | none => rfl
      | some j =>
        obtain ⟨hj, e1, e2⟩ := liv_some e
        have hj' : j < l.length := by omega
        rw [at_ j hj hj'] at e1 e2
        split at e2
        · cases e2
        · rename_i hne
          rw [if_neg hne] at e1
          exact absurd (h.one i j hi hj' h3 e2 (h1.trans e1.symm)) hne
    · rw [if_neg hs]
      cases e : liv l s' with
      | none =>
        cases e2 : liv (fre l i) s' with
        | none => rfl
        | some j =>
          obtain ⟨hj, k1, k2⟩ := liv_some e2
          have hj' : j < l.length := by omega
          rw [at_ j hj hj'] at k1 k2
          split at k2
          · cases k2
          · rename_i hne
            rw [if_neg hne] at k1
            have := liv_of h hj' k2
            rw [k1, e] at this
            cases this
      | some j =>
        obtain ⟨hj, k1, k2⟩ := liv_some e
        have hne : i ≠ j := fun e => by subst e; exact hs (h1.symm.trans k1)
        have hj2 : j < (fre l i).length := by omega
        have ek : (fre l i)[j] = l[j] := by rw [at_ j hj2 hj, if_neg hne]
        have := liv_of hw hj2 (by rw [ek]; exact k2)
        rw [ek, k1] at this
        exact this
end

end Go.Proofs.Ytcogiklnegpfiaa
