/- Layer 10: the program's slots, out of all things ever taken: on lists alone. -/
import Derived.Test.YtcogiklnegpfiaaWg
namespace Go.Proofs.Ytcogiklnegpfiaa
open Go.RowKit

section
variable {α : Type}

/-- a slot: how many it has had, the serial of what lives there (0: nothing does), the thing -/
structure So (α : Type) where
  g : Nat
  r : Nat
  x : α
def sloR (l : List (ThG α)) (s : Int) : Nat := match liv l s with
  | none => 0
  | some k => k + 1
def sloX (z : α) (l : List (ThG α)) (s : Int) : α := match liv l s with
  | none => z
  | some k => (l[k]?.map ThG.x).getD z
def slo (z : α) (l : List (ThG α)) (i : Nat) : So α := ⟨gens l ((i : Int) + 1), sloR l ((i : Int) + 1), sloX z l ((i : Int) + 1)⟩
def sls (z : α) (l : List (ThG α)) (M : Nat) : List (So α) := (List.range M).map (slo z l)

theorem sls_len (z : α) (l : List (ThG α)) (M : Nat) : (sls z l M).length = M := by simp [sls]
theorem sls_get (z : α) (l : List (ThG α)) (M i : Nat) (h : i < (sls z l M).length) : (sls z l M)[i] = slo z l i := by simp [sls]
theorem sls_nil (z : α) (M : Nat) : sls z [] M = List.replicate M ⟨0, 0, z⟩ := by
  apply List.ext_getElem
  · simp [sls]
  · intro i h1 h2
    rw [sls_get, List.getElem_replicate]
    rfl
theorem sloR_zero (l : List (ThG α)) (s : Int) : (sloR l s = 0) = (usd l s = false) := by
  unfold sloR
  rw [← liv_isSome]
  cases liv l s <;> simp
theorem sloR_le (l : List (ThG α)) (s : Int) : sloR l s ≤ l.length := by
  unfold sloR
  cases h : liv l s with
  | none => exact Nat.zero_le _
  | some k =>
    obtain ⟨hk, _⟩ := liv_some h
    exact hk

/-- slots that differ in one place alone -/
theorem sls_put (z : α) {l l' : List (ThG α)} {M i : Nat} (o : So α) (h0 : slo z l' i = o) (h1 : ∀ j, j < M → j ≠ i → slo z l' j = slo z l j) : sls z l' M = (sls z l M).set i o := by
  apply List.ext_getElem
  · simp [sls]
  · intro j hj hj'
    rw [List.length_set, sls_len] at hj'
    rw [sls_get, List.getElem_set]
    split
    · rename_i e
      subst e
      exact h0
    · rename_i e
      rw [sls_get]
      exact h1 j hj' fun h => e h.symm
theorem tkd_at {l : List (ThG α)} {M : Nat} (x : α) (hB : tkB l M = true) : tkd l M x = l ++ [⟨tkS l M, gens l (tkS l M) + 1, x, false⟩] ∧ tkG l M = gens l (tkS l M) + 1 := by
  unfold tkB at hB
  unfold tkd tkS tkG
  cases he : emp l M 1 with
  | none => rw [he] at hB; cases hB
  | some s => exact ⟨rfl, rfl⟩
theorem sls_tkd (z : α) {l : List (ThG α)} {M i : Nat} (x : α) (hB : tkB l M = true) (hS : tkS l M = (i : Int) + 1) : sls z (tkd l M x) M = (sls z l M).set i ⟨gens l ((i : Int) + 1) + 1, l.length + 1, x⟩ := by
  have hl := fun s => liv_tkd x hB s
  have hg := fun s => gens_tkd l M x s
  rw [hS] at hl
  simp only [hB, hS, Bool.true_and] at hg
  have ht := (tkd_at x hB).1
  refine sls_put z _ ?_ ?_
  · unfold slo sloR sloX
    rw [hl, hg, if_pos rfl, ht]
    simp
  · intro j hj hne
    have h1 : ¬ (i : Int) + 1 = (j : Int) + 1 := by omega
    unfold slo sloR sloX
    rw [hl, hg, if_neg h1, ht]
    simp only [h1, decide_false, Bool.false_eq_true, if_false, Nat.add_zero]
    cases hv : liv l ((j : Int) + 1) with
    | none => rfl
    | some k =>
      obtain ⟨hk, _⟩ := liv_some hv
      simp only [List.getElem?_append_left hk]
theorem map_mod (l : List (ThG α)) (i : Nat) (f : ThG α → ThG α) (k : Nat) (h : i = k → ∀ t, (f t).x = t.x) : (l.modify i f)[k]?.map ThG.x = l[k]?.map ThG.x := by
  rw [List.getElem?_modify]
  cases l[k]? with
  | none => rfl
  | some t =>
    by_cases e : i = k
    · simp [e, h e]
    · simp [e]
theorem sls_frd (z : α) {l : List (ThG α)} {M i : Nat} (hw : Wf l M) {g : Int} (hB : fnB l ((i : Int) + 1) g = true) : sls z (frd l ((i : Int) + 1) g) M = (sls z l M).set i ⟨gens l ((i : Int) + 1), 0, z⟩ := by
  have hl := fun s => liv_frd hw hB s
  have hg := fun s => gens_frd l ((i : Int) + 1) g s
  refine sls_put z _ ?_ ?_
  · unfold slo sloR sloX
    rw [hl, hg, if_pos rfl]
  · intro j hj hne
    have h1 : ¬ (i : Int) + 1 = (j : Int) + 1 := by omega
    unfold slo sloR sloX
    rw [hl, hg, if_neg h1]
    have hx : ∀ k : Nat, (frd l ((i : Int) + 1) g)[k]?.map ThG.x = l[k]?.map ThG.x := by
      intro k
      unfold frd
      cases fnd l ((i : Int) + 1) g with
      | none => rfl
      | some m => exact map_mod l m _ k fun _ _ => rfl
    cases hv : liv l ((j : Int) + 1) with
    | none => rfl
    | some k => simp only [hx]
theorem sls_std (z : α) {l : List (ThG α)} {M i : Nat} (hw : Wf l M) (hl : Lt l) {g : Int} (x : α) (hB : fnB l ((i : Int) + 1) g = true) : sls z (std l ((i : Int) + 1) g x) M = (sls z l M).set i ⟨gens l ((i : Int) + 1), sloR l ((i : Int) + 1), x⟩ := by
  have hlv := fun s => liv_std l ((i : Int) + 1) g x s
  have hg := fun s => gens_std l ((i : Int) + 1) g x s
  unfold fnB at hB
  obtain ⟨m, hm⟩ := Option.isSome_iff_exists.1 hB
  have hv0 : liv l ((i : Int) + 1) = some m := by
    have := fnd_liv hw hl ((i : Int) + 1) g
    rw [hm] at this
    split at this
    · exact this.symm
    · cases this
  obtain ⟨hm1, hm2, _⟩ := liv_some hv0
  refine sls_put z _ ?_ ?_
  · unfold slo sloR sloX
    rw [hlv, hg, hv0]
    unfold std
    rw [hm]
    simp [sett, hm1]
  · intro j hj hne
    have h1 : ¬ (i : Int) + 1 = (j : Int) + 1 := by omega
    unfold slo sloR sloX
    rw [hlv, hg]
    cases hv : liv l ((j : Int) + 1) with
    | none => rfl
    | some k =>
      obtain ⟨hk1, hk2, _⟩ := liv_some hv
      have hx : (std l ((i : Int) + 1) g x)[k]?.map ThG.x = l[k]?.map ThG.x := by
        unfold std
        rw [hm]
        refine map_mod l m _ k fun e => ?_
        subst e
        exact absurd (hm2.symm.trans hk2) h1
      simp only [hx]

theorem cnt_tkd {l : List (ThG α)} {M : Nat} (x : α) (hB : tkB l M = true) : cnt (tkd l M x) = cnt l + 1 := by
  rw [(tkd_at x hB).1, cnt_snoc]
  rfl
theorem cnt_std (l : List (ThG α)) (s g : Int) (x : α) : cnt (std l s g x) = cnt l := by
  unfold std
  cases fnd l s g with
  | none => rfl
  | some i =>
    show cnt (sett l i x) = _
    unfold sett cnt
    induction l generalizing i with
    | nil => simp
    | cons t l ih =>
      cases i with
      | zero => simp [List.countP_cons]
      | succ i => simp [List.countP_cons, ih]
theorem cnt_fre {l : List (ThG α)} {i : Nat} (hi : i < l.length) (hd : l[i].d = false) : cnt (fre l i) + 1 = cnt l := by
  unfold fre cnt
  induction l generalizing i with
  | nil => cases hi
  | cons t l ih =>
    cases i with
    | zero =>
      simp only [List.getElem_cons_zero] at hd
      simp [hd]
    | succ i =>
      have := ih (i := i) (by simpa using hi) (by simpa using hd)
      simp only [List.modify_succ_cons, List.countP_cons]
      omega
theorem cnt_frd {l : List (ThG α)} {s g : Int} (hB : fnB l s g = true) : cnt (frd l s g) + 1 = cnt l := by
  unfold fnB at hB
  obtain ⟨m, hm⟩ := Option.isSome_iff_exists.1 hB
  obtain ⟨h1, _, _, h2⟩ := fnd_some hm
  unfold frd
  rw [hm]
  exact cnt_fre h1 h2

/-- the index of the least empty slot, or -1 -/
def lsE (l : List (ThG α)) (M : Nat) : Int := match emp l M 1 with
  | none => -1
  | some s => s - 1
theorem lsE_none {l : List (ThG α)} {M : Nat} (h : emp l M 1 = none) : lsE l M = -1 := by unfold lsE; rw [h]
theorem lsE_some {l : List (ThG α)} {M : Nat} {s : Int} (h : emp l M 1 = some s) : lsE l M = s - 1 := by unfold lsE; rw [h]
theorem emp_next {l : List (ThG α)} {M j : Nat} (hj : j < M) (h : emp l M 1 = emp l (M - j) (j + 1)) : emp l M 1 = if usd l (j + 1) then emp l (M - (j + 1)) (((j + 1 : Nat) : Int) + 1) else some ((j : Int) + 1) := by
  rw [h, show M - j = (M - (j + 1)) + 1 by omega]
  rfl

/-- what a handle that lives tells -/
theorem live_at {l : List (ThG α)} {M : Nat} (hw : Wf l M) (hl : Lt l) {s g : Int} (hB : fnB l s g = true) : ∃ i : Nat, i < M ∧ s = (i : Int) + 1 ∧ (gens l s : Int) = g ∧ sloR l s ≠ 0 ∧ fnd l s g = liv l s := by
  have h1 := fnB_liv hw hl s g
  rw [hB] at h1
  have h2 := Bool.and_eq_true_iff.1 h1.symm
  have hg : (gens l s : Int) = g := by simpa using h2.2
  have hf := fnd_liv hw hl s g
  rw [if_pos hg] at hf
  have hs : (liv l s).isSome = true := by rw [liv_isSome]; exact h2.1
  obtain ⟨k, hk⟩ := Option.isSome_iff_exists.1 hs
  obtain ⟨hk1, hk2, _⟩ := liv_some hk
  have := hw.slot _ (List.getElem_mem hk1)
  rw [hk2] at this
  exact ⟨(s - 1).toNat, by omega, by omega, hg, (by rw [Ne, sloR_zero, h2.1]; simp), hf⟩
theorem srX_live {l : List (ThG α)} {M : Nat} (hw : Wf l M) (hl : Lt l) {s g : Int} (hB : fnB l s g = true) : srX l s g = (sloR l s : Int) := by
  obtain ⟨_, _, _, _, _, hf⟩ := live_at hw hl hB
  unfold srX sloR
  rw [hf]
  cases liv l s with
  | none => rfl
  | some k => simp
theorem srX_gone {l : List (ThG α)} {s g : Int} (hB : fnB l s g = false) : srX l s g = 0 := by
  unfold fnB at hB
  unfold srX
  cases h : fnd l s g with
  | none => rfl
  | some k => rw [h] at hB; cases hB
/-- the handle does not live: no slot, none there, or another generation -/
theorem gone_at {l : List (ThG α)} {M : Nat} (hw : Wf l M) (hl : Lt l) {s g : Int} (hB : fnB l s g = false) (hs : 0 ≤ s) : s = 0 ∨ (M : Int) < s ∨ ∃ i : Nat, i < M ∧ s = (i : Int) + 1 ∧ (sloR l s = 0 ∨ ¬ (gens l s : Int) = g) := by
  by_cases h0 : s = 0
  · exact Or.inl h0
  by_cases h1 : (M : Int) < s
  · exact Or.inr (Or.inl h1)
  refine Or.inr (Or.inr ⟨(s - 1).toNat, by omega, by omega, ?_⟩)
  have h := fnB_liv hw hl s g
  rw [hB] at h
  have h := Bool.and_eq_false_iff.1 h.symm
  rcases h with h | h
  · exact Or.inl (by rw [sloR_zero]; exact h)
  · exact Or.inr (by simpa using h)
end
theorem gtX_live {l : List Th} {M : Nat} (hw : Wf l M) (hl : Lt l) {s g : Int} (hB : fnB l s g = true) : gtX l s g = sloX 0 l s := by
  obtain ⟨_, _, _, _, _, hf⟩ := live_at hw hl hB
  unfold gtX sloX
  rw [hf]
  cases liv l s <;> rfl
theorem gtX_gone {l : List Th} {s g : Int} (hB : fnB l s g = false) : gtX l s g = 0 := by
  unfold fnB at hB
  unfold gtX
  cases h : fnd l s g with
  | none => rfl
  | some k => rw [h] at hB; cases hB

end Go.Proofs.Ytcogiklnegpfiaa
