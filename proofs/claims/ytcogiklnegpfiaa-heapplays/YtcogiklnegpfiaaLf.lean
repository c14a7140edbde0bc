/- Layer 13: what the collector leaves, on lists. -/
import Derived.Test.YtcogiklnegpfiaaGs
namespace Go.Proofs.Ytcogiklnegpfiaa
open Go.RowKit

theorem frd_lv {l : List Th} {M : Nat} (hw : Wf l M) (hl : Lt l) (s g : Int) (x : Hd) : lvH (frd l s g) x = true ↔ lvH l x = true ∧ x ≠ (s, g) := by
  cases hB : fnB l s g
  · have e : frd l s g = l := by
      unfold frd
      unfold fnB at hB
      cases hf : fnd l s g with
      | none => rfl
      | some i => rw [hf] at hB; cases hB
    rw [e]
    refine ⟨fun h => ⟨h, fun e => ?_⟩, fun h => h.1⟩
    subst e
    unfold lvH at h
    rw [hB] at h
    cases h
  · have hB2 := hB
    rw [fnB_liv hw hl, Bool.and_eq_true, decide_eq_true_eq] at hB2
    unfold lvH
    rw [fnB_liv (hw.frd s g) (hl.frd s g), fnB_liv hw hl, gens_frd]
    have hu : usd (frd l s g) x.1 = if s = x.1 then false else usd l x.1 := by
      rw [← liv_isSome, liv_frd hw hB]
      by_cases e : s = x.1
      · rw [if_pos e, if_pos e]; rfl
      · rw [if_neg e, if_neg e, liv_isSome]
    rw [hu]
    by_cases e : s = x.1
    · rw [if_pos e]
      simp only [Bool.false_and, Bool.false_eq_true, false_iff, Bool.and_eq_true, decide_eq_true_eq, not_and, ne_eq, Decidable.not_not]
      rintro ⟨h1, h2⟩
      exact Prod.ext e.symm (by rw [← h2, ← hB2.2, e])
    · rw [if_neg e]
      exact ⟨fun h => ⟨h, fun q => e (by rw [q])⟩, fun h => h.1⟩

theorem frees_wf {M : Nat} : ∀ (xs : List Hd) {l : List Th}, Wf l M → Lt l → Wf (frees l xs) M ∧ Lt (frees l xs)
  | [], _, h, k => ⟨h, k⟩
  | x :: xs, _, h, k => frees_wf xs (h.frd x.1 x.2) (k.frd x.1 x.2)
theorem frees_lv {M : Nat} : ∀ (xs : List Hd) {l : List Th}, Wf l M → Lt l → ∀ x, lvH (frees l xs) x = true ↔ lvH l x = true ∧ x ∉ xs
  | [], _, _, _, x => by simp [frees]
  | y :: xs, l, h, k, x => by
    have e : frees l (y :: xs) = frees (frd l y.1 y.2) xs := rfl
    rw [e, frees_lv xs (h.frd y.1 y.2) (k.frd y.1 y.2) x, frd_lv h k]
    simp only [List.mem_cons, not_or, and_assoc, ne_eq]
theorem frees_len : ∀ (xs : List Hd) (l : List Th), (frees l xs).length = l.length
  | [], _ => rfl
  | x :: xs, l => (frees_len xs _).trans (frd_len l x.1 x.2)
theorem frees_hnds : ∀ (xs : List Hd) (l : List Th), hnds (frees l xs) = hnds l
  | [], _ => rfl
  | x :: xs, l => (frees_hnds xs _).trans (hnds_frd l x.1 x.2)
theorem frd_two {l : List Th} (h : ∀ t ∈ l, t.x = 2) (s g : Int) : ∀ t ∈ frd l s g, t.x = 2 := by
  unfold frd
  cases hf : fnd l s g with
  | none => exact h
  | some i =>
    intro t ht
    show t.x = 2
    obtain ⟨j, hj, rfl⟩ := List.getElem_of_mem ht
    have hj' : j < l.length := by simpa [fre] using hj
    simp only [fre, List.getElem_modify]
    split <;> exact (show l[j].x = 2 from h _ (List.getElem_mem hj'))
theorem frees_two : ∀ (xs : List Hd) {l : List Th}, (∀ t ∈ l, t.x = 2) → ∀ t ∈ frees l xs, t.x = 2
  | [], _, h => h
  | x :: xs, _, h => frees_two xs (frd_two h x.1 x.2)
theorem gtX_two {l : List Th} (h : ∀ t ∈ l, t.x = 2) {x : Hd} (hx : lvH l x = true) : gtX l x.1 x.2 = 2 := by
  unfold lvH fnB at hx
  obtain ⟨i, hi⟩ := Option.isSome_iff_exists.1 hx
  unfold gtX
  rw [hi]
  obtain ⟨h1, _⟩ := fnd_some hi
  simp [List.getElem?_eq_getElem h1, h _ (List.getElem_mem h1)]

/-- all that is left, by rising slots -/
theorem allH_frees {l : List Th} {M : Nat} (hw : Wf l M) (hl : Lt l) (xs : List Hd) (R : List Hd) (hR : R.Pairwise fun a b => a.1 < b.1) (hm : ∀ x, x ∈ R ↔ lvH l x = true ∧ x ∉ xs) : allH (frees l xs) M = R :=
  up_one (allH_up _ _) hR fun x => by
    rw [allH_mem (frees_wf xs hw hl).1 (frees_wf xs hw hl).2, frees_lv xs hw hl, hm]

/-- what comes out of Reach and Collect -/
theorem reach_mem {l : List Th} {M : Nat} (hw : Wf l M) (hl : Lt l) {tl : Hd → List Hd} {rts A R : List Hd} (h : ∃ mt, MS (lvH l) tl rts (M + 1) mt [] A [] ∧ R = (allH l M).filter fun x => mg mt x.1) : R.Pairwise (fun a b => a.1 < b.1) ∧ ∀ x, x ∈ R ↔ Rc (lvH l) tl rts x := by
  obtain ⟨mt, hms, rfl⟩ := h
  refine ⟨(allH_up l M).filter _, fun x => ?_⟩
  rw [List.mem_filter, allH_mem hw hl]
  exact ⟨fun ⟨h1, h2⟩ => (hms.done h1).1 h2, fun h1 => ⟨h1.lives, (hms.done h1.lives).2 h1⟩⟩
theorem sweep_mem {l : List Th} {M : Nat} (hw : Wf l M) (hl : Lt l) {tl : Hd → List Hd} {rts A R : List Hd} (h : ∃ mt, MS (lvH l) tl rts (M + 1) mt [] A [] ∧ R = (allH l M).filter fun x => !mg mt x.1) : R.Pairwise (fun a b => a.1 < b.1) ∧ ∀ x, x ∈ R ↔ lvH l x = true ∧ ¬ Rc (lvH l) tl rts x := by
  obtain ⟨mt, hms, rfl⟩ := h
  refine ⟨(allH_up l M).filter _, fun x => ?_⟩
  rw [List.mem_filter, allH_mem hw hl]
  refine ⟨fun ⟨h1, h2⟩ => ⟨h1, fun hr => ?_⟩, fun ⟨h1, h2⟩ => ⟨h1, ?_⟩⟩
  · have := (hms.done h1).2 hr
    rw [this] at h2
    cases h2
  · cases e : mg mt x.1
    · rfl
    · exact absurd ((hms.done h1).1 e) h2
theorem Rc.mono {lv : Hd → Bool} {tl : Hd → List Hd} {r r' : List Hd} (hr : ∀ x, x ∈ r → x ∈ r') {x : Hd} (h : Rc lv tl r x) : Rc lv tl r' x := by
  induction h with
  | root h1 h2 => exact .root (hr _ h1) h2
  | step _ h2 h3 ih => exact .step ih h2 h3
/-- what can be come to can still be -/
theorem Rc.left {lv lv' : Hd → Bool} {tl : Hd → List Hd} {r : List Hd} (hv : ∀ x, Rc lv tl r x → lv' x = true) {x : Hd} (h : Rc lv tl r x) : Rc lv' tl r x := by
  induction h with
  | root h1 h2 => exact .root h1 (hv _ (.root h1 h2))
  | step h1 h2 h3 ih => exact .step ih h2 (hv _ (.step h1 h2 h3))

theorem amH_iff {hs : List Hd} {s g : Int} : (hs.any fun h => decide (h.1 = s) && decide (h.2 = g)) = true ↔ (s, g) ∈ hs := by
  rw [List.any_eq_true]
  constructor
  · rintro ⟨h, h1, h2⟩
    simp only [Bool.and_eq_true, decide_eq_true_eq] at h2
    obtain ⟨rfl, rfl⟩ := h2
    exact h1
  · intro h
    exact ⟨_, h, by simp⟩

/-- a new handle was never told -/
theorem new_apart {l : List Th} {M : Nat} (hw : Wf l M) : (tkS l M, tkG l M) ∉ hnds l ∨ tkB l M = false := by
  cases hB : tkB l M
  · exact .inr rfl
  · refine .inl fun h => ?_
    unfold hnds at h
    obtain ⟨t, ht, e⟩ := List.mem_map.1 h
    obtain ⟨i, hi, rfl⟩ := List.getElem_of_mem ht
    injection e with e1 e2
    have h1 := hw.gen_le hi
    unfold tkB at hB
    obtain ⟨s, hs⟩ := Option.isSome_iff_exists.1 hB
    unfold tkS at e1
    unfold tkG at e2
    rw [hs] at e1 e2
    simp only [Option.getD_some] at e1
    rw [e1] at h1
    simp only at e2
    omega
end Go.Proofs.Ytcogiklnegpfiaa
