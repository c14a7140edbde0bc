/- Layer 11: no handle comes twice, on lists alone. -/
import Derived.Test.YthnnpipekeanoaaWj
import Derived.Test.YthnnpipekeanoaaSa
namespace Go.Proofs.Ythnnpipekeanoaa
open Go.RowKit

/-- no two of all waits that were put have one handle -/
structure Apt (l : List Wt) : Prop where
  gen : ∀ t ∈ l, t.r.mg ≤ (genW l t.r.ms : Int)
  two : l.Pairwise fun t u => ¬ (t.r.ms = u.r.ms ∧ t.r.mg = u.r.mg)

theorem Apt.nil : Apt [] := ⟨fun t ht => (by cases ht), List.Pairwise.nil⟩
theorem Apt.put {l : List Wt} (h : Apt l) (rs rg rd ws wg ar vn vs vg : Int) : Apt (putW l rs rg rd ws wg ar vn vs vg) := by
  unfold putW
  split
  · refine ⟨fun t ht => ?_, ?_⟩
    · rw [genW_snoc]
      rcases List.mem_append.1 ht with ht | ht
      · have := h.gen t ht
        split <;> omega
      · rw [List.mem_singleton.1 ht]
        simp only [if_true]
        omega
    · rw [List.pairwise_append]
      refine ⟨h.two, by simp, fun t ht u hu e => ?_⟩
      rw [List.mem_singleton.1 hu] at e
      have := h.gen t ht
      simp only at e
      rw [e.1] at this
      omega
  · exact h
/-- the same records, over or not -/
theorem Apt.same {l l' : List Wt} (h : Apt l) (hr : l'.map Wt.r = l.map Wt.r) : Apt l' := by
  have hg : ∀ s, genW l' s = genW l s := fun s => by
    have e : ∀ k : List Wt, genW k s = (k.map Wt.r).countP (fun r => decide (r.ms = s)) := fun k => by
      unfold genW
      rw [List.countP_map]
      rfl
    rw [e, e, hr]
  refine ⟨fun t ht => ?_, ?_⟩
  · rw [hg]
    have : t.r ∈ l.map Wt.r := by rw [← hr]; exact List.mem_map_of_mem ht
    obtain ⟨u, hu, e⟩ := List.mem_map.1 this
    rw [← e]
    exact h.gen u hu
  · have h2 : (l.map Wt.r).Pairwise fun r q => ¬ (r.ms = q.ms ∧ r.mg = q.mg) := by rw [List.pairwise_map]; exact h.two
    rw [← hr, List.pairwise_map] at h2
    exact h2
theorem cutW_r (l : List Wt) (s g : Int) : (cutW l s g).map Wt.r = l.map Wt.r := by
  unfold cutW
  split
  · rfl
  · refine List.ext_getElem (by simp) fun i h1 h2 => ?_
    simp only [List.getElem_map, List.getElem_modify]
    split <;> rfl
theorem leaW_r (l : List Wt) (s g : Int) : (leaW l s g).map Wt.r = l.map Wt.r := by
  unfold leaW
  rw [List.map_map]
  refine List.map_congr_left fun t _ => ?_
  show (if isWho s g t then over t else t).r = t.r
  split <;> rfl
/-- the k-th's handle is found just if it is not over -/
theorem Apt.found {l : List Wt} (h : Apt l) {k : Nat} (hk : k < l.length) : fndW l l[k].r.ms l[k].r.mg = if l[k].o then none else some k := by
  cases ho : l[k].o with
  | true =>
    show fndW _ _ _ = none
    unfold fndW
    rw [List.findIdx?_eq_none_iff]
    intro t ht
    obtain ⟨i, hi, e⟩ := List.mem_iff_getElem.1 ht
    subst e
    by_cases hik : i = k
    · subst hik
      simp [isMe, ho]
    · have hne : ¬ (l[i].r.ms = l[k].r.ms ∧ l[i].r.mg = l[k].r.mg) := by
        rcases Nat.lt_or_gt_of_ne hik with hlt | hgt
        · exact (List.pairwise_iff_getElem.1 h.two) i k hi hk hlt
        · intro e
          exact (List.pairwise_iff_getElem.1 h.two) k i hk hi hgt ⟨e.1.symm, e.2.symm⟩
      unfold isMe
      simp only [Bool.and_eq_false_iff, decide_eq_false_iff_not]
      right
      by_cases h1 : l[i].r.ms = l[k].r.ms
      · exact Or.inr fun h2 => hne ⟨h1, h2⟩
      · exact Or.inl h1
  | false =>
    show fndW _ _ _ = some k
    unfold fndW
    rw [List.findIdx?_eq_some_iff_getElem]
    refine ⟨hk, by simp [isMe, ho], fun j hj => ?_⟩
    have hne := (List.pairwise_iff_getElem.1 h.two) j k (by omega) hk hj
    unfold isMe
    intro hx
    simp only [Bool.and_eq_true, decide_eq_true_eq] at hx
    exact hne hx.2

/-- among those that are asked for it stands once, or not at all -/
theorem Apt.has {l : List Wt} (h : Apt l) {k : Nat} (hk : k < l.length) (q : Wt → Bool) : hasW (sel q l) l[k].r.ms l[k].r.mg = if q l[k] then 1 else 0 := by
  unfold hasW sel
  rw [List.countP_map, List.countP_filter]
  have hs : l = l.take k ++ l[k] :: l.drop (k + 1) := by rw [List.getElem_cons_drop, List.take_append_drop]
  obtain ⟨z, hz⟩ : ∃ z, l[k] = z := ⟨_, rfl⟩
  have hA : ∀ t ∈ l.take k, meR z.r.ms z.r.mg t.r = false := fun t ht => by
    obtain ⟨i, hi, e⟩ := List.mem_take_iff_getElem.1 ht
    have hne := (List.pairwise_iff_getElem.1 h.two) i k (by omega) hk (by omega)
    rw [hz] at hne
    subst e
    unfold meR
    simp only [Bool.and_eq_false_iff, decide_eq_false_iff_not]
    by_cases h1 : l[i].r.ms = z.r.ms
    · exact Or.inr fun h2 => hne ⟨h1, h2⟩
    · exact Or.inl h1
  have hD : ∀ t ∈ l.drop (k + 1), meR z.r.ms z.r.mg t.r = false := fun t ht => by
    obtain ⟨i, hi, e⟩ := List.mem_iff_getElem.1 ht
    rw [List.getElem_drop] at e
    have hlen : k + 1 + i < l.length := by rw [List.length_drop] at hi; omega
    have hne := (List.pairwise_iff_getElem.1 h.two) k (k + 1 + i) hk hlen (by omega)
    rw [hz] at hne
    subst e
    unfold meR
    simp only [Bool.and_eq_false_iff, decide_eq_false_iff_not]
    by_cases h1 : l[k + 1 + i].r.ms = z.r.ms
    · exact Or.inr fun h2 => hne ⟨h1.symm, h2.symm⟩
    · exact Or.inl h1
  rw [hz] at hs ⊢
  rw [hs, List.countP_append, List.countP_cons, List.countP_eq_zero.2 (fun t ht => by simp [hA t ht]), List.countP_eq_zero.2 (fun t ht => by simp [hD t ht])]
  have : meR z.r.ms z.r.mg z.r = true := by simp [meR]
  cases q z <;> simp [this]
/-- a new handle stands nowhere -/
theorem Apt.fresh {l : List Wt} (h : Apt l) : hasW (l.map Wt.r) (slW l) ((genW l (slW l : Int) : Int) + 1) = 0 := by
  unfold hasW
  rw [List.countP_map, List.countP_eq_zero]
  intro t ht
  have := h.gen t ht
  simp only [Function.comp, meR, Bool.and_eq_true, decide_eq_true_eq]
  rintro ⟨h1, h2⟩
  rw [h1] at this
  omega

end Go.Proofs.Ythnnpipekeanoaa
