/- Layer 10: what lives, by slots and as it was taken: on lists alone. -/
import Derived.Test.YtcogiklnegpfiaaHa
import Derived.Sort.Statements
namespace Go.Proofs.Ytcogiklnegpfiaa
open Go.RowKit

/-- a thing as a range goes over it: its slot, its generation, its serial -/
structure En (α : Type) where
  s : Nat
  g : Nat
  r : Nat
  x : α
instance {α : Type} [Inhabited α] : Inhabited (En α) := ⟨⟨0, 0, 0, default⟩⟩

section
variable {α : Type}
abbrev ent (z : α) (l : List (ThG α)) (i : Nat) : En α := ⟨i + 1, gens l ((i : Int) + 1), sloR l ((i : Int) + 1), sloX z l ((i : Int) + 1)⟩
/-- by slots -/
def ents (z : α) (l : List (ThG α)) (n : Nat) : List (En α) := ((List.range n).filter fun i : Nat => usd l ((i : Int) + 1)).map (ent z l)
theorem ents_succ (z : α) (l : List (ThG α)) (n : Nat) : ents z l (n + 1) = if usd l ((n : Int) + 1) then ents z l n ++ [ent z l n] else ents z l n := by
  unfold ents
  rw [List.range_succ, List.filter_append, List.map_append]
  cases h : usd l ((n : Int) + 1) <;> simp [h]
theorem ents_le (z : α) (l : List (ThG α)) (n : Nat) : (ents z l n).length ≤ n := by
  unfold ents
  rw [List.length_map]
  exact Nat.le_trans (List.length_filter_le _ _) (by simp)
/-- as it was taken -/
def toldF : List (ThG α) → Nat → List (En α)
  | [], _ => []
  | t :: l, k => if t.d then toldF l (k + 1) else ⟨t.s.toNat, t.g.toNat, k + 1, t.x⟩ :: toldF l (k + 1)
theorem toldF_mem {l : List (ThG α)} {k : Nat} {e : En α} : e ∈ toldF l k ↔ ∃ j, ∃ h : j < l.length, l[j].d = false ∧ e = ⟨l[j].s.toNat, l[j].g.toNat, k + j + 1, l[j].x⟩ := by
  induction l generalizing k with
  | nil => simp [toldF]
  | cons t l ih =>
    have step : (e ∈ toldF (t :: l) k) ↔ ((t.d = false ∧ e = ⟨t.s.toNat, t.g.toNat, k + 1, t.x⟩) ∨ e ∈ toldF l (k + 1)) := by
      show (e ∈ if t.d = true then toldF l (k + 1) else ⟨t.s.toNat, t.g.toNat, k + 1, t.x⟩ :: toldF l (k + 1)) ↔ _
      cases t.d <;> simp
    rw [step, ih]
    constructor
    · rintro (⟨h1, h2⟩ | ⟨j, hj, h1, h2⟩)
      · exact ⟨0, by simp, h1, h2⟩
      · exact ⟨j + 1, by simpa using hj, by simpa using h1, by rw [h2, show k + 1 + j + 1 = k + (j + 1) + 1 by omega]; simp⟩
    · rintro ⟨j, hj, h1, h2⟩
      cases j with
      | zero => exact Or.inl ⟨h1, h2⟩
      | succ j => exact Or.inr ⟨j, by simpa using hj, by simpa using h1, by rw [h2, show k + 1 + j + 1 = k + (j + 1) + 1 by omega]; simp⟩
theorem toldF_up (l : List (ThG α)) (k : Nat) : (toldF l k).Pairwise fun a b => a.r < b.r := by
  induction l generalizing k with
  | nil => exact List.Pairwise.nil
  | cons t l ih =>
    unfold toldF
    split
    · exact ih _
    · refine List.pairwise_cons.2 ⟨fun e he => ?_, ih _⟩
      obtain ⟨j, _, _, rfl⟩ := toldF_mem.1 he
      show k + 1 < k + 1 + j + 1
      omega
/-- two rising lists of the same things are one -/
theorem up_ext : ∀ {a b : List (En α)}, a.Pairwise (fun a b => a.r < b.r) → b.Pairwise (fun a b => a.r < b.r) → (∀ x, x ∈ a ↔ x ∈ b) → a = b
  | [], [], _, _, _ => rfl
  | [], y :: b, _, _, h => absurd ((h y).2 (by simp)) (by simp)
  | x :: a, [], _, _, h => absurd ((h x).1 (by simp)) (by simp)
  | x :: a, y :: b, h1, h2, h => by
    obtain ⟨p1, p2⟩ := List.pairwise_cons.1 h1
    obtain ⟨q1, q2⟩ := List.pairwise_cons.1 h2
    have e : x = y := by
      rcases List.mem_cons.1 ((h x).1 (by simp)) with e | e
      · exact e
      rcases List.mem_cons.1 ((h y).2 (by simp)) with e' | e'
      · exact e'.symm
      have := q1 x e
      have := p1 y e'
      omega
    subst e
    have hn : ∀ z, z ∈ a ↔ z ∈ b := by
      intro z
      constructor
      · intro hz
        rcases List.mem_cons.1 ((h z).1 (List.mem_cons_of_mem _ hz)) with e | e
        · subst e
          have := p1 z hz
          omega
        · exact e
      · intro hz
        rcases List.mem_cons.1 ((h z).2 (List.mem_cons_of_mem _ hz)) with e | e
        · subst e
          have := q1 z hz
          omega
        · exact e
    rw [up_ext p2 q2 hn]
theorem ents_mem (z : α) {l : List (ThG α)} {M : Nat} (hw : Wf l M) (hl : Lt l) (e : En α) : e ∈ ents z l M ↔ e ∈ toldF l 0 := by
  have at_ : ∀ j (hj : j < l.length), l[j].d = false → ∃ i : Nat, i < M ∧ l[j].s = (i : Int) + 1 ∧ ent z l i = ⟨l[j].s.toNat, l[j].g.toNat, 0 + j + 1, l[j].x⟩ ∧ usd l ((i : Int) + 1) = true := by
    intro j hj hd
    have hs := hw.slot _ (List.getElem_mem hj)
    obtain ⟨i, hi⟩ : ∃ i : Nat, l[j].s = (i : Int) + 1 := ⟨(l[j].s - 1).toNat, by omega⟩
    have hv := liv_of hw hj hd
    have hg := last_gen hw hl hj hd
    rw [hi] at hv hg
    refine ⟨i, by omega, hi, ?_, by rw [← liv_isSome, hv]; rfl⟩
    unfold ent sloR sloX
    rw [hv, hi, hg]
    simp only [List.getElem?_eq_getElem hj, Option.map_some, Option.getD_some, Nat.zero_add]
    congr 1
  unfold ents
  rw [List.mem_map, toldF_mem]
  constructor
  · rintro ⟨i, hi, rfl⟩
    rw [List.mem_filter, List.mem_range] at hi
    obtain ⟨k, hk⟩ := Option.isSome_iff_exists.1 ((liv_isSome l ((i : Int) + 1)).trans hi.2)
    obtain ⟨h1, h2, h3⟩ := liv_some hk
    obtain ⟨i', _, e1, e2, _⟩ := at_ k h1 h3
    have : i' = i := by omega
    subst this
    exact ⟨k, h1, h3, e2⟩
  · rintro ⟨j, hj, hd, rfl⟩
    obtain ⟨i, hi, _, e, hu⟩ := at_ j hj hd
    exact ⟨i, List.mem_filter.2 ⟨List.mem_range.2 hi, hu⟩, e⟩
theorem ents_apart (z : α) (l : List (ThG α)) (n : Nat) : (ents z l n).Pairwise fun a b => a.r ≠ b.r := by
  unfold ents
  rw [List.pairwise_map]
  refine List.Pairwise.imp_of_mem ?_ (List.Pairwise.filter _ (List.pairwise_lt_range (n := n)))
  intro i j hi hj hlt e
  rw [List.mem_filter] at hi hj
  obtain ⟨a, ha⟩ := Option.isSome_iff_exists.1 ((liv_isSome l ((i : Int) + 1)).trans hi.2)
  obtain ⟨b, hb⟩ := Option.isSome_iff_exists.1 ((liv_isSome l ((j : Int) + 1)).trans hj.2)
  simp only [sloR, ha, hb] at e
  obtain ⟨_, h1, _⟩ := liv_some ha
  obtain ⟨_, h2, _⟩ := liv_some hb
  have : a = b := by omega
  subst this
  rw [h1] at h2
  omega
/-- sorted by serials it is as it was taken -/
theorem sorted_told (z : α) {l : List (ThG α)} {M : Nat} (hw : Wf l M) (hl : Lt l) {d : List (En α)} (hp : d.Perm (ents z l M)) (hs : ∀ i j (hi : i < d.length) (hj : j < d.length), i < j → d[i].r ≤ d[j].r) : d = toldF l 0 := by
  refine up_ext ?_ (toldF_up l 0) fun x => (hp.mem_iff).trans (ents_mem z hw hl x)
  have ha := (hp.pairwise_iff (R := fun a b : En α => a.r ≠ b.r) (fun h e => h e.symm)).2 (ents_apart z l M)
  rw [List.pairwise_iff_getElem] at ha ⊢
  intro i j hi hj hij
  have := hs i j hi hj hij
  have := ha i j hi hj hij
  omega
theorem told_len (z : α) {l : List (ThG α)} {M : Nat} {d : List (En α)} (hp : d.Perm (ents z l M)) (he : d = toldF l 0) : (toldF l 0).length ≤ M := by
  rw [← he, hp.length_eq]
  exact ents_le z l M
/-- as a range tells it -/
theorem told_map {β : Type} {l : List (ThG α)} {M : Nat} (hw : Wf l M) (f : Int → Int → α → β) : (toldF l 0).map (fun e => f (e.s : Int) (e.g : Int) e.x) = (l.filter fun t => !t.d).map fun t => f t.s t.g t.x := by
  have key : ∀ (l : List (ThG α)) (k : Nat), (∀ t ∈ l, 0 ≤ t.s ∧ 0 ≤ t.g) → (toldF l k).map (fun e => f (e.s : Int) (e.g : Int) e.x) = (l.filter fun t => !t.d).map fun t => f t.s t.g t.x := by
    intro l
    induction l with
    | nil => intro k _; rfl
    | cons t l ih =>
      intro k h
      have ih' := ih (k + 1) fun u hu => h u (List.mem_cons_of_mem _ hu)
      obtain ⟨h1, h2⟩ := h t (by simp)
      unfold toldF
      cases hd : t.d
      · simp only [hd, Bool.false_eq_true, if_false, List.map_cons, List.filter_cons, Bool.not_false, if_true, ih', Int.toNat_of_nonneg h1, Int.toNat_of_nonneg h2]
      · simp only [hd, if_true, List.filter_cons, Bool.not_true, Bool.false_eq_true, if_false, ih']
  refine key l 0 fun t ht => ?_
  obtain ⟨j, hj, rfl⟩ := List.getElem_of_mem ht
  have h1 := hw.slot _ ht
  have h2 := hw.gen_pos hj
  exact ⟨by omega, by omega⟩
end

end Go.Proofs.Ytcogiklnegpfiaa
