/- Layer 13: all objects by rising slots, on lists. -/
import Derived.Test.YtcogiklnegpfiaaGn
import Derived.Test.YtcogiklnegpfiaaHs
namespace Go.Proofs.Ytcogiklnegpfiaa
open Go.RowKit Go.Shelf

/-- all objects, by rising slots -/
def allH (l : List Th) (M : Nat) : List Hd := ((List.range M).filter fun i : Nat => usd l ((i : Int) + 1)).map fun i : Nat => ((i : Int) + 1, (gens l ((i : Int) + 1) : Int))
/-- by their births -/
def bornH (l : List Th) : List Hd := (l.filter fun t => !t.d).map fun t => (t.s, t.g)

theorem allH_mem {l : List Th} {M : Nat} (hw : Wf l M) (hl : Lt l) (x : Hd) : x ∈ allH l M ↔ lvH l x = true := by
  unfold allH
  rw [List.mem_map]
  constructor
  · rintro ⟨i, hi, rfl⟩
    have := List.mem_filter.1 hi
    unfold lvH
    rw [fnB_liv hw hl]
    simp [this.2]
  · intro h
    obtain ⟨i, h1, h2, h3⟩ := lv_at hw hl h
    unfold lvH at h
    rw [fnB_liv hw hl, Bool.and_eq_true] at h
    rw [h2] at h h3
    exact ⟨i, List.mem_filter.2 ⟨List.mem_range.2 h1, h.1⟩, Prod.ext h2.symm h3⟩
theorem allH_up (l : List Th) (M : Nat) : (allH l M).Pairwise fun a b => a.1 < b.1 := by
  unfold allH
  rw [List.pairwise_map]
  exact (List.Pairwise.filter _ List.pairwise_lt_range).imp fun h => by simp; omega
theorem bornH_mem {l : List Th} {M : Nat} (hw : Wf l M) (x : Hd) : x ∈ bornH l ↔ lvH l x = true := by
  unfold bornH lvH
  rw [List.mem_map]
  constructor
  · rintro ⟨t, ht, rfl⟩
    obtain ⟨h1, h2⟩ := List.mem_filter.1 ht
    obtain ⟨i, hi, rfl⟩ := List.getElem_of_mem h1
    rw [hw.fnB hi]
    exact h2
  · intro h
    unfold fnB at h
    obtain ⟨i, hi⟩ := Option.isSome_iff_exists.1 h
    obtain ⟨h1, h2, h3, h4⟩ := fnd_some hi
    exact ⟨l[i], List.mem_filter.2 ⟨List.getElem_mem h1, by simp [h4]⟩, Prod.ext h2 h3⟩
theorem bornH_apart {l : List Th} {M : Nat} (hw : Wf l M) : (bornH l).Pairwise fun a b => a.1 ≠ b.1 := by
  unfold bornH
  rw [List.pairwise_map, List.pairwise_filter, List.pairwise_iff_getElem]
  intro i j hi hj hij h1 h2 e
  have := hw.one i j hi hj (by simpa using h1) (by simpa using h2) e
  omega
theorem bornH_len (l : List Th) : (bornH l).length = cnt l := by
  unfold bornH cnt
  rw [List.length_map, List.countP_eq_length_filter]

theorem up_one : ∀ {a b : List Hd}, a.Pairwise (fun a b => a.1 < b.1) → b.Pairwise (fun a b => a.1 < b.1) → (∀ x, x ∈ a ↔ x ∈ b) → a = b
  | [], [], _, _, _ => rfl
  | [], y :: b, _, _, h => absurd ((h y).2 (by simp)) (by simp)
  | x :: a, [], _, _, h => absurd ((h x).1 (by simp)) (by simp)
  | x :: a, y :: b, ha, hb, h => by
    rw [List.pairwise_cons] at ha hb
    have e : x = y := by
      rcases List.mem_cons.1 ((h x).1 (by simp)) with e | e
      · exact e
      · rcases List.mem_cons.1 ((h y).2 (by simp)) with e2 | e2
        · exact e2.symm
        · have h1 := hb.1 x e
          have h2 := ha.1 y e2
          omega
    subst e
    rw [up_one ha.2 hb.2 fun z => ⟨fun hz => ?_, fun hz => ?_⟩]
    · rcases List.mem_cons.1 ((h z).1 (by simp [hz])) with e | e
      · subst e
        exact absurd (ha.1 z hz) (by omega)
      · exact e
    · rcases List.mem_cons.1 ((h z).2 (by simp [hz])) with e | e
      · subst e
        exact absurd (hb.1 z hz) (by omega)
      · exact e

/-- a list that is sorted is the list by rising slots -/
theorem sorted_up {a b : List Hd} (hp : a.Perm b) (hb : b.Pairwise fun a b => a.1 ≠ b.1) (hs : ∀ i j (hi : i < a.length) (hj : j < a.length), i < j → a[i].1 ≤ a[j].1) : a.Pairwise fun a b => a.1 < b.1 := by
  have ha : a.Pairwise fun a b => a.1 ≠ b.1 := (hp.pairwise_iff (fun h e => h e.symm)).2 hb
  rw [List.pairwise_iff_getElem] at ha ⊢
  intro i j hi hj hij
  have h1 := ha i j hi hj hij
  have h2 := hs i j hi hj hij
  omega
theorem sorted_all {l : List Th} {M : Nat} (hw : Wf l M) (hl : Lt l) {d : List Hd} (hp : d.Perm (bornH l)) (hs : ∀ i j (hi : i < d.length) (hj : j < d.length), i < j → d[i].1 ≤ d[j].1) : d = allH l M :=
  up_one (sorted_up hp (bornH_apart hw) hs) (allH_up l M) fun x => by rw [hp.mem_iff, bornH_mem hw, allH_mem hw hl]
theorem allH_perm {l : List Th} {M : Nat} (hw : Wf l M) (hl : Lt l) : (allH l M).length = cnt l := by
  have h1 : (allH l M).Nodup := (allH_up l M).imp fun h e => by rw [e] at h; omega
  have h2 : (bornH l).Nodup := (bornH_apart hw).imp fun h e => h (by rw [e])
  rw [← bornH_len]
  exact ((List.perm_ext_iff_of_nodup h1 h2).2 fun x => by rw [allH_mem hw hl, bornH_mem hw]).length_eq

/-- operations in a list, in a round -/
theorem list_round {lp n : Nat} {P : Program} {ops : Array Oper} {Q : Exit → Act → World → Prop} (hQ : ¬ LetsOut Q) : ∀ (rest : List Oper) (a : Act) (w : World), noDefer rest.toArray = true → wpList P ops Q rest a w → wpListIn (Fence.wide.inRound lp) n P ops Q rest a w
  | [], _, _, _, h => h
  | o :: rest, a, w, hd, h => by
    unfold wpList at h
    unfold wpListIn
    have hd2 : noDefer rest.toArray = true := by
      unfold noDefer at hd ⊢
      simp only [List.all_toArray, List.all_cons, Bool.and_eq_true] at hd ⊢
      exact hd.2
    have hnd : ∀ c, o.op ≠ .defer c := fun c e => by
      unfold noDefer at hd
      simp [e] at hd
    split
    · rename_i hw
      rw [if_pos hw] at h
      rcases h with h | ⟨_, h⟩
      · refine ⟨fun _ _ => trivial, ?_⟩
        show o.uponIn _ n P a _ Q ((o.semAt (some lp) a.eval).run P w)
        rw [Oper.semAt_some lp a.eval o hnd]
        refine upon_in ?_
        exact (show o.wp P a w (wpListIn (Fence.wide.inRound lp) n P ops Q rest) Q from Oper.wp_mono (fun a' w' h' => list_round hQ rest a' w' hd2 h') h)
      · exact absurd h hQ
    · rename_i hw
      rw [if_neg hw] at h
      exact ⟨fun _ _ => trivial, list_round hQ rest _ _ hd2 h⟩

theorem region_plain {lp n id : Nat} {P : Program} {l : List Oper} {Q : Exit → Act → World → Prop} {a : Act} {w : World} (hd : noDefer l.toArray = true) (hQ : ¬ LetsOut Q) (h : wpList P l.toArray Q l a w) : (Code.region id l.toArray false).wpIn (Fence.wide.inRound lp) n P Q a w :=
  wpIn_region_lit (list_round hQ l a w hd h)
theorem wpIn_any {Fe : Fence} {n : Nat} {P : Program} {c : Code} {Q : Exit → Act → World → Prop} {a : Act} {w : World} (h : c.wpIn Fe n P (Exit.then (fun a w => Q .normal a w) (fun _ _ _ => False)) a w) : c.wpIn Fe n P Q a w :=
  wpIn_mono h (fun e a w h => by cases e <;> first | exact h | exact (h : False).elim)

end Go.Proofs.Ytcogiklnegpfiaa
