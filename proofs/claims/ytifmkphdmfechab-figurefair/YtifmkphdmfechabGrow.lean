/- A list of floats that is appended to. -/
import Derived.Test.YtifmkphdmfechabLists
namespace Go.Proofs.Ytifmkphdmfechab
open Go.RowKit

/-- a list that is appended to: k elements so far, in blocks from B on -/
def Grow (w : World) (B : Nat) (v : Value) (k : Nat) (p : Nat → Nat → Prop) : Prop :=
  ∃ ys : Nat → Nat, (∀ i, i < k → p i (ys i)) ∧ w.ownsRow B 22 1 v k ((List.range k).map fun i => .float .f64 (ys i))

theorem Grow.step {w : World} {B k r : Nat} {v : Value} {p : Nat → Nat → Prop} {ys : Nat → Nat} (hp : ∀ i, i < k → p i (ys i)) (hr : p k r)
    (h : w.ownsRow B 22 1 v (k + 1) (((List.range k).map fun i => .float .f64 (ys i)) ++ [.float .f64 r])) : Grow w B v (k + 1) p := by
  refine ⟨fun i => if i = k then r else ys i, fun i hi => ?_, ?_⟩
  · by_cases e : i = k
    · subst e; simp only [if_true]; exact hr
    · simp only [if_neg e]; exact hp i (by omega)
  · have e : ((List.range (k + 1)).map fun i => Value.float .f64 (if i = k then r else ys i)) = ((List.range k).map fun i => Value.float .f64 (ys i)) ++ [.float .f64 r] := by
      rw [List.range_succ, List.map_append]
      congr 1
      · apply List.map_congr_left
        intro i hi
        have := List.mem_range.1 hi
        rw [if_neg (by omega)]
      · simp
    rw [e]
    exact h

theorem Grow.row {w : World} {B n : Nat} {v : Value} {p : Nat → Nat → Prop} (h : Grow w B v n p) :
    ∃ a cap ys, v = .slice a n cap ∧ Row w a n ys ∧ (∀ i, i < n → p i (ys i)) ∧ ∀ b off, a = some ⟨b, off, none⟩ → B ≤ b := by
  obtain ⟨ys, hp, hlen, h⟩ := h
  rcases h with ⟨rfl, rfl⟩ | ⟨g, cap, cur, rfl, hB, hg, hn, hm, hsz, ht⟩
  · exact ⟨none, 0, ys, rfl, Or.inl rfl, hp, fun b off e => by cases e⟩
  · refine ⟨some ⟨g, 0, none⟩, cap, ys, rfl, Or.inr ⟨g, 0, rfl, (Array.getElem?_eq_some_iff.1 hg).1, fun i hi => ?_⟩, hp, fun b off e => by cases e; exact hB⟩
    have hc : cur.toList[i]? = some (.float .f64 (ys i)) := by
      have h1 : (cur.toList.take (n * 1))[i]? = some (.float .f64 (ys i)) := by
        rw [ht, List.getElem?_map, List.getElem?_range hi]; rfl
      rw [List.getElem?_take] at h1
      simpa [hi] using h1
    rw [Nat.zero_add]
    simp only [World.cell?, hg]
    simpa using hc

theorem own_block {w : World} {B n : Nat} {e : TypeId} {v : Value} {xs : List Value} (h : w.ownsRow B e 1 v n xs) : ∀ k, v.ownBlock = some k → B ≤ k := by
  rcases h with ⟨_, ⟨rfl, rfl⟩ | ⟨g, cap, cur, rfl, hB, _⟩⟩
  · intro k hk; cases hk
  · intro k hk; cases hk; exact hB

theorem one_new (w : World) (v : Value) (t : TypeId) : ∀ (j : Nat) (u : Value), [v][j]? = some u → (w.alloc (.cells #[v] t)).cell? ((⟨w.heap.size, 0, none⟩ : Addr).add j) = some u := by
  intro j u hj
  match j, hj with
  | 0, hj => simp at hj; subst hj; simp [Addr.add]

theorem below_alloc_own {w wr : World} (h : Below w.heap.size w wr) (o : Obj) : Below w.heap.size w (wr.alloc o) := h.alloc h.size o

theorem own_drewN {w : World} {B n : Nat} {e : TypeId} {v : Value} {xs : List Value} (h : w.ownsRow B e 1 v n xs) (m : Nat) : (w.drewN m).ownsRow B e 1 v n xs := h

theorem below_dn {B : Nat} {a w : World} (h : Below B a w) (n : Nat) : Below B a (w.drewN n) := ⟨h.os, h.tape, h.output, h.size, h.block⟩

end Go.Proofs.Ytifmkphdmfechab
