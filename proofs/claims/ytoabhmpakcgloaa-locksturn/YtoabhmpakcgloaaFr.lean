/- Frames: all but some blocks stay; rows that are appended to and written into. -/
import Derived.Test.YtoabhmpakcgloaaBase
import Derived.Maps.AppendAt
import Derived.OwnWalk
import Derived.Lib.Builder
namespace Go.Proofs.Ytoabhmpakcgloaa
open Go.RowKit

theorem below1 (w : World) (o : Obj) : Below w.heap.size w (w.alloc o) := (Below.refl _ _).alloc (Nat.le_refl _) _
theorem below_dr (N : Nat) (w : World) (n : Nat) : Below N w (w.drewN n) := ⟨rfl, rfl, rfl, Nat.le_refl _, fun _ _ => rfl⟩
theorem heap_new (w : World) (o : Obj) : (w.alloc o).heap[w.heap.size]? = some o := (MapKept.heap_alloc w _).1
theorem size_set (w : World) (p : Addr) (v : Value) : (w.setCell p v).heap.size = w.heap.size := by simp [World.setCell]

theorem heap_set {w : World} {b : Nat} {cs : Array Value} {T : TypeId} {r : Nat × Nat} (h : w.heap[b]? = some (.cells cs T r)) (i : Nat) (v : Value) : (w.setCell ⟨b, i, none⟩ v).heap[b]? = some (.cells (cs.setIfInBounds i v) T r) := by
  simp [World.setCell, Array.getElem?_modify, h]

/-- all but the blocks of Q stay -/
structure Ch (Q : Nat → Prop) (w w' : World) : Prop where
  os : w'.os = w.os
  tape : w'.tape = w.tape
  output : w'.output = w.output
  size : w.heap.size ≤ w'.heap.size
  blk : ∀ b, b < w.heap.size → ¬ Q b → w'.heap[b]? = w.heap[b]?

theorem Ch.refl (Q : Nat → Prop) (w : World) : Ch Q w w := ⟨rfl, rfl, rfl, Nat.le_refl _, fun _ _ _ => rfl⟩
theorem Ch.trans {Q Q' : Nat → Prop} {a b c : World} (h : Ch Q a b) (k : Ch Q' b c) (hq : ∀ x, x < a.heap.size → Q' x → Q x) : Ch Q a c :=
  ⟨k.os.trans h.os, k.tape.trans h.tape, k.output.trans h.output, Nat.le_trans h.size k.size, fun x hx hn => (k.blk x (Nat.lt_of_lt_of_le hx h.size) fun h' => hn (hq x hx h')).trans (h.blk x hx hn)⟩
theorem Ch.mono {Q Q' : Nat → Prop} {a b : World} (h : Ch Q a b) (hq : ∀ x, x < a.heap.size → Q x → Q' x) : Ch Q' a b := ⟨h.os, h.tape, h.output, h.size, fun x hx hn => h.blk x hx fun h' => hn (hq x hx h')⟩
theorem Ch.of_below {Q : Nat → Prop} {w w' : World} (h : Below w.heap.size w w') : Ch Q w w' := ⟨h.os, h.tape, h.output, h.size, fun b hb _ => h.block b hb⟩
theorem Ch.of_grown {Q : Nat → Prop} {w w' : World} {row : Option Nat} (h : w.grownBy w' row) (hq : ∀ k, row = some k → Q k) : Ch Q w w' := ⟨h.os, h.tape, h.output, h.size, fun b hb hn => h.block b hb fun e => hn (hq b e.symm)⟩
theorem Ch.alloc {Q : Nat → Prop} (w : World) (o : Obj) : Ch Q w (w.alloc o) := Ch.of_below (below1 w o)
theorem Ch.set {Q : Nat → Prop} (w : World) {C : Nat} (hC : Q C) (i : Nat) (v : Value) : Ch Q w (w.setCell ⟨C, i, none⟩ v) :=
  ⟨rfl, rfl, rfl, by simp [World.setCell], fun b _ hn => Below.heap_setCell _ _ _ _ (fun e => hn (by rw [e]; exact hC))⟩
theorem Ch.drewN {Q : Nat → Prop} (w : World) (m : Nat) : Ch Q w (w.drewN m) := ⟨rfl, rfl, rfl, Nat.le_refl _, fun _ _ _ => rfl⟩
theorem Ch.drew {Q : Nat → Prop} (w : World) : Ch Q w w.drew := ⟨rfl, rfl, rfl, Nat.le_refl _, fun _ _ _ => rfl⟩
theorem Ch.below {Q : Nat → Prop} {w w' : World} (h : Ch Q w w') {N : Nat} (hN : N ≤ w.heap.size) (hq : ∀ b, b < N → ¬ Q b) : Below N w w' := ⟨h.os, h.tape, h.output, h.size, fun b hb => h.blk b (Nat.lt_of_lt_of_le hb hN) (hq b hb)⟩
theorem Ch.cell {Q : Nat → Prop} {w w' : World} (h : Ch Q w w') {b : Nat} (hb : b < w.heap.size) (hn : ¬ Q b) (o : Nat) : w'.cell? ⟨b, o, none⟩ = w.cell? ⟨b, o, none⟩ := World.cell?_of_block (w := w) (h.blk b hb hn)
theorem Ch.box {Q : Nat → Prop} {w w' : World} (h : Ch Q w w') {b : Nat} {o : Obj} (hb : w.heap[b]? = some o) (hn : ¬ Q b) : w'.heap[b]? = some o := (h.blk b (Array.getElem?_eq_some_iff.1 hb).1 hn).trans hb

/-! ### Rows -/

theorem own_same {w w' : World} {B k n : Nat} {e : TypeId} {v : Value} {xs : List Value} (h : w.ownsRow B e k v n xs) (hs : ∀ g, v.ownBlock = some g → w'.heap[g]? = w.heap[g]?) : w'.ownsRow B e k v n xs := by
  obtain ⟨h1, h2⟩ := h
  refine ⟨h1, ?_⟩
  rcases h2 with h2 | ⟨g, cap, cur, rfl, hB, hg, hr⟩
  · exact Or.inl h2
  · exact Or.inr ⟨g, cap, cur, rfl, hB, (hs g rfl).trans hg, hr⟩
theorem own_in {w : World} {B k n : Nat} {e : TypeId} {v : Value} {xs : List Value} (h : w.ownsRow B e k v n xs) {g : Nat} (hg : v.ownBlock = some g) : B ≤ g ∧ g < w.heap.size ∧ ∃ cur, w.heap[g]? = some (.cells cur e (0, 0)) := by
  obtain ⟨h1, h2⟩ := h
  rcases h2 with ⟨rfl, _⟩ | ⟨g', cap, cur, rfl, hB, hg', hr⟩
  · cases hg
  · cases hg
    exact ⟨hB, (Array.getElem?_eq_some_iff.1 hg').1, cur, hg'⟩
theorem own_ch {Q : Nat → Prop} {w w' : World} {B k n : Nat} {e : TypeId} {v : Value} {xs : List Value} (h : w.ownsRow B e k v n xs) (hc : Ch Q w w') (hq : ∀ g, v.ownBlock = some g → ¬ Q g) : w'.ownsRow B e k v n xs :=
  own_same h fun g hg => hc.blk g (own_in h hg).2.1 (hq g hg)
/-- a row of another kind lies in another block -/
theorem own_ne {w : World} {B B' k k' n n' : Nat} {e e' : TypeId} {v v' : Value} {xs xs' : List Value} (h : w.ownsRow B e k v n xs) (h' : w.ownsRow B' e' k' v' n' xs') (hne : e ≠ e') (g : Nat) (hg : v.ownBlock = some g) : ¬ v'.ownBlock = some g := fun hg' => by
  obtain ⟨_, _, c, h1⟩ := own_in h hg
  obtain ⟨_, _, c', h2⟩ := own_in h' hg'
  rw [h1] at h2
  injection h2 with h2
  injection h2 with _ h2 _
  exact hne h2
theorem own_box {w : World} {B k n b : Nat} {e e' : TypeId} {v : Value} {xs : List Value} {cs : Array Value} {r : Nat × Nat} (h : w.ownsRow B e k v n xs) (hb : w.heap[b]? = some (.cells cs e' r)) (hne : e ≠ e') : ¬ v.ownBlock = some b := fun hg => by
  obtain ⟨_, _, c, h1⟩ := own_in h hg
  rw [h1] at hb
  injection hb with hb
  injection hb with _ hb _
  exact hne hb
theorem own_form {w : World} {B k n : Nat} {e : TypeId} {v : Value} {xs : List Value} (h : w.ownsRow B e k v n xs) : ∃ a m c, v = .slice a m c := by
  obtain ⟨-, h | ⟨g, cap, cur, h, -⟩⟩ := h
  · exact ⟨_, _, _, h.1⟩
  · exact ⟨_, _, _, h⟩
theorem own_len {w : World} {B k n : Nat} {e : TypeId} {v : Value} {xs : List Value} (h : w.ownsRow B e k v n xs) : n ≤ maxLen := by
  obtain ⟨-, ⟨_, h⟩ | ⟨g, cap, cur, h, _, _, h1, h2, _⟩⟩ := h
  · omega
  · omega

theorem flat_get {α : Type} (f : α → List Value) (K : Nat) (hK : ∀ x, (f x).length = K) : ∀ (l : List α) (i j : Nat) (h : i < l.length), j < K → (l.flatMap f)[i * K + j]? = (f l[i])[j]?
  | x :: l, 0, j, _, hj => by
    rw [List.flatMap_cons, Nat.zero_mul, Nat.zero_add, List.getElem?_append_left (by rw [hK]; exact hj)]
    rfl
  | x :: l, i + 1, j, h, hj => by
    rw [List.flatMap_cons, List.getElem?_append_right (by rw [hK, Nat.add_mul]; omega), hK, show (i + 1) * K + j - K = i * K + j by rw [Nat.add_mul]; omega, flat_get f K hK l i j (by simpa using h) hj]
    rfl

/-- a row of things of K cells each, in a block of its own from B on -/
def Row {α : Type} (f : α → List Value) (K : Nat) (e : TypeId) (w : World) (B : Nat) (v : Value) (l : List α) : Prop := w.ownsRow B e K v l.length (l.flatMap f)

section
variable {α : Type} {f : α → List Value} {K : Nat} {e : TypeId} {w : World} {B : Nat} {v : Value} {l : List α}

/-- the row's value, and its cells -/
theorem Row.form (h : Row f K e w B v l) : ∃ a c, v = .slice a l.length c ∧ l.length ≤ c ∧ l.length ≤ maxLen := by
  obtain ⟨-, ⟨h, h0⟩ | ⟨g, cap, cur, h, _, _, h1, h2, _⟩⟩ := h
  · exact ⟨none, 0, by rw [h, h0], by omega, by omega⟩
  · exact ⟨_, cap, h, h1, by omega⟩
theorem Row.at (h : Row f K e w B v l) (hK : ∀ x, (f x).length = K) (h0 : 0 < l.length) : ∃ g c cur, v = .slice (some ⟨g, 0, none⟩) l.length c ∧ l.length ≤ c ∧ B ≤ g ∧ g < w.heap.size ∧ w.heap[g]? = some (.cells cur e (0, 0)) ∧ cur.size = c * K ∧
    ∀ i (hi : i < l.length) j u, (f l[i])[j]? = some u → w.cell? ⟨g, i * K + j, none⟩ = some u := by
  have h' := h
  obtain ⟨-, ⟨-, h1⟩ | ⟨g, cap, cur, h1, h2, h3, h4, h5, h6, h7⟩⟩ := h
  · omega
  · refine ⟨g, cap, cur, h1, h4, h2, (Array.getElem?_eq_some_iff.1 h3).1, h3, h6, fun i hi j u hu => ?_⟩
    subst h1
    have hj : j < K := by rw [← hK l[i]]; exact (List.getElem?_eq_some_iff.1 hu).1
    have := World.ownsRow.cells h' (g := g) rfl (i * K + j) u (by rw [flat_get f K hK l i j hi hj]; exact hu)
    rw [Addr.add_lit, Nat.zero_add] at this
    exact this
theorem Row.ch {Q : Nat → Prop} {w' : World} (h : Row f K e w B v l) (hc : Ch Q w w') (hq : ∀ g, v.ownBlock = some g → ¬ Q g) : Row f K e w' B v l := own_ch h hc hq
theorem Row.nil (w : World) (B : Nat) : Row f K e w B (.slice none 0 0) [] := World.ownsRow_nil w B e K
theorem Row.snoc {x : α} (h : w.ownsRow B e K v (l.length + 1) (l.flatMap f ++ f x)) : Row f K e w B v (l ++ [x]) := by
  unfold Row
  rw [List.length_append, List.flatMap_append, List.flatMap_cons, List.flatMap_nil, List.append_nil]
  exact h
end

theorem flat_set {α : Type} (f : α → List Value) (K : Nat) (hK : ∀ x, (f x).length = K) (j : Nat) (u : Value) (hj : j < K) : ∀ (l : List α) (i : Nat) (h : i < l.length) (y : α), f y = (f l[i]).set j u → (l.set i y).flatMap f = (l.flatMap f).set (i * K + j) u
  | x :: l, 0, _, y, hy => by
    rw [List.set_cons_zero, List.flatMap_cons, List.flatMap_cons, hy, Nat.zero_mul, Nat.zero_add, List.set_append_left _ _ (by rw [hK]; exact hj)]
    rfl
  | x :: l, i + 1, h, y, hy => by
    rw [List.set_cons_succ, List.flatMap_cons, List.flatMap_cons, List.set_append_right _ _ (by rw [hK, Nat.add_mul]; omega), hK, show (i + 1) * K + j - K = i * K + j by rw [Nat.add_mul]; omega, flat_set f K hK j u hj l i (by simpa using h) y hy]

/-- one cell of one thing is written over -/
theorem Row.set {α : Type} {f : α → List Value} {K : Nat} {e : TypeId} {w : World} {B : Nat} {g c : Nat} {l : List α} (h : Row f K e w B (.slice (some ⟨g, 0, none⟩) l.length c) l) (hK : ∀ x, (f x).length = K) {i j : Nat} (hi : i < l.length) (hj : j < K) {u : Value} (y : α) (hy : f y = (f l[i]).set j u) :
    Row f K e (w.setCell ⟨g, i * K + j, none⟩ u) B (.slice (some ⟨g, 0, none⟩) l.length c) (l.set i y) := by
  obtain ⟨h0, ⟨h1, -⟩ | ⟨g', cap, cur, h1, h2, h3, h4, h5, h6, h7⟩⟩ := h
  · cases h1
  · cases h1
    unfold Row
    rw [List.length_set, flat_set f K hK j u hj l i hi y hy]
    have hij : i * K + j < l.length * K := by
      have : (i + 1) * K ≤ l.length * K := Nat.mul_le_mul_right _ hi
      rw [Nat.add_mul] at this
      omega
    refine ⟨by rw [List.length_set]; exact h0, Or.inr ⟨g, c, cur.setIfInBounds (i * K + j) u, rfl, h2, ?_, h4, h5, by rw [Array.size_setIfInBounds]; exact h6, ?_⟩⟩
    · simp [World.setCell, Array.getElem?_modify, h3]
    · rw [Array.toList_setIfInBounds, List.take_set, h7]

end Go.Proofs.Ytoabhmpakcgloaa
