/- Cells one behind the other, written. -/
import Derived.Test.YtgheaieghoekhaaDoorDf
namespace Go.Proofs.YtgheaieghoekhaaDoor
open Go.RowKit

def put (w : World) (D : Nat) : Nat → List Value → World
  | _, [] => w
  | o, v :: vs => put (w.setCell ⟨D, o, none⟩ v) D (o + 1) vs

theorem put_heap {w : World} {D : Nat} {b : Nat} (hb : b ≠ D) : ∀ (o : Nat) (vs : List Value), (put w D o vs).heap[b]? = w.heap[b]?
  | _, [] => rfl
  | o, v :: vs => by
    unfold put
    rw [put_heap hb (o + 1) vs, Below.heap_setCell _ _ _ _ hb]
theorem put_cellB {w : World} {D : Nat} {b : Nat} (hb : b ≠ D) (o : Nat) (vs : List Value) (q : Nat) : (put w D o vs).cell? ⟨b, q, none⟩ = w.cell? ⟨b, q, none⟩ := World.cell?_of_block (w := w) (put_heap hb o vs)
theorem put_size {D : Nat} : ∀ {w : World} (o : Nat) (vs : List Value), (put w D o vs).heap.size = w.heap.size
  | _, _, [] => rfl
  | w, o, v :: vs => by
    unfold put
    rw [put_size (o + 1) vs]
    simp [World.setCell]
theorem put_before {D : Nat} : ∀ {w : World} (o : Nat) (vs : List Value) {q : Nat}, q < o → (put w D o vs).cell? ⟨D, q, none⟩ = w.cell? ⟨D, q, none⟩
  | _, _, [], _, _ => rfl
  | w, o, v :: vs, q, h => by
    unfold put
    rw [put_before (o + 1) vs (by omega), set_cellO w D o v (by omega)]
theorem put_alk {w : World} {D o o' k' : Nat} (vs : List Value) (h : o' + k' ≤ o) : Alk w (put w D o vs) D o' k' := fun j hj => put_before o vs (by omega)
theorem put_blk {D n : Nat} {T : TypeId} : ∀ {w : World} (o : Nat) (vs : List Value), Blk w D n T → Blk (put w D o vs) D n T
  | _, _, [], h => h
  | _, o, v :: vs, h => put_blk (o + 1) vs (h.set o v)
theorem put_at {D n : Nat} {T : TypeId} : ∀ {w : World} (o : Nat) (vs : List Value), Blk w D n T → o + vs.length ≤ n → ∀ j (h : j < vs.length), (put w D o vs).cell? ⟨D, o + j, none⟩ = some vs[j]
  | w, o, v :: vs, h, hn, 0, _ => by
    unfold put
    rw [put_before (o + 1) vs (by omega)]
    obtain ⟨u, hu⟩ := h.cell o (by simp at hn; omega)
    exact World.cell?_setCell_same _ _ _ hu
  | w, o, v :: vs, h, hn, j + 1, hj => by
    unfold put
    have := put_at (o + 1) vs (h.set o v) (by simp at hn; omega) j (by simpa using hj)
    rw [show o + (j + 1) = o + 1 + j by omega]
    simpa using this
theorem put_rd {R D : Nat} {l : List UInt8} {w : World} (h : Rd R l w) (hD : D ≠ R) (o : Nat) (vs : List Value) : Rd R l (put w D o vs) := by
  obtain ⟨s, h1, h2⟩ := h
  exact ⟨s, h1, (put_heap (show R ≠ D from fun e => hD e.symm) o vs).trans h2⟩
theorem put_keep {R D : Nat} : ∀ {w w' : World} (o : Nat) (vs : List Value), Keep R w w' → w.heap.size ≤ D → Keep R w (put w' D o vs)
  | _, _, _, [], h, _ => h
  | _, _, o, v :: vs, h, hD => put_keep (o + 1) vs (h.setN hD o v) hD

end Go.Proofs.YtgheaieghoekhaaDoor
