/- A block of the statement's own that is written over; all else stays. -/
import Derived.Test.YtgheaieghoekhaaDoorBase
namespace Go.Proofs.YtgheaieghoekhaaDoor
open Go.RowKit

/-- block C holds n cells of one kind -/
def Blk (w : World) (C n : Nat) (e : TypeId) : Prop := ∃ cur : Array Value, w.heap[C]? = some (.cells cur e (0, 0)) ∧ cur.size = n

theorem Blk.cell {w : World} {C n : Nat} {e : TypeId} (h : Blk w C n e) (i : Nat) (hi : i < n) : ∃ v, w.cell? ⟨C, i, none⟩ = some v := by
  obtain ⟨cur, h1, h2⟩ := h
  refine ⟨cur[i], ?_⟩
  simp only [World.cell?, h1]
  simp [h2, hi]

theorem Blk.froz {w : World} {C n : Nat} {e : TypeId} (h : Blk w C n e) (i : Nat) : w.frozen? ⟨C, i, none⟩ = false := by
  obtain ⟨cur, h1, h2⟩ := h
  simp [World.frozen?, h1]

theorem Blk.lt {w : World} {C n : Nat} {e : TypeId} (h : Blk w C n e) : C < w.heap.size := by
  obtain ⟨cur, h1, h2⟩ := h
  exact (Array.getElem?_eq_some_iff.1 h1).1

theorem Blk.set {w : World} {C n : Nat} {e : TypeId} (h : Blk w C n e) (i : Nat) (v : Value) : Blk (w.setCell ⟨C, i, none⟩ v) C n e := by
  obtain ⟨cur, h1, h2⟩ := h
  refine ⟨cur.setIfInBounds i v, ?_, by simpa using h2⟩
  simp [World.setCell, Array.getElem?_modify, h1]

theorem Blk.own {w : World} {C n base : Nat} {e : TypeId} (h : Blk w C n e) (hb : base ≤ C) (hn : n ≤ maxLen) : ∃ xs, w.ownsRow base e 1 (.slice (some ⟨C, 0, none⟩) n n) n xs := by
  obtain ⟨cur, h1, h2⟩ := h
  refine ⟨cur.toList, by simp [h2], Or.inr ⟨C, n, cur, rfl, hb, h1, Nat.le_refl _, hn, by simp [h2], ?_⟩⟩
  rw [Nat.mul_one, ← h2, ← Array.length_toList, List.take_length]

theorem Blk.new (w : World) (cs : Array Value) (e : TypeId) : Blk (w.alloc (.cells cs e)) w.heap.size cs.size e := ⟨cs, (MapKept.heap_alloc w _).1, rfl⟩

theorem Blk.of_below {w w' : World} {C n : Nat} {e : TypeId} (h : Blk w C n e) (hb : Below w.heap.size w w') : Blk w' C n e := by
  have hl := h.lt
  obtain ⟨cur, h1, h2⟩ := h
  exact ⟨cur, (hb.block C hl).trans h1, h2⟩

/-- all but block C is as it was; there may be new blocks -/
def Keep (C : Nat) (w w' : World) : Prop := w.grownBy w' (some C)

theorem Keep.refl (C : Nat) (w : World) : Keep C w w := World.grownBy.refl _ _
theorem Keep.trans {C : Nat} {a b c : World} (h : Keep C a b) (k : Keep C b c) : Keep C a c :=
  ⟨k.os.trans h.os, k.tape.trans h.tape, k.output.trans h.output, Nat.le_trans h.size k.size, fun i hi hne => (k.block i (Nat.lt_of_lt_of_le hi h.size) hne).trans (h.block i hi hne)⟩
theorem Keep.of_below {C : Nat} {w w' : World} (h : Below w.heap.size w w') : Keep C w w' := ⟨h.os, h.tape, h.output, h.size, fun i hi _ => h.block i hi⟩
theorem Keep.drewN {C : Nat} {a w : World} (h : Keep C a w) (m : Nat) : Keep C a (w.drewN m) := ⟨h.os, h.tape, h.output, h.size, h.block⟩
theorem Keep.set {C : Nat} {a w : World} (h : Keep C a w) (i : Nat) (v : Value) : Keep C a (w.setCell ⟨C, i, none⟩ v) :=
  h.trans ⟨rfl, rfl, rfl, by simp [World.setCell], fun k _ hne => Below.heap_setCell _ _ _ _ (fun e => hne (by rw [e]))⟩
theorem Keep.alloc {C : Nat} {a w : World} (h : Keep C a w) (o : Obj) : Keep C a (w.alloc o) := h.trans (World.grownBy_alloc _ _ _)
theorem Keep.below {C : Nat} {w0 w w' : World} (h0 : Below w0.heap.size w0 w) (hC : w0.heap.size ≤ C) (h : Keep C w w') : Below w0.heap.size w0 w' :=
  h0.grown h h0.size (fun k e => by cases e; exact hC)

end Go.Proofs.YtgheaieghoekhaaDoor
