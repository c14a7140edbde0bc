/- The document's lexer: what stands at a place. -/
import Derived.Test.YtkbgnbcphmkjkaaDoorLxB
import Derived.Handy
namespace Go.Proofs.YtkbgnbcphmkjkaaDoor
open Go.RowKit

/-- what a reader of one token answers -/
def tkEnd (x : Tk) : Ending := .returned (.tuple #[tokV x.k ⟨x.t.toArray⟩ x.n 0 0, .int .i64 (x.len : Int), .int .i64 x.e])

theorem ext_cut_list (s : ByteArray) (a n : Nat) : (s.extract a (a + n)).data.toList = (s.data.toList.drop a).take n := by
  rw [ByteArray.data_extract, Array.toList_extract, List.extract_eq_take_drop, Nat.add_sub_cancel_left]

theorem ext_cut (s : ByteArray) (a n : Nat) : s.extract a (a + n) = ⟨((s.data.toList.drop a).take n).toArray⟩ :=
  WideShapes.bytes_inj ((ext_cut_list s a n).trans (arr_list _).symm)

/-- the zero token in a block -/
def tokZ : Array Value := #[.int .i64 0, .string ⟨#[]⟩, .int .i64 0, .int .i64 0, .int .i64 0]

/-- a block that holds a token, and nothing but that -/
structure TokAt (w : World) (B : Nat) : Prop where
  blk : ∃ v0 v1 v2 v3 v4, w.heap[B]? = some (.cells #[v0, v1, v2, v3, v4] 28 (0, 0))

theorem TokAt.cell {w : World} {B : Nat} (h : TokAt w B) : ∃ v0 v1 v2 v3 v4, w.cell? ⟨B, 0, none⟩ = some v0 ∧ w.cell? ⟨B, 1, none⟩ = some v1 ∧ w.cell? ⟨B, 2, none⟩ = some v2 ∧ w.cell? ⟨B, 3, none⟩ = some v3 ∧ w.cell? ⟨B, 4, none⟩ = some v4 := by
  obtain ⟨v0, v1, v2, v3, v4, h⟩ := h.blk
  exact ⟨v0, v1, v2, v3, v4, by simp [World.cell?, h], by simp [World.cell?, h], by simp [World.cell?, h], by simp [World.cell?, h], by simp [World.cell?, h]⟩

theorem TokAt.froz {w : World} {B : Nat} (h : TokAt w B) (i : Nat) : w.frozen? ⟨B, i, none⟩ = false := by
  obtain ⟨v0, v1, v2, v3, v4, h⟩ := h.blk
  simp [World.frozen?, h]

theorem TokAt.new (w : World) (v0 v1 v2 v3 v4 : Value) : TokAt (w.alloc (.cells #[v0, v1, v2, v3, v4] 28)) w.heap.size := ⟨v0, v1, v2, v3, v4, (MapKept.heap_alloc w _).1⟩

theorem TokAt.lt {w : World} {B : Nat} (h : TokAt w B) : B < w.heap.size := by
  obtain ⟨v0, v1, v2, v3, v4, h⟩ := h.blk
  exact (Array.getElem?_eq_some_iff.1 h).1

theorem TokAt.below {w w' : World} {B : Nat} (h : TokAt w B) (hb : Below w.heap.size w w') : TokAt w' B := by
  have hl := h.lt
  obtain ⟨v0, v1, v2, v3, v4, h⟩ := h.blk
  exact ⟨v0, v1, v2, v3, v4, (hb.block B hl).trans h⟩

/-- a token is written over -/
def put5 (w : World) (B : Nat) (v0 v1 v2 v3 v4 : Value) : World :=
  ((((w.setCell ⟨B, 0, none⟩ v0).setCell ⟨B, 1, none⟩ v1).setCell ⟨B, 2, none⟩ v2).setCell ⟨B, 3, none⟩ v3).setCell ⟨B, 4, none⟩ v4

theorem put5_heap {w : World} {B : Nat} (h : TokAt w B) (v0 v1 v2 v3 v4 : Value) : (put5 w B v0 v1 v2 v3 v4).heap[B]? = some (.cells #[v0, v1, v2, v3, v4] 28 (0, 0)) := by
  obtain ⟨u0, u1, u2, u3, u4, h⟩ := h.blk
  simp [put5, World.setCell, Array.getElem?_modify, h]

theorem put5_cells {w : World} {B : Nat} (h : TokAt w B) (v0 v1 v2 v3 v4 : Value) : (put5 w B v0 v1 v2 v3 v4).cell? ⟨B, 0, none⟩ = some v0 ∧ (put5 w B v0 v1 v2 v3 v4).cell? ⟨B, 1, none⟩ = some v1 ∧ (put5 w B v0 v1 v2 v3 v4).cell? ⟨B, 2, none⟩ = some v2 ∧
    (put5 w B v0 v1 v2 v3 v4).cell? ⟨B, 3, none⟩ = some v3 ∧ (put5 w B v0 v1 v2 v3 v4).cell? ⟨B, 4, none⟩ = some v4 := by
  have h := put5_heap h v0 v1 v2 v3 v4
  exact ⟨by simp [World.cell?, h], by simp [World.cell?, h], by simp [World.cell?, h], by simp [World.cell?, h], by simp [World.cell?, h]⟩

theorem put5_below {B : Nat} {a w : World} {C : Nat} (h : Below B a w) (hC : B ≤ C) (v0 v1 v2 v3 v4 : Value) : Below B a (put5 w C v0 v1 v2 v3 v4) :=
  ((((h.setCell hC _).setCell hC _).setCell hC _).setCell hC _).setCell hC _

theorem name_word {l : List UInt8} (h : isWord ⟨(l.take (runN l)).toArray⟩ = true) : tkName l = ⟨0, 2, l.take (runN l), 0, runN l⟩ := by unfold tkName; rw [if_pos h]
theorem name_long {l : List UInt8} (h : isWord ⟨(l.take (runN l)).toArray⟩ = false) (g : 30 < runN l) : tkName l = ⟨35, 0, [], 0, 0⟩ := by unfold tkName; rw [h, if_neg (by decide), if_pos g]; rfl
theorem name_name {l : List UInt8} (h : isWord ⟨(l.take (runN l)).toArray⟩ = false) (g : ¬ 30 < runN l) : tkName l = ⟨0, 1, l.take (runN l), 0, runN l⟩ := by unfold tkName; rw [h, if_neg (by decide), if_neg g]

end Go.Proofs.YtkbgnbcphmkjkaaDoor
