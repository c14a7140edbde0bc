/- The program's Join, over the contract of a token as it is written. -/
import Derived.Test.YtkbgnbcphmkjkaaDoorPw
import Derived.Test.YtkbgnbcphmkjkaaDoorLayJ
import Derived.Deep.OwnRows
namespace Go.Proofs.YtkbgnbcphmkjkaaDoor
open Go.RowKit

/-- a token as it comes in: any numbers -/
structure RT where
  k : Int
  t : ByteArray
  n : Int
  a : Int
  l : Int

/-- tokens in a block, from an offset on -/
structure RRow (w : World) (b off : Nat) (l : List RT) : Prop where
  lt : 0 < l.length → b < w.heap.size
  cell : ∀ i (h : i < l.length), w.cell? ⟨b, off + i * 5, none⟩ = some (.int .i64 l[i].k) ∧ w.cell? ⟨b, off + i * 5 + 1, none⟩ = some (.string l[i].t) ∧ w.cell? ⟨b, off + i * 5 + 2, none⟩ = some (.int .i64 l[i].n) ∧ w.cell? ⟨b, off + i * 5 + 3, none⟩ = some (.int .i64 l[i].a) ∧ w.cell? ⟨b, off + i * 5 + 4, none⟩ = some (.int .i64 l[i].l)

theorem RRow.below {w w' : World} {b off : Nat} {l : List RT} (h : RRow w b off l) (hb : Below w.heap.size w w') : RRow w' b off l :=
  ⟨fun hp => Nat.lt_of_lt_of_le (h.lt hp) hb.size, fun i hi => by
    have := h.cell i hi
    have e := hb.block b (h.lt (by omega))
    unfold World.cell? at this ⊢
    simp only [e]
    exact this⟩

/-- what may come in -/
structure RFit (l : List RT) : Prop where
  len : l.length ≤ 1048576
  each : ∀ x ∈ l, x.t.size ≤ 1048576 ∧ -9223372036854775808 ≤ x.n ∧ x.n ≤ 9223372036854775807

def RT.tx (x : RT) : List UInt8 := wtx x.k x.t.data.toList x.n
def RT.ok (x : RT) : Bool := wok x.k x.t.data.toList x.n

/-- may these be joined? -/
def jok (l : List RT) : Bool := (List.range l.length).all fun i => match l[i]? with | some x => x.ok && (!decide (x.k = 0) || decide (i + 1 = l.length)) | none => true

def jtx (l : List RT) : List UInt8 := Lib.join (l.map RT.tx) [32]

theorem jok_at {l : List RT} (h : ∀ i (hi : i < l.length), (l[i].ok && (!decide (l[i].k = 0) || decide (i + 1 = l.length))) = true) : jok l = true := by
  unfold jok
  rw [List.all_eq_true]
  intro i hi
  rw [List.mem_range] at hi
  rw [List.getElem?_eq_getElem hi]
  exact h i hi
theorem jok_no {l : List RT} {i : Nat} (hi : i < l.length) (h : (l[i].ok && (!decide (l[i].k = 0) || decide (i + 1 = l.length))) = false) : jok l = false := by
  cases e : jok l
  · rfl
  · unfold jok at e
    rw [List.all_eq_true] at e
    have := e i (List.mem_range.2 hi)
    rw [List.getElem?_eq_getElem hi] at this
    simp only at this
    rw [h] at this
    cases this

/-- the contract of a token as it is written -/
def WriteOk : Prop := ∀ (k : Int) (X : ByteArray) (n a l : Int) (w : World), X.size ≤ 70368744177000 → -9223372036854775808 ≤ n → n ≤ 9223372036854775807 → Tab w →
    Calls Tryd.prog 7 #[tokV k X n a l] w fun e w' => e = wEnd k X.data.toList n ∧ Below w.heap.size w w'

def jEnd (l : List RT) : Ending := if jok l then .returned (.tuple #[.string ⟨(jtx l).toArray⟩, .int .i64 0]) else .returned (.tuple #[.string ⟨#[]⟩, .int .i64 1])

theorem Tryd.infoS : (Tryd.prog.info? 9).map (fun i => (i.zero, i.size, i.bytes)) = some (some (.string ByteArray.empty), 1, 16) := by kernel_rfl

theorem join_any (bk : Nat) (xs : List ByteArray) (w : World) (hcells : ∀ (j : Nat) x, xs[j]? = some x → w.cell? ⟨bk, 0 + j, none⟩ = some (.string x)) (hbk : bk < w.heap.size) (hN : xs.length ≤ 140737488355328)
    (hlen : (Lib.join (xs.map (·.data.toList)) [32]).length ≤ 140737488355328) :
    Calls Tryd.prog 8 #[.slice (some ⟨bk, 0, none⟩) xs.length xs.length, .string ⟨#[32]⟩] w fun e w' => e = .returned (.string ⟨(Lib.join (xs.map (·.data.toList)) [32]).toArray⟩) ∧ Below w.heap.size w w' :=
  Any.strings_Join layJN layJNX bk 0 xs.length xs ⟨#[32]⟩ w hcells hbk hN (Nat.le_refl _) hlen

end Go.Proofs.YtkbgnbcphmkjkaaDoor
