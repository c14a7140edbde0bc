/- The document's Join. -/
import Derived.Test.YtjkogjmbmkopiaaDoorRw2
import Derived.Test.YtjkogjmbmkopiaaDoorPk
import Derived.Lib.AppendStr
namespace Go.Proofs.YtjkogjmbmkopiaaDoor
open Go.RowKit

theorem join_snoc (xs : List (List UInt8)) (y : List UInt8) : Lib.join (xs ++ [y]) [32] = if xs = [] then y else Lib.join xs [32] ++ 32 :: y := by
  unfold Lib.join List.intercalate
  induction xs with
  | nil => simp
  | cons x r ih =>
    rw [if_neg (by simp)]
    cases r with
    | nil => simp
    | cons z r' =>
      rw [if_neg (by simp)] at ih
      simp only [List.cons_append, List.intersperse_cons_cons, List.flatten_cons] at ih ⊢
      rw [ih]
      simp

/-- what is written of the first k -/
def acc (l : List RT) (k : Nat) : List UInt8 := Lib.join ((l.map RT.tx).take k) [32]

theorem acc_zero (l : List RT) : acc l 0 = [] := rfl
theorem acc_first {l : List RT} {k : Nat} (hk : k < l.length) (h : k = 0) : acc l (k + 1) = l[k].tx := by
  subst h
  unfold acc
  rw [List.take_succ_eq_append_getElem (by rw [List.length_map]; exact hk), List.take_zero, join_snoc, if_pos rfl, List.getElem_map]
theorem acc_next {l : List RT} {k : Nat} (hk : k < l.length) (h : ¬ k = 0) : acc l (k + 1) = acc l k ++ [32] ++ l[k].tx := by
  unfold acc
  rw [List.take_succ_eq_append_getElem (by rw [List.length_map]; exact hk), join_snoc, if_neg, List.getElem_map, List.append_assoc]
  · rfl
  · intro e
    have := congrArg List.length e
    rw [List.length_take, List.length_map, List.length_nil] at this
    omega
theorem acc_all (l : List RT) : acc l l.length = jtx l := by
  unfold acc jtx
  rw [List.take_of_length_le (by rw [List.length_map]; exact Nat.le_refl _)]

theorem acc_len {l : List RT} (h : RFit l) (k : Nat) : (acc l k).length ≤ 70368744177000 := by
  unfold acc
  have h1 := join_len ((l.map RT.tx).take k) 2097200 (fun x hx => by
    obtain ⟨y, hy, rfl⟩ := List.mem_map.1 (List.mem_of_mem_take hx)
    obtain ⟨e1, e2, e3⟩ := h.each y hy
    have := wtx_len y.k y.t.data.toList y.n e2 e3
    rw [← size_len] at this
    unfold RT.tx
    omega)
  have h2 : ((l.map RT.tx).take k).length ≤ 1048576 := by rw [List.length_take, List.length_map]; have := h.len; omega
  have : ((l.map RT.tx).take k).length * (2097200 + 1) ≤ 1048576 * (2097200 + 1) := Nat.mul_le_mul_right _ h2
  omega

theorem tx_len {l : List RT} (h : RFit l) {x : RT} (hx : x ∈ l) : x.tx.length ≤ 2097200 := by
  obtain ⟨e1, e2, e3⟩ := h.each x hx
  have := wtx_len x.k x.t.data.toList x.n e2 e3
  rw [← size_len] at this
  unfold RT.tx
  omega

theorem strCells_arr (t : List UInt8) : Lib.strCells (⟨t.toArray⟩ : ByteArray) = Lib.byteCells t := by
  unfold Lib.strCells Lib.byteCells
  simp

theorem Own.str {w : World} {B : Nat} {v : Value} {a t : List UInt8} (h : w.ownsRow B 5 1 v (a.length + (⟨t.toArray⟩ : ByteArray).size) (Lib.byteCells a ++ Lib.strCells (⟨t.toArray⟩ : ByteArray))) : Own w B v (a ++ t) := by
  unfold Own
  rw [strCells_arr, arr_size] at h
  rw [List.length_append]
  have e : Lib.byteCells (a ++ t) = Lib.byteCells a ++ Lib.byteCells t := by unfold Lib.byteCells; rw [List.map_append]
  rw [e]
  exact h

end Go.Proofs.YtjkogjmbmkopiaaDoor
