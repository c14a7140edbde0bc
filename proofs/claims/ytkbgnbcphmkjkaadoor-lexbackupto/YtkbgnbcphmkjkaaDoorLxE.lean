/- The document's lexer: the token at a place. -/
import Derived.Test.YtkbgnbcphmkjkaaDoorLxD
namespace Go.Proofs.YtkbgnbcphmkjkaaDoor
open Go.RowKit

theorem tk_letter {s : ByteArray} {a : Nat} (h : a < s.size) (c : letter (by_ s a).toNat = true) : tkName (s.data.toList.drop a) = tk (s.data.toList.drop a) := by
  rw [drop_by s a h, tk, if_pos c]
theorem tk_digit {s : ByteArray} {a : Nat} (h : a < s.size) (c : letter (by_ s a).toNat = false) (d : digit (by_ s a).toNat = true) : tkNum (s.data.toList.drop a) = tk (s.data.toList.drop a) := by
  rw [drop_by s a h, tk, c, if_neg (by decide), if_pos d]
theorem tk_quote {s : ByteArray} {a : Nat} (h : a < s.size) (c : letter (by_ s a).toNat = false) (d : digit (by_ s a).toNat = false) (q : (by_ s a).toNat = 34) : tkText (s.data.toList.drop a) = tk (s.data.toList.drop a) := by
  rw [drop_by s a h, tk, c, if_neg (by decide), d, if_neg (by decide), if_pos q]
theorem tk_sign {s : ByteArray} {a : Nat} (h : a < s.size) (c : letter (by_ s a).toNat = false) (d : digit (by_ s a).toNat = false) (q : ¬ (by_ s a).toNat = 34) : tkSign (s.data.toList.drop a) = tk (s.data.toList.drop a) := by
  rw [drop_by s a h, tk, c, if_neg (by decide), d, if_neg (by decide), if_neg q]

theorem tkEnd_def (x : Tk) : tkEnd x = .returned (.tuple #[.agg #[.int .i64 x.k, .string ⟨x.t.toArray⟩, .int .i64 x.n, .int .i64 0, .int .i64 0], .int .i64 (x.len : Int), .int .i64 x.e]) := rfl

theorem sx_list (xs : List (List UInt8)) (j : Nat) : (sx xs j).data.toList = xs.getD j [] := arr_list _
theorem sx_size (xs : List (List UInt8)) (j : Nat) : (sx xs j).size = (xs.getD j []).length := arr_size _

theorem sgl_at (k : Nat) (h : k < 27) : 1 ≤ (sgl.getD k []).length ∧ (sgl.getD k []).length ≤ 2 := by
  have key : ∀ m : Fin 27, 1 ≤ (sgl.getD m.val []).length ∧ (sgl.getD m.val []).length ≤ 2 := by decide
  exact key ⟨k, h⟩

theorem pre_iff (g l : List UInt8) : g.isPrefixOf l = decide (g.length ≤ l.length ∧ l.take g.length = g) := by
  rw [Bool.eq_iff_iff, decide_eq_true_eq, List.isPrefixOf_iff_prefix]
  constructor
  · intro h
    exact ⟨h.length_le, (List.prefix_iff_eq_take.1 h).symm⟩
  · rintro ⟨_, h⟩
    exact List.prefix_iff_eq_take.2 h.symm

theorem sgn_hit {l : List UInt8} {k : Nat} (hk : k < 27) (hno : ∀ j, j < k → (sgl.getD j []).isPrefixOf l = false) (h : (sgl.getD k []).isPrefixOf l = true) : sgn l = some (sgl.getD k []) := by
  unfold sgn
  rw [List.find?_eq_some_iff_getElem]
  refine ⟨h, k, hk, ?_, ?_⟩
  · rw [List.getD_eq_getElem?_getD, List.getElem?_eq_getElem (show k < sgl.length from hk)]; rfl
  · intro j hj
    have := hno j hj
    rw [List.getD_eq_getElem?_getD, List.getElem?_eq_getElem (show j < sgl.length from Nat.lt_trans hj hk)] at this
    simpa using this
theorem sgn_none {l : List UInt8} (hno : ∀ j, j < 27 → (sgl.getD j []).isPrefixOf l = false) : sgn l = none := by
  unfold sgn
  rw [List.find?_eq_none]
  intro g hg
  obtain ⟨j, hj, rfl⟩ := List.getElem_of_mem hg
  have h1 := hno j hj
  rw [List.getD_eq_getElem?_getD, List.getElem?_eq_getElem hj] at h1
  intro h2
  have h3 : sgl[j].isPrefixOf l = false := h1
  rw [h3] at h2
  cases h2

theorem TokAt.drewN {w : World} {B : Nat} (h : TokAt w B) (m : Nat) : TokAt (w.drewN m) B := ⟨h.blk⟩
theorem below_dn {B : Nat} {a w : World} (h : Below B a w) (n : Nat) : Below B a (w.drewN n) := ⟨h.os, h.tape, h.output, h.size, h.block⟩

theorem sign_semi {l : List UInt8} (h : sgn l = some [59]) : tkSign l = ⟨0, 6, [59], 0, 1⟩ := by unfold tkSign; rw [h]; rfl
theorem sign_other {l g : List UInt8} (h : sgn l = some g) (hg : ¬ g = [59]) : tkSign l = ⟨0, 5, g, 0, g.length⟩ := by unfold tkSign; rw [h]; simp only; rw [if_neg hg]
theorem sign_no {l : List UInt8} (h : sgn l = none) : tkSign l = ⟨32, 0, [], 0, 0⟩ := by unfold tkSign; rw [h]; rfl

theorem sx_semi (k : Nat) : ((sx sgl k).toList == [59]) = decide (sgl.getD k [] = [59]) := by
  rw [ByteArray.toList_eq, sx_list, Bool.eq_iff_iff, beq_iff_eq, decide_eq_true_eq]

/-- the sign at place k stands there just if the bytes are the same -/
theorem sign_here {s : ByteArray} {a k : Nat} (h : a + (sx sgl k).size ≤ s.size) : ((s.extract a (a + (sx sgl k).size)).toList == (sx sgl k).toList) = (sgl.getD k []).isPrefixOf (s.data.toList.drop a) := by
  rw [ByteArray.toList_eq, ByteArray.toList_eq, ext_cut_list, sx_list, sx_size, pre_iff, Bool.eq_iff_iff, beq_iff_eq, decide_eq_true_eq]
  rw [sx_size] at h
  constructor
  · intro e
    exact ⟨by rw [List.length_drop, ← size_len]; omega, e⟩
  · rintro ⟨_, e⟩
    exact e
theorem sign_far {s : ByteArray} {a k : Nat} (h : ¬ a + (sx sgl k).size ≤ s.size) (ha : a ≤ s.size) : (sgl.getD k []).isPrefixOf (s.data.toList.drop a) = false := by
  rw [pre_iff]
  rw [sx_size] at h
  exact decide_eq_false (fun e => by have := e.1; rw [List.length_drop, ← size_len] at this; omega)

end Go.Proofs.YtkbgnbcphmkjkaaDoor
