/- Layer 11: the document's Put in one word. -/
import Derived.Test.YtoabhmpakcgloaaWq
namespace Go.Proofs.Ytoabhmpakcgloaa
open Go.RowKit

variable {w : World} {B b : Nat} {av ov : Value} {l : List Wt}

/-- a Put's error -/
def ecW (l : List Wt) (ws wg rd ar : Int) : Int := if ws = 0 ∧ wg = 0 then 111 else if rd < 1 ∨ 4 < rd then 112 else if twW l ws wg ar then 113 else 0
/-- a Put's handle -/
def psW (l : List Wt) (ws wg rd ar : Int) : Int := if ecW l ws wg rd ar = 0 then (slW l : Int) else 0
def pgW (l : List Wt) (ws wg rd ar : Int) : Int := if ecW l ws wg rd ar = 0 then (genW l (slW l : Int) : Int) + 1 else 0
/-- the waits behind a Put -/
def putW (l : List Wt) (rs rg rd ws wg ar vn vs vg : Int) : List Wt := if ecW l ws wg rd ar = 0 then l ++ [⟨⟨slW l, (genW l (slW l : Int) : Int) + 1, ws, wg, rs, rg, rd, ar, vn, vs, vg⟩, false⟩] else l

theorem putW_len (l : List Wt) (rs rg rd ws wg ar vn vs vg : Int) : (putW l rs rg rd ws wg ar vn vs vg).length ≤ l.length + 1 := by
  unfold putW
  split <;> simp

theorem FitW.put (h : FitW l) (hl : l.length ≤ 100000) (rs rg rd ws wg ar vn vs vg : Int) : FitW (putW l rs rg rd ws wg ar vn vs vg) := by
  unfold putW
  split
  · intro t ht
    rcases List.mem_append.1 ht with ht | ht
    · exact h t ht
    · have := slW_le l
      rw [List.mem_singleton.1 ht]
      exact ⟨Int.natCast_nonneg _, by show (slW l : Int) ≤ _; omega⟩
  · exact h

end Go.Proofs.Ytoabhmpakcgloaa
