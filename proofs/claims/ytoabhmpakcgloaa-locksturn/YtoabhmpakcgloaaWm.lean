/- Layer 11: all waits that were put ever, on lists alone. -/
import Derived.Test.YtoabhmpakcgloaaBase
namespace Go.Proofs.Ytoabhmpakcgloaa
open Go.RowKit

/-- a wait: its handle, who waits, the row, the arm, the value -/
structure Rc where
  ms : Int
  mg : Int
  ws : Int
  wg : Int
  rs : Int
  rg : Int
  rd : Int
  ar : Int
  vn : Int
  vs : Int
  vg : Int
/-- a wait that was put, and whether it is over -/
structure Wt where
  r : Rc
  o : Bool

def zRc : Rc := ⟨0, 0, 0, 0, 0, 0, 0, 0, 0, 0, 0⟩
def isMe (s g : Int) (t : Wt) : Bool := !t.o && (decide (t.r.ms = s) && decide (t.r.mg = g))
def isWho (s g : Int) (t : Wt) : Bool := !t.o && (decide (t.r.ws = s) && decide (t.r.wg = g))
def inRow (s g d : Int) (t : Wt) : Bool := !t.o && (decide (t.r.rs = s) && (decide (t.r.rg = g) && decide (t.r.rd = d)))
def isNow (t : Wt) : Bool := !t.o
/-- the place of a wait that there is -/
def fndW (l : List Wt) (s g : Int) : Option Nat := l.findIdx? (isMe s g)
def ixW : Option Nat → Int
  | none => -1
  | some i => i
/-- those that are asked for -/
def sel (q : Wt → Bool) (l : List Wt) : List Rc := (l.filter q).map Wt.r
theorem sel_nil (q : Wt → Bool) : sel q [] = [] := rfl
theorem sel_snoc (q : Wt → Bool) (l : List Wt) (t : Wt) : sel q (l ++ [t]) = if q t then sel q l ++ [t.r] else sel q l := by
  unfold sel
  cases h : q t <;> simp [h]
theorem sel_le (q : Wt → Bool) (l : List Wt) : (sel q l).length ≤ l.length := by
  unfold sel
  rw [List.length_map]
  exact List.length_filter_le _ _
def over (t : Wt) : Wt := { t with o := true }
/-- one is cut out -/
def cutW (l : List Wt) (s g : Int) : List Wt := match fndW l s g with
  | none => l
  | some i => l.modify i over
/-- all of somebody are taken out -/
def leaW (l : List Wt) (s g : Int) : List Wt := l.map fun t => if isWho s g t then over t else t
def leaN (l : List Wt) (s g : Int) : Nat := l.countP (isWho s g)
theorem leaW_len (l : List Wt) (s g : Int) : (leaW l s g).length = l.length := by simp [leaW]
theorem leaN_snoc (l : List Wt) (s g : Int) (t : Wt) : leaN (l ++ [t]) s g = leaN l s g + if isWho s g t then 1 else 0 := by
  unfold leaN
  rw [List.countP_append]
  cases h : isWho s g t <;> simp [h]
theorem fndW_some {l : List Wt} {s g : Int} {i : Nat} (h : fndW l s g = some i) : ∃ hi : i < l.length, l[i].o = false ∧ l[i].r.ms = s ∧ l[i].r.mg = g := by
  obtain ⟨hi, h1, _⟩ := List.findIdx?_eq_some_iff_getElem.1 h
  unfold isMe at h1
  simp only [Bool.and_eq_true, decide_eq_true_eq, Bool.not_eq_true'] at h1
  exact ⟨hi, h1.1, h1.2.1, h1.2.2⟩

end Go.Proofs.Ytoabhmpakcgloaa
