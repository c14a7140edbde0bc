/- Layer 10: all things that were taken ever, on lists alone. -/
import Derived.Test.YtjilnmeegolpkaaBase
namespace Go.Proofs.Ytjilnmeegolpkaa
open Go.RowKit

/-- a thing that was taken: its slot, its generation, what it is, whether it is gone -/
structure ThG (α : Type) where
  s : Int
  g : Int
  x : α
  d : Bool
abbrev Th := ThG Int

variable {α : Type}

/-- the place of the thing of a handle that lives -/
def fndF (s g : Int) : List (ThG α) → Nat → Option Nat
  | [], _ => none
  | t :: l, k => if (decide (t.s = s) && decide (t.g = g)) && !t.d then some k else fndF s g l (k + 1)
def fnd (l : List (ThG α)) (s g : Int) : Option Nat := fndF s g l 0
/-- as the document tells it -/
def ix : Option Nat → Int
  | none => -1
  | some i => i
/-- how many live -/
def cnt (l : List (ThG α)) : Nat := l.countP fun t => !t.d
/-- does something live in the slot -/
def usd (l : List (ThG α)) (s : Int) : Bool := l.any fun t => decide (t.s = s) && !t.d
/-- how many the slot has had -/
def gens (l : List (ThG α)) (s : Int) : Nat := l.countP fun t => decide (t.s = s)
/-- the first empty slot of n, from s on -/
def emp (l : List (ThG α)) : Nat → Int → Option Int
  | 0, _ => none
  | n + 1, s => if usd l s then emp l n (s + 1) else some s

def tkn (l : List (ThG α)) (s : Int) (x : α) : List (ThG α) := l ++ [⟨s, gens l s + 1, x, false⟩]
def fre (l : List (ThG α)) (i : Nat) : List (ThG α) := l.modify i fun t => { t with d := true }
def sett (l : List (ThG α)) (i : Nat) (x : α) : List (ThG α) := l.modify i fun t => { t with x := x }

theorem modify_set {β : Type} (f : β → β) : ∀ (l : List β) (i : Nat) (h : i < l.length), l.modify i f = l.set i (f l[i])
  | x :: l, 0, _ => rfl
  | x :: l, i + 1, h => by
    rw [List.modify_succ_cons, List.set_cons_succ, modify_set f l i (by simpa using h)]
    rfl
theorem cnt_snoc (l : List (ThG α)) (t : ThG α) : cnt (l ++ [t]) = cnt l + if t.d then 0 else 1 := by
  unfold cnt
  rw [List.countP_append]
  cases h : t.d <;> simp [h]
theorem cnt_le (l : List (ThG α)) : cnt l ≤ l.length := List.countP_le_length
theorem gens_le (l : List (ThG α)) (s : Int) : gens l s ≤ l.length := List.countP_le_length

theorem fndF_some {s g : Int} : ∀ {l : List (ThG α)} {k i : Nat}, fndF s g l k = some i → k ≤ i ∧ i < k + l.length ∧ ∃ h : i - k < l.length, l[i - k].s = s ∧ l[i - k].g = g ∧ l[i - k].d = false
  | [], k, i, h => by cases h
  | t :: l, k, i, h => by
    unfold fndF at h
    split at h
    · rename_i hc
      cases h
      simp only [Bool.and_eq_true, decide_eq_true_eq, Bool.not_eq_true'] at hc
      exact ⟨Nat.le_refl _, by simp, by simp, by simp [hc]⟩
    · obtain ⟨h1, h2, h3, h4⟩ := fndF_some h
      have e : i - k = (i - (k + 1)) + 1 := by omega
      refine ⟨by omega, by simp; omega, by simp; omega, ?_⟩
      simp only [e, List.getElem_cons_succ]
      exact h4
theorem fnd_some {s g : Int} {l : List (ThG α)} {i : Nat} (h : fnd l s g = some i) : ∃ h : i < l.length, l[i].s = s ∧ l[i].g = g ∧ l[i].d = false := by
  obtain ⟨_, _, h3, h4⟩ := fndF_some h
  exact ⟨h3, h4⟩
theorem fndF_none {s g : Int} : ∀ {l : List (ThG α)} {k : Nat}, fndF s g l k = none → ∀ t ∈ l, t.s = s → t.g = g → t.d = true
  | [], k, _ => by simp
  | t :: l, k, h => by
    unfold fndF at h
    split at h
    · cases h
    · rename_i hc
      intro u hu
      rcases List.mem_cons.1 hu with rfl | hu
      · intro h1 h2
        cases hd : u.d
        · exact absurd (by simp [h1, h2, hd]) hc
        · rfl
      · exact fndF_none h u hu

end Go.Proofs.Ytjilnmeegolpkaa
