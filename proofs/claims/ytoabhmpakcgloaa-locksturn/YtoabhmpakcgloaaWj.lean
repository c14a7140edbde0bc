/- Layer 11: where a wait is put, on lists alone. -/
import Derived.Test.YtoabhmpakcgloaaWm
namespace Go.Proofs.Ytoabhmpakcgloaa
open Go.RowKit

/-- does a wait that there is have the slot -/
def usdW (l : List Wt) (s : Int) : Bool := l.any fun t => !t.o && decide (t.r.ms = s)
/-- how many have had it -/
def genW (l : List Wt) (s : Int) : Nat := l.countP fun t => decide (t.r.ms = s)
/-- has somebody a wait with the arm already -/
def twW (l : List Wt) (s g a : Int) : Bool := l.any fun t => isWho s g t && decide (t.r.ar = a)
/-- the least slot that no wait has now -/
def slW (l : List Wt) : Nat := (((List.range (l.length + 1)).find? fun j : Nat => !usdW l ((j : Int) + 1)).getD 0) + 1

theorem usdW_snoc (l : List Wt) (t : Wt) (s : Int) : usdW (l ++ [t]) s = (usdW l s || (!t.o && decide (t.r.ms = s))) := by simp [usdW]
theorem genW_snoc (l : List Wt) (t : Wt) (s : Int) : genW (l ++ [t]) s = genW l s + if t.r.ms = s then 1 else 0 := by
  unfold genW
  rw [List.countP_append]
  by_cases h : t.r.ms = s <;> simp [h]
theorem genW_le (l : List Wt) (s : Int) : genW l s ≤ l.length := List.countP_le_length

def cntK (l : List Wt) (k : Nat) : Nat := l.countP fun t => !t.o && (decide (1 ≤ t.r.ms) && decide (t.r.ms ≤ (k : Int)))
theorem cntK_succ {l : List Wt} {k : Nat} (h : usdW l ((k : Int) + 1) = true) : cntK l k + 1 ≤ cntK l (k + 1) := by
  unfold cntK usdW at *
  induction l with
  | nil => cases h
  | cons t l ih =>
    rw [List.countP_cons, List.countP_cons]
    by_cases ht : (!t.o && decide (t.r.ms = (k : Int) + 1)) = true
    · simp only [Bool.and_eq_true, Bool.not_eq_true', decide_eq_true_eq] at ht
      have e1 : (!t.o && (decide (1 ≤ t.r.ms) && decide (t.r.ms ≤ (k : Int)))) = false := by
        rw [decide_eq_false (show ¬ t.r.ms ≤ (k : Int) by omega)]
        simp
      have e2 : (!t.o && (decide (1 ≤ t.r.ms) && decide (t.r.ms ≤ ((k + 1 : Nat) : Int)))) = true := by
        rw [ht.1, decide_eq_true (show 1 ≤ t.r.ms by omega), decide_eq_true (show t.r.ms ≤ ((k + 1 : Nat) : Int) by omega)]
        rfl
      rw [e1, e2]
      have : (l.countP fun t => !t.o && (decide (1 ≤ t.r.ms) && decide (t.r.ms ≤ (k : Int)))) ≤ l.countP fun t => !t.o && (decide (1 ≤ t.r.ms) && decide (t.r.ms ≤ ((k + 1 : Nat) : Int))) := by
        apply List.countP_mono_left
        intro x _ hx
        simp only [Bool.and_eq_true, Bool.not_eq_true', decide_eq_true_eq] at hx ⊢
        exact ⟨hx.1, hx.2.1, by omega⟩
      simp only [Bool.false_eq_true, if_false, if_true]
      omega
    · have h' : (l.any fun t => !t.o && decide (t.r.ms = (k : Int) + 1)) = true := by
        rw [List.any_cons] at h
        rcases Bool.or_eq_true_iff.1 h with h | h
        · exact absurd h ht
        · exact h
      have := ih h'
      have e : (!t.o && (decide (1 ≤ t.r.ms) && decide (t.r.ms ≤ (k : Int)))) = true → (!t.o && (decide (1 ≤ t.r.ms) && decide (t.r.ms ≤ ((k + 1 : Nat) : Int)))) = true := by
        intro hx
        simp only [Bool.and_eq_true, Bool.not_eq_true', decide_eq_true_eq] at hx ⊢
        exact ⟨hx.1, hx.2.1, by omega⟩
      by_cases hx : (!t.o && (decide (1 ≤ t.r.ms) && decide (t.r.ms ≤ (k : Int)))) = true
      · rw [if_pos hx, if_pos (e hx)]
        omega
      · rw [if_neg hx]
        omega
/-- so many slots in use: so many waits -/
theorem usd_many {l : List Wt} : ∀ (k : Nat), (∀ j : Nat, j < k → usdW l ((j : Int) + 1) = true) → k ≤ cntK l k
  | 0, _ => Nat.zero_le _
  | k + 1, h => by
    have h1 := usd_many k fun j hj => h j (by omega)
    have h2 := cntK_succ (h k (by omega))
    omega
theorem cntK_le (l : List Wt) (k : Nat) : cntK l k ≤ l.length := List.countP_le_length
theorem slW_is {l : List Wt} {k : Nat} (h : ∀ j : Nat, j < k → usdW l ((j : Int) + 1) = true) (hk : usdW l ((k : Int) + 1) = false) : slW l = k + 1 := by
  have hle : k ≤ l.length := Nat.le_trans (usd_many k h) (cntK_le l k)
  unfold slW
  have : (List.range (l.length + 1)).find? (fun j : Nat => !usdW l ((j : Int) + 1)) = some k := by
    rw [List.find?_range_eq_some]
    exact ⟨by simp [hk], by simp; omega, fun j hj => by simp [h j hj]⟩
  rw [this]
  rfl
theorem slW_le (l : List Wt) : slW l ≤ l.length + 1 := by
  unfold slW
  cases h : (List.range (l.length + 1)).find? fun j : Nat => !usdW l ((j : Int) + 1) with
  | none => simp
  | some j =>
    have := List.mem_of_find?_eq_some h
    rw [List.mem_range] at this
    simp
    omega
/-- slots as numbers of 32 bits -/
def FitW (l : List Wt) : Prop := ∀ t ∈ l, 0 ≤ t.r.ms ∧ t.r.ms ≤ 4294967295

end Go.Proofs.Ytoabhmpakcgloaa
