/- Layer 10: SlotsSeen, on lists: what is taken first, what may stand in its place behind. -/
import Derived.Test.YtjilnmeegolpkaaWg
import Derived.Test.YtjilnmeegolpkaaSf
namespace Go.Proofs.Ytjilnmeegolpkaa
open Go.RowKit

section
variable {α : Type}

/-- things taken one after the other: slots 1, 2, .., each of the first generation -/
def row1 (xs : List α) : List (ThG α) := xs.mapIdx fun i x => ⟨(i : Int) + 1, 1, x, false⟩
theorem row1_len (xs : List α) : (row1 xs).length = xs.length := by simp [row1]
theorem row1_get (xs : List α) (i : Nat) (h : i < (row1 xs).length) : (row1 xs)[i] = ⟨(i : Int) + 1, 1, xs[i]'(by simpa [row1] using h), false⟩ := by simp [row1]
theorem usd_row1 (xs : List α) (s : Int) : usd (row1 xs) s = decide (1 ≤ s ∧ s ≤ xs.length) := by
  rw [Bool.eq_iff_iff, decide_eq_true_eq]
  unfold usd
  rw [List.any_eq_true]
  constructor
  · rintro ⟨t, ht, h⟩
    obtain ⟨i, hi, rfl⟩ := List.getElem_of_mem ht
    rw [row1_get] at h
    rw [row1_len] at hi
    simp at h
    omega
  · rintro ⟨h1, h2⟩
    refine ⟨(row1 xs)[(s - 1).toNat]'(by rw [row1_len]; omega), List.getElem_mem _, ?_⟩
    rw [row1_get]
    simp
    omega
theorem gens_row1 (xs : List α) : gens (row1 xs) ((xs.length : Int) + 1) = 0 := by
  unfold gens
  rw [List.countP_eq_zero]
  intro t ht
  obtain ⟨i, hi, rfl⟩ := List.getElem_of_mem ht
  rw [row1_get]
  rw [row1_len] at hi
  simp
  omega
theorem emp_row1 (xs : List α) : ∀ (n : Nat) (s : Nat), s ≤ xs.length → xs.length < s + n → emp (row1 xs) n ((s : Int) + 1) = some ((xs.length : Int) + 1)
  | 0, s, h1, h2 => by omega
  | n + 1, s, h1, h2 => by
    unfold emp
    rw [usd_row1]
    by_cases h : s < xs.length
    · rw [if_pos (by simp; omega)]
      have := emp_row1 xs n (s + 1) (by omega) (by omega)
      rw [← this]
      congr 1
    · have : s = xs.length := by omega
      subst this
      rw [if_neg (by simp; omega)]
theorem row1_snoc (xs : List α) (x : α) : row1 (xs ++ [x]) = row1 xs ++ [⟨(xs.length : Int) + 1, 1, x, false⟩] := by simp [row1]
/-- one more -/
theorem row1_take (xs : List α) {M : Nat} (h : xs.length < M) (x : α) : tkd (row1 xs) M x = row1 (xs ++ [x]) ∧ tkS (row1 xs) M = (xs.length : Int) + 1 ∧ tkG (row1 xs) M = 1 ∧ tkB (row1 xs) M = true := by
  have e := emp_row1 xs M 0 (Nat.zero_le _) (by omega)
  rw [show ((0 : Nat) : Int) + 1 = 1 from rfl] at e
  unfold tkd tkS tkG tkB
  rw [e, row1_snoc]
  simp [tkn, gens_row1]
theorem row1_wf (xs : List α) {M : Nat} (h : xs.length ≤ M) : Wf (row1 xs) M ∧ Lt (row1 xs) := by
  have key : ∀ n, n ≤ xs.length → Wf (row1 (xs.take n)) M ∧ Lt (row1 (xs.take n)) := by
    intro n
    induction n with
    | zero => intro _; exact ⟨Wf.nil M, Lt.nil⟩
    | succ n ih =>
      intro hn
      obtain ⟨h1, h2⟩ := ih (by omega)
      rw [List.take_succ_eq_append_getElem (by omega), ← (row1_take (xs.take n) (M := M) (by rw [List.length_take]; omega) _).1]
      exact ⟨h1.tkd _, h2.tkd M _⟩
  have := key xs.length (Nat.le_refl _)
  rwa [List.take_length] at this
/-- while few were ever taken there is room -/
theorem room {l : List (ThG α)} {M : Nat} (h : Wf l M) (hl : l.length < M) : tkB l M = true := by
  rw [h.full, decide_eq_true_eq]
  have := cnt_le l
  omega
theorem lvG_len (l : List (ThG α)) : (l.filter fun t => !t.d).length = cnt l := by
  unfold cnt
  rw [List.countP_eq_length_filter]
theorem lvG_row1 (xs : List α) : ((row1 xs).filter fun t => !t.d) = row1 xs := by
  rw [List.filter_eq_self]
  intro t ht
  obtain ⟨i, hi, rfl⟩ := List.getElem_of_mem ht
  rw [row1_get]
  rfl
/-- what lives is found by its handle, and is what it is -/
theorem lvG_fnd {l : List (ThG α)} {M : Nat} (h : Wf l M) {t : ThG α} (ht : t ∈ l.filter fun t => !t.d) : ∃ i, ∃ hi : i < l.length, l[i] = t ∧ fnd l t.s t.g = some i := by
  obtain ⟨h1, h2⟩ := List.mem_filter.1 ht
  obtain ⟨i, hi, rfl⟩ := List.getElem_of_mem h1
  exact ⟨i, hi, rfl, h.fnd_live hi (by simpa using h2)⟩
end

end Go.Proofs.Ytjilnmeegolpkaa
