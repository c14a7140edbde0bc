/- Types' texts on lists of bytes: taken apart, measured, made; no program. -/
import Derived.Test.YtkbgnbcphmkjkaaBase
import Derived.Lib.Strings
namespace Go.Proofs.Ytkbgnbcphmkjkaa
open Go.RowKit

def hp (p l : List UInt8) : Bool := Lib.hasPrefix l p
def hs (p l : List UInt8) : Bool := Lib.hasSuffix l p

def pS : List UInt8 := [99, 104, 97, 110, 60, 45, 32]
def pR : List UInt8 := [60, 45, 99, 104, 97, 110, 32]
def pB : List UInt8 := [99, 104, 97, 110, 32]
def ar : List UInt8 := [60, 45]
def tInt : List UInt8 := [105, 110, 116]
def tBool : List UInt8 := [98, 111, 111, 108]
def tMutex : List UInt8 := [77, 117, 116, 101, 120]
def tGroup : List UInt8 := [87, 97, 105, 116, 71, 114, 111, 117, 112]
def tNil : List UInt8 := [110, 105, 108]

def base (l : List UInt8) : Bool := decide (l = tInt) || decide (l = tBool) || decide (l = tMutex) || decide (l = tGroup)

/-- what lies between the brackets -/
def inn (e : List UInt8) : List UInt8 := (e.drop 1).take ((e.drop 1).length - 1)

def peelB (e : List UInt8) : Option (Nat × List UInt8) :=
  if hp [40] e then (if hs [41] (e.drop 1) then (if hp ar (inn e) then some (0, inn e) else none) else none)
  else if hp ar e then none else some (0, e)

def peel (l : List UInt8) : Option (Nat × List UInt8) :=
  if hp pS l then some (1, l.drop 7) else if hp pR l then some (2, l.drop 7) else if hp pB l then peelB (l.drop 5) else none

def meas : Nat → List UInt8 → Option Nat
  | 0, _ => none
  | n + 1, l => if base l then some 0 else match peel l with | none => none | some (_, e) => (meas n e).map (· + 1)

def right (l : List UInt8) : Bool := (meas 41 l).isSome
def depth (l : List UInt8) : Nat := (meas 41 l).getD 0
def splt (l : List UInt8) : Option (Nat × List UInt8) := if right l then peel l else none
def mk (d : Nat) (l : List UInt8) : List UInt8 := if d = 1 then pS ++ l else if d = 2 then pR ++ l else if hp ar l then pB ++ [40] ++ l ++ [41] else pB ++ l
def chanOk (d : Int) (l : List UInt8) : Bool := decide (0 ≤ d) && decide (d ≤ 2) && right l && !decide (depth l = 40)

def hasNil (l : List UInt8) : Bool := !decide (l = tInt) && !decide (l = tBool)
def narrows (f t : List UInt8) : Bool := match splt f, splt t with | some (d, e), some (_, e') => decide (d = 0) && decide (e = e') | _, _ => false
def asg (f t : List UInt8) : Bool := right t && (decide (f = t) || (if f = tNil then hasNil t else narrows f t))
def sends (l : List UInt8) : Bool := match splt l with | some (d, _) => !decide (d = 2) | none => false
def recvs (l : List UInt8) : Bool := match splt l with | some (d, _) => !decide (d = 1) | none => false
def cmps (a b : List UInt8) : Bool := asg a b || asg b a

theorem hp_iff (p l : List UInt8) : hp p l = true ↔ ∃ r, l = p ++ r := by
  unfold hp Lib.hasPrefix
  rw [List.isPrefixOf_iff_prefix]
  constructor
  · rintro ⟨r, h⟩; exact ⟨r, h.symm⟩
  · rintro ⟨r, h⟩; exact ⟨r, h.symm⟩

theorem hp_app (p r : List UInt8) : hp p (p ++ r) = true := (hp_iff _ _).2 ⟨r, rfl⟩

theorem hs_iff (p l : List UInt8) : hs p l = true ↔ ∃ r, l = r ++ p := by
  unfold hs Lib.hasSuffix
  rw [List.isSuffixOf_iff_suffix]
  constructor
  · rintro ⟨r, h⟩; exact ⟨r, h.symm⟩
  · rintro ⟨r, h⟩; exact ⟨r, h.symm⟩

theorem hp_cons (a b : UInt8) (p l : List UInt8) : hp (a :: p) (b :: l) = (a == b && hp p l) := by
  unfold hp Lib.hasPrefix; rfl
theorem hp_nil (l : List UInt8) : hp [] l = true := by unfold hp Lib.hasPrefix; cases l <;> rfl

theorem peelB_some {e : List UInt8} {d : Nat} {x : List UInt8} (h : peelB e = some (d, x)) : d = 0 ∧ ((hp ar x = true ∧ e = [40] ++ x ++ [41]) ∨ (hp ar x = false ∧ x = e)) := by
  unfold peelB at h
  split at h
  · rename_i h1
    split at h
    · rename_i h2
      split at h
      · rename_i h3
        cases h
        obtain ⟨r, rfl⟩ := (hp_iff _ _).1 h1
        obtain ⟨q, hq⟩ := (hs_iff _ _).1 h2
        have hq' : r = q ++ [41] := hq
        subst hq'
        have hi : inn ([40] ++ (q ++ [41])) = q := by simp [inn]
        rw [hi] at h3 ⊢
        exact ⟨rfl, Or.inl ⟨h3, by simp⟩⟩
      · cases h
    · cases h
  · split at h
    · cases h
    · rename_i h2
      cases h
      exact ⟨rfl, Or.inr ⟨by simpa using h2, rfl⟩⟩

theorem drop_app {p l : List UInt8} (h : hp p l = true) : l = p ++ l.drop p.length := by
  obtain ⟨r, rfl⟩ := (hp_iff _ _).1 h
  simp

/-- what is taken apart is what would be made -/
theorem peel_mk {l : List UInt8} {d : Nat} {e : List UInt8} (h : peel l = some (d, e)) : l = mk d e ∧ d ≤ 2 := by
  unfold peel at h
  split at h
  · rename_i h1
    cases h
    exact ⟨by unfold mk; rw [if_pos rfl]; exact drop_app h1, by omega⟩
  split at h
  · rename_i h1
    cases h
    exact ⟨by unfold mk; rw [if_neg (by omega), if_pos rfl]; exact drop_app h1, by omega⟩
  split at h
  · rename_i h1
    obtain ⟨rfl, h2 | h2⟩ := peelB_some h
    · refine ⟨?_, by omega⟩
      unfold mk
      rw [if_neg (by omega), if_neg (by omega), if_pos h2.1]
      have := drop_app h1
      rw [show pB.length = 5 from rfl, h2.2] at this
      rw [this]; simp
    · refine ⟨?_, by omega⟩
      unfold mk
      rw [if_neg (by omega), if_neg (by omega), if_neg (by rw [h2.1]; simp), h2.2]
      exact drop_app h1
  · cases h

theorem mk_len (d : Nat) (e : List UInt8) : e.length < (mk d e).length := by
  unfold mk
  repeat' split
  all_goals (simp [pS, pR, pB]; try omega)

theorem peel_len {l : List UInt8} {d : Nat} {e : List UInt8} (h : peel l = some (d, e)) : e.length < l.length := by
  rw [(peel_mk h).1]; exact mk_len d e

/-- a text that opens with a bracket is no type's -/
theorem brack (r : List UInt8) : base (40 :: r) = false ∧ peel (40 :: r) = none := by
  constructor
  · simp [base, tInt, tBool, tMutex, tGroup]
  · simp [peel, pS, pR, pB, hp_cons]

theorem base_peel {l : List UInt8} (h : base l = true) : peel l = none := by
  unfold base at h
  simp only [Bool.or_eq_true, decide_eq_true_eq] at h
  rcases h with ((rfl | rfl) | rfl) | rfl <;> decide

theorem meas_lt : ∀ {n : Nat} {l : List UInt8} {k : Nat}, meas n l = some k → k < n
  | 0, _, _, h => by simp [meas] at h
  | n + 1, l, k, h => by
    unfold meas at h
    split at h
    · cases h; omega
    · split at h
      · cases h
      · rename_i e _
        cases hm : meas n e with
        | none => rw [hm] at h; cases h
        | some j =>
          rw [hm] at h
          have := meas_lt hm
          have h' : j + 1 = k := Option.some.inj h
          omega

theorem meas_more : ∀ {n m : Nat} {l : List UInt8} {k : Nat}, meas n l = some k → k < m → meas m l = some k
  | 0, _, _, _, h, _ => by simp [meas] at h
  | n + 1, 0, l, k, h, hm => by omega
  | n + 1, m + 1, l, k, h, hm => by
    unfold meas at h ⊢
    split
    · rename_i hb; rw [if_pos hb] at h; exact h
    · rename_i hb
      rw [if_neg hb] at h
      split at h
      · cases h
      · rename_i e _
        cases he : meas n e with
        | none => rw [he] at h; cases h
        | some j =>
          rw [he] at h
          have h' : j + 1 = k := Option.some.inj h
          rw [meas_more he (show j < m by omega)]
          exact h

theorem right_meas {l : List UInt8} (h : right l = true) : ∃ k, meas 41 l = some k ∧ depth l = k ∧ k ≤ 40 := by
  unfold right at h
  cases hm : meas 41 l with
  | none => rw [hm] at h; cases h
  | some k => exact ⟨k, rfl, by unfold depth; rw [hm]; rfl, by have := meas_lt hm; omega⟩

theorem right_not {l : List UInt8} (h : right l = false) : meas 41 l = none ∧ depth l = 0 := by
  unfold right at h
  cases hm : meas 41 l with
  | none => exact ⟨rfl, by unfold depth; rw [hm]; rfl⟩
  | some k => rw [hm] at h; cases h

/-- a type's text does not open with a bracket -/
theorem right_head {l : List UInt8} (h : right l = true) : hp [40] l = false := by
  cases hb : hp [40] l with
  | false => rfl
  | true =>
    obtain ⟨r, rfl⟩ := (hp_iff _ _).1 hb
    obtain ⟨k, hk, _⟩ := right_meas h
    unfold meas at hk
    rw [if_neg (by rw [show [40] ++ r = 40 :: r from rfl, (brack r).1]; simp), show [40] ++ r = 40 :: r from rfl, (brack r).2] at hk
    cases hk

theorem inn_app (l : List UInt8) : inn ([40] ++ l ++ [41]) = l := by simp [inn]

theorem mk_peel {l : List UInt8} {d : Nat} (hd : d ≤ 2) (h : right l = true) : peel (mk d l) = some (d, l) := by
  have hh := right_head h
  unfold mk
  split
  · rename_i e; subst e
    unfold peel
    rw [if_pos (hp_app _ _)]
    rfl
  split
  · rename_i e; subst e
    unfold peel
    rw [if_neg (by simp [pS, pR, hp_cons]), if_pos (hp_app _ _)]
    rfl
  have e : d = 0 := by omega
  subst e
  split
  · rename_i ha
    unfold peel
    rw [if_neg (by simp [pS, pB, hp_cons]), if_neg (by simp [pR, pB, hp_cons]), if_pos (by rw [List.append_assoc, List.append_assoc]; exact hp_app _ _)]
    have e5 : List.drop 5 (pB ++ [40] ++ l ++ [41]) = [40] ++ l ++ [41] := by simp [pB]
    rw [e5]
    unfold peelB
    rw [if_pos (by rw [List.append_assoc]; exact hp_app _ _), if_pos ((hs_iff _ _).2 ⟨l, by simp⟩), inn_app, if_pos ha]
  · rename_i ha
    unfold peel
    rw [if_neg (by
      intro hc
      obtain ⟨r, hr⟩ := (hp_iff _ _).1 hc
      simp [pS, pB] at hr), if_neg (by simp [pR, pB, hp_cons]), if_pos (hp_app _ _)]
    have e5 : List.drop 5 (pB ++ l) = l := by simp [pB]
    rw [e5]
    unfold peelB
    rw [if_neg (by rw [hh]; simp), if_neg ha]

theorem base_mk (d : Nat) (l : List UInt8) : base (mk d l) = false := by
  unfold mk base
  repeat' split
  all_goals simp [pS, pR, pB, tInt, tBool, tMutex, tGroup]

theorem mk_meas {l : List UInt8} {d : Nat} (hd : d ≤ 2) (h : right l = true) (hk : depth l ≠ 40) : meas 41 (mk d l) = some (depth l + 1) := by
  obtain ⟨k, h1, h2, h3⟩ := right_meas h
  unfold meas
  rw [if_neg (by rw [base_mk]; simp), mk_peel hd h]
  simp only
  rw [meas_more h1 (show k < 40 by omega), h2]
  rfl

theorem mk_right {l : List UInt8} {d : Nat} (hd : d ≤ 2) (h : right l = true) (hk : depth l ≠ 40) : right (mk d l) = true := by
  unfold right; rw [mk_meas hd h hk]; rfl
theorem mk_depth {l : List UInt8} {d : Nat} (hd : d ≤ 2) (h : right l = true) (hk : depth l ≠ 40) : depth (mk d l) = depth l + 1 := by
  unfold depth; rw [mk_meas hd h hk]; rfl
theorem mk_splt {l : List UInt8} {d : Nat} (hd : d ≤ 2) (h : right l = true) (hk : depth l ≠ 40) : splt (mk d l) = some (d, l) := by
  unfold splt; rw [if_pos (mk_right hd h hk), mk_peel hd h]

theorem splt_mk {l : List UInt8} {d : Nat} {e : List UInt8} (h : splt l = some (d, e)) : l = mk d e ∧ d ≤ 2 := by
  unfold splt at h
  split at h
  · exact peel_mk h
  · cases h

theorem mk_inj {l : List UInt8} {d k : Nat} (hd : d ≤ 2) (hk : k ≤ 2) (h : right l = true) (e : mk d l = mk k l) : d = k := by
  have h1 := mk_peel hd h
  rw [e, mk_peel hk h] at h1
  exact (Prod.mk.inj (Option.some.inj h1)).1.symm

theorem mk_nil (d : Nat) (l : List UInt8) : mk d l ≠ tNil := by
  unfold mk
  repeat' split
  all_goals simp [pS, pR, pB, tNil]

theorem mk_int (d : Nat) (l : List UInt8) : hasNil (mk d l) = true := by
  have h := base_mk d l
  unfold base at h
  unfold hasNil
  simp only [Bool.or_eq_false_iff] at h
  rw [h.1.1.1, h.1.1.2]
  rfl

theorem asg_ways {l : List UInt8} {d k : Nat} (hd : d ≤ 2) (hk : k ≤ 2) (h : right l = true) (h4 : depth l ≠ 40) : asg (mk d l) (mk k l) = (decide (k = d) || decide (d = 0)) := by
  unfold asg
  rw [mk_right hk h h4, if_neg (mk_nil d l), Bool.true_and]
  unfold narrows
  rw [mk_splt hd h h4, mk_splt hk h h4]
  simp only [decide_true, Bool.and_true]
  by_cases e : k = d
  · subst e; simp
  · rw [decide_eq_false e, decide_eq_false (fun hc => e (mk_inj hd hk h hc).symm)]

theorem asg_nil {l : List UInt8} {d : Nat} (hd : d ≤ 2) (h : right l = true) (h4 : depth l ≠ 40) : asg tNil (mk d l) = true := by
  unfold asg
  rw [mk_right hd h h4, if_pos rfl, mk_int]
  simp

theorem asg_self {l : List UInt8} {d : Nat} (hd : d ≤ 2) (h : right l = true) (h4 : depth l ≠ 40) : asg (mk d l) l = false := by
  have hl := mk_len d l
  unfold asg
  rw [h, if_neg (mk_nil d l), Bool.true_and, decide_eq_false (fun hc => by rw [hc] at hl; omega), Bool.false_or]
  unfold narrows
  rw [mk_splt hd h h4]
  cases hs : splt l with
  | none => rfl
  | some p =>
    obtain ⟨x, e⟩ := p
    have hn : decide (l = e) = false := decide_eq_false (fun hc => by
      have := (splt_mk hs).1
      have h2 := mk_len x e
      rw [← this, ← hc] at h2
      omega)
    simp only
    rw [hn, Bool.and_false]

end Go.Proofs.Ytkbgnbcphmkjkaa
