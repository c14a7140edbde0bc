/- Tokens: what stands at a source's beginning, and all of them: plain functions on lists of bytes, no program in it. -/
import Derived.Test.YtkbgnbcphmkjkaaDoorQm
import Derived.Test.YtkbgnbcphmkjkaaDoorForm
import Derived.Test.YtkbgnbcphmkjkaaDoorNm
namespace Go.Proofs.YtkbgnbcphmkjkaaDoor

/-- a letter or a digit -/
def ld (c : UInt8) : Bool := letter c.toNat || digit c.toNat

/-- how many letters and digits stand ahead -/
def runN : List UInt8 → Nat
  | [] => 0
  | c :: r => if ld c then runN r + 1 else 0

theorem runN_le (l : List UInt8) : runN l ≤ l.length := by
  induction l with
  | nil => exact Nat.le_refl _
  | cons c r ih =>
    unfold runN
    split
    · rw [List.length_cons]; omega
    · exact Nat.zero_le _

theorem runN_pos {c : UInt8} {r : List UInt8} (h : ld c = true) : 1 ≤ runN (c :: r) := by
  unfold runN
  rw [if_pos h]
  omega

/-- the signs -/
def sgl : List (List UInt8) := [[33, 61], [38, 38], [43, 43], [45, 45], [58, 61], [60, 45], [60, 61], [61, 61], [62, 61], [124, 124], [33], [37], [40], [41], [42], [43], [44], [45], [46], [47], [58], [59], [60], [61], [62], [123], [125]]

/-- the sign at a source's beginning -/
def sgn (l : List UInt8) : Option (List UInt8) := sgl.find? fun g => g.isPrefixOf l

/-- what stands at a source's beginning: its error, kind, text, number, and how many bytes it has -/
structure Tk where
  e : Int
  k : Int
  t : List UInt8
  n : Int
  len : Nat

def tkErr (e : Int) : Tk := ⟨e, 0, [], 0, 0⟩

/-- a word or a name -/
def tkName (l : List UInt8) : Tk :=
  if isWord ⟨(l.take (runN l)).toArray⟩ then ⟨0, 2, l.take (runN l), 0, runN l⟩ else if 30 < runN l then tkErr 35 else ⟨0, 1, l.take (runN l), 0, runN l⟩

def tkNum (l : List UInt8) : Tk := if pe (l.take (runN l)) = 0 then ⟨0, 3, [], pv (l.take (runN l)), runN l⟩ else tkErr 33

def tkText (l : List UInt8) : Tk := match unquote l with | some p => ⟨0, 4, p.1, 0, p.2⟩ | none => tkErr 34

def tkSign (l : List UInt8) : Tk := match sgn l with | some g => (if g = [59] then ⟨0, 6, [59], 0, 1⟩ else ⟨0, 5, g, 0, g.length⟩) | none => tkErr 32

def tk (l : List UInt8) : Tk :=
  match l with
  | [] => tkErr 32
  | c :: _ => if letter c.toNat then tkName l else if digit c.toNat then tkNum l else if c.toNat = 34 then tkText l else tkSign l

/-- how many bytes of a comment stand ahead -/
def upTo10 : List UInt8 → Nat
  | [] => 0
  | c :: r => if c.toNat = 10 then 0 else upTo10 r + 1

def cmt (l : List UInt8) : Nat :=
  match l with
  | a :: b :: _ => if a.toNat = 47 ∧ b.toNat = 47 then upTo10 l else 0
  | _ => 0

theorem upTo10_le (l : List UInt8) : upTo10 l ≤ l.length := by
  induction l with
  | nil => exact Nat.le_refl _
  | cons c r ih =>
    unfold upTo10
    split
    · exact Nat.zero_le _
    · rw [List.length_cons]; omega

theorem cmt_le (l : List UInt8) : cmt l ≤ l.length := by
  unfold cmt
  split
  · split
    · exact upTo10_le _
    · exact Nat.zero_le _
  · exact Nat.zero_le _

/-- does a text stand in a list? -/
def has (xs : List (List UInt8)) (s : List UInt8) : Bool := xs.contains s

/-- words and signs that call for a semicolon -/
def callW : List (List UInt8) := [[98, 114, 101, 97, 107], [99, 111, 110, 116, 105, 110, 117, 101], [114, 101, 116, 117, 114, 110], [105, 110, 116], [98, 111, 111, 108], [77, 117, 116, 101, 120], [87, 97, 105, 116, 71, 114, 111, 117, 112], [116, 114, 117, 101], [102, 97, 108, 115, 101], [110, 105, 108]]
def callS : List (List UInt8) := [[41], [125], [43, 43], [45, 45]]

/-- does a token of that kind and text call for a semicolon at its line's end? -/
def callsK (k : Int) (t : List UInt8) : Bool :=
  if k = 1 ∨ k = 3 ∨ k = 4 then true else if k = 2 then has callW t else if k = 5 then has callS t else false

structure Tok where
  k : Int
  t : List UInt8
  n : Int
  at_ : Nat
  line : Nat

def semiAt (a l : Nat) : Tok := ⟨6, [10], 0, a, l⟩
def endAt (a l : Nat) : Tok := ⟨0, [], 0, a, l⟩

/-- what is told from a place on: the tokens, or the first fault's place and error; k, t: the last token of this line -/
def scanFrom : Nat → List UInt8 → Nat → Nat → Int → List UInt8 → Except (Nat × Int) (List Tok)
  | 0, _, _, _, _, _ => .ok []
  | f + 1, l, a, ln, k, t =>
    match l with
    | [] => .ok ((if callsK k t then [semiAt a ln] else []) ++ [endAt a ln])
    | c :: r =>
      if 0 < cmt (c :: r) then scanFrom f ((c :: r).drop (cmt (c :: r))) (a + cmt (c :: r)) ln k t
      else if c.toNat = 10 then (scanFrom f r (a + 1) (ln + 1) 0 []).map fun x => (if callsK k t then [semiAt a ln] else []) ++ x
      else if c.toNat = 32 ∨ c.toNat = 9 ∨ c.toNat = 13 then scanFrom f r (a + 1) ln k t
      else if (tk (c :: r)).e = 0 then (scanFrom f ((c :: r).drop (tk (c :: r)).len) (a + (tk (c :: r)).len) ln (tk (c :: r)).k (tk (c :: r)).t).map fun x => ⟨(tk (c :: r)).k, (tk (c :: r)).t, (tk (c :: r)).n, a, ln⟩ :: x
      else .error (a, (tk (c :: r)).e)

/-- all tokens of a source -/
def scan (l : List UInt8) : Except (Nat × Int) (List Tok) := if 20000 < l.length then .error (0, 31) else scanFrom (l.length + 1) l 0 1 0 []

theorem sgn_mem {l g : List UInt8} (h : sgn l = some g) : g ∈ sgl ∧ g.isPrefixOf l = true := by
  unfold sgn at h
  exact ⟨List.mem_of_find?_eq_some h, List.find?_some (p := fun g : List UInt8 => g.isPrefixOf l) h⟩

theorem sgl_len (g : List UInt8) (h : g ∈ sgl) : 1 ≤ g.length ∧ g.length ≤ 2 := by
  have key : ∀ g ∈ sgl, 1 ≤ g.length ∧ g.length ≤ 2 := by decide
  exact key g h

theorem unq_len {l t : List UInt8} {k : Nat} (h : unquote l = some (t, k)) : 2 ≤ k ∧ k ≤ l.length := by
  unfold unquote at h
  cases l with
  | nil => cases h
  | cons c r =>
    simp only at h
    by_cases hc : c.toNat = 34
    · rw [if_pos hc] at h
      cases hr : unq r with
      | none => rw [hr] at h; cases h
      | some p =>
        obtain ⟨t', k'⟩ := p
        rw [hr] at h
        simp only [Option.map, Option.some.injEq, Prod.mk.injEq] at h
        obtain ⟨rfl, rfl⟩ := h
        obtain ⟨a1, a2, _⟩ := unq_ends _ r t' k' (Nat.le_refl _) hr
        rw [List.length_cons]
        omega
    · rw [if_neg hc] at h; cases h

/-- a token has a byte, and no more than there are -/
theorem tk_len {l : List UInt8} (h : (tk l).e = 0) : 1 ≤ (tk l).len ∧ (tk l).len ≤ l.length := by
  cases l with
  | nil => exact absurd h (by unfold tk tkErr; decide)
  | cons c r =>
    unfold tk at h ⊢
    simp only at h ⊢
    by_cases h1 : letter c.toNat = true
    · rw [if_pos h1] at h ⊢
      have hp := runN_pos (c := c) (r := r) (by unfold ld; rw [h1]; rfl)
      have hl := runN_le (c :: r)
      unfold tkName at h ⊢
      split
      · exact ⟨hp, hl⟩
      · rename_i hw
        rw [if_neg hw] at h
        split
        · rename_i hn
          rw [if_pos hn] at h
          exact absurd h (by unfold tkErr; simp)
        · exact ⟨hp, hl⟩
    rw [if_neg h1] at h ⊢
    by_cases h2 : digit c.toNat = true
    · rw [if_pos h2] at h ⊢
      have hp := runN_pos (c := c) (r := r) (by unfold ld; rw [h2, Bool.or_true])
      have hl := runN_le (c :: r)
      unfold tkNum at h ⊢
      split
      · exact ⟨hp, hl⟩
      · rename_i hw
        rw [if_neg hw] at h
        exact absurd h (by unfold tkErr; simp)
    rw [if_neg h2] at h ⊢
    by_cases h3 : c.toNat = 34
    · rw [if_pos h3] at h ⊢
      unfold tkText at h ⊢
      cases hu : unquote (c :: r) with
      | none => rw [hu] at h; exact absurd h (by unfold tkErr; simp)
      | some p =>
        obtain ⟨t, k⟩ := p
        have := unq_len hu
        simp only
        omega
    · rw [if_neg h3] at h ⊢
      unfold tkSign at h ⊢
      cases hs : sgn (c :: r) with
      | none => rw [hs] at h; exact absurd h (by unfold tkErr; simp)
      | some g =>
        obtain ⟨m1, m2⟩ := sgn_mem hs
        have hl := sgl_len g m1
        have hp := (List.isPrefixOf_iff_prefix.1 m2).length_le
        simp only
        split
        · rename_i hg
          rw [List.length_cons]
          simp only
          omega
        · simp only
          omega

end Go.Proofs.YtkbgnbcphmkjkaaDoor
