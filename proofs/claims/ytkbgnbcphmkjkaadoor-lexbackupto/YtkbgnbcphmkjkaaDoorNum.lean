/- Numbers' texts: plain functions on lists of bytes, no program in it. -/
import Derived.Test.YtkbgnbcphmkjkaaDoorBase
import Derived.Lib.ItoaMem
import Derived.Lib.ParseIntB
namespace Go.Proofs.YtkbgnbcphmkjkaaDoor
open Go.Lib

def digs (c : UInt8) : Bool := decide (48 ≤ c.toNat) && decide (c.toNat ≤ 57)

/-- what digits spell behind what was spelt -/
def dval (acc : Nat) (l : List UInt8) : Nat := l.foldl (fun a c => a * 10 + (c.toNat - 48)) acc

theorem dval_nil (acc : Nat) : dval acc [] = acc := List.foldl_nil ..
theorem dval_cons (acc : Nat) (c : UInt8) (r : List UInt8) : dval acc (c :: r) = dval (acc * 10 + (c.toNat - 48)) r := List.foldl_cons ..

/-- the digits of a text -/
def mag (l : List UInt8) : List UInt8 :=
  match l with
  | [] => []
  | c :: r => if c.toNat = 45 then r else c :: r

def minus (l : List UInt8) : Bool :=
  match l with
  | [] => false
  | c :: _ => decide (c.toNat = 45)

/-- digits without a nought ahead -/
def plainDigits (d : List UInt8) : Prop := (∃ c r, d = c :: r ∧ ¬ c.toNat = 48) ∧ ∀ c ∈ d, digs c = true

/-- has a text a number's form? -/
def Formed (l : List UInt8) : Prop := l = [48] ∨ plainDigits (mag l)

theorem digs_iff {c : UInt8} : digs c = true ↔ 48 ≤ c.toNat ∧ c.toNat ≤ 57 := by
  unfold digs
  rw [Bool.and_eq_true, decide_eq_true_eq, decide_eq_true_eq]

theorem dval_append (a b : List UInt8) : ∀ acc, dval acc (a ++ b) = dval (dval acc a) b := by
  induction a with
  | nil => intro acc; rfl
  | cons c r ih => intro acc; exact ih _

theorem dval_ge (l : List UInt8) : ∀ acc, acc ≤ dval acc l := by
  induction l with
  | nil => intro acc; exact Nat.le_refl _
  | cons c r ih => intro acc; rw [dval_cons]; have := ih (acc * 10 + (c.toNat - 48)); omega

theorem dval_ge_pow (l : List UInt8) : ∀ acc, acc * 10 ^ l.length ≤ dval acc l := by
  induction l with
  | nil => intro acc; rw [dval_nil]; simp
  | cons c r ih =>
    intro acc
    have h := ih (acc * 10 + (c.toNat - 48))
    rw [dval_cons, List.length_cons]
    rw [Nat.pow_succ, Nat.mul_comm (10 ^ r.length) 10, ← Nat.mul_assoc]
    exact Nat.le_trans (Nat.mul_le_mul_right _ (by omega)) h

theorem dval_lt_pow (l : List UInt8) (h : ∀ c ∈ l, digs c = true) : ∀ acc, dval acc l < (acc + 1) * 10 ^ l.length := by
  induction l with
  | nil => intro acc; rw [dval_nil]; simp
  | cons c r ih =>
    intro acc
    have hc := digs_iff.1 (h c (by simp))
    have h2 := ih (fun x hx => h x (by simp [hx])) (acc * 10 + (c.toNat - 48))
    rw [dval_cons, List.length_cons]
    rw [Nat.pow_succ, Nat.mul_comm (10 ^ r.length) 10, ← Nat.mul_assoc]
    exact Nat.lt_of_lt_of_le h2 (Nat.mul_le_mul_right _ (by omega))

theorem plain_pos {d : List UInt8} (h : plainDigits d) : 10 ^ (d.length - 1) ≤ dval 0 d := by
  obtain ⟨⟨c, r, rfl, h0⟩, hd⟩ := h
  have hc := digs_iff.1 (hd c (by simp))
  have h2 := dval_ge_pow r (0 * 10 + (c.toNat - 48))
  rw [dval_cons, List.length_cons, Nat.add_sub_cancel]
  have h3 : 1 * 10 ^ r.length ≤ (0 * 10 + (c.toNat - 48)) * 10 ^ r.length := Nat.mul_le_mul_right _ (by omega)
  rw [Nat.one_mul] at h3
  exact Nat.le_trans h3 h2

theorem plain_one {d : List UInt8} (h : plainDigits d) : 1 ≤ dval 0 d := Nat.le_trans (Nat.pos_of_ne_zero (by simp)) (plain_pos h)

/-- the library's reader at digits -/
theorem parseM (l : List UInt8) (h : ∀ c ∈ l, digs c = true) : ∀ acc, acc ≤ 18446744073709551615 → parseUintM 18446744073709551615 acc l = if dval acc l ≤ 18446744073709551615 then .ok (dval acc l) else .range := by
  induction l with
  | nil => intro acc ha; rw [parseUintM, dval_nil, if_pos ha]
  | cons c r ih =>
    intro acc ha
    have hc := digs_iff.1 (h c (by simp))
    have hg := dval_ge r (acc * 10 + (c.toNat - 48))
    rw [parseUintM, if_pos hc]
    by_cases h1 : 1844674407370955162 ≤ acc
    · rw [if_pos h1, dval_cons, if_neg (by omega)]
    · rw [if_neg h1]
      by_cases h2 : 18446744073709551615 < acc * 10 + (c.toNat - 48)
      · rw [if_pos h2, dval_cons, if_neg (by omega)]
      · rw [if_neg h2, ih (fun x hx => h x (by simp [hx])) _ (by omega)]
        rfl

/-- what Parse answers of a text of a number's form -/
def pval (l : List UInt8) : Int := if minus l then -(dval 0 (mag l) : Int) else (dval 0 (mag l) : Int)
def lim (l : List UInt8) : Nat := if minus l then 9223372036854775808 else 9223372036854775807

theorem formed_digits {l : List UInt8} (h : Formed l) : mag l ≠ [] ∧ ∀ c ∈ mag l, digs c = true := by
  rcases h with rfl | ⟨⟨c, r, e, h0⟩, hd⟩
  · refine ⟨by decide, fun c hc => ?_⟩
    have e : mag [48] = [48] := by decide
    rw [e] at hc
    simp at hc
    subst hc
    decide
  · exact ⟨by rw [e]; simp, hd⟩

theorem parseU {d : List UInt8} (h0 : d ≠ []) (h : ∀ c ∈ d, digs c = true) : parseUintB 64 d = if dval 0 d ≤ 18446744073709551615 then .ok (dval 0 d) else .range := by
  unfold parseUintB
  rw [if_neg h0]
  exact parseM d h 0 (by decide)

theorem formed_head {c : UInt8} {r : List UInt8} (h : Formed (c :: r)) : (if c.toNat = 43 ∨ c.toNat = 45 then r else c :: r) = mag (c :: r) := by
  unfold mag
  by_cases h1 : c.toNat = 45
  · simp only [h1, or_true, if_true]
  · simp only [h1, or_false, if_false]
    by_cases h2 : c.toNat = 43
    · exfalso
      have hd := (formed_digits h).2 c (by unfold mag; simp only [h1, if_false]; simp)
      have := digs_iff.1 hd
      omega
    · rw [if_neg h2]

theorem parse_ok {l : List UInt8} (h : Formed l) (hv : dval 0 (mag l) ≤ lim l) : parseIntB 64 l = .ok (pval l) := by
  cases l with
  | nil => exact absurd rfl (formed_digits h).1
  | cons c r =>
    have hf := formed_digits h
    have e := formed_head h
    unfold parseIntB
    simp only []
    rw [e, parseU hf.1 hf.2]
    have hm : minus (c :: r) = decide (c.toNat = 45) := rfl
    unfold lim at hv
    unfold pval
    rw [hm] at hv ⊢
    by_cases h45 : c.toNat = 45
    · rw [decide_eq_true h45, if_pos rfl] at hv
      rw [if_pos (by omega), decide_eq_true h45]
      simp only [h45, not_true_eq_false, false_and, if_false, true_and, if_true]
      rw [if_neg (by omega)]
    · rw [decide_eq_false h45, if_neg (by decide)] at hv
      rw [if_pos (by omega), decide_eq_false h45]
      simp only [h45, not_false_eq_true, true_and, false_and, if_false, Bool.false_eq_true]
      rw [if_neg (by omega)]

theorem parse_range {l : List UInt8} (h : Formed l) (hv : ¬ dval 0 (mag l) ≤ lim l) : parseIntB 64 l = .range := by
  cases l with
  | nil => exact absurd rfl (formed_digits h).1
  | cons c r =>
    have hf := formed_digits h
    have e := formed_head h
    unfold parseIntB
    simp only []
    rw [e, parseU hf.1 hf.2]
    have hm : minus (c :: r) = decide (c.toNat = 45) := rfl
    unfold lim at hv
    rw [hm] at hv
    by_cases h1 : dval 0 (mag (c :: r)) ≤ 18446744073709551615
    · rw [if_pos h1]
      by_cases h45 : c.toNat = 45
      · rw [decide_eq_true h45, if_pos rfl] at hv
        simp only [h45, not_true_eq_false, false_and, if_false, true_and]
        rw [if_pos (by omega)]
      · rw [decide_eq_false h45, if_neg (by decide)] at hv
        simp only [h45, not_false_eq_true, true_and]
        rw [if_pos (by omega)]
    · rw [if_neg h1]

/-- there and back: a number's digits -/
theorem toNat_digit (x : Nat) (h : x < 10) : (UInt8.ofNat (48 + x)).toNat = 48 + x := by
  exact UInt8.toNat_ofNat_of_lt (by show 48 + x < 256; omega)

theorem dec_digits (u : Nat) : ∀ c ∈ decDigits u, digs c = true := by
  induction u using Nat.strongRecOn with
  | _ u ih =>
    intro c hc
    rw [decDigits] at hc
    by_cases h : u < 10
    · rw [dif_pos h] at hc
      rw [List.mem_singleton] at hc
      subst hc
      rw [digs_iff, toNat_digit u h]
      omega
    · rw [dif_neg h, List.mem_append] at hc
      rcases hc with hc | hc
      · exact ih (u / 10) (by omega) c hc
      · rw [List.mem_singleton] at hc
        subst hc
        rw [digs_iff, toNat_digit (u % 10) (by omega)]
        omega

theorem dec_val (u : Nat) : dval 0 (decDigits u) = u := by
  induction u using Nat.strongRecOn with
  | _ u ih =>
    rw [decDigits]
    by_cases h : u < 10
    · rw [dif_pos h]
      show 0 * 10 + ((UInt8.ofNat (48 + u)).toNat - 48) = u
      rw [toNat_digit u h]
      omega
    · rw [dif_neg h, dval_append, ih (u / 10) (by omega)]
      show u / 10 * 10 + ((UInt8.ofNat (48 + u % 10)).toNat - 48) = u
      rw [toNat_digit (u % 10) (by omega)]
      omega

theorem dec_plain (u : Nat) (h1 : 1 ≤ u) : plainDigits (decDigits u) := by
  refine ⟨?_, dec_digits u⟩
  induction u using Nat.strongRecOn with
  | _ u ih =>
    rw [decDigits]
    by_cases h : u < 10
    · rw [dif_pos h]
      exact ⟨_, [], rfl, by rw [toNat_digit u h]; omega⟩
    · rw [dif_neg h]
      obtain ⟨c, r, e, hc⟩ := ih (u / 10) (by omega) (by omega)
      exact ⟨c, r ++ [UInt8.ofNat (48 + u % 10)], by rw [e]; rfl, hc⟩

theorem dec_zero : decDigits 0 = [48] := by rw [decDigits, dif_pos (by decide)]; rfl

theorem mag_plain {d : List UInt8} (h : plainDigits d) : mag d = d ∧ minus d = false := by
  obtain ⟨⟨c, r, rfl, h0⟩, hd⟩ := h
  have hc := digs_iff.1 (hd c (by simp))
  unfold mag minus
  simp only
  rw [if_neg (by omega)]
  exact ⟨rfl, decide_eq_false (by omega)⟩

theorem itoa_parts (n : Int) : Formed (itoa n) ∧ mag (itoa n) = decDigits n.natAbs ∧ minus (itoa n) = decide (n < 0) := by
  unfold itoa
  by_cases h : n < 0
  · rw [if_pos h, decide_eq_true h]
    have hp := dec_plain n.natAbs (by omega)
    refine ⟨Or.inr (show plainDigits (mag (45 :: decDigits n.natAbs)) from ?_), rfl, rfl⟩
    exact hp
  · rw [if_neg h, decide_eq_false h]
    have e : n.toNat = n.natAbs := by omega
    rw [e]
    by_cases h0 : n.natAbs = 0
    · rw [h0, dec_zero]
      exact ⟨Or.inl rfl, by decide, by decide⟩
    · have hp := dec_plain n.natAbs (by omega)
      obtain ⟨h1, h2⟩ := mag_plain hp
      exact ⟨Or.inr (by rw [h1]; exact hp), h1, h2⟩

theorem itoa_val (n : Int) : pval (itoa n) = n := by
  obtain ⟨_, h2, h3⟩ := itoa_parts n
  unfold pval
  rw [h2, h3, dec_val]
  by_cases h : n < 0
  · rw [decide_eq_true h, if_pos rfl]; omega
  · rw [decide_eq_false h, if_neg (by decide)]; omega

theorem itoa_fits (n : Int) (h0 : -9223372036854775808 ≤ n) (h1 : n ≤ 9223372036854775807) : dval 0 (mag (itoa n)) ≤ lim (itoa n) := by
  obtain ⟨_, h2, h3⟩ := itoa_parts n
  unfold lim
  rw [h2, h3, dec_val]
  by_cases h : n < 0
  · rw [decide_eq_true h, if_pos rfl]; omega
  · rw [decide_eq_false h, if_neg (by decide)]; omega

/-- back and there: digits without a nought ahead are the digits of what they spell -/
theorem dec_of_plain : ∀ (n : Nat) (d : List UInt8), d.length = n → plainDigits d → decDigits (dval 0 d) = d := by
  intro n
  induction n with
  | zero =>
    intro d hl h
    obtain ⟨⟨c, r, rfl, _⟩, _⟩ := h
    simp at hl
  | succ n ih =>
    intro d hl h
    obtain ⟨d', x, rfl⟩ : ∃ d' x, d = d' ++ [x] := ⟨d.dropLast, d.getLast (by intro e; rw [e] at hl; simp at hl), (List.dropLast_concat_getLast _).symm⟩
    have hx := digs_iff.1 (h.2 x (by simp))
    have ex : UInt8.ofNat (48 + (x.toNat - 48)) = x := by
      rw [show 48 + (x.toNat - 48) = x.toNat from by omega]
      exact UInt8.ofNat_toNat
    rw [dval_append]
    show decDigits (dval 0 d' * 10 + (x.toNat - 48)) = d' ++ [x]
    by_cases h0 : d' = []
    · subst h0
      show decDigits (0 * 10 + (x.toNat - 48)) = [x]
      rw [Nat.zero_mul, Nat.zero_add, decDigits, dif_pos (by omega), ex]
    · have hp : plainDigits d' := by
        obtain ⟨⟨c, r, e, hc⟩, hd⟩ := h
        refine ⟨?_, fun y hy => hd y (by simp [hy])⟩
        cases d' with
        | nil => exact absurd rfl h0
        | cons c' r' =>
          simp at e
          exact ⟨c', r', rfl, by rw [e.1]; exact hc⟩
      have h1 := plain_one hp
      have e := ih d' (by simp at hl; omega) hp
      rw [decDigits, dif_neg (by omega)]
      rw [show (dval 0 d' * 10 + (x.toNat - 48)) / 10 = dval 0 d' from by omega, show (dval 0 d' * 10 + (x.toNat - 48)) % 10 = x.toNat - 48 from by omega, e, ex]

theorem formed_back {l : List UInt8} (h : Formed l) : itoa (pval l) = l := by
  rcases h with rfl | h
  · decide +kernel
  · have h1 := plain_one h
    have hd := dec_of_plain _ (mag l) rfl h
    unfold pval
    cases l with
    | nil => obtain ⟨⟨c, r, e, _⟩, _⟩ := h; cases e
    | cons c r =>
      have hm : minus (c :: r) = decide (c.toNat = 45) := rfl
      rw [hm]
      by_cases h45 : c.toNat = 45
      · rw [decide_eq_true h45, if_pos rfl, itoa_neg _ h1, hd]
        have ec : c = 45 := UInt8.toNat_inj.1 h45
        rw [ec]
        rfl
      · rw [decide_eq_false h45, if_neg (by decide), itoa_nonneg, hd]
        unfold mag
        simp only
        rw [if_neg h45]

end Go.Proofs.YtkbgnbcphmkjkaaDoor
