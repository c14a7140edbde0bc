/- Texts as they are written, and read: plain functions on lists of bytes, no program in it. -/
import Derived.Test.YtkbgnbcphmkjkaaDoorBase
namespace Go.Proofs.YtkbgnbcphmkjkaaDoor

/-- a byte as it is written -/
def esc (c : UInt8) : List UInt8 :=
  if c.toNat = 92 then [92, c] else if c.toNat = 34 then [92, c] else if c.toNat = 10 then [92, 110] else if c.toNat = 9 then [92, 116] else [c]

/-- bytes as they are written, without the signs ahead and behind -/
def escs : List UInt8 → List UInt8
  | [] => []
  | c :: r => esc c ++ escs r

/-- a text as it is written -/
def quo (l : List UInt8) : List UInt8 := 34 :: (escs l ++ [34])

/-- what stands for a byte behind a backslash -/
def mean (d : UInt8) : Option UInt8 :=
  if d.toNat = 92 then some d else if d.toNat = 34 then some d else if d.toNat = 110 then some 10 else if d.toNat = 116 then some 9 else none

/-- what is read behind the first sign: the text, and how many bytes it took -/
def unq : List UInt8 → Option (List UInt8 × Nat)
  | [] => none
  | c :: r =>
    if c.toNat = 34 then some ([], 1) else if c.toNat = 10 then none else if c.toNat = 92 then
      match r with
      | [] => none
      | d :: r' => match mean d with
        | none => none
        | some m => (unq r').map fun p => (m :: p.1, p.2 + 2)
    else (unq r).map fun p => (c :: p.1, p.2 + 1)

/-- what is read of a whole -/
def unquote (l : List UInt8) : Option (List UInt8 × Nat) :=
  match l with
  | [] => none
  | c :: r => if c.toNat = 34 then (unq r).map fun p => (p.1, p.2 + 1) else none

theorem unq_nil : unq [] = none := by rw [unq]
theorem unq_end {c : UInt8} {r : List UInt8} (h : c.toNat = 34) : unq (c :: r) = some ([], 1) := by cases r <;> simp [unq, h]
theorem unq_line {c : UInt8} {r : List UInt8} (h : c.toNat = 10) : unq (c :: r) = none := by cases r <;> simp [unq, h]
theorem unq_cut {c : UInt8} (h : c.toNat = 92) : unq [c] = none := by simp [unq, h]
theorem unq_bad {c d : UInt8} {r : List UInt8} (h : c.toNat = 92) (hd : mean d = none) : unq (c :: d :: r) = none := by simp [unq, h, hd]
theorem unq_esc {c d m : UInt8} {r : List UInt8} (h : c.toNat = 92) (hd : mean d = some m) : unq (c :: d :: r) = (unq r).map fun p => (m :: p.1, p.2 + 2) := by simp [unq, h, hd]
theorem unq_one {c : UInt8} {r : List UInt8} (h1 : ¬ c.toNat = 34) (h2 : ¬ c.toNat = 10) (h3 : ¬ c.toNat = 92) : unq (c :: r) = (unq r).map fun p => (c :: p.1, p.2 + 1) := by
  cases r <;> simp [unq, h1, h2, h3]

theorem escs_append (a b : List UInt8) : escs (a ++ b) = escs a ++ escs b := by
  induction a with
  | nil => rfl
  | cons c r ih => simp [escs, ih]

theorem esc_len (c : UInt8) : (esc c).length ≤ 2 := by
  unfold esc
  split
  · simp
  · split
    · simp
    · split
      · simp
      · split <;> simp

theorem escs_len (l : List UInt8) : (escs l).length ≤ 2 * l.length := by
  induction l with
  | nil => simp [escs]
  | cons c r ih => have := esc_len c; simp [escs]; omega

theorem quo_len (l : List UInt8) : (quo l).length ≤ 2 * l.length + 2 := by
  have := escs_len l
  simp [quo]; omega

theorem quo_len_ge (l : List UInt8) : (quo l).length = (escs l).length + 2 := by simp [quo]

/-- one byte that is written is read as itself -/
theorem unq_esc_one (c : UInt8) (r : List UInt8) : unq (esc c ++ r) = (unq r).map fun p => (c :: p.1, p.2 + (esc c).length) := by
  unfold esc
  split
  · rename_i h
    have hm : mean c = some c := by unfold mean; rw [if_pos h]
    exact unq_esc (by decide) hm
  · split
    · rename_i h1 h
      have hm : mean c = some c := by unfold mean; rw [if_neg h1, if_pos h]
      exact unq_esc (by decide) hm
    · split
      · rename_i h
        have e : c = 10 := UInt8.toNat_inj.1 h
        subst e
        exact unq_esc (c := 92) (d := 110) (m := 10) (by decide) (by decide)
      · split
        · rename_i h
          have e : c = 9 := UInt8.toNat_inj.1 h
          subst e
          exact unq_esc (c := 92) (d := 116) (m := 9) (by decide) (by decide)
        · rename_i h1 h2 h3 h4
          exact unq_one h2 h3 h1

/-- there and back -/
theorem unq_escs (l rest : List UInt8) : unq (escs l ++ 34 :: rest) = some (l, (escs l).length + 1) := by
  induction l with
  | nil => exact unq_end (by decide)
  | cons c r ih =>
    rw [escs, List.append_assoc, unq_esc_one, ih]
    simp [Option.map]
    omega

theorem unquote_quo (l rest : List UInt8) : unquote (quo l ++ rest) = some (l, (quo l).length) := by
  have e : quo l ++ rest = 34 :: (escs l ++ 34 :: rest) := by simp [quo]
  rw [e]
  unfold unquote
  simp only
  rw [if_pos (by decide), unq_escs]
  simp [quo]

/-- no line ends in what is written -/
theorem esc_line (c : UInt8) : ∀ b ∈ esc c, ¬ b.toNat = 10 := by
  intro b hb
  unfold esc at hb
  split at hb
  · rename_i h
    simp at hb
    rcases hb with rfl | rfl
    · decide
    · omega
  · split at hb
    · rename_i h
      simp at hb
      rcases hb with rfl | rfl
      · decide
      · omega
    · split at hb
      · simp at hb
        rcases hb with rfl | rfl <;> decide
      · split at hb
        · simp at hb
          rcases hb with rfl | rfl <;> decide
        · rename_i h
          simp at hb
          subst hb
          assumption

theorem escs_line (l : List UInt8) : ∀ b ∈ escs l, ¬ b.toNat = 10 := by
  induction l with
  | nil => intro b hb; simp [escs] at hb
  | cons c r ih =>
    intro b hb
    rw [escs, List.mem_append] at hb
    rcases hb with hb | hb
    · exact esc_line c b hb
    · exact ih b hb

theorem quo_line (l : List UInt8) : ∀ b ∈ quo l, ¬ b.toNat = 10 := by
  intro b hb
  unfold quo at hb
  simp at hb
  rcases hb with rfl | hb | rfl
  · decide
  · exact escs_line l b hb
  · decide

/-- where a text ends -/
theorem unq_ends : ∀ (n : Nat) (l : List UInt8) (t : List UInt8) (k : Nat), l.length ≤ n → unq l = some (t, k) →
    1 ≤ k ∧ k ≤ l.length ∧ (∃ c, l[k - 1]? = some c ∧ c.toNat = 34) ∧ t.length < k ∧ (∀ x, unq (l.take k ++ x) = some (t, k)) ∧ unq (l.take (k - 1)) = none := by
  intro n
  induction n with
  | zero =>
    intro l t k hl h
    have e : l = [] := List.length_eq_zero_iff.1 (by omega)
    subst e
    rw [unq_nil] at h
    cases h
  | succ n ih =>
    intro l t k hl h
    cases l with
    | nil => rw [unq_nil] at h; cases h
    | cons c r =>
      by_cases h1 : c.toNat = 34
      · rw [unq_end h1] at h
        cases h
        exact ⟨by omega, by simp, ⟨c, rfl, h1⟩, by simp, fun x => unq_end h1, by simpa using unq_nil⟩
      by_cases h2 : c.toNat = 10
      · rw [unq_line h2] at h; cases h
      by_cases h3 : c.toNat = 92
      · cases r with
        | nil => rw [unq_cut h3] at h; cases h
        | cons d r' =>
          cases hm : mean d with
          | none => rw [unq_bad h3 hm] at h; cases h
          | some m =>
            rw [unq_esc h3 hm] at h
            cases hr : unq r' with
            | none => rw [hr] at h; cases h
            | some p =>
              obtain ⟨t', k'⟩ := p
              rw [hr] at h
              simp only [Option.map, Option.some.injEq, Prod.mk.injEq] at h
              obtain ⟨rfl, rfl⟩ := h
              obtain ⟨a1, a2, ⟨c', a3, a3'⟩, a4, a5, a6⟩ := ih r' t' k' (by simp at hl; omega) hr
              refine ⟨by omega, by simp; omega, ⟨c', ?_, a3'⟩, by simp; omega, fun x => ?_, ?_⟩
              · rw [show k' + 2 - 1 = (k' - 1) + 2 from by omega]
                simpa using a3
              · rw [List.take_succ_cons, List.take_succ_cons, List.cons_append, List.cons_append, unq_esc h3 hm, a5]
                rfl
              · rw [show k' + 2 - 1 = (k' - 1) + 2 from by omega, List.take_succ_cons, List.take_succ_cons, unq_esc h3 hm, a6]
                rfl
      · rw [unq_one h1 h2 h3] at h
        cases hr : unq r with
        | none => rw [hr] at h; cases h
        | some p =>
          obtain ⟨t', k'⟩ := p
          rw [hr] at h
          simp only [Option.map, Option.some.injEq, Prod.mk.injEq] at h
          obtain ⟨rfl, rfl⟩ := h
          obtain ⟨a1, a2, ⟨c', a3, a3'⟩, a4, a5, a6⟩ := ih r t' k' (by simp at hl; omega) hr
          refine ⟨by omega, by simp; omega, ⟨c', ?_, a3'⟩, by simp; omega, fun x => ?_, ?_⟩
          · rw [show k' + 1 - 1 = (k' - 1) + 1 from by omega]
            simpa using a3
          · rw [List.take_succ_cons, List.cons_append, unq_one h1 h2 h3, a5]
            rfl
          · rw [show k' + 1 - 1 = (k' - 1) + 1 from by omega, List.take_succ_cons, unq_one h1 h2 h3, a6]
            rfl

end Go.Proofs.YtkbgnbcphmkjkaaDoor
