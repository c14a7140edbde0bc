/- A number's form, and what Parse answers: no program in it. -/
import Derived.Test.YtkbgnbcphmkjkaaDoorNum
import Derived.Test.YtkbgnbcphmkjkaaDoorDig
import Derived.Lib.Strings
namespace Go.Proofs.YtkbgnbcphmkjkaaDoor
open Go.RowKit

/-- has a text a number's form? -/
def isForm (l : List UInt8) : Bool := decide (l = [48]) || (match mag l with | [] => false | c :: r => !decide (c.toNat = 48) && (c :: r).all digs)

theorem isForm_iff (l : List UInt8) : isForm l = true ↔ Formed l := by
  unfold isForm Formed plainDigits
  rw [Bool.or_eq_true, decide_eq_true_eq]
  cases mag l with
  | nil =>
    constructor
    · rintro (h | h)
      · exact Or.inl h
      · cases h
    · rintro (h | ⟨⟨c, r, e, _⟩, _⟩)
      · exact Or.inl h
      · cases e
  | cons c r =>
    simp only [Bool.and_eq_true, Bool.not_eq_true', decide_eq_false_iff_not, List.all_eq_true]
    constructor
    · rintro (h | ⟨h1, h2⟩)
      · exact Or.inl h
      · exact Or.inr ⟨⟨c, r, rfl, h1⟩, h2⟩
    · rintro (h | ⟨⟨c', r', e, h1⟩, h2⟩)
      · exact Or.inl h
      · cases e
        exact Or.inr ⟨h1, h2⟩

theorem isForm_no {l : List UInt8} (h : ¬ Formed l) : isForm l = false := by
  cases e : isForm l
  · rfl
  · exact absurd ((isForm_iff l).1 e) h

theorem isForm_yes {l : List UInt8} (h : Formed l) : isForm l = true := (isForm_iff l).2 h

theorem trim_mag (l : List UInt8) : Lib.trimPrefix l [45] = mag l := by
  unfold Lib.trimPrefix Lib.hasPrefix
  cases l with
  | nil => rfl
  | cons c r =>
    unfold mag
    simp only [List.isPrefixOf_cons_cons, List.isPrefixOf_nil_left, Bool.and_true]
    by_cases h : c.toNat = 45
    · have e : c = 45 := UInt8.toNat_inj.1 h
      subst e
      rfl
    · have e : ((45 : UInt8) == c) = false := beq_false_of_ne (fun e => h (by rw [← e]; rfl))
      rw [e, if_neg h]
      rfl

/-- the digits of a text, as a text -/
def dgs (s : ByteArray) : ByteArray := ⟨(mag s.data.toList).toArray⟩

theorem dgs_list (s : ByteArray) : (dgs s).data.toList = mag s.data.toList := by unfold dgs; simp
theorem dgs_size (s : ByteArray) : (dgs s).size = (mag s.data.toList).length := by
  show (mag s.data.toList).toArray.size = _
  simp

theorem mag_len (l : List UInt8) : (mag l).length ≤ l.length := by
  unfold mag
  cases l with
  | nil => exact Nat.le_refl _
  | cons c r => simp only; split <;> simp

theorem size_len (s : ByteArray) : s.size = s.data.toList.length := by rw [Array.length_toList]; rfl

theorem by_mem (s : ByteArray) (k : Nat) (h : k < s.size) : by_ s k ∈ s.data.toList := by
  have h' : k < s.data.toList.length := by rw [← size_len]; exact h
  unfold by_
  rw [List.getD_eq_getElem?_getD, List.getElem?_eq_getElem h']
  exact List.getElem_mem _

theorem all_by {s : ByteArray} {p : UInt8 → Prop} (h : ∀ j, j < s.size → p (by_ s j)) : ∀ c ∈ s.data.toList, p c := by
  intro c hc
  obtain ⟨j, hj, rfl⟩ := List.getElem_of_mem hc
  have h1 := h j (by rw [size_len]; exact hj)
  unfold by_ at h1
  rw [List.getD_eq_getElem?_getD, List.getElem?_eq_getElem hj] at h1
  exact h1

theorem list_first (s : ByteArray) (h : 0 < s.size) : s.data.toList = by_ s 0 :: s.data.toList.drop 1 := by
  have e := drop_by s 0 h
  rw [List.drop_zero] at e
  exact e

theorem form_zero {s : ByteArray} (h : s = ⟨#[48]⟩) : isForm s.data.toList = true := by subst h; exact isForm_yes (Or.inl rfl)
theorem not_zero {s : ByteArray} (h : ¬ s = ⟨#[48]⟩) : ¬ s.data.toList = [48] := by
  intro e
  apply h
  exact WideShapes.bytes_inj e

theorem form_none {s : ByteArray} (h : ¬ s = ⟨#[48]⟩) (h0 : (dgs s).size = 0) : isForm s.data.toList = false := by
  apply isForm_no
  rintro (e | ⟨⟨c, r, e, _⟩, _⟩)
  · exact not_zero h e
  · rw [dgs_size, e] at h0; simp at h0
theorem form_nought {s : ByteArray} (h : ¬ s = ⟨#[48]⟩) (hc : (by_ (dgs s) 0).toNat = 48) : isForm s.data.toList = false := by
  apply isForm_no
  rintro (e | ⟨⟨c, r, e, h1⟩, _⟩)
  · exact not_zero h e
  · have e3 : by_ (dgs s) 0 = c := by unfold by_; rw [dgs_list, e]; rfl
    rw [e3] at hc
    exact h1 hc
theorem form_bad {s : ByteArray} (h : ¬ s = ⟨#[48]⟩) {k : Nat} (hk : k < (dgs s).size) (hc : digit (by_ (dgs s) k).toNat = false) : isForm s.data.toList = false := by
  apply isForm_no
  rintro (e | ⟨_, h1⟩)
  · exact not_zero h e
  · have := h1 (by_ (dgs s) k) (by rw [← dgs_list]; exact by_mem _ k hk)
    have e : digs (by_ (dgs s) k) = digit (by_ (dgs s) k).toNat := rfl
    rw [e, hc] at this
    cases this
theorem form_good {s : ByteArray} (h0 : 0 < (dgs s).size) (hc : ¬ (by_ (dgs s) 0).toNat = 48) (hd : ∀ j, j < (dgs s).size → digit (by_ (dgs s) j).toNat = true) : isForm s.data.toList = true := by
  apply isForm_yes
  refine Or.inr ⟨⟨by_ (dgs s) 0, (dgs s).data.toList.drop 1, ?_, hc⟩, ?_⟩
  · rw [← dgs_list]; exact list_first _ h0
  · have := all_by (s := dgs s) (p := fun c => digs c = true) hd
    rw [dgs_list] at this
    exact this

/-- what Parse answers -/
def pv (l : List UInt8) : Int := if isForm l && decide (dval 0 (mag l) ≤ lim l) then pval l else 0
def pe (l : List UInt8) : Int := if isForm l then (if decide (dval 0 (mag l) ≤ lim l) then 0 else 22) else 21

theorem p_no {l : List UInt8} (h : isForm l = false) : 0 = pv l ∧ 21 = pe l := by unfold pv pe; rw [h]; exact ⟨rfl, rfl⟩
theorem p_range {l : List UInt8} (h : isForm l = true) (hv : ¬ dval 0 (mag l) ≤ lim l) : 0 = pv l ∧ 22 = pe l := by unfold pv pe; rw [h, decide_eq_false hv]; exact ⟨rfl, rfl⟩
theorem p_ok {l : List UInt8} (h : isForm l = true) (hv : dval 0 (mag l) ≤ lim l) : pval l = pv l ∧ 0 = pe l := by unfold pv pe; rw [h, decide_eq_true hv]; exact ⟨rfl, rfl⟩

theorem ret_p {l : List UInt8} {a b : Int} (h : a = pv l ∧ b = pe l) : Ending.returned (.tuple #[.int .i64 a, .int .i64 b]) = .returned (.tuple #[.int .i64 (pv l), .int .i64 (pe l)]) := by rw [h.1, h.2]

end Go.Proofs.YtkbgnbcphmkjkaaDoor
