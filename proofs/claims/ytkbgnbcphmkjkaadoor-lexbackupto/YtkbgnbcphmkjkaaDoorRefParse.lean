/- Parse, of the document. -/
import Derived.Test.YtkbgnbcphmkjkaaDoorRefNum
namespace Go.Proofs.YtkbgnbcphmkjkaaDoor
open Go.RowKit

/-- what the first k digits spell -/
def vk (d : ByteArray) (k : Nat) : Nat := dval 0 (d.data.toList.take k)

theorem vk_zero (d : ByteArray) : vk d 0 = 0 := by unfold vk; rw [List.take_zero, dval_nil]
theorem vk_step (d : ByteArray) (k : Nat) (h : k < d.size) : vk d (k + 1) = vk d k * 10 + ((by_ d k).toNat - 48) := by
  unfold vk
  rw [take_by d k h, dval_append, dval_cons, dval_nil]
theorem vk_all (d : ByteArray) : vk d d.size = dval 0 d.data.toList := by
  unfold vk
  rw [List.take_of_length_le (by rw [← size_len]; exact Nat.le_refl _)]
theorem vk_le (d : ByteArray) (k : Nat) : vk d k ≤ dval 0 d.data.toList := by
  unfold vk
  have e : dval 0 d.data.toList = dval (dval 0 (d.data.toList.take k)) (d.data.toList.drop k) := by rw [← dval_append, List.take_append_drop]
  rw [e]
  exact dval_ge _ _

def most7 : ByteArray := { data := #[57, 50, 50, 51, 51, 55, 50, 48, 51, 54, 56, 53, 52, 55, 55, 53, 56, 48, 55] }
def most8 : ByteArray := { data := #[57, 50, 50, 51, 51, 55, 50, 48, 51, 54, 56, 53, 52, 55, 55, 53, 56, 48, 56] }

theorem most7_plain : plainDigits most7.data.toList := ⟨⟨57, _, rfl, by decide⟩, by decide⟩
theorem most8_plain : plainDigits most8.data.toList := ⟨⟨57, _, rfl, by decide⟩, by decide⟩

theorem above7 {d : ByteArray} (hd : d.data.toList = [48] ∨ plainDigits d.data.toList) : abv d most7 = decide (9223372036854775807 < dval 0 d.data.toList) :=
  abv_val d most7 hd most7_plain rfl 9223372036854775807 (by decide +kernel) (by decide) (by decide)
theorem above8 {d : ByteArray} (hd : d.data.toList = [48] ∨ plainDigits d.data.toList) : abv d most8 = decide (9223372036854775808 < dval 0 d.data.toList) :=
  abv_val d most8 hd most8_plain rfl 9223372036854775808 (by decide +kernel) (by decide) (by decide)

theorem formed_dgs {s : ByteArray} (h : isForm s.data.toList = true) : (dgs s).data.toList = [48] ∨ plainDigits (dgs s).data.toList := by
  rw [dgs_list]
  rcases (isForm_iff _).1 h with h | h
  · left; rw [h]; rfl
  · exact Or.inr h

theorem formed_pos {s : ByteArray} (h : isForm s.data.toList = true) : 0 < s.size := by
  rcases Nat.eq_zero_or_pos s.size with h0 | h0
  · have e := empty_of h0
    subst e
    cases h
  · exact h0

theorem formed_dig {s : ByteArray} (h : isForm s.data.toList = true) (j : Nat) (hj : j < (dgs s).size) : 48 ≤ (by_ (dgs s) j).toNat ∧ (by_ (dgs s) j).toNat ≤ 57 := by
  have h1 := (formed_digits ((isForm_iff _).1 h)).2 (by_ (dgs s) j) (by rw [← dgs_list]; exact by_mem _ j hj)
  exact digs_iff.1 h1

theorem minus_pval {s : ByteArray} (h0 : 0 < s.size) (hm : (by_ s 0).toNat = 45) : pval s.data.toList = -(dval 0 (dgs s).data.toList : Int) ∧ lim s.data.toList = 9223372036854775808 := by
  unfold pval lim
  rw [minus_by h0, decide_eq_true hm, dgs_list]
  exact ⟨rfl, rfl⟩
theorem plain_pval {s : ByteArray} (h0 : 0 < s.size) (hm : ¬ (by_ s 0).toNat = 45) : pval s.data.toList = (dval 0 (dgs s).data.toList : Int) ∧ lim s.data.toList = 9223372036854775807 := by
  unfold pval lim
  rw [minus_by h0, decide_eq_false hm, dgs_list]
  exact ⟨rfl, rfl⟩

end Go.Proofs.YtkbgnbcphmkjkaaDoor
