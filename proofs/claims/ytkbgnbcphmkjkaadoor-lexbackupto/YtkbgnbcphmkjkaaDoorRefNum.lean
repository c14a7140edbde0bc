/- Form, above and Parse, of the document. -/
import Derived.Test.YtkbgnbcphmkjkaaDoorForm
import Derived.Test.YtkbgnbcphmkjkaaDoorCmp
namespace Go.Proofs.YtkbgnbcphmkjkaaDoor
open Go.RowKit

theorem zero_dgs : dgs ⟨#[48]⟩ = ⟨#[48]⟩ := by decide

theorem r_none {s : ByteArray} (h0 : (dgs s).size = 0) : isForm s.data.toList = false := by
  refine form_none (fun h => ?_) h0
  rw [h, zero_dgs] at h0
  exact absurd h0 (by decide)
theorem r_nought {s : ByteArray} (hc : (by_ (dgs s) 0).toNat = 48) (h1 : 1 < s.size) : isForm s.data.toList = false := by
  refine form_nought (fun h => ?_) hc
  rw [h] at h1
  exact absurd h1 (by decide)
theorem r_bad {s : ByteArray} {k : Nat} (hk : k < (dgs s).size) (hc : digit (by_ (dgs s) k).toNat = false) : isForm s.data.toList = false := by
  refine form_bad (fun h => ?_) hk hc
  rw [h, zero_dgs] at hk hc
  have e : k = 0 := by
    have : (⟨#[48]⟩ : ByteArray).size = 1 := rfl
    omega
  subst e
  exact absurd hc (by decide)
theorem r_good {s : ByteArray} (h0 : 0 < (dgs s).size) (hc : ¬ (by_ (dgs s) 0).toNat = 48 ∨ s.size = 1) (hd : ∀ j, j < (dgs s).size → digit (by_ (dgs s) j).toNat = true) : isForm s.data.toList = true := by
  by_cases h : (by_ (dgs s) 0).toNat = 48
  · rcases hc with hc | hc
    · exact absurd h hc
    · apply isForm_yes
      left
      have e := list_first s (by omega)
      have e1 : s.data.toList.drop 1 = [] := List.length_eq_zero_iff.1 (by rw [List.length_drop, ← size_len]; omega)
      rw [e1] at e
      by_cases hm : (by_ s 0).toNat = 45
      · exfalso
        rw [dgs_size, e] at h0
        unfold mag at h0
        simp only at h0
        rw [if_pos hm] at h0
        simp at h0
      · have em : mag s.data.toList = [by_ s 0] := by rw [e]; unfold mag; simp only; rw [if_neg hm]
        have e3 : by_ (dgs s) 0 = by_ s 0 := by unfold by_; rw [dgs_list, em]; rfl
        rw [e3] at h
        rw [e, UInt8.toNat_inj.1 (h.trans (show 48 = (48 : UInt8).toNat from rfl))]
  · exact form_good h0 h hd

theorem dgs_minus {s : ByteArray} (h0 : 0 < s.size) (h : (by_ s 0).toNat = 45) : s.extract 1 s.size = dgs s := by
  apply WideShapes.bytes_inj
  rw [dgs_list, ByteArray.data_extract, Array.toList_extract, List.extract_eq_take_drop, List.take_of_length_le (by rw [List.length_drop, Array.length_toList]; exact Nat.le_refl _)]
  have e := list_first s h0
  rw [e]
  unfold mag
  simp only
  rw [if_pos h]
  simp

theorem dgs_plain {s : ByteArray} (h0 : 0 < s.size) (h : ¬ (by_ s 0).toNat = 45) : s = dgs s := by
  apply WideShapes.bytes_inj
  rw [dgs_list]
  have e := list_first s h0
  rw [e]
  unfold mag
  simp only
  rw [if_neg h]

theorem minus_by {s : ByteArray} (h0 : 0 < s.size) : minus s.data.toList = decide ((by_ s 0).toNat = 45) := by
  have e := list_first s h0
  rw [e]
  rfl

end Go.Proofs.YtkbgnbcphmkjkaaDoor
