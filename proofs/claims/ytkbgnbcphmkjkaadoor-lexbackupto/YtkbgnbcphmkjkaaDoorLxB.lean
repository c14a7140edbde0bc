/- The document's lexer: runs of letters and digits, comments. -/
import Derived.Test.YtkbgnbcphmkjkaaDoorLxA
namespace Go.Proofs.YtkbgnbcphmkjkaaDoor
open Go.RowKit

theorem runN_step {s : ByteArray} {k : Nat} (h : k < s.size) (hc : ld (by_ s k) = true) : runN (s.data.toList.drop k) = runN (s.data.toList.drop (k + 1)) + 1 := by
  rw [drop_by s k h, runN, if_pos hc]
theorem runN_stop {s : ByteArray} {k : Nat} (h : k < s.size) (hc : ld (by_ s k) = false) : runN (s.data.toList.drop k) = 0 := by
  rw [drop_by s k h, runN, hc, if_neg (by decide)]
theorem drop_end {s : ByteArray} {k : Nat} (h : ¬ k < s.size) : s.data.toList.drop k = [] := List.drop_of_length_le (by rw [← size_len]; omega)
theorem runN_end {s : ByteArray} {k : Nat} (h : ¬ k < s.size) : runN (s.data.toList.drop k) = 0 := by rw [drop_end h]; rfl

theorem cmt_at {s : ByteArray} {a : Nat} (h : a + 1 < s.size) : cmt (s.data.toList.drop a) = if (by_ s a).toNat = 47 ∧ (by_ s (a + 1)).toNat = 47 then upTo10 (s.data.toList.drop a) else 0 := by
  rw [drop_by s a (by omega), drop_by s (a + 1) h]
  rfl
theorem cmt_short {s : ByteArray} {a : Nat} (h : ¬ a + 1 < s.size) : cmt (s.data.toList.drop a) = 0 := by
  by_cases h1 : a < s.size
  · rw [drop_by s a h1, drop_end h]; rfl
  · rw [drop_end h1]; rfl

theorem up_step {s : ByteArray} {k : Nat} (h : k < s.size) (hc : ¬ (by_ s k).toNat = 10) : upTo10 (s.data.toList.drop k) = upTo10 (s.data.toList.drop (k + 1)) + 1 := by
  rw [drop_by s k h, upTo10, if_neg hc]
theorem up_stop {s : ByteArray} {k : Nat} (h : k < s.size) (hc : (by_ s k).toNat = 10) : upTo10 (s.data.toList.drop k) = 0 := by
  rw [drop_by s k h, upTo10, if_pos hc]
theorem up_end {s : ByteArray} {k : Nat} (h : ¬ k < s.size) : upTo10 (s.data.toList.drop k) = 0 := by rw [drop_end h]; rfl

end Go.Proofs.YtkbgnbcphmkjkaaDoor
