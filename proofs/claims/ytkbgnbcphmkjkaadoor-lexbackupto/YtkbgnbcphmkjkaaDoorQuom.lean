/- Quote, step by step: no program in it. -/
import Derived.Test.YtkbgnbcphmkjkaaDoorQm
import Derived.Lib.BufferWrite
namespace Go.Proofs.YtkbgnbcphmkjkaaDoor
open Go.RowKit

theorem cells_snoc (l : List UInt8) (c : UInt8) : Lib.byteCells l ++ [Value.int .u8 (c.toNat : Int)] = Lib.byteCells (l ++ [c]) := by
  rw [Lib.byteCells_append]; rfl

theorem esc_92 {c : UInt8} (h : c.toNat = 92) : esc c = [92, c] := by unfold esc; rw [if_pos h]
theorem esc_34 {c : UInt8} (h : c.toNat = 34) : esc c = [92, c] := by unfold esc; rw [if_neg (by omega), if_pos h]
theorem esc_10 {c : UInt8} (h : c.toNat = 10) : esc c = [92, 110] := by unfold esc; rw [if_neg (by omega), if_neg (by omega), if_pos h]
theorem esc_9 {c : UInt8} (h : c.toNat = 9) : esc c = [92, 116] := by unfold esc; rw [if_neg (by omega), if_neg (by omega), if_neg (by omega), if_pos h]
theorem esc_no {c : UInt8} (h1 : ¬ c.toNat = 92) (h2 : ¬ c.toNat = 34) (h3 : ¬ c.toNat = 10) (h4 : ¬ c.toNat = 9) : esc c = [c] := by unfold esc; rw [if_neg h1, if_neg h2, if_neg h3, if_neg h4]

/-- what Quote has written behind k bytes -/
def qpre (s : ByteArray) (k : Nat) : List UInt8 := 34 :: escs (s.data.toList.take k)

theorem qpre_step (s : ByteArray) (k : Nat) (h : k < s.size) : qpre s (k + 1) = qpre s k ++ esc (by_ s k) := by
  unfold qpre
  rw [take_by s k h, escs_append]
  simp [escs]

theorem qpre_len (s : ByteArray) (k : Nat) : (qpre s k).length ≤ 2 * k + 1 := by
  unfold qpre
  have h1 := escs_len (s.data.toList.take k)
  have h2 : (s.data.toList.take k).length ≤ k := by rw [List.length_take]; omega
  rw [List.length_cons]
  omega

theorem qpre_end (s : ByteArray) : qpre s s.size ++ [34] = quo s.data.toList := by
  unfold qpre quo
  rw [List.take_of_length_le (by rw [Array.length_toList]; exact Nat.le_refl _)]
  rfl

end Go.Proofs.YtkbgnbcphmkjkaaDoor
