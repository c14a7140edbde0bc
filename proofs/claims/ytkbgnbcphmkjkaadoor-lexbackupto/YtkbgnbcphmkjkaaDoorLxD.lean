/- The document's lexer: numbers and texts. -/
import Derived.Test.YtkbgnbcphmkjkaaDoorLxC
import Derived.Test.YtkbgnbcphmkjkaaDoorRefParse
import Derived.Test.YtkbgnbcphmkjkaaDoorRefUnq
namespace Go.Proofs.YtkbgnbcphmkjkaaDoor
open Go.RowKit

theorem num_ok {l : List UInt8} (h : pe (l.take (runN l)) = 0) : tkNum l = ⟨0, 3, [], pv (l.take (runN l)), runN l⟩ := by unfold tkNum; rw [if_pos h]
theorem num_no {l : List UInt8} (h : ¬ pe (l.take (runN l)) = 0) : tkNum l = ⟨33, 0, [], 0, 0⟩ := by unfold tkNum; rw [if_neg h]; rfl
theorem text_ok {l t : List UInt8} {k : Nat} (h : unquote l = some (t, k)) : tkText l = ⟨0, 4, t, 0, k⟩ := by unfold tkText; rw [h]
theorem text_no {l : List UInt8} (h : unquote l = none) : tkText l = ⟨34, 0, [], 0, 0⟩ := by unfold tkText; rw [h]; rfl

end Go.Proofs.YtkbgnbcphmkjkaaDoor
