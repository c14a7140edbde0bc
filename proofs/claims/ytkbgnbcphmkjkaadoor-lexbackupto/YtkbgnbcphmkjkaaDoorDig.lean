/- Digits. -/
import Derived.Test.YtkbgnbcphmkjkaaDoorBase
namespace Go.Proofs.YtkbgnbcphmkjkaaDoor
open Go.RowKit

def digit (n : Nat) : Bool := decide (48 ≤ n) && decide (n ≤ 57)

set_option maxHeartbeats 1000000 in
theorem digit_any (n : Nat) (w : World) :
    Calls Tryd.prog 36 #[.int .u8 (n : Int)] w fun e w' => e = .returned (.bool (digit n)) ∧ w' = w := by
  by_cases h1 : n < 48
  · have E := hide (show false = digit n by unfold digit; simp; omega)
    go_enter Tryd.func36, Tryd.ntmps36
    go_wp2
    go_ret
    exact ⟨ret_bool (Eq.trans (by first | rfl | (simp; done) | (simp; omega)) (unhide E)), rfl⟩
  by_cases h2 : n ≤ 57
  · have E := hide (show true = digit n by unfold digit; simp; omega)
    go_enter Tryd.func36, Tryd.ntmps36
    go_wp2
    go_ret
    exact ⟨ret_bool (Eq.trans (by first | rfl | (simp; done) | (simp; omega)) (unhide E)), rfl⟩
  · have E := hide (show false = digit n by unfold digit; simp; omega)
    go_enter Tryd.func36, Tryd.ntmps36
    go_wp2
    go_ret
    exact ⟨ret_bool (Eq.trans (by first | rfl | (simp; done) | (simp; omega)) (unhide E)), rfl⟩

end Go.Proofs.YtkbgnbcphmkjkaaDoor
