/- Letters, digits, names. -/
import Derived.Test.YtkbgnbcphmkjkaaDoorWl
import Derived.Test.YtkbgnbcphmkjkaaDoorDig
namespace Go.Proofs.YtkbgnbcphmkjkaaDoor
open Go.RowKit

def letter (n : Nat) : Bool := (decide (65 ≤ n) && decide (n ≤ 90)) || (decide (97 ≤ n) && decide (n ≤ 122)) || decide (n = 95)

set_option maxHeartbeats 1000000 in
theorem letter_any (n : Nat) (w : World) :
    Calls Tryd.prog 35 #[.int .u8 (n : Int)] w fun e w' => e = .returned (.bool (letter n)) ∧ w' = w := by
  by_cases h1 : n < 65
  · have E := hide (show false = letter n by unfold letter; simp; omega)
    go_enter Tryd.func35, Tryd.ntmps35
    go_wp2
    go_ret
    exact ⟨ret_bool (Eq.trans (by first | rfl | (simp; done) | (simp; omega)) (unhide E)), rfl⟩
  by_cases h2 : n ≤ 90
  · have E := hide (show true = letter n by unfold letter; simp; omega)
    go_enter Tryd.func35, Tryd.ntmps35
    go_wp2
    go_ret
    exact ⟨ret_bool (Eq.trans (by first | rfl | (simp; done) | (simp; omega)) (unhide E)), rfl⟩
  by_cases h3 : n < 97
  · by_cases h4 : n = 95
    · subst h4
      go_enter Tryd.func35, Tryd.ntmps35
      go_wp2
      go_ret
      exact ⟨rfl, rfl⟩
    · have E := hide (show false = letter n by unfold letter; simp; omega)
      have h5 : ((n : Int) == 95) = false := by simp; omega
      clear h4
      go_enter Tryd.func35, Tryd.ntmps35
      go_wp2
      go_ret
      exact ⟨ret_bool (Eq.trans (by first | rfl | (simp; done) | (simp; omega)) (unhide E)), rfl⟩
  by_cases h4 : n ≤ 122
  · have E := hide (show true = letter n by unfold letter; simp; omega)
    go_enter Tryd.func35, Tryd.ntmps35
    go_wp2
    go_ret
    exact ⟨ret_bool (Eq.trans (by first | rfl | (simp; done) | (simp; omega)) (unhide E)), rfl⟩
  · have E := hide (show false = letter n by unfold letter; simp; omega)
    have h5 : ((n : Int) == 95) = false := by simp; omega
    go_enter Tryd.func35, Tryd.ntmps35
    go_wp2
    go_ret
    exact ⟨ret_bool (Eq.trans (by first | rfl | (simp; done) | (simp; omega)) (unhide E)), rfl⟩

end Go.Proofs.YtkbgnbcphmkjkaaDoor
