/- Layer 10: the program's table of kinds: what is sorted by serials. -/
import Derived.Test.YtcogiklnegpfiaaHe
import Derived.Test.YtcogiklnegpfiaaHf
import Derived.Test.YtcogiklnegpfiaaSoI
namespace Go.Proofs.Ytcogiklnegpfiaa
open Go.RowKit Go.Shelf Go.Sort

def enFI (e : En Int) : List Value := [.int .u32 (e.s : Int), .int .u32 (e.g : Int), .int .i64 (e.r : Int), .int .i64 e.x]
theorem enFI_len (e : En Int) : (enFI e).length = 4 := rfl
theorem enFI_one (e : En Int) : ∀ v ∈ enFI e, v.oneCell' = true := by
  intro u hu
  simp only [enFI, List.mem_cons, List.not_mem_nil, or_false] at hu
  rcases hu with rfl | rfl | rfl | rfl <;> rfl

/-- as serials are compared -/
def cmp3 (a b : Nat) : Int := if a < b then -1 else if b < a then 1 else 0
theorem nan_is (w : World) (a : Nat) : Calls Try.prog 75 #[.int .i64 (a : Int)] w fun e w' => e = .returned (.bool false) ∧ w' = w := by
  have q : ((a : Int) == (a : Int)) = true := by simp
  go_enter Try.func75, Try.ntmps75
  go_wp2
  go_ret
  exact ⟨ret_bool (by simp), rfl⟩
theorem compare_is (w : World) (a b : Nat) : Calls Try.prog 63 #[.int .i64 (a : Int), .int .i64 (b : Int)] w fun e w' => e = .returned (.int .i64 (cmp3 a b)) ∧ w' = w := by
  by_cases h1 : a < b
  · have q1 : decide ((a : Int) < (b : Int)) = true := decide_eq_true (by omega)
    have e : cmp3 a b = -1 := by unfold cmp3; rw [if_pos h1]
    rw [e]
    go_enter Try.func63, Try.ntmps63
    go_wp2_with (go_at_call 75; refine (nan_is _ _).mono ?_; rintro e w ⟨rfl, rfl⟩)
    go_ret
    exact ⟨rfl, rfl⟩
  · have q1 : decide ((a : Int) < (b : Int)) = false := decide_eq_false (by omega)
    by_cases h2 : b < a
    · have q2 : decide ((b : Int) < (a : Int)) = true := decide_eq_true (by omega)
      have e : cmp3 a b = 1 := by unfold cmp3; rw [if_neg h1, if_pos h2]
      rw [e]
      go_enter Try.func63, Try.ntmps63
      go_wp2_with (go_at_call 75; refine (nan_is _ _).mono ?_; rintro e w ⟨rfl, rfl⟩)
      go_ret
      exact ⟨rfl, rfl⟩
    · have q2 : decide ((b : Int) < (a : Int)) = false := decide_eq_false (by omega)
      have e : cmp3 a b = 0 := by unfold cmp3; rw [if_neg h1, if_neg h2]
      rw [e]
      go_enter Try.func63, Try.ntmps63
      go_wp2_with (go_at_call 75; refine (nan_is _ _).mono ?_; rintro e w ⟨rfl, rfl⟩)
      go_ret
      exact ⟨rfl, rfl⟩

theorem cmp_isI (w : World) (a b : En Int) : Calls Try.prog 62 #[.agg (enFI a).toArray, .agg (enFI b).toArray] w fun e w' => e = .returned (.int .i64 (cmp3 a.r b.r)) ∧ w' = (w.alloc (.cells (enFI a).toArray 100)).alloc (.cells (enFI b).toArray 100) := by
  unfold enFI
  go_enter Try.func62, Try.ntmps62
  go_wp2_with (go_at_call 63; refine (compare_is _ a.r b.r).mono ?_; rintro e w' ⟨rfl, rfl⟩)
  go_ret
  exact ⟨rfl, rfl⟩

end Go.Proofs.Ytcogiklnegpfiaa
