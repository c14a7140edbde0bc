/- Layer 10: the program's table of pairs: what is sorted by serials. -/
import Derived.Test.YtjilnmeegolpkaaHep
import Derived.Test.YtjilnmeegolpkaaHf
import Derived.Test.YtjilnmeegolpkaaSoP
import Derived.Test.YtjilnmeegolpkaaHg
namespace Go.Proofs.Ytjilnmeegolpkaa
open Go.RowKit Go.Shelf Go.Sort

def enFP (e : En Pa) : List Value := [.int .u32 (e.s : Int), .int .u32 (e.g : Int), .int .i64 (e.r : Int), .string e.x.A, .slice e.x.a e.x.n e.x.c]
theorem enFP_len (e : En Pa) : (enFP e).length = 5 := rfl
theorem enFP_one (e : En Pa) : ∀ v ∈ enFP e, v.oneCell' = true := by
  intro u hu
  simp only [enFP, List.mem_cons, List.not_mem_nil, or_false] at hu
  rcases hu with rfl | rfl | rfl | rfl | rfl <;> rfl

theorem cmp_isP (w : World) (a b : En Pa) : Calls Try.prog 51 #[.agg (enFP a).toArray, .agg (enFP b).toArray] w fun e w' => e = .returned (.int .i64 (cmp3 a.r b.r)) ∧ w' = (w.alloc (.cells (enFP a).toArray 102)).alloc (.cells (enFP b).toArray 102) := by
  unfold enFP
  go_enter Try.func51, Try.ntmps51
  go_wp2_with (go_at_call 52; refine (compare_is _ a.r b.r).mono ?_; rintro e w' ⟨rfl, rfl⟩)
  go_ret
  exact ⟨rfl, rfl⟩

end Go.Proofs.Ytjilnmeegolpkaa
