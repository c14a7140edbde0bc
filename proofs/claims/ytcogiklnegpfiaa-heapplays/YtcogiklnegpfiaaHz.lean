/- Layer 13: a handle's cells. -/
import Derived.Test.YtcogiklnegpfiaaHe
namespace Go.Proofs.Ytcogiklnegpfiaa
open Go.RowKit Go.Shelf

/-- a handle's cells -/
def hF (h : Int × Int) : List Value := [.int .u32 h.1, .int .u32 h.2]
theorem hF_len (h : Int × Int) : (hF h).length = 2 := rfl
theorem hF_one (h : Int × Int) : ∀ v ∈ hF h, v.oneCell' = true := by
  intro u hu
  simp only [hF, List.mem_cons, List.not_mem_nil, or_false] at hu
  rcases hu with rfl | rfl <;> rfl
end Go.Proofs.Ytcogiklnegpfiaa
