/- Layer 11: the document's Put: its end. -/
import Derived.Test.YtoabhmpakcgloaaWo
namespace Go.Proofs.Ytoabhmpakcgloaa
open Go.RowKit

variable {w : World} {B b : Nat} {av ov : Value} {l : List Wt}

theorem nfInt : (Try.prog.info? 3).map (fun i => (i.zero, i.size, i.bytes)) = some (some (.int .i64 0), 1, 8) := by kernel_rfl
theorem blk_ne {W : World} {a b : Nat} {cs cs' : Array Value} {T T' : TypeId} {r r' : Nat × Nat} (h : W.heap[a]? = some (.cells cs T r)) (h' : W.heap[b]? = some (.cells cs' T' r')) (hne : T ≠ T') : a ≠ b := fun e => by
  subst e
  rw [h] at h'
  injection h' with h'
  injection h' with _ h' _
  exact hne h'

end Go.Proofs.Ytoabhmpakcgloaa
