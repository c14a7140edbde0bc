/- Layer 11: the document's Put: what it looks at first. -/
import Derived.Test.YtoabhmpakcgloaaWk
namespace Go.Proofs.Ytoabhmpakcgloaa
open Go.RowKit

variable {w : World} {B b : Nat} {av ov : Value} {l : List Wt}

def tail4 : Code → Code → Code
  | .seq a (.seq b (.seq c (.seq d _))), r => .seq a (.seq b (.seq c (.seq d r)))
  | c, _ => c
def rest4 : Code → Code
  | .seq _ (.seq _ (.seq _ (.seq _ r))) => r
  | c => c

/-- the four boxes of a Put -/
structure Pb (w w1 : World) (rs rg rd ws wg vn vs vg : Int) : Prop where
  c1 : Ch (fun _ => False) w w1
  s1 : w1.heap.size = w.heap.size + 4
  n0 : w1.heap[w.heap.size]? = some (.cells #[.int .u32 rs, .int .u32 rg, .int .i64 rd] 60 (0, 0))
  n1 : w1.heap[w.heap.size + 1]? = some (.cells #[.int .u32 ws, .int .u32 wg] 35 (0, 0))
  n2 : w1.heap[w.heap.size + 2]? = some (.cells #[.int .i64 vn, .int .u32 vs, .int .u32 vg] 43 (0, 0))
  n3 : w1.heap[w.heap.size + 3]? = some (.cells #[.int .u32 0, .int .u32 0] 35 (0, 0))

end Go.Proofs.Ytoabhmpakcgloaa
