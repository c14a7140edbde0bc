/- Layer 11: the document's Put: slot and generation. -/
import Derived.Test.YtoabhmpakcgloaaWl
namespace Go.Proofs.Ytoabhmpakcgloaa
open Go.RowKit

variable {B b : Nat} {av ov : Value} {l : List Wt}

def tail5 : Code → Code → Code
  | .seq a (.seq b (.seq c (.seq d (.seq e _)))), r => .seq a (.seq b (.seq c (.seq d (.seq e r))))
  | c, _ => c
def rest5 : Code → Code
  | .seq _ (.seq _ (.seq _ (.seq _ (.seq _ r)))) => r
  | c => c

end Go.Proofs.Ytoabhmpakcgloaa
