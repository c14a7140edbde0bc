/- Layer 11: the document's Put. -/
import Derived.Test.YtoabhmpakcgloaaWi
import Derived.Test.YtoabhmpakcgloaaWj
namespace Go.Proofs.Ytoabhmpakcgloaa
open Go.RowKit

variable {w : World} {B b : Nat} {av ov : Value} {l : List Wt}

end Go.Proofs.Ytoabhmpakcgloaa
