/- Layer 11: the document's book: Leave, First; two lists alike. -/
import Derived.Test.YtoabhmpakcgloaaWg
namespace Go.Proofs.Ytoabhmpakcgloaa
open Go.RowKit

variable {w : World} {B b : Nat} {av ov : Value} {l : List Wt}

end Go.Proofs.Ytoabhmpakcgloaa
