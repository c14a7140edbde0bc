/- Layer 11: the document's First; two lists alike. -/
import Derived.Test.YtoabhmpakcgloaaWh
namespace Go.Proofs.Ytoabhmpakcgloaa
open Go.RowKit

variable {w : World} {B b : Nat} {av ov : Value} {l : List Wt}

end Go.Proofs.Ytoabhmpakcgloaa
