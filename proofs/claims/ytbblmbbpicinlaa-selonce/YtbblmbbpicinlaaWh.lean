/- Layer 11: the document's book: Leave, First; two lists alike. -/
import Derived.Test.YtbblmbbpicinlaaWg
namespace Go.Proofs.Ytbblmbbpicinlaa
open Go.RowKit

variable {w : World} {B b : Nat} {av ov : Value} {l : List Wt}

end Go.Proofs.Ytbblmbbpicinlaa
