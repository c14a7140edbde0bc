/- Layer 11: the document's Put. -/
import Derived.Test.YtplnafocanfcgaaWi
import Derived.Test.YtplnafocanfcgaaWj
namespace Go.Proofs.Ytplnafocanfcgaa
open Go.RowKit

variable {w : World} {B b : Nat} {av ov : Value} {l : List Wt}

end Go.Proofs.Ytplnafocanfcgaa
