/- Layer 11: the document's Put. -/
import Derived.Test.YtbblmbbpicinlaaWi
import Derived.Test.YtbblmbbpicinlaaWj
namespace Go.Proofs.Ytbblmbbpicinlaa
open Go.RowKit

variable {w : World} {B b : Nat} {av ov : Value} {l : List Wt}

end Go.Proofs.Ytbblmbbpicinlaa
