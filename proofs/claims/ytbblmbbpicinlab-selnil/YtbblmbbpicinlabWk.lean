/- Layer 11: the document's Put. -/
import Derived.Test.YtbblmbbpicinlabWi
import Derived.Test.YtbblmbbpicinlabWj
namespace Go.Proofs.Ytbblmbbpicinlab
open Go.RowKit

variable {w : World} {B b : Nat} {av ov : Value} {l : List Wt}

end Go.Proofs.Ytbblmbbpicinlab
