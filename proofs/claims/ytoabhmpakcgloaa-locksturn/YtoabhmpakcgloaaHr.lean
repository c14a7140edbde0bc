/- Layer 11: the landed book: know. -/
import Derived.Test.YtoabhmpakcgloaaHp
namespace Go.Proofs.Ytoabhmpakcgloaa
open Go.RowKit

variable {w : World} {B p M C n : Nat} {wv : Value} {sl : List Sl} {full : Int} {en : Ln → Option (Int × Int)} {cl : Int × Int × Int → Option Int}

end Go.Proofs.Ytoabhmpakcgloaa
