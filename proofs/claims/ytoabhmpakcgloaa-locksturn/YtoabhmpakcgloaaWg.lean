/- Layer 11: the document's book: Get, Cut, First, Leave; two lists alike. -/
import Derived.Test.YtoabhmpakcgloaaWe
namespace Go.Proofs.Ytoabhmpakcgloaa
open Go.RowKit

variable {w : World} {B b : Nat} {av ov : Value} {l : List Wt}

/-- what Get tells -/
def gtW (l : List Wt) (s g : Int) : Rc := match fndW l s g with
  | none => zRc
  | some i => (l[i]?.map Wt.r).getD zRc
def fnW (l : List Wt) (s g : Int) : Bool := (fndW l s g).isSome

end Go.Proofs.Ytoabhmpakcgloaa
