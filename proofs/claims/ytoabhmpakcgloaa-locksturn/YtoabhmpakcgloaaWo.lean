/- Layer 11: the document's Put: a wait more. -/
import Derived.Test.YtoabhmpakcgloaaWn
import Derived.Test.YtoabhmpakcgloaaTk
namespace Go.Proofs.Ytoabhmpakcgloaa
open Go.RowKit

variable {w : World} {B b : Nat} {av ov : Value} {l : List Wt}

theorem wp_then {P : Program} {c : Code} {K : Act → World → Prop} {Q : Exit → Act → World → Prop} {a : Act} {w : World} (h : c.wp P (Exit.then K (fun _ _ _ => False)) a w) : c.wp P (Exit.then K Q) a w :=
  Code.wp_mono (fun e a w h => by cases e <;> first | exact h | exact (h : False).elim) h

end Go.Proofs.Ytoabhmpakcgloaa
