/- A world put by what holds of it. -/
import Derived.Test.YtcogiklnegpfiaaTk
import Derived.Test.YtcogiklnegpfiaaFr
namespace Go.Proofs.Ytcogiklnegpfiaa
open Go.RowKit

theorem genK {K : Act → World → Prop} {a : Act} {w : World} {R : World → Prop} (h : R w) (k : ∀ W, R W → K a W) : K a w := k w h
theorem wp_gen {P : Program} {c : Code} {Q : Exit → Act → World → Prop} {a : Act} {R : World → Prop} {w : World} (h : R w) (k : ∀ W, R W → c.wp P Q a W) : c.wp P Q a w := k w h

theorem wp_anyH {P : Program} {c : Code} {R : Exit → Act → World → Prop} {a : Act} {w : World} (h : c.wp P (Exit.then (fun a w => R .normal a w) (fun _ _ _ => False)) a w) : c.wp P R a w :=
  Code.wp_mono (fun e a w h => by cases e <;> first | exact h | exact (h : False).elim) h

/-- a region that draws, from a world of which R holds -/
theorem wp_reg {P : Program} {ops : Array Oper} {Q : Exit → Act → World → Prop} (Qf : Nat → Prop) {id : Nat} {a : Act} {w : World} {R : World → Prop} (hm : P.follows .mixedOrders = true) (hR : R w.drew) (h : ∀ V, R V → Ch Qf V V → wpAnyH P .any ops Q (Ch Qf V) ops.size (Array.replicate ops.size false) a V) : (Code.region id ops true).wp P Q a w :=
  wp_region_held hm (h _ hR (Ch.refl _ _))

end Go.Proofs.Ytcogiklnegpfiaa
