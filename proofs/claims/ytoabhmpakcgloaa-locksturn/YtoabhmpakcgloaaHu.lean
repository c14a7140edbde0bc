/- Layer 11: the landed book, as the face asks: Get. -/
import Derived.Test.YtoabhmpakcgloaaHt
namespace Go.Proofs.Ytoabhmpakcgloaa
open Go.RowKit

variable {w : World} {B p M C n : Nat} {wv : Value} {l : List Wt} {sl : List Sl} {full : Int} {en : Ln → Option (Int × Int)} {cl : Int × Int × Int → Option Int}

/-- cells from the first on, written over -/
theorem wrsA (W : World) (A : Nat) : ∀ (vs : List Value), Ch (fun y => y = A) W (W.setCells A 0 vs) := fun vs => by
  have : ∀ (vs : List Value) (o : Nat) (W : World), Ch (fun y => y = A) W (W.setCells A o vs) := by
    intro vs
    induction vs with
    | nil => exact fun o W => Ch.refl _ _
    | cons v r ih => exact fun o W => (Ch.set (Q := fun y => y = A) W rfl o v).trans (ih _ _) (fun _ _ h => h)
  exact this vs 0 W

end Go.Proofs.Ytoabhmpakcgloaa
