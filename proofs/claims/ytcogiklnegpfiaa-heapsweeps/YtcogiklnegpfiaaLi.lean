/- Lists that came in, at known places. -/
import Derived.Test.YtcogiklnegpfiaaFr
namespace Go.Proofs.Ytcogiklnegpfiaa
open Go.RowKit

/-- a slice of n, from here on, in a block below N -/
def Sl (N : Nat) (v : Value) (n b o : Nat) : Prop := ∃ a c, v = .slice a n c ∧ n ≤ c ∧ n ≤ 9223372036854775807 ∧ (0 < n → a = some ⟨b, o, none⟩ ∧ b < N)
/-- a list of elements of k cells each -/
def Lst {α : Type} (N k : Nat) (A : Nat → Nat → α → Prop) (v : Value) (l : List α) : Prop := ∃ b o, Sl N v l.length b o ∧ ∀ i (h : i < l.length), A b (o + i * k) l[i]

/-- an int that came in -/
def InAt (w : World) (b o : Nat) (y : Int) : Prop := w.cell? ⟨b, o, none⟩ = some (.int .i64 y) ∧ -9223372036854775808 ≤ y ∧ y ≤ 9223372036854775807

end Go.Proofs.Ytcogiklnegpfiaa
