/- Frames for ranges over functions. -/
import Derived.Test.YtcogiklnegpfiaaFr
import Derived.RangeFuncNested
import Derived.RangeFuncBound
import Derived.RangeFuncCalls
import Derived.RangeFuncLeaves
import Derived.Shelf.Abstract
import Derived.Shelf.RegionOpen
import Derived.OwnWalkIn
import Derived.TacticsInMore
import Derived.LoopNIn
import Derived.LoopIn
namespace Go.Proofs.Ytcogiklnegpfiaa
open Go.RowKit Go.Shelf

/-- blocks of cells from n on stay -/
structure Kc (n : Nat) (w w' : World) : Prop where
  size : w.heap.size ≤ w'.heap.size
  blk : ∀ b cs T r, n ≤ b → w.heap[b]? = some (.cells cs T r) → w'.heap[b]? = some (.cells cs T r)

theorem Kc.refl (n : Nat) (w : World) : Kc n w w := ⟨Nat.le_refl _, fun _ _ _ _ _ h => h⟩
theorem Kc.trans {n : Nat} {a b c : World} (h : Kc n a b) (k : Kc n b c) : Kc n a c := ⟨Nat.le_trans h.size k.size, fun x cs T r hx hb => k.blk x cs T r hx (h.blk x cs T r hx hb)⟩
theorem Kc.put {n : Nat} (W : World) (l : Nat) (o o' : Obj) (h : W.heap[l]? = some o) (hc : o.isCells = false) : Kc n W (W.putObj l o') :=
  ⟨by simp, fun b cs T r _ hb => by
    have : b ≠ l := fun e => by subst e; rw [h] at hb; injection hb with hb; subst hb; cases hc
    exact (World.putObj_heap_other this).trans hb⟩
theorem Kc.of_ch {n : Nat} {Q : Nat → Prop} {w w' : World} (h : Ch Q w w') (hq : ∀ x, Q x → x < n) : Kc n w w' :=
  ⟨h.size, fun b cs T r hb hc => h.box hc fun hQ => by have := hq b hQ; omega⟩
theorem keeps_of_ch {n : Nat} {Q : Nat → Prop} {w w' : World} (h : Ch Q w w') (hq : ∀ x, Q x → x < n) : KeepsFrom n w w' :=
  ⟨h.size, fun b o hb hc _ => h.box hc fun hQ => by have := hq b hQ; omega⟩
theorem ownFrom_ch {β : Type} {B : Nat} {Q : Nat → Prop} {w : World} (hB : w.heap.size ≤ B) : OwnFrom B (fun (_ : β) W => Ch Q w W) :=
  fun _ X Y row hs hg hr => hs.trans (Ch.of_grown (Q := fun x => row = some x) hg (fun _ e => e)) fun x hx e => by have := (hr x e).1; omega

end Go.Proofs.Ytcogiklnegpfiaa
