/- Layer 11: the law's twin: a box that is none of its own is written over. -/
import Derived.Test.YthnnpipekeanoaaXn
namespace Go.Proofs.Ythnnpipekeanoaa
open Go.RowKit

variable {wB : World} {PT : World → Nat → (Nat → Prop) → Nat → List Wt → Prop} {C C0 : Nat → Nat} {w w0 w' : World} {B T p b X : Nat} {F F0 : Nat → Prop} {lp ld lp0 ld0 : List Wt} {hs : List (Int × Int)} {av ov av0 ov0 tv lv wv : Value} {ls ws : List Value} {rs : List (List Rc)} {n : Nat}

/-- X was new to the twin as it was in w0; since then the books alone have changed -/
theorem Tw.other (fc : FaceW PT) (h0 : Tw wB PT C0 w0 B T p b F0 lp0 ld0 hs av0 ov0 tv lv wv ls ws rs n) (h : Tw wB PT C w B T p b F lp ld hs av ov tv lv wv ls ws rs n) (hX : w0.heap.size ≤ X) (hF : ∀ x, F x → x ≠ X) (ha : ∀ x, av.ownBlock = some x → x ≠ X) (ho : ∀ x, ov.ownBlock = some x → x ≠ X) (hc : Ch (fun y => y = X) w w') : Tw wB PT C w' B T p b F lp ld hs av ov tv lv wv ls ws rs n := by
  have hTl := (Array.getElem?_eq_some_iff.1 h0.hT).1
  have hbl := h0.db.lt
  exact
  { h with
    hT := hc.box h.hT (fun (e : T = X) => by omega)
    pt := fc.ch h.pt hc (fun x hx => hF x hx)
    db := h.db.ch hc (fun (e : b = X) => by omega) ha ho
    td := h.td.ch hc (fun x hx (e : x = X) => by have := (own_in h0.td hx).2.1; omega)
    hl := h.hl.ch hc (fun x hx (e : x = X) => by have := (own_in h0.hl hx).2.1; omega)
    hw := h.hw.ch hc (fun x hx (e : x = X) => by have := (own_in h0.hw hx).2.1; omega)
    hB := Nat.le_trans h.hB hc.size
    fr := h.fr.trans (hc.below h.hB (fun y hy (e : y = X) => by have := h0.hB; omega))
    at1 := fun j hj => (h.at1 j hj).ch hc (fun x hx (e : x = X) => by have := (own_in (h0.at1 j hj) hx).2.1; omega)
    at2 := fun j hj => (h.at2 j hj).ch hc (fun x hx (e : x = X) => by have := (own_in (h0.at2 j hj) hx).2.1; omega)
    fF := fun x hx => Nat.lt_of_lt_of_le (h.fF x hx) hc.size }

end Go.Proofs.Ythnnpipekeanoaa
