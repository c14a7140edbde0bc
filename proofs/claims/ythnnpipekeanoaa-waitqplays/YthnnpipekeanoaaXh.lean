/- Layer 11: the law's twin in memory; each block has a colour, so that no two parts share one. -/
import Derived.Test.YthnnpipekeanoaaXg
namespace Go.Proofs.Ythnnpipekeanoaa
open Go.RowKit

/-- the twin: the program's book (lp), the document's (ld), the handles told, the lists that came out; C: the blocks' colours -/
structure Tw (wB : World) (PT : World → Nat → (Nat → Prop) → Nat → List Wt → Prop) (C : Nat → Nat) (w : World) (B T p b : Nat) (F : Nat → Prop) (lp ld : List Wt) (hs : List (Int × Int)) (av ov tv lv wv : Value) (ls ws : List Value) (rs : List (List Rc)) (n : Nat) : Prop where
  hT : w.heap[T]? = some (.cells #[.pointer (some ⟨p, 0, none⟩), .pointer (some ⟨b, 0, none⟩), tv, lv, wv] 37 (0, 0))
  pt : PT w B F p lp
  db : DB w B b av ov ld
  td : HdRow w B tv hs
  hl : LsRow w B lv ls
  hw : LsRow w B wv ws
  n1 : ls.length = n
  n2 : ws.length = n
  hB : B ≤ w.heap.size
  fr : Below B wB w
  lT : B ≤ T
  lb : B ≤ b
  at1 : ∀ j, j < n → RcRow w B (nth ls j) (nthR rs j)
  at2 : ∀ j, j < n → RcRow w B (nth ws j) (nthR rs j)
  fF : ∀ x, F x → x < w.heap.size
  cT : C T = 0
  cb : C b = 1
  cav : ∀ x, av.ownBlock = some x → C x = 2
  cov : ∀ x, ov.ownBlock = some x → C x = 3
  ctv : ∀ x, tv.ownBlock = some x → C x = 4
  clv : ∀ x, lv.ownBlock = some x → C x = 5
  cwv : ∀ x, wv.ownBlock = some x → C x = 6
  cF : ∀ x, F x → C x = 7
  cls : ∀ j, j < n → ∀ x, (nth ls j).ownBlock = some x → C x = 8 + 2 * j
  cws : ∀ j, j < n → ∀ x, (nth ws j).ownBlock = some x → C x = 9 + 2 * j

section
variable {wB : World} {PT : World → Nat → (Nat → Prop) → Nat → List Wt → Prop} {C : Nat → Nat} {w w' : World} {B T p b : Nat} {F : Nat → Prop} {lp ld : List Wt} {hs : List (Int × Int)} {av ov tv lv wv : Value} {ls ws : List Value} {rs : List (List Rc)} {n : Nat}

/-- new blocks of colour k -/
def paint (C : Nat → Nat) (w : World) (k : Nat) (x : Nat) : Nat := if w.heap.size ≤ x then k else C x
theorem paint_old {x : Nat} (k : Nat) (h : x < w.heap.size) : paint C w k x = C x := if_neg (by omega)
theorem paint_new {x : Nat} (k : Nat) (h : w.heap.size ≤ x) : paint C w k x = k := if_pos h

/-- nothing of the twin changes -/
theorem Tw.quiet (fc : FaceW PT) (h : Tw wB PT C w B T p b F lp ld hs av ov tv lv wv ls ws rs n) (hc : Ch (fun _ => False) w w') : Tw wB PT C w' B T p b F lp ld hs av ov tv lv wv ls ws rs n :=
  { h with
    hT := hc.box h.hT (fun h => h)
    pt := fc.ch h.pt hc (fun _ _ h => h)
    db := h.db.ch hc (fun h => h) (fun _ _ h => h) (fun _ _ h => h)
    td := h.td.ch hc (fun _ _ h => h)
    hl := h.hl.ch hc (fun _ _ h => h)
    hw := h.hw.ch hc (fun _ _ h => h)
    hB := Nat.le_trans h.hB hc.size
    fr := h.fr.trans (hc.below h.hB (fun _ _ h => h))
    at1 := fun j hj => (h.at1 j hj).ch hc (fun _ _ h => h)
    at2 := fun j hj => (h.at2 j hj).ch hc (fun _ _ h => h)
    fF := fun x hx => Nat.lt_of_lt_of_le (h.fF x hx) hc.size }

/-- the program's book changes -/
theorem Tw.book (fc : FaceW PT) (h : Tw wB PT C w B T p b F lp ld hs av ov tv lv wv ls ws rs n) {F' : Nat → Prop} {lp' : List Wt} (hc : Ch F w w') (hp : PT w' B F' p lp') (hF : ∀ y, F' y → F y ∨ w.heap.size ≤ y) : Tw wB PT (paint C w 7) w' B T p b F' lp' ld hs av ov tv lv wv ls ws rs n := by
  have ne : ∀ {x k : Nat}, C x = k → k ≠ 7 → ¬ F x := fun e hk hx => hk (e.symm.trans (h.cF _ hx))
  have hTl := (Array.getElem?_eq_some_iff.1 h.hT).1
  exact
  { hT := hc.box h.hT (ne h.cT (by decide))
    pt := hp
    db := h.db.ch hc (ne h.cb (by decide)) (fun x hx => ne (h.cav x hx) (by decide)) (fun x hx => ne (h.cov x hx) (by decide))
    td := h.td.ch hc (fun x hx => ne (h.ctv x hx) (by decide))
    hl := h.hl.ch hc (fun x hx => ne (h.clv x hx) (by decide))
    hw := h.hw.ch hc (fun x hx => ne (h.cwv x hx) (by decide))
    n1 := h.n1
    n2 := h.n2
    hB := Nat.le_trans h.hB hc.size
    fr := h.fr.trans (hc.below h.hB (fun y hy e => by have := (fc.foot h.pt y e).1; omega))
    lT := h.lT
    lb := h.lb
    at1 := fun j hj => (h.at1 j hj).ch hc (fun x hx => ne (h.cls j hj x hx) (by omega))
    at2 := fun j hj => (h.at2 j hj).ch hc (fun x hx => ne (h.cws j hj x hx) (by omega))
    fF := fun x hx => (fc.foot hp x hx).2
    cT := (paint_old 7 hTl).trans h.cT
    cb := (paint_old 7 h.db.lt).trans h.cb
    cav := fun x hx => (paint_old 7 (own_in h.db.all hx).2.1).trans (h.cav x hx)
    cov := fun x hx => (paint_old 7 (own_in h.db.ov hx).2.1).trans (h.cov x hx)
    ctv := fun x hx => (paint_old 7 (own_in h.td hx).2.1).trans (h.ctv x hx)
    clv := fun x hx => (paint_old 7 (own_in h.hl hx).2.1).trans (h.clv x hx)
    cwv := fun x hx => (paint_old 7 (own_in h.hw hx).2.1).trans (h.cwv x hx)
    cF := fun x hx => (hF x hx).elim (fun k => (paint_old 7 (h.fF x k)).trans (h.cF x k)) (fun k => paint_new 7 k)
    cls := fun j hj x hx => (paint_old 7 (own_in (h.at1 j hj) hx).2.1).trans (h.cls j hj x hx)
    cws := fun j hj x hx => (paint_old 7 (own_in (h.at2 j hj) hx).2.1).trans (h.cws j hj x hx) }
end

end Go.Proofs.Ythnnpipekeanoaa
