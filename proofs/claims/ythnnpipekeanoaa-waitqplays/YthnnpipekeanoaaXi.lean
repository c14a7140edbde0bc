/- Layer 11: the law's twin: the document's book, the handles told, the lists. -/
import Derived.Test.YthnnpipekeanoaaXh
namespace Go.Proofs.Ythnnpipekeanoaa
open Go.RowKit

variable {wB : World} {PT : World → Nat → (Nat → Prop) → Nat → List Wt → Prop} {C : Nat → Nat} {w w' : World} {B T p b : Nat} {F : Nat → Prop} {lp ld : List Wt} {hs : List (Int × Int)} {av ov tv lv wv : Value} {ls ws : List Value} {rs : List (List Rc)} {n : Nat}

/-- new blocks: of av colour 2, else 3 -/
def paint2 (C : Nat → Nat) (w : World) (av : Value) (x : Nat) : Nat := if w.heap.size ≤ x then (if av.ownBlock = some x then 2 else 3) else C x
theorem paint2_old {x : Nat} (av : Value) (h : x < w.heap.size) : paint2 C w av x = C x := if_neg (by omega)

/-- the document's book changes -/
theorem Tw.doc (fc : FaceW PT) (h : Tw wB PT C w B T p b F lp ld hs av ov tv lv wv ls ws rs n) {av' ov' : Value} {ld' : List Wt} (hd : DB w' B b av' ov' ld') (hc : Ch (fun y => y = b ∨ av.ownBlock = some y ∨ ov.ownBlock = some y) w w') (ha : ∀ x, av'.ownBlock = some x → av.ownBlock = some x ∨ w.heap.size ≤ x) (ho : ∀ x, ov'.ownBlock = some x → ov.ownBlock = some x ∨ w.heap.size ≤ x) : Tw wB PT (paint2 C w av') w' B T p b F lp ld' hs av' ov' tv lv wv ls ws rs n := by
  have ne : ∀ {x k : Nat}, C x = k → k ≠ 1 → k ≠ 2 → k ≠ 3 → ¬ (x = b ∨ av.ownBlock = some x ∨ ov.ownBlock = some x) := fun e h1 h2 h3 hx => by
    rcases hx with rfl | hx | hx
    · exact h1 (e.symm.trans h.cb)
    · exact h2 (e.symm.trans (h.cav _ hx))
    · exact h3 (e.symm.trans (h.cov _ hx))
  have hTl := (Array.getElem?_eq_some_iff.1 h.hT).1
  exact
  { hT := hc.box h.hT (ne h.cT (by decide) (by decide) (by decide))
    pt := fc.ch h.pt hc (fun x hx => ne (h.cF x hx) (by decide) (by decide) (by decide))
    db := hd
    td := h.td.ch hc (fun x hx => ne (h.ctv x hx) (by decide) (by decide) (by decide))
    hl := h.hl.ch hc (fun x hx => ne (h.clv x hx) (by decide) (by decide) (by decide))
    hw := h.hw.ch hc (fun x hx => ne (h.cwv x hx) (by decide) (by decide) (by decide))
    n1 := h.n1
    n2 := h.n2
    hB := Nat.le_trans h.hB hc.size
    fr := h.fr.trans (hc.below h.hB (fun y hy e => by have := h.lb; rcases e with e | e | e; omega; have := (own_in h.db.all e).1; omega; have := (own_in h.db.ov e).1; omega))
    lT := h.lT
    lb := h.lb
    at1 := fun j hj => (h.at1 j hj).ch hc (fun x hx => ne (h.cls j hj x hx) (by omega) (by omega) (by omega))
    at2 := fun j hj => (h.at2 j hj).ch hc (fun x hx => ne (h.cws j hj x hx) (by omega) (by omega) (by omega))
    fF := fun x hx => Nat.lt_of_lt_of_le (h.fF x hx) hc.size
    cT := (paint2_old av' hTl).trans h.cT
    cb := (paint2_old av' h.db.lt).trans h.cb
    cav := fun x hx => (ha x hx).elim (fun k => (paint2_old av' (own_in h.db.all k).2.1).trans (h.cav x k)) (fun k => (if_pos k).trans (if_pos hx))
    cov := fun x hx => (ho x hx).elim (fun k => (paint2_old av' (own_in h.db.ov k).2.1).trans (h.cov x k)) (fun k => (if_pos k).trans (if_neg (fun e => own_ne hd.all hd.ov (by decide) x e hx)))
    ctv := fun x hx => (paint2_old av' (own_in h.td hx).2.1).trans (h.ctv x hx)
    clv := fun x hx => (paint2_old av' (own_in h.hl hx).2.1).trans (h.clv x hx)
    cwv := fun x hx => (paint2_old av' (own_in h.hw hx).2.1).trans (h.cwv x hx)
    cF := fun x hx => (paint2_old av' (h.fF x hx)).trans (h.cF x hx)
    cls := fun j hj x hx => (paint2_old av' (own_in (h.at1 j hj) hx).2.1).trans (h.cls j hj x hx)
    cws := fun j hj x hx => (paint2_old av' (own_in (h.at2 j hj) hx).2.1).trans (h.cws j hj x hx) }

/-- a handle more is told -/
theorem Tw.push (fc : FaceW PT) (h : Tw wB PT C w B T p b F lp ld hs av ov tv lv wv ls ws rs n) {tv' : Value} {hs' : List (Int × Int)} (hT' : w'.heap[T]? = some (.cells #[.pointer (some ⟨p, 0, none⟩), .pointer (some ⟨b, 0, none⟩), tv', lv, wv] 37 (0, 0))) (ht : HdRow w' B tv' hs') (hc : Ch (fun y => y = T ∨ tv.ownBlock = some y) w w') (ha : ∀ x, tv'.ownBlock = some x → tv.ownBlock = some x ∨ w.heap.size ≤ x) : Tw wB PT (paint C w 4) w' B T p b F lp ld hs' av ov tv' lv wv ls ws rs n := by
  have ne : ∀ {x k : Nat}, C x = k → k ≠ 0 → k ≠ 4 → ¬ (x = T ∨ tv.ownBlock = some x) := fun e h1 h2 hx => by
    rcases hx with rfl | hx
    · exact h1 (e.symm.trans h.cT)
    · exact h2 (e.symm.trans (h.ctv _ hx))
  have hTl := (Array.getElem?_eq_some_iff.1 h.hT).1
  exact
  { hT := hT'
    pt := fc.ch h.pt hc (fun x hx => ne (h.cF x hx) (by decide) (by decide))
    db := h.db.ch hc (ne h.cb (by decide) (by decide)) (fun x hx => ne (h.cav x hx) (by decide) (by decide)) (fun x hx => ne (h.cov x hx) (by decide) (by decide))
    td := ht
    hl := h.hl.ch hc (fun x hx => ne (h.clv x hx) (by decide) (by decide))
    hw := h.hw.ch hc (fun x hx => ne (h.cwv x hx) (by decide) (by decide))
    n1 := h.n1
    n2 := h.n2
    hB := Nat.le_trans h.hB hc.size
    fr := h.fr.trans (hc.below h.hB (fun y hy e => by have := h.lT; rcases e with e | e; omega; have := (own_in h.td e).1; omega))
    lT := h.lT
    lb := h.lb
    at1 := fun j hj => (h.at1 j hj).ch hc (fun x hx => ne (h.cls j hj x hx) (by omega) (by omega))
    at2 := fun j hj => (h.at2 j hj).ch hc (fun x hx => ne (h.cws j hj x hx) (by omega) (by omega))
    fF := fun x hx => Nat.lt_of_lt_of_le (h.fF x hx) hc.size
    cT := (paint_old 4 hTl).trans h.cT
    cb := (paint_old 4 h.db.lt).trans h.cb
    cav := fun x hx => (paint_old 4 (own_in h.db.all hx).2.1).trans (h.cav x hx)
    cov := fun x hx => (paint_old 4 (own_in h.db.ov hx).2.1).trans (h.cov x hx)
    ctv := fun x hx => (ha x hx).elim (fun k => (paint_old 4 (own_in h.td k).2.1).trans (h.ctv x k)) (fun k => paint_new 4 k)
    clv := fun x hx => (paint_old 4 (own_in h.hl hx).2.1).trans (h.clv x hx)
    cwv := fun x hx => (paint_old 4 (own_in h.hw hx).2.1).trans (h.cwv x hx)
    cF := fun x hx => (paint_old 4 (h.fF x hx)).trans (h.cF x hx)
    cls := fun j hj x hx => (paint_old 4 (own_in (h.at1 j hj) hx).2.1).trans (h.cls j hj x hx)
    cws := fun j hj x hx => (paint_old 4 (own_in (h.at2 j hj) hx).2.1).trans (h.cws j hj x hx) }

/-- the twin's lists, for over -/
theorem Tw.lists (h : Tw wB PT C w B T p b F lp ld hs av ov tv lv wv ls ws rs n) (hn : n ≤ 100000) (few : ∀ j, j < n → (nthR rs j).length ≤ 99000) : Lsts w B T n (.pointer (some ⟨p, 0, none⟩)) (.pointer (some ⟨b, 0, none⟩)) tv lv wv ls ws rs :=
  { hT := h.hT, hl := h.hl, hw := h.hw, n1 := h.n1, n2 := h.n2, n3 := hn, hB := h.hB
    hd := fun x hx e => by have a := h.clv x hx; have b := h.cwv x e; omega
    at1 := h.at1, at2 := h.at2, few := few
    d1 := fun j k hj hk x hx e => by have a := h.cls j (by omega) x hx; have b := h.cls k hk x e; omega
    d2 := fun j k hj hk x hx e => by have a := h.cls j hj x hx; have b := h.cws k hk x e; omega }

/-- new blocks: each of its own colour -/
def paint3 (C : Nat → Nat) (w : World) (n : Nat) (v v' lv : Value) (x : Nat) : Nat := if w.heap.size ≤ x then (if v.ownBlock = some x then 8 + 2 * n else if v'.ownBlock = some x then 9 + 2 * n else if lv.ownBlock = some x then 5 else 6) else C x
theorem paint3_old {x : Nat} {v v' : Value} (h : x < w.heap.size) : paint3 C w n v v' lv x = C x := if_neg (by omega)

theorem nth_snoc {l : List Value} {v : Value} {j : Nat} (h : j < l.length) : nth (l ++ [v]) j = nth l j := by simp [nth, List.getElem?_append_left h]
theorem nth_last {l : List Value} {v : Value} {j : Nat} (h : l.length = j) : nth (l ++ [v]) j = v := by subst h; simp [nth]
theorem nthR_snoc {l : List (List Rc)} {v : List Rc} {j : Nat} (h : j < l.length) : nthR (l ++ [v]) j = nthR l j := by simp [nthR, List.getElem?_append_left h]
theorem nthR_last {l : List (List Rc)} {v : List Rc} {j : Nat} (h : l.length = j) : nthR (l ++ [v]) j = v := by subst h; simp [nthR]

/-- a list more came out -/
theorem Tw.more (fc : FaceW PT) (h : Tw wB PT C w B T p b F lp ld hs av ov tv lv wv ls ws rs n) (hn : rs.length = n) {v v' lv' wv' : Value} {r : List Rc} (hT' : w'.heap[T]? = some (.cells #[.pointer (some ⟨p, 0, none⟩), .pointer (some ⟨b, 0, none⟩), tv, lv', wv'] 37 (0, 0))) (hl : LsRow w' B lv' (ls ++ [v])) (hw : LsRow w' B wv' (ws ++ [v'])) (hd : ∀ x, lv'.ownBlock = some x → ¬ wv'.ownBlock = some x)
    (hv : RcRow w' B v r) (hv' : RcRow w' B v' r) (hd' : ∀ x, v.ownBlock = some x → ¬ v'.ownBlock = some x) (nv : ∀ x, v.ownBlock = some x → w.heap.size ≤ x) (nv' : ∀ x, v'.ownBlock = some x → w.heap.size ≤ x) (nl : ∀ x, lv'.ownBlock = some x → lv.ownBlock = some x ∨ w.heap.size ≤ x) (nw : ∀ x, wv'.ownBlock = some x → wv.ownBlock = some x ∨ w.heap.size ≤ x)
    (hc : Ch (fun y => y = T ∨ lv.ownBlock = some y ∨ wv.ownBlock = some y) w w') : Tw wB PT (paint3 C w n v v' lv') w' B T p b F lp ld hs av ov tv lv' wv' (ls ++ [v]) (ws ++ [v']) (rs ++ [r]) (n + 1) := by
  have ne : ∀ {x k : Nat}, C x = k → k ≠ 0 → k ≠ 5 → k ≠ 6 → ¬ (x = T ∨ lv.ownBlock = some x ∨ wv.ownBlock = some x) := fun e h1 h2 h3 hx => by
    rcases hx with rfl | hx | hx
    · exact h1 (e.symm.trans h.cT)
    · exact h2 (e.symm.trans (h.clv _ hx))
    · exact h3 (e.symm.trans (h.cwv _ hx))
  have hTl := (Array.getElem?_eq_some_iff.1 h.hT).1
  have n1 := h.n1
  have n2 := h.n2
  exact
  { hT := hT'
    pt := fc.ch h.pt hc (fun x hx => ne (h.cF x hx) (by decide) (by decide) (by decide))
    db := h.db.ch hc (ne h.cb (by decide) (by decide) (by decide)) (fun x hx => ne (h.cav x hx) (by decide) (by decide) (by decide)) (fun x hx => ne (h.cov x hx) (by decide) (by decide) (by decide))
    td := h.td.ch hc (fun x hx => ne (h.ctv x hx) (by decide) (by decide) (by decide))
    hl := hl
    hw := hw
    n1 := by simp [h.n1]
    n2 := by simp [h.n2]
    hB := Nat.le_trans h.hB hc.size
    fr := h.fr.trans (hc.below h.hB (fun y hy e => by have := h.lT; rcases e with e | e | e; omega; have := (own_in h.hl e).1; omega; have := (own_in h.hw e).1; omega))
    lT := h.lT
    lb := h.lb
    at1 := fun j hj => by
      by_cases e : j = n
      · rw [nth_last (n1.trans e.symm), nthR_last (hn.trans e.symm)]
        exact hv
      · rw [nth_snoc (by omega), nthR_snoc (by omega)]
        exact (h.at1 j (by omega)).ch hc (fun x hx => ne (h.cls j (by omega) x hx) (by omega) (by omega) (by omega))
    at2 := fun j hj => by
      by_cases e : j = n
      · rw [nth_last (n2.trans e.symm), nthR_last (hn.trans e.symm)]
        exact hv'
      · rw [nth_snoc (by omega), nthR_snoc (by omega)]
        exact (h.at2 j (by omega)).ch hc (fun x hx => ne (h.cws j (by omega) x hx) (by omega) (by omega) (by omega))
    fF := fun x hx => Nat.lt_of_lt_of_le (h.fF x hx) hc.size
    cT := (paint3_old hTl).trans h.cT
    cb := (paint3_old h.db.lt).trans h.cb
    cav := fun x hx => (paint3_old (own_in h.db.all hx).2.1).trans (h.cav x hx)
    cov := fun x hx => (paint3_old (own_in h.db.ov hx).2.1).trans (h.cov x hx)
    ctv := fun x hx => (paint3_old (own_in h.td hx).2.1).trans (h.ctv x hx)
    clv := fun x hx => (nl x hx).elim (fun k => (paint3_old (own_in h.hl k).2.1).trans (h.clv x k)) (fun k => by
      unfold paint3
      rw [if_pos k, if_neg (fun e => own_ne hl hv (by decide) x hx e), if_neg (fun e => own_ne hl hv' (by decide) x hx e), if_pos hx])
    cwv := fun x hx => (nw x hx).elim (fun k => (paint3_old (own_in h.hw k).2.1).trans (h.cwv x k)) (fun k => by
      unfold paint3
      rw [if_pos k, if_neg (fun e => own_ne hw hv (by decide) x hx e), if_neg (fun e => own_ne hw hv' (by decide) x hx e), if_neg (fun e => hd x e hx)])
    cF := fun x hx => (paint3_old (h.fF x hx)).trans (h.cF x hx)
    cls := fun j hj x hx => by
      by_cases e : j = n
      · rw [nth_last (n1.trans e.symm)] at hx
        unfold paint3
        rw [if_pos (nv x hx), if_pos hx, e]
      · rw [nth_snoc (by omega)] at hx
        exact (paint3_old (own_in (h.at1 j (by omega)) hx).2.1).trans (h.cls j (by omega) x hx)
    cws := fun j hj x hx => by
      by_cases e : j = n
      · rw [nth_last (n2.trans e.symm)] at hx
        unfold paint3
        rw [if_pos (nv' x hx), if_neg (fun k => hd' x k hx), if_pos hx, e]
      · rw [nth_snoc (by omega)] at hx
        exact (paint3_old (own_in (h.at2 j (by omega)) hx).2.1).trans (h.cws j (by omega) x hx) }

end Go.Proofs.Ythnnpipekeanoaa
