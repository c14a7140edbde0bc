/- Layer 12: RingSeen: the law's boxes, the ring, what there is. -/
import Derived.Test.YtfheeifllpnjaaaDb
import Derived.Test.YtfheeifllpnjaaaLi
namespace Go.Proofs.Ytfheeifllpnjaaa
open Go.RowKit Go.Shelf

/-- append, as one step of a region that draws its order: where the new slice lies -/
theorem step_append_at {P : Program} {ops : Array Oper} {o : Oper} {a : Act} {w : World} {K : Act → World → Prop} {Q : Exit → Act → World → Prop} {E : Prop}
    (hg : o.guard = none) (s x : Operand) (t : TypeId) (hop : o.op = Op.call { callee := Callee.builtin Builtin.append, args := #[s, x], argTypes := #[t, t] })
    (B : Nat) (e : TypeId) (i : TypeInfo) (z : Value) (size bytes : Nat) (h1 : P.underlying t = some (.slice e)) (h2 : P.info? e = some i) (h3 : i.zero = some z) (h4 : i.size = size) (h5 : i.bytes = bytes) (h6 : z.cells.size = size) (h7 : 0 < size)
    (v : Value) (n : Nat) (xs : List Value) (hs : a.eval s = v) (hown : w.ownsRow B e size v n xs)
    (ad : Addr) (m c : Nat) (news : List Value) (hx : a.eval x = .slice (some ad) m c) (hn : news.length = m * size) (hc : ∀ j u, news[j]? = some u → w.cell? (ad.add j) = some u) (h1c : ∀ u ∈ news, u.oneCell' = true)
    (b1 : n + m ≤ maxLen) (b2 : (n + m) * bytes ≤ 140737488355328) (hB : B ≤ w.heap.size)
    (hK : ∀ v' w', w'.ownsRow B e size v' (n + m) (xs ++ news) → w.grownBy w' v.ownBlock → (v'.ownBlock = v.ownBlock ∨ v'.ownBlock = some w.heap.size) → K (a.put o.dst v') w') :
    if Region.wanted o (yielded ops a.tmps) = true then Oper.wp P o a w K Q else E := by
  have hw : Region.wanted o (yielded ops a.tmps) = true := by simp [Region.wanted, hg]
  rw [if_pos hw]
  obtain ⟨v', w', hrun, r1, r2, _, r3⟩ := run_append_own_at (P := P) w B t o.type e i z size bytes h1 h2 h3 h4 h5 h6 h7 v n xs hown ad m c news hn hc h1c b1 b2 hB
  unfold Oper.wp
  simp [execOp, hop, resolve, invoke, builtin, hs, hx, hrun, Result.andThen]
  exact hK v' w' r1 r2 r3

structure Sn (w0 : World) (A6 A7 A8 A10 N : Nat) (F : Nat → Prop) (p n : Nat) (outs : Int) (iv : Value) (xs ths : List Int) (v : Value) (W : World) : Prop where
  bo : Boxed W A6 3 (.int .i64 outs)
  bi : Boxed W A7 29 iv
  br : Boxed W A8 24 (.pointer (some ⟨p, 0, none⟩))
  bt : Boxed W A10 29 v
  pr : PRI W (A7 + 1) F p xs n
  row : Row inF 1 3 W N v ths
  fr : Below w0.heap.size w0 W
  lF : ∀ x, F x → x < A8
  l6 : w0.heap.size ≤ A6
  l7 : A6 < A7
  l8 : A7 < A8
  l10 : A8 < A10
  lN : A10 < N

section
variable {w0 W W' : World} {A6 A7 A8 A10 N : Nat} {F : Nat → Prop} {p n : Nat} {outs : Int} {iv : Value} {xs ths : List Int} {v : Value}

theorem Sn.ch {Q : Nat → Prop} (h : Sn w0 A6 A7 A8 A10 N F p n outs iv xs ths v W) (hc : Ch Q W W') (hq : ∀ x, (x < N ∨ v.ownBlock = some x) → ¬ Q x) : Sn w0 A6 A7 A8 A10 N F p n outs iv xs ths v W' :=
  have l6 := h.l6; have l7 := h.l7; have l8 := h.l8; have l10 := h.l10; have lN := h.lN
  ⟨hc.box h.bo (hq _ (Or.inl (by omega))), hc.box h.bi (hq _ (Or.inl (by omega))), hc.box h.br (hq _ (Or.inl (by omega))), hc.box h.bt (hq _ (Or.inl (by omega))), h.pr.ch hc (fun x hx => hq _ (Or.inl (by have := h.lF x hx; omega))), h.row.ch hc (fun g hg => hq _ (Or.inr hg)), h.fr.trans (hc.below h.fr.size (fun b hb => hq _ (Or.inl (by omega)))), h.lF, l6, l7, l8, l10, lN⟩
theorem Sn.quiet (h : Sn w0 A6 A7 A8 A10 N F p n outs iv xs ths v W) (hc : Ch (fun _ => False) W W') : Sn w0 A6 A7 A8 A10 N F p n outs iv xs ths v W' := h.ch hc (fun _ _ h => h)
theorem Sn.ring {ys : List Int} (h : Sn w0 A6 A7 A8 A10 N F p n outs iv xs ths v W) (hp : PRI W' (A7 + 1) F p ys n) (hc : Ch F W W') : Sn w0 A6 A7 A8 A10 N F p n outs iv ys ths v W' := by
  have l6 := h.l6; have l7 := h.l7; have l8 := h.l8; have l10 := h.l10; have lN := h.lN
  have hF : ∀ x, F x → A7 < x ∧ x < A8 := fun x hx => ⟨by have := (h.pr.foot x hx).1; omega, h.lF x hx⟩
  exact ⟨hc.box h.bo (fun e => by have := hF _ e; omega), hc.box h.bi (fun e => by have := hF _ e; omega), hc.box h.br (fun e => by have := hF _ e; omega), hc.box h.bt (fun e => by have := hF _ e; omega), hp, h.row.ch hc (fun g hg e => by have := hF _ e; have := (own_in h.row hg).1; omega), h.fr.trans (hc.below h.fr.size (fun b hb e => by have := hF _ e; omega)), h.lF, l6, l7, l8, l10, lN⟩
theorem Sn.go {ys : List Int} {Q : Nat → Prop} (h : Sn w0 A6 A7 A8 A10 N F p n outs iv xs ths v W) (hp : PRI W' (A7 + 1) F p ys n) (hc : Ch Q W W') (hq : ∀ x, Q x → F x ∨ (N ≤ x ∧ ¬ v.ownBlock = some x)) : Sn w0 A6 A7 A8 A10 N F p n outs iv ys ths v W' := by
  have l6 := h.l6; have l7 := h.l7; have l8 := h.l8; have l10 := h.l10; have lN := h.lN
  have hF : ∀ x, F x → A7 < x ∧ x < A8 := fun x hx => ⟨by have := (h.pr.foot x hx).1; omega, h.lF x hx⟩
  have hn : ∀ x, (x ≤ A7 ∨ x = A8 ∨ x = A10) → ¬ Q x := fun x hx e => (hq x e).elim (fun e => by have := hF x e; omega) (fun e => by omega)
  exact ⟨hc.box h.bo (hn _ (by omega)), hc.box h.bi (hn _ (by omega)), hc.box h.br (hn _ (by omega)), hc.box h.bt (hn _ (by omega)), hp, h.row.ch hc (fun g hg e => (hq g e).elim (fun e => by have := hF _ e; have := (own_in h.row hg).1; omega) (fun e => e.2 hg)), h.fr.trans (hc.below h.fr.size (fun b hb => hn _ (by omega))), h.lF, l6, l7, l8, l10, lN⟩
/-- a cell of what came in -/
theorem Sn.in_ {k : Int} {b o : Nat} (h : Sn w0 A6 A7 A8 A10 N F p n outs iv xs ths v W) (hb : b < w0.heap.size) (hc : w0.cell? ⟨b, o, none⟩ = some (.int .i64 k)) : W.cell? ⟨b, o, none⟩ = some (.int .i64 k) := (h.fr.cell (p := ⟨b, o, none⟩) hb).trans hc
end

theorem pri_own {M B : Nat} {F : Nat → Prop} {p n : Nat} (h : ∀ x, F x → x < M) : OwnFrom M (fun (_ : Nat) V => ∃ ys, PRI V B F p ys n) := fun _ X Y row ⟨ys, hs⟩ hg hr =>
  ⟨ys, hs.ch (Ch.of_grown (Q := fun x => row = some x) hg (fun _ e => e)) (fun x hx e => by have := (hr x e).1; have := h x hx; omega)⟩

end Go.Proofs.Ytfheeifllpnjaaa
