/- Layer 13: what the marker keeps, round by round. -/
import Derived.Test.YtcogiklnegpfiaaGm
namespace Go.Proofs.Ytcogiklnegpfiaa
open Go.RowKit Go.Shelf

/-- the marker's blocks, and what is asked -/
structure Pr where
  B : Nat
  N0 : Nat
  b : Nat
  p : Nat
  g : Nat
  bh : Nat
  bm : Nat
  bt : Nat
  b1 : Nat
  b2 : Nat
  b3 : Nat
  M : Nat
  l : List Th
  f : Value

structure Bx (P : Pr) (w : World) : Prop where
  e1 : w.heap[P.b1]? = some (.cells #[.func (.func 49) #[] #[.pointer (some ⟨P.bh, 0, none⟩), .pointer (some ⟨P.bm, 0, none⟩)]] 94 (0, 0))
  e2 : w.heap[P.b2]? = some (.cells #[P.f] 69 (0, 0))
  e3 : w.heap[P.b3]? = some (.cells #[.func (.func 51) #[] #[.pointer (some ⟨P.b1, 0, none⟩), .pointer (some ⟨P.b2, 0, none⟩), .pointer (some ⟨P.b3, 0, none⟩)]] 95 (0, 0))

/-- the blocks that nobody else may touch -/
def Pr.Fx (P : Pr) (y : Nat) : Prop := y = P.b ∨ y = P.p ∨ y = P.g ∨ y = P.bh ∨ y = P.bm ∨ y = P.b1 ∨ y = P.b2 ∨ y = P.b3

structure Mw (P : Pr) (J : List Hd → World → (Nat → Prop) → Prop) (w : World) (mt : List Bool) (A : List Hd) (O : Nat → Prop) : Prop where
  hp : Hp w P.B P.b P.p P.g P.l P.M
  mkr : Mk w P.N0 P.bh P.bm P.bt P.b mt
  bx : Bx P w
  j : J A w O
  dis : ∀ y, O y → ¬ P.Fx y ∧ y ≠ P.bt
  len : mt.length = P.M + 1
  low : P.N0 ≤ w.heap.size

section
variable {P : Pr} {J : List Hd → World → (Nat → Prop) → Prop} {tl : Hd → List Hd} {rts : List Hd} {w w' wr w1 w5 w6 : World} {mt mt' : List Bool} {A A' : List Hd} {O O' O6 : Nat → Prop} {v fv v5 v6 : Value} {nx rest : List Hd} {x : Hd}

theorem Bx.ch {Q : Nat → Prop} (h : Bx P w) (hc : Ch Q w w') (hq : ∀ y, Q y → ¬ P.Fx y) : Bx P w' :=
  ⟨hc.box h.e1 (fun e => hq _ e (by simp [Pr.Fx])), hc.box h.e2 (fun e => hq _ e (by simp [Pr.Fx])), hc.box h.e3 (fun e => hq _ e (by simp [Pr.Fx]))⟩
theorem Mw.ch {Q : Nat → Prop} (T : Teller P.f J tl) (h : Mw P J w mt A O) (hc : Ch Q w w') (hq : ∀ y, Q y → ¬ P.Fx y ∧ y ≠ P.bt ∧ ¬ O y) : Mw P J w' mt A O :=
  ⟨h.hp.ch hc (fun e => (hq _ e).1 (by simp [Pr.Fx])) (fun e => (hq _ e).1 (by simp [Pr.Fx])) (fun e => (hq _ e).1 (by simp [Pr.Fx])),
   h.mkr.ch hc (fun e => (hq _ e).1 (by simp [Pr.Fx])) (fun e => (hq _ e).1 (by simp [Pr.Fx])) (fun e => (hq _ e).2.1 rfl),
   h.bx.ch hc (fun y hy => (hq y hy).1), T.keep _ _ _ _ Q h.j hc (fun y hy e => (hq y e).2.2 hy), h.dis, h.len, Nat.le_trans h.low hc.size⟩
/-- a row of handles lies apart -/
theorem Mw.apart {N n : Nat} {xs : List Value} (h : Mw P J w mt A O) (r : w.ownsRow N 43 2 v n xs) : ∀ y, v.ownBlock = some y → ¬ P.Fx y ∧ y ≠ P.bt := by
  intro y hy
  have a1 := h.hp.apart r (by decide) (by decide) (by decide) y hy
  have a2 := h.mkr.apart r (by decide) (by decide) (by decide) y hy
  have a3 : P.b1 ≠ y := fun q => own_box r h.bx.e1 (by decide) (by rw [q]; exact hy)
  have a4 : P.b2 ≠ y := fun q => own_box r h.bx.e2 (by decide) (by rw [q]; exact hy)
  have a5 : P.b3 ≠ y := fun q => own_box r h.bx.e3 (by decide) (by rw [q]; exact hy)
  refine ⟨fun e => ?_, fun e => a2.2.2 e.symm⟩
  rcases e with e | e | e | e | e | e | e | e
  · exact a1.1 e.symm
  · exact a1.2.1 e.symm
  · exact a1.2.2 e.symm
  · exact a2.1 e.symm
  · exact a2.2.1 e.symm
  · exact a3 e.symm
  · exact a4 e.symm
  · exact a5 e.symm

/-- what the rounds keep, from world w on -/
structure LoopI (P : Pr) (J : List Hd → World → (Nat → Prop) → Prop) (tl : Hd → List Hd) (rts : List Hd) (w : World) (mt : List Bool) (O : Nat → Prop) (wr : World) (fv : Value) (mt' : List Bool) (A' : List Hd) (O' : Nat → Prop) (nx rest : List Hd) : Prop where
  mw : Mw P J wr mt' A' O'
  row : Row hF 2 43 wr P.N0 fv nx
  ms : MS (lvH P.l) tl rts (P.M + 1) mt' (rest ++ nx) A' []
  dis : ∀ y, O' y → O y ∨ w.heap.size ≤ y
  nxo : ∀ y, fv.ownBlock = some y → w.heap.size ≤ y ∧ ¬ O' y
  ch : Ch (fun y => y = P.bt ∨ O y) w wr
  um : unm mt' + nx.length = unm mt

/-- one more box -/
theorem LoopI.box (T : Teller P.f J tl) (h : LoopI P J tl rts w mt O wr fv mt' A' O' nx rest) (hc : Ch (fun _ => False) wr w1) : LoopI P J tl rts w mt O w1 fv mt' A' O' nx rest :=
  ⟨h.mw.ch T hc (fun _ h => h.elim), h.row.ch hc (fun _ _ h => h), h.ms, h.dis, h.nxo, h.ch.trans hc (fun _ _ h => h.elim), h.um⟩

theorem LoopI.loads (h : LoopI P J tl rts w mt O wr fv mt' A' O' nx rest) : ∀ y, y = P.b1 ∨ y = P.b2 ∨ y = P.b3 → ¬ (y = P.bt ∨ O' y ∨ fv.ownBlock = some y) := by
  have a3 : P.b1 ≠ P.bt := fun q => own_box h.mw.mkr.t h.mw.bx.e1 (by decide) (by rw [q]; rfl)
  have a4 : P.b2 ≠ P.bt := fun q => own_box h.mw.mkr.t h.mw.bx.e2 (by decide) (by rw [q]; rfl)
  have a5 : P.b3 ≠ P.bt := fun q => own_box h.mw.mkr.t h.mw.bx.e3 (by decide) (by rw [q]; rfl)
  intro y hy e
  have hf : P.Fx y := by
    rcases hy with rfl | rfl | rfl <;> simp [Pr.Fx]
  rcases e with e | e | e
  · rcases hy with rfl | rfl | rfl
    · exact a3 e
    · exact a4 e
    · exact a5 e
  · exact (h.mw.dis y e).1 hf
  · exact (h.mw.apart h.row y e).1 hf

/-- behind an answer -/
structure ToldI (P : Pr) (J : List Hd → World → (Nat → Prop) → Prop) (tl : Hd → List Hd) (rts : List Hd) (w : World) (mt : List Bool) (O : Nat → Prop) (w5 : World) (fv : Value) (mt' : List Bool) (A' : List Hd) (O6 : Nat → Prop) (nx rest : List Hd) (x : Hd) (v5 : Value) : Prop where
  mw : Mw P J w5 mt' (A' ++ [x]) O6
  row : Row hF 2 43 w5 P.N0 fv nx
  ms : MS (lvH P.l) tl rts (P.M + 1) mt' (rest ++ nx) (A' ++ [x]) (tl x)
  dis : ∀ y, O6 y → O y ∨ w.heap.size ≤ y
  nxo : ∀ y, fv.ownBlock = some y → w.heap.size ≤ y ∧ ¬ O6 y
  ch : Ch (fun y => y = P.bt ∨ O y) w w5
  um : unm mt' + nx.length = unm mt
  hl : HLo w5 O6 v5 (tl x)

theorem told_next (h : LoopI P J tl rts w mt O w1 fv mt' A' O' nx (x :: rest)) (hl5 : HLo w5 O6 v5 (tl x)) (hj5 : J (A' ++ [x]) w5 O6) (hc5 : Ch O' w1 w5) (ho5 : ∀ y, O6 y → O' y ∨ w1.heap.size ≤ y) :
    ToldI P J tl rts w mt O w5 fv mt' A' O6 nx rest x v5 ∧ Ch (fun y => y = P.bt ∨ O' y ∨ fv.ownBlock = some y) w1 w5 := by
  have hz : w.heap.size ≤ w1.heap.size := h.ch.size
  have hfx : ∀ y, P.Fx y → y < w1.heap.size := by
    intro y hy
    have lo := h.mw.hp.lows
    rcases hy with rfl | rfl | rfl | rfl | rfl | rfl | rfl | rfl
    · exact lo.2.2.2.1
    · exact lo.2.2.2.2.1
    · exact lo.2.2.2.2.2
    · exact (Array.getElem?_eq_some_iff.1 h.mw.mkr.h).1
    · exact (Array.getElem?_eq_some_iff.1 h.mw.mkr.m).1
    · exact (Array.getElem?_eq_some_iff.1 h.mw.bx.e1).1
    · exact (Array.getElem?_eq_some_iff.1 h.mw.bx.e2).1
    · exact (Array.getElem?_eq_some_iff.1 h.mw.bx.e3).1
  have hbt := h.mw.mkr.own.2.1
  have ms := h.ms.ask
  refine ⟨⟨⟨h.mw.hp.ch hc5 (fun e => (h.mw.dis _ e).1 (by simp [Pr.Fx])) (fun e => (h.mw.dis _ e).1 (by simp [Pr.Fx])) (fun e => (h.mw.dis _ e).1 (by simp [Pr.Fx])), h.mw.mkr.ch hc5 (fun e => (h.mw.dis _ e).1 (by simp [Pr.Fx])) (fun e => (h.mw.dis _ e).1 (by simp [Pr.Fx])) (fun e => (h.mw.dis _ e).2 rfl), h.mw.bx.ch hc5 (fun y hy => (h.mw.dis y hy).1), hj5, fun y hy => ?_, h.mw.len, Nat.le_trans h.mw.low hc5.size⟩, h.row.ch hc5 (fun y e => (h.nxo y e).2), ms.1, fun y hy => ?_, fun y hy => ⟨(h.nxo y hy).1, fun e => ?_⟩, h.ch.trans hc5 (fun y hy e => ?_), h.um, hl5⟩, hc5.mono (fun y _ e => .inr (.inl e))⟩
  · rcases ho5 y hy with e | e
    · exact h.mw.dis y e
    · exact ⟨fun q => absurd (hfx y q) (by omega), by omega⟩
  · rcases ho5 y hy with e | e
    · exact h.dis y e
    · exact .inr (by omega)
  · rcases ho5 y e with e | e
    · exact (h.nxo y hy).2 e
    · exact absurd (own_in h.row hy).2.1 (by omega)
  · rcases h.dis y e with e | e
    · exact .inr e
    · omega

theorem unm_le (mt : List Bool) : unm mt ≤ mt.length := List.countP_le_length

theorem ToldI.meet (T : Teller P.f J tl) (h : ToldI P J tl rts w mt O w5 fv mt' A' O6 nx rest x v5) (hm : unm mt ≤ 1000) :
    Calls Try.prog 49 #[fv, v5, .pointer (some ⟨P.bh, 0, none⟩), .pointer (some ⟨P.bm, 0, none⟩)] w5 fun e w' => ∃ v', e = .returned v' ∧ MeetI w5 w' P.B P.N0 P.b P.p P.g P.bh P.bm P.bt P.M P.l fv v' (meets (lvH P.l) (mt', nx) (tl x)).1 (meets (lvH P.l) (mt', nx) (tl x)).2 :=
  meet_is h.mw.hp h.mw.mkr h.row h.hl (fun y hy => T.us x y hy) (fun e => (h.mw.dis _ e).2 rfl) (fun y hy => (h.nxo y hy).2) h.mw.len (by rw [h.um]; exact hm) h.mw.low

theorem ToldI.next (T : Teller P.f J tl) (h : ToldI P J tl rts w mt O w5 fv mt' A' O6 nx rest x v5) (hc : Ch (fun y => y = P.bt ∨ O' y ∨ fv.ownBlock = some y) w1 w5) (hi : MeetI w5 w6 P.B P.N0 P.b P.p P.g P.bh P.bm P.bt P.M P.l fv v6 (meets (lvH P.l) (mt', nx) (tl x)).1 (meets (lvH P.l) (mt', nx) (tl x)).2) :
    LoopI P J tl rts w mt O w6 v6 (meets (lvH P.l) (mt', nx) (tl x)).1 (A' ++ [x]) O6 (meets (lvH P.l) (mt', nx) (tl x)).2 rest ∧ Ch (fun y => y = P.bt ∨ O' y ∨ fv.ownBlock = some y) w1 w6 := by
  have hv := lv_ok h.mw.hp.tb.wf h.mw.hp.tb.lt
  have k := MS.meets hv (look := rest) h.ms
  have hap := h.mw.apart h.row
  have hz : w.heap.size ≤ w5.heap.size := h.ch.size
  have hne := h.mw.mkr.ne
  have hbtfx : ∀ y, P.Fx y → y ≠ P.bt := by
    have a2 := h.mw.hp.apart h.mw.mkr.t (by decide) (by decide) (by decide) P.bt rfl
    have a3 : P.b1 ≠ P.bt := fun q => own_box h.mw.mkr.t h.mw.bx.e1 (by decide) (by rw [q]; rfl)
    have a4 : P.b2 ≠ P.bt := fun q => own_box h.mw.mkr.t h.mw.bx.e2 (by decide) (by rw [q]; rfl)
    have a5 : P.b3 ≠ P.bt := fun q => own_box h.mw.mkr.t h.mw.bx.e3 (by decide) (by rw [q]; rfl)
    intro y hy
    rcases hy with rfl | rfl | rfl | rfl | rfl | rfl | rfl | rfl
    · exact a2.1
    · exact a2.2.1
    · exact a2.2.2
    · exact hne.1
    · exact hne.2
    · exact a3
    · exact a4
    · exact a5
  refine ⟨⟨⟨hi.hp, hi.mkr, h.mw.bx.ch hi.ch (fun y hy e => ?_), T.keep _ _ _ _ _ h.mw.j hi.ch (fun y hy e => ?_), h.mw.dis, hi.len, Nat.le_trans h.mw.low hi.ch.size⟩, hi.row, k.1, h.dis, fun y hy => ?_, h.ch.trans hi.ch (fun y hy e => ?_), by rw [k.2]; exact h.um⟩, hc.trans hi.ch (fun y _ e => e.elim .inl (fun e => .inr (.inr e)))⟩
  · rcases hy with hy | hy
    · exact hbtfx y e hy
    · exact (hap y hy).1 e
  · rcases e with e | e
    · exact (h.mw.dis y hy).2 e
    · exact (h.nxo y e).2 hy
  · rcases hi.at' with e | ⟨z, e1, e2⟩
    · exact h.nxo y (by rw [← e]; exact hy)
    · rw [e2] at hy
      injection hy with hy
      subst hy
      exact ⟨by omega, fun q => by have := T.low _ _ _ h.mw.j z q; omega⟩
  · rcases e with e | e
    · exact .inl e
    · have := (h.nxo y e).1
      omega

end
end Go.Proofs.Ytcogiklnegpfiaa
