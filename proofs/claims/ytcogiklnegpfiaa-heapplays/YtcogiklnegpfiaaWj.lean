/- Layer 13: a link more, a handle more. -/
import Derived.Test.YtcogiklnegpfiaaWi
namespace Go.Proofs.Ytcogiklnegpfiaa
open Go.RowKit Go.Shelf

structure SJ (P : Sx) (w : World) (vT : Value) (l : List Th) (hs : List Hd) (L : List Lk) (q : Nat) (O : Nat → Prop) : Prop where
  hp : Hp w P.B P.b P.p P.g l P.M
  ex : ∃ vL vA vE aq le, JW P.bw P.N (.pointer (some ⟨P.b, 0, none⟩)) P.pb vT P.vl P.vw L w vL vA vE aq le ∧ le.length ≤ 1000000 ∧ aq.length ≤ q ∧ ∀ y, O y ↔ JO P.bw vL vA vE y
  tr : Row hF 2 43 w P.N vT hs
  to : ∀ y, vT.ownBlock = some y → ¬ O y
  low : P.N ≤ w.heap.size
  two : ∀ t ∈ l, t.x = 2
  l4 : L.length ≤ 400
  lus : ∀ k ∈ L, Us k.ts

section
variable {P : Sx} {w w' : World} {vT : Value} {l : List Th} {hs : List Hd} {L : List Lk} {q : Nat} {O O' : Nat → Prop}

theorem SI.toJ (h : SI P w vT l L q O) : SJ P w vT l (hnds l) L q O := ⟨h.hp, h.ex, h.tr, h.to, h.low, h.two, h.l4, h.lus⟩
theorem SJ.toI (h : SJ P w vT l hs L q O) (e : hs = hnds l) : SI P w vT l L q O := ⟨h.hp, h.ex, e ▸ h.tr, h.to, h.low, h.two, h.l4, h.lus⟩
theorem SI.more (h : SI P w vT l L q O) {q' : Nat} (hq : q ≤ q') : SI P w vT l L q' O := by
  obtain ⟨vL, vA, vE, aq, le, h1, h2, h3, h4⟩ := h.ex
  exact ⟨h.hp, ⟨vL, vA, vE, aq, le, h1, h2, Nat.le_trans h3 hq, h4⟩, h.tr, h.to, h.low, h.two, h.l4, h.lus⟩
theorem tkd_two (h : ∀ t ∈ l, t.x = 2) (M : Nat) : ∀ t ∈ tkd l M 2, t.x = 2 := by
  unfold tkd
  cases hE : emp l M 1 with
  | none => exact h
  | some s =>
    intro t ht
    rcases List.mem_append.1 ht with e | e
    · exact h t e
    · rw [List.mem_singleton] at e
      subst e
      rfl
theorem SI.make (h : SI P w vT l L q O) (hp : Hp w' P.B P.b P.p P.g (tkd l P.M 2) P.M) (hc : Ch (fun y => y = P.p ∨ y = P.g) w w') : SJ P w' vT (tkd l P.M 2) (hnds l) L q O := by
  obtain ⟨vL, vA, vE, aq, le, hJ, h1, h2, hO⟩ := h.ex
  have ha := h.apart
  have hd : ∀ y, JO P.bw vL vA vE y → ¬ (y = P.p ∨ y = P.g) := fun y hy e => by have := ha y ((hO y).2 hy); omega
  have ht := h.hp.apart h.tr (by decide) (by decide) (by decide)
  exact ⟨hp, ⟨vL, vA, vE, aq, le, hJ.ch hc (hd _ (.inl rfl)) (fun y hy => hd y (.inr (.inl hy))) (fun y hy => hd y (.inr (.inr (.inl hy)))) (fun y hy => hd y (.inr (.inr (.inr hy)))), h1, h2, hO⟩, h.tr.ch hc (fun y hy e => by have := ht y hy; omega), h.to, Nat.le_trans h.low hc.size, tkd_two h.two _, h.l4, h.lus⟩
theorem SJ.quiet (h : SJ P w vT l hs L q O) (hc : Ch (fun _ => False) w w') : SJ P w' vT l hs L q O := by
  obtain ⟨vL, vA, vE, aq, le, hJ, h1⟩ := h.ex
  exact ⟨h.hp.ch0 hc, ⟨vL, vA, vE, aq, le, hJ.ch0 hc, h1⟩, h.tr.ch hc (fun _ _ h => h), h.to, Nat.le_trans h.low hc.size, h.two, h.l4, h.lus⟩
theorem SJ.box (h : SJ P w vT l hs L q O) : ∃ vL vA vE, w.heap[P.bw]? = some (.cells #[.pointer (some ⟨P.b, 0, none⟩), P.pb, vL, vT, vA, P.vl, P.vw, vE] 37 (0, 0)) ∧ Row lkF 4 51 w P.N vL L := by
  obtain ⟨vL, vA, vE, aq, le, hJ, -⟩ := h.ex
  exact ⟨vL, vA, vE, hJ.box, hJ.lk⟩
theorem SJ.bwT (h : SJ P w vT l hs L q O) : ¬ vT.ownBlock = some P.bw := by
  obtain ⟨vL, vA, vE, hb, -⟩ := h.box
  exact own_box h.tr hb (by decide)
/-- the law's own blocks lie from N on -/
theorem SJ.geN (h : SJ P w vT l hs L q O) (hb : P.N ≤ P.bw) (hB : P.N ≤ P.B) : (∀ y, O y → P.N ≤ y) ∧ P.N ≤ P.p ∧ P.N ≤ P.g := by
  obtain ⟨vL, vA, vE, aq, le, hJ, -, -, hO⟩ := h.ex
  have lo := h.hp.lows
  refine ⟨fun y hy => ?_, by omega, by omega⟩
  rcases (hO y).1 hy with e | e | e | e
  · omega
  · exact (own_in hJ.lk e).1
  · exact (own_in hJ.ak e).1
  · exact (own_in hJ.en e).1

/-- told has one more -/
theorem SJ.told {V w6 : World} {v6 : Value} {x : Hd} {T : Obj} (h : SJ P V vT l hs L q O) (hr : w6.ownsRow P.N 43 2 v6 (hs.length + 1) (hs.flatMap hF ++ hF x)) (hg : (V.alloc T).grownBy w6 vT.ownBlock) (ho : v6.ownBlock = vT.ownBlock ∨ ∃ y, V.heap.size ≤ y ∧ v6.ownBlock = some y) :
    SJ P (w6.setCell ⟨P.bw, 3, none⟩ v6) v6 l (hs ++ [x]) L q O ∧ Ch (fun y => y = P.bw ∨ vT.ownBlock = some y) V (w6.setCell ⟨P.bw, 3, none⟩ v6) ∧ w6.cell? ⟨P.bw, 3, none⟩ = some vT ∧ w6.frozen? ⟨P.bw, 3, none⟩ = false := by
  obtain ⟨vL, vA, vE, aq, le, hJ, h1, h2, hO⟩ := h.ex
  have c1 : Ch (fun y => vT.ownBlock = some y) V w6 := (Ch.alloc (Q := fun y => vT.ownBlock = some y) V T).trans (Ch.of_grown hg (fun _ e => e)) (fun _ _ h => h)
  have hT := h.bwT
  have nJ : ∀ y, JO P.bw vL vA vE y → ¬ vT.ownBlock = some y := fun y hy e => h.to y e ((hO y).2 hy)
  have hb := c1.box hJ.box hT
  have hS := Ch.set (Q := fun y => y = P.bw) w6 rfl 3 v6
  have ht := h.hp.apart h.tr (by decide) (by decide) (by decide)
  have hbx := (Array.getElem?_eq_some_iff.1 hJ.box).1
  have ha : P.b ≠ P.bw ∧ P.p ≠ P.bw ∧ P.g ≠ P.bw := by
    refine ⟨fun e => ?_, fun e => ?_, fun e => own_box h.hp.tb.row hJ.box (by decide) (by rw [← e]; rfl)⟩
    · have h1 := hJ.box
      rw [← e, h.hp.box] at h1
      injection h1 with h1
      injection h1 with _ h2 _
      exact absurd h2 (by decide)
    · have h1 := hJ.box
      rw [← e, h.hp.tb.box] at h1
      injection h1 with h1
      injection h1 with _ h2 _
      exact absurd h2 (by decide)
  have r6 : Row hF 2 43 w6 P.N v6 (hs ++ [x]) := Row.snoc hr
  have hp6 : Hp w6 P.B P.b P.p P.g l P.M := h.hp.ch c1 (fun e => (ht _ e).1 rfl) (fun e => (ht _ e).2.1 rfl) (fun e => (ht _ e).2.2 rfl)
  have nb6 : ¬ v6.ownBlock = some P.bw := fun e => by
    rcases ho with e2 | ⟨z, e1, e2⟩
    · exact hT (by rw [← e2]; exact e)
    · rw [e2] at e
      injection e with e
      omega
  refine ⟨⟨hp6.ch hS (fun e => ha.1 e) (fun e => ha.2.1 e) (fun e => ha.2.2 e), ⟨vL, vA, vE, aq, le, ⟨?_, (hJ.lk.ch c1 (fun y hy e => nJ y (.inr (.inl hy)) e)).ch hS (fun y hy e => hJ.bwL (by rw [← e]; exact hy)), (hJ.ak.ch c1 (fun y hy e => nJ y (.inr (.inr (.inl hy))) e)).ch hS (fun y hy e => hJ.bwA (by rw [← e]; exact hy)), (hJ.en.ch c1 (fun y hy e => nJ y (.inr (.inr (.inr hy))) e)).ch hS (fun y hy e => hJ.bwE (by rw [← e]; exact hy)), hJ.ne⟩, h1, h2, hO⟩, r6.ch hS (fun y hy e => nb6 (by rw [← e]; exact hy)), fun y hy e => ?_, Nat.le_trans h.low (Nat.le_trans c1.size hS.size), h.two, h.l4, h.lus⟩, (c1.mono (Q' := fun y => y = P.bw ∨ vT.ownBlock = some y) (fun _ _ h => .inr h)).trans hS (fun _ _ h => .inl h), by simp [Lib.cell_of_heap hb], by simp [World.frozen?, hb]⟩
  · exact heap_set hb 3 v6
  · rcases ho with e2 | ⟨z, e1, e2⟩
    · exact h.to y (by rw [← e2]; exact hy) e
    · rw [e2] at hy
      injection hy with hy
      subst hy
      rcases (hO z).1 e with e | e | e | e
      · omega
      · have := (own_in hJ.lk e).2.1; omega
      · have := (own_in hJ.ak e).2.1; omega
      · have := (own_in hJ.en e).2.1; omega

/-- a link more -/
theorem SJ.link {V w6 : World} {vL v6 : Value} {k : Lk} {T : Obj} (h : SJ P V vT l hs L q O) (hbx : ∃ vA vE, V.heap[P.bw]? = some (.cells #[.pointer (some ⟨P.b, 0, none⟩), P.pb, vL, vT, vA, P.vl, P.vw, vE] 37 (0, 0))) (hr : w6.ownsRow P.N 51 4 v6 (L.length + 1) (L.flatMap lkF ++ lkF k)) (hg : (V.alloc T).grownBy w6 vL.ownBlock) (ho : v6.ownBlock = vL.ownBlock ∨ ∃ y, V.heap.size ≤ y ∧ v6.ownBlock = some y) (hl : L.length < 400) (hu : Us k.ts) :
    (∃ O', SJ P (w6.setCell ⟨P.bw, 2, none⟩ v6) vT l hs (L ++ [k]) q O') ∧ Ch (fun y => y = P.bw ∨ vL.ownBlock = some y) V (w6.setCell ⟨P.bw, 2, none⟩ v6) ∧ w6.cell? ⟨P.bw, 2, none⟩ = some vL ∧ w6.frozen? ⟨P.bw, 2, none⟩ = false := by
  obtain ⟨vL0, vA, vE, aq, le, hJ, h1, h2, hO⟩ := h.ex
  obtain rfl : vL0 = vL := by
    obtain ⟨vA', vE', hb'⟩ := hbx
    have := hJ.box
    rw [hb'] at this
    have e : vL0 = vL ∧ vA = vA' ∧ vE = vE' := by simpa using this.symm
    exact e.1
  have c1 : Ch (fun y => vL0.ownBlock = some y) V w6 := (Ch.alloc (Q := fun y => vL0.ownBlock = some y) V T).trans (Ch.of_grown hg (fun _ e => e)) (fun _ _ h => h)
  have hb := c1.box hJ.box hJ.bwL
  have hS := Ch.set (Q := fun y => y = P.bw) w6 rfl 2 v6
  have ht := h.hp.apart hJ.lk (by decide) (by decide) (by decide)
  have hbxl := (Array.getElem?_eq_some_iff.1 hJ.box).1
  have ha : P.b ≠ P.bw ∧ P.p ≠ P.bw ∧ P.g ≠ P.bw := by
    refine ⟨fun e => ?_, fun e => ?_, fun e => own_box h.hp.tb.row hJ.box (by decide) (by rw [← e]; rfl)⟩
    · have h1 := hJ.box
      rw [← e, h.hp.box] at h1
      injection h1 with h1
      injection h1 with _ h2 _
      exact absurd h2 (by decide)
    · have h1 := hJ.box
      rw [← e, h.hp.tb.box] at h1
      injection h1 with h1
      injection h1 with _ h2 _
      exact absurd h2 (by decide)
  have r6 : Row lkF 4 51 w6 P.N v6 (L ++ [k]) := Row.snoc hr
  have hp6 : Hp w6 P.B P.b P.p P.g l P.M := h.hp.ch c1 (fun e => (ht _ e).1 rfl) (fun e => (ht _ e).2.1 rfl) (fun e => (ht _ e).2.2 rfl)
  have nb6 : ¬ v6.ownBlock = some P.bw := own_box r6 hb (by decide)
  refine ⟨⟨JO P.bw v6 vA vE, ⟨hp6.ch hS (fun e => ha.1 e) (fun e => ha.2.1 e) (fun e => ha.2.2 e), ⟨v6, vA, vE, aq, le, ⟨?_, r6.ch hS (fun y hy e => nb6 (by rw [← e]; exact hy)), (hJ.ak.ch c1 (fun y hy e => hJ.lkA y e hy)).ch hS (fun y hy e => hJ.bwA (by rw [← e]; exact hy)), (hJ.en.ch c1 (fun y hy e => hJ.lkE y e hy)).ch hS (fun y hy e => hJ.bwE (by rw [← e]; exact hy)), hJ.ne⟩, h1, h2, fun _ => Iff.rfl⟩, (h.tr.ch c1 (fun y hy e => own_ne hJ.lk h.tr (by decide) y e hy)).ch hS (fun y hy e => h.bwT (by rw [← e]; exact hy)), fun y hy e => ?_, Nat.le_trans h.low (Nat.le_trans c1.size hS.size), h.two, by rw [List.length_append]; simp; omega, fun k' hk => ?_⟩⟩, (c1.mono (Q' := fun y => y = P.bw ∨ vL0.ownBlock = some y) (fun _ _ h => .inr h)).trans hS (fun _ _ h => .inl h), by simp [Lib.cell_of_heap hb], by simp [World.frozen?, hb]⟩
  · exact heap_set hb 2 v6
  · have h3 := h.to y hy
    rcases e with e | e | e | e
    · exact h3 ((hO y).2 (.inl e))
    · exact own_ne r6 (h.tr.ch c1 (fun y hy e => own_ne hJ.lk h.tr (by decide) y e hy)) (by decide) y e hy
    · exact h3 ((hO y).2 (.inr (.inr (.inl e))))
    · exact h3 ((hO y).2 (.inr (.inr (.inr e))))
  · rcases List.mem_append.1 hk with e | e
    · exact h.lus k' e
    · rw [List.mem_singleton] at e
      subst e
      exact hu
end

/-- a handle that an op speaks of has a slot's number -/
theorem hdl_us {l : List Th} {M : Nat} (hw : Wf l M) (hM : M ≤ 500) (c : Int) (o : Oq) (hs : Us o.s) : Us (hdlW (hnds l) c o).1 := by
  unfold hdlW
  split
  · exact hs
  · cases hx : (hnds l)[pkW c (hnds l).length]? with
    | none => exact ⟨by decide, by decide⟩
    | some x =>
      have hm := List.mem_of_getElem? hx
      unfold hnds at hm
      obtain ⟨t, ht, rfl⟩ := List.mem_map.1 hm
      have := hw.slot t ht
      simp only [Option.getD_some]
      exact ⟨by omega, by omega⟩

end Go.Proofs.Ytcogiklnegpfiaa
