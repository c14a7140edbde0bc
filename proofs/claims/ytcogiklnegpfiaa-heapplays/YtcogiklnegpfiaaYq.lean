/- Layer 13: the law's world, both heaps and the lists that came out, for HeapPlays. Layer 13: asked is set to nothing; a list is kept. Layer 13: Reach and Collect, of both heaps. Layer 13: what an op changes. -/
import Derived.Test.YtcogiklnegpfiaaWj
import Derived.Test.YtcogiklnegpfiaaYe

namespace Go.Proofs.Ytcogiklnegpfiaa
open Go.RowKit Go.Shelf

/-- what stays where it is -/
structure Px where
  bw : Nat
  N : Nat
  B : Nat
  b : Nat
  p : Nat
  g : Nat
  M : Nat
  db : Nat

/-- all of it: the program's things, the document's, what was told, the links, what was asked, the lists -/
structure SQ (P : Px) (w : World) (vT vl vw vD : Value) (l ld : List Th) (hs : List Hd) (L : List Lk) (aq : List Hd) (ls ws : List Value) (xs : List (List Hd)) (O : Nat → Prop) : Prop where
  hp : Hp w P.B P.b P.p P.g l P.M
  ex : ∃ vL vA vE le, JW P.bw P.N (.pointer (some ⟨P.b, 0, none⟩)) (.pointer (some ⟨P.db, 0, none⟩)) vT vl vw L w vL vA vE aq le ∧ le.length ≤ 1000000 ∧ ∀ y, O y ↔ JO P.bw vL vA vE y
  tr : Row hF 2 43 w P.N vT hs
  ll : LL w P.N vl ls xs
  lw : LL w P.N vw ws xs
  ap : Apt (vT :: vl :: vw :: (ls ++ ws))
  to : ∀ u ∈ vT :: vl :: vw :: (ls ++ ws), ∀ y, u.ownBlock = some y → ¬ O y
  dt : DT w P.N P.db vD ld P.M
  low : P.N ≤ w.heap.size
  nb : P.N ≤ P.bw ∧ P.N ≤ P.B ∧ P.N ≤ P.db
  l4 : L.length ≤ 400
  lus : ∀ k ∈ L, Us k.ts

theorem LL.mem {w : World} {N : Nat} {v : Value} {ls : List Value} {hs : List (List Hd)} (h : LL w N v ls hs) : ∀ u ∈ ls, ∃ x, Row hF 2 43 w N u x := by
  intro u hu
  obtain ⟨i, hi, rfl⟩ := List.getElem_of_mem hu
  exact ⟨_, h.each i hi (by rw [← h.len]; exact hi)⟩

section
variable {P : Px} {w w' : World} {vT vl vw vD u z : Value} {l ld : List Th} {hs x : List Hd} {L : List Lk} {aq : List Hd} {ls ws : List Value} {xs : List (List Hd)} {O O' : Nat → Prop}

/-- each row's blocks are no box's -/
theorem SQ.own (h : SQ P w vT vl vw vD l ld hs L aq ls ws xs O) : ∀ u ∈ vT :: vl :: vw :: (ls ++ ws), ∀ y, u.ownBlock = some y → (P.N ≤ y ∧ y < w.heap.size) ∧ (y ≠ P.b ∧ y ≠ P.p ∧ y ≠ P.g) ∧ y ≠ P.db ∧ ¬ vD.ownBlock = some y := by
  have one : ∀ {u : Value} {x : List Hd}, Row hF 2 43 w P.N u x → ∀ y, u.ownBlock = some y → (P.N ≤ y ∧ y < w.heap.size) ∧ (y ≠ P.b ∧ y ≠ P.p ∧ y ≠ P.g) ∧ y ≠ P.db ∧ ¬ vD.ownBlock = some y := by
    intro u x hr y hy
    have h1 := h.hp.apart hr (by decide) (by decide) (by decide) y hy
    have h2 := own_in hr hy
    exact ⟨⟨h2.1, h2.2.1⟩, ⟨h1.1.symm, h1.2.1.symm, h1.2.2.symm⟩, fun e => own_box hr h.dt.box (by decide) (by rw [← e]; exact hy), own_ne hr h.dt.row (by decide) y hy⟩
  have two : ∀ {u : Value} {x : List Value}, Row slF 1 34 w P.N u x → ∀ y, u.ownBlock = some y → (P.N ≤ y ∧ y < w.heap.size) ∧ (y ≠ P.b ∧ y ≠ P.p ∧ y ≠ P.g) ∧ y ≠ P.db ∧ ¬ vD.ownBlock = some y := by
    intro u x hr y hy
    have h1 := h.hp.apart hr (by decide) (by decide) (by decide) y hy
    have h2 := own_in hr hy
    exact ⟨⟨h2.1, h2.2.1⟩, ⟨h1.1.symm, h1.2.1.symm, h1.2.2.symm⟩, fun e => own_box hr h.dt.box (by decide) (by rw [← e]; exact hy), own_ne hr h.dt.row (by decide) y hy⟩
  intro u hu
  simp only [List.mem_cons, List.mem_append] at hu
  rcases hu with rfl | rfl | rfl | hu | hu
  · exact one h.tr
  · exact two h.ll.row
  · exact two h.lw.row
  · obtain ⟨x, hx⟩ := h.ll.mem u hu
    exact one hx
  · obtain ⟨x, hx⟩ := h.lw.mem u hu
    exact one hx
theorem SQ.ltO (h : SQ P w vT vl vw vD l ld hs L aq ls ws xs O) : ∀ y, O y → P.N ≤ y ∧ y < w.heap.size := by
  intro y hy
  obtain ⟨vL, vA, vE, le, hJ, -, hO⟩ := h.ex
  rcases (hO y).1 hy with e | e | e | e
  · subst e
    exact ⟨h.nb.1, (Array.getElem?_eq_some_iff.1 hJ.box).1⟩
  · exact ⟨(own_in hJ.lk e).1, (own_in hJ.lk e).2.1⟩
  · exact ⟨(own_in hJ.ak e).1, (own_in hJ.ak e).2.1⟩
  · exact ⟨(own_in hJ.en e).1, (own_in hJ.en e).2.1⟩
theorem SQ.apart (h : SQ P w vT vl vw vD l ld hs L aq ls ws xs O) : ∀ y, O y → (y ≠ P.b ∧ y ≠ P.p ∧ y ≠ P.g) ∧ y ≠ P.db ∧ ¬ vD.ownBlock = some y := by
  intro y hy
  obtain ⟨vL, vA, vE, le, hJ, -, hO⟩ := h.ex
  rcases (hO y).1 hy with e | e | e | e
  · subst e
    refine ⟨⟨fun e => ?_, fun e => ?_, fun e => own_box h.hp.tb.row hJ.box (by decide) (by rw [e]; rfl)⟩, fun e => ?_, own_box h.dt.row hJ.box (by decide)⟩
    · have h1 := hJ.box
      rw [e, h.hp.box] at h1
      injection h1 with h1
      injection h1 with _ h2 _
      exact absurd h2 (by decide)
    · have h1 := hJ.box
      rw [e, h.hp.tb.box] at h1
      injection h1 with h1
      injection h1 with _ h2 _
      exact absurd h2 (by decide)
    · have h1 := hJ.box
      rw [e, h.dt.box] at h1
      injection h1 with h1
      injection h1 with _ h2 _
      exact absurd h2 (by decide)
  · have := h.hp.apart hJ.lk (by decide) (by decide) (by decide) y e
    exact ⟨⟨this.1.symm, this.2.1.symm, this.2.2.symm⟩, fun e' => own_box hJ.lk h.dt.box (by decide) (by rw [← e']; exact e), own_ne hJ.lk h.dt.row (by decide) y e⟩
  · have := h.hp.apart hJ.ak (by decide) (by decide) (by decide) y e
    exact ⟨⟨this.1.symm, this.2.1.symm, this.2.2.symm⟩, fun e' => own_box hJ.ak h.dt.box (by decide) (by rw [← e']; exact e), own_ne hJ.ak h.dt.row (by decide) y e⟩
  · have := h.hp.apart hJ.en (by decide) (by decide) (by decide) y e
    exact ⟨⟨this.1.symm, this.2.1.symm, this.2.2.symm⟩, fun e' => own_box hJ.en h.dt.box (by decide) (by rw [← e']; exact e), own_ne hJ.en h.dt.row (by decide) y e⟩
/-- the document's heap's blocks are none of the program's -/
theorem SQ.dbs (h : SQ P w vT vl vw vD l ld hs L aq ls ws xs O) : (P.db ≠ P.b ∧ P.db ≠ P.p ∧ P.db ≠ P.g) ∧ ∀ y, vD.ownBlock = some y → y ≠ P.b ∧ y ≠ P.p ∧ y ≠ P.g := by
  refine ⟨⟨fun e => ?_, fun e => ?_, fun e => own_box h.hp.tb.row h.dt.box (by decide) (by rw [e]; rfl)⟩, fun y hy => ?_⟩
  · have h1 := h.dt.box
    rw [e, h.hp.box] at h1
    injection h1 with h1
    injection h1 with _ h2 _
    exact absurd h2 (by decide)
  · have h1 := h.dt.box
    rw [e, h.hp.tb.box] at h1
    injection h1 with h1
    injection h1 with _ h2 _
    exact absurd h2 (by decide)
  · have := h.hp.apart h.dt.row (by decide) (by decide) (by decide) y hy
    exact ⟨this.1.symm, this.2.1.symm, this.2.2.symm⟩

theorem SQ.quiet (h : SQ P w vT vl vw vD l ld hs L aq ls ws xs O) (hc : Ch (fun _ => False) w w') : SQ P w' vT vl vw vD l ld hs L aq ls ws xs O := by
  obtain ⟨vL, vA, vE, le, hJ, h1⟩ := h.ex
  exact ⟨h.hp.ch0 hc, ⟨vL, vA, vE, le, hJ.ch0 hc, h1⟩, h.tr.ch hc (fun _ _ h => h), h.ll.ch hc (fun _ _ h => h) (fun _ _ _ _ h => h), h.lw.ch hc (fun _ _ h => h) (fun _ _ _ _ h => h), h.ap, h.to, h.dt.quiet hc, Nat.le_trans h.low hc.size, h.nb, h.l4, h.lus⟩
theorem SQ.box (h : SQ P w vT vl vw vD l ld hs L aq ls ws xs O) : ∃ vL vA vE, w.heap[P.bw]? = some (.cells #[.pointer (some ⟨P.b, 0, none⟩), .pointer (some ⟨P.db, 0, none⟩), vL, vT, vA, vl, vw, vE] 37 (0, 0)) ∧ Row lkF 4 51 w P.N vL L := by
  obtain ⟨vL, vA, vE, le, hJ, -⟩ := h.ex
  exact ⟨vL, vA, vE, hJ.box, hJ.lk⟩
theorem SQ.bwO (h : SQ P w vT vl vw vD l ld hs L aq ls ws xs O) : O P.bw := by
  obtain ⟨vL, vA, vE, le, hJ, -, hO⟩ := h.ex
  exact (hO _).2 (.inl rfl)

/-- the program's heap and the law's own world have gone on -/
theorem SQ.next {l' : List Th} {A : List Hd} (h : SQ P w vT vl vw vD l ld hs L aq ls ws xs O) (hj : JL P.bw P.N (.pointer (some ⟨P.b, 0, none⟩)) (.pointer (some ⟨P.db, 0, none⟩)) vT vl vw L aq A w' O') (hp' : Hp w' P.B P.b P.p P.g l' P.M) (hc : Ch (fun y => O y ∨ y = P.p ∨ y = P.g) w w') (hd : ∀ y, O' y → O y ∨ w.heap.size ≤ y) : SQ P w' vT vl vw vD l' ld hs L (aq ++ A) ls ws xs O' := by
  obtain ⟨vL', vA', vE', le', hJ', hO', hle'⟩ := hj.ex
  have hn : ∀ u ∈ vT :: vl :: vw :: (ls ++ ws), ∀ y, u.ownBlock = some y → ¬ (O y ∨ y = P.p ∨ y = P.g) := fun u hu y hy e => by
    have h1 := h.own u hu y hy
    rcases e with e | e | e
    · exact h.to u hu y hy e
    · exact h1.2.1.2.1 e
    · exact h1.2.1.2.2 e
  have hdb := h.dbs
  refine ⟨hp', ⟨vL', vA', vE', le', hJ', hle', hO'⟩, h.tr.ch hc (hn _ (by simp)), h.ll.ch hc (hn _ (by simp)) (fun u hu => hn u (by simp [hu])), h.lw.ch hc (hn _ (by simp)) (fun u hu => hn u (by simp [hu])), h.ap, fun u hu y hy e => ?_, h.dt.ch hc (fun e => ?_) (fun y hy e => ?_), Nat.le_trans h.low hc.size, h.nb, h.l4, h.lus⟩
  · rcases hd y e with e | e
    · exact h.to u hu y hy e
    · have := (h.own u hu y hy).1
      omega
  · rcases e with e | e | e
    · exact (h.apart _ e).2.1 rfl
    · exact hdb.1.2.1 e
    · exact hdb.1.2.2 e
  · rcases e with e | e | e
    · exact (h.apart _ e).2.2 hy
    · exact (hdb.2 y hy).2.1 e
    · exact (hdb.2 y hy).2.2 e

/-- the document's heap has gone on -/
theorem SQ.doc {vD' : Value} {ld' : List Th} (h : SQ P w vT vl vw vD l ld hs L aq ls ws xs O) (hd : DT w' P.N P.db vD' ld' P.M) (hc : Ch (fun y => y = P.db ∨ vD.ownBlock = some y) w w') : SQ P w' vT vl vw vD' l ld' hs L aq ls ws xs O := by
  obtain ⟨vL, vA, vE, le, hJ, h1, hO⟩ := h.ex
  have hdb := h.dbs
  have nO : ∀ y, O y → ¬ (y = P.db ∨ vD.ownBlock = some y) := fun y hy e => e.elim (h.apart y hy).2.1 (h.apart y hy).2.2
  have hn : ∀ u ∈ vT :: vl :: vw :: (ls ++ ws), ∀ y, u.ownBlock = some y → ¬ (y = P.db ∨ vD.ownBlock = some y) := fun u hu y hy e => e.elim (h.own u hu y hy).2.2.1 (h.own u hu y hy).2.2.2
  exact ⟨h.hp.ch hc (fun e => e.elim (fun e => hdb.1.1 e.symm) (fun e => (hdb.2 _ e).1 rfl)) (fun e => e.elim (fun e => hdb.1.2.1 e.symm) (fun e => (hdb.2 _ e).2.1 rfl)) (fun e => e.elim (fun e => hdb.1.2.2 e.symm) (fun e => (hdb.2 _ e).2.2 rfl)), ⟨vL, vA, vE, le, hJ.ch hc (nO _ ((hO _).2 (.inl rfl))) (fun y hy => nO y ((hO y).2 (.inr (.inl hy)))) (fun y hy => nO y ((hO y).2 (.inr (.inr (.inl hy))))) (fun y hy => nO y ((hO y).2 (.inr (.inr (.inr hy))))), h1, hO⟩, h.tr.ch hc (hn _ (by simp)), h.ll.ch hc (hn _ (by simp)) (fun u hu => hn u (by simp [hu])), h.lw.ch hc (hn _ (by simp)) (fun u hu => hn u (by simp [hu])), h.ap, h.to, hd, Nat.le_trans h.low hc.size, h.nb, h.l4, h.lus⟩

/-- a list that came out, or was made, and is not kept yet -/
structure KQ (P : Px) (w : World) (vT vl vw : Value) (ls ws : List Value) (O : Nat → Prop) (u : Value) (x : List Hd) : Prop where
  row : Row hF 2 43 w P.N u x
  out : ∀ y, u.ownBlock = some y → ¬ O y
  ap : ∀ b ∈ vT :: vl :: vw :: (ls ++ ws), ∀ y, u.ownBlock = some y → ¬ b.ownBlock = some y

theorem KQ.new (h : SQ P w vT vl vw vD l ld hs L aq ls ws xs O) (hr : Row hF 2 43 w' w.heap.size u x) (ho : ∀ y, u.ownBlock = some y → ¬ O' y) : KQ P w' vT vl vw ls ws O' u x :=
  ⟨own_low hr h.low, ho, fun b hb y hy e => by have h1 := (own_in hr hy).1; have h2 := (h.own b hb y e).1; omega⟩
theorem KQ.fresh (h : SQ P w vT vl vw vD l ld hs L aq ls ws xs O) (hr : Row hF 2 43 w' w.heap.size u x) : KQ P w' vT vl vw ls ws O u x :=
  KQ.new h hr fun y hy e => by have h1 := (own_in hr hy).1; have h2 := (h.ltO y e).2; omega
theorem KQ.next (k : KQ P w vT vl vw ls ws O u x) (hp : Hp w P.B P.b P.p P.g l P.M) (hc : Ch (fun y => O y ∨ y = P.p ∨ y = P.g) w w') (hd : ∀ y, O' y → O y ∨ w.heap.size ≤ y) : KQ P w' vT vl vw ls ws O' u x := by
  have ha := hp.apart k.row (by decide) (by decide) (by decide)
  refine ⟨k.row.ch hc (fun y hy e => ?_), fun y hy e => ?_, k.ap⟩
  · rcases e with e | e | e
    · exact k.out y hy e
    · exact (ha y hy).2.1 e.symm
    · exact (ha y hy).2.2 e.symm
  · rcases hd y e with e | e
    · exact k.out y hy e
    · have := (own_in k.row hy).2.1
      omega
theorem KQ.quiet (k : KQ P w vT vl vw ls ws O u x) (hc : Ch (fun _ => False) w w') : KQ P w' vT vl vw ls ws O u x := ⟨k.row.ch hc (fun _ _ h => h), k.out, k.ap⟩
theorem KQ.doc (k : KQ P w vT vl vw ls ws O u x) (hd : DT w P.N P.db vD ld P.M) (hc : Ch (fun y => y = P.db ∨ vD.ownBlock = some y) w w') : KQ P w' vT vl vw ls ws O u x :=
  ⟨k.row.ch hc (fun y hy e => e.elim (fun e => own_box k.row hd.box (by decide) (by rw [← e]; exact hy)) (fun e => own_ne k.row hd.row (by decide) y hy e)), k.out, k.ap⟩
theorem KQ.hlo (k : KQ P w vT vl vw ls ws O u x) (hn : x.length ≤ 1000000) : HLo w (fun y => y < w.heap.size) u x := by
  obtain ⟨a, c, e, _, h⟩ := row_hl k.row hn
  exact ⟨a, c, e, by omega, fun h0 => by obtain ⟨b, o, e, hlt, h⟩ := h h0; exact ⟨b, o, e, hlt, hlt, h⟩⟩
end

end Go.Proofs.Ytcogiklnegpfiaa

namespace Go.Proofs.Ytcogiklnegpfiaa
open Go.RowKit Go.Shelf

section
variable {P : Px} {w : World} {vT vl vw vD u z : Value} {l ld : List Th} {hs x : List Hd} {L : List Lk} {aq : List Hd} {ls ws : List Value} {xs : List (List Hd)} {O : Nat → Prop}

theorem SQ.asked (h : SQ P w vT vl vw vD l ld hs L aq ls ws xs O) :
    (∃ O', SQ P (w.setCell ⟨P.bw, 4, none⟩ (.slice none 0 0)) vT vl vw vD l ld hs L [] ls ws xs O' ∧ ∀ y, O' y → O y) ∧ Ch (fun y => y = P.bw) w (w.setCell ⟨P.bw, 4, none⟩ (.slice none 0 0)) ∧ (∃ vA, w.cell? ⟨P.bw, 4, none⟩ = some vA) ∧ w.frozen? ⟨P.bw, 4, none⟩ = false := by
  obtain ⟨vL, vA, vE, le, hJ, h1, hO⟩ := h.ex
  have hc := Ch.set (Q := fun y => y = P.bw) w rfl 4 (.slice none 0 0)
  have hbO := h.bwO
  have hb := h.apart _ hbO
  have hn : ∀ u ∈ vT :: vl :: vw :: (ls ++ ws), ∀ y, u.ownBlock = some y → ¬ y = P.bw := fun u hu y hy e => h.to u hu y hy (by rw [e]; exact hbO)
  refine ⟨⟨JO P.bw vL (.slice none 0 0) vE, ⟨h.hp.ch hc (fun e => hb.1.1 e.symm) (fun e => hb.1.2.1 e.symm) (fun e => hb.1.2.2 e.symm), ⟨vL, .slice none 0 0, vE, le, ⟨?_, hJ.lk.ch hc (fun y hy e => hJ.bwL (by rw [← e]; exact hy)), Row.nil _ _, hJ.en.ch hc (fun y hy e => hJ.bwE (by rw [← e]; exact hy)), fun y hy => by cases hy⟩, h1, fun _ => Iff.rfl⟩, h.tr.ch hc (hn _ (by simp)), h.ll.ch hc (hn _ (by simp)) (fun u hu => hn u (by simp [hu])), h.lw.ch hc (hn _ (by simp)) (fun u hu => hn u (by simp [hu])), h.ap, fun u hu y hy e => ?_, h.dt.ch hc (fun e => hb.2.1 e.symm) (fun y hy e => hb.2.2 (by rw [← e]; exact hy)), Nat.le_trans h.low hc.size, h.nb, h.l4, h.lus⟩, fun y e => ?_⟩, hc, ⟨vA, hJ.cells.2.2.2.2.1⟩, hJ.cells.2.2.2.2.2.2.2.2 4⟩
  · exact heap_set hJ.box 4 (.slice none 0 0)
  · have h2 := h.to u hu y hy
    rcases e with e | e | e | e
    · exact h2 ((hO y).2 (.inl e))
    · exact h2 ((hO y).2 (.inr (.inl e)))
    · cases e
    · exact h2 ((hO y).2 (.inr (.inr (.inr e))))
  · rcases e with e | e | e | e
    · exact (hO y).2 (.inl e)
    · exact (hO y).2 (.inr (.inl e))
    · cases e
    · exact (hO y).2 (.inr (.inr (.inr e)))

theorem sq_put (h : SQ P w vT vl vw vD l ld hs L aq ls ws xs O) (ku : KQ P w vT vl vw ls ws O u x) (kz : KQ P w vT vl vw ls ws O z x) (hzu : ∀ y, z.ownBlock = some y → ¬ u.ownBlock = some y) (hx : x.length ≤ 1000000) (hll : ls.length ≤ 100000) :
    Calls Try.prog 26 #[.pointer (some ⟨P.bw, 0, none⟩), u, z] w fun e w' => e = .returned (.bool true) ∧ ∃ vl' vw', SQ P w' vT vl' vw' vD l ld hs L aq (ls ++ [u]) (ws ++ [z]) (xs ++ [x]) O ∧ Ch (fun y => y = P.bw ∨ vl.ownBlock = some y ∨ vw.ownBlock = some y) w w' := by
  obtain ⟨vL, vA, vE, le, hJ, h1, hO⟩ := h.ex
  have hlw : ws.length ≤ 100000 := by have h1 := h.ll.len; have h2 := h.lw.len; omega
  have oL : ∀ y, vL.ownBlock = some y → O y := fun y hy => (hO y).2 (.inr (.inl hy))
  have oA : ∀ y, vA.ownBlock = some y → O y := fun y hy => (hO y).2 (.inr (.inr (.inl hy)))
  have oE : ∀ y, vE.ownBlock = some y → O y := fun y hy => (hO y).2 (.inr (.inr (.inr hy)))
  have hap5 : Apt (vL :: vA :: vE :: vl :: vw :: (ls ++ ws)) := by
    refine Apt.cons (Apt.cons (Apt.cons (List.pairwise_cons.1 h.ap).2 fun y hy b hb e => h.to b (List.mem_cons_of_mem _ hb) y e (oE y hy)) fun y hy b hb => ?_) fun y hy b hb => ?_
    · rcases List.mem_cons.1 hb with rfl | hb
      · exact hJ.ne y hy
      · exact fun e => h.to b (List.mem_cons_of_mem _ hb) y e (oA y hy)
    · rcases List.mem_cons.1 hb with rfl | hb
      · exact hJ.lkA y hy
      · rcases List.mem_cons.1 hb with rfl | hb
        · exact hJ.lkE y hy
        · exact fun e => h.to b (List.mem_cons_of_mem _ hb) y e (oL y hy)
  have hn5 : ∀ {u x}, KQ P w vT vl vw ls ws O u x → ∀ y, u.ownBlock = some y → ∀ b ∈ vL :: vA :: vE :: vl :: vw :: (ls ++ ws), ¬ b.ownBlock = some y := fun {u x} k y hy b hb => by
    rcases List.mem_cons.1 hb with rfl | hb
    · exact fun e => k.out y hy (oL y e)
    · rcases List.mem_cons.1 hb with rfl | hb
      · exact fun e => k.out y hy (oA y e)
      · rcases List.mem_cons.1 hb with rfl | hb
        · exact fun e => k.out y hy (oE y e)
        · exact k.ap b (List.mem_cons_of_mem _ hb) y hy
  have hap7 : Apt (z :: u :: vL :: vA :: vE :: vl :: vw :: (ls ++ ws)) := Apt.cons (Apt.cons hap5 (hn5 ku)) fun y hy b hb => by
    rcases List.mem_cons.1 hb with rfl | hb
    · exact hzu y hy
    · exact hn5 kz y hy b hb
  have hJP : JP P.bw P.N (.pointer (some ⟨P.b, 0, none⟩)) (.pointer (some ⟨P.db, 0, none⟩)) vT L w vL vA vE vl vw aq le ls ws xs xs := ⟨hJ, h.ll, h.lw, hap5⟩
  refine (wput_is hJP h.low ku.row kz.row hap7 hx hx hll hlw).mono ?_
  rintro e w' ⟨rfl, vl', vw', hJ', hc⟩
  have hbO := h.bwO
  have hb := h.apart _ hbO
  have ol := h.own vl (by simp)
  have ow := h.own vw (by simp)
  have apT := (List.pairwise_cons.1 h.ap).1
  have t3 := (List.pairwise_cons.1 (List.pairwise_cons.1 (List.pairwise_cons.1 hJ'.ap).2).2).2
  have aL := (List.pairwise_cons.1 hJ'.ap).1
  have aA := (List.pairwise_cons.1 (List.pairwise_cons.1 hJ'.ap).2).1
  have aE := (List.pairwise_cons.1 (List.pairwise_cons.1 (List.pairwise_cons.1 hJ'.ap).2).2).1
  have tr' : Row hF 2 43 w' P.N vT hs := h.tr.ch hc fun y hy e => by
    rcases e with e | e | e
    · exact h.to vT (by simp) y hy (by rw [e]; exact hbO)
    · exact apT vl (by simp) y hy e
    · exact apT vw (by simp) y hy e
  refine ⟨by rw [decide_eq_true rfl], vl', vw', ⟨h.hp.ch hc (fun e => ?_) (fun e => ?_) (fun e => ?_), ⟨vL, vA, vE, le, hJ'.jw, h1, hO⟩, tr', hJ'.l, hJ'.w, Apt.cons t3 fun y hy b hb => ?_, fun b hb y hy e => ?_, h.dt.ch hc (fun e => ?_) (fun y hy e => ?_), Nat.le_trans h.low hc.size, h.nb, h.l4, h.lus⟩, hc⟩
  · rcases e with e | e | e
    · exact hb.1.1 e.symm
    · exact (ol _ e).2.1.1 rfl
    · exact (ow _ e).2.1.1 rfl
  · rcases e with e | e | e
    · exact hb.1.2.1 e.symm
    · exact (ol _ e).2.1.2.1 rfl
    · exact (ow _ e).2.1.2.1 rfl
  · rcases e with e | e | e
    · exact hb.1.2.2 e.symm
    · exact (ol _ e).2.1.2.2 rfl
    · exact (ow _ e).2.1.2.2 rfl
  · simp only [List.mem_cons, List.mem_append, List.not_mem_nil, or_false] at hb
    rcases hb with rfl | rfl | (hb | rfl) | hb | rfl
    · exact own_ne tr' hJ'.l.row (by decide) y hy
    · exact own_ne tr' hJ'.w.row (by decide) y hy
    · exact apT b (by simp [hb]) y hy
    · exact fun e => ku.ap vT (by simp) y e hy
    · exact apT b (by simp [hb]) y hy
    · exact fun e => kz.ap vT (by simp) y e hy
  · rcases List.mem_cons.1 hb with rfl | hb
    · exact h.to _ (by simp) y hy e
    · rcases (hO y).1 e with e | e | e | e
      · exact hJ'.bwn b (by simp only [List.mem_cons] at hb ⊢; exact .inr (.inr (.inr hb))) (by rw [← e]; exact hy)
      · exact aL b (by simp only [List.mem_cons] at hb ⊢; exact .inr (.inr hb)) y e hy
      · exact aA b (by simp only [List.mem_cons] at hb ⊢; exact .inr hb) y e hy
      · exact aE b hb y e hy
  · rcases e with e | e | e
    · exact hb.2.1 e.symm
    · exact (ol _ e).2.2.1 rfl
    · exact (ow _ e).2.2.1 rfl
  · rcases e with e | e | e
    · exact hb.2.2 (by rw [← e]; exact hy)
    · exact (ol _ e).2.2.2 hy
    · exact (ow _ e).2.2.2 hy
end

end Go.Proofs.Ytcogiklnegpfiaa

namespace Go.Proofs.Ytcogiklnegpfiaa
open Go.RowKit Go.Shelf

abbrev mr0 : Oper := { dst := some 38, op := Op.move (Operand.tmp 0), type := 28, pos := "law.go:153", after := #[], guard := none }
abbrev mr1 : Oper := { dst := some 39, op := Op.nilCheck (Operand.tmp 38), type := 0, pos := "law.go:153", after := #[{ on := 0, ground := Ground.data }], guard := none }
abbrev mr2 : Oper := { dst := some 40, op := Op.fieldAddr 37 (Operand.tmp 39) 1, type := 0, pos := "law.go:153", after := #[{ on := 1, ground := Ground.data }], guard := none }
abbrev mr3 : Oper := { dst := some 41, op := Op.load 29 (Operand.tmp 40), type := 29, pos := "law.go:153", after := #[{ on := 2, ground := Ground.data }], guard := none }
abbrev mr4 : Oper := { dst := some 42, op := Op.move (Operand.tmp 6), type := 34, pos := "law.go:153", after := #[], guard := none }
abbrev mr5 : Oper := { dst := some 43, op := Op.move (Operand.tmp 0), type := 28, pos := "law.go:153", after := #[], guard := none }
abbrev mr6 : Oper := { dst := some 44, op := Op.nilCheck (Operand.tmp 43), type := 0, pos := "law.go:153", after := #[{ on := 5, ground := Ground.data }], guard := none }
abbrev mr7 : Oper := { dst := some 45, op := Op.fieldAddr 37 (Operand.tmp 44) 2, type := 0, pos := "law.go:153", after := #[{ on := 6, ground := Ground.data }], guard := none }
abbrev mr8 : Oper := { dst := some 46, op := Op.load 33 (Operand.tmp 45), type := 33, pos := "law.go:153", after := #[{ on := 7, ground := Ground.data }], guard := none }
abbrev mr9 : Oper := { dst := some 47, op := Op.call { callee := Callee.value (Operand.func 42), args := #[Operand.tmp 41, Operand.tmp 42, Operand.tmp 46], argTypes := #[29, 34, 33] }, type := 34, pos := "law.go:153", after := #[{ on := 3, ground := Ground.data }, { on := 4, ground := Ground.data }, { on := 8, ground := Ground.data }], guard := none }
abbrev mr10 : Oper := { dst := some 9, op := Op.assign (Operand.tmp 47), type := 34, pos := "law.go:153", after := #[{ on := 9, ground := Ground.data }, { on := 9, ground := Ground.chain }, { on := 0, ground := Ground.phase }, { on := 1, ground := Ground.phase }, { on := 2, ground := Ground.phase }, { on := 3, ground := Ground.phase }, { on := 4, ground := Ground.phase }, { on := 5, ground := Ground.phase }, { on := 6, ground := Ground.phase }, { on := 7, ground := Ground.phase }, { on := 8, ground := Ground.phase }, { on := 9, ground := Ground.phase }], guard := none }
abbrev mc0 : Oper := { dst := some 56, op := Op.move (Operand.tmp 0), type := 28, pos := "law.go:156", after := #[], guard := none }
abbrev mc1 : Oper := { dst := some 57, op := Op.nilCheck (Operand.tmp 56), type := 0, pos := "law.go:156", after := #[{ on := 0, ground := Ground.data }], guard := none }
abbrev mc2 : Oper := { dst := some 58, op := Op.fieldAddr 37 (Operand.tmp 57) 1, type := 0, pos := "law.go:156", after := #[{ on := 1, ground := Ground.data }], guard := none }
abbrev mc3 : Oper := { dst := some 59, op := Op.load 29 (Operand.tmp 58), type := 29, pos := "law.go:156", after := #[{ on := 2, ground := Ground.data }], guard := none }
abbrev mc4 : Oper := { dst := some 60, op := Op.move (Operand.tmp 6), type := 34, pos := "law.go:156", after := #[], guard := none }
abbrev mc5 : Oper := { dst := some 61, op := Op.move (Operand.tmp 0), type := 28, pos := "law.go:156", after := #[], guard := none }
abbrev mc6 : Oper := { dst := some 62, op := Op.nilCheck (Operand.tmp 61), type := 0, pos := "law.go:156", after := #[{ on := 5, ground := Ground.data }], guard := none }
abbrev mc7 : Oper := { dst := some 63, op := Op.fieldAddr 37 (Operand.tmp 62) 2, type := 0, pos := "law.go:156", after := #[{ on := 6, ground := Ground.data }], guard := none }
abbrev mc8 : Oper := { dst := some 64, op := Op.load 33 (Operand.tmp 63), type := 33, pos := "law.go:156", after := #[{ on := 7, ground := Ground.data }], guard := none }
abbrev mc9 : Oper := { dst := some 65, op := Op.call { callee := Callee.value (Operand.func 43), args := #[Operand.tmp 59, Operand.tmp 60, Operand.tmp 64], argTypes := #[29, 34, 33] }, type := 34, pos := "law.go:156", after := #[{ on := 3, ground := Ground.data }, { on := 4, ground := Ground.data }, { on := 8, ground := Ground.data }], guard := none }
abbrev mc10 : Oper := { dst := some 9, op := Op.assign (Operand.tmp 65), type := 34, pos := "law.go:156", after := #[{ on := 9, ground := Ground.data }, { on := 9, ground := Ground.chain }, { on := 0, ground := Ground.phase }, { on := 1, ground := Ground.phase }, { on := 2, ground := Ground.phase }, { on := 3, ground := Ground.phase }, { on := 4, ground := Ground.phase }, { on := 5, ground := Ground.phase }, { on := 6, ground := Ground.phase }, { on := 7, ground := Ground.phase }, { on := 8, ground := Ground.phase }, { on := 9, ground := Ground.phase }], guard := none }
abbrev rfQ (P : Px) : Value := .func (.func 31) #[.pointer (some ⟨P.bw, 0, none⟩)] #[]

/-- what Reach and Collect leave -/
structure Mkd (P : Px) (w w' : World) (vT vl vw vD u : Value) (l l' ld : List Th) (hs : List Hd) (L : List Lk) (ls ws : List Value) (xs : List (List Hd)) (O O' : Nat → Prop) (A R : List Hd) : Prop where
  sq : SQ P w' vT vl vw vD l' ld hs L A ls ws xs O'
  ku : KQ P w' vT vl vw ls ws O' u R
  nd : A.Nodup
  inl : ∀ x ∈ A, x ∈ allH l P.M
  len : A.length ≤ 501
  ch : Ch (fun y => O y ∨ y = P.p ∨ y = P.g) w w'
  dis : ∀ y, O' y → O y ∨ w.heap.size ≤ y
  old : ∀ y, u.ownBlock = some y → w.heap.size ≤ y

section
variable {P : Px} {w w' : World} {vT vl vw vD v : Value} {l : List Th} {hs rs : List Hd} {L : List Lk} {ls ws : List Value} {xs : List (List Hd)} {O : Nat → Prop}

theorem sq_reach (h : SQ P w vT vl vw vD l l hs L [] ls ws xs O) (hR : HLo w (fun y => y < w.heap.size) v rs) (us : ∀ x ∈ rs, Us x.1) :
    Calls Try.prog 18 #[.pointer (some ⟨P.b, 0, none⟩), v, rfQ P] w fun e w' => ∃ u R A O', e = .returned u ∧ Mkd P w w' vT vl vw vD u l l l hs L ls ws xs O O' A R ∧ R.Pairwise (fun a b => a.1 < b.1) ∧ ∀ x, x ∈ R ↔ Rc (lvH l) (tlL L) rs x := by
  obtain ⟨vL, vA, vE, le, hJ, hle, hO⟩ := h.ex
  refine (reach_is (refs_teller (A0 := []) h.l4 h.lus (by simp)) (Or.inr ⟨_, _, _, rfl⟩) h.hp (O := O) ⟨⟨vL, vA, vE, le, by rw [List.append_nil]; exact hJ, hO, hle⟩, h.low⟩ (fun y hy => (h.apart y hy).1) hR us).mono ?_
  rintro e w' ⟨v', R, A, O', rfl, hI⟩
  have hm := reach_mem h.hp.tb.wf h.hp.tb.lt hI.ms
  have hc : Ch (fun y => O y ∨ y = P.p ∨ y = P.g) w w' := hI.ch.mono (fun _ _ e => .inl e)
  obtain ⟨mt, hms, -⟩ := hI.ms
  have hct := hms.ct
  have hm2 := h.hp.tb.m2
  exact ⟨v', R, A, O', rfl, ⟨h.next hI.j hI.hp hc hI.dis, KQ.new h hI.row hI.own, hms.asked.1, fun x hx => (allH_mem h.hp.tb.wf h.hp.tb.lt x).2 (hms.asked.2 x hx), by omega, hc, hI.dis, fun y hy => (own_in hI.row hy).1⟩, hm.1, hm.2⟩

theorem sq_collect (h : SQ P w vT vl vw vD l l hs L [] ls ws xs O) (hR : HLo w (fun y => y < w.heap.size) v rs) (us : ∀ x ∈ rs, Us x.1) :
    Calls Try.prog 19 #[.pointer (some ⟨P.b, 0, none⟩), v, rfQ P] w fun e w' => ∃ u R A O', e = .returned u ∧ Mkd P w w' vT vl vw vD u l (frees l R) l hs L ls ws xs O O' A R ∧ R.Pairwise (fun a b => a.1 < b.1) ∧ ∀ x, x ∈ R ↔ lvH l x = true ∧ ¬ Rc (lvH l) (tlL L) rs x := by
  obtain ⟨vL, vA, vE, le, hJ, hle, hO⟩ := h.ex
  refine (collect_is (refs_teller (A0 := []) h.l4 h.lus (by simp)) (Or.inr ⟨_, _, _, rfl⟩) h.hp (O := O) ⟨⟨vL, vA, vE, le, by rw [List.append_nil]; exact hJ, hO, hle⟩, h.low⟩ (fun y hy => (h.apart y hy).1) hR us).mono ?_
  rintro e w' ⟨v', R, A, O', rfl, hI⟩
  have hm := sweep_mem h.hp.tb.wf h.hp.tb.lt hI.ms
  obtain ⟨mt, hms, -⟩ := hI.ms
  have hct := hms.ct
  have hm2 := h.hp.tb.m2
  exact ⟨v', R, A, O', rfl, ⟨h.next hI.j hI.hp hI.ch hI.dis, KQ.new h hI.row hI.own, hms.asked.1, fun x hx => (allH_mem h.hp.tb.wf h.hp.tb.lt x).2 (hms.asked.2 x hx), by omega, hI.ch, hI.dis, fun y hy => (own_in hI.row hy).1⟩, hm.1, hm.2⟩
end

theorem blk_apQ {w : World} {a b : Nat} {cs cs' : Array Value} {T T' : TypeId} {r r' : Nat × Nat} (h : w.heap[a]? = some (.cells cs T r)) (h' : w.heap[b]? = some (.cells cs' T' r')) (hT : T ≠ T') : ¬ a = b := fun e => by
  subst e
  rw [h] at h'
  injection h' with h'
  injection h' with _ h2 _
  exact hT h2
/-- a list but for its last one -/
theorem row_head {w : World} {B gb n cap : Nat} {rs : List Hd} {y : Hd} (h : Row hF 2 43 w B (.slice (some ⟨gb, 0, none⟩) (n + 1) cap) (rs ++ [y])) (hn : rs.length = n) (hle : n ≤ 1000) : HL w (.slice (some ⟨gb, 0, none⟩) n cap) rs ∧ w.cell? ⟨gb, n * 2, none⟩ = some (.int .u32 y.1) ∧ w.cell? ⟨gb, n * 2 + 1, none⟩ = some (.int .u32 y.2) ∧ n + 1 ≤ cap ∧ (∀ j u, (rs.flatMap hF)[j]? = some u → w.cell? ((⟨gb, 0, none⟩ : Addr).add j) = some u) := by
  subst hn
  obtain ⟨g', c', cur, e, hcap, -, hlt, -, -, hc⟩ := h.at hF_len (by simp)
  injection e with e1 e2 e3
  injection e1 with e1
  injection e1 with e1
  subst e1 e3
  refine ⟨⟨_, _, rfl, by omega, fun h0 => ⟨gb, 0, rfl, hlt, fun i hi => ?_⟩⟩, ?_, ?_, by simpa using hcap, fun j u hj => ?_⟩
  · have h1 := hc i (by simp; omega) 0 (.int .u32 rs[i].1) (by rw [List.getElem_append_left hi]; rfl)
    have h2 := hc i (by simp; omega) 1 (.int .u32 rs[i].2) (by rw [List.getElem_append_left hi]; rfl)
    exact ⟨by simpa using h1, by simpa using h2⟩
  · have := hc rs.length (by simp) 0 (.int .u32 y.1) (by simp; rfl)
    simpa using this
  · have := hc rs.length (by simp) 1 (.int .u32 y.2) (by simp; rfl)
    simpa using this
  · exact World.ownsRow.cells h (g := gb) rfl j u (by rw [List.flatMap_append, List.getElem?_append_left (List.getElem?_eq_some_iff.1 hj).1]; exact hj)

/-- what a step leaves: all, with as many lists more -/
structure StepI (P : Px) (w w' : World) (l : List Th) (xs : List (List Hd)) : Prop where
  ex : ∃ vT vl vw vD l' L A ls ws xs' O, SQ P w' vT vl vw vD l' l' (hnds l') L A ls ws xs' O ∧ l'.length ≤ l.length + 1 ∧ xs'.length ≤ xs.length + 1 ∧ ((∀ x ∈ xs, x.length ≤ 500) → ∀ x ∈ xs', x.length ≤ 500)
  low : Below P.N w w'

theorem hnds_frees (R : List Hd) (l : List Th) : hnds (frees l R) = hnds l := frees_hnds R l

set_option maxRecDepth 100000 in
set_option maxHeartbeats 16000000 in
theorem marked_is {P : Px} {w : World} {vT vl vw vD : Value} {l : List Th} {L : List Lk} {aq : List Hd} {ls ws : List Value} {xs : List (List Hd)} {O : Nat → Prop} (h : SQ P w vT vl vw vD l l (hnds l) L aq ls ws xs O) {o : Oq} {rs : List Int} (hrt : RtsAt P.N w o rs) (us : Us o.s) (hk : o.k = 5 ∨ o.k = 6) (hll : l.length ≤ 1000) (hls : ls.length ≤ 1000) :
    Calls Try.prog 25 #[.pointer (some ⟨P.bw, 0, none⟩), opV o] w fun e w' => e = .returned (.bool true) ∧ StepI P w w' l xs := by
  obtain ⟨i0, hi0, hz0, hz1, hz2⟩ := nf_open info_hd
  have hhl : (hnds l).length ≤ 100000 := by unfold hnds; rw [List.length_map]; omega
  have hUR : ∀ x ∈ rsH (hnds l) o rs, Us x.1 := fun x hx => by
    unfold rsH at hx
    obtain ⟨c, -, rfl⟩ := List.mem_map.1 hx
    exact hdl_us h.hp.tb.wf h.hp.tb.m2 c o us
  have hRl : (rsH (hnds l) o rs).length ≤ 400 := by unfold rsH; rw [List.length_map, List.length_take]; omega
  obtain ⟨w1, hw1⟩ : ∃ w1, w.alloc (.cells #[.int .i64 o.k, .int .i64 o.a, .int .i64 o.b, .int .i64 o.kd, .slice o.ra o.rn o.rc, .bool o.hd, .int .u32 o.s, .int .u32 o.g] 45) = w1 := ⟨_, rfl⟩
  have hB1 : Below w.heap.size w w1 := by rw [← hw1]; exact below1 _ _
  have hn1 : w1.heap[w.heap.size]? = some (.cells #[.int .i64 o.k, .int .i64 o.a, .int .i64 o.b, .int .i64 o.kd, .slice o.ra o.rn o.rc, .bool o.hd, .int .u32 o.s, .int .u32 o.g] 45 (0, 0)) := by rw [← hw1]; exact heap_new _ _
  have c1 := Ch.of_below (Q := fun _ => False) hB1
  have hs1 := h.quiet c1
  have hrt1 : RtsAt P.N w1 o rs := by
    obtain ⟨h1, h2, h3, h4⟩ := hrt
    exact ⟨h1, h2, fun h0 => by
      obtain ⟨b', f', e, hb', hc'⟩ := h3 h0
      exact ⟨b', f', e, hb', fun i hi => (hB1.cell (p := ⟨b', _, none⟩) (Nat.lt_of_lt_of_le hb' h.low)).trans (hc' i hi)⟩, h4⟩
  have HRO := hide (show Calls Try.prog 30 #[.pointer (some ⟨P.bw, 0, none⟩), .agg #[.int .i64 o.k, .int .i64 o.a, .int .i64 o.b, .int .i64 o.kd, .slice o.ra o.rn o.rc, .bool o.hd, .int .u32 o.s, .int .u32 o.g]] w1 fun e w' => ∃ gb cap, e = .returned (.slice (some ⟨gb, 0, none⟩) (rsH (hnds l) o rs).length cap) ∧ Row hF 2 43 w' w1.heap.size (.slice (some ⟨gb, 0, none⟩) ((rsH (hnds l) o rs).length + 1) cap) (rsH (hnds l) o rs ++ [(5, 5)]) ∧ Below w1.heap.size w1 w' from by
    obtain ⟨vL, vA, vE, hb, -⟩ := hs1.box
    exact roots_is hb rfl hs1.tr hhl o rs hrt1 hs1.low)
  obtain ⟨R, hR⟩ : ∃ R, rsH (hnds l) o rs = R := ⟨_, rfl⟩
  rw [hR] at HRO hUR hRl
  have E1 := hide hn1
  have H1 := hide hs1
  have HUS := hide hUR
  have B1 := hide hB1
  have HWF := hide (And.intro h.hp.tb.wf (And.intro h.hp.tb.lt h.hp.tb.m2))
  have HLW := hide h.low
  have s0 : w1.cell? ⟨w.heap.size, 0, none⟩ = some (.int .i64 o.k) := by simp [Lib.cell_of_heap hn1]
  have s1 : w1.cell? ⟨w.heap.size, 1, none⟩ = some (.int .i64 o.a) := by simp [Lib.cell_of_heap hn1]
  have s2 : w1.cell? ⟨w.heap.size, 2, none⟩ = some (.int .i64 o.b) := by simp [Lib.cell_of_heap hn1]
  have s3 : w1.cell? ⟨w.heap.size, 3, none⟩ = some (.int .i64 o.kd) := by simp [Lib.cell_of_heap hn1]
  have s4 : w1.cell? ⟨w.heap.size, 4, none⟩ = some (.slice o.ra o.rn o.rc) := by simp [Lib.cell_of_heap hn1]
  have s5 : w1.cell? ⟨w.heap.size, 5, none⟩ = some (.bool o.hd) := by simp [Lib.cell_of_heap hn1]
  have s6 : w1.cell? ⟨w.heap.size, 6, none⟩ = some (.int .u32 o.s) := by simp [Lib.cell_of_heap hn1]
  have s7 : w1.cell? ⟨w.heap.size, 7, none⟩ = some (.int .u32 o.g) := by simp [Lib.cell_of_heap hn1]
  clear h hs1 hrt hrt1 hUR hn1 hB1 c1 hR hhl us
  go_enter Try.func25, Try.ntmps25
  go_wp2_with fail
  try rw [hw1]
  refine HRO.out.mono ?_
  rintro e w2 ⟨gb, cap, rfl, hr2, hb2⟩
  have c2 := Ch.of_below (Q := fun _ => False) hb2
  have H2 := hide (H1.out.quiet c2)
  have KR2 := hide (KQ.fresh H1.out hr2)
  have RH2 := hide (row_head hr2 rfl (by omega)).2.2.2.2
  have E2 := hide (c2.box E1.out (fun h => h))
  have B2 := hide ((B1.out).trans (hb2.mono B1.out.size))
  have HLN := hide (flat_len hF 2 hF_len R)
  have HON := hide (show ∀ u ∈ R.flatMap hF, u.oneCell' = true from fun u hu => by
    obtain ⟨x, _, hx⟩ := List.mem_flatMap.1 hu
    exact hF_one x u hx)
  have HM1 := hide (show 0 + R.length ≤ maxLen by unfold maxLen; omega)
  have HM2 := hide (show (0 + R.length) * 8 ≤ 140737488355328 by omega)
  clear hr2 hb2 c2 HRO hw1 s0 s1 s2 s3 s4 s5 s6 s7
  go_wp2_with (at_builtin; refine wpList_append_own_at _ rfl _ _ 34 rfl w2.heap.size 43 i0 (.agg #[.int .u32 0, .int .u32 0]) 2 8 Try.underlying34 hi0 hz0 hz1 hz2 rfl (by decide) _ 0 [] rfl (World.ownsRow_nil w2 w2.heap.size _ _) ⟨gb, 0, none⟩ R.length cap (R.flatMap hF) rfl HLN.out RH2.out HON.out HM1.out HM2.out (Nat.le_refl _) ?_)
  intro va w3 hown hgrow _ hat
  have hR3 : Row hF 2 43 w3 w2.heap.size va R := by
    unfold Row
    exact hown
  have b3 : Below w2.heap.size w2 w3 := ⟨hgrow.os, hgrow.tape, hgrow.output, hgrow.size, fun x hx => hgrow.block x hx (by simp [Value.ownBlock])⟩
  have c3 := Ch.of_below (Q := fun _ => False) b3
  have H3 := hide (H2.out.quiet c3)
  have KR3 := hide (KR2.out.quiet c3)
  have KW3 := hide (KQ.fresh H2.out hR3)
  have E3 := hide (c3.box E2.out (fun h => h))
  have B3 := hide (B2.out.trans (b3.mono B2.out.size))
  obtain ⟨Wa, Wc, rfl, -, -⟩ := hR3.form
  obtain ⟨vL, vA, vE, hbx3, -⟩ := H3.out.box
  have t1 : w3.cell? ⟨P.bw, 1, none⟩ = some (.pointer (some ⟨P.db, 0, none⟩)) := by simp [Lib.cell_of_heap hbx3]
  clear hown hgrow hat hR3 b3 c3 hbx3
  go_wp2_with fail
  refine (rnow_is H3.out.dt HWF.out.1 HWF.out.2.1 hll).mono ?_
  rintro e w4 ⟨tv, rfl, hr4, hb4⟩
  have c4 := Ch.of_below (Q := fun _ => False) hb4
  have H4 := hide (H3.out.quiet c4)
  have KR4 := hide (KR3.out.quiet c4)
  have KW4 := hide (KW3.out.quiet c4)
  have KT4 := hide (KQ.fresh H3.out hr4)
  have E4 := hide (c4.box E3.out (fun h => h))
  have B4 := hide (B3.out.trans (hb4.mono B3.out.size))
  obtain ⟨Ta, Tc, rfl, -, -⟩ := hr4.form
  clear hr4 hb4 c4 t1
  obtain ⟨⟨O5, hs5, hd5⟩, c5, ⟨vA5, t4⟩, f4⟩ := H4.out.asked
  have hlt4 := (Array.getElem?_eq_some_iff.1 E4.out).1
  obtain ⟨vL4, vA4, vE4, hbx4, -⟩ := H4.out.box
  have nb4 : ¬ w.heap.size = P.bw := blk_apQ E4.out hbx4 (by decide)
  have e5 := c5.box E4.out nb4
  have cq5 : Ch (fun y => O y ∨ y = P.p ∨ y = P.g) w4 (w4.setCell ⟨P.bw, 4, none⟩ (.slice none 0 0)) := c5.mono (fun y _ e => .inl (by rw [e]; exact H4.out.bwO))
  have dq5 : ∀ y, O5 y → O y ∨ w4.heap.size ≤ y := fun y hy => .inl (hd5 y hy)
  have KR5 := hide (KR4.out.next H4.out.hp cq5 dq5)
  have KW5 := hide (KW4.out.next H4.out.hp cq5 dq5)
  have KT5 := hide (KT4.out.next H4.out.hp cq5 dq5)
  have hb5 := cq5
  have HGE := hide (show ∀ y, (O y ∨ y = P.p ∨ y = P.g) → P.N ≤ y from fun y e => by
    have h1 := H4.out.hp.lows
    have h2 := H4.out.nb
    rcases e with e | e | e
    · exact (H4.out.ltO y e).1
    · omega
    · omega)
  have B5 := hide (show Below P.N w (w4.setCell ⟨P.bw, 4, none⟩ (.slice none 0 0)) from (B4.out.mono HLW.out).trans (hb5.below (Nat.le_trans HLW.out B4.out.size) (fun y hy e => by have := HGE.out y e; omega)))
  obtain ⟨w5, hw5⟩ : ∃ w5, w4.setCell ⟨P.bw, 4, none⟩ (.slice none 0 0) = w5 := ⟨_, rfl⟩
  rw [hw5] at hs5 KR5 KW5 KT5 B5 e5
  have H5 := hide hs5
  have E5 := hide e5
  have u0 : w5.cell? ⟨w.heap.size, 0, none⟩ = some (.int .i64 o.k) := by simp [Lib.cell_of_heap e5]
  have HGE5 := hide (show ∀ y, (O5 y ∨ y = P.p ∨ y = P.g) → P.N ≤ y from fun y e => HGE.out y (e.imp_left (hd5 y)))
  clear hs5 e5 hd5 c5 cq5 dq5 hb5 hlt4 nb4 hbx4
  obtain ⟨vL5, vA5', vE5, hbx5, -⟩ := H5.out.box
  have x0 : w5.cell? ⟨P.bw, 0, none⟩ = some (.pointer (some ⟨P.b, 0, none⟩)) := by simp [Lib.cell_of_heap hbx5]
  clear hbx5
  have hal : (allH l P.M).length ≤ 500 := by rw [allH_perm HWF.out.1 HWF.out.2.1]; have := HWF.out.1.cnt_le; have := HWF.out.2.2; omega
  have HAL := hide hal
  clear hal
  have hR9 : R.length ≤ 9223372036854775806 := by omega
  rcases hk with hk | hk
  · have qk : (o.k == 5) = true := by simpa using hk
    go_wp2_with fail
    try rw [hw5]
    clear t4 f4 hw5 u0 x0
    refine (sq_reach H5.out ((row_head KR5.out.row rfl (by omega)).1 |> fun hh => by obtain ⟨a, c, e, hl, h⟩ := hh; exact ⟨a, c, e, by omega, fun h0 => by obtain ⟨b, o, e, hlt, h⟩ := h h0; exact ⟨b, o, e, hlt, hlt, h⟩⟩) HUS.out).mono ?_
    rintro e w6 ⟨uv, RR, A, O6, rfl, hmk, hpr, hmr⟩
    have HRL := hide (show RR.length ≤ 500 from Nat.le_trans (live_len HWF.out.1 HWF.out.2.1 (up_nodup hpr) (fun x hx => ((hmr x).1 hx).lives)) HWF.out.2.2)
    have H6 := hide hmk.sq
    have KU6 := hide hmk.ku
    have KR6 := hide (KR5.out.next H5.out.hp hmk.ch hmk.dis)
    have KW6 := hide (KW5.out.next H5.out.hp hmk.ch hmk.dis)
    have KT6 := hide (KT5.out.next H5.out.hp hmk.ch hmk.dis)
    have B6 := hide (B5.out.trans (hmk.ch.below (Nat.le_trans HLW.out B5.out.size) (fun y hy e => by have := HGE5.out y e; omega)))
    have HAN := hide (And.intro hmk.nd (And.intro hmk.inl hmk.len))
    have HM := hide (And.intro hpr hmr)
    obtain ⟨Ua, Uc, rfl, -, -⟩ := KU6.out.row.form
    obtain ⟨vL, vA, vE, hbx, hlk⟩ := H6.out.box
    obtain ⟨La, Lc, rfl, hLc, hLm⟩ := hlk.form
    have HBX := hide hbx
    have HLK := hide hlk
    clear hmk hpr hmr hbx hlk hLm
    go_wp2
    refine wp_reg (fun y => vD.ownBlock = some y) (R := fun V => Ch (fun _ => False) w6 V) (by kernel_rfl) (Ch.drew _) (fun V cV zk => ?_)
    have CV := hide cV
    have HV := hide (H6.out.quiet cV)
    have KUV := hide (KU6.out.quiet cV)
    have KRV := hide (KR6.out.quiet cV)
    have KWV := hide (KW6.out.quiet cV)
    have KTV := hide (KT6.out.quiet cV)
    have BV := hide (B6.out.trans (cV.below (Nat.le_trans HLW.out B6.out.size) (fun _ _ h => h)))
    have HXV := hide (show ∀ wq, Ch (fun y => vD.ownBlock = some y) V wq → wq.cell? ⟨P.bw, 1, none⟩ = some (.pointer (some ⟨P.db, 0, none⟩)) ∧ wq.cell? ⟨P.bw, 2, none⟩ = some (.slice La L.length Lc) from fun wq kq => by
      have e := Lib.cell_of_heap (kq.box (CV.out.box HBX.out (fun h => h)) (own_box HV.out.dt.row (CV.out.box HBX.out (fun h => h)) (by decide)))
      exact ⟨by simp [e], by simp [e]⟩)
    have HLKV := hide (HLK.out.ch cV (fun _ _ h => h))
    clear cV
    apply tk 0 mr0 rfl (by kernel_rfl) (fun _ _ _ h => h) zk
    · intro wq zq
      go_simp
      try rfl
    go_frame
    apply tk 1 mr1 rfl (by kernel_rfl) (fun _ _ _ h => h) zk
    · intro wq zq
      go_simp
      try rfl
    go_frame
    apply tk 2 mr2 rfl (by kernel_rfl) (fun _ _ _ h => h) zk
    · intro wq zq
      go_simp
      try rfl
    go_frame
    apply tk 3 mr3 rfl (by kernel_rfl) (fun _ _ _ h => h) zk
    · intro wq zq
      obtain ⟨s1, s2⟩ := HXV.out _ zq
      go_simp
      try rfl
    go_frame
    apply tk 4 mr4 rfl (by kernel_rfl) (fun _ _ _ h => h) zk
    · intro wq zq
      go_simp
      try rfl
    go_frame
    apply tk 5 mr5 rfl (by kernel_rfl) (fun _ _ _ h => h) zk
    · intro wq zq
      go_simp
      try rfl
    go_frame
    apply tk 6 mr6 rfl (by kernel_rfl) (fun _ _ _ h => h) zk
    · intro wq zq
      go_simp
      try rfl
    go_frame
    apply tk 7 mr7 rfl (by kernel_rfl) (fun _ _ _ h => h) zk
    · intro wq zq
      go_simp
      try rfl
    go_frame
    apply tk 8 mr8 rfl (by kernel_rfl) (fun _ _ _ h => h) zk
    · intro wq zq
      obtain ⟨s1, s2⟩ := HXV.out _ zq
      go_simp
      try rfl
    go_frame
    refine rd 9 mr9 rfl (by kernel_rfl) fun K hK => ?_
    go_simp
    refine (rreach_is HV.out.dt HWF.out.1 HWF.out.2.1 HWF.out.2.2 (row_hl KWV.out.row (by omega)) hRl HLKV.out HV.out.l4).mono ?_
    rintro e w7 ⟨zv, R7, rfl, hz7, hp7, hm7, hb7⟩
    obtain rfl : R7 = RR := up_one hp7 HM.out.1 (fun x => (hm7 x).trans (HM.out.2 x).symm)
    have cd : Ch (fun _ => False) V w7 := Ch.of_below hb7
    have H7 := hide (HV.out.quiet cd)
    have KU7 := hide (KUV.out.quiet cd)
    have KR7 := hide (KRV.out.quiet cd)
    have KW7 := hide (KWV.out.quiet cd)
    have KT7 := hide (KTV.out.quiet cd)
    have KZ7 := hide (KQ.fresh HV.out hz7)
    have HZU := hide (show ∀ y, zv.ownBlock = some y → ¬ (Value.slice Ua R7.length Uc).ownBlock = some y from fun y hy e => by have h1 := (own_in hz7 hy).1; have h2 := (own_in KUV.out.row e).2.1; omega)
    have B7 := hide (BV.out.trans (cd.below (Nat.le_trans HLW.out BV.out.size) (fun _ _ h => h)))
    have Z7 := hide (zk.trans (Ch.of_below (Q := fun y => vD.ownBlock = some y) hb7) (fun _ _ h => h))
    obtain ⟨Za, Zc, rfl, -, -⟩ := hz7.form
    clear hz7 hp7 hm7 hb7 cd
    go_wp2_with fail
    refine hK.out _ _ ?_ (fun zk => ?_)
    · exact Z7.out
    clear hK K
    try go_frame
    apply tk 10 mr10 rfl (by kernel_rfl) (fun _ _ _ h => h) zk
    · intro wq zq
      go_simp
      try rfl
    go_frame
    refine wpAnyH_done (by kernel_rfl) ?_ _
    have HPT := hide (sq_put H7.out KU7.out KZ7.out HZU.out (by have := HRL.out; omega) (by omega))
    clear hLc
    go_wp2_with fail
    refine HPT.out.mono ?_
    rintro e w8 ⟨rfl, vl8, vw8, hs8, c8⟩
    have hq8 : ∀ {u : Value} {x : List Hd}, KQ P w7 vT vl vw ls ws O6 u x → Row hF 2 43 w8 P.N u x := fun {u x} k => k.row.ch c8 fun y hy e => by
      rcases e with e | e | e
      · exact k.out y hy (by rw [e]; exact H7.out.bwO)
      · exact k.ap vl (by simp) y hy e
      · exact k.ap vw (by simp) y hy e
    have R8 := hide (hq8 KR7.out)
    have W8 := hide (hq8 KW7.out)
    have T8 := hide (hq8 KT7.out)
    have H8 := hide hs8
    have B8 := hide (B7.out.trans (c8.below (Nat.le_trans HLW.out B7.out.size) (fun y hy e => by
      rcases e with e | e | e
      · have := H7.out.nb.1; omega
      · have := (H7.out.own vl (by simp) y e).1.1; omega
      · have := (H7.out.own vw (by simp) y e).1.1; omega)))
    have HON8 := hide (show Calls Try.prog 44 #[.pointer (some ⟨P.bw, 0, none⟩), .slice Ta (allH l P.M).length Tc] w8 fun e w' => e = .returned (.bool true) ∧ Below w8.heap.size w8 w' from by
      obtain ⟨vL, vA, vE, le, hJ, -⟩ := H8.out.ex
      exact wonce_is hJ (row_hl T8.out (by have := HAL.out; omega)) HAN.out.1 (up_nodup (allH_up _ _)) HAN.out.2.1 (by have := HAN.out.2.2; omega) (by have := HAL.out; omega))
    clear hs8 c8 hq8 HPT
    go_wp2_with fail
    refine HON8.out.mono ?_
    rintro e w9 ⟨rfl, hb9⟩
    have c9 := Ch.of_below (Q := fun _ => False) hb9
    have H9 := hide (H8.out.quiet c9)
    have R9 := hide (R8.out.ch c9 (fun _ _ h => h))
    have W9 := hide (W8.out.ch c9 (fun _ _ h => h))
    have B9 := hide (B8.out.trans (c9.below (Nat.le_trans HLW.out B8.out.size) (fun _ _ h => h)))
    have HSM := hide (same_is (row_head R9.out rfl (by omega)).1 (row_hl W9.out (by omega)))
    rw [show decide (R = R) = true from decide_eq_true rfl] at HSM
    have HCL := hide (fun V (cV : Ch (fun _ => False) w9 V) => show V.cell? ⟨gb, R.length * 2, none⟩ = some (.int .u32 5) ∧ V.cell? ⟨gb, R.length * 2 + 1, none⟩ = some (.int .u32 5) from by
      have hh := row_head (R9.out.ch cV (fun _ _ h => h)) rfl (by omega)
      exact ⟨hh.2.1, hh.2.2.1⟩)
    have hcp := (row_head R9.out rfl (by omega)).2.2.2.1
    have eN : IntKind.i64.wrap ((R.length : Int) + 1) = ((R.length + 1 : Nat) : Int) := by rw [IntKind.wrap_i64]; omega
    have qc : decide (((R.length + 1 : Nat) : Int) ≤ (cap : Int)) = true := decide_eq_true (by omega)
    have qi : decide ((R.length : Int) < ((R.length + 1 : Nat) : Int)) = true := decide_eq_true (by omega)
    clear hb9 c9 HON8
    go_wp2_with fail
    refine HSM.out.mono ?_
    rintro e w10 ⟨rfl, hb10⟩
    have c10 := Ch.of_below (Q := fun _ => False) hb10
    have H10 := hide (H9.out.quiet c10)
    have B10 := hide (B9.out.trans (c10.below (Nat.le_trans HLW.out B9.out.size) (fun _ _ h => h)))
    obtain ⟨y0, y1⟩ := HCL.out w10 c10
    clear hb10 c10 HSM
    go_wp2
    go_ret
    refine ⟨rfl, ⟨vT, vl8, vw8, vD, _, L, A, _, _, _, O6, H10.out, by omega, by simp, fun hx x hm => ?_⟩, B10.out⟩
    rcases List.mem_append.1 hm with hm | hm
    · exact hx x hm
    · rw [List.mem_singleton.1 hm]; exact HRL.out
  · have qk : (o.k == 5) = false := by rw [hk]; rfl
    go_wp2_with fail
    try rw [hw5]
    clear t4 f4 hw5 u0 x0
    refine (sq_collect H5.out ((row_head KR5.out.row rfl (by omega)).1 |> fun hh => by obtain ⟨a, c, e, hl, h⟩ := hh; exact ⟨a, c, e, by omega, fun h0 => by obtain ⟨b, o, e, hlt, h⟩ := h h0; exact ⟨b, o, e, hlt, hlt, h⟩⟩) HUS.out).mono ?_
    rintro e w6 ⟨uv, RR, A, O6, rfl, hmk, hpr, hmr⟩
    have HRL := hide (show RR.length ≤ 500 from Nat.le_trans (live_len HWF.out.1 HWF.out.2.1 (up_nodup hpr) (fun x hx => ((hmr x).1 hx).1)) HWF.out.2.2)
    have H6 := hide hmk.sq
    have KU6 := hide hmk.ku
    have KR6 := hide (KR5.out.next H5.out.hp hmk.ch hmk.dis)
    have KW6 := hide (KW5.out.next H5.out.hp hmk.ch hmk.dis)
    have KT6 := hide (KT5.out.next H5.out.hp hmk.ch hmk.dis)
    have B6 := hide (B5.out.trans (hmk.ch.below (Nat.le_trans HLW.out B5.out.size) (fun y hy e => by have := HGE5.out y e; omega)))
    have HAN := hide (And.intro hmk.nd (And.intro hmk.inl hmk.len))
    have HM := hide (And.intro hpr hmr)
    obtain ⟨Ua, Uc, rfl, -, -⟩ := KU6.out.row.form
    obtain ⟨vL, vA, vE, hbx, hlk⟩ := H6.out.box
    obtain ⟨La, Lc, rfl, hLc, hLm⟩ := hlk.form
    have HBX := hide hbx
    have HLK := hide hlk
    clear hmk hpr hmr hbx hlk hLm
    go_wp2
    refine wp_reg (fun y => vD.ownBlock = some y) (R := fun V => Ch (fun _ => False) w6 V) (by kernel_rfl) (Ch.drew _) (fun V cV zk => ?_)
    have CV := hide cV
    have HV := hide (H6.out.quiet cV)
    have KUV := hide (KU6.out.quiet cV)
    have KRV := hide (KR6.out.quiet cV)
    have KWV := hide (KW6.out.quiet cV)
    have KTV := hide (KT6.out.quiet cV)
    have BV := hide (B6.out.trans (cV.below (Nat.le_trans HLW.out B6.out.size) (fun _ _ h => h)))
    have HXV := hide (show ∀ wq, Ch (fun y => vD.ownBlock = some y) V wq → wq.cell? ⟨P.bw, 1, none⟩ = some (.pointer (some ⟨P.db, 0, none⟩)) ∧ wq.cell? ⟨P.bw, 2, none⟩ = some (.slice La L.length Lc) from fun wq kq => by
      have e := Lib.cell_of_heap (kq.box (CV.out.box HBX.out (fun h => h)) (own_box HV.out.dt.row (CV.out.box HBX.out (fun h => h)) (by decide)))
      exact ⟨by simp [e], by simp [e]⟩)
    have HLKV := hide (HLK.out.ch cV (fun _ _ h => h))
    clear cV
    apply tk 0 mc0 rfl (by kernel_rfl) (fun _ _ _ h => h) zk
    · intro wq zq
      go_simp
      try rfl
    go_frame
    apply tk 1 mc1 rfl (by kernel_rfl) (fun _ _ _ h => h) zk
    · intro wq zq
      go_simp
      try rfl
    go_frame
    apply tk 2 mc2 rfl (by kernel_rfl) (fun _ _ _ h => h) zk
    · intro wq zq
      go_simp
      try rfl
    go_frame
    apply tk 3 mc3 rfl (by kernel_rfl) (fun _ _ _ h => h) zk
    · intro wq zq
      obtain ⟨s1, s2⟩ := HXV.out _ zq
      go_simp
      try rfl
    go_frame
    apply tk 4 mc4 rfl (by kernel_rfl) (fun _ _ _ h => h) zk
    · intro wq zq
      go_simp
      try rfl
    go_frame
    apply tk 5 mc5 rfl (by kernel_rfl) (fun _ _ _ h => h) zk
    · intro wq zq
      go_simp
      try rfl
    go_frame
    apply tk 6 mc6 rfl (by kernel_rfl) (fun _ _ _ h => h) zk
    · intro wq zq
      go_simp
      try rfl
    go_frame
    apply tk 7 mc7 rfl (by kernel_rfl) (fun _ _ _ h => h) zk
    · intro wq zq
      go_simp
      try rfl
    go_frame
    apply tk 8 mc8 rfl (by kernel_rfl) (fun _ _ _ h => h) zk
    · intro wq zq
      obtain ⟨s1, s2⟩ := HXV.out _ zq
      go_simp
      try rfl
    go_frame
    refine rd 9 mc9 rfl (by kernel_rfl) fun K hK => ?_
    go_simp
    refine (rcollect_is HV.out.dt HWF.out.1 HWF.out.2.1 HWF.out.2.2 hll (row_hl KWV.out.row (by omega)) hRl HLKV.out HV.out.l4).mono ?_
    rintro e w7 ⟨zv, R7, rfl, hz7, hp7, hm7, hd7, hc7⟩
    obtain rfl : R7 = RR := up_one hp7 HM.out.1 (fun x => (hm7 x).trans (HM.out.2 x).symm)
    have cd : Ch (fun y => y = P.db ∨ vD.ownBlock = some y) V w7 := hc7.mono (fun _ _ e => .inr e)
    have H7 := hide (HV.out.doc hd7 cd)
    have KU7 := hide (KUV.out.doc HV.out.dt cd)
    have KR7 := hide (KRV.out.doc HV.out.dt cd)
    have KW7 := hide (KWV.out.doc HV.out.dt cd)
    have KT7 := hide (KTV.out.doc HV.out.dt cd)
    have KZ7 := hide (KQ.fresh HV.out hz7)
    have HZU := hide (show ∀ y, zv.ownBlock = some y → ¬ (Value.slice Ua R7.length Uc).ownBlock = some y from fun y hy e => by have h1 := (own_in hz7 hy).1; have h2 := (own_in KUV.out.row e).2.1; omega)
    have B7 := hide (BV.out.trans (hc7.below (Nat.le_trans HLW.out BV.out.size) (fun y hy e => by have := (own_in HV.out.dt.row e).1; omega)))
    have Z7 := hide (zk.trans hc7 (fun _ _ h => h))
    obtain ⟨Za, Zc, rfl, -, -⟩ := hz7.form
    clear hz7 hp7 hm7 hd7 hc7 cd
    go_wp2_with fail
    refine hK.out _ _ ?_ (fun zk => ?_)
    · exact Z7.out
    clear hK K
    try go_frame
    apply tk 10 mc10 rfl (by kernel_rfl) (fun _ _ _ h => h) zk
    · intro wq zq
      go_simp
      try rfl
    go_frame
    refine wpAnyH_done (by kernel_rfl) ?_ _
    have HPT := hide (sq_put H7.out KU7.out KZ7.out HZU.out (by have := HRL.out; omega) (by omega))
    clear hLc
    go_wp2_with fail
    refine HPT.out.mono ?_
    rintro e w8 ⟨rfl, vl8, vw8, hs8, c8⟩
    have hq8 : ∀ {u : Value} {x : List Hd}, KQ P w7 vT vl vw ls ws O6 u x → Row hF 2 43 w8 P.N u x := fun {u x} k => k.row.ch c8 fun y hy e => by
      rcases e with e | e | e
      · exact k.out y hy (by rw [e]; exact H7.out.bwO)
      · exact k.ap vl (by simp) y hy e
      · exact k.ap vw (by simp) y hy e
    have R8 := hide (hq8 KR7.out)
    have W8 := hide (hq8 KW7.out)
    have T8 := hide (hq8 KT7.out)
    have H8 := hide hs8
    have B8 := hide (B7.out.trans (c8.below (Nat.le_trans HLW.out B7.out.size) (fun y hy e => by
      rcases e with e | e | e
      · have := H7.out.nb.1; omega
      · have := (H7.out.own vl (by simp) y e).1.1; omega
      · have := (H7.out.own vw (by simp) y e).1.1; omega)))
    have HON8 := hide (show Calls Try.prog 44 #[.pointer (some ⟨P.bw, 0, none⟩), .slice Ta (allH l P.M).length Tc] w8 fun e w' => e = .returned (.bool true) ∧ Below w8.heap.size w8 w' from by
      obtain ⟨vL, vA, vE, le, hJ, -⟩ := H8.out.ex
      exact wonce_is hJ (row_hl T8.out (by have := HAL.out; omega)) HAN.out.1 (up_nodup (allH_up _ _)) HAN.out.2.1 (by have := HAN.out.2.2; omega) (by have := HAL.out; omega))
    clear hs8 c8 hq8 HPT
    go_wp2_with fail
    refine HON8.out.mono ?_
    rintro e w9 ⟨rfl, hb9⟩
    have c9 := Ch.of_below (Q := fun _ => False) hb9
    have H9 := hide (H8.out.quiet c9)
    have R9 := hide (R8.out.ch c9 (fun _ _ h => h))
    have W9 := hide (W8.out.ch c9 (fun _ _ h => h))
    have B9 := hide (B8.out.trans (c9.below (Nat.le_trans HLW.out B8.out.size) (fun _ _ h => h)))
    have HSM := hide (same_is (row_head R9.out rfl (by omega)).1 (row_hl W9.out (by omega)))
    rw [show decide (R = R) = true from decide_eq_true rfl] at HSM
    have HCL := hide (fun V (cV : Ch (fun _ => False) w9 V) => show V.cell? ⟨gb, R.length * 2, none⟩ = some (.int .u32 5) ∧ V.cell? ⟨gb, R.length * 2 + 1, none⟩ = some (.int .u32 5) from by
      have hh := row_head (R9.out.ch cV (fun _ _ h => h)) rfl (by omega)
      exact ⟨hh.2.1, hh.2.2.1⟩)
    have hcp := (row_head R9.out rfl (by omega)).2.2.2.1
    have eN : IntKind.i64.wrap ((R.length : Int) + 1) = ((R.length + 1 : Nat) : Int) := by rw [IntKind.wrap_i64]; omega
    have qc : decide (((R.length + 1 : Nat) : Int) ≤ (cap : Int)) = true := decide_eq_true (by omega)
    have qi : decide ((R.length : Int) < ((R.length + 1 : Nat) : Int)) = true := decide_eq_true (by omega)
    clear hb9 c9 HON8
    go_wp2_with fail
    refine HSM.out.mono ?_
    rintro e w10 ⟨rfl, hb10⟩
    have c10 := Ch.of_below (Q := fun _ => False) hb10
    have H10 := hide (H9.out.quiet c10)
    have B10 := hide (B9.out.trans (c10.below (Nat.le_trans HLW.out B9.out.size) (fun _ _ h => h)))
    obtain ⟨y0, y1⟩ := HCL.out w10 c10
    clear hb10 c10 HSM
    go_wp2
    go_ret
    refine ⟨rfl, ⟨vT, vl8, vw8, vD, _, L, A, _, _, _, O6, (hnds_frees R7 l).symm ▸ H10.out, by rw [frees_len]; omega, by simp, fun hx x hm => ?_⟩, B10.out⟩
    rcases List.mem_append.1 hm with hm | hm
    · exact hx x hm
    · rw [List.mem_singleton.1 hm]; exact HRL.out

end Go.Proofs.Ytcogiklnegpfiaa

namespace Go.Proofs.Ytcogiklnegpfiaa
open Go.RowKit Go.Shelf

section
variable {P : Px} {w w' V w6 : World} {vT vl vw vD v6 : Value} {l ld : List Th} {hs : List Hd} {L L' : List Lk} {aq : List Hd} {ls ws : List Value} {xs : List (List Hd)} {O : Nat → Prop}

theorem SQ.make {l' : List Th} (h : SQ P w vT vl vw vD l ld hs L aq ls ws xs O) (hp : Hp w' P.B P.b P.p P.g l' P.M) (hc : Ch (fun y => y = P.p ∨ y = P.g) w w') : SQ P w' vT vl vw vD l' ld hs L aq ls ws xs O := by
  obtain ⟨vL, vA, vE, le, hJ, h1, hO⟩ := h.ex
  have nO : ∀ y, O y → ¬ (y = P.p ∨ y = P.g) := fun y hy e => e.elim (h.apart y hy).1.2.1 (h.apart y hy).1.2.2
  have := h.next (A := []) (O' := O) ⟨⟨vL, vA, vE, le, by rw [List.append_nil]; exact hJ.ch hc (nO _ h.bwO) (fun y hy => nO y ((hO y).2 (.inr (.inl hy)))) (fun y hy => nO y ((hO y).2 (.inr (.inr (.inl hy))))) (fun y hy => nO y ((hO y).2 (.inr (.inr (.inr hy))))), hO, h1⟩, Nat.le_trans h.low hc.size⟩ hp (hc.mono (fun _ _ e => .inr e)) (fun y hy => .inl hy)
  rw [List.append_nil] at this
  exact this

/-- told has one more -/
theorem SQ.told {x : Hd} {T : Obj} (h : SQ P V vT vl vw vD l ld hs L aq ls ws xs O) (hr : w6.ownsRow P.N 43 2 v6 (hs.length + 1) (hs.flatMap hF ++ hF x)) (hg : (V.alloc T).grownBy w6 vT.ownBlock) (ho : v6.ownBlock = vT.ownBlock ∨ ∃ y, V.heap.size ≤ y ∧ v6.ownBlock = some y) :
    SQ P (w6.setCell ⟨P.bw, 3, none⟩ v6) v6 vl vw vD l ld (hs ++ [x]) L aq ls ws xs O ∧ Ch (fun y => y = P.bw ∨ vT.ownBlock = some y) V (w6.setCell ⟨P.bw, 3, none⟩ v6) ∧ w6.cell? ⟨P.bw, 3, none⟩ = some vT ∧ w6.frozen? ⟨P.bw, 3, none⟩ = false := by
  obtain ⟨vL, vA, vE, le, hJ, h1, hO⟩ := h.ex
  have c1 : Ch (fun y => vT.ownBlock = some y) V w6 := (Ch.alloc (Q := fun y => vT.ownBlock = some y) V T).trans (Ch.of_grown hg (fun _ e => e)) (fun _ _ h => h)
  have hbO := h.bwO
  have hT : ¬ vT.ownBlock = some P.bw := fun e => h.to vT (by simp) _ e hbO
  have hb := c1.box hJ.box hT
  have hS := Ch.set (Q := fun y => y = P.bw) w6 rfl 3 v6
  have hc : Ch (fun y => y = P.bw ∨ vT.ownBlock = some y) V (w6.setCell ⟨P.bw, 3, none⟩ v6) := (c1.mono (Q' := fun y => y = P.bw ∨ vT.ownBlock = some y) (fun _ _ h => .inr h)).trans hS (fun _ _ h => .inl h)
  have oT := h.own vT (by simp)
  have hab := h.apart _ hbO
  have apT := List.pairwise_cons.1 h.ap
  have hn : ∀ u ∈ vl :: vw :: (ls ++ ws), ∀ y, u.ownBlock = some y → ¬ (y = P.bw ∨ vT.ownBlock = some y) := fun u hu y hy e => by
    rcases e with e | e
    · exact h.to u (List.mem_cons_of_mem _ hu) y hy (by rw [e]; exact hbO)
    · exact apT.1 u hu y e hy
  have nO : ∀ y, (vL.ownBlock = some y ∨ vA.ownBlock = some y ∨ vE.ownBlock = some y) → ¬ (y = P.bw ∨ vT.ownBlock = some y) := fun y hy e => by
    rcases e with e | e
    · subst e
      rcases hy with hy | hy | hy
      · exact hJ.bwL hy
      · exact hJ.bwA hy
      · exact hJ.bwE hy
    · exact h.to vT (by simp) y e ((hO y).2 (.inr hy))
  have r6 : Row hF 2 43 w6 P.N v6 (hs ++ [x]) := Row.snoc hr
  have nb6 : ¬ v6.ownBlock = some P.bw := fun e => by
    rcases ho with e2 | ⟨z, e1, e2⟩
    · exact hT (by rw [← e2]; exact e)
    · rw [e2] at e
      injection e with e
      have := (h.ltO _ hbO).2
      omega
  refine ⟨⟨h.hp.ch hc (fun e => ?_) (fun e => ?_) (fun e => ?_), ⟨vL, vA, vE, le, ⟨heap_set hb 3 v6, hJ.lk.ch hc (fun y hy => nO y (.inl hy)), hJ.ak.ch hc (fun y hy => nO y (.inr (.inl hy))), hJ.en.ch hc (fun y hy => nO y (.inr (.inr hy))), hJ.ne⟩, h1, hO⟩, r6.ch hS (fun y hy e => nb6 (by rw [← e]; exact hy)), h.ll.ch hc (hn _ (by simp)) (fun u hu => hn u (by simp [hu])), h.lw.ch hc (hn _ (by simp)) (fun u hu => hn u (by simp [hu])), h.ap.put (ho.imp_right fun ⟨y, e1, e2⟩ => ⟨y, e2, fun b hb e => by have := (h.own b (List.mem_cons_of_mem _ hb) y e).1; omega⟩), fun u hu y hy e => ?_, h.dt.ch hc (fun e => ?_) (fun y hy e => ?_), Nat.le_trans h.low hc.size, h.nb, h.l4, h.lus⟩, hc, by simp [Lib.cell_of_heap hb], by simp [World.frozen?, hb]⟩
  · exact e.elim (fun e => hab.1.1 e.symm) (fun e => (oT _ e).2.1.1 rfl)
  · exact e.elim (fun e => hab.1.2.1 e.symm) (fun e => (oT _ e).2.1.2.1 rfl)
  · exact e.elim (fun e => hab.1.2.2 e.symm) (fun e => (oT _ e).2.1.2.2 rfl)
  · rcases List.mem_cons.1 hu with rfl | hu
    · rcases ho with e2 | ⟨z, e1, e2⟩
      · exact h.to vT (by simp) y (by rw [← e2]; exact hy) e
      · rw [e2] at hy
        injection hy with hy
        have := (h.ltO y e).2
        omega
    · exact h.to u (List.mem_cons_of_mem _ hu) y hy e
  · exact e.elim (fun e => hab.2.1 e.symm) (fun e => (oT _ e).2.2.1 rfl)
  · exact e.elim (fun e => hab.2.2 (by rw [← e]; exact hy)) (fun e => (oT _ e).2.2.2 hy)

/-- the links are others -/
theorem SQ.setL {vL : Value} (h : SQ P V vT vl vw vD l ld hs L aq ls ws xs O) (hbx : ∃ vA vE, V.heap[P.bw]? = some (.cells #[.pointer (some ⟨P.b, 0, none⟩), .pointer (some ⟨P.db, 0, none⟩), vL, vT, vA, vl, vw, vE] 37 (0, 0))) (c1 : Ch (fun y => vL.ownBlock = some y) V w6) (hr : Row lkF 4 51 w6 P.N v6 L') (ho : ∀ y, v6.ownBlock = some y → vL.ownBlock = some y ∨ V.heap.size ≤ y) (hl : L'.length ≤ 400) (hu : ∀ k ∈ L', Us k.ts) :
    (∃ O', SQ P (w6.setCell ⟨P.bw, 2, none⟩ v6) vT vl vw vD l ld hs L' aq ls ws xs O') ∧ Ch (fun y => y = P.bw ∨ vL.ownBlock = some y) V (w6.setCell ⟨P.bw, 2, none⟩ v6) ∧ (∀ y, (y = P.bw ∨ vL.ownBlock = some y) → P.N ≤ y) ∧ w6.cell? ⟨P.bw, 2, none⟩ = some vL ∧ w6.frozen? ⟨P.bw, 2, none⟩ = false := by
  obtain ⟨vL0, vA, vE, le, hJ, h1, hO⟩ := h.ex
  obtain rfl : vL0 = vL := by
    obtain ⟨vA', vE', hb'⟩ := hbx
    have := hJ.box
    rw [hb'] at this
    have e : vL0 = vL ∧ vA = vA' ∧ vE = vE' := by simpa using this.symm
    exact e.1
  have hbO := h.bwO
  have hb := c1.box hJ.box hJ.bwL
  have hS := Ch.set (Q := fun y => y = P.bw) w6 rfl 2 v6
  have hc : Ch (fun y => y = P.bw ∨ vL0.ownBlock = some y) V (w6.setCell ⟨P.bw, 2, none⟩ v6) := (c1.mono (Q' := fun y => y = P.bw ∨ vL0.ownBlock = some y) (fun _ _ h => .inr h)).trans hS (fun _ _ h => .inl h)
  have qO : ∀ y, (y = P.bw ∨ vL0.ownBlock = some y) → O y := fun y e => (hO y).2 (e.imp_right .inl)
  have hn : ∀ u ∈ vT :: vl :: vw :: (ls ++ ws), ∀ y, u.ownBlock = some y → ¬ (y = P.bw ∨ vL0.ownBlock = some y) := fun u hu y hy e => h.to u hu y hy (qO y e)
  have nb6 : ¬ v6.ownBlock = some P.bw := own_box hr hb (by decide)
  have hJ' : JW P.bw P.N (.pointer (some ⟨P.b, 0, none⟩)) (.pointer (some ⟨P.db, 0, none⟩)) vT vl vw L' (w6.setCell ⟨P.bw, 2, none⟩ v6) v6 vA vE aq le := ⟨heap_set hb 2 v6, hr.ch hS (fun y hy e => nb6 (by rw [← e]; exact hy)), hJ.ak.ch hc (fun y hy e => e.elim (fun e => hJ.bwA (by rw [← e]; exact hy)) (fun e => hJ.lkA y e hy)), hJ.en.ch hc (fun y hy e => e.elim (fun e => hJ.bwE (by rw [← e]; exact hy)) (fun e => hJ.lkE y e hy)), hJ.ne⟩
  refine ⟨⟨JO P.bw v6 vA vE, ⟨h.hp.ch hc (fun e => (h.apart _ (qO _ e)).1.1 rfl) (fun e => (h.apart _ (qO _ e)).1.2.1 rfl) (fun e => (h.apart _ (qO _ e)).1.2.2 rfl), ⟨v6, vA, vE, le, hJ', h1, fun _ => Iff.rfl⟩, h.tr.ch hc (hn _ (by simp)), h.ll.ch hc (hn _ (by simp)) (fun u hu => hn u (by simp [hu])), h.lw.ch hc (hn _ (by simp)) (fun u hu => hn u (by simp [hu])), h.ap, fun u hu y hy e => ?_, h.dt.ch hc (fun e => (h.apart _ (qO _ e)).2.1 rfl) (fun y hy e => (h.apart _ (qO _ e)).2.2 hy), Nat.le_trans h.low hc.size, h.nb, hl, hu⟩⟩, hc, fun y e => (h.ltO y (qO y e)).1, by simp [Lib.cell_of_heap hb], by simp [World.frozen?, hb]⟩
  have h3 := h.to u hu y hy
  rcases e with e | e | e | e
  · exact h3 ((hO y).2 (.inl e))
  · rcases ho y e with e | e
    · exact h3 ((hO y).2 (.inr (.inl e)))
    · have := (h.own u hu y hy).1
      omega
  · exact h3 ((hO y).2 (.inr (.inr (.inl e))))
  · exact h3 ((hO y).2 (.inr (.inr (.inr e))))

/-- nothing changes -/
theorem StepI.same (h : SQ P w' vT vl vw vD l l (hnds l) L aq ls ws xs O) (hb : Below P.N w w') : StepI P w w' l xs := ⟨⟨vT, vl, vw, vD, l, L, aq, ls, ws, xs, O, h, by omega, by omega, fun h => h⟩, hb⟩
theorem StepI.after {w1 : World} (h : StepI P w1 w' l xs) (hb : Below P.N w w1) : StepI P w w' l xs := ⟨h.ex, hb.trans h.low⟩
end
end Go.Proofs.Ytcogiklnegpfiaa
