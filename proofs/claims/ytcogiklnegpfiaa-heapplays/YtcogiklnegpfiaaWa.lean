/- Layer 13: the law's world. -/
import Derived.Test.YtcogiklnegpfiaaGs
import Derived.Test.YtcogiklnegpfiaaVa
namespace Go.Proofs.Ytcogiklnegpfiaa
open Go.RowKit Go.Shelf

/-- a link -/
structure Lk where
  fs : Int
  fg : Int
  ts : Int
  tg : Int
def lkF (k : Lk) : List Value := [.int .u32 k.fs, .int .u32 k.fg, .int .u32 k.ts, .int .u32 k.tg]
theorem lkF_len (k : Lk) : (lkF k).length = 4 := rfl
theorem lkF_one (k : Lk) : ∀ v ∈ lkF k, v.oneCell' = true := by
  intro u hu
  simp only [lkF, List.mem_cons, List.not_mem_nil, or_false] at hu
  rcases hu with rfl | rfl | rfl | rfl <;> rfl
/-- from x -/
def frm (x : Hd) (k : Lk) : Bool := decide (k.fs = x.1) && decide (k.fg = x.2)
/-- to what x leads -/
def tlL (L : List Lk) (x : Hd) : List Hd := (L.filter (frm x)).map fun k => (k.ts, k.tg)
theorem tlL_snoc (L : List Lk) (x : Hd) (k : Lk) : tlL (L ++ [k]) x = if frm x k then tlL L x ++ [(k.ts, k.tg)] else tlL L x := by
  unfold tlL
  rw [List.filter_append]
  by_cases h : frm x k = true
  · rw [if_pos h]; simp [h]
  · rw [if_neg h]; simp [h]
theorem tlL_le (L : List Lk) (x : Hd) : (tlL L x).length ≤ L.length := by
  unfold tlL
  rw [List.length_map]
  exact List.length_filter_le _ _
theorem tlL_take (L : List Lk) (x : Hd) (k : Nat) : (tlL (L.take k) x).length ≤ (tlL L x).length := by
  conv => rhs; rw [← List.take_append_drop k L]
  unfold tlL
  rw [List.filter_append, List.map_append, List.length_append]
  omega

/-- the law's world lies in block bw -/
structure JW (bw N : Nat) (pa pb vT vl vw : Value) (L : List Lk) (w : World) (vL vA vE : Value) (aq le : List Hd) : Prop where
  box : w.heap[bw]? = some (.cells #[pa, pb, vL, vT, vA, vl, vw, vE] 37 (0, 0))
  lk : Row lkF 4 51 w N vL L
  ak : Row hF 2 43 w N vA aq
  en : Row hF 2 43 w N vE le
  ne : ∀ y, vA.ownBlock = some y → ¬ vE.ownBlock = some y

section
variable {bw N : Nat} {pa pb vT vl vw : Value} {L : List Lk} {w w' : World} {vL vA vE : Value} {aq le : List Hd}

theorem JW.cells (h : JW bw N pa pb vT vl vw L w vL vA vE aq le) : w.cell? ⟨bw, 0, none⟩ = some pa ∧ w.cell? ⟨bw, 1, none⟩ = some pb ∧ w.cell? ⟨bw, 2, none⟩ = some vL ∧ w.cell? ⟨bw, 3, none⟩ = some vT ∧ w.cell? ⟨bw, 4, none⟩ = some vA ∧ w.cell? ⟨bw, 5, none⟩ = some vl ∧ w.cell? ⟨bw, 6, none⟩ = some vw ∧ w.cell? ⟨bw, 7, none⟩ = some vE ∧ ∀ o, w.frozen? ⟨bw, o, none⟩ = false := by
  have e := Lib.cell_of_heap h.box
  refine ⟨by simp [e], by simp [e], by simp [e], by simp [e], by simp [e], by simp [e], by simp [e], by simp [e], fun o => by simp [World.frozen?, h.box]⟩
theorem JW.bwA (h : JW bw N pa pb vT vl vw L w vL vA vE aq le) : ¬ vA.ownBlock = some bw := own_box h.ak h.box (by decide)
theorem JW.bwE (h : JW bw N pa pb vT vl vw L w vL vA vE aq le) : ¬ vE.ownBlock = some bw := own_box h.en h.box (by decide)
theorem JW.bwL (h : JW bw N pa pb vT vl vw L w vL vA vE aq le) : ¬ vL.ownBlock = some bw := own_box h.lk h.box (by decide)
theorem JW.lkA (h : JW bw N pa pb vT vl vw L w vL vA vE aq le) : ∀ y, vL.ownBlock = some y → ¬ vA.ownBlock = some y := own_ne h.lk h.ak (by decide)
theorem JW.lkE (h : JW bw N pa pb vT vl vw L w vL vA vE aq le) : ∀ y, vL.ownBlock = some y → ¬ vE.ownBlock = some y := own_ne h.lk h.en (by decide)
theorem JW.ch {Q : Nat → Prop} (h : JW bw N pa pb vT vl vw L w vL vA vE aq le) (hc : Ch Q w w') (h0 : ¬ Q bw) (h1 : ∀ y, vL.ownBlock = some y → ¬ Q y) (h2 : ∀ y, vA.ownBlock = some y → ¬ Q y) (h3 : ∀ y, vE.ownBlock = some y → ¬ Q y) : JW bw N pa pb vT vl vw L w' vL vA vE aq le :=
  ⟨hc.box h.box h0, h.lk.ch hc h1, h.ak.ch hc h2, h.en.ch hc h3, h.ne⟩
theorem JW.ch0 (h : JW bw N pa pb vT vl vw L w vL vA vE aq le) (hc : Ch (fun _ => False) w w') : JW bw N pa pb vT vl vw L w' vL vA vE aq le := h.ch hc (fun h => h) (fun _ _ h => h) (fun _ _ h => h) (fun _ _ h => h)
/-- lent has been written over -/
theorem JW.lent {le' : List Hd} (h : JW bw N pa pb vT vl vw L w vL vA vE aq le) (hc : Ch (fun y => vE.ownBlock = some y) w w') (hr : Row hF 2 43 w' N vE le') : JW bw N pa pb vT vl vw L w' vL vA vE aq le' :=
  ⟨hc.box h.box h.bwE, h.lk.ch hc h.lkE, h.ak.ch hc h.ne, hr, h.ne⟩
/-- its footprint -/
def JO (bw : Nat) (vL vA vE : Value) (y : Nat) : Prop := y = bw ∨ vL.ownBlock = some y ∨ vA.ownBlock = some y ∨ vE.ownBlock = some y
end

/-- what is kept of the law's world while the heap asks -/
structure JL (bw N : Nat) (pa pb vT vl vw : Value) (L : List Lk) (A0 A : List Hd) (w : World) (O : Nat → Prop) : Prop where
  ex : ∃ vL vA vE le, JW bw N pa pb vT vl vw L w vL vA vE (A0 ++ A) le ∧ (∀ y, O y ↔ JO bw vL vA vE y) ∧ le.length ≤ 1000000
  low : N ≤ w.heap.size

theorem JL.ltO {bw N : Nat} {pa pb vT vl vw : Value} {L : List Lk} {A0 A : List Hd} {w : World} {O : Nat → Prop} (h : JL bw N pa pb vT vl vw L A0 A w O) : ∀ y, O y → y < w.heap.size := by
  intro y hy
  obtain ⟨vL, vA, vE, le, hJ, hO, -⟩ := h.ex
  rcases (hO y).1 hy with e | e | e | e
  · subst e
    exact (Array.getElem?_eq_some_iff.1 hJ.box).1
  · exact (own_in hJ.lk e).2.1
  · exact (own_in hJ.ak e).2.1
  · exact (own_in hJ.en e).2.1
theorem JL.keep {bw N : Nat} {pa pb vT vl vw : Value} {L : List Lk} {A0 A : List Hd} {w w' : World} {O Q : Nat → Prop} (h : JL bw N pa pb vT vl vw L A0 A w O) (hc : Ch Q w w') (hq : ∀ y, O y → ¬ Q y) : JL bw N pa pb vT vl vw L A0 A w' O := by
  obtain ⟨vL, vA, vE, le, hJ, hO, hle⟩ := h.ex
  exact ⟨⟨vL, vA, vE, le, hJ.ch hc (hq _ ((hO _).2 (.inl rfl))) (fun y hy => hq y ((hO y).2 (.inr (.inl hy)))) (fun y hy => hq y ((hO y).2 (.inr (.inr (.inl hy))))) (fun y hy => hq y ((hO y).2 (.inr (.inr (.inr hy))))), hO, hle⟩, Nat.le_trans h.low hc.size⟩

end Go.Proofs.Ytcogiklnegpfiaa
