/- Trees whose lists lie apart from one another. -/
import Derived.Test.YtnclmlhmmljfgaaGreatDoorTk
import Derived.Deep.MidRow
namespace Go.Proofs.YtnclmlhmmljfgaaGreatDoor
open Go.RowKit

mutual
/-- a node's kids, by their slice: all within these blocks, each list in a block of its own -/
def SepT (w : World) (lo hi : Nat) (v : Value) : Tr → Prop
  | .mk _ ks => (ks = [] ∧ v = .slice none 0 0) ∨ (0 < ks.length ∧ ∃ g cur, v = .slice (some ⟨g, 0, none⟩) ks.length ks.length ∧ lo ≤ g ∧ g < hi ∧ w.heap[g]? = some (.cells cur 25 (0, 0)) ∧ cur.size = ks.length * 8 ∧ SepR w (g + 1) hi cur 0 ks)
def SepR (w : World) (lo hi : Nat) (cur : Array Value) (i : Nat) : List Tr → Prop
  | [] => True
  | t :: r => ∃ v mid, (∀ j u, (ncs (t.f, v))[j]? = some u → cur[i * 8 + j]? = some u) ∧ lo ≤ mid ∧ mid ≤ hi ∧ SepT w lo mid v t ∧ SepR w mid hi cur (i + 1) r
end

theorem SepT.kidsv {w : World} {lo hi : Nat} {v : Value} {t : Tr} (h : SepT w lo hi v t) : (t.ks = [] ∧ v = .slice none 0 0) ∨ (0 < t.ks.length ∧ ∃ g cur, v = .slice (some ⟨g, 0, none⟩) t.ks.length t.ks.length ∧ lo ≤ g ∧ g < hi ∧ w.heap[g]? = some (.cells cur 25 (0, 0)) ∧ cur.size = t.ks.length * 8 ∧ SepR w (g + 1) hi cur 0 t.ks) := by
  cases t
  exact h

theorem SepT.mk {w : World} {lo hi : Nat} {v : Value} {t : Tr} (h : (t.ks = [] ∧ v = .slice none 0 0) ∨ (0 < t.ks.length ∧ ∃ g cur, v = .slice (some ⟨g, 0, none⟩) t.ks.length t.ks.length ∧ lo ≤ g ∧ g < hi ∧ w.heap[g]? = some (.cells cur 25 (0, 0)) ∧ cur.size = t.ks.length * 8 ∧ SepR w (g + 1) hi cur 0 t.ks)) : SepT w lo hi v t := by
  cases t
  exact h

mutual
theorem SepT.agree {w w' : World} : ∀ {t : Tr} {lo hi : Nat} {v : Value}, (∀ b, lo ≤ b → b < hi → w'.heap[b]? = w.heap[b]?) → SepT w lo hi v t → SepT w' lo hi v t
  | .mk _ ks, lo, hi, v, ha, h => by
    rcases h with h | ⟨h0, g, cur, h1, h2, h3, h4, h5, h6⟩
    · exact Or.inl h
    · exact Or.inr ⟨h0, g, cur, h1, h2, h3, (ha g h2 h3).trans h4, h5, SepR.agree (fun b hb hb' => ha b (by omega) hb') (fun _ _ _ => rfl) h6⟩
theorem SepR.agree {w w' : World} {cur cur' : Array Value} : ∀ {l : List Tr} {lo hi i : Nat}, (∀ b, lo ≤ b → b < hi → w'.heap[b]? = w.heap[b]?) → (∀ p, i * 8 ≤ p → p < (i + l.length) * 8 → cur'[p]? = cur[p]?) → SepR w lo hi cur i l → SepR w' lo hi cur' i l
  | [], _, _, _, _, _, _ => trivial
  | t :: r, lo, hi, i, ha, hc, h => by
    obtain ⟨v, mid, h1, h2, h3, h4, h5⟩ := h
    refine ⟨v, mid, fun j u hu => ?_, h2, h3, SepT.agree (fun b hb hb' => ha b hb (by omega)) h4, SepR.agree (fun b hb hb' => ha b (by omega) hb') (fun p hp hp' => hc p (by omega) (by simp only [List.length_cons]; omega)) h5⟩
    have hj : j < 8 := by
      have := (List.getElem?_eq_some_iff.1 hu).1
      simpa [ncs] using this
    rw [hc (i * 8 + j) (by omega) (by simp only [List.length_cons]; omega)]
    exact h1 j u hu
end

mutual
theorem SepT.mono {w : World} : ∀ {t : Tr} {lo hi lo' hi' : Nat} {v : Value}, lo' ≤ lo → hi ≤ hi' → SepT w lo hi v t → SepT w lo' hi' v t
  | .mk _ ks, lo, hi, lo', hi', v, h1, h2, h => by
    rcases h with h | ⟨h0, g, cur, a1, a2, a3, a4, a5, a6⟩
    · exact Or.inl h
    · exact Or.inr ⟨h0, g, cur, a1, by omega, by omega, a4, a5, SepR.mono (Nat.le_refl _) h2 a6⟩
theorem SepR.mono {w : World} {cur : Array Value} : ∀ {l : List Tr} {lo hi lo' hi' i : Nat}, lo' ≤ lo → hi ≤ hi' → SepR w lo hi cur i l → SepR w lo' hi' cur i l
  | [], _, _, _, _, _, _, _, _ => trivial
  | t :: r, lo, hi, lo', hi', i, h1, h2, h => by
    obtain ⟨v, mid, a1, a2, a3, a4, a5⟩ := h
    exact ⟨v, mid, a1, by omega, by omega, SepT.mono h1 (Nat.le_refl _) a4, SepR.mono (Nat.le_refl _) h2 a5⟩
end

theorem SepR.snoc {w : World} {cur : Array Value} {t : Tr} {v : Value} {hi hi' : Nat} (ht : SepT w hi hi' v t) (hh : hi ≤ hi') : ∀ {l : List Tr} {lo i : Nat}, lo ≤ hi → SepR w lo hi cur i l → (∀ j u, (ncs (t.f, v))[j]? = some u → cur[(i + l.length) * 8 + j]? = some u) → SepR w lo hi' cur i (l ++ [t])
  | [], lo, i, hl, _, hc => ⟨v, hi', by simpa using hc, by omega, Nat.le_refl _, ht.mono hl (Nat.le_refl _), trivial⟩
  | x :: r, lo, i, hl, h, hc => by
    obtain ⟨u, mid, a1, a2, a3, a4, a5⟩ := h
    refine ⟨u, mid, a1, a2, by omega, a4, SepR.snoc ht hh a3 a5 fun j y hy => ?_⟩
    have := hc j y hy
    rw [show (i + 1 + r.length) * 8 + j = (i + (x :: r).length) * 8 + j by simp only [List.length_cons]; omega]
    exact this

mutual
/-- such a tree is a tree -/
theorem SepT.kids {w : World} : ∀ {t : Tr} {lo hi : Nat} {v : Value}, cnt t ≤ 65536 → SepT w lo hi v t → Kids w ⟨true, false⟩ (fun i => lo ≤ i ∧ i < hi) v t.ks
  | .mk f ks, lo, hi, v, hn, h => by
    have hll := len_le_cnts ks
    unfold cnt at hn
    rcases h with ⟨rfl, rfl⟩ | ⟨h0, g, cur, rfl, a2, a3, a4, a5, a6⟩
    · exact Kids.nil _ rfl _ _ _
    · refine ⟨g, 0, ⟨Or.inr ⟨h0, ⟨a2, a3⟩, fun _ => ⟨cur, _, a4⟩, _, by simp only [Tr.ks]; omega, rfl⟩, fun e => by cases e⟩, ?_⟩
      have := SepR.row (g := g) (by omega) a4 a6
      rw [Nat.zero_mul] at this
      exact this.mono fun i hi => ⟨by omega, hi.2⟩
theorem SepR.row {w : World} {cur : Array Value} {g : Nat} : ∀ {l : List Tr} {lo hi i : Nat}, cnts l ≤ 65536 → w.heap[g]? = some (.cells cur 25 (0, 0)) → SepR w lo hi cur i l → RowAt w ⟨true, false⟩ (fun b => lo ≤ b ∧ b < hi) g (i * 8) l
  | [], _, _, _, _, _, _ => trivial
  | t :: r, lo, hi, i, hn, hg, h => by
    obtain ⟨v, mid, h1, h2, h3, h4, h5⟩ := h
    unfold cnts at hn
    have hk := (SepT.kids (by omega) h4).mono (S' := fun b => lo ≤ b ∧ b < hi) fun b hb => ⟨hb.1, by omega⟩
    have at8 : ∀ j u, (ncs (t.f, v))[j]? = some u → w.cell? ⟨g, i * 8 + j, none⟩ = some u := fun j u hu => by
      have := h1 j u hu
      simp only [World.cell?, hg]
      simpa using this
    refine ⟨NodeAt.shut (at8 0 _ rfl) (at8 1 _ rfl) (at8 2 _ rfl) (at8 3 _ rfl) (at8 4 _ rfl) (at8 5 _ rfl) (at8 6 _ rfl) (at8 7 _ rfl) hk, ?_⟩
    have := (SepR.row (by omega) hg h5).mono (S' := fun b => lo ≤ b ∧ b < hi) fun b hb => ⟨by omega, hb.2⟩
    rw [show (i + 1) * 8 = i * 8 + 8 by omega] at this
    exact this
end

/-! ### Cells stored one behind the other -/

theorem blk_setCells {T : TypeId} {g : Nat} : ∀ (vs : List Value) {w : World} {cur : Array Value} (o : Nat), w.heap[g]? = some (.cells cur T (0, 0)) →
    ∃ cur', (w.setCells g o vs).heap[g]? = some (.cells cur' T (0, 0)) ∧ cur'.size = cur.size ∧ (∀ i, i < o ∨ o + vs.length ≤ i → cur'[i]? = cur[i]?) ∧ (o + vs.length ≤ cur.size → ∀ j, j < vs.length → cur'[o + j]? = vs[j]?)
  | [], w, cur, o, h => ⟨cur, h, rfl, fun _ _ => rfl, fun _ j hj => by simp at hj⟩
  | v :: r, w, cur, o, h => by
    have h1 : (w.setCell ⟨g, o, none⟩ v).heap[g]? = some (.cells (cur.setIfInBounds o v) T (0, 0)) := by simp [World.setCell, Array.getElem?_modify, h]
    obtain ⟨cur', e1, e2, e3, e4⟩ := blk_setCells r (o + 1) h1
    refine ⟨cur', e1, by simpa using e2, fun i hi => ?_, fun hsz j hj => ?_⟩
    · rw [e3 i (by simp only [List.length_cons] at hi; omega), Array.getElem?_setIfInBounds]
      rw [if_neg (by simp only [List.length_cons] at hi; omega)]
    · simp only [List.length_cons] at hsz hj
      cases j with
      | zero =>
        rw [Nat.add_zero, e3 o (by omega), Array.getElem?_setIfInBounds, if_pos rfl, if_pos (by omega)]
        rfl
      | succ j =>
        have := e4 (by simp; omega) j (by omega)
        rw [show o + (j + 1) = o + 1 + j by omega]
        simpa using this

theorem ex_setCells {g : Nat} : ∀ (vs : List Value) (w : World) (o : Nat), Ex (fun i => i = g) w (w.setCells g o vs)
  | [], w, _ => Ex.refl _ w
  | v :: r, w, o => (Ex.setCell (X := fun i => i = g) w g o v rfl).trans (ex_setCells r _ _)

theorem size_setCells {g : Nat} : ∀ (vs : List Value) (w : World) (o : Nat), (w.setCells g o vs).heap.size = w.heap.size
  | [], _, _ => rfl
  | v :: r, w, o => by
    show ((w.setCell ⟨g, o, none⟩ v).setCells g (o + 1) r).heap.size = _
    rw [size_setCells r]
    simp [World.setCell]

theorem there_of {w : World} {g o n : Nat} {cur : Array Value} {T : TypeId} (h : w.heap[g]? = some (.cells cur T (0, 0))) (ho : o + n ≤ cur.size) : w.there g o n := fun j hj => by
  have h1 : o + j < cur.size := by omega
  simp [World.cell?, World.frozen?, h, h1]

/-- a store of cells, as one step of a region that draws its order -/
theorem step_store {P : Program} {ops : Array Oper} {o : Oper} {a : Act} {w : World} {K : Act → World → Prop} {Q : Exit → Act → World → Prop} {E : Prop} (hg : o.guard = none) (x y : Operand) (ty : TypeId) (ho : o.op = .store ty x y)
    (b off : Nat) (cells : Array Value) (hx : a.eval x = .pointer (some ⟨b, off, none⟩)) (hy : a.eval y = .agg cells) (ht : w.there b off cells.size) (hi : (P.info? ty).map (·.size) = some cells.size) (h1 : cells.all (·.oneCell') = true)
    (h : ∀ w', w' = w.setCells b off cells.toList → K (a.put o.dst undef) w') : if Region.wanted o (yielded ops a.tmps) = true then Oper.wp P o a w K Q else E := by
  have hw : Region.wanted o (yielded ops a.tmps) = true := by simp [Region.wanted, hg]
  rw [if_pos hw]
  exact wp_store_mid ty x y ho b off cells hx hy ht hi h1 (h _ rfl)

theorem Tryz.sizeN : (Tryz.prog.info? 25).map (·.size) = some 8 := by kernel_rfl

theorem bares_take {ks : List Tr} {k : Nat} (h : k < ks.length) : bares (ks.take (k + 1)) = bares (ks.take k) ++ [bareT ks[k]] := by
  have app : ∀ (a b : List Tr), bares (a ++ b) = bares a ++ bares b := by
    intro a b
    induction a with
    | nil => rfl
    | cons x r ih => simp [bares, ih]
  rw [List.take_succ_eq_append_getElem h, app]
  rfl

end Go.Proofs.YtnclmlhmmljfgaaGreatDoor
