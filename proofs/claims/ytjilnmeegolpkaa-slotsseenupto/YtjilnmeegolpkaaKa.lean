/- Layer 10: SlotsSeen: what its boxes hold. -/
import Derived.Test.YtjilnmeegolpkaaHkp
import Derived.Test.YtjilnmeegolpkaaSva
import Derived.Test.YtjilnmeegolpkaaSj
namespace Go.Proofs.Ytjilnmeegolpkaa
open Go.RowKit Go.Shelf

/-- a slice of n, from here on, in a block below N -/
def Sl (N : Nat) (v : Value) (n b o : Nat) : Prop := ∃ a c, v = .slice a n c ∧ n ≤ c ∧ n ≤ 9223372036854775807 ∧ (0 < n → a = some ⟨b, o, none⟩ ∧ b < N)
/-- a list of elements of k cells each -/
def Lst {α : Type} (N k : Nat) (A : Nat → Nat → α → Prop) (v : Value) (l : List α) : Prop := ∃ b o, Sl N v l.length b o ∧ ∀ i (h : i < l.length), A b (o + i * k) l[i]

/-- the handles that were told first -/
def hsl (n : Nat) : List (Int × Int) := (List.range n).map fun j : Nat => ((j : Int) + 1, (1 : Int))
theorem hsl_len (n : Nat) : (hsl n).length = n := by simp [hsl]
theorem hsl_get (n i : Nat) (h : i < (hsl n).length) : (hsl n)[i] = ((i : Int) + 1, 1) := by simp [hsl]
theorem hsl_succ (n : Nat) : hsl (n + 1) = hsl n ++ [((n : Int) + 1, 1)] := by simp [hsl, List.range_succ]

theorem blk_ne {W : World} {a b : Nat} {cs cs' : Array Value} {T T' : TypeId} {r r' : Nat × Nat} (h : W.heap[a]? = some (.cells cs T r)) (h' : W.heap[b]? = some (.cells cs' T' r')) (hne : T ≠ T') : a ≠ b := fun e => by
  subst e
  rw [h] at h'
  injection h' with h'
  injection h' with _ h' _
  exact hne h'

/-- the law's boxes, the handles, the table -/
structure Sn (w0 : World) (lv ov iv : Value) (p g a8 a10 B : Nat) (F : Nat → Prop) (W : World) (l : List (ThG Pa)) (hv' : Value) (n : Nat) : Prop where
  b0 : Boxed W w0.heap.size 57 lv
  b1 : Boxed W (w0.heap.size + 1) 49 ov
  b2 : Boxed W (w0.heap.size + 2) 57 iv
  b8 : Boxed W a8 58 (.pointer (some ⟨p, 0, none⟩))
  bh : Boxed W a10 33 hv'
  tb : TbP W B F p l 500 g
  hs : HdRow W B hv' (hsl n)
  be : Below w0.heap.size w0 W
  lB : w0.heap.size + 3 ≤ B
  l8 : B ≤ a8
  l10 : B ≤ a10

section
variable {w0 W W' : World} {lv ov iv hv' hv2 : Value} {p g a8 a10 B n m : Nat} {F : Nat → Prop} {l l' : List (ThG Pa)}

theorem Sn.ch {Q : Nat → Prop} (h : Sn w0 lv ov iv p g a8 a10 B F W l hv' n) (hc : Ch Q W W') (hB : ∀ x, x < W.heap.size → Q x → B ≤ x) (h8 : ¬ Q a8) (h10 : ¬ Q a10) (hF : ∀ x, F x → ¬ Q x) (hh : ∀ x, hv'.ownBlock = some x → ¬ Q x) : Sn w0 lv ov iv p g a8 a10 B F W' l hv' n := by
  have hl := h.lB
  have low : ∀ x, x < w0.heap.size + 3 → x < W.heap.size → ¬ Q x := fun x hx hw e => by have := hB x hw e; omega
  exact ⟨hc.box h.b0 (low _ (by omega) h.b0.lt), hc.box h.b1 (low _ (by omega) h.b1.lt), hc.box h.b2 (low _ (by omega) h.b2.lt), hc.box h.b8 h8, hc.box h.bh h10, h.tb.ch hc hF, h.hs.ch hc hh,
    h.be.trans (hc.below h.be.size fun x hx => low x (by omega) (Nat.lt_of_lt_of_le hx h.be.size)), h.lB, h.l8, h.l10⟩
theorem Sn.ch0 (h : Sn w0 lv ov iv p g a8 a10 B F W l hv' n) (hc : Ch (fun _ => False) W W') : Sn w0 lv ov iv p g a8 a10 B F W' l hv' n := h.ch hc (fun _ _ h => h.elim) (fun h => h) (fun h => h) (fun _ _ h => h) (fun _ _ h => h)
theorem Sn.below (h : Sn w0 lv ov iv p g a8 a10 B F W l hv' n) (hb : Below W.heap.size W W') : Sn w0 lv ov iv p g a8 a10 B F W' l hv' n := h.ch0 (Ch.of_below hb)
theorem Sn.nF (h : Sn w0 lv ov iv p g a8 a10 B F W l hv' n) {x : Nat} {cs : Array Value} {T : TypeId} {r : Nat × Nat} (hx : W.heap[x]? = some (.cells cs T r)) (h1 : T ≠ 94) (h2 : T ≠ 97) : ¬ F x := fun e => by
  obtain ⟨_, _, cur, hg⟩ := h.tb.own
  rcases (h.tb.foot x).1 e with rfl | rfl
  · exact blk_ne hx h.tb.box h1 rfl
  · exact blk_ne hx hg h2 rfl
/-- the table has changed -/
theorem Sn.table (h : Sn w0 lv ov iv p g a8 a10 B F W l hv' n) (hc : Ch F W W') (ht : TbP W' B F p l' 500 g) : Sn w0 lv ov iv p g a8 a10 B F W' l' hv' n := by
  have hl := h.lB
  have hF : ∀ x, F x → B ≤ x := fun x hx => by
    rcases (h.tb.foot x).1 hx with rfl | rfl
    · exact h.tb.low
    · exact h.tb.own.1
  have low : ∀ x, x < w0.heap.size + 3 → ¬ F x := fun x hx e => by have := hF x e; omega
  exact ⟨hc.box h.b0 (low _ (by omega)), hc.box h.b1 (low _ (by omega)), hc.box h.b2 (low _ (by omega)), hc.box h.b8 (h.nF h.b8 (by decide) (by decide)), hc.box h.bh (h.nF h.bh (by decide) (by decide)), ht,
    h.hs.ch hc (fun x hx => by obtain ⟨_, _, cur, e⟩ := own_in h.hs hx; exact h.nF e (by decide) (by decide)), h.be.trans (hc.below h.be.size fun x hx => low x (by omega)), h.lB, h.l8, h.l10⟩
/-- one handle more was told -/
theorem Sn.more (h : Sn w0 lv ov iv p g a8 a10 B F W l hv' n) (hg : W.grownBy W' hv'.ownBlock) (hr : HdRow W' B hv2 (hsl m)) : Sn w0 lv ov iv p g a8 a10 B F (W'.setCell ⟨a10, 0, none⟩ hv2) l hv2 m := by
  have hl := h.lB
  have h1 : Ch (fun x => hv'.ownBlock = some x) W W' := Ch.of_grown hg (fun k e => e)
  have h2 := Ch.set (Q := fun x => x = a10) W' rfl 0 hv2
  have hrow : ∀ x, hv'.ownBlock = some x → B ≤ x ∧ x < W.heap.size ∧ ∃ cur, W.heap[x]? = some (.cells cur 39 (0, 0)) := fun x hx => own_in h.hs hx
  have ne_ : ∀ {x : Nat} {cs : Array Value} {T : TypeId} {r : Nat × Nat}, W.heap[x]? = some (.cells cs T r) → T ≠ 39 → ¬ hv'.ownBlock = some x := fun hx hT e => by
    obtain ⟨_, _, cur, e2⟩ := hrow _ e
    exact blk_ne hx e2 hT rfl
  have h3 : Ch (fun x => hv'.ownBlock = some x ∨ x = a10) W (W'.setCell ⟨a10, 0, none⟩ hv2) := (h1.mono (fun _ _ h => Or.inl h)).trans h2 (fun _ _ h => Or.inr h)
  have bh1 : Boxed W' a10 33 hv' := h1.box h.bh (ne_ h.bh (by decide))
  obtain ⟨_, _, curg, hgg⟩ := h.tb.own
  have n8 : ¬ (hv'.ownBlock = some a8 ∨ a8 = a10) := fun e => e.elim (ne_ h.b8 (by decide)) (fun e => blk_ne h.b8 h.bh (by decide) e)
  have np : ∀ x, F x → ¬ (hv'.ownBlock = some x ∨ x = a10) := fun x hx e => by
    rcases e with e | e
    · obtain ⟨_, _, cur, e2⟩ := hrow _ e
      exact h.nF e2 (by decide) (by decide) hx
    · subst e
      exact h.nF h.bh (by decide) (by decide) hx
  have low : ∀ x, x < w0.heap.size + 3 → ¬ (hv'.ownBlock = some x ∨ x = a10) := fun x hx e => by
    rcases e with e | e
    · have := (hrow _ e).1
      omega
    · have := h.l10
      omega
  refine ⟨h3.box h.b0 (low _ (by omega)), h3.box h.b1 (low _ (by omega)), h3.box h.b2 (low _ (by omega)), h3.box h.b8 n8, bh1.set _, h.tb.ch h3 np, hr.ch h2 (fun x hx e => ?_), h.be.trans (h3.below h.be.size fun x hx => low x (by omega)), h.lB, h.l8, h.l10⟩
  subst e
  obtain ⟨_, _, cur, e2⟩ := own_in hr hx
  exact blk_ne bh1 e2 (by decide) rfl
end

/-- the things' own lists -/
def Tg (W : World) (N : Nat) (ss : List ByteArray) (xs : List Pa) : Prop := ∀ j (h : j < xs.length), ∃ b, ∃ hs : j < ss.length, xs[j] = ⟨ss[j], some ⟨b, 0, none⟩, 1, 1⟩ ∧ b < N ∧ Boxed W b 3 (.int .i64 (j : Int))
theorem Tg.ch {W W' : World} {N : Nat} {ss : List ByteArray} {xs : List Pa} {Q : Nat → Prop} (h : Tg W N ss xs) (hc : Ch Q W W') (hq : ∀ b v, b < N → Boxed W b 3 v → ¬ Q b) : Tg W' N ss xs := fun j hj => by
  obtain ⟨b, hs, e, hb, h1⟩ := h j hj
  exact ⟨b, hs, e, hb, hc.box h1 (hq b _ hb h1)⟩
theorem Tg.mono {W : World} {N N' : Nat} {ss : List ByteArray} {xs : List Pa} (h : Tg W N ss xs) (hN : N ≤ N') : Tg W N' ss xs := fun j hj => by
  obtain ⟨b, hs, e, hb, h1⟩ := h j hj
  exact ⟨b, hs, e, by omega, h1⟩
theorem Tg.snoc {W : World} {N : Nat} {ss : List ByteArray} {xs : List Pa} (h : Tg W N ss xs) {b : Nat} (hb : b < N) (hx : xs.length < ss.length) (h1 : Boxed W b 3 (.int .i64 (xs.length : Int))) : Tg W N ss (xs ++ [⟨ss[xs.length], some ⟨b, 0, none⟩, 1, 1⟩]) := fun j hj => by
  rw [List.length_append, List.length_singleton] at hj
  by_cases hl : j < xs.length
  · rw [List.getElem_append_left hl]
    exact h j hl
  · have : j = xs.length := by omega
    subst this
    rw [List.getElem_append_right (Nat.le_refl _)]
    exact ⟨b, hx, by simp, hb, h1⟩

end Go.Proofs.Ytjilnmeegolpkaa
