/- Layer 11: the landed book: join and part on their way. -/
import Derived.Test.YtoabhmpakcgloaaHe
namespace Go.Proofs.Ytoabhmpakcgloaa
open Go.RowKit

/-- join and part, on their way: the book, the line's box, the box of the ends -/
structure JS (w W : World) (B p A E : Nat) (wv : Value) (M C : Nat) (x : Ln) (e : Int × Int) (sl : List Sl) (full : Int) (en : Ln → Option (Int × Int)) (cl : Int × Int × Int → Option Int) (n : Nat) : Prop where
  bk : Bk W B p wv M C sl full en cl n
  nA : W.heap[A]? = some (.cells #[.int .i64 (x.k : Int), .int .u32 x.rs, .int .u32 x.rg, .int .i64 x.rd, .int .u32 x.ws, .int .u32 x.wg] 100 (0, 0))
  nE : W.heap[E]? = some (.cells #[.int .u32 e.1, .int .u32 e.2] 119 (0, 0))
  lo : w.heap.size ≤ A ∧ w.heap.size ≤ E
  ch : Ch (fun y => y = M ∨ wv.ownBlock = some y) w W

section
variable {w W W' : World} {B p A E M C n : Nat} {wv : Value} {x : Ln} {e : Int × Int} {sl : List Sl} {full : Int} {en : Ln → Option (Int × Int)} {cl : Int × Int × Int → Option Int}
theorem JS.quiet (h : JS w W B p A E wv M C x e sl full en cl n) (hc : Ch (fun _ => False) W W') : JS w W' B p A E wv M C x e sl full en cl n :=
  ⟨h.bk.ch hc (fun _ _ h => h), hc.box h.nA (fun h => h), hc.box h.nE (fun h => h), h.lo, h.ch.trans hc (fun _ _ h => h.elim)⟩
theorem JS.apart (h : JS w W B p A E wv M C x e sl full en cl n) : ¬ wv.ownBlock = some p ∧ ¬ wv.ownBlock = some A ∧ ¬ wv.ownBlock = some E ∧ p ≠ E ∧ A ≠ E ∧ ¬ wv.ownBlock = some M ∧ A ≠ M ∧ E ≠ M ∧ p ≠ A ∧ A ≠ C ∧ E ≠ C := by
  obtain ⟨_, hm⟩ := h.bk.mp
  refine ⟨fun e => own_box h.bk.row h.bk.box (by decide) e, fun e => own_box h.bk.row h.nA (by decide) e, fun e => own_box h.bk.row h.nE (by decide) e, fun e => ?_, fun e => ?_, fun e => (h.bk.apart.2.2.2 _ e).2.1 rfl, hm.ne_cells h.nA, hm.ne_cells h.nE, fun e => ?_, h.bk.cm.ne_cells h.nA, h.bk.cm.ne_cells h.nE⟩
  · have k := h.bk.box
    rw [e, h.nE] at k
    injection k with k
    injection k with _ k _
    exact absurd k (by decide)
  · have k := h.nA
    rw [e, h.nE] at k
    injection k with k
    injection k with _ k _
    exact absurd k (by decide)
  · have k := h.bk.box
    rw [e, h.nA] at k
    injection k with k
    injection k with _ k _
    exact absurd k (by decide)
/-- what is read on the way -/
theorem JS.reads (h : JS w W B p A E wv M C x e sl full en cl n) {wq : World} (hc : Ch (fun y => wv.ownBlock = some y) W wq) :
    wq.cell? ⟨p, 0, none⟩ = some wv ∧ wq.cell? ⟨p, 2, none⟩ = some (.map (some M)) ∧ wq.cell? ⟨A, 0, none⟩ = some (.int .i64 (x.k : Int)) ∧ wq.cell? ⟨A, 1, none⟩ = some (.int .u32 x.rs) ∧ wq.cell? ⟨A, 2, none⟩ = some (.int .u32 x.rg) ∧ wq.cell? ⟨A, 3, none⟩ = some (.int .i64 x.rd) ∧ wq.cell? ⟨A, 4, none⟩ = some (.int .u32 x.ws) ∧ wq.cell? ⟨A, 5, none⟩ = some (.int .u32 x.wg) ∧ wq.cell? ⟨E, 0, none⟩ = some (.int .u32 e.1) ∧ wq.cell? ⟨E, 1, none⟩ = some (.int .u32 e.2) := by
  obtain ⟨a1, a2, a3, _⟩ := h.apart
  have k1 := Lib.cell_of_heap (hc.box h.bk.box a1)
  have k2 := Lib.cell_of_heap (hc.box h.nA a2)
  have k3 := Lib.cell_of_heap (hc.box h.nE a3)
  simp [k1, k2, k3]
theorem JS.readsM (h : JS w W B p A E wv M C x e sl full en cl n) {wq : World} (hc : Ch (fun y => y = M) W wq) :
    wq.cell? ⟨p, 0, none⟩ = some wv ∧ wq.cell? ⟨p, 2, none⟩ = some (.map (some M)) ∧ wq.cell? ⟨A, 0, none⟩ = some (.int .i64 (x.k : Int)) ∧ wq.cell? ⟨A, 1, none⟩ = some (.int .u32 x.rs) ∧ wq.cell? ⟨A, 2, none⟩ = some (.int .u32 x.rg) ∧ wq.cell? ⟨A, 3, none⟩ = some (.int .i64 x.rd) ∧ wq.cell? ⟨A, 4, none⟩ = some (.int .u32 x.ws) ∧ wq.cell? ⟨A, 5, none⟩ = some (.int .u32 x.wg) ∧ wq.cell? ⟨E, 0, none⟩ = some (.int .u32 e.1) ∧ wq.cell? ⟨E, 1, none⟩ = some (.int .u32 e.2) := by
  obtain ⟨a1, a2, a3, a4, a5, a6, a7, a8, _⟩ := h.apart
  have k1 := Lib.cell_of_heap (hc.box h.bk.box h.bk.apart.1)
  have k2 := Lib.cell_of_heap (hc.box h.nA a7)
  have k3 := Lib.cell_of_heap (hc.box h.nE a8)
  simp [k1, k2, k3]
/-- a slot's cell is written over -/
theorem JS.set {g c i j : Nat} (h : JS w W B p A E (.slice (some ⟨g, 0, none⟩) sl.length c) M C x e sl full en cl n) (hi : i < sl.length) (hj : j < 18) {u : Value} (f : Sl → Sl) (hf : ∀ x, slF (f x) = (slF x).set j u) {o : Nat} (ho : o = i * 18 + j) :
    JS w (W.setCell ⟨g, o, none⟩ u) B p A E (.slice (some ⟨g, 0, none⟩) sl.length c) M C x e (modS sl ((i : Int) + 1) f) full en cl n := by
  obtain ⟨a1, a2, a3, _⟩ := h.apart
  have hc : Ch (fun y => y = g) W (W.setCell ⟨g, o, none⟩ u) := Ch.set (Q := fun y => y = g) W rfl _ _
  exact ⟨h.bk.set hi hj f hf ho, hc.box h.nA (fun e => a2 (by rw [e]; rfl)), hc.box h.nE (fun e => a3 (by rw [e]; rfl)), h.lo, h.ch.trans hc (fun x _ e => Or.inr (by rw [e]; rfl))⟩
/-- .. and another -/
theorem JS.setB2 {sl0 : List Sl} {f0 : Sl → Sl} {g c i j : Nat} (h : JS w W B p A E (.slice (some ⟨g, 0, none⟩) sl0.length c) M C x e (modS sl0 ((i : Int) + 1) f0) full en cl n) (hi : i < sl0.length) (hj : j < 18) {u : Value} (f : Sl → Sl) (hf : ∀ x, slF (f x) = (slF x).set j u) {o : Nat} (ho : o = i * 18 + j) :
    JS w (W.setCell ⟨g, o, none⟩ u) B p A E (.slice (some ⟨g, 0, none⟩) sl0.length c) M C x e (modS (modS sl0 ((i : Int) + 1) f0) ((i : Int) + 1) f) full en cl n := by
  have e1 : (modS sl0 ((i : Int) + 1) f0).length = sl0.length := modS_len ..
  rw [← e1] at h ⊢
  exact JS.set h (by rw [e1]; exact hi) hj f hf ho
/-- the ends' box is written over -/
theorem JS.setE {i : Nat} {u : Int} {e' : Int × Int} (h : JS w W B p A E wv M C x e sl full en cl n) (he : (W.setCell ⟨E, i, none⟩ (.int .u32 u)).heap[E]? = some (.cells #[.int .u32 e'.1, .int .u32 e'.2] 119 (0, 0))) : JS w (W.setCell ⟨E, i, none⟩ (.int .u32 u)) B p A E wv M C x e' sl full en cl n := by
  obtain ⟨a1, a2, a3, a4, a5, a6, a7, a8, a9, a10, a11⟩ := h.apart
  have hc : Ch (fun y => y = E) W (W.setCell ⟨E, i, none⟩ (.int .u32 u)) := Ch.set (Q := fun y => y = E) W rfl _ _
  refine ⟨h.bk.ch hc ?_, hc.box h.nA a5, he, h.lo, h.ch.set_new h.lo.2 _ _⟩
  rintro y (rfl | rfl | rfl | hy) e
  · exact a4 e
  · exact a8 e.symm
  · exact a11 e.symm
  · subst e; exact a3 hy
theorem JS.map {en' : Ln → Option (Int × Int)} {k : Nat} (h : JS w W B p A E wv M C x e sl full en cl n) (hm : MapF lnV W' M (fun x => (en' x).map enV) k) (hc : Ch (fun y => y = M) W W') : JS w W' B p A E wv M C x e sl full en' cl n := by
  obtain ⟨a1, a2, a3, a4, a5, a6, a7, a8, a9, a10, a11⟩ := h.apart
  refine ⟨⟨hc.box h.bk.box h.bk.apart.1, h.bk.row.ch hc (fun g hg e => a6 (e ▸ hg)), ⟨k, hm⟩, h.bk.cm.ch hc h.bk.ne.symm, h.bk.lo, h.bk.ne⟩, hc.box h.nA a7, hc.box h.nE a8, h.lo, h.ch.trans hc (fun _ _ e => Or.inl e)⟩
end

/-- a store into the map of lines, one taken out of it, as a step of a region that draws -/
theorem step_putL {ops : Array Oper} {o : Oper} {a : Act} {w : World} {M : Nat} {en : Ln → Option (Int × Int)} {x : Ln} {e : Int × Int} {K : Act → World → Prop} {Q : Exit → Act → World → Prop} {Z : Prop} (hg : o.guard = none) (m y u : Operand) (hop : o.op = Op.mapUpdate 74 m y u)
    (hm : a.eval m = .map (some M)) (hM : LnMap w M en) (hy : a.eval y = lnV x) (hu : a.eval u = enV e)
    (hK : ∀ w' k, MapF lnV w' M (fun z => (updW en x (some e) z).map enV) k → Ch (fun y => y = M) w w' → K (a.put o.dst undef) w') : if Region.wanted o (yielded ops a.tmps) = true then Oper.wp Try.prog o a w K Q else Z := by
  have hw : Region.wanted o (yielded ops a.tmps) = true := by simp [Region.wanted, hg]
  rw [if_pos hw]
  obtain ⟨n, hM⟩ := hM
  obtain ⟨w', h1, h2, h3⟩ := hM.put (x := x) (ktL w) Try.underlying74 (enV e)
  unfold Oper.wp
  simp [execOp, hop, hm, hy, hu, h1, Result.andThen]
  have : (fun z => (updW en x (some e) z).map enV) = updW (fun z => (en z).map enV) x (some (enV e)) := by
    funext z
    unfold updW
    split <;> rfl
  rw [← this] at h2
  exact hK w' _ h2 h3
theorem step_delL {ops : Array Oper} {o : Oper} {a : Act} {w : World} {M : Nat} {en : Ln → Option (Int × Int)} {x : Ln} {K : Act → World → Prop} {Q : Exit → Act → World → Prop} {Z : Prop} (hg : o.guard = none) (m y : Operand) (hop : o.op = Op.call { callee := Callee.builtin Builtin.delete, args := #[m, y], argTypes := #[74, 100] })
    (hm : a.eval m = .map (some M)) (hM : LnMap w M en) (hy : a.eval y = lnV x)
    (hK : ∀ w' k, MapF lnV w' M (fun z => (updW en x none z).map enV) k → Ch (fun y => y = M) w w' → K (a.put o.dst (.tuple #[])) w') : if Region.wanted o (yielded ops a.tmps) = true then Oper.wp Try.prog o a w K Q else Z := by
  have hw : Region.wanted o (yielded ops a.tmps) = true := by simp [Region.wanted, hg]
  rw [if_pos hw]
  obtain ⟨n, hM⟩ := hM
  obtain ⟨w', h1, h2, h3⟩ := hM.del (x := x) (ty := o.type) (ktL w) Try.underlying74
  unfold Oper.wp
  simp [execOp, hop, resolve, invoke, builtin, hm, hy, h1, Result.andThen]
  have : (fun z => (updW en x none z).map enV) = updW (fun z => (en z).map enV) x none := by
    funext z
    unfold updW
    split <;> rfl
  rw [← this] at h2
  exact hK w' _ h2 h3

end Go.Proofs.Ytoabhmpakcgloaa
