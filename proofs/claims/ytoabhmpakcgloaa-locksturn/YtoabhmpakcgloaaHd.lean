/- Layer 11: how the landed book lies in memory. -/
import Derived.Test.YtoabhmpakcgloaaHc
namespace Go.Proofs.Ytoabhmpakcgloaa
open Go.RowKit

def slF (x : Sl) : List Value := .int .u32 x.g :: (rcF x.r ++ [.int .u32 x.a0, .int .u32 x.b0, .int .u32 x.a1, .int .u32 x.b1, .int .u32 x.a2, .int .u32 x.b2])
theorem slF_len (x : Sl) : (slF x).length = 18 := rfl
theorem slF_A (x : Sl) {k : Nat} (hk : k < 3) (v : Int) : slF (x.setA k v) = (slF x).set (12 + k * 2) (.int .u32 v) := k3 (p := fun k => slF (x.setA k v) = (slF x).set (12 + k * 2) (.int .u32 v)) hk rfl rfl rfl
theorem slF_B (x : Sl) {k : Nat} (hk : k < 3) (v : Int) : slF (x.setB k v) = (slF x).set (12 + k * 2 + 1) (.int .u32 v) := k3 (p := fun k => slF (x.setB k v) = (slF x).set (12 + k * 2 + 1) (.int .u32 v)) hk rfl rfl rfl
theorem slF_a (x : Sl) {k : Nat} (hk : k < 3) : (slF x)[12 + k * 2]? = some (.int .u32 (x.lk k).1) := k3 (p := fun k => (slF x)[12 + k * 2]? = some (.int .u32 (x.lk k).1)) hk rfl rfl rfl
theorem slF_b (x : Sl) {k : Nat} (hk : k < 3) : (slF x)[12 + k * 2 + 1]? = some (.int .u32 (x.lk k).2) := k3 (p := fun k => (slF x)[12 + k * 2 + 1]? = some (.int .u32 (x.lk k).2)) hk rfl rfl rfl
abbrev SlRow (w : World) (B : Nat) (v : Value) (l : List Sl) : Prop := Row slF 18 124 w B v l

/-- keys -/
def lnV (x : Ln) : Value := .agg #[.int .i64 (x.k : Int), .int .u32 x.rs, .int .u32 x.rg, .int .i64 x.rd, .int .u32 x.ws, .int .u32 x.wg]
def clV (x : Int × Int × Int) : Value := .agg #[.int .u32 x.1, .int .u32 x.2.1, .int .i64 x.2.2]
abbrev enV (e : Int × Int) : Value := .agg #[.int .u32 e.1, .int .u32 e.2]

theorem two_of {l : List Field} {a b : String × TypeId × Nat} (h : l.map (fun f => (f.name, f.type, f.offset)) = [a, b]) : ∃ f g, l = [f, g] ∧ (f.name, f.type, f.offset) = a ∧ (g.name, g.type, g.offset) = b := by
  match l, h with
  | [f, g], h => simp only [List.map_cons, List.map_nil, List.cons.injEq, and_true] at h; exact ⟨f, g, rfl, h.1, h.2⟩
theorem three_of {l : List Field} {a b c : String × TypeId × Nat} (h : l.map (fun f => (f.name, f.type, f.offset)) = [a, b, c]) : ∃ f g k, l = [f, g, k] ∧ (f.name, f.type, f.offset) = a ∧ (g.name, g.type, g.offset) = b ∧ (k.name, k.type, k.offset) = c := by
  match l, h with
  | [f, g, k], h => simp only [List.map_cons, List.map_nil, List.cons.injEq, and_true] at h; exact ⟨f, g, k, rfl, h.1, h.2.1, h.2.2⟩
theorem eq_two {t ta tb : TypeId} {na nb : String} {oa ob d : Nat} {xs ys : Array Value} {w : World} {xa ya xb yb : Value} {p q : Bool} (ht : Try.prog.underlying t = some (.struct (Try.prog.fieldsOf t))) (hp : Try.prog.stoodInHeld t = false) (hf : (Try.prog.fieldsOf t).toList.map (fun f => (f.name, f.type, f.offset)) = [(na, ta, oa), (nb, tb, ob)]) (ha : na ≠ "_") (hb : nb ≠ "_")
    (pa : (part ta xs oa).run Try.prog w = .ok xa w) (pa' : (part ta ys oa).run Try.prog w = .ok ya w) (pb : (part tb xs ob).run Try.prog w = .ok xb w) (pb' : (part tb ys ob).run Try.prog w = .ok yb w)
    (ea : (Op.equalIn d ta xa ya).run Try.prog w = .ok p w) (eb : (Op.equalIn d tb xb yb).run Try.prog w = .ok q w) : (Op.equalIn (d + 1) t (.agg xs) (.agg ys)).run Try.prog w = .ok (p && q) w := by
  rw [run_equalIn_struct w d t _ _ ht hp]
  obtain ⟨f, g, e, h1, h2⟩ := two_of hf
  rw [e]
  simp only [Prod.mk.injEq] at h1 h2
  simp only [Op.eqFields, h1.1, h1.2.1, h1.2.2, h2.1, h2.2.1, h2.2.2, Sem.run_bind, pa, pa', pb, pb', ea, eb, Result.andThen_ok, Sem.run_ite, Sem.run_pure, ne_eq, ha, hb, not_false_eq_true, if_true]
  cases p <;> cases q <;> simp
theorem eq_three {t ta tb tc : TypeId} {na nb nc : String} {oa ob oc d : Nat} {xs ys : Array Value} {w : World} {xa ya xb yb xc yc : Value} {p q r : Bool} (ht : Try.prog.underlying t = some (.struct (Try.prog.fieldsOf t))) (hp : Try.prog.stoodInHeld t = false) (hf : (Try.prog.fieldsOf t).toList.map (fun f => (f.name, f.type, f.offset)) = [(na, ta, oa), (nb, tb, ob), (nc, tc, oc)]) (ha : na ≠ "_") (hb : nb ≠ "_") (hc : nc ≠ "_")
    (pa : (part ta xs oa).run Try.prog w = .ok xa w) (pa' : (part ta ys oa).run Try.prog w = .ok ya w) (pb : (part tb xs ob).run Try.prog w = .ok xb w) (pb' : (part tb ys ob).run Try.prog w = .ok yb w) (pc : (part tc xs oc).run Try.prog w = .ok xc w) (pc' : (part tc ys oc).run Try.prog w = .ok yc w)
    (ea : (Op.equalIn d ta xa ya).run Try.prog w = .ok p w) (eb : (Op.equalIn d tb xb yb).run Try.prog w = .ok q w) (ec : (Op.equalIn d tc xc yc).run Try.prog w = .ok r w) : (Op.equalIn (d + 1) t (.agg xs) (.agg ys)).run Try.prog w = .ok (p && (q && r)) w := by
  rw [run_equalIn_struct w d t _ _ ht hp]
  obtain ⟨f, g, k, e, h1, h2, h3⟩ := three_of hf
  rw [e]
  simp only [Prod.mk.injEq] at h1 h2 h3
  simp only [Op.eqFields, h1.1, h1.2.1, h1.2.2, h2.1, h2.2.1, h2.2.2, h3.1, h3.2.1, h3.2.2, Sem.run_bind, pa, pa', pb, pb', pc, pc', ea, eb, ec, Result.andThen_ok, Sem.run_ite, Sem.run_pure, ne_eq, ha, hb, hc, not_false_eq_true, if_true]
  cases p <;> cases q <;> cases r <;> simp

theorem eq_hand (w : World) (d : Nat) (a b a' b' : Int) : (Op.equalIn (d + 2) 35 (hvW a b) (hvW a' b')).run Try.prog w = .ok (a == a' && b == b') w :=
  eq_two (ta := 33) (tb := 33) (na := "Slot") (nb := "Gen") (oa := 0) (ob := 1) (by kernel_rfl) (by kernel_rfl) (by kernel_rfl) (by decide) (by decide) (xa := .int .u32 a) (ya := .int .u32 a') (xb := .int .u32 b) (yb := .int .u32 b') (by kernel_rfl) (by kernel_rfl) (by kernel_rfl) (by kernel_rfl) (run_equalIn_int w d _ .u32 .u32 _ _ Try.underlying33) (run_equalIn_int w d _ .u32 .u32 _ _ Try.underlying33)
theorem eq_row (w : World) (d : Nat) (a b c a' b' c' : Int) : (Op.equalIn (d + 3) 60 (rvW a b c) (rvW a' b' c')).run Try.prog w = .ok ((a == a' && b == b') && c == c') w :=
  eq_two (ta := 35) (tb := 58) (na := "Of") (nb := "Side") (oa := 0) (ob := 2) (by kernel_rfl) (by kernel_rfl) (by kernel_rfl) (by decide) (by decide) (xa := hvW a b) (ya := hvW a' b') (xb := .int .i64 c) (yb := .int .i64 c') (by kernel_rfl) (by kernel_rfl) (by kernel_rfl) (by kernel_rfl) (eq_hand w d a b a' b') (run_equalIn_int w (d + 1) _ .i64 .i64 _ _ Try.underlying58)
set_option maxRecDepth 100000 in
theorem eq_line (w : World) (d : Nat) (x y : Ln) : (Op.equalIn (d + 4) 100 (lnV x) (lnV y)).run Try.prog w = .ok (decide (x = y)) w := by
  have h := eq_three (t := 100) (d := d + 3) (xs := #[.int .i64 (x.k : Int), .int .u32 x.rs, .int .u32 x.rg, .int .i64 x.rd, .int .u32 x.ws, .int .u32 x.wg]) (ys := #[.int .i64 (y.k : Int), .int .u32 y.rs, .int .u32 y.rg, .int .i64 y.rd, .int .u32 y.ws, .int .u32 y.wg]) (w := w) (ta := 3) (tb := 60) (tc := 35) (na := "kind") (nb := "row") (nc := "who") (oa := 0) (ob := 1) (oc := 4) (by kernel_rfl) (by kernel_rfl) (by kernel_rfl) (by decide) (by decide) (by decide) (xa := .int .i64 (x.k : Int)) (ya := .int .i64 (y.k : Int)) (xb := rvW x.rs x.rg x.rd) (yb := rvW y.rs y.rg y.rd) (xc := hvW x.ws x.wg) (yc := hvW y.ws y.wg) (by kernel_rfl) (by kernel_rfl) (by kernel_rfl) (by kernel_rfl) (by kernel_rfl) (by kernel_rfl) (run_equalIn_int w (d + 2) _ .i64 .i64 _ _ Try.underlying3) (eq_row w d _ _ _ _ _ _) (eq_hand w (d + 1) _ _ _ _)
  rw [lnV, lnV, h]
  congr 1
  rw [Bool.eq_iff_iff]
  obtain ⟨k, a, b, c, d, e⟩ := x
  obtain ⟨k', a', b', c', d', e'⟩ := y
  simp [and_assoc, Int.ofNat_inj]
set_option maxRecDepth 100000 in
theorem eq_claim (w : World) (d : Nat) (x y : Int × Int × Int) : (Op.equalIn (d + 3) 130 (clV x) (clV y)).run Try.prog w = .ok (decide (x = y)) w := by
  have h := eq_two (t := 130) (d := d + 2) (xs := #[.int .u32 x.1, .int .u32 x.2.1, .int .i64 x.2.2]) (ys := #[.int .u32 y.1, .int .u32 y.2.1, .int .i64 y.2.2]) (w := w) (ta := 35) (tb := 3) (na := "who") (nb := "arm") (oa := 0) (ob := 2) (by kernel_rfl) (by kernel_rfl) (by kernel_rfl) (by decide) (by decide) (xa := hvW x.1 x.2.1) (ya := hvW y.1 y.2.1) (xb := .int .i64 x.2.2) (yb := .int .i64 y.2.2) (by kernel_rfl) (by kernel_rfl) (by kernel_rfl) (by kernel_rfl) (eq_hand w d _ _ _ _) (run_equalIn_int w (d + 1) _ .i64 .i64 _ _ Try.underlying3)
  rw [clV, clV, h]
  congr 1
  rw [Bool.eq_iff_iff]
  obtain ⟨a, b, c⟩ := x
  obtain ⟨a', b', c'⟩ := y
  simp [and_assoc]

theorem ktL (w : World) : KT 100 lnV w :=
  ⟨fun x y _ _ => eq_line w 9996 x y, fun em x => by unfold lnV; kernel_rfl, fun x es => run_findKey_eq w (by kernel_rfl) _ _, fun x => by simp [lnV, Instr.sameBits]⟩
theorem ktC (w : World) : KT 130 clV w :=
  ⟨fun x y _ _ => eq_claim w 9997 x y, fun em x => by unfold clV; kernel_rfl, fun x es => run_findKey_eq w (by kernel_rfl) _ _, fun x => by simp [clV, Instr.sameBits]⟩

/-- the maps of a book -/
abbrev LnMap (w : World) (M : Nat) (en : Ln → Option (Int × Int)) : Prop := ∃ n, MapF lnV w M (fun x => (en x).map enV) n
abbrev ClMap (w : World) (C : Nat) (cl : Int × Int × Int → Option Int) (n : Nat) : Prop := MapF clV w C (fun x => (cl x).map (fun s => .int .u32 s)) n

/-- the landed book lies in block p -/
structure Bk (w : World) (B p : Nat) (wv : Value) (M C : Nat) (sl : List Sl) (full : Int) (en : Ln → Option (Int × Int)) (cl : Int × Int × Int → Option Int) (n : Nat) : Prop where
  box : w.heap[p]? = some (.cells #[wv, .int .u32 full, .map (some M), .map (some C)] 78 (0, 0))
  row : SlRow w B wv sl
  mp : LnMap w M en
  cm : ClMap w C cl n
  lo : B ≤ p ∧ B ≤ M ∧ B ≤ C
  ne : M ≠ C

section
variable {w w' : World} {B p M C n : Nat} {wv : Value} {sl : List Sl} {full : Int} {en : Ln → Option (Int × Int)} {cl : Int × Int × Int → Option Int}
theorem Bk.lt (h : Bk w B p wv M C sl full en cl n) : p < w.heap.size := (Array.getElem?_eq_some_iff.1 h.box).1
theorem Bk.ltM (h : Bk w B p wv M C sl full en cl n) : M < w.heap.size := by obtain ⟨_, h⟩ := h.mp; exact h.lt
theorem MapF.ne_cells {κ : Type} [DecidableEq κ] {key : κ → Value} {f : κ → Option Value} {b : Nat} {cs : Array Value} {T : TypeId} {r : Nat × Nat} (h : MapF key w M f n) (hb : w.heap[b]? = some (.cells cs T r)) : b ≠ M := fun e => by
  obtain ⟨l, h1, _⟩ := h.is
  obtain ⟨es, c, h1, _⟩ := h1.is
  rw [← e, hb] at h1
  cases h1
theorem Bk.apart (h : Bk w B p wv M C sl full en cl n) : p ≠ M ∧ p ≠ C ∧ M ≠ C ∧ (∀ g, wv.ownBlock = some g → g ≠ p ∧ g ≠ M ∧ g ≠ C) := by
  obtain ⟨_, hm⟩ := h.mp
  refine ⟨hm.ne_cells h.box, h.cm.ne_cells h.box, h.ne, fun g hg => ?_⟩
  obtain ⟨_, _, cur, hc⟩ := own_in h.row hg
  refine ⟨fun e => own_box h.row h.box (by decide) (e ▸ hg), hm.ne_cells hc, h.cm.ne_cells hc⟩
theorem Bk.cells (h : Bk w B p wv M C sl full en cl n) : w.cell? ⟨p, 0, none⟩ = some wv ∧ w.cell? ⟨p, 1, none⟩ = some (.int .u32 full) ∧ w.cell? ⟨p, 2, none⟩ = some (.map (some M)) ∧ w.cell? ⟨p, 3, none⟩ = some (.map (some C)) := by simp [Lib.cell_of_heap h.box]
/-- the blocks of a book -/
def bkF (p M C : Nat) (wv : Value) (y : Nat) : Prop := y = p ∨ y = M ∨ y = C ∨ wv.ownBlock = some y
theorem Bk.ch {Q : Nat → Prop} (h : Bk w B p wv M C sl full en cl n) (hc : Ch Q w w') (hq : ∀ y, bkF p M C wv y → ¬ Q y) : Bk w' B p wv M C sl full en cl n := by
  obtain ⟨k, hm⟩ := h.mp
  exact ⟨hc.box h.box (hq p (Or.inl rfl)), h.row.ch hc (fun g hg => hq g (Or.inr (Or.inr (Or.inr hg)))), ⟨k, hm.ch hc (hq M (Or.inr (Or.inl rfl)))⟩, h.cm.ch hc (hq C (Or.inr (Or.inr (Or.inl rfl)))), h.lo, h.ne⟩
theorem Bk.below (h : Bk w B p wv M C sl full en cl n) (hb : Below w.heap.size w w') : Bk w' B p wv M C sl full en cl n := h.ch (Ch.of_below (Q := fun _ => False) hb) (fun _ _ h => h)
theorem Bk.foot (h : Bk w B p wv M C sl full en cl n) (y : Nat) (hy : bkF p M C wv y) : B ≤ y ∧ y < w.heap.size := by
  rcases hy with rfl | rfl | rfl | hy
  · exact ⟨h.lo.1, h.lt⟩
  · exact ⟨h.lo.2.1, h.ltM⟩
  · exact ⟨h.lo.2.2, h.cm.lt⟩
  · have := own_in h.row hy
    exact ⟨this.1, this.2.1⟩
/-- a slot's cells -/
theorem Bk.at (h : Bk w B p wv M C sl full en cl n) (h0 : 0 < sl.length) : ∃ g c cur, wv = .slice (some ⟨g, 0, none⟩) sl.length c ∧ sl.length ≤ c ∧ B ≤ g ∧ g < w.heap.size ∧ w.heap[g]? = some (.cells cur 124 (0, 0)) ∧ cur.size = c * 18 ∧
    ∀ i (hi : i < sl.length) j u, (slF sl[i])[j]? = some u → w.cell? ⟨g, i * 18 + j, none⟩ = some u := h.row.at slF_len h0
end

end Go.Proofs.Ytoabhmpakcgloaa
