/- Layer 11: the landed book: at, linesOf. -/
import Derived.Test.YtoabhmpakcgloaaHd
import Derived.Test.YtoabhmpakcgloaaTk
namespace Go.Proofs.Ytoabhmpakcgloaa
open Go.RowKit

theorem genK {K : Act → World → Prop} {a : Act} {w : World} {R : World → Prop} (h : R w) (k : ∀ W, R W → K a W) : K a w := k w h
theorem wp_gen {P : Program} {c : Code} {Q : Exit → Act → World → Prop} {a : Act} {R : World → Prop} {w : World} (h : R w) (k : ∀ W, R W → c.wp P Q a W) : c.wp P Q a w := k w h

theorem wp_anyH {P : Program} {c : Code} {R : Exit → Act → World → Prop} {a : Act} {w : World} (h : c.wp P (Exit.then (fun a w => R .normal a w) (fun _ _ _ => False)) a w) : c.wp P R a w :=
  Code.wp_mono (fun e a w h => by cases e <;> first | exact h | exact (h : False).elim) h

/-- a region that draws, from a world of which R holds -/
theorem wp_reg {P : Program} {ops : Array Oper} {Q : Exit → Act → World → Prop} (Qf : Nat → Prop) {id : Nat} {a : Act} {w : World} {R : World → Prop} (hm : P.follows .mixedOrders = true) (hR : R w.drew) (h : ∀ V, R V → Ch Qf V V → wpAnyH P .any ops Q (Ch Qf V) ops.size (Array.replicate ops.size false) a V) : (Code.region id ops true).wp P Q a w :=
  wp_region_held hm (h _ hR (Ch.refl _ _))

theorem at_is {w : World} {p g n c i : Nat} (h0 : w.cell? ⟨p, 0, none⟩ = some (.slice (some ⟨g, 0, none⟩) n c)) (hi : i < n) (hn : n ≤ 100001) :
    Calls Try.prog 44 #[.pointer (some ⟨p, 0, none⟩), .int .u32 ((i : Int) + 1)] w fun e w' => e = .returned (.pointer (some ⟨g, i * 18, none⟩)) ∧ w = w' := by
  have e1 : IntKind.u32.wrap ((i : Int) + 1 - 1) = (i : Int) := by rw [IntKind.wrap_u32]; omega
  go_enter Try.func44, Try.ntmps44
  go_wp2
  go_ret
  exact ⟨rfl, rfl⟩

/-- what is read of the book and of a line's box -/
theorem ln_reads {Q : Nat → Prop} {w wq : World} {p A : Nat} {a b c d : Value} {x : Ln} (hp : w.heap[p]? = some (.cells #[a, b, c, d] 78 (0, 0))) (hA : w.heap[A]? = some (.cells #[.int .i64 (x.k : Int), .int .u32 x.rs, .int .u32 x.rg, .int .i64 x.rd, .int .u32 x.ws, .int .u32 x.wg] 100 (0, 0))) (hc : Ch Q w wq) (h1 : ¬ Q p) (h2 : ¬ Q A) :
    wq.cell? ⟨p, 0, none⟩ = some a ∧ wq.cell? ⟨p, 2, none⟩ = some c ∧ wq.cell? ⟨A, 0, none⟩ = some (.int .i64 (x.k : Int)) ∧ wq.cell? ⟨A, 1, none⟩ = some (.int .u32 x.rs) ∧ wq.cell? ⟨A, 2, none⟩ = some (.int .u32 x.rg) ∧ wq.cell? ⟨A, 3, none⟩ = some (.int .i64 x.rd) ∧ wq.cell? ⟨A, 4, none⟩ = some (.int .u32 x.ws) ∧ wq.cell? ⟨A, 5, none⟩ = some (.int .u32 x.wg) := by
  have k1 := Lib.cell_of_heap (hc.box hp h1)
  have k2 := Lib.cell_of_heap (hc.box hA h2)
  simp [k1, k2]
theorem zeroEn (w : World) : (zeroValue 119).run Try.prog w = .ok (enV (0, 0)) w := by kernel_rfl
theorem zeroU (w : World) : (zeroValue 33).run Try.prog w = .ok (.int .u32 0) w := by kernel_rfl
theorem en_getD (o : Option (Int × Int)) : (o.map enV).getD (enV (0, 0)) = enV (e0 o) := by cases o <;> rfl
theorem val_lookL {o : Oper} {a : Act} {w : World} {M : Nat} {en : Ln → Option (Int × Int)} {x : Ln} (m y : Operand) (hop : o.op = Op.lookup 74 m y false) (hm : a.eval m = .map (some M)) (hy : a.eval y = lnV x) (h : LnMap w M en) : (execOp a.eval o).run Try.prog w = .ok (.value (enV (e0 (en x)))) w := by
  obtain ⟨n, h⟩ := h
  have hrun := h.look (x := x) (ktL w) Try.underlying74 (zeroEn w)
  rw [en_getD] at hrun
  simp [execOp, hop, hm, hy, hrun, Result.andThen]

theorem frz {w : World} {b : Nat} {cs : Array Value} {T : TypeId} (h : w.heap[b]? = some (.cells cs T (0, 0))) (o : Nat) : w.frozen? ⟨b, o, none⟩ = false := by simp [World.frozen?, h]
theorem set2 {w : World} {b : Nat} {T : TypeId} {a c u v : Value} (h : w.heap[b]? = some (.cells #[a, c] T (0, 0))) : ((w.setCell ⟨b, 0, none⟩ u).setCell ⟨b, 1, none⟩ v).heap[b]? = some (.cells #[u, v] T (0, 0)) := heap_set (heap_set h 0 u) 1 v
theorem set2a {w : World} {b : Nat} {T : TypeId} {a c u : Value} (h : w.heap[b]? = some (.cells #[a, c] T (0, 0))) : (w.setCell ⟨b, 0, none⟩ u).heap[b]? = some (.cells #[u, c] T (0, 0)) := heap_set h 0 u
theorem set2b {w : World} {b : Nat} {T : TypeId} {a c u : Value} (h : w.heap[b]? = some (.cells #[a, c] T (0, 0))) : (w.setCell ⟨b, 1, none⟩ u).heap[b]? = some (.cells #[a, u] T (0, 0)) := heap_set h 1 u
/-- a block that is none of those before -/
theorem Ch.set_new {Q : Nat → Prop} {w w' : World} (h : Ch Q w w') {b : Nat} (hb : w.heap.size ≤ b) (i : Nat) (v : Value) : Ch Q w (w'.setCell ⟨b, i, none⟩ v) := h.trans (Ch.set (Q := fun y => y = b) w' rfl i v) (fun x hx e => by omega)

/-- a slot's cell is written over -/
theorem Bk.set {w : World} {B p M C n g c i j : Nat} {sl : List Sl} {full : Int} {en : Ln → Option (Int × Int)} {cl : Int × Int × Int → Option Int} (h : Bk w B p (.slice (some ⟨g, 0, none⟩) sl.length c) M C sl full en cl n) (hi : i < sl.length) (hj : j < 18) {u : Value} (f : Sl → Sl) (hf : ∀ x, slF (f x) = (slF x).set j u) {o : Nat} (ho : o = i * 18 + j) :
    Bk (w.setCell ⟨g, o, none⟩ u) B p (.slice (some ⟨g, 0, none⟩) sl.length c) M C (modS sl ((i : Int) + 1) f) full en cl n := by
  subst ho
  have hr := Row.set h.row slF_len hi hj (f sl[i]) (hf sl[i])
  obtain ⟨a1, a2, a3, a4⟩ := h.apart
  obtain ⟨b1, b2, b3⟩ := a4 g rfl
  obtain ⟨k, hm⟩ := h.mp
  have hc : Ch (fun y => y = g) w (w.setCell ⟨g, i * 18 + j, none⟩ u) := Ch.set (Q := fun y => y = g) w rfl _ _
  have e : modS sl ((i : Int) + 1) f = sl.set i (f sl[i]) := by
    unfold modS
    rw [show ((i : Int) + 1 - 1).toNat = i by omega]
    exact ChangeMaps.modify_eq_set _ _ _ _ (List.getElem?_eq_getElem hi)
  refine ⟨hc.box h.box (fun e => b1 e.symm), ?_, ⟨k, hm.ch hc (fun e => b2 e.symm)⟩, h.cm.ch hc (fun e => b3 e.symm), h.lo, h.ne⟩
  rw [e]
  exact hr
/-- the cell is there -/
theorem Bk.cell {w : World} {B p M C n g c i j : Nat} {sl : List Sl} {full : Int} {en : Ln → Option (Int × Int)} {cl : Int × Int × Int → Option Int} (h : Bk w B p (.slice (some ⟨g, 0, none⟩) sl.length c) M C sl full en cl n) (hi : i < sl.length) {u : Value} (hu : (slF sl[i])[j]? = some u) {o : Nat} (ho : o = i * 18 + j) : w.cell? ⟨g, o, none⟩ = some u ∧ w.frozen? ⟨g, o, none⟩ = false := by
  subst ho
  obtain ⟨g', c', cur, e, h1, h2, h3, h4, h5, h6⟩ := h.at (by omega)
  cases e
  exact ⟨h6 i hi j u hu, frz h4 _⟩

end Go.Proofs.Ytoabhmpakcgloaa
