/- Layer 11: the landed book: what Put needs. -/
import Derived.Test.YtoabhmpakcgloaaHx
import Derived.Test.YtoabhmpakcgloaaHq
import Derived.Test.YtoabhmpakcgloaaHp
namespace Go.Proofs.Ytoabhmpakcgloaa
open Go.RowKit

theorem slW_spec (l : List Wt) : ∃ k : Nat, slW l = k + 1 ∧ (∀ j : Nat, j < k → usdW l ((j : Int) + 1) = true) ∧ usdW l ((k : Int) + 1) = false := by
  have key : ∀ m : Nat, (∀ j : Nat, j < m → usdW l ((j : Int) + 1) = true) ∨ ∃ k : Nat, (∀ j : Nat, j < k → usdW l ((j : Int) + 1) = true) ∧ usdW l ((k : Int) + 1) = false := by
    intro m
    induction m with
    | zero => exact Or.inl (fun j hj => by omega)
    | succ m ih =>
      rcases ih with ih | ih
      · cases hu : usdW l ((m : Int) + 1) with
        | false => exact Or.inr ⟨m, ih, hu⟩
        | true =>
          left
          intro j hj
          by_cases hjm : j = m
          · rw [hjm]; exact hu
          · exact ih j (by omega)
      · exact Or.inr ih
  rcases key (l.length + 1) with h | ⟨k, h1, h2⟩
  · have := usd_many (l.length + 1) h
    have := cntK_le l (l.length + 1)
    omega
  · exact ⟨k, slW_is h1 h2, h1, h2⟩

section
variable {l : List Wt} {sl : List Sl} {full : Int} {en : Ln → Option (Int × Int)} {cl : Int × Int × Int → Option Int} {n : Nat}
theorem BInv.least (h : BInv l sl full en cl n) {k : Nat} (h1 : ∀ j : Nat, j < k → usdW l ((j : Int) + 1) = true) (h2 : usdW l ((k : Int) + 1) = false) : full ≤ k ∧ k ≤ sl.length ∧ (∀ j (hj : j < sl.length), full ≤ j → j < k → sl[j].r.ms ≠ 0) ∧ (∀ hj : k < sl.length, sl[k].r = zRc) := by
  refine ⟨?_, ?_, fun j hj _ hjk => ?_, fun hj => h.free k hj h2⟩
  · by_cases hf : full ≤ k
    · exact hf
    · have := h.fl ((k : Int) + 1) (by omega) (by omega)
      rw [h2] at this
      cases this
  · by_cases hk : k ≤ sl.length
    · exact hk
    · obtain ⟨t, ht, _, hm⟩ := usdW_mem.1 (h1 sl.length (by omega))
      have := h.dom t ht
      omega
  · obtain ⟨t, ht, ho, hm⟩ := usdW_mem.1 (h1 j hjk)
    rw [h.live t ht ho j hj hm, hm]
    omega
theorem BInv.twice (h : BInv l sl full en cl n) (ws wg ar : Int) : (cl (ws, wg, ar)).isSome = twW l ws wg ar := by
  cases ht : twW l ws wg ar with
  | true =>
    unfold twW at ht
    rw [List.any_eq_true] at ht
    obtain ⟨t, h1, h2⟩ := ht
    unfold isWho at h2
    simp only [Bool.and_eq_true, Bool.not_eq_true', decide_eq_true_eq] at h2
    have := h.has t h1 h2.1.1
    unfold clT at this
    rw [h2.1.2.1, h2.1.2.2, h2.2] at this
    rw [this]
    rfl
  | false =>
    rw [h.not (ws, wg, ar) fun t ht' ho e => ?_]
    · rfl
    · have : twW l ws wg ar = true := by
        unfold twW
        rw [List.any_eq_true]
        unfold clT at e
        simp only [Prod.mk.injEq] at e
        exact ⟨t, ht', by simp [isWho, ho, e.1, e.2.1, e.2.2]⟩
      rw [ht] at this
      cases this
end

/-- the boxes of a Put -/
structure PB4 (w W : World) (rs rg rd ws wg vn vs vg : Int) : Prop where
  b0 : W.heap[w.heap.size]? = some (.cells #[.int .u32 rs, .int .u32 rg, .int .i64 rd] 60 (0, 0))
  b1 : W.heap[w.heap.size + 1]? = some (.cells #[.int .u32 ws, .int .u32 wg] 35 (0, 0))
  b2 : W.heap[w.heap.size + 2]? = some (.cells #[.int .i64 vn, .int .u32 vs, .int .u32 vg] 43 (0, 0))
  b3 : W.heap[w.heap.size + 3]? = some (.cells #[.int .u32 0, .int .u32 0] 35 (0, 0))
theorem PB4.ch {w W W' : World} {rs rg rd ws wg vn vs vg : Int} {Q : Nat → Prop} (h : PB4 w W rs rg rd ws wg vn vs vg) (hc : Ch Q W W') (hq : ∀ y, Q y → y < w.heap.size ∨ w.heap.size + 4 ≤ y) : PB4 w W' rs rg rd ws wg vn vs vg :=
  ⟨hc.box h.b0 (fun e => by have := hq _ e; omega), hc.box h.b1 (fun e => by have := hq _ e; omega), hc.box h.b2 (fun e => by have := hq _ e; omega), hc.box h.b3 (fun e => by have := hq _ e; omega)⟩
theorem PB4.cells {w W : World} {rs rg rd ws wg vn vs vg : Int} (h : PB4 w W rs rg rd ws wg vn vs vg) : W.cell? ⟨w.heap.size, 0, none⟩ = some (.int .u32 rs) ∧ W.cell? ⟨w.heap.size, 1, none⟩ = some (.int .u32 rg) ∧ W.cell? ⟨w.heap.size, 2, none⟩ = some (.int .i64 rd) ∧ W.cell? ⟨w.heap.size + 1, 0, none⟩ = some (.int .u32 ws) ∧ W.cell? ⟨w.heap.size + 1, 1, none⟩ = some (.int .u32 wg) ∧ W.cell? ⟨w.heap.size + 2, 0, none⟩ = some (.int .i64 vn) ∧ W.cell? ⟨w.heap.size + 2, 1, none⟩ = some (.int .u32 vs) ∧ W.cell? ⟨w.heap.size + 2, 2, none⟩ = some (.int .u32 vg) ∧ W.cell? ⟨w.heap.size + 3, 0, none⟩ = some (.int .u32 0) ∧ W.cell? ⟨w.heap.size + 3, 1, none⟩ = some (.int .u32 0) := by
  have k0 := Lib.cell_of_heap h.b0
  have k1 := Lib.cell_of_heap h.b1
  have k2 := Lib.cell_of_heap h.b2
  have k3 := Lib.cell_of_heap h.b3
  simp [k0, k1, k2, k3]
theorem PB4.new (w : World) (rs rg rd ws wg vn vs vg : Int) : PB4 w ((((w.alloc (.cells #[.int .u32 rs, .int .u32 rg, .int .i64 rd] 60)).alloc (.cells #[.int .u32 ws, .int .u32 wg] 35)).alloc (.cells #[.int .i64 vn, .int .u32 vs, .int .u32 vg] 43)).alloc (.cells #[.int .u32 0, .int .u32 0] 35)) rs rg rd ws wg vn vs vg := by
  have al : ∀ (W : World) (o : Obj) {b : Nat} {x : Obj}, W.heap[b]? = some x → (W.alloc o).heap[b]? = some x := fun W o b x h => (Ch.alloc (Q := fun _ => False) W o).box h (fun h => h)
  have nw : ∀ (W : World) (o : Obj) {b : Nat}, W.heap.size = b → (W.alloc o).heap[b]? = some o := fun W o b e => by rw [← e]; exact heap_new W o
  exact ⟨al _ _ (al _ _ (al _ _ (nw _ _ rfl))), al _ _ (al _ _ (nw _ _ (by simp))), al _ _ (nw _ _ (by simp)), nw _ _ (by simp)⟩
theorem resPutH (tm : Array Value) (A : Nat) (Z : World) (s g q : Int) (h10 : tm[10]?.getD undef = .pointer (some ⟨A, 0, none⟩)) (h11 : tm[11]?.getD undef = .int .i64 q) (c0 : Z.cell? ⟨A, 0, none⟩ = some (.int .u32 s)) (c1 : Z.cell? ⟨A, 1, none⟩ = some (.int .u32 g)) :
    (results Try.f40 tm).run Try.prog Z = .ok (.tuple #[hvW s g, .int .i64 q]) Z := by
  simp [results, Try.results40, go_sem, h10, h11, c0, c1]

end Go.Proofs.Ytoabhmpakcgloaa
