/- Layer 11: no book. -/
import Derived.Test.YthnnpipekeanoaaAw
namespace Go.Proofs.Ythnnpipekeanoaa
open Go.RowKit

theorem know_nil (w : World) (s g : Int) : Calls Try.prog 33 #[.pointer none, hvW s g] w fun e w' => e = .returned (.int .i64 1) ∧ Below w.heap.size w w' := by
  go_enter Try.func33, Try.ntmps33
  go_wp2_with fail
  go_ret
  exact ⟨rfl, below1 _ _⟩
theorem refuse_nil (w : World) (rs rg rd ws wg ar : Int) : Calls Try.prog 35 #[.pointer none, rvW rs rg rd, hvW ws wg, .int .i64 ar] w fun e w' => e = .returned (.int .i64 1) ∧ Below w.heap.size w w' := by
  go_enter Try.func35, Try.ntmps35
  go_wp2_with fail
  go_ret
  exact ⟨rfl, (below1 _ _).trans ((below1 _ _).mono (by simp))⟩
theorem list_nil (w : World) (x : Ln) : Calls Try.prog 32 #[.pointer none, lnV x] w fun e w' => e = .returned (.slice none 0 0) ∧ Below w.heap.size w w' := by
  go_enter Try.func32, Try.ntmps32
  unfold lnV
  go_wp2_with fail
  go_ret
  exact ⟨rfl, below1 _ _⟩
theorem count_nil (w : World) : Calls Try.prog 10 #[.pointer none] w fun e w' => e = .returned (.int .i64 0) ∧ Below w.heap.size w w' := by
  go_enter Try.func10, Try.ntmps10
  go_wp2_with fail
  go_ret
  exact ⟨rfl, Below.refl _ _⟩
theorem leave_nil (w : World) (s g : Int) : Calls Try.prog 16 #[.pointer none, hvW s g] w fun e w' => e = .returned (.int .i64 0) ∧ Below w.heap.size w w' := by
  go_enter Try.func16, Try.ntmps16
  go_wp2_with fail
  go_step3
  go_wp2_with fail
  rw [Exit.noGoto_ret]
  go_ret
  exact ⟨rfl, below1 _ _⟩
theorem cut_nil (w : World) (s g : Int) : Calls Try.prog 15 #[.pointer none, hvW s g] w fun e w' => e = .returned (.int .i64 1) ∧ Below w.heap.size w w' := by
  go_enter Try.func15, Try.ntmps15
  go_wp2_with fail
  refine (know_nil _ s g).mono ?_
  rintro e W ⟨rfl, hb⟩
  have HB := hide ((below1 w _).trans (hb.mono (by simp)))
  clear hb
  go_wp2_with fail
  go_ret
  exact ⟨rfl, HB.out⟩
theorem row_nil (w : World) (s g d : Int) : Calls Try.prog 20 #[.pointer none, rvW s g d] w fun e w' => e = .returned (.slice none 0 0) ∧ Below w.heap.size w w' := by
  go_enter Try.func20, Try.ntmps20
  go_wp2_with fail
  refine (list_nil _ ⟨0, s, g, d, 0, 0⟩).mono ?_
  rintro e W ⟨rfl, hb⟩
  have HB := hide ((below1 w _).trans (hb.mono (by simp)))
  clear hb
  go_wp2_with fail
  go_ret
  exact ⟨rfl, HB.out⟩
theorem of_nil (w : World) (s g : Int) : Calls Try.prog 21 #[.pointer none, hvW s g] w fun e w' => e = .returned (.slice none 0 0) ∧ Below w.heap.size w w' := by
  go_enter Try.func21, Try.ntmps21
  go_wp2_with fail
  refine (list_nil _ ⟨1, 0, 0, 0, s, g⟩).mono ?_
  rintro e W ⟨rfl, hb⟩
  have HB := hide ((below1 w _).trans (hb.mono (by simp)))
  clear hb
  go_wp2_with fail
  go_ret
  exact ⟨rfl, HB.out⟩
theorem all_nil (w : World) : Calls Try.prog 13 #[.pointer none] w fun e w' => e = .returned (.slice none 0 0) ∧ Below w.heap.size w w' := by
  go_enter Try.func13, Try.ntmps13
  go_wp2_with fail
  refine (list_nil _ ⟨2, 0, 0, 0, 0, 0⟩).mono ?_
  rintro e W ⟨rfl, hb⟩
  have HB := hide hb
  clear hb
  go_wp2_with fail
  go_ret
  exact ⟨rfl, HB.out⟩
theorem put_nil (w : World) (rs rg rd ws wg ar vn vs vg : Int) : Calls Try.prog 17 #[.pointer none, rvW rs rg rd, hvW ws wg, .int .i64 ar, .agg #[.int .i64 vn, .int .u32 vs, .int .u32 vg]] w fun e w' => e = .returned (.tuple #[hvW 0 0, .int .i64 1]) ∧ Below w.heap.size w w' := by
  obtain ⟨w1, hw1⟩ : ∃ w1, (((w.alloc (.cells #[.int .u32 rs, .int .u32 rg, .int .i64 rd] 44)).alloc (.cells #[.int .u32 ws, .int .u32 wg] 41)).alloc (.cells #[.int .i64 vn, .int .u32 vs, .int .u32 vg] 46)).alloc (.cells #[.int .u32 0, .int .u32 0] 41) = w1 := ⟨_, rfl⟩
  have hB1 : Below w.heap.size w w1 := by rw [← hw1]; exact (((below1 _ _).trans ((below1 _ _).mono (by simp))).trans ((below1 _ _).mono (by simp; omega))).trans ((below1 _ _).mono (by simp; omega))
  have HP1 := hide (show PB4 w w1 rs rg rd ws wg vn vs vg by rw [← hw1]; exact PB4.new ..)
  obtain ⟨x0, x1, x2, x3, x4, -⟩ := HP1.out.cells
  have HB := hide hB1
  clear hB1
  go_enter Try.func17, Try.ntmps17
  go_wp2_with fail
  refine (refuse_nil w1 rs rg rd ws wg ar).mono ?_
  rintro e W2 ⟨rfl, h2⟩
  have P2 := hide (HP1.out.ch (Ch.of_below (Q := fun _ => False) h2) (fun _ h => h.elim))
  have H2 := hide (HB.out.trans (h2.mono HB.out.size))
  clear h2 hw1 x0 x1 x2 x3 x4
  have x6 := Lib.cell_of_heap P2.out.b3
  have x7 := frz P2.out.b3
  go_wp2_with fail
  have cz : Ch (fun y => y = w.heap.size + 3) W2 ((W2.setCell ⟨w.heap.size + 3, 0, none⟩ (.int .u32 0)).setCell ⟨w.heap.size + 3, 1, none⟩ (.int .u32 0)) := (Ch.set (Q := fun y => y = w.heap.size + 3) W2 rfl 0 _).trans (Ch.set (Q := fun y => y = w.heap.size + 3) _ rfl 1 _) (fun _ _ h => h)
  refine bodyPost_ret (v := .tuple #[hvW 0 0, .int .i64 1]) (resPutH _ (w.heap.size + 3) _ 0 0 1 rfl rfl (by simp [go_sem, x6]) (by simp [go_sem, x6])) rfl ⟨rfl, H2.out.trans (cz.below (N := w.heap.size) H2.out.size (fun y hy (e : y = w.heap.size + 3) => by omega))⟩

set_option maxRecDepth 100000 in
set_option maxHeartbeats 8000000 in
theorem get_nil (w : World) (s g : Int) : Calls Try.prog 19 #[.pointer none, hvW s g] w fun e w' => e = .returned (.tuple #[rcV zRc, .int .i64 1]) ∧ Below w.heap.size w w' := by
  obtain ⟨w1, hw1⟩ : ∃ w1, (w.alloc (.cells #[.int .u32 s, .int .u32 g] 41)).alloc (.cells (rcF zRc).toArray 57) = w1 := ⟨_, rfl⟩
  have hB1 : Below w.heap.size w w1 := by rw [← hw1]; exact (below1 _ _).trans ((below1 _ _).mono (by simp))
  have hn : w1.heap[w.heap.size + 1]? = some (.cells (rcF zRc).toArray 57 (0, 0)) := by
    rw [← hw1]
    have := heap_new (w.alloc (.cells #[.int .u32 s, .int .u32 g] 41)) (.cells (rcF zRc).toArray 57)
    rwa [World.size_alloc] at this
  have hh : w1.heap[w.heap.size]? = some (.cells #[.int .u32 s, .int .u32 g] 41 (0, 0)) := by
    rw [← hw1, (MapKept.heap_alloc _ _).2 _ (by simp)]
    exact heap_new _ _
  have x0 : w1.cell? ⟨w.heap.size, 0, none⟩ = some (.int .u32 s) := by simp [Lib.cell_of_heap hh]
  have x1 : w1.cell? ⟨w.heap.size, 1, none⟩ = some (.int .u32 g) := by simp [Lib.cell_of_heap hh]
  have HB := hide hB1
  have HN := hide hn
  unfold rcF zRc at hw1
  clear hB1 hn hh
  go_enter Try.func19, Try.ntmps19
  go_wp2_with fail
  refine (know_nil w1 s g).mono ?_
  rintro e W2 ⟨rfl, h2⟩
  have H2 := hide (HB.out.trans (h2.mono HB.out.size))
  have n2 := (Ch.of_below (Q := fun _ => False) h2).box HN.out (fun h => h)
  have z0 : W2.cell? ⟨w.heap.size + 1, 0, none⟩ = some (.int .u32 0) := by simp [Lib.cell_of_heap n2, rcF, zRc]
  have z1 : W2.cell? ⟨w.heap.size + 1, 1, none⟩ = some (.int .u32 0) := by simp [Lib.cell_of_heap n2, rcF, zRc]
  have z2 : W2.cell? ⟨w.heap.size + 1, 2, none⟩ = some (.int .u32 0) := by simp [Lib.cell_of_heap n2, rcF, zRc]
  have z3 : W2.cell? ⟨w.heap.size + 1, 3, none⟩ = some (.int .u32 0) := by simp [Lib.cell_of_heap n2, rcF, zRc]
  have z4 : W2.cell? ⟨w.heap.size + 1, 4, none⟩ = some (.int .u32 0) := by simp [Lib.cell_of_heap n2, rcF, zRc]
  have z5 : W2.cell? ⟨w.heap.size + 1, 5, none⟩ = some (.int .u32 0) := by simp [Lib.cell_of_heap n2, rcF, zRc]
  have z6 : W2.cell? ⟨w.heap.size + 1, 6, none⟩ = some (.int .i64 0) := by simp [Lib.cell_of_heap n2, rcF, zRc]
  have z7 : W2.cell? ⟨w.heap.size + 1, 7, none⟩ = some (.int .i64 0) := by simp [Lib.cell_of_heap n2, rcF, zRc]
  have z8 : W2.cell? ⟨w.heap.size + 1, 8, none⟩ = some (.int .i64 0) := by simp [Lib.cell_of_heap n2, rcF, zRc]
  have z9 : W2.cell? ⟨w.heap.size + 1, 9, none⟩ = some (.int .u32 0) := by simp [Lib.cell_of_heap n2, rcF, zRc]
  have z10 : W2.cell? ⟨w.heap.size + 1, 10, none⟩ = some (.int .u32 0) := by simp [Lib.cell_of_heap n2, rcF, zRc]
  have zf : ∀ j, W2.frozen? ⟨w.heap.size + 1, j, none⟩ = false := frz n2
  clear h2 n2 x0 x1 hw1
  go_wp2_with fail
  refine bodyPost_ret (v := .tuple #[rcV zRc, .int .i64 1]) (resGetH _ (w.heap.size + 1) _ zRc 1 rfl rfl ?_) rfl ⟨rfl, ?_⟩
  · intro j u hu
    match j, hu with
    | 0, hu => cases hu; simp [go_sem, z0, zRc]
    | 1, hu => cases hu; simp [go_sem, z1, zRc]
    | 2, hu => cases hu; simp [go_sem, z2, zRc]
    | 3, hu => cases hu; simp [go_sem, z3, zRc]
    | 4, hu => cases hu; simp [go_sem, z4, zRc]
    | 5, hu => cases hu; simp [go_sem, z5, zRc]
    | 6, hu => cases hu; simp [go_sem, z6, zRc]
    | 7, hu => cases hu; simp [go_sem, z7, zRc]
    | 8, hu => cases hu; simp [go_sem, z8, zRc]
    | 9, hu => cases hu; simp [go_sem, z9, zRc]
    | 10, hu => cases hu; simp [go_sem, z10, zRc]
    | _ + 11, hu => simp [rcF] at hu
  · have c : Ch (fun y => y = w.heap.size + 1) W2 _ := wrsA W2 (w.heap.size + 1) (rcF zRc)
    exact H2.out.trans (Ch.below c (N := w.heap.size) H2.out.size (fun y hy e => by omega))

set_option maxRecDepth 100000 in
set_option maxHeartbeats 8000000 in
theorem first_nil (w : World) (s g d : Int) : Calls Try.prog 22 #[.pointer none, rvW s g d] w fun e w' => e = .returned (.tuple #[rcV zRc, .bool false]) ∧ Below w.heap.size w w' := by
  obtain ⟨w1, hw1⟩ : ∃ w1, (w.alloc (.cells #[.int .u32 s, .int .u32 g, .int .i64 d] 44)).alloc (.cells (rcF zRc).toArray 57) = w1 := ⟨_, rfl⟩
  have hB1 : Below w.heap.size w w1 := by rw [← hw1]; exact (below1 _ _).trans ((below1 _ _).mono (by simp))
  have hn : w1.heap[w.heap.size + 1]? = some (.cells (rcF zRc).toArray 57 (0, 0)) := by
    rw [← hw1]
    have := heap_new (w.alloc (.cells #[.int .u32 s, .int .u32 g, .int .i64 d] 44)) (.cells (rcF zRc).toArray 57)
    rwa [World.size_alloc] at this
  have HB := hide hB1
  have z0 : w1.cell? ⟨w.heap.size + 1, 0, none⟩ = some (.int .u32 0) := by simp [Lib.cell_of_heap hn, rcF, zRc]
  have z1 : w1.cell? ⟨w.heap.size + 1, 1, none⟩ = some (.int .u32 0) := by simp [Lib.cell_of_heap hn, rcF, zRc]
  have z2 : w1.cell? ⟨w.heap.size + 1, 2, none⟩ = some (.int .u32 0) := by simp [Lib.cell_of_heap hn, rcF, zRc]
  have z3 : w1.cell? ⟨w.heap.size + 1, 3, none⟩ = some (.int .u32 0) := by simp [Lib.cell_of_heap hn, rcF, zRc]
  have z4 : w1.cell? ⟨w.heap.size + 1, 4, none⟩ = some (.int .u32 0) := by simp [Lib.cell_of_heap hn, rcF, zRc]
  have z5 : w1.cell? ⟨w.heap.size + 1, 5, none⟩ = some (.int .u32 0) := by simp [Lib.cell_of_heap hn, rcF, zRc]
  have z6 : w1.cell? ⟨w.heap.size + 1, 6, none⟩ = some (.int .i64 0) := by simp [Lib.cell_of_heap hn, rcF, zRc]
  have z7 : w1.cell? ⟨w.heap.size + 1, 7, none⟩ = some (.int .i64 0) := by simp [Lib.cell_of_heap hn, rcF, zRc]
  have z8 : w1.cell? ⟨w.heap.size + 1, 8, none⟩ = some (.int .i64 0) := by simp [Lib.cell_of_heap hn, rcF, zRc]
  have z9 : w1.cell? ⟨w.heap.size + 1, 9, none⟩ = some (.int .u32 0) := by simp [Lib.cell_of_heap hn, rcF, zRc]
  have z10 : w1.cell? ⟨w.heap.size + 1, 10, none⟩ = some (.int .u32 0) := by simp [Lib.cell_of_heap hn, rcF, zRc]
  have zf : ∀ j, w1.frozen? ⟨w.heap.size + 1, j, none⟩ = false := frz hn
  unfold rcF zRc at hw1
  clear hB1 hn
  go_enter Try.func22, Try.ntmps22
  go_wp2_with fail
  refine bodyPost_ret (v := .tuple #[rcV zRc, .bool false]) (resFirstH _ (w.heap.size + 1) _ zRc false rfl rfl ?_) rfl ⟨rfl, ?_⟩
  · intro j u hu
    match j, hu with
    | 0, hu => cases hu; simp [go_sem, z0, zRc]
    | 1, hu => cases hu; simp [go_sem, z1, zRc]
    | 2, hu => cases hu; simp [go_sem, z2, zRc]
    | 3, hu => cases hu; simp [go_sem, z3, zRc]
    | 4, hu => cases hu; simp [go_sem, z4, zRc]
    | 5, hu => cases hu; simp [go_sem, z5, zRc]
    | 6, hu => cases hu; simp [go_sem, z6, zRc]
    | 7, hu => cases hu; simp [go_sem, z7, zRc]
    | 8, hu => cases hu; simp [go_sem, z8, zRc]
    | 9, hu => cases hu; simp [go_sem, z9, zRc]
    | 10, hu => cases hu; simp [go_sem, z10, zRc]
    | _ + 11, hu => simp [rcF] at hu
  · have c : Ch (fun y => y = w.heap.size + 1) w1 _ := wrsA w1 (w.heap.size + 1) (rcF zRc)
    exact HB.out.trans (Ch.below c (N := w.heap.size) HB.out.size (fun y hy e => by omega))

end Go.Proofs.Ythnnpipekeanoaa
