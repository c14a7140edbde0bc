/- Layer 11: WaitqNil, walked. -/
import Derived.Test.YthnnpipekeanoaaNl
namespace Go.Proofs.Ythnnpipekeanoaa
open Go.RowKit

set_option maxRecDepth 100000 in
set_option maxHeartbeats 16000000 in
theorem nil_is (w : World) (rs rg rd ws wg ar : Int) : Calls Try.prog 5 #[rvW rs rg rd, hvW ws wg, .int .i64 ar] w fun e w' => e = .returned (.bool true) ∧ Below w.heap.size w w' := by
  obtain ⟨W1, hW1⟩ : ∃ x, (w.alloc (.cells #[.int .u32 rs, .int .u32 rg, .int .i64 rd] 44)).alloc (.cells #[.int .u32 ws, .int .u32 wg] 41) = x := ⟨_, rfl⟩
  have nR := hide (show W1.heap[w.heap.size]? = some (.cells #[.int .u32 rs, .int .u32 rg, .int .i64 rd] 44 (0, 0)) by rw [← hW1]; exact (Ch.alloc (Q := fun _ => False) _ _).box (heap_new _ _) (fun h => h))
  have nW := hide (show W1.heap[w.heap.size + 1]? = some (.cells #[.int .u32 ws, .int .u32 wg] 41 (0, 0)) by
    rw [← hW1]
    have := heap_new (w.alloc (.cells #[.int .u32 rs, .int .u32 rg, .int .i64 rd] 44)) (.cells #[.int .u32 ws, .int .u32 wg] 41)
    rwa [World.size_alloc] at this)
  have BE := hide (show Below w.heap.size w W1 by rw [← hW1]; exact (below1 _ _).trans ((below1 _ _).mono (by simp)))
  go_enter Try.func5, Try.ntmps5
  go_wp2_with fail
  clear hW1
  refine (awake_is W1).mono ?_
  rintro e W2 ⟨rfl, hb⟩
  have hc := Ch.of_below (Q := fun _ => False) hb
  have nR := hide (hc.box nR.out (fun h => h))
  have nW := hide (hc.box nW.out (fun h => h))
  have BE := hide (BE.out.trans (hb.mono BE.out.size))
  clear hb hc
  have nr0 : W2.cell? ⟨w.heap.size, 0, none⟩ = some (.int .u32 rs) := by simp [Lib.cell_of_heap nR.out]
  have nr1 : W2.cell? ⟨w.heap.size, 1, none⟩ = some (.int .u32 rg) := by simp [Lib.cell_of_heap nR.out]
  have nr2 : W2.cell? ⟨w.heap.size, 2, none⟩ = some (.int .i64 rd) := by simp [Lib.cell_of_heap nR.out]
  have nw0 : W2.cell? ⟨w.heap.size + 1, 0, none⟩ = some (.int .u32 ws) := by simp [Lib.cell_of_heap nW.out]
  have nw1 : W2.cell? ⟨w.heap.size + 1, 1, none⟩ = some (.int .u32 wg) := by simp [Lib.cell_of_heap nW.out]
  go_wp2_with fail
  clear nr0 nr1 nr2 nw0 nw1
  refine (put_nil W2 rs rg rd ws wg ar 0 0 0).mono ?_
  rintro e W3 ⟨rfl, hb⟩
  have hc := Ch.of_below (Q := fun _ => False) hb
  have nR := hide (hc.box nR.out (fun h => h))
  have nW := hide (hc.box nW.out (fun h => h))
  have BE := hide (BE.out.trans (hb.mono BE.out.size))
  clear hb hc
  obtain ⟨W4, hW4⟩ : ∃ x, W3.alloc (.cells #[.int .u32 0, .int .u32 0] 41) = x := ⟨_, rfl⟩
  have n9 := hide (show W4.heap[W3.heap.size]? = some (.cells #[.int .u32 0, .int .u32 0] 41 (0, 0)) by rw [← hW4]; exact heap_new _ _)
  have cA : Ch (fun _ => False) W3 W4 := by rw [← hW4]; exact Ch.alloc _ _
  have nR := hide (cA.box nR.out (fun h => h))
  have nW := hide (cA.box nW.out (fun h => h))
  have BE := hide (BE.out.trans (cA.below (N := w.heap.size) BE.out.size (fun _ _ h => h)))
  have HW4 := hide hW4
  clear cA hW4
  have nw0 : (W3.alloc (.cells #[.int .u32 0, .int .u32 0] 41)).cell? ⟨w.heap.size + 1, 0, none⟩ = some (.int .u32 ws) := by rw [HW4.out]; simp [Lib.cell_of_heap nW.out]
  have nw1 : (W3.alloc (.cells #[.int .u32 0, .int .u32 0] 41)).cell? ⟨w.heap.size + 1, 1, none⟩ = some (.int .u32 wg) := by rw [HW4.out]; simp [Lib.cell_of_heap nW.out]
  go_wp2_with fail
  rw [HW4.out]
  clear nw0 nw1
  refine (get_nil W4 ws wg).mono ?_
  rintro e W5 ⟨rfl, hb⟩
  have hc := Ch.of_below (Q := fun _ => False) hb
  have nR := hide (hc.box nR.out (fun h => h))
  have nW := hide (hc.box nW.out (fun h => h))
  have n9 := hide (hc.box n9.out (fun h => h))
  have BE := hide (BE.out.trans (hb.mono BE.out.size))
  clear hb hc
  unfold zRc
  obtain ⟨W6, hW6⟩ : ∃ x, W5.alloc (.cells #[.int .u32 0, .int .u32 0, .int .u32 0, .int .u32 0, .int .u32 0, .int .u32 0, .int .i64 0, .int .i64 0, .int .i64 0, .int .u32 0, .int .u32 0] 57) = x := ⟨_, rfl⟩
  have n11 := hide (show W6.heap[W5.heap.size]? = some (.cells #[.int .u32 0, .int .u32 0, .int .u32 0, .int .u32 0, .int .u32 0, .int .u32 0, .int .i64 0, .int .i64 0, .int .i64 0, .int .u32 0, .int .u32 0] 57 (0, 0)) by rw [← hW6]; exact heap_new _ _)
  have cA : Ch (fun _ => False) W5 W6 := by rw [← hW6]; exact Ch.alloc _ _
  have nR := hide (cA.box nR.out (fun h => h))
  have nW := hide (cA.box nW.out (fun h => h))
  have n9 := hide (cA.box n9.out (fun h => h))
  have BE := hide (BE.out.trans (cA.below (N := w.heap.size) BE.out.size (fun _ _ h => h)))
  have HW6 := hide hW6
  clear cA hW6
  have nr0 : (W5.alloc (.cells #[.int .u32 0, .int .u32 0, .int .u32 0, .int .u32 0, .int .u32 0, .int .u32 0, .int .i64 0, .int .i64 0, .int .i64 0, .int .u32 0, .int .u32 0] 57)).cell? ⟨w.heap.size, 0, none⟩ = some (.int .u32 rs) := by rw [HW6.out]; simp [Lib.cell_of_heap nR.out]
  have nr1 : (W5.alloc (.cells #[.int .u32 0, .int .u32 0, .int .u32 0, .int .u32 0, .int .u32 0, .int .u32 0, .int .i64 0, .int .i64 0, .int .i64 0, .int .u32 0, .int .u32 0] 57)).cell? ⟨w.heap.size, 1, none⟩ = some (.int .u32 rg) := by rw [HW6.out]; simp [Lib.cell_of_heap nR.out]
  have nr2 : (W5.alloc (.cells #[.int .u32 0, .int .u32 0, .int .u32 0, .int .u32 0, .int .u32 0, .int .u32 0, .int .i64 0, .int .i64 0, .int .i64 0, .int .u32 0, .int .u32 0] 57)).cell? ⟨w.heap.size, 2, none⟩ = some (.int .i64 rd) := by rw [HW6.out]; simp [Lib.cell_of_heap nR.out]
  go_wp2_with fail
  rw [HW6.out]
  clear nr0 nr1 nr2
  refine (first_nil W6 rs rg rd).mono ?_
  rintro e W7 ⟨rfl, hb⟩
  have hc := Ch.of_below (Q := fun _ => False) hb
  have nR := hide (hc.box nR.out (fun h => h))
  have nW := hide (hc.box nW.out (fun h => h))
  have n9 := hide (hc.box n9.out (fun h => h))
  have n11 := hide (hc.box n11.out (fun h => h))
  have BE := hide (BE.out.trans (hb.mono BE.out.size))
  clear hb hc
  unfold zRc
  obtain ⟨W8, hW8⟩ : ∃ x, W7.alloc (.cells #[.int .u32 0, .int .u32 0, .int .u32 0, .int .u32 0, .int .u32 0, .int .u32 0, .int .i64 0, .int .i64 0, .int .i64 0, .int .u32 0, .int .u32 0] 57) = x := ⟨_, rfl⟩
  have n13 := hide (show W8.heap[W7.heap.size]? = some (.cells #[.int .u32 0, .int .u32 0, .int .u32 0, .int .u32 0, .int .u32 0, .int .u32 0, .int .i64 0, .int .i64 0, .int .i64 0, .int .u32 0, .int .u32 0] 57 (0, 0)) by rw [← hW8]; exact heap_new _ _)
  have cA : Ch (fun _ => False) W7 W8 := by rw [← hW8]; exact Ch.alloc _ _
  have nR := hide (cA.box nR.out (fun h => h))
  have nW := hide (cA.box nW.out (fun h => h))
  have n9 := hide (cA.box n9.out (fun h => h))
  have n11 := hide (cA.box n11.out (fun h => h))
  have BE := hide (BE.out.trans (cA.below (N := w.heap.size) BE.out.size (fun _ _ h => h)))
  have HW8 := hide hW8
  clear cA hW8
  have nw0 : (W7.alloc (.cells #[.int .u32 0, .int .u32 0, .int .u32 0, .int .u32 0, .int .u32 0, .int .u32 0, .int .i64 0, .int .i64 0, .int .i64 0, .int .u32 0, .int .u32 0] 57)).cell? ⟨w.heap.size + 1, 0, none⟩ = some (.int .u32 ws) := by rw [HW8.out]; simp [Lib.cell_of_heap nW.out]
  have nw1 : (W7.alloc (.cells #[.int .u32 0, .int .u32 0, .int .u32 0, .int .u32 0, .int .u32 0, .int .u32 0, .int .i64 0, .int .i64 0, .int .i64 0, .int .u32 0, .int .u32 0] 57)).cell? ⟨w.heap.size + 1, 1, none⟩ = some (.int .u32 wg) := by rw [HW8.out]; simp [Lib.cell_of_heap nW.out]
  go_wp2_with fail
  rw [HW8.out]
  clear nw0 nw1
  refine (cut_nil W8 ws wg).mono ?_
  rintro e W9 ⟨rfl, hb⟩
  have hc := Ch.of_below (Q := fun _ => False) hb
  have nR := hide (hc.box nR.out (fun h => h))
  have nW := hide (hc.box nW.out (fun h => h))
  have n9 := hide (hc.box n9.out (fun h => h))
  have n11 := hide (hc.box n11.out (fun h => h))
  have n13 := hide (hc.box n13.out (fun h => h))
  have BE := hide (BE.out.trans (hb.mono BE.out.size))
  clear hb hc
  have nr0 : W9.cell? ⟨w.heap.size, 0, none⟩ = some (.int .u32 rs) := by simp [Lib.cell_of_heap nR.out]
  have nr1 : W9.cell? ⟨w.heap.size, 1, none⟩ = some (.int .u32 rg) := by simp [Lib.cell_of_heap nR.out]
  have nr2 : W9.cell? ⟨w.heap.size, 2, none⟩ = some (.int .i64 rd) := by simp [Lib.cell_of_heap nR.out]
  go_wp2_with fail
  clear nr0 nr1 nr2
  refine (row_nil W9 rs rg rd).mono ?_
  rintro e W10 ⟨rfl, hb⟩
  have hc := Ch.of_below (Q := fun _ => False) hb
  have nR := hide (hc.box nR.out (fun h => h))
  have nW := hide (hc.box nW.out (fun h => h))
  have n9 := hide (hc.box n9.out (fun h => h))
  have n11 := hide (hc.box n11.out (fun h => h))
  have n13 := hide (hc.box n13.out (fun h => h))
  have BE := hide (BE.out.trans (hb.mono BE.out.size))
  clear hb hc
  have nw0 : W10.cell? ⟨w.heap.size + 1, 0, none⟩ = some (.int .u32 ws) := by simp [Lib.cell_of_heap nW.out]
  have nw1 : W10.cell? ⟨w.heap.size + 1, 1, none⟩ = some (.int .u32 wg) := by simp [Lib.cell_of_heap nW.out]
  go_wp2_with fail
  clear nw0 nw1
  refine (of_nil W10 ws wg).mono ?_
  rintro e W11 ⟨rfl, hb⟩
  have hc := Ch.of_below (Q := fun _ => False) hb
  have nR := hide (hc.box nR.out (fun h => h))
  have nW := hide (hc.box nW.out (fun h => h))
  have n9 := hide (hc.box n9.out (fun h => h))
  have n11 := hide (hc.box n11.out (fun h => h))
  have n13 := hide (hc.box n13.out (fun h => h))
  have BE := hide (BE.out.trans (hb.mono BE.out.size))
  clear hb hc
  go_wp2_with fail
  refine (all_nil W11).mono ?_
  rintro e W12 ⟨rfl, hb⟩
  have hc := Ch.of_below (Q := fun _ => False) hb
  have nR := hide (hc.box nR.out (fun h => h))
  have nW := hide (hc.box nW.out (fun h => h))
  have n9 := hide (hc.box n9.out (fun h => h))
  have n11 := hide (hc.box n11.out (fun h => h))
  have n13 := hide (hc.box n13.out (fun h => h))
  have BE := hide (BE.out.trans (hb.mono BE.out.size))
  clear hb hc
  have nw0 : W12.cell? ⟨w.heap.size + 1, 0, none⟩ = some (.int .u32 ws) := by simp [Lib.cell_of_heap nW.out]
  have nw1 : W12.cell? ⟨w.heap.size + 1, 1, none⟩ = some (.int .u32 wg) := by simp [Lib.cell_of_heap nW.out]
  have n90 : W12.cell? ⟨W3.heap.size, 0, none⟩ = some (.int .u32 0) := by simp [Lib.cell_of_heap n9.out]
  have n91 : W12.cell? ⟨W3.heap.size, 1, none⟩ = some (.int .u32 0) := by simp [Lib.cell_of_heap n9.out]
  have n110 : W12.cell? ⟨W5.heap.size, 0, none⟩ = some (.int .u32 0) := by simp [Lib.cell_of_heap n11.out]
  have n111 : W12.cell? ⟨W5.heap.size, 1, none⟩ = some (.int .u32 0) := by simp [Lib.cell_of_heap n11.out]
  have n112 : W12.cell? ⟨W5.heap.size, 2, none⟩ = some (.int .u32 0) := by simp [Lib.cell_of_heap n11.out]
  have n113 : W12.cell? ⟨W5.heap.size, 3, none⟩ = some (.int .u32 0) := by simp [Lib.cell_of_heap n11.out]
  have n114 : W12.cell? ⟨W5.heap.size, 4, none⟩ = some (.int .u32 0) := by simp [Lib.cell_of_heap n11.out]
  have n115 : W12.cell? ⟨W5.heap.size, 5, none⟩ = some (.int .u32 0) := by simp [Lib.cell_of_heap n11.out]
  have n116 : W12.cell? ⟨W5.heap.size, 6, none⟩ = some (.int .i64 0) := by simp [Lib.cell_of_heap n11.out]
  have n117 : W12.cell? ⟨W5.heap.size, 7, none⟩ = some (.int .i64 0) := by simp [Lib.cell_of_heap n11.out]
  have n118 : W12.cell? ⟨W5.heap.size, 8, none⟩ = some (.int .i64 0) := by simp [Lib.cell_of_heap n11.out]
  have n119 : W12.cell? ⟨W5.heap.size, 9, none⟩ = some (.int .u32 0) := by simp [Lib.cell_of_heap n11.out]
  have n1110 : W12.cell? ⟨W5.heap.size, 10, none⟩ = some (.int .u32 0) := by simp [Lib.cell_of_heap n11.out]
  have n130 : W12.cell? ⟨W7.heap.size, 0, none⟩ = some (.int .u32 0) := by simp [Lib.cell_of_heap n13.out]
  have n131 : W12.cell? ⟨W7.heap.size, 1, none⟩ = some (.int .u32 0) := by simp [Lib.cell_of_heap n13.out]
  have n132 : W12.cell? ⟨W7.heap.size, 2, none⟩ = some (.int .u32 0) := by simp [Lib.cell_of_heap n13.out]
  have n133 : W12.cell? ⟨W7.heap.size, 3, none⟩ = some (.int .u32 0) := by simp [Lib.cell_of_heap n13.out]
  have n134 : W12.cell? ⟨W7.heap.size, 4, none⟩ = some (.int .u32 0) := by simp [Lib.cell_of_heap n13.out]
  have n135 : W12.cell? ⟨W7.heap.size, 5, none⟩ = some (.int .u32 0) := by simp [Lib.cell_of_heap n13.out]
  have n136 : W12.cell? ⟨W7.heap.size, 6, none⟩ = some (.int .i64 0) := by simp [Lib.cell_of_heap n13.out]
  have n137 : W12.cell? ⟨W7.heap.size, 7, none⟩ = some (.int .i64 0) := by simp [Lib.cell_of_heap n13.out]
  have n138 : W12.cell? ⟨W7.heap.size, 8, none⟩ = some (.int .i64 0) := by simp [Lib.cell_of_heap n13.out]
  have n139 : W12.cell? ⟨W7.heap.size, 9, none⟩ = some (.int .u32 0) := by simp [Lib.cell_of_heap n13.out]
  have n1310 : W12.cell? ⟨W7.heap.size, 10, none⟩ = some (.int .u32 0) := by simp [Lib.cell_of_heap n13.out]
  go_wp2_with fail
  clear nw0 nw1 n90 n91 n110 n111 n112 n113 n114 n115 n116 n117 n118 n119 n1110 n130 n131 n132 n133 n134 n135 n136 n137 n138 n139 n1310
  refine (leave_nil W12 ws wg).mono ?_
  rintro e W13 ⟨rfl, hb⟩
  have hc := Ch.of_below (Q := fun _ => False) hb
  have nR := hide (hc.box nR.out (fun h => h))
  have nW := hide (hc.box nW.out (fun h => h))
  have n9 := hide (hc.box n9.out (fun h => h))
  have n11 := hide (hc.box n11.out (fun h => h))
  have n13 := hide (hc.box n13.out (fun h => h))
  have BE := hide (BE.out.trans (hb.mono BE.out.size))
  clear hb hc
  go_wp2_with fail
  refine (count_nil W13).mono ?_
  rintro e W14 ⟨rfl, hb⟩
  have hc := Ch.of_below (Q := fun _ => False) hb
  have nR := hide (hc.box nR.out (fun h => h))
  have nW := hide (hc.box nW.out (fun h => h))
  have n9 := hide (hc.box n9.out (fun h => h))
  have n11 := hide (hc.box n11.out (fun h => h))
  have n13 := hide (hc.box n13.out (fun h => h))
  have BE := hide (BE.out.trans (hb.mono BE.out.size))
  clear hb hc
  go_wp2_with fail
  go_ret
  exact ⟨rfl, BE.out⟩

end Go.Proofs.Ythnnpipekeanoaa
