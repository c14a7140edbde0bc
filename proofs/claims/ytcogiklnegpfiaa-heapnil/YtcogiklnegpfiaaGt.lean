/- Layer 13: no heap. -/
import Derived.Test.YtcogiklnegpfiaaGs
namespace Go.Proofs.Ytcogiklnegpfiaa
open Go.RowKit Go.Shelf

set_option maxHeartbeats 2000000 in
theorem make_no (w : World) (k : Int) : Calls Try.prog 16 #[.pointer none, .int .i64 k] w fun e w' => e = .returned (.tuple #[hv 0 0, .int .i64 1]) ∧ Below w.heap.size w w' := by
  have hz := heap_new w (.cells #[.int .u32 0, .int .u32 0] 43)
  go_enter Try.func16, Try.ntmps16
  go_wp2
  exact bodyPost_ret (v := .tuple #[hv 0 0, .int .i64 1]) (res_makeH _ w.heap.size _ 0 0 1 rfl rfl (by simp [Lib.cell_of_heap hz]) (by simp [Lib.cell_of_heap hz])) rfl ⟨rfl, below1 _ _⟩
theorem kind_no (w : World) (s g : Int) : Calls Try.prog 17 #[.pointer none, hv s g] w fun e w' => e = .returned (.tuple #[.int .i64 0, .int .i64 1]) ∧ Below w.heap.size w w' := by
  go_enter Try.func17, Try.ntmps17
  go_wp2
  go_ret2
  exact ⟨rfl, below1 _ _⟩
theorem is_no (w : World) (s g k : Int) : Calls Try.prog 21 #[.pointer none, hv s g, .int .i64 k] w fun e w' => e = .returned (.bool false) ∧ Below w.heap.size w w' := by
  go_enter Try.func21, Try.ntmps21
  go_wp2_with fail
  refine (kind_no _ _ _).mono ?_
  rintro e w1 ⟨rfl, hb⟩
  go_wp2
  go_ret
  exact ⟨rfl, (below1 _ _).trans (hb.mono (by simp))⟩

set_option maxRecDepth 100000 in
set_option maxHeartbeats 8000000 in
theorem nil_is (w : World) (s g k : Int) : Calls Try.prog 5 #[hv s g, .int .i64 k] w fun e w' => e = .returned (.bool true) ∧ Below w.heap.size w w' := by
  obtain ⟨w1, hw1⟩ : ∃ w1, w.alloc (.cells #[.int .u32 s, .int .u32 g] 43) = w1 := ⟨_, rfl⟩
  have hB1 : Below w.heap.size w w1 := by rw [← hw1]; exact below1 _ _
  have hn : w1.heap[w.heap.size]? = some (.cells #[.int .u32 s, .int .u32 g] 43 (0, 0)) := by rw [← hw1]; exact heap_new _ _
  go_enter Try.func5, Try.ntmps5
  go_wp2_with fail
  refine (awake_is w1).mono ?_
  rintro e w2 ⟨rfl, hb2⟩
  have B2 := hide (hB1.trans (hb2.mono hB1.size))
  have n2 := (Ch.of_below (Q := fun _ => False) hb2).box hn (fun h => h)
  clear hb2 hn hB1 hw1
  go_wp2_with fail
  refine (make_no _ _).mono ?_
  rintro e w3 ⟨rfl, hb3⟩
  have n3 := (Ch.of_below (Q := fun _ => False) hb3).box n2 (fun h => h)
  have B3 := hide (B2.out.trans (hb3.mono B2.out.size))
  have hz3 := heap_new w3 (.cells #[.int .u32 0, .int .u32 0] 43)
  have n4 := (Ch.alloc (Q := fun _ => False) w3 (.cells #[.int .u32 0, .int .u32 0] 43)).box n3 (fun h => h)
  have s0 : (w3.alloc (.cells #[.int .u32 0, .int .u32 0] 43)).cell? ⟨w.heap.size, 0, none⟩ = some (.int .u32 s) := by rw [Lib.cell_of_heap n4]; rfl
  have s1 : (w3.alloc (.cells #[.int .u32 0, .int .u32 0] 43)).cell? ⟨w.heap.size, 1, none⟩ = some (.int .u32 g) := by rw [Lib.cell_of_heap n4]; rfl
  have B4 := hide (B3.out.alloc B3.out.size (.cells #[.int .u32 0, .int .u32 0] 43))
  have N4 := hide n4
  have Z3 := hide hz3
  clear hb3 n2 n3 n4 hz3
  go_wp2_with fail
  refine (kind_no _ _ _).mono ?_
  rintro e w5 ⟨rfl, hb5⟩
  have n5 := (Ch.of_below (Q := fun _ => False) hb5).box N4.out (fun h => h)
  have z5 := (Ch.of_below (Q := fun _ => False) hb5).box Z3.out (fun h => h)
  have B5 := hide (B4.out.trans (hb5.mono B4.out.size))
  have s0 : w5.cell? ⟨w.heap.size, 0, none⟩ = some (.int .u32 s) := by rw [Lib.cell_of_heap n5]; rfl
  have s1 : w5.cell? ⟨w.heap.size, 1, none⟩ = some (.int .u32 g) := by rw [Lib.cell_of_heap n5]; rfl
  have N5 := hide n5
  have Z5 := hide z5
  clear hb5 n5 z5
  obtain ⟨w6, hw6⟩ : ∃ w6, w5.alloc (.cells #[.int .u32 s, .int .u32 g] 43) = w6 := ⟨_, rfl⟩
  have c6 : Ch (fun _ => False) w5 w6 := by rw [← hw6]; exact Ch.alloc _ _
  have n6 := c6.box N5.out (fun h => h)
  have z6 := c6.box Z5.out (fun h => h)
  have B6 := hide (show Below w.heap.size w w6 by rw [← hw6]; exact B5.out.alloc B5.out.size _)
  have t0 : w6.cell? ⟨w.heap.size, 0, none⟩ = some (.int .u32 s) := by rw [Lib.cell_of_heap n6]; rfl
  have t1 : w6.cell? ⟨w.heap.size, 1, none⟩ = some (.int .u32 g) := by rw [Lib.cell_of_heap n6]; rfl
  have t2 : w6.cell? ⟨w3.heap.size, 0, none⟩ = some (.int .u32 0) := by rw [Lib.cell_of_heap z6]; rfl
  have t3 : w6.cell? ⟨w3.heap.size, 1, none⟩ = some (.int .u32 0) := by rw [Lib.cell_of_heap z6]; rfl
  clear c6 n6 z6 N5 Z5
  go_wp2_with fail
  refine (reach_no _ _ _).mono ?_
  rintro e W ⟨rfl, rfl⟩
  go_wp2_with fail
  refine (collect_no _ _ _).mono ?_
  rintro e W ⟨rfl, rfl⟩
  go_wp2_with fail
  refine (all_no _).mono ?_
  rintro e W ⟨rfl, rfl⟩
  go_wp2_with fail
  refine (is_no _ _ _ _).mono ?_
  rintro e w7 ⟨rfl, hb7⟩
  have B7 := hide (B6.out.trans (hb7.mono B6.out.size))
  go_wp2_with fail
  refine (count_no _).mono ?_
  rintro e W ⟨rfl, rfl⟩
  go_wp2_with fail
  refine (room_no _).mono ?_
  rintro e W ⟨rfl, rfl⟩
  go_wp2
  go_ret
  exact ⟨rfl, B7.out⟩

end Go.Proofs.Ytcogiklnegpfiaa
