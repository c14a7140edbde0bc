/- Layer 11: the document's Put. -/
import Derived.Test.YthnnpipekeanoaaWi
import Derived.Test.YthnnpipekeanoaaWj
namespace Go.Proofs.Ythnnpipekeanoaa
open Go.RowKit

variable {w : World} {B b : Nat} {av ov : Value} {l : List Wt}

theorem resPutW (tm : Array Value) (A : Nat) (Z : World) (s g e : Int) (h4 : tm[10]?.getD undef = .pointer (some ⟨A, 0, none⟩)) (h5 : tm[11]?.getD undef = .int .i64 e) (c0 : Z.cell? ⟨A, 0, none⟩ = some (.int .u32 s)) (c1 : Z.cell? ⟨A, 1, none⟩ = some (.int .u32 g)) :
    (results Try.f23 tm).run Try.prog Z = .ok (.tuple #[hvW s g, .int .i64 e]) Z := by
  simp [results, Try.results23, go_sem, h4, h5, c0, c1]

set_option maxRecDepth 100000 in
set_option maxHeartbeats 4000000 in
theorem rput_who (rs rg rd ar vn vs vg : Int) {ws wg : Int} (h0 : ws = 0) (h1 : wg = 0) :
    Calls Try.prog 23 #[.pointer (some ⟨b, 0, none⟩), rvW rs rg rd, hvW ws wg, .int .i64 ar, .agg #[.int .i64 vn, .int .u32 vs, .int .u32 vg]] w fun e w' => e = .returned (.tuple #[hvW 0 0, .int .i64 111]) ∧ Below w.heap.size w w' := by
  subst h0
  subst h1
  obtain ⟨w1, hw1⟩ : ∃ w1, (((w.alloc (.cells #[.int .u32 rs, .int .u32 rg, .int .i64 rd] 44)).alloc (.cells #[.int .u32 0, .int .u32 0] 41)).alloc (.cells #[.int .i64 vn, .int .u32 vs, .int .u32 vg] 46)).alloc (.cells #[.int .u32 0, .int .u32 0] 41) = w1 := ⟨_, rfl⟩
  have c1 : Ch (fun _ => False) w w1 := by rw [← hw1]; exact (((Ch.alloc _ _).trans (Ch.alloc _ _) (fun _ _ h => h)).trans (Ch.alloc _ _) (fun _ _ h => h)).trans (Ch.alloc _ _) (fun _ _ h => h)
  have s1 : w1.heap.size = w.heap.size + 4 := by rw [← hw1]; simp
  have n0 : w1.heap[w.heap.size]? = some (.cells #[.int .u32 rs, .int .u32 rg, .int .i64 rd] 44 (0, 0)) := by
    rw [← hw1]
    exact (((Ch.alloc (Q := fun _ => False) _ _).trans (Ch.alloc _ _) (fun _ _ h => h)).trans (Ch.alloc _ _) (fun _ _ h => h)).box (heap_new w _) (fun h => h)
  have n1 : w1.heap[w.heap.size + 1]? = some (.cells #[.int .u32 0, .int .u32 0] 41 (0, 0)) := by
    rw [← hw1]
    have := heap_new (w.alloc (.cells #[.int .u32 rs, .int .u32 rg, .int .i64 rd] 44)) (.cells #[.int .u32 0, .int .u32 0] 41)
    rw [World.size_alloc] at this
    exact ((Ch.alloc (Q := fun _ => False) _ _).trans (Ch.alloc _ _) (fun _ _ h => h)).box this (fun h => h)
  have n2 : w1.heap[w.heap.size + 2]? = some (.cells #[.int .i64 vn, .int .u32 vs, .int .u32 vg] 46 (0, 0)) := by
    rw [← hw1]
    have := heap_new ((w.alloc (.cells #[.int .u32 rs, .int .u32 rg, .int .i64 rd] 44)).alloc (.cells #[.int .u32 0, .int .u32 0] 41)) (.cells #[.int .i64 vn, .int .u32 vs, .int .u32 vg] 46)
    rw [World.size_alloc, World.size_alloc] at this
    exact (Ch.alloc (Q := fun _ => False) _ _).box this (fun h => h)
  have n3 : w1.heap[w.heap.size + 3]? = some (.cells #[.int .u32 0, .int .u32 0] 41 (0, 0)) := by
    rw [← hw1]
    have := heap_new (((w.alloc (.cells #[.int .u32 rs, .int .u32 rg, .int .i64 rd] 44)).alloc (.cells #[.int .u32 0, .int .u32 0] 41)).alloc (.cells #[.int .i64 vn, .int .u32 vs, .int .u32 vg] 46)) (.cells #[.int .u32 0, .int .u32 0] 41)
    rw [World.size_alloc, World.size_alloc, World.size_alloc] at this
    exact this
  have a0 : w1.cell? ⟨w.heap.size, 0, none⟩ = some (.int .u32 rs) := by simp [Lib.cell_of_heap n0]
  have a1 : w1.cell? ⟨w.heap.size, 1, none⟩ = some (.int .u32 rg) := by simp [Lib.cell_of_heap n0]
  have a2 : w1.cell? ⟨w.heap.size, 2, none⟩ = some (.int .i64 rd) := by simp [Lib.cell_of_heap n0]
  have b0 : w1.cell? ⟨w.heap.size + 1, 0, none⟩ = some (.int .u32 0) := by simp [Lib.cell_of_heap n1]
  have b1 : w1.cell? ⟨w.heap.size + 1, 1, none⟩ = some (.int .u32 0) := by simp [Lib.cell_of_heap n1]
  have d0 : w1.cell? ⟨w.heap.size + 3, 0, none⟩ = some (.int .u32 0) := by simp [Lib.cell_of_heap n3]
  have d1 : w1.cell? ⟨w.heap.size + 3, 1, none⟩ = some (.int .u32 0) := by simp [Lib.cell_of_heap n3]
  have zf : ∀ j, w1.frozen? ⟨w.heap.size + 3, j, none⟩ = false := fun j => by simp [World.frozen?, n3]
  have HB1 := hide (c1.below (N := w.heap.size) (Nat.le_refl _) (fun _ _ h => h))
  clear n0 n1 n2 n3 c1
  go_enter Try.func23, Try.ntmps23
  go_wp2
  refine bodyPost_ret (v := .tuple #[hvW 0 0, .int .i64 111]) (resPutW _ (w.heap.size + 3) _ 0 0 111 rfl rfl ?_ ?_) rfl ⟨rfl, ?_⟩
  · simp [go_sem, d0]
  · simp [go_sem, d1]
  · exact (HB1.out.setCell (p := ⟨w.heap.size + 3, 0, none⟩) (by simp) _).setCell (p := ⟨w.heap.size + 3, 1, none⟩) (by simp) _

set_option maxRecDepth 100000 in
set_option maxHeartbeats 4000000 in
theorem rput_row (rs rg ar vn vs vg : Int) {rd ws wg : Int} (hw : ¬ (ws = 0 ∧ wg = 0)) (h1 : rd < 1 ∨ 4 < rd) :
    Calls Try.prog 23 #[.pointer (some ⟨b, 0, none⟩), rvW rs rg rd, hvW ws wg, .int .i64 ar, .agg #[.int .i64 vn, .int .u32 vs, .int .u32 vg]] w fun e w' => e = .returned (.tuple #[hvW 0 0, .int .i64 112]) ∧ Below w.heap.size w w' := by
  obtain ⟨w1, hw1⟩ : ∃ w1, (((w.alloc (.cells #[.int .u32 rs, .int .u32 rg, .int .i64 rd] 44)).alloc (.cells #[.int .u32 ws, .int .u32 wg] 41)).alloc (.cells #[.int .i64 vn, .int .u32 vs, .int .u32 vg] 46)).alloc (.cells #[.int .u32 0, .int .u32 0] 41) = w1 := ⟨_, rfl⟩
  have c1 : Ch (fun _ => False) w w1 := by rw [← hw1]; exact (((Ch.alloc _ _).trans (Ch.alloc _ _) (fun _ _ h => h)).trans (Ch.alloc _ _) (fun _ _ h => h)).trans (Ch.alloc _ _) (fun _ _ h => h)
  have s1 : w1.heap.size = w.heap.size + 4 := by rw [← hw1]; simp
  have n0 : w1.heap[w.heap.size]? = some (.cells #[.int .u32 rs, .int .u32 rg, .int .i64 rd] 44 (0, 0)) := by
    rw [← hw1]
    exact (((Ch.alloc (Q := fun _ => False) _ _).trans (Ch.alloc _ _) (fun _ _ h => h)).trans (Ch.alloc _ _) (fun _ _ h => h)).box (heap_new w _) (fun h => h)
  have n1 : w1.heap[w.heap.size + 1]? = some (.cells #[.int .u32 ws, .int .u32 wg] 41 (0, 0)) := by
    rw [← hw1]
    have := heap_new (w.alloc (.cells #[.int .u32 rs, .int .u32 rg, .int .i64 rd] 44)) (.cells #[.int .u32 ws, .int .u32 wg] 41)
    rw [World.size_alloc] at this
    exact ((Ch.alloc (Q := fun _ => False) _ _).trans (Ch.alloc _ _) (fun _ _ h => h)).box this (fun h => h)
  have n2 : w1.heap[w.heap.size + 2]? = some (.cells #[.int .i64 vn, .int .u32 vs, .int .u32 vg] 46 (0, 0)) := by
    rw [← hw1]
    have := heap_new ((w.alloc (.cells #[.int .u32 rs, .int .u32 rg, .int .i64 rd] 44)).alloc (.cells #[.int .u32 ws, .int .u32 wg] 41)) (.cells #[.int .i64 vn, .int .u32 vs, .int .u32 vg] 46)
    rw [World.size_alloc, World.size_alloc] at this
    exact (Ch.alloc (Q := fun _ => False) _ _).box this (fun h => h)
  have n3 : w1.heap[w.heap.size + 3]? = some (.cells #[.int .u32 0, .int .u32 0] 41 (0, 0)) := by
    rw [← hw1]
    have := heap_new (((w.alloc (.cells #[.int .u32 rs, .int .u32 rg, .int .i64 rd] 44)).alloc (.cells #[.int .u32 ws, .int .u32 wg] 41)).alloc (.cells #[.int .i64 vn, .int .u32 vs, .int .u32 vg] 46)) (.cells #[.int .u32 0, .int .u32 0] 41)
    rw [World.size_alloc, World.size_alloc, World.size_alloc] at this
    exact this
  have a0 : w1.cell? ⟨w.heap.size, 0, none⟩ = some (.int .u32 rs) := by simp [Lib.cell_of_heap n0]
  have a1 : w1.cell? ⟨w.heap.size, 1, none⟩ = some (.int .u32 rg) := by simp [Lib.cell_of_heap n0]
  have a2 : w1.cell? ⟨w.heap.size, 2, none⟩ = some (.int .i64 rd) := by simp [Lib.cell_of_heap n0]
  have b0 : w1.cell? ⟨w.heap.size + 1, 0, none⟩ = some (.int .u32 ws) := by simp [Lib.cell_of_heap n1]
  have b1 : w1.cell? ⟨w.heap.size + 1, 1, none⟩ = some (.int .u32 wg) := by simp [Lib.cell_of_heap n1]
  have d0 : w1.cell? ⟨w.heap.size + 3, 0, none⟩ = some (.int .u32 0) := by simp [Lib.cell_of_heap n3]
  have d1 : w1.cell? ⟨w.heap.size + 3, 1, none⟩ = some (.int .u32 0) := by simp [Lib.cell_of_heap n3]
  have zf : ∀ j, w1.frozen? ⟨w.heap.size + 3, j, none⟩ = false := fun j => by simp [World.frozen?, n3]
  have HB1 := hide (c1.below (N := w.heap.size) (Nat.le_refl _) (fun _ _ h => h))
  clear n0 n1 n2 n3 c1
  have fin : ∀ tm : Array Value, tm[10]?.getD undef = .pointer (some ⟨w.heap.size + 3, 0, none⟩) → tm[11]?.getD undef = .int .i64 112 → bodyPost Try.prog Try.f23 (fun e w' => e = .returned (.tuple #[hvW 0 0, .int .i64 112]) ∧ Below w.heap.size w w') .ret { tmps := tm, defers := [] } ((w1.setCell ⟨w.heap.size + 3, 0, none⟩ (.int .u32 0)).setCell ⟨w.heap.size + 3, 1, none⟩ (.int .u32 0)) := by
    intro tm h4 h5
    refine bodyPost_ret (v := .tuple #[hvW 0 0, .int .i64 112]) (resPutW _ (w.heap.size + 3) _ 0 0 112 h4 h5 ?_ ?_) rfl ⟨rfl, ?_⟩
    · simp [go_sem, d0]
    · simp [go_sem, d1]
    · exact (HB1.out.setCell (p := ⟨w.heap.size + 3, 0, none⟩) (by simp) _).setCell (p := ⟨w.heap.size + 3, 1, none⟩) (by simp) _
  have FIN := hide fin
  clear fin
  by_cases e1 : ws = 0
  · have e2 : ¬ wg = 0 := fun e => hw ⟨e1, e⟩
    have q1 : (ws == 0) = true := by simpa using e1
    have q2 : (wg == 0) = false := by simpa using e2
    clear e1 e2 hw
    by_cases e3 : rd < 1
    · have q3 : decide (rd < 1) = true := decide_eq_true e3
      clear e3 h1
      go_enter Try.func23, Try.ntmps23
      go_wp2
      exact FIN.out _ rfl rfl
    · have q3 : decide (rd < 1) = false := decide_eq_false e3
      have q4 : decide (4 < rd) = true := decide_eq_true (h1.resolve_left e3)
      clear e3 h1
      go_enter Try.func23, Try.ntmps23
      go_wp2
      exact FIN.out _ rfl rfl
  · have q1 : (ws == 0) = false := by simpa using e1
    clear e1 hw
    by_cases e3 : rd < 1
    · have q3 : decide (rd < 1) = true := decide_eq_true e3
      clear e3 h1
      go_enter Try.func23, Try.ntmps23
      go_wp2
      exact FIN.out _ rfl rfl
    · have q3 : decide (rd < 1) = false := decide_eq_false e3
      have q4 : decide (4 < rd) = true := decide_eq_true (h1.resolve_left e3)
      clear e3 h1
      go_enter Try.func23, Try.ntmps23
      go_wp2
      exact FIN.out _ rfl rfl

end Go.Proofs.Ythnnpipekeanoaa
