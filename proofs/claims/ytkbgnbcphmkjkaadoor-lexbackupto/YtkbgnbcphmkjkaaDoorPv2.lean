/- The program's Join: a semicolon as it is written. -/
import Derived.Test.YtkbgnbcphmkjkaaDoorPw
namespace Go.Proofs.YtkbgnbcphmkjkaaDoor
open Go.RowKit

set_option maxRecDepth 100000 in
set_option maxHeartbeats 8000000 in
theorem write_semi (X : ByteArray) (n a l : Int) (w : World) (hs : X.size ≤ 70368744177000) (_hn0 : -9223372036854775808 ≤ n) (_hn1 : n ≤ 9223372036854775807) (hV : Tab w) (k : Int) (h6 : k = 6) :
    Calls Tryd.prog 7 #[tokV k X n a l] w fun e w' => e = wEnd k X.data.toList n ∧ Below w.heap.size w w' := by
  have E := hide (show Ending.returned (.tuple #[.string ⟨#[59]⟩, .bool (decide (X.data.toList = [59]) || decide (X.data.toList = [10]))]) = wEnd k X.data.toList n by subst h6; rfl)
  have h0 : ¬ k = 0 := by omega
  have h1 : ¬ k = 1 := by omega
  have h2 : ¬ k = 2 := by omega
  have h3 : ¬ k = 3 := by omega
  have h4 : ¬ k = 4 := by omega
  have h5 : ¬ k = 5 := by omega
  have hb1 := (Below.refl w.heap.size w).alloc (Nat.le_refl _) (.cells #[.int .i64 k, .string X, .int .i64 n, .int .i64 a, .int .i64 l] 28)
  have HT1 := hide (MapKept.heap_alloc w (.cells #[.int .i64 k, .string X, .int .i64 n, .int .i64 a, .int .i64 l] 28)).1
  have HV1 := hide (hV.below hb1)
  have hz1 : (w.alloc (.cells #[.int .i64 k, .string X, .int .i64 n, .int .i64 a, .int .i64 l] 28)).heap.size = w.heap.size + 1 := World.size_alloc ..
  have HB1 := hide hb1
  clear hb1 hV
  unfold tokV
  have q0 : (k == 0) = false := beq_false_of_ne h0
  have q1 : (k == 1) = false := beq_false_of_ne h1
  have q2 : (k == 2) = false := beq_false_of_ne h2
  have q3 : (k == 3) = false := beq_false_of_ne h3
  have q4 : (k == 4) = false := beq_false_of_ne h4
  have q5 : (k == 5) = false := beq_false_of_ne h5
  have q6 : (k == 6) = true := by rw [h6]; rfl
  clear h0 h1 h2 h3 h4 h5 h6
  have hm : X.size ≤ maxLen := by unfold maxLen; omega
  have x1 := eqb X [59]
  have x2 := eqb X [10]
  by_cases y1 : X.data.toList = [59]
  · rw [decide_eq_true y1] at x1
    rw [decide_eq_true y1, Bool.true_or] at E
    clear y1 x2
    go_enter Tryd.func7, Tryd.ntmps7
    go_wp2
    generalize w.alloc (.cells #[.int .i64 k, .string X, .int .i64 n, .int .i64 a, .int .i64 l] 28) = w1 at *
    have t0 : w1.cell? ⟨w.heap.size, 0, none⟩ = some (.int .i64 k) := by simp [World.cell?, unhide HT1]
    have t1 : w1.cell? ⟨w.heap.size, 1, none⟩ = some (.string X) := by simp [World.cell?, unhide HT1]
    have t2 : w1.cell? ⟨w.heap.size, 2, none⟩ = some (.int .i64 n) := by simp [World.cell?, unhide HT1]
    go_quiet (fail)
    have HB2 := hide (below_dn (unhide HB1) nq)
    go_wp2
    go_ret2
    exact ⟨unhide E, unhide HB2⟩
  rw [decide_eq_false y1] at x1
  rw [decide_eq_false y1, Bool.false_or] at E
  by_cases y2 : X.data.toList = [10]
  · rw [decide_eq_true y2] at x2
    rw [decide_eq_true y2] at E
    clear y1 y2
    go_enter Tryd.func7, Tryd.ntmps7
    go_wp2
    generalize w.alloc (.cells #[.int .i64 k, .string X, .int .i64 n, .int .i64 a, .int .i64 l] 28) = w1 at *
    have t0 : w1.cell? ⟨w.heap.size, 0, none⟩ = some (.int .i64 k) := by simp [World.cell?, unhide HT1]
    have t1 : w1.cell? ⟨w.heap.size, 1, none⟩ = some (.string X) := by simp [World.cell?, unhide HT1]
    have t2 : w1.cell? ⟨w.heap.size, 2, none⟩ = some (.int .i64 n) := by simp [World.cell?, unhide HT1]
    go_quiet (fail)
    have HB2 := hide (below_dn (unhide HB1) nq)
    go_wp2
    go_ret2
    exact ⟨unhide E, unhide HB2⟩
  · rw [decide_eq_false y2] at x2
    rw [decide_eq_false y2] at E
    clear y1 y2
    go_enter Tryd.func7, Tryd.ntmps7
    go_wp2
    generalize w.alloc (.cells #[.int .i64 k, .string X, .int .i64 n, .int .i64 a, .int .i64 l] 28) = w1 at *
    have t0 : w1.cell? ⟨w.heap.size, 0, none⟩ = some (.int .i64 k) := by simp [World.cell?, unhide HT1]
    have t1 : w1.cell? ⟨w.heap.size, 1, none⟩ = some (.string X) := by simp [World.cell?, unhide HT1]
    have t2 : w1.cell? ⟨w.heap.size, 2, none⟩ = some (.int .i64 n) := by simp [World.cell?, unhide HT1]
    go_quiet (fail)
    have HB2 := hide (below_dn (unhide HB1) nq)
    go_wp2
    go_ret2
    exact ⟨unhide E, unhide HB2⟩

end Go.Proofs.YtkbgnbcphmkjkaaDoor
