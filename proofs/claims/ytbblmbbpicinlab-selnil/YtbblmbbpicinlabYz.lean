/- SelNil for every handle, every list of arms and every number: on no Sel each call answers ErrArg, as New does of no channels and of no book. There are no conditions. Layer 14: two empty answers are alike. Layer 15: no Sel. Layer 15: SelNil, walked. Layer 14: arguments that came in: rows, handles, values. -/
import Derived.Test.YtbblmbbpicinlabYt
import Derived.Test.YtbblmbbpicinlabYx
import Derived.Test.YtbblmbbpicinlabXa
import Derived.ProofKit
import Derived.OpenShut
import Derived.ShutString
import Derived.JoinedCond
import Derived.Deep.DeepHandedRow
import Derived.Deep.SlicePairs
import Derived.Carry
import Derived.ChangeOld
import Derived.Below
import Derived.Deep.MidRow
namespace Go.Proofs.Ytbblmbbpicinlab
open Go.RowKit

set_option maxRecDepth 100000 in
set_option maxHeartbeats 8000000 in
theorem same_zero (w : World) : Calls Try.prog 10 #[.agg #[.int .i64 0, .int .i64 0, .int .u32 0, .int .u32 0, .bool false, .slice none 0 0], .agg #[.int .i64 0, .int .i64 0, .int .u32 0, .int .u32 0, .bool false, .slice none 0 0]] w fun e w' => e = .returned (.bool true) ∧ Below w.heap.size w w' := by
  obtain ⟨w1, hw1⟩ : ∃ w1, (w.alloc (.cells #[.int .i64 0, .int .i64 0, .int .u32 0, .int .u32 0, .bool false, .slice none 0 0] 44)).alloc (.cells #[.int .i64 0, .int .i64 0, .int .u32 0, .int .u32 0, .bool false, .slice none 0 0] 44) = w1 := ⟨_, rfl⟩
  have hB1 : Below w.heap.size w w1 := by rw [← hw1]; exact (below1 _ _).trans ((below1 _ _).mono (by simp))
  have hn0 : w1.heap[w.heap.size]? = some (.cells #[.int .i64 0, .int .i64 0, .int .u32 0, .int .u32 0, .bool false, .slice none 0 0] 44 (0, 0)) := by
    rw [← hw1]
    exact (Ch.alloc (Q := fun _ => False) _ _).box (heap_new _ _) (fun h => h)
  have hn1 : w1.heap[w.heap.size + 1]? = some (.cells #[.int .i64 0, .int .i64 0, .int .u32 0, .int .u32 0, .bool false, .slice none 0 0] 44 (0, 0)) := by
    rw [← hw1]
    have := heap_new (w.alloc (.cells #[.int .i64 0, .int .i64 0, .int .u32 0, .int .u32 0, .bool false, .slice none 0 0] 44)) (.cells #[.int .i64 0, .int .i64 0, .int .u32 0, .int .u32 0, .bool false, .slice none 0 0] 44)
    rwa [World.size_alloc] at this
  have x00 : w1.cell? ⟨w.heap.size, 0, none⟩ = some (.int .i64 0) := by simp [Lib.cell_of_heap hn0]
  have x01 : w1.cell? ⟨w.heap.size, 1, none⟩ = some (.int .i64 0) := by simp [Lib.cell_of_heap hn0]
  have x02 : w1.cell? ⟨w.heap.size, 2, none⟩ = some (.int .u32 0) := by simp [Lib.cell_of_heap hn0]
  have x03 : w1.cell? ⟨w.heap.size, 3, none⟩ = some (.int .u32 0) := by simp [Lib.cell_of_heap hn0]
  have x04 : w1.cell? ⟨w.heap.size, 4, none⟩ = some (.bool false) := by simp [Lib.cell_of_heap hn0]
  have x05 : w1.cell? ⟨w.heap.size, 5, none⟩ = some (.slice none 0 0) := by simp [Lib.cell_of_heap hn0]
  have x10 : w1.cell? ⟨w.heap.size + 1, 0, none⟩ = some (.int .i64 0) := by simp [Lib.cell_of_heap hn1]
  have x11 : w1.cell? ⟨w.heap.size + 1, 1, none⟩ = some (.int .i64 0) := by simp [Lib.cell_of_heap hn1]
  have x12 : w1.cell? ⟨w.heap.size + 1, 2, none⟩ = some (.int .u32 0) := by simp [Lib.cell_of_heap hn1]
  have x13 : w1.cell? ⟨w.heap.size + 1, 3, none⟩ = some (.int .u32 0) := by simp [Lib.cell_of_heap hn1]
  have x14 : w1.cell? ⟨w.heap.size + 1, 4, none⟩ = some (.bool false) := by simp [Lib.cell_of_heap hn1]
  have x15 : w1.cell? ⟨w.heap.size + 1, 5, none⟩ = some (.slice none 0 0) := by simp [Lib.cell_of_heap hn1]
  have HB := hide hB1
  clear hB1 hn0 hn1
  go_enter Try.func10, Try.ntmps10
  go_wp2
  clear hw1
  go_loopw [5] (fun iv wr => iv = .int .i64 0 ∧ wr = w1) (fun _ _ => 0)
  case atStart => exact ⟨rfl, rfl⟩
  case round =>
    obtain ⟨rfl, rfl⟩ := hrel
    go_wp2
    go_ret
    exact ⟨rfl, HB.out⟩

end Go.Proofs.Ytbblmbbpicinlab

namespace Go.Proofs.Ytbblmbbpicinlab
open Go.RowKit

theorem snew_a (w : World) (b : Option Addr) : Calls Try.prog 7 #[.pointer none, .pointer b] w fun e w' => e = .returned (.tuple #[.pointer none, .int .i64 1]) ∧ Below w.heap.size w w' := by
  go_enter Try.func7, Try.ntmps7
  go_wp2_with fail
  go_ret2
  exact ⟨rfl, Below.refl _ _⟩

theorem snew_b (w : World) (c : Nat) : Calls Try.prog 7 #[.pointer (some ⟨c, 0, none⟩), .pointer none] w fun e w' => e = .returned (.tuple #[.pointer none, .int .i64 1]) ∧ Below w.heap.size w w' := by
  go_enter Try.func7, Try.ntmps7
  go_wp2_with fail
  go_ret2
  exact ⟨rfl, Below.refl _ _⟩

theorem spoll_nil (w : World) (l : Value) : Calls Try.prog 8 #[.pointer none, l] w fun e w' => e = .returned (.tuple #[.slice none 0 0, .int .i64 1]) ∧ Below w.heap.size w w' := by
  go_enter Try.func8, Try.ntmps8
  go_wp2_with fail
  go_ret2
  exact ⟨rfl, Below.refl _ _⟩

theorem sasked_nil (w : World) (g : Hnd) (l : Value) : Calls Try.prog 17 #[.pointer none, hkV g, l] w fun e w' => e = .returned (.tuple #[.slice none 0 0, .int .i64 1]) ∧ Below w.heap.size w w' := by
  go_enter Try.func17, Try.ntmps17
  go_wp2_with fail
  go_ret2
  exact ⟨rfl, below1 _ _⟩

theorem spark_nil (w : World) (g : Hnd) (l : Value) : Calls Try.prog 11 #[.pointer none, hkV g, l] w fun e w' => e = .returned (.int .i64 1) ∧ Below w.heap.size w w' := by
  go_enter Try.func11, Try.ntmps11
  go_wp2_with fail
  refine (sasked_nil _ g l).mono ?_
  rintro e W0 ⟨rfl, hb⟩
  have HB := hide ((below1 w _).trans (hb.mono (by simp)))
  clear hb
  go_wp2_with fail
  go_ret
  exact ⟨rfl, HB.out⟩

set_option maxRecDepth 100000 in
set_option maxHeartbeats 8000000 in
theorem stake_nil (w : World) (g : Hnd) (l : Value) (i : Int) : Calls Try.prog 9 #[.pointer none, hkV g, l, .int .i64 i] w fun e w' => e = .returned (.tuple #[didV 0 zVa false (.slice none 0 0), .int .i64 1]) ∧ Below w.heap.size w w' := by
  obtain ⟨w1, hw1⟩ : ∃ w1, w.alloc (.cells #[.int .u32 g.1, .int .u32 g.2] 24) = w1 := ⟨_, rfl⟩
  obtain ⟨w2, hw2⟩ : ∃ w2, w1.alloc (.cells #[.int .i64 0, .int .i64 0, .int .u32 0, .int .u32 0, .bool false, .slice none 0 0] 44) = w2 := ⟨_, rfl⟩
  have hz1 : w1.heap.size = w.heap.size + 1 := by rw [← hw1, World.size_alloc]
  have HZ := hide hz1
  have C2 := hide (show Ch (fun _ => False) w w2 by rw [← hw2, ← hw1]; exact (Ch.alloc _ _).trans (Ch.alloc _ _) (fun _ _ h => h))
  have HN2 := hide (show w2.heap[w1.heap.size]? = some (.cells #[.int .i64 0, .int .i64 0, .int .u32 0, .int .u32 0, .bool false, .slice none 0 0] 44 (0, 0)) by rw [← hw2]; exact heap_new _ _)
  have hn1 : w2.heap[w.heap.size]? = some (.cells #[.int .u32 g.1, .int .u32 g.2] 24 (0, 0)) := (show Ch (fun _ => False) w1 w2 by rw [← hw2]; exact Ch.alloc _ _).box (by rw [← hw1]; exact heap_new _ _) (fun h => h)
  have k0 : w2.cell? ⟨w.heap.size, 0, none⟩ = some (.int .u32 g.1) := by simp [Lib.cell_of_heap hn1]
  have k1 : w2.cell? ⟨w.heap.size, 1, none⟩ = some (.int .u32 g.2) := by simp [Lib.cell_of_heap hn1]
  clear hz1 hn1
  go_enter Try.func9, Try.ntmps9
  go_wp2_with fail
  clear hw1 hw2
  refine (sasked_nil _ g l).mono ?_
  rintro e w3 ⟨rfl, hb3⟩
  have C3 := hide (C2.out.trans (Ch.of_below (Q := fun _ => False) hb3) (fun _ _ h => h))
  have n3 := (Ch.of_below (Q := fun _ => False) hb3).box HN2.out (fun h => h)
  clear hb3 k0 k1
  have z0 : w3.cell? ⟨w1.heap.size, 0, none⟩ = some (.int .i64 0) := by simp [Lib.cell_of_heap n3]
  have z1 : w3.cell? ⟨w1.heap.size, 1, none⟩ = some (.int .i64 0) := by simp [Lib.cell_of_heap n3]
  have z2 : w3.cell? ⟨w1.heap.size, 2, none⟩ = some (.int .u32 0) := by simp [Lib.cell_of_heap n3]
  have z3 : w3.cell? ⟨w1.heap.size, 3, none⟩ = some (.int .u32 0) := by simp [Lib.cell_of_heap n3]
  have z4 : w3.cell? ⟨w1.heap.size, 4, none⟩ = some (.bool false) := by simp [Lib.cell_of_heap n3]
  have z5 : w3.cell? ⟨w1.heap.size, 5, none⟩ = some (.slice none 0 0) := by simp [Lib.cell_of_heap n3]
  have zf : ∀ j, w3.frozen? ⟨w1.heap.size, j, none⟩ = false := frz n3
  have HSE := hide (did_set n3 (.int .i64 0) (.int .i64 0) (.int .u32 0) (.int .u32 0) (.bool false) (.slice none 0 0))
  clear n3
  go_wp2_with fail
  refine bodyPost_ret (v := .tuple #[didV 0 zVa false (.slice none 0 0), .int .i64 1]) (res_Take _ w1.heap.size _ 0 0 0 0 false _ 1 rfl rfl HSE.out.1) rfl ⟨rfl, ?_⟩
  have hz := HZ.out
  exact (C3.out.trans HSE.out.2 (fun y hy e => (show y ≠ w1.heap.size by omega) e)).below (N := w.heap.size) (Nat.le_refl _) (fun _ _ h => h)

end Go.Proofs.Ytbblmbbpicinlab

namespace Go.Proofs.Ytbblmbbpicinlab
open Go.RowKit

set_option maxRecDepth 100000 in
set_option maxHeartbeats 16000000 in
theorem snil_is (w : World) (g : Hnd) (la : Option Addr) (ln lc : Nat) (i : Int) : Calls Try.prog 3 #[hkV g, .slice la ln lc, .int .i64 i] w fun e w' => e = .returned (.bool true) ∧ Below w.heap.size w w' := by
  obtain ⟨W1, hW1⟩ : ∃ x, w.alloc (.cells #[.int .u32 g.1, .int .u32 g.2] 24) = x := ⟨_, rfl⟩
  have nG := hide (show W1.heap[w.heap.size]? = some (.cells #[.int .u32 g.1, .int .u32 g.2] 24 (0, 0)) by rw [← hW1]; exact heap_new _ _)
  have BE := hide (show Below w.heap.size w W1 by rw [← hW1]; exact below1 _ _)
  go_enter Try.func3, Try.ntmps3
  go_wp2_with fail
  clear hW1
  refine (awake15_is W1).mono ?_
  rintro e W2 ⟨rfl, hb⟩
  have hc := Ch.of_below (Q := fun _ => False) hb
  have nG := hide (hc.box nG.out (fun h => h))
  have BE := hide (BE.out.trans (hb.mono BE.out.size))
  clear hc
  clear hb
  go_wp2_with fail
  refine (face.new W2).mono ?_
  rintro e W3 ⟨bp, F, rfl, hp, hb⟩
  have hc := Ch.of_below (Q := fun _ => False) hb
  have nG := hide (hc.box nG.out (fun h => h))
  have BE := hide (BE.out.trans (hb.mono BE.out.size))
  clear hc
  go_wp2_with fail
  have HS3 := hide hb.size
  clear hb
  refine (sw_new hp HS3.out).mono ?_
  rintro e W4 ⟨c, G0, rfl, -, hb⟩
  have hc := Ch.of_below (Q := fun _ => False) hb
  have nG := hide (hc.box nG.out (fun h => h))
  have BE := hide (BE.out.trans (hb.mono BE.out.size))
  clear hc
  clear hb hp HS3
  go_wp2_with fail
  refine (snew_a W4 (some ⟨bp, 0, none⟩)).mono ?_
  rintro e W5 ⟨rfl, hb⟩
  have hc := Ch.of_below (Q := fun _ => False) hb
  have nG := hide (hc.box nG.out (fun h => h))
  have BE := hide (BE.out.trans (hb.mono BE.out.size))
  clear hc
  clear hb
  go_wp2_with fail
  refine (snew_b W5 c).mono ?_
  rintro e W6 ⟨rfl, hb⟩
  have hc := Ch.of_below (Q := fun _ => False) hb
  have nG := hide (hc.box nG.out (fun h => h))
  have BE := hide (BE.out.trans (hb.mono BE.out.size))
  clear hc
  clear hb
  go_wp2_with fail
  refine (spoll_nil W6 (.slice la ln lc)).mono ?_
  rintro e W7 ⟨rfl, hb⟩
  have hc := Ch.of_below (Q := fun _ => False) hb
  have nG := hide (hc.box nG.out (fun h => h))
  have BE := hide (BE.out.trans (hb.mono BE.out.size))
  clear hc
  clear hb
  have ng0 : W7.cell? ⟨w.heap.size, 0, none⟩ = some (.int .u32 g.1) := by simp [Lib.cell_of_heap nG.out]
  have ng1 : W7.cell? ⟨w.heap.size, 1, none⟩ = some (.int .u32 g.2) := by simp [Lib.cell_of_heap nG.out]
  go_wp2_with fail
  clear ng0 ng1
  refine (stake_nil W7 g (.slice la ln lc) i).mono ?_
  rintro e W8 ⟨rfl, hb⟩
  have hc := Ch.of_below (Q := fun _ => False) hb
  have nG := hide (hc.box nG.out (fun h => h))
  have BE := hide (BE.out.trans (hb.mono BE.out.size))
  clear hc
  clear hb
  unfold zVa
  obtain ⟨W9, hW9⟩ : ∃ x, (W8.alloc (.cells #[.int .i64 0, .int .i64 0, .int .u32 0, .int .u32 0, .bool false, .slice none 0 0] 44)) = x := ⟨_, rfl⟩
  have nX := hide (show W9.heap[W8.heap.size]? = some (.cells #[.int .i64 0, .int .i64 0, .int .u32 0, .int .u32 0, .bool false, .slice none 0 0] 44 (0, 0)) by rw [← hW9]; exact heap_new _ _)
  have cA : Ch (fun _ => False) W8 W9 := by rw [← hW9]; exact Ch.alloc _ _
  have nG := hide (cA.box nG.out (fun h => h))
  have BE := hide (BE.out.trans (cA.below (N := w.heap.size) BE.out.size (fun _ _ h => h)))
  have HW9 := hide hW9
  clear cA hW9
  have nx0 : (W8.alloc (.cells #[.int .i64 0, .int .i64 0, .int .u32 0, .int .u32 0, .bool false, .slice none 0 0] 44)).cell? ⟨W8.heap.size, 0, none⟩ = some (.int .i64 0) := by rw [HW9.out]; simp [Lib.cell_of_heap nX.out]
  have nx1 : (W8.alloc (.cells #[.int .i64 0, .int .i64 0, .int .u32 0, .int .u32 0, .bool false, .slice none 0 0] 44)).cell? ⟨W8.heap.size, 1, none⟩ = some (.int .i64 0) := by rw [HW9.out]; simp [Lib.cell_of_heap nX.out]
  have nx2 : (W8.alloc (.cells #[.int .i64 0, .int .i64 0, .int .u32 0, .int .u32 0, .bool false, .slice none 0 0] 44)).cell? ⟨W8.heap.size, 2, none⟩ = some (.int .u32 0) := by rw [HW9.out]; simp [Lib.cell_of_heap nX.out]
  have nx3 : (W8.alloc (.cells #[.int .i64 0, .int .i64 0, .int .u32 0, .int .u32 0, .bool false, .slice none 0 0] 44)).cell? ⟨W8.heap.size, 3, none⟩ = some (.int .u32 0) := by rw [HW9.out]; simp [Lib.cell_of_heap nX.out]
  have nx4 : (W8.alloc (.cells #[.int .i64 0, .int .i64 0, .int .u32 0, .int .u32 0, .bool false, .slice none 0 0] 44)).cell? ⟨W8.heap.size, 4, none⟩ = some (.bool false) := by rw [HW9.out]; simp [Lib.cell_of_heap nX.out]
  have nx5 : (W8.alloc (.cells #[.int .i64 0, .int .i64 0, .int .u32 0, .int .u32 0, .bool false, .slice none 0 0] 44)).cell? ⟨W8.heap.size, 5, none⟩ = some (.slice none 0 0) := by rw [HW9.out]; simp [Lib.cell_of_heap nX.out]
  go_wp2_with fail
  rw [HW9.out]
  clear nx0 nx1 nx2 nx3 nx4 nx5
  refine (same_zero W9).mono ?_
  rintro e W10 ⟨rfl, hb⟩
  have hc := Ch.of_below (Q := fun _ => False) hb
  have nG := hide (hc.box nG.out (fun h => h))
  have nX := hide (hc.box nX.out (fun h => h))
  have BE := hide (BE.out.trans (hb.mono BE.out.size))
  clear hc
  clear hb
  have ng0 : W10.cell? ⟨w.heap.size, 0, none⟩ = some (.int .u32 g.1) := by simp [Lib.cell_of_heap nG.out]
  have ng1 : W10.cell? ⟨w.heap.size, 1, none⟩ = some (.int .u32 g.2) := by simp [Lib.cell_of_heap nG.out]
  go_wp2_with fail
  clear ng0 ng1
  refine (spark_nil W10 g (.slice la ln lc)).mono ?_
  rintro e W11 ⟨rfl, hb⟩
  have hc := Ch.of_below (Q := fun _ => False) hb
  have nG := hide (hc.box nG.out (fun h => h))
  have nX := hide (hc.box nX.out (fun h => h))
  have BE := hide (BE.out.trans (hb.mono BE.out.size))
  clear hc
  clear hb
  go_wp2_with fail
  go_ret
  exact ⟨rfl, BE.out⟩

end Go.Proofs.Ytbblmbbpicinlab

namespace Go.Proofs.Ytbblmbbpicinlab
open Go.ChangeShapes Go.WideShapes Go.ChangeAt Go.RowKit Go.Deep

theorem own_knob : ownKnob Try.prog.godebug = none := by kernel_rfl
theorem laid_out : laidOutB Try.prog = true := by kernel_rfl
theorem i64_of_wf {n : Int} (h : (Lit.int .i64 n).wf = true) : -9223372036854775808 ≤ n ∧ n ≤ 9223372036854775807 := by
  rw [show (Lit.int .i64 n).wf = (decide (-9223372036854775808 ≤ n) && decide (n ≤ 9223372036854775807)) from rfl, Bool.and_eq_true, decide_eq_true_eq, decide_eq_true_eq] at h
  exact h

theorem u32_of_wf {n : Int} (h : (Lit.int .u32 n).wf = true) : UsW n := by
  rw [show (Lit.int .u32 n).wf = (decide (0 ≤ n) && decide (n ≤ 4294967295)) from rfl, Bool.and_eq_true, decide_eq_true_eq, decide_eq_true_eq] at h
  exact h

section
variable {H : Type} {enc : TypeId × Value → H} {w : World} {base : Nat} {spare : Nat → Bool} {held : Bool} {fuel : Nat} {v : Value} {x : DataW H × List MemPlace}

theorem trod_i64 {t : TypeId} (hu : Try.prog.underlying t = some (.int .i64)) (h : DataW.trod enc Try.prog w base spare held fuel t [v] = some x) : ∃ z, v = .int .i64 z ∧ -9223372036854775808 ≤ z ∧ z ≤ 9223372036854775807 := by
  cases fuel with
  | zero => simp [DataW.trod] at h
  | succ n =>
    simp only [DataW.trod, hu] at h
    cases v <;> simp at h
    rename_i k b
    obtain ⟨⟨rfl, h2⟩, _⟩ := h
    exact ⟨b, rfl, i64_of_wf h2⟩
theorem trod_u32 {t : TypeId} (hu : Try.prog.underlying t = some (.int .u32)) (h : DataW.trod enc Try.prog w base spare held fuel t [v] = some x) : ∃ z, v = .int .u32 z ∧ UsW z := by
  cases fuel with
  | zero => simp [DataW.trod] at h
  | succ n =>
    simp only [DataW.trod, hu] at h
    cases v <;> simp at h
    rename_i k b
    obtain ⟨⟨rfl, h2⟩, _⟩ := h
    exact ⟨b, rfl, u32_of_wf h2⟩
theorem trod_bool (h : DataW.trod enc Try.prog w base spare held fuel 4 [v] = some x) : ∃ s, v = .bool s := by
  cases fuel with
  | zero => simp [DataW.trod] at h
  | succ n =>
    simp only [DataW.trod, Try.underlying4] at h
    cases v <;> simp at h
    rename_i s
    exact ⟨s, rfl⟩
end

theorem ceInt : Try.prog.cellsOf 3 = 1 := by kernel_rfl
theorem ceSide : Try.prog.cellsOf 74 = 1 := by kernel_rfl
theorem ceBool : Try.prog.cellsOf 4 = 1 := by kernel_rfl
theorem ceU32 : Try.prog.cellsOf 22 = 1 := by kernel_rfl
theorem ceHd : Try.prog.cellsOf 24 = 2 := by kernel_rfl
theorem ceVal : Try.prog.cellsOf 41 = 3 := by kernel_rfl
theorem ceI64 : Try.prog.cellsOf 2 = 1 := by kernel_rfl
theorem ceRow : Try.prog.cellsOf 76 = 3 := by kernel_rfl

section
variable {H : Type} {enc : TypeId × Value → H} {W : World} {spare : Nat → Bool} {held : Bool}

set_option maxRecDepth 100000 in
theorem hd_in {n : Nat} {cs : List Value} {x : DataW H × List MemPlace} (hl : cs.length = 2) (h : DataW.trod enc Try.prog W 0 spare held n 24 cs = some x) : ∃ s g, cs = [.int .u32 s, .int .u32 g] ∧ UsW s ∧ UsW g := by
  obtain ⟨xs, k, hk, hxy, hlen, hxl, hf⟩ := DataW.trod_struct Try.underlying24 h
  match xs, hxl, cs, hl with
  | [y0, y1], _, [v0, v1], _ =>
    have g0 := hf 0 _ rfl
    have g1 := hf 1 _ rfl
    simp [ceU32] at g0 g1
    obtain ⟨z0, rfl, u0⟩ := trod_u32 Try.underlying22 g0
    obtain ⟨z1, rfl, u1⟩ := trod_u32 Try.underlying22 g1
    exact ⟨z0, z1, rfl, u0, u1⟩

set_option maxRecDepth 100000 in
theorem row_in {n : Nat} {cs : List Value} {x : DataW H × List MemPlace} (hl : cs.length = 3) (h : DataW.trod enc Try.prog W 0 spare held n 76 cs = some x) : ∃ s g d, cs = [.int .u32 s, .int .u32 g, .int .i64 d] ∧ UsW s ∧ UsW g ∧ I64 d := by
  obtain ⟨xs, k, hk, hxy, hlen, hxl, hf⟩ := DataW.trod_struct Try.underlying76 h
  match xs, hxl, cs, hl with
  | [y0, y1], _, [v0, v1, v2], _ =>
    have g0 := hf 0 _ rfl
    have g1 := hf 1 _ rfl
    simp [ceHd, ceSide] at g0 g1
    obtain ⟨s, g, e, us, ug⟩ := hd_in rfl g0
    cases e
    obtain ⟨z1, rfl, b1, b2⟩ := trod_i64 Try.underlying74 g1
    exact ⟨s, g, z1, rfl, us, ug, b1, b2⟩
end

set_option maxRecDepth 100000 in
theorem handle_in {H : Type} {enc : TypeId × Value → H} {W : World} {base : Nat} {v : Value} {d : DataW H} {ps : List MemPlace} (hv : Value.okWide Try.prog W .any base 24 v) (h : DataW.Trod enc Try.prog W 0 (fun _ => true) true 24 v d ps) : ∃ s g, v = .agg #[.int .u32 s, .int .u32 g] := by
  obtain ⟨cs, rfl, hsz⟩ := okWide_struct Try.underlying24 hv
  rw [ceHd] at hsz
  obtain ⟨n, hn⟩ := h
  obtain ⟨cl⟩ := cs
  obtain ⟨s, g, e, _, _⟩ := hd_in (cs := cl) hsz hn
  subst e
  exact ⟨s, g, rfl⟩

set_option maxRecDepth 100000 in
theorem rowv_in {H : Type} {enc : TypeId × Value → H} {W : World} {base : Nat} {v : Value} {d : DataW H} {ps : List MemPlace} (hv : Value.okWide Try.prog W .any base 76 v) (h : DataW.Trod enc Try.prog W 0 (fun _ => true) true 76 v d ps) : ∃ s g d, v = .agg #[.int .u32 s, .int .u32 g, .int .i64 d] := by
  obtain ⟨cs, rfl, hsz⟩ := okWide_struct Try.underlying76 hv
  rw [ceRow] at hsz
  obtain ⟨n, hn⟩ := h
  obtain ⟨cl⟩ := cs
  obtain ⟨s, g, d, e, _⟩ := row_in (cs := cl) hsz hn
  subst e
  exact ⟨s, g, d, rfl⟩

section
variable {H : Type} {enc : TypeId × Value → H} {W : World} {spare : Nat → Bool} {held : Bool}

set_option maxRecDepth 100000 in
theorem val_in {n : Nat} {cs : List Value} {x : DataW H × List MemPlace} (hl : cs.length = 3) (h : DataW.trod enc Try.prog W 0 spare held n 41 cs = some x) : ∃ d s g, cs = [.int .i64 d, .int .u32 s, .int .u32 g] ∧ I64 d ∧ UsW s ∧ UsW g := by
  obtain ⟨xs, k, hk, hxy, hlen, hxl, hf⟩ := DataW.trod_struct Try.underlying41 h
  match xs, hxl, cs, hl with
  | [y0, y1], _, [v0, v1, v2], _ =>
    have g0 := hf 0 _ rfl
    have g1 := hf 1 _ rfl
    simp [ceHd, ceI64] at g0 g1
    obtain ⟨z0, rfl, b1, b2⟩ := trod_i64 Try.underlying2 g0
    obtain ⟨s, g, e, us, ug⟩ := hd_in rfl g1
    cases e
    exact ⟨z0, s, g, rfl, ⟨b1, b2⟩, us, ug⟩
end

set_option maxRecDepth 100000 in
theorem valv_in {H : Type} {enc : TypeId × Value → H} {W : World} {base : Nat} {v : Value} {d : DataW H} {ps : List MemPlace} (hv : Value.okWide Try.prog W .any base 41 v) (h : DataW.Trod enc Try.prog W 0 (fun _ => true) true 41 v d ps) : ∃ s g d, v = .agg #[.int .i64 s, .int .u32 g, .int .u32 d] := by
  obtain ⟨cs, rfl, hsz⟩ := okWide_struct Try.underlying41 hv
  rw [ceVal] at hsz
  obtain ⟨n, hn⟩ := h
  obtain ⟨cl⟩ := cs
  obtain ⟨s, g, d, e, _⟩ := val_in (cs := cl) hsz hn
  subst e
  exact ⟨s, g, d, rfl⟩

end Go.Proofs.Ytbblmbbpicinlab

namespace Go.Proofs.Ytbblmbbpicinlab
open Go.ChangeShapes Go.WideShapes Go.ChangeAt Go.RowKit Go.Deep

set_option maxRecDepth 100000 in
theorem nil_lifted (os : Os) (started : os.Started) (H : Type) (enc : TypeId × Value → H) :
    ReturnsInHanded {} Try.checked os 3 .any (Rows.selNilSpec.pre6 enc Try.prog Try.f3 Rows.selNilRow.domain false) (Rows.selNilSpec.post enc Try.prog Try.f3 false true false false) := by
  refine returnsInHanded_of_change (C := Try.checked) own_knob started (by kernel_rfl) Try.func3
    (ChangeSpec.witness6 (enc := enc) (C := Try.checked) false ⟨#[], #[.agg #[.int .u32 0, .int .u32 0], .slice none 0 0, .int .i64 0], []⟩ 8 (by kernel_rfl) (by kernel_rfl) (by kernel_rfl) (by kernel_rfl)) ?_
  intro W base args ds gs before hval0 hW _ _
  have hval : ∀ (j : Nat) t v, Try.f3.params[j]? = some t → args[j]? = some v → Value.okWide Try.prog W .any base t v := hval0
  have hW' := hW
  obtain ⟨p, q, hA0, hV, rfl, hfz, hnd⟩ := hW
  have hA : DataW.TrodAll enc Try.prog W 0 (fun _ => true) true Try.f3.params.toList args.toList ds p := hA0
  rw [Try.params3] at hA hval
  obtain ⟨v0, vs0, d0, ds0, p0, q0, hargs, rfl, rfl, h0, r0⟩ := trodAll_cons hA
  obtain ⟨v1, vs1, d1, ds1, p1, q1, rfl, rfl, rfl, h1, r1⟩ := trodAll_cons r0
  obtain ⟨v2, vs2, d2, ds2, p2, q2, rfl, rfl, rfl, h2, r2⟩ := trodAll_cons r1
  obtain ⟨rfl, rfl, rfl⟩ := trodAll_nil r2
  obtain rfl : args = #[v0, v1, v2] := by cases args; simp_all
  obtain ⟨rfl, rfl⟩ := trodVars_none hV
  obtain ⟨s0, g0, rfl⟩ := handle_in (hval 0 24 v0 rfl rfl) h0
  obtain ⟨sa, sl, sk, rfl⟩ := okWide_slice Try.underlying25 (hval 1 25 v1 rfl rfl)
  obtain ⟨a0, rfl, rfl, rfl, w0⟩ := open_int Try.underlying3 (hval 2 3 v2 rfl rfl) h2
  have lt0 : ∀ x ∈ p0, x.block < W.heap.size := by obtain ⟨m, hm⟩ := h0; exact DataW.trod_lt m _ _ _ hm
  have lt1 : ∀ x ∈ p1, x.block < W.heap.size := by obtain ⟨m, hm⟩ := h1; exact DataW.trod_lt m _ _ _ hm
  clear hA0 hval0
  refine (snil_is W (s0, g0) sa sl sk a0).mono fun e W' ⟨he, bel⟩ => ?_
  subst he
  exact ⟨_, rfl, _, _, _, [], _, [], hW', trodAll_mk1 (shut_bool Try.underlying4 _), (trodAll_cons_mk (Below.trod laid_out (by kernel_rfl) (of_decide_eq_true (by kernel_rfl)) h0 bel lt0) (trodAll_cons_mk (Below.trod laid_out (by kernel_rfl) (of_decide_eq_true (by kernel_rfl)) h1 bel lt1) (trodAll_cons_mk (shut_int Try.underlying3 w0) trodAll_mk0))), rfl, bel.frame _, fun h => by cases h⟩

theorem selNil_holds : Rows.SelNilSaid :=
  OpenClaim.holds_of_wide 3 Try.f3 rfl rfl rfl rfl rfl rfl rfl ⟨rfl, rfl, rfl, rfl, rfl⟩ rfl rfl rfl rfl rfl (by kernel_rfl) Try.func3 (by kernel_rfl)
    (of_decide_eq_true (by kernel_rfl)) (by unfold Func.isWrapper; first | (rw [if_pos (by decide +kernel)]; kernel_rfl) | (rw [if_neg (by decide +kernel)]; exact ⟨rfl, rfl⟩))
    (fun os started H enc _ => nil_lifted os started H enc)

#print axioms selNil_holds
end Go.Proofs.Ytbblmbbpicinlab
