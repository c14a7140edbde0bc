/- Layer 11: the laws' head: rows of the document's examples. -/
import Derived.Test.YthnnpipekeanoaaHzc
namespace Go.Proofs.Ythnnpipekeanoaa
open Go.RowKit

theorem PTb.nbox {w : World} {B : Nat} {F : Nat → Prop} {p b : Nat} {l : List Wt} {cs : Array Value} {T : TypeId} (h : PTb w B F p l) (hb : w.heap[b]? = some (.cells cs T (0, 0))) (h1 : 73 ≠ T) (h2 : 92 ≠ T) : ¬ F b := by
  obtain ⟨wv, M, C, sl, full, en, cl, n, hk, hi, rfl, hs⟩ := h
  obtain ⟨_, hm⟩ := hk.mp
  rintro (e | e | e | e)
  · subst e
    rw [hk.box] at hb
    injection hb with hb
    injection hb with _ hb _
    exact h1 hb
  · exact hm.ne_cells hb e
  · exact hk.cm.ne_cells hb e
  · exact own_box hk.row hb h2 e
def aw1 : Rc := ⟨1, 1, 5, 1, 1, 1, 1, 0, 3, 0, 0⟩
def aw2 : Rc := ⟨2, 1, 6, 1, 1, 1, 1, 0, 0, 0, 0⟩

set_option maxRecDepth 100000 in
set_option maxHeartbeats 16000000 in
theorem awake_is (w : World) : Calls Try.prog 6 #[] w fun e w' => e = .returned (.bool true) ∧ Below w.heap.size w w' := by
  go_enter Try.func6, Try.ntmps6
  go_wp2_with fail
  refine (face.new w).mono ?_
  rintro e W1 ⟨p, F, rfl, h1, b1⟩
  obtain ⟨W2, hW2⟩ : ∃ x, ((W1.alloc (.cells #[.int .u32 1, .int .u32 1, .int .i64 1] 44)).alloc (.cells #[.int .u32 5, .int .u32 1] 41)).alloc (.cells #[.int .u32 6, .int .u32 1] 41) = x := ⟨_, rfl⟩
  have al : ∀ (W : World) (o : Obj) {b : Nat} {x : Obj}, W.heap[b]? = some x → (W.alloc o).heap[b]? = some x := fun W o b x h => (Ch.alloc (Q := fun _ => False) W o).box h (fun h => h)
  have nw : ∀ (W : World) (o : Obj) {b : Nat}, W.heap.size = b → (W.alloc o).heap[b]? = some o := fun W o b e => by rw [← e]; exact heap_new W o
  have AL := hide al
  have NW := hide nw
  have nS := hide (show W2.heap[W1.heap.size]? = some (.cells #[.int .u32 1, .int .u32 1, .int .i64 1] 44 (0, 0)) by rw [← hW2]; exact al _ _ (al _ _ (nw _ _ rfl)))
  have nX := hide (show W2.heap[W1.heap.size + 1]? = some (.cells #[.int .u32 5, .int .u32 1] 41 (0, 0)) by rw [← hW2]; exact al _ _ (nw _ _ (by simp)))
  have nY := hide (show W2.heap[W1.heap.size + 2]? = some (.cells #[.int .u32 6, .int .u32 1] 41 (0, 0)) by rw [← hW2]; exact nw _ _ (by simp))
  have c2 : Ch (fun _ => False) W1 W2 := by rw [← hW2]; exact ((Ch.alloc _ _).trans (Ch.alloc _ _) (fun _ _ h => h)).trans (Ch.alloc _ _) (fun _ _ h => h)
  have PTc := hide (face.ch h1 c2 (fun _ _ h => h))
  have BE := hide (b1.trans (c2.below (N := w.heap.size) b1.size (fun _ _ h => h)))
  clear h1 b1 c2 al nw
  have ns0 : W2.cell? ⟨W1.heap.size, 0, none⟩ = some (.int .u32 1) := by simp [Lib.cell_of_heap nS.out]
  have ns1 : W2.cell? ⟨W1.heap.size, 1, none⟩ = some (.int .u32 1) := by simp [Lib.cell_of_heap nS.out]
  have ns2 : W2.cell? ⟨W1.heap.size, 2, none⟩ = some (.int .i64 1) := by simp [Lib.cell_of_heap nS.out]
  have nx0 : W2.cell? ⟨W1.heap.size + 1, 0, none⟩ = some (.int .u32 5) := by simp [Lib.cell_of_heap nX.out]
  have nx1 : W2.cell? ⟨W1.heap.size + 1, 1, none⟩ = some (.int .u32 1) := by simp [Lib.cell_of_heap nX.out]
  go_wp2_with fail
  clear ns0 ns1 ns2 nx0 nx1
  clear hW2
  refine (face.put 1 1 1 5 1 0 3 0 0 (by unfold UsW; omega) (by unfold UsW; omega) (by unfold I64; omega) (by unfold UsW; omega) (by unfold UsW; omega) (by unfold I64; omega) (by unfold I64; omega) (by unfold UsW; omega) (by unfold UsW; omega) PTc.out (by simp) (by have := BE.out.size; omega)).mono ?_
  rintro e W3 ⟨F3, rfl, hp, hc, hf⟩
  rw [show psW [] 5 1 1 0 = 1 from rfl, show pgW [] 5 1 1 0 = 1 from rfl, show ecW [] 5 1 1 0 = 0 from rfl]
  have PTo := PTc
  have nS := hide (hc.box nS.out (PTc.out.nbox nS.out (by decide) (by decide)))
  have nX := hide (hc.box nX.out (PTc.out.nbox nX.out (by decide) (by decide)))
  have nY := hide (hc.box nY.out (PTc.out.nbox nY.out (by decide) (by decide)))
  have PTc := hide (show PTb W3 w.heap.size F3 p [⟨aw1, false⟩] from hp)
  have BE := hide (BE.out.trans (hc.below (N := w.heap.size) BE.out.size (fun y hy e => by have := (face.foot PTo.out y e).1; omega)))
  clear hp hc hf PTo
  obtain ⟨W4, hW4⟩ : ∃ x, W3.alloc (.cells #[.int .u32 1, .int .u32 1] 41) = x := ⟨_, rfl⟩
  have nM := hide (show W4.heap[W3.heap.size]? = some (.cells #[.int .u32 1, .int .u32 1] 41 (0, 0)) by rw [← hW4]; exact NW.out _ _ rfl)
  have cA : Ch (fun _ => False) W3 W4 := by rw [← hW4]; exact Ch.alloc _ _
  have nS := hide (cA.box nS.out (fun h => h))
  have nX := hide (cA.box nX.out (fun h => h))
  have nY := hide (cA.box nY.out (fun h => h))
  have PTc := hide (face.ch PTc.out cA (fun _ _ h => h))
  have BE := hide (BE.out.trans (cA.below (N := w.heap.size) BE.out.size (fun _ _ h => h)))
  clear cA
  have ns0 : W4.cell? ⟨W1.heap.size, 0, none⟩ = some (.int .u32 1) := by simp [Lib.cell_of_heap nS.out]
  have ns1 : W4.cell? ⟨W1.heap.size, 1, none⟩ = some (.int .u32 1) := by simp [Lib.cell_of_heap nS.out]
  have ns2 : W4.cell? ⟨W1.heap.size, 2, none⟩ = some (.int .i64 1) := by simp [Lib.cell_of_heap nS.out]
  have ny0 : W4.cell? ⟨W1.heap.size + 2, 0, none⟩ = some (.int .u32 6) := by simp [Lib.cell_of_heap nY.out]
  have ny1 : W4.cell? ⟨W1.heap.size + 2, 1, none⟩ = some (.int .u32 1) := by simp [Lib.cell_of_heap nY.out]
  go_wp2_with fail
  clear hW4
  clear ns0 ns1 ns2 ny0 ny1
  refine (face.put 1 1 1 6 1 0 0 0 0 (by unfold UsW; omega) (by unfold UsW; omega) (by unfold I64; omega) (by unfold UsW; omega) (by unfold UsW; omega) (by unfold I64; omega) (by unfold I64; omega) (by unfold UsW; omega) (by unfold UsW; omega) PTc.out (by simp) (by have := BE.out.size; omega)).mono ?_
  rintro e W5 ⟨F5, rfl, hp, hc, hf⟩
  rw [show psW [⟨aw1, false⟩] 6 1 1 0 = 2 from rfl, show pgW [⟨aw1, false⟩] 6 1 1 0 = 1 from rfl, show ecW [⟨aw1, false⟩] 6 1 1 0 = 0 from rfl]
  have PTo := PTc
  have nS := hide (hc.box nS.out (PTc.out.nbox nS.out (by decide) (by decide)))
  have nX := hide (hc.box nX.out (PTc.out.nbox nX.out (by decide) (by decide)))
  have nY := hide (hc.box nY.out (PTc.out.nbox nY.out (by decide) (by decide)))
  have nM := hide (hc.box nM.out (PTc.out.nbox nM.out (by decide) (by decide)))
  have PTc := hide (show PTb W5 w.heap.size F5 p [⟨aw1, false⟩, ⟨aw2, false⟩] from hp)
  have BE := hide (BE.out.trans (hc.below (N := w.heap.size) BE.out.size (fun y hy e => by have := (face.foot PTo.out y e).1; omega)))
  clear hp hc hf PTo
  obtain ⟨W6, hW6⟩ : ∃ x, W5.alloc (.cells #[.int .u32 2, .int .u32 1] 41) = x := ⟨_, rfl⟩
  have nN := hide (show W6.heap[W5.heap.size]? = some (.cells #[.int .u32 2, .int .u32 1] 41 (0, 0)) by rw [← hW6]; exact NW.out _ _ rfl)
  have cA : Ch (fun _ => False) W5 W6 := by rw [← hW6]; exact Ch.alloc _ _
  have nS := hide (cA.box nS.out (fun h => h))
  have nX := hide (cA.box nX.out (fun h => h))
  have nY := hide (cA.box nY.out (fun h => h))
  have nM := hide (cA.box nM.out (fun h => h))
  have PTc := hide (face.ch PTc.out cA (fun _ _ h => h))
  have BE := hide (BE.out.trans (cA.below (N := w.heap.size) BE.out.size (fun _ _ h => h)))
  clear cA
  have ns0 : W6.cell? ⟨W1.heap.size, 0, none⟩ = some (.int .u32 1) := by simp [Lib.cell_of_heap nS.out]
  have ns1 : W6.cell? ⟨W1.heap.size, 1, none⟩ = some (.int .u32 1) := by simp [Lib.cell_of_heap nS.out]
  have ns2 : W6.cell? ⟨W1.heap.size, 2, none⟩ = some (.int .i64 1) := by simp [Lib.cell_of_heap nS.out]
  have nx0 : W6.cell? ⟨W1.heap.size + 1, 0, none⟩ = some (.int .u32 5) := by simp [Lib.cell_of_heap nX.out]
  have nx1 : W6.cell? ⟨W1.heap.size + 1, 1, none⟩ = some (.int .u32 1) := by simp [Lib.cell_of_heap nX.out]
  go_wp2_with fail
  clear hW6
  clear ns0 ns1 ns2 nx0 nx1
  refine (face.put 1 1 1 5 1 0 0 0 0 (by unfold UsW; omega) (by unfold UsW; omega) (by unfold I64; omega) (by unfold UsW; omega) (by unfold UsW; omega) (by unfold I64; omega) (by unfold I64; omega) (by unfold UsW; omega) (by unfold UsW; omega) PTc.out (by simp) (by have := BE.out.size; omega)).mono ?_
  rintro e W7 ⟨F7, rfl, hp, hc, hf⟩
  rw [show psW [⟨aw1, false⟩, ⟨aw2, false⟩] 5 1 1 0 = 0 from rfl, show pgW [⟨aw1, false⟩, ⟨aw2, false⟩] 5 1 1 0 = 0 from rfl, show ecW [⟨aw1, false⟩, ⟨aw2, false⟩] 5 1 1 0 = 113 from rfl]
  have PTo := PTc
  have nS := hide (hc.box nS.out (PTc.out.nbox nS.out (by decide) (by decide)))
  have nX := hide (hc.box nX.out (PTc.out.nbox nX.out (by decide) (by decide)))
  have nY := hide (hc.box nY.out (PTc.out.nbox nY.out (by decide) (by decide)))
  have nM := hide (hc.box nM.out (PTc.out.nbox nM.out (by decide) (by decide)))
  have nN := hide (hc.box nN.out (PTc.out.nbox nN.out (by decide) (by decide)))
  have PTc := hide (show PTb W7 w.heap.size F7 p [⟨aw1, false⟩, ⟨aw2, false⟩] from hp)
  have BE := hide (BE.out.trans (hc.below (N := w.heap.size) BE.out.size (fun y hy e => by have := (face.foot PTo.out y e).1; omega)))
  clear hp hc hf PTo
  obtain ⟨W8, hW8⟩ : ∃ x, W7.alloc (.cells #[.int .u32 0, .int .u32 0] 41) = x := ⟨_, rfl⟩
  have nO := hide (show W8.heap[W7.heap.size]? = some (.cells #[.int .u32 0, .int .u32 0] 41 (0, 0)) by rw [← hW8]; exact NW.out _ _ rfl)
  have cA : Ch (fun _ => False) W7 W8 := by rw [← hW8]; exact Ch.alloc _ _
  have nS := hide (cA.box nS.out (fun h => h))
  have nX := hide (cA.box nX.out (fun h => h))
  have nY := hide (cA.box nY.out (fun h => h))
  have nM := hide (cA.box nM.out (fun h => h))
  have nN := hide (cA.box nN.out (fun h => h))
  have PTc := hide (face.ch PTc.out cA (fun _ _ h => h))
  have BE := hide (BE.out.trans (cA.below (N := w.heap.size) BE.out.size (fun _ _ h => h)))
  clear cA
  have HW8 := hide hW8
  clear hW8
  have ns0 : (W7.alloc (.cells #[.int .u32 0, .int .u32 0] 41)).cell? ⟨W1.heap.size, 0, none⟩ = some (.int .u32 1) := by rw [HW8.out]; simp [Lib.cell_of_heap nS.out]
  have ns1 : (W7.alloc (.cells #[.int .u32 0, .int .u32 0] 41)).cell? ⟨W1.heap.size, 1, none⟩ = some (.int .u32 1) := by rw [HW8.out]; simp [Lib.cell_of_heap nS.out]
  have ns2 : (W7.alloc (.cells #[.int .u32 0, .int .u32 0] 41)).cell? ⟨W1.heap.size, 2, none⟩ = some (.int .i64 1) := by rw [HW8.out]; simp [Lib.cell_of_heap nS.out]
  go_wp2_with fail
  rw [HW8.out]
  clear ns0 ns1 ns2
  refine (face.first 1 1 1 (by unfold UsW; omega) (by unfold UsW; omega) (by unfold I64; omega) PTc.out (by simp)).mono ?_
  rintro e W9 ⟨rfl, hb⟩
  rw [show (sel (inRow 1 1 1) [⟨aw1, false⟩, ⟨aw2, false⟩]).headD zRc = aw1 from rfl, show (!(sel (inRow 1 1 1) [⟨aw1, false⟩, ⟨aw2, false⟩]).isEmpty) = true from rfl]
  have hc := Ch.of_below (Q := fun _ => False) hb
  have nS := hide (hc.box nS.out (fun h => h))
  have nX := hide (hc.box nX.out (fun h => h))
  have nY := hide (hc.box nY.out (fun h => h))
  have nM := hide (hc.box nM.out (fun h => h))
  have nN := hide (hc.box nN.out (fun h => h))
  have nO := hide (hc.box nO.out (fun h => h))
  have PTc := hide (face.ch PTc.out hc (fun _ _ h => h))
  have BE := hide (BE.out.trans (hc.below (N := w.heap.size) BE.out.size (fun _ _ h => h)))
  clear hb hc
  unfold aw1
  obtain ⟨W10, hW10⟩ : ∃ x, W9.alloc (.cells #[.int .u32 1, .int .u32 1, .int .u32 5, .int .u32 1, .int .u32 1, .int .u32 1, .int .i64 1, .int .i64 0, .int .i64 3, .int .u32 0, .int .u32 0] 57) = x := ⟨_, rfl⟩
  have nR := hide (show W10.heap[W9.heap.size]? = some (.cells #[.int .u32 1, .int .u32 1, .int .u32 5, .int .u32 1, .int .u32 1, .int .u32 1, .int .i64 1, .int .i64 0, .int .i64 3, .int .u32 0, .int .u32 0] 57 (0, 0)) by rw [← hW10]; exact NW.out _ _ rfl)
  have cA : Ch (fun _ => False) W9 W10 := by rw [← hW10]; exact Ch.alloc _ _
  have nS := hide (cA.box nS.out (fun h => h))
  have nX := hide (cA.box nX.out (fun h => h))
  have nY := hide (cA.box nY.out (fun h => h))
  have nM := hide (cA.box nM.out (fun h => h))
  have nN := hide (cA.box nN.out (fun h => h))
  have nO := hide (cA.box nO.out (fun h => h))
  have PTc := hide (face.ch PTc.out cA (fun _ _ h => h))
  have BE := hide (BE.out.trans (cA.below (N := w.heap.size) BE.out.size (fun _ _ h => h)))
  clear cA
  have HW10 := hide hW10
  clear hW10
  have nx0 : (W9.alloc (.cells #[.int .u32 1, .int .u32 1, .int .u32 5, .int .u32 1, .int .u32 1, .int .u32 1, .int .i64 1, .int .i64 0, .int .i64 3, .int .u32 0, .int .u32 0] 57)).cell? ⟨W1.heap.size + 1, 0, none⟩ = some (.int .u32 5) := by rw [HW10.out]; simp [Lib.cell_of_heap nX.out]
  have nx1 : (W9.alloc (.cells #[.int .u32 1, .int .u32 1, .int .u32 5, .int .u32 1, .int .u32 1, .int .u32 1, .int .i64 1, .int .i64 0, .int .i64 3, .int .u32 0, .int .u32 0] 57)).cell? ⟨W1.heap.size + 1, 1, none⟩ = some (.int .u32 1) := by rw [HW10.out]; simp [Lib.cell_of_heap nX.out]
  go_wp2_with fail
  rw [HW10.out]
  clear nx0 nx1
  refine (face.leave 5 1 (by unfold UsW; omega) (by unfold UsW; omega) PTc.out (by simp)).mono ?_
  rintro e W11 ⟨F11, rfl, hp, hc, hf⟩
  rw [show leaN [⟨aw1, false⟩, ⟨aw2, false⟩] 5 1 = 1 from rfl]
  have PTo := PTc
  have nS := hide (hc.box nS.out (PTc.out.nbox nS.out (by decide) (by decide)))
  have nX := hide (hc.box nX.out (PTc.out.nbox nX.out (by decide) (by decide)))
  have nY := hide (hc.box nY.out (PTc.out.nbox nY.out (by decide) (by decide)))
  have nM := hide (hc.box nM.out (PTc.out.nbox nM.out (by decide) (by decide)))
  have nN := hide (hc.box nN.out (PTc.out.nbox nN.out (by decide) (by decide)))
  have nO := hide (hc.box nO.out (PTc.out.nbox nO.out (by decide) (by decide)))
  have nR := hide (hc.box nR.out (PTc.out.nbox nR.out (by decide) (by decide)))
  have PTc := hide (show PTb W11 w.heap.size F11 p [⟨aw1, true⟩, ⟨aw2, false⟩] from hp)
  have BE := hide (BE.out.trans (hc.below (N := w.heap.size) BE.out.size (fun y hy e => by have := (face.foot PTo.out y e).1; omega)))
  clear hp hc hf PTo
  have ns0 : W11.cell? ⟨W1.heap.size, 0, none⟩ = some (.int .u32 1) := by simp [Lib.cell_of_heap nS.out]
  have ns1 : W11.cell? ⟨W1.heap.size, 1, none⟩ = some (.int .u32 1) := by simp [Lib.cell_of_heap nS.out]
  have ns2 : W11.cell? ⟨W1.heap.size, 2, none⟩ = some (.int .i64 1) := by simp [Lib.cell_of_heap nS.out]
  go_wp2_with fail
  clear ns0 ns1 ns2
  refine (face.first 1 1 1 (by unfold UsW; omega) (by unfold UsW; omega) (by unfold I64; omega) PTc.out (by simp)).mono ?_
  rintro e W12 ⟨rfl, hb⟩
  rw [show (sel (inRow 1 1 1) [⟨aw1, true⟩, ⟨aw2, false⟩]).headD zRc = aw2 from rfl, show (!(sel (inRow 1 1 1) [⟨aw1, true⟩, ⟨aw2, false⟩]).isEmpty) = true from rfl]
  have hc := Ch.of_below (Q := fun _ => False) hb
  have nS := hide (hc.box nS.out (fun h => h))
  have nX := hide (hc.box nX.out (fun h => h))
  have nY := hide (hc.box nY.out (fun h => h))
  have nM := hide (hc.box nM.out (fun h => h))
  have nN := hide (hc.box nN.out (fun h => h))
  have nO := hide (hc.box nO.out (fun h => h))
  have nR := hide (hc.box nR.out (fun h => h))
  have PTc := hide (face.ch PTc.out hc (fun _ _ h => h))
  have BE := hide (BE.out.trans (hc.below (N := w.heap.size) BE.out.size (fun _ _ h => h)))
  clear hb hc
  unfold aw2
  obtain ⟨W13, hW13⟩ : ∃ x, W12.alloc (.cells #[.int .u32 2, .int .u32 1, .int .u32 6, .int .u32 1, .int .u32 1, .int .u32 1, .int .i64 1, .int .i64 0, .int .i64 0, .int .u32 0, .int .u32 0] 57) = x := ⟨_, rfl⟩
  have nQ := hide (show W13.heap[W12.heap.size]? = some (.cells #[.int .u32 2, .int .u32 1, .int .u32 6, .int .u32 1, .int .u32 1, .int .u32 1, .int .i64 1, .int .i64 0, .int .i64 0, .int .u32 0, .int .u32 0] 57 (0, 0)) by rw [← hW13]; exact NW.out _ _ rfl)
  have cA : Ch (fun _ => False) W12 W13 := by rw [← hW13]; exact Ch.alloc _ _
  have nS := hide (cA.box nS.out (fun h => h))
  have nX := hide (cA.box nX.out (fun h => h))
  have nY := hide (cA.box nY.out (fun h => h))
  have nM := hide (cA.box nM.out (fun h => h))
  have nN := hide (cA.box nN.out (fun h => h))
  have nO := hide (cA.box nO.out (fun h => h))
  have nR := hide (cA.box nR.out (fun h => h))
  have PTc := hide (face.ch PTc.out cA (fun _ _ h => h))
  have BE := hide (BE.out.trans (cA.below (N := w.heap.size) BE.out.size (fun _ _ h => h)))
  clear cA
  have HW13 := hide hW13
  clear hW13
  have nm0 : (W12.alloc (.cells #[.int .u32 2, .int .u32 1, .int .u32 6, .int .u32 1, .int .u32 1, .int .u32 1, .int .i64 1, .int .i64 0, .int .i64 0, .int .u32 0, .int .u32 0] 57)).cell? ⟨W3.heap.size, 0, none⟩ = some (.int .u32 1) := by rw [HW13.out]; simp [Lib.cell_of_heap nM.out]
  have nm1 : (W12.alloc (.cells #[.int .u32 2, .int .u32 1, .int .u32 6, .int .u32 1, .int .u32 1, .int .u32 1, .int .i64 1, .int .i64 0, .int .i64 0, .int .u32 0, .int .u32 0] 57)).cell? ⟨W3.heap.size, 1, none⟩ = some (.int .u32 1) := by rw [HW13.out]; simp [Lib.cell_of_heap nM.out]
  have nn0 : (W12.alloc (.cells #[.int .u32 2, .int .u32 1, .int .u32 6, .int .u32 1, .int .u32 1, .int .u32 1, .int .i64 1, .int .i64 0, .int .i64 0, .int .u32 0, .int .u32 0] 57)).cell? ⟨W5.heap.size, 0, none⟩ = some (.int .u32 2) := by rw [HW13.out]; simp [Lib.cell_of_heap nN.out]
  have nn1 : (W12.alloc (.cells #[.int .u32 2, .int .u32 1, .int .u32 6, .int .u32 1, .int .u32 1, .int .u32 1, .int .i64 1, .int .i64 0, .int .i64 0, .int .u32 0, .int .u32 0] 57)).cell? ⟨W5.heap.size, 1, none⟩ = some (.int .u32 1) := by rw [HW13.out]; simp [Lib.cell_of_heap nN.out]
  have nr0 : (W12.alloc (.cells #[.int .u32 2, .int .u32 1, .int .u32 6, .int .u32 1, .int .u32 1, .int .u32 1, .int .i64 1, .int .i64 0, .int .i64 0, .int .u32 0, .int .u32 0] 57)).cell? ⟨W9.heap.size, 0, none⟩ = some (.int .u32 1) := by rw [HW13.out]; simp [Lib.cell_of_heap nR.out]
  have nr1 : (W12.alloc (.cells #[.int .u32 2, .int .u32 1, .int .u32 6, .int .u32 1, .int .u32 1, .int .u32 1, .int .i64 1, .int .i64 0, .int .i64 0, .int .u32 0, .int .u32 0] 57)).cell? ⟨W9.heap.size, 1, none⟩ = some (.int .u32 1) := by rw [HW13.out]; simp [Lib.cell_of_heap nR.out]
  have nq0 : (W12.alloc (.cells #[.int .u32 2, .int .u32 1, .int .u32 6, .int .u32 1, .int .u32 1, .int .u32 1, .int .i64 1, .int .i64 0, .int .i64 0, .int .u32 0, .int .u32 0] 57)).cell? ⟨W12.heap.size, 0, none⟩ = some (.int .u32 2) := by rw [HW13.out]; simp [Lib.cell_of_heap nQ.out]
  have nq1 : (W12.alloc (.cells #[.int .u32 2, .int .u32 1, .int .u32 6, .int .u32 1, .int .u32 1, .int .u32 1, .int .i64 1, .int .i64 0, .int .i64 0, .int .u32 0, .int .u32 0] 57)).cell? ⟨W12.heap.size, 1, none⟩ = some (.int .u32 1) := by rw [HW13.out]; simp [Lib.cell_of_heap nQ.out]
  have nr8 : (W12.alloc (.cells #[.int .u32 2, .int .u32 1, .int .u32 6, .int .u32 1, .int .u32 1, .int .u32 1, .int .i64 1, .int .i64 0, .int .i64 0, .int .u32 0, .int .u32 0] 57)).cell? ⟨W9.heap.size, 8, none⟩ = some (.int .i64 3) := by rw [HW13.out]; simp [Lib.cell_of_heap nR.out]
  go_wp2_with fail
  rw [HW13.out]
  clear nm0 nm1 nn0 nn1 nr0 nr1 nq0 nq1 nr8
  refine (face.count PTc.out (by simp)).mono ?_
  rintro e W14 ⟨rfl, hb⟩
  rw [show cntW [⟨aw1, true⟩, ⟨aw2, false⟩] = 1 from rfl]
  have BE := hide (BE.out.trans (hb.mono BE.out.size))
  clear hb
  go_wp2_with fail
  go_ret
  exact ⟨rfl, BE.out⟩

end Go.Proofs.Ythnnpipekeanoaa
