/- What is read: instructions, items. -/
import Derived.Test.YtgheaieghoekhaaDoorDb
namespace Go.Proofs.YtgheaieghoekhaaDoor
open Go.RowKit

theorem Keep.setN {R : Nat} {w w' : World} (h : Keep R w w') {B : Nat} (hB : w.heap.size ≤ B) (i : Nat) (v : Value) : Keep R w (w'.setCell ⟨B, i, none⟩ v) :=
  ⟨h.os, h.tape, h.output, by have := h.size; simp [World.setCell]; omega, fun k hk hne => (Below.heap_setCell _ _ _ _ (show k ≠ B by omega)).trans (h.block k hk hne)⟩
theorem Rd.set {R : Nat} {l : List UInt8} {w : World} (h : Rd R l w) {B : Nat} (hB : B ≠ R) (i : Nat) (v : Value) : Rd R l (w.setCell ⟨B, i, none⟩ v) := by
  obtain ⟨s, h1, h2⟩ := h
  exact ⟨s, h1, (Below.heap_setCell _ _ _ _ (show R ≠ B from fun e => hB e.symm)).trans h2⟩
theorem heap_set {w : World} {B : Nat} {cs : Array Value} {T : TypeId} (h : w.heap[B]? = some (.cells cs T (0, 0))) (i : Nat) (v : Value) : (w.setCell ⟨B, i, none⟩ v).heap[B]? = some (.cells (cs.setIfInBounds i v) T (0, 0)) := by
  simp [World.setCell, Array.getElem?_modify, h]
theorem heap_setO {w : World} {B C : Nat} {o : Option Obj} (h : w.heap[B]? = o) (hne : B ≠ C) (i : Nat) (v : Value) : (w.setCell ⟨C, i, none⟩ v).heap[B]? = o := (Below.heap_setCell _ _ _ _ hne).trans h
theorem Keep.blk {R : Nat} {w w' : World} (h : Keep R w w') {B : Nat} {o : Obj} (hb : w.heap[B]? = some o) (hne : B ≠ R) : w'.heap[B]? = some o :=
  (h.block B (Array.getElem?_eq_some_iff.1 hb).1 (fun e => by cases e; exact hne rfl)).trans hb
theorem new2 (w : World) (o o' : Obj) : ((w.alloc o).alloc o').heap[w.heap.size]? = some o := by rw [Below.heap_alloc _ _ _ (by simp)]; exact heap_new w o
theorem new2' (w : World) (o o' : Obj) : ((w.alloc o).alloc o').heap[w.heap.size + 1]? = some o' := by have := heap_new (w.alloc o) o'; rwa [World.size_alloc] at this

theorem keep_alloc2 {R : Nat} (w : World) (o o' : Obj) : Keep R w ((w.alloc o).alloc o') := Keep.of_below (below2 w o o')
theorem Rd.alloc2 {R : Nat} {l : List UInt8} {w : World} (h : Rd R l w) (o o' : Obj) : Rd R l ((w.alloc o).alloc o') := h.below (below2 w o o')

theorem sizeT {P : Program} {T : TypeId} {n : Nat} (h : (P.info? T).map (·.size) = some n) : ∃ i, P.info? T = some i ∧ i.size = n := Option.map_eq_some_iff.1 h

set_option maxHeartbeats 4000000 in
theorem ins_is {R : Nat} {l r : List UInt8} {w : World} (h : Rd R l w) {x : In} (hg : gIns l = some (x, r)) :
    Calls Tryd.prog 67 #[.pointer (some ⟨R, 0, none⟩)] w fun e w' => e = .returned (iv x) ∧ Rd R r w' ∧ Keep R w w' := by
  obtain ⟨⟨x1, r1⟩, g1, hg⟩ := bind_some hg
  obtain ⟨⟨x2, r2⟩, g2, hg⟩ := bind_some hg
  obtain ⟨⟨x3, r3⟩, g3, hg⟩ := bind_some hg
  obtain ⟨⟨x4, r4⟩, g4, hg⟩ := bind_some hg
  injection hg with hg
  injection hg with e1 e2
  subst e1 e2
  have hRl := h.lt
  have H := hide h
  have G1 := hide g1
  have G2 := hide g2
  have G3 := hide g3
  have G4 := hide g4
  clear h g1 g2 g3 g4
  go_enter Tryd.func67, Tryd.ntmps67
  go_wp2_with fail
  refine (num_is ((unhide H).alloc2 _ _) (unhide G1) rfl (by omega)).mono ?_
  rintro e u1 ⟨rfl, hR, hK⟩
  have b1 : u1.heap[w.heap.size + 1]? = some (.cells #[.int .i64 0, .int .i64 0, .int .i64 0, .int .i64 0] 29 (0, 0)) := hK.blk (new2' w _ _) (by omega)
  have b0 : u1.heap[w.heap.size]? = some (.cells #[.int .i64 0, .int .i64 0, .int .i64 0, .int .i64 0] 29 (0, 0)) := hK.blk (new2 w _ _) (by omega)
  have c0 : u1.cell? ⟨w.heap.size + 1, 0, none⟩ = some (.int .i64 0) := by rw [Lib.cell_of_heap b1]; rfl
  have c1 : u1.cell? ⟨w.heap.size + 1, 1, none⟩ = some (.int .i64 0) := by rw [Lib.cell_of_heap b1]; rfl
  have c2 : u1.cell? ⟨w.heap.size + 1, 2, none⟩ = some (.int .i64 0) := by rw [Lib.cell_of_heap b1]; rfl
  have c3 : u1.cell? ⟨w.heap.size + 1, 3, none⟩ = some (.int .i64 0) := by rw [Lib.cell_of_heap b1]; rfl
  have f0 : u1.frozen? ⟨w.heap.size + 1, 0, none⟩ = false := Lib.frozen_of_heap b1 0
  have HR1 := hide hR
  have HK1 := hide ((keep_alloc2 _ _ _).trans hK)
  have HB11 := hide b1
  have HB01 := hide b0
  clear hR hK b1 b0
  go_wp2_with fail
  refine (num_is ((unhide HR1).set (show w.heap.size + 1 ≠ R by omega) 0 (.int .i64 x1)) (unhide G2) rfl (by omega)).mono ?_
  rintro e u2 ⟨rfl, hR, hK⟩
  have b1 : u2.heap[w.heap.size + 1]? = some (.cells #[.int .i64 x1, .int .i64 0, .int .i64 0, .int .i64 0] 29 (0, 0)) := hK.blk (heap_set (unhide HB11) 0 (.int .i64 x1)) (by omega)
  have b0 : u2.heap[w.heap.size]? = some (.cells #[.int .i64 0, .int .i64 0, .int .i64 0, .int .i64 0] 29 (0, 0)) := hK.blk (heap_setO (unhide HB01) (show w.heap.size ≠ w.heap.size + 1 by omega) 0 (.int .i64 x1)) (by omega)
  have c0 : u2.cell? ⟨w.heap.size + 1, 0, none⟩ = some (.int .i64 x1) := by rw [Lib.cell_of_heap b1]; rfl
  have c1 : u2.cell? ⟨w.heap.size + 1, 1, none⟩ = some (.int .i64 0) := by rw [Lib.cell_of_heap b1]; rfl
  have c2 : u2.cell? ⟨w.heap.size + 1, 2, none⟩ = some (.int .i64 0) := by rw [Lib.cell_of_heap b1]; rfl
  have c3 : u2.cell? ⟨w.heap.size + 1, 3, none⟩ = some (.int .i64 0) := by rw [Lib.cell_of_heap b1]; rfl
  have f1 : u2.frozen? ⟨w.heap.size + 1, 1, none⟩ = false := Lib.frozen_of_heap b1 1
  have HR2 := hide hR
  have HK2 := hide (((unhide HK1).setN (show w.heap.size ≤ w.heap.size + 1 by omega) 0 (.int .i64 x1)).trans hK)
  have HB12 := hide b1
  have HB02 := hide b0
  clear hR hK b1 b0
  go_wp2_with fail
  refine (num_is ((unhide HR2).set (show w.heap.size + 1 ≠ R by omega) 1 (.int .i64 x2)) (unhide G3) rfl (by omega)).mono ?_
  rintro e u3 ⟨rfl, hR, hK⟩
  have b1 : u3.heap[w.heap.size + 1]? = some (.cells #[.int .i64 x1, .int .i64 x2, .int .i64 0, .int .i64 0] 29 (0, 0)) := hK.blk (heap_set (unhide HB12) 1 (.int .i64 x2)) (by omega)
  have b0 : u3.heap[w.heap.size]? = some (.cells #[.int .i64 0, .int .i64 0, .int .i64 0, .int .i64 0] 29 (0, 0)) := hK.blk (heap_setO (unhide HB02) (show w.heap.size ≠ w.heap.size + 1 by omega) 1 (.int .i64 x2)) (by omega)
  have c0 : u3.cell? ⟨w.heap.size + 1, 0, none⟩ = some (.int .i64 x1) := by rw [Lib.cell_of_heap b1]; rfl
  have c1 : u3.cell? ⟨w.heap.size + 1, 1, none⟩ = some (.int .i64 x2) := by rw [Lib.cell_of_heap b1]; rfl
  have c2 : u3.cell? ⟨w.heap.size + 1, 2, none⟩ = some (.int .i64 0) := by rw [Lib.cell_of_heap b1]; rfl
  have c3 : u3.cell? ⟨w.heap.size + 1, 3, none⟩ = some (.int .i64 0) := by rw [Lib.cell_of_heap b1]; rfl
  have f2 : u3.frozen? ⟨w.heap.size + 1, 2, none⟩ = false := Lib.frozen_of_heap b1 2
  have HR3 := hide hR
  have HK3 := hide (((unhide HK2).setN (show w.heap.size ≤ w.heap.size + 1 by omega) 1 (.int .i64 x2)).trans hK)
  have HB13 := hide b1
  have HB03 := hide b0
  clear hR hK b1 b0
  go_wp2_with fail
  refine (num_is ((unhide HR3).set (show w.heap.size + 1 ≠ R by omega) 2 (.int .i64 x3)) (unhide G4) rfl (by omega)).mono ?_
  rintro e u4 ⟨rfl, hR, hK⟩
  have b1 : u4.heap[w.heap.size + 1]? = some (.cells #[.int .i64 x1, .int .i64 x2, .int .i64 x3, .int .i64 0] 29 (0, 0)) := hK.blk (heap_set (unhide HB13) 2 (.int .i64 x3)) (by omega)
  have b0 : u4.heap[w.heap.size]? = some (.cells #[.int .i64 0, .int .i64 0, .int .i64 0, .int .i64 0] 29 (0, 0)) := hK.blk (heap_setO (unhide HB03) (show w.heap.size ≠ w.heap.size + 1 by omega) 2 (.int .i64 x3)) (by omega)
  have c0 : u4.cell? ⟨w.heap.size + 1, 0, none⟩ = some (.int .i64 x1) := by rw [Lib.cell_of_heap b1]; rfl
  have c1 : u4.cell? ⟨w.heap.size + 1, 1, none⟩ = some (.int .i64 x2) := by rw [Lib.cell_of_heap b1]; rfl
  have c2 : u4.cell? ⟨w.heap.size + 1, 2, none⟩ = some (.int .i64 x3) := by rw [Lib.cell_of_heap b1]; rfl
  have c3 : u4.cell? ⟨w.heap.size + 1, 3, none⟩ = some (.int .i64 0) := by rw [Lib.cell_of_heap b1]; rfl
  have f3 : u4.frozen? ⟨w.heap.size + 1, 3, none⟩ = false := Lib.frozen_of_heap b1 3
  have HR4 := hide hR
  have HK4 := hide (((unhide HK3).setN (show w.heap.size ≤ w.heap.size + 1 by omega) 2 (.int .i64 x3)).trans hK)
  have HB14 := hide b1
  have HB04 := hide b0
  clear hR hK b1 b0
  have z0 : u4.cell? ⟨w.heap.size, 0, none⟩ = some (.int .i64 0) := by rw [Lib.cell_of_heap (unhide HB04)]; rfl
  have z1 : u4.cell? ⟨w.heap.size, 1, none⟩ = some (.int .i64 0) := by rw [Lib.cell_of_heap (unhide HB04)]; rfl
  have z2 : u4.cell? ⟨w.heap.size, 2, none⟩ = some (.int .i64 0) := by rw [Lib.cell_of_heap (unhide HB04)]; rfl
  have z3 : u4.cell? ⟨w.heap.size, 3, none⟩ = some (.int .i64 0) := by rw [Lib.cell_of_heap (unhide HB04)]; rfl
  have y0 : ∀ j, u4.frozen? ⟨w.heap.size, j, none⟩ = false := Lib.frozen_of_heap (unhide HB04)
  go_wp2
  refine bodyPost_ret (v := iv ⟨x1, x2, x3, x4⟩) (by simp [results, Tryd.results67, go_sem, z0, z1, z2, z3]) rfl ⟨rfl, ?_, ?_⟩
  · exact (((((unhide HR4).set (show w.heap.size + 1 ≠ R by omega) _ _).set (show w.heap.size ≠ R by omega) _ _).set (show w.heap.size ≠ R by omega) _ _).set (show w.heap.size ≠ R by omega) _ _).set (show w.heap.size ≠ R by omega) _ _
  · exact (((((unhide HK4).setN (show w.heap.size ≤ w.heap.size + 1 by omega) _ _).setN (Nat.le_refl _) _ _).setN (Nat.le_refl _) _ _).setN (Nat.le_refl _) _ _).setN (Nat.le_refl _) _ _

theorem infoIt : (Tryd.prog.info? 64).map (·.size) = some 2 := by kernel_rfl

set_option maxHeartbeats 4000000 in
theorem item_is {R : Nat} {l r : List UInt8} {w : World} (h : Rd R l w) (hl : l.length ≤ 140737488355328) {x : It} (hg : gItem l = some (x, r)) :
    Calls Tryd.prog 69 #[.pointer (some ⟨R, 0, none⟩)] w fun e w' => e = .returned (.agg #[.int .i64 x.k, .string x.t]) ∧ Rd R r w' ∧ Keep R w w' := by
  obtain ⟨⟨k, r1⟩, g1, hg⟩ := bind_some hg
  simp only at hg
  have hr1 : r1.length ≤ l.length := by rw [(gNum_some g1).2.2, List.length_drop]; omega
  have hRl := h.lt
  have H := hide (h.below (below1 w (.cells #[.int .i64 0, .string ⟨#[]⟩] 64)))
  have HB := hide (heap_new w (.cells #[.int .i64 0, .string ⟨#[]⟩] 64))
  have HK0 := hide (Keep.of_below (C := R) (below1 w (.cells #[.int .i64 0, .string ⟨#[]⟩] 64)))
  have G1 := hide g1
  clear h g1
  by_cases c1 : k = 1
  · rw [if_pos c1] at hg
    obtain ⟨⟨t, r2⟩, g2, hg⟩ := bind_some hg
    injection hg with hg
    injection hg with e1 e2
    subst e1 e2 c1
    have G2 := hide g2
    clear g2
    go_enter Tryd.func69, Tryd.ntmps69
    go_wp2_with fail
    refine (num_is (unhide H) (unhide G1) rfl (by omega)).mono ?_
    rintro e u1 ⟨rfl, hR1, hK1⟩
    have b0 := hK1.blk (unhide HB) (by omega)
    have hs1 := hK1.size
    rw [World.size_alloc] at hs1
    have HR1 := hide hR1
    have HK1 := hide ((unhide HK0).trans hK1)
    have HB1 := hide b0
    clear hR1 hK1 b0
    go_wp2_with fail
    refine (text_is ((unhide HR1).below (below1 u1 _)) (by omega) (unhide G2)).mono ?_
    rintro e u2 ⟨rfl, hR2, hK2⟩
    have b1 := hK2.blk (heap_new u1 _) (by omega)
    have b0 := hK2.blk ((Below.heap_alloc u1 _ _ (by omega)).trans (unhide HB1)) (by omega)
    have c0 : u2.cell? ⟨u1.heap.size, 0, none⟩ = some (.int .i64 1) := by rw [Lib.cell_of_heap b1]; rfl
    have c1 : u2.cell? ⟨u1.heap.size, 1, none⟩ = some (.string ⟨#[]⟩) := by rw [Lib.cell_of_heap b1]; rfl
    have f1 : u2.frozen? ⟨u1.heap.size, 1, none⟩ = false := Lib.frozen_of_heap b1 1
    have z0 : u2.cell? ⟨w.heap.size, 0, none⟩ = some (.int .i64 0) := by rw [Lib.cell_of_heap b0]; rfl
    have z1 : u2.cell? ⟨w.heap.size, 1, none⟩ = some (.string ⟨#[]⟩) := by rw [Lib.cell_of_heap b0]; rfl
    have y0 : ∀ j, u2.frozen? ⟨w.heap.size, j, none⟩ = false := Lib.frozen_of_heap b0
    have hne : ¬ w.heap.size = u1.heap.size := by omega
    have hne' : ¬ u1.heap.size = w.heap.size := by omega
    have HR2 := hide hR2
    have HK2 := hide (((unhide HK1).trans (Keep.of_below (below1 u1 _))).trans hK2)
    clear hR2 hK2 b1 b0
    go_wp2
    refine bodyPost_ret (v := .agg #[.int .i64 1, .string t]) (by simp [results, Tryd.results69, go_sem, z0, z1]) rfl ⟨rfl, ?_, ?_⟩
    · exact ((((unhide HR2).set (show u1.heap.size ≠ R by omega) _ _).set (show w.heap.size ≠ R by omega) _ _).set (show w.heap.size ≠ R by omega) _ _)
    · exact (((unhide HK2).setN (show w.heap.size ≤ u1.heap.size by omega) _ _).setN (Nat.le_refl _) _ _).setN (Nat.le_refl _) _ _
  · rw [if_neg c1] at hg
    injection hg with hg
    injection hg with e1 e2
    subst e1 e2
    have q : (k == 1) = false := by simpa using c1
    clear c1
    go_enter Tryd.func69, Tryd.ntmps69
    go_wp2_with fail
    refine (num_is (unhide H) (unhide G1) rfl (by omega)).mono ?_
    rintro e u1 ⟨rfl, hR1, hK1⟩
    have b0 := hK1.blk (unhide HB) (by omega)
    have hs1 := hK1.size
    rw [World.size_alloc] at hs1
    have z0 : u1.cell? ⟨w.heap.size, 0, none⟩ = some (.int .i64 0) := by rw [Lib.cell_of_heap b0]; rfl
    have z1 : u1.cell? ⟨w.heap.size, 1, none⟩ = some (.string ⟨#[]⟩) := by rw [Lib.cell_of_heap b0]; rfl
    have y0 : ∀ j, u1.frozen? ⟨w.heap.size, j, none⟩ = false := Lib.frozen_of_heap b0
    have hlt : w.heap.size < u1.heap.size := by omega
    have HR1 := hide hR1
    have HK1 := hide ((unhide HK0).trans hK1)
    clear hR1 hK1 b0
    go_wp2
    refine bodyPost_ret (v := .agg #[.int .i64 k, .string ⟨#[]⟩]) (by simp [results, Tryd.results69, go_sem, z0, z1, hlt]) rfl ⟨rfl, ?_, ?_⟩
    · exact ((((unhide HR1).set (show w.heap.size ≠ R by omega) _ _).set (show w.heap.size ≠ R by omega) _ _)).below (below1 _ _)
    · exact (((unhide HK1).setN (Nat.le_refl _) _ _).setN (Nat.le_refl _) _ _).trans (Keep.of_below (below1 _ _))

end Go.Proofs.YtgheaieghoekhaaDoor
