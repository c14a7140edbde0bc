/- Functions, prints, selects that are read. -/
import Derived.Test.YtgheaieghoekhaaDoorDebools
import Derived.Test.YtgheaieghoekhaaDoorDeitems
import Derived.Test.YtgheaieghoekhaaDoorDeinss
namespace Go.Proofs.YtgheaieghoekhaaDoor
open Go.RowKit

set_option maxHeartbeats 2000000 in
theorem print_is {R : Nat} {l r : List UInt8} {w : World} (h : Rd R l w) (hl : l.length ≤ 140737488355328) {x : List It} (hg : gPrint l = some (x, r)) :
    Calls Tryd.prog 41 #[.pointer (some ⟨R, 0, none⟩)] w fun e w' => (∃ v, e = .returned v ∧ LstR w.heap.size w'.heap.size 2 (ItAt w') v x) ∧ Rd R r w' ∧ Keep R w w' := by
  have H := hide h
  have G := hide hg
  clear h hg
  go_enter Tryd.func41, Tryd.ntmps41
  go_wp2_with fail
  refine (list_items (unhide H) hl (unhide G)).mono ?_
  rintro e w1 ⟨⟨v, rfl, hv⟩, hR, hK⟩
  have HV := hide hv
  have HR := hide hR
  have HK := hide hK
  clear hv hR hK
  go_wp2
  go_ret
  exact ⟨⟨_, rfl, unhide HV⟩, unhide HR, unhide HK⟩

set_option maxHeartbeats 2000000 in
theorem arms_is {R : Nat} {l r : List UInt8} {w : World} (h : Rd R l w) (hl : l.length ≤ 140737488355328) {x : List Bool} (hg : gArm l = some (x, r)) :
    Calls Tryd.prog 43 #[.pointer (some ⟨R, 0, none⟩)] w fun e w' => (∃ v, e = .returned v ∧ LstR w.heap.size w'.heap.size 1 (BoAt w') v x) ∧ Rd R r w' ∧ Keep R w w' := by
  have H := hide h
  have G := hide hg
  clear h hg
  go_enter Tryd.func43, Tryd.ntmps43
  go_wp2_with fail
  refine (list_bools (unhide H) hl (unhide G)).mono ?_
  rintro e w1 ⟨⟨v, rfl, hv⟩, hR, hK⟩
  have HV := hide hv
  have HR := hide hR
  have HK := hide hK
  clear hv hR hK
  go_wp2
  go_ret
  exact ⟨⟨_, rfl, unhide HV⟩, unhide HR, unhide HK⟩

set_option maxHeartbeats 4000000 in
theorem fun_is {R : Nat} {l r : List UInt8} {w : World} (h : Rd R l w) (hl : l.length ≤ 140737488355328) {x : Fu} (hg : gFun l = some (x, r)) :
    Calls Tryd.prog 39 #[.pointer (some ⟨R, 0, none⟩)] w fun e w' => (∃ vv, e = .returned (fv x vv) ∧ LstR w.heap.size w'.heap.size 4 (InAt w') vv x.cd) ∧ Rd R r w' ∧ Keep R w w' := by
  obtain ⟨⟨x1, r1⟩, g1, hg⟩ := bind_some hg
  obtain ⟨⟨x2, r2⟩, g2, hg⟩ := bind_some hg
  obtain ⟨⟨x3, r3⟩, g3, hg⟩ := bind_some hg
  obtain ⟨⟨x4, r4⟩, g4, hg⟩ := bind_some hg
  obtain ⟨⟨x5, r5⟩, g5, hg⟩ := bind_some hg
  injection hg with hg
  injection hg with e1 e2
  subst e1 e2
  have hr4 : r4.length ≤ l.length := by
    have := len_text g1
    have := gNum_len g2
    have := gNum_len g3
    have := len_bools g4
    simp only at *
    omega
  have hRl := h.lt
  have H := hide h
  have G1 := hide g1
  have G2 := hide g2
  have G3 := hide g3
  have G4 := hide g4
  have G5 := hide g5
  clear h g1 g2 g3 g4 g5
  go_enter Tryd.func39, Tryd.ntmps39
  go_wp2_with fail
  refine (text_is ((unhide H).alloc2 _ _) hl (unhide G1)).mono ?_
  rintro e u1 ⟨rfl, hR, hK⟩
  have b1 : u1.heap[w.heap.size + 1]? = some (.cells #[.string ⟨#[]⟩, .int .i64 0, .int .i64 0, .bool false, .slice none 0 0] 51 (0, 0)) := hK.blk (new2' w _ _) (by omega)
  have b0 : u1.heap[w.heap.size]? = some (.cells #[.string ⟨#[]⟩, .int .i64 0, .int .i64 0, .bool false, .slice none 0 0] 51 (0, 0)) := hK.blk (new2 w _ _) (by omega)
  have c0 : u1.cell? ⟨w.heap.size + 1, 0, none⟩ = some (.string ⟨#[]⟩) := by rw [Lib.cell_of_heap b1]; rfl
  have c1 : u1.cell? ⟨w.heap.size + 1, 1, none⟩ = some (.int .i64 0) := by rw [Lib.cell_of_heap b1]; rfl
  have c2 : u1.cell? ⟨w.heap.size + 1, 2, none⟩ = some (.int .i64 0) := by rw [Lib.cell_of_heap b1]; rfl
  have c3 : u1.cell? ⟨w.heap.size + 1, 3, none⟩ = some (.bool false) := by rw [Lib.cell_of_heap b1]; rfl
  have c4 : u1.cell? ⟨w.heap.size + 1, 4, none⟩ = some (.slice none 0 0) := by rw [Lib.cell_of_heap b1]; rfl
  have f0 : u1.frozen? ⟨w.heap.size + 1, 0, none⟩ = false := Lib.frozen_of_heap b1 0
  have HR1 := hide hR
  have HK1 := hide ((keep_alloc2 _ _ _).trans hK)
  have HB11 := hide b1
  have HB01 := hide b0
  clear hR hK b1 b0
  go_wp2_with fail
  refine (num_is ((unhide HR1).set (show w.heap.size + 1 ≠ R by omega) 0 (.string x1)) (unhide G2) rfl (by omega)).mono ?_
  rintro e u2 ⟨rfl, hR, hK⟩
  have b1 : u2.heap[w.heap.size + 1]? = some (.cells #[.string x1, .int .i64 0, .int .i64 0, .bool false, .slice none 0 0] 51 (0, 0)) := hK.blk (heap_set (unhide HB11) 0 (.string x1)) (by omega)
  have b0 : u2.heap[w.heap.size]? = some (.cells #[.string ⟨#[]⟩, .int .i64 0, .int .i64 0, .bool false, .slice none 0 0] 51 (0, 0)) := hK.blk (heap_setO (unhide HB01) (show w.heap.size ≠ w.heap.size + 1 by omega) 0 (.string x1)) (by omega)
  have c0 : u2.cell? ⟨w.heap.size + 1, 0, none⟩ = some (.string x1) := by rw [Lib.cell_of_heap b1]; rfl
  have c1 : u2.cell? ⟨w.heap.size + 1, 1, none⟩ = some (.int .i64 0) := by rw [Lib.cell_of_heap b1]; rfl
  have c2 : u2.cell? ⟨w.heap.size + 1, 2, none⟩ = some (.int .i64 0) := by rw [Lib.cell_of_heap b1]; rfl
  have c3 : u2.cell? ⟨w.heap.size + 1, 3, none⟩ = some (.bool false) := by rw [Lib.cell_of_heap b1]; rfl
  have c4 : u2.cell? ⟨w.heap.size + 1, 4, none⟩ = some (.slice none 0 0) := by rw [Lib.cell_of_heap b1]; rfl
  have f1 : u2.frozen? ⟨w.heap.size + 1, 1, none⟩ = false := Lib.frozen_of_heap b1 1
  have HR2 := hide hR
  have HK2 := hide (((unhide HK1).setN (show w.heap.size ≤ w.heap.size + 1 by omega) 0 (.string x1)).trans hK)
  have HB12 := hide b1
  have HB02 := hide b0
  clear hR hK b1 b0
  go_wp2_with fail
  refine (num_is ((unhide HR2).set (show w.heap.size + 1 ≠ R by omega) 1 (.int .i64 x2)) (unhide G3) rfl (by omega)).mono ?_
  rintro e u3 ⟨rfl, hR, hK⟩
  have b1 : u3.heap[w.heap.size + 1]? = some (.cells #[.string x1, .int .i64 x2, .int .i64 0, .bool false, .slice none 0 0] 51 (0, 0)) := hK.blk (heap_set (unhide HB12) 1 (.int .i64 x2)) (by omega)
  have b0 : u3.heap[w.heap.size]? = some (.cells #[.string ⟨#[]⟩, .int .i64 0, .int .i64 0, .bool false, .slice none 0 0] 51 (0, 0)) := hK.blk (heap_setO (unhide HB02) (show w.heap.size ≠ w.heap.size + 1 by omega) 1 (.int .i64 x2)) (by omega)
  have c0 : u3.cell? ⟨w.heap.size + 1, 0, none⟩ = some (.string x1) := by rw [Lib.cell_of_heap b1]; rfl
  have c1 : u3.cell? ⟨w.heap.size + 1, 1, none⟩ = some (.int .i64 x2) := by rw [Lib.cell_of_heap b1]; rfl
  have c2 : u3.cell? ⟨w.heap.size + 1, 2, none⟩ = some (.int .i64 0) := by rw [Lib.cell_of_heap b1]; rfl
  have c3 : u3.cell? ⟨w.heap.size + 1, 3, none⟩ = some (.bool false) := by rw [Lib.cell_of_heap b1]; rfl
  have c4 : u3.cell? ⟨w.heap.size + 1, 4, none⟩ = some (.slice none 0 0) := by rw [Lib.cell_of_heap b1]; rfl
  have f2 : u3.frozen? ⟨w.heap.size + 1, 2, none⟩ = false := Lib.frozen_of_heap b1 2
  have HR3 := hide hR
  have HK3 := hide (((unhide HK2).setN (show w.heap.size ≤ w.heap.size + 1 by omega) 1 (.int .i64 x2)).trans hK)
  have HB13 := hide b1
  have HB03 := hide b0
  clear hR hK b1 b0
  go_wp2_with fail
  refine (flag_is ((unhide HR3).set (show w.heap.size + 1 ≠ R by omega) 2 (.int .i64 x3)) (unhide G4)).mono ?_
  rintro e u4 ⟨rfl, hR, hK⟩
  have b1 : u4.heap[w.heap.size + 1]? = some (.cells #[.string x1, .int .i64 x2, .int .i64 x3, .bool false, .slice none 0 0] 51 (0, 0)) := hK.blk (heap_set (unhide HB13) 2 (.int .i64 x3)) (by omega)
  have b0 : u4.heap[w.heap.size]? = some (.cells #[.string ⟨#[]⟩, .int .i64 0, .int .i64 0, .bool false, .slice none 0 0] 51 (0, 0)) := hK.blk (heap_setO (unhide HB03) (show w.heap.size ≠ w.heap.size + 1 by omega) 2 (.int .i64 x3)) (by omega)
  have c0 : u4.cell? ⟨w.heap.size + 1, 0, none⟩ = some (.string x1) := by rw [Lib.cell_of_heap b1]; rfl
  have c1 : u4.cell? ⟨w.heap.size + 1, 1, none⟩ = some (.int .i64 x2) := by rw [Lib.cell_of_heap b1]; rfl
  have c2 : u4.cell? ⟨w.heap.size + 1, 2, none⟩ = some (.int .i64 x3) := by rw [Lib.cell_of_heap b1]; rfl
  have c3 : u4.cell? ⟨w.heap.size + 1, 3, none⟩ = some (.bool false) := by rw [Lib.cell_of_heap b1]; rfl
  have c4 : u4.cell? ⟨w.heap.size + 1, 4, none⟩ = some (.slice none 0 0) := by rw [Lib.cell_of_heap b1]; rfl
  have f3 : u4.frozen? ⟨w.heap.size + 1, 3, none⟩ = false := Lib.frozen_of_heap b1 3
  have HR4 := hide hR
  have HK4 := hide (((unhide HK3).setN (show w.heap.size ≤ w.heap.size + 1 by omega) 2 (.int .i64 x3)).trans hK)
  have HB14 := hide b1
  have HS4 := hide (show w.heap.size + 1 < u4.heap.size from (Array.getElem?_eq_some_iff.1 b1).1)
  have HB04 := hide b0
  clear hR hK b1 b0
  go_wp2_with fail
  refine (list_inss ((unhide HR4).set (show w.heap.size + 1 ≠ R by omega) 3 (.bool x4)) (by omega) (unhide G5)).mono ?_
  rintro e u5 ⟨⟨vv, rfl, hvv⟩, hR, hK⟩
  have HVV := hide hvv
  obtain ⟨vb, vo, ⟨va, vc, rfl, -⟩, -⟩ := hvv
  have b1 : u5.heap[w.heap.size + 1]? = some (.cells #[.string x1, .int .i64 x2, .int .i64 x3, .bool x4, .slice none 0 0] 51 (0, 0)) := hK.blk (heap_set (unhide HB14) 3 (.bool x4)) (by omega)
  have b0 : u5.heap[w.heap.size]? = some (.cells #[.string ⟨#[]⟩, .int .i64 0, .int .i64 0, .bool false, .slice none 0 0] 51 (0, 0)) := hK.blk (heap_setO (unhide HB04) (show w.heap.size ≠ w.heap.size + 1 by omega) 3 (.bool x4)) (by omega)
  have c0 : u5.cell? ⟨w.heap.size + 1, 0, none⟩ = some (.string x1) := by rw [Lib.cell_of_heap b1]; rfl
  have c1 : u5.cell? ⟨w.heap.size + 1, 1, none⟩ = some (.int .i64 x2) := by rw [Lib.cell_of_heap b1]; rfl
  have c2 : u5.cell? ⟨w.heap.size + 1, 2, none⟩ = some (.int .i64 x3) := by rw [Lib.cell_of_heap b1]; rfl
  have c3 : u5.cell? ⟨w.heap.size + 1, 3, none⟩ = some (.bool x4) := by rw [Lib.cell_of_heap b1]; rfl
  have c4 : u5.cell? ⟨w.heap.size + 1, 4, none⟩ = some (.slice none 0 0) := by rw [Lib.cell_of_heap b1]; rfl
  have f4 : u5.frozen? ⟨w.heap.size + 1, 4, none⟩ = false := Lib.frozen_of_heap b1 4
  have HR5 := hide hR
  have HK5 := hide (((unhide HK4).setN (show w.heap.size ≤ w.heap.size + 1 by omega) 3 (.bool x4)).trans hK)
  have HB15 := hide b1
  have HB05 := hide b0
  clear hR hK b1 b0
  have z0 : u5.cell? ⟨w.heap.size, 0, none⟩ = some (.string ⟨#[]⟩) := by rw [Lib.cell_of_heap (unhide HB05)]; rfl
  have z1 : u5.cell? ⟨w.heap.size, 1, none⟩ = some (.int .i64 0) := by rw [Lib.cell_of_heap (unhide HB05)]; rfl
  have z2 : u5.cell? ⟨w.heap.size, 2, none⟩ = some (.int .i64 0) := by rw [Lib.cell_of_heap (unhide HB05)]; rfl
  have z3 : u5.cell? ⟨w.heap.size, 3, none⟩ = some (.bool false) := by rw [Lib.cell_of_heap (unhide HB05)]; rfl
  have z4 : u5.cell? ⟨w.heap.size, 4, none⟩ = some (.slice none 0 0) := by rw [Lib.cell_of_heap (unhide HB05)]; rfl
  have y0 : ∀ j, u5.frozen? ⟨w.heap.size, j, none⟩ = false := Lib.frozen_of_heap (unhide HB05)
  go_wp2
  refine bodyPost_ret (v := fv ⟨x1, x2, x3, x4, x5⟩ (.slice va x5.length vc)) (by simp [results, Tryd.results39, go_sem, z0, z1, z2, z3, z4]) rfl ⟨⟨_, rfl, ?_⟩, ?_, ?_⟩
  · have hs4 := (unhide HK4).size
    exact (unhide HVV).imp (show w.heap.size ≤ _ by simp [World.setCell]; omega) (by simp [World.setCell]) fun b o y h1 h2 => InAt.same (B := w.heap.size + 2) (M := u5.heap.size) (fun b o h1 h2 => (set_cellB (((((u5.setCell ⟨w.heap.size + 1, 4, none⟩ (.slice va x5.length vc)).setCell ⟨w.heap.size, 0, none⟩ (.string x1)).setCell ⟨w.heap.size, 1, none⟩ (.int .i64 x2)).setCell ⟨w.heap.size, 2, none⟩ (.int .i64 x3)).setCell ⟨w.heap.size, 3, none⟩ (.bool x4)) w.heap.size 4 (.slice va x5.length vc) (show b ≠ w.heap.size by omega) o).trans ((set_cellB ((((u5.setCell ⟨w.heap.size + 1, 4, none⟩ (.slice va x5.length vc)).setCell ⟨w.heap.size, 0, none⟩ (.string x1)).setCell ⟨w.heap.size, 1, none⟩ (.int .i64 x2)).setCell ⟨w.heap.size, 2, none⟩ (.int .i64 x3)) w.heap.size 3 (.bool x4) (show b ≠ w.heap.size by omega) o).trans ((set_cellB (((u5.setCell ⟨w.heap.size + 1, 4, none⟩ (.slice va x5.length vc)).setCell ⟨w.heap.size, 0, none⟩ (.string x1)).setCell ⟨w.heap.size, 1, none⟩ (.int .i64 x2)) w.heap.size 2 (.int .i64 x3) (show b ≠ w.heap.size by omega) o).trans ((set_cellB ((u5.setCell ⟨w.heap.size + 1, 4, none⟩ (.slice va x5.length vc)).setCell ⟨w.heap.size, 0, none⟩ (.string x1)) w.heap.size 1 (.int .i64 x2) (show b ≠ w.heap.size by omega) o).trans ((set_cellB (u5.setCell ⟨w.heap.size + 1, 4, none⟩ (.slice va x5.length vc)) w.heap.size 0 (.string x1) (show b ≠ w.heap.size by omega) o).trans (set_cellB u5 (w.heap.size + 1) 4 (.slice va x5.length vc) (show b ≠ w.heap.size + 1 by omega) o)))))) (by have := h1; simp [World.setCell] at this; have := (unhide HS4); omega) h2
  · exact (((((((unhide HR5).set (show w.heap.size + 1 ≠ R by omega) _ _).set (show w.heap.size ≠ R by omega) _ _).set (show w.heap.size ≠ R by omega) _ _).set (show w.heap.size ≠ R by omega) _ _).set (show w.heap.size ≠ R by omega) _ _).set (show w.heap.size ≠ R by omega) _ _)
  · exact (((((((unhide HK5).setN (show w.heap.size ≤ w.heap.size + 1 by omega) _ _).setN (Nat.le_refl _) _ _).setN (Nat.le_refl _) _ _).setN (Nat.le_refl _) _ _).setN (Nat.le_refl _) _ _).setN (Nat.le_refl _) _ _)

end Go.Proofs.YtgheaieghoekhaaDoor
