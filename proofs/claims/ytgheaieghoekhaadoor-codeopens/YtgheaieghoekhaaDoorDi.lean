/- Decode of the bytes of a right program. -/
import Derived.Test.YtgheaieghoekhaaDoorDh
import Derived.Tactics2
import Derived.Defers
import Derived.Recover
namespace Go.Proofs.YtgheaieghoekhaaDoor
open Go.RowKit

set_option maxHeartbeats 1000000 in
theorem catch_idle (a b : Value) (w : World) :
    CallsD Tryd.prog 20 #[a, b] .returning w fun e u' w' => e = .returned (.tuple #[]) ∧ u' = .returning ∧ w' = w := by
  refine callsD_of_wpS Tryd.func20 rfl fun c₀ cs hu => ?_
  apply wpS_seq
  apply wpS_region
  simp [wpOpsS, go_sem, recoverD, hu, Tryd.ntmps20, Exit.thenS]
  apply wpS_seq
  refine wpS_of_wp ?_
  go_wp2
  refine wpS_cond (t := false) (by simp [Act.eval, Array.replicate]) ?_
  simp only [Bool.false_eq_true, if_false]
  refine wpS_of_wp (wp_skip ?_)
  cases c₀
  simp_all [bodyPostS, results, Tryd.results20]

theorem new3 (w : World) (o o' o'' : Obj) : (((w.alloc o).alloc o').alloc o'').heap[w.heap.size]? = some o := by rw [Below.heap_alloc _ _ _ (by simp; omega)]; exact new2 w o o'
theorem new3' (w : World) (o o' o'' : Obj) : (((w.alloc o).alloc o').alloc o'').heap[w.heap.size + 1]? = some o' := by rw [Below.heap_alloc _ _ _ (by simp)]; exact new2' w o o'
theorem new3'' (w : World) (o o' o'' : Obj) : (((w.alloc o).alloc o').alloc o'').heap[w.heap.size + 2]? = some o'' := by have := heap_new ((w.alloc o).alloc o') o''; rwa [World.size_alloc, World.size_alloc] at this

theorem put_below {B D : Nat} : ∀ {w w' : World} (o : Nat) (vs : List Value), Below B w w' → B ≤ D → Below B w (put w' D o vs)
  | _, _, _, [], h, _ => h
  | _, _, o, v :: vs, h, hD => put_below (o + 1) vs (h.setCell (p := ⟨D, o, none⟩) hD v) hD

theorem Keep.belowR {R : Nat} {w w' : World} (h : Keep R w w') {N : Nat} (hN : N ≤ w.heap.size) (hR : N ≤ R) : Below N w w' := h.belowN hR hN

set_option maxHeartbeats 8000000 in
theorem decode_ok {w : World} (hT : Tb w) (hG : 0 < w.heap.size) (s : ByteArray) (hl : s.size ≤ 140737488355328) {p : Pg} (hg : gProg s.data.toList = some p) {b c : Int} (hc : chk p = (0, b, c)) :
    Calls Tryd.prog 9 #[.string s] w fun e w' => (∃ v1 v2 v3, e = .returned (.tuple #[pv v1 v2 v3 p.mn, .int .i64 0]) ∧ PgR w.heap.size w' v1 v2 v3 p) ∧ Below w.heap.size w w' := by
  have hmf : ∀ (fn : Fn) (first cap : Array Value) (w : World), (Instr.makeFunc fn first cap).run Tryd.prog w = .ok (.func fn first cap) w := fun _ _ _ _ => rfl
  obtain ⟨W, hW⟩ : ∃ W, W = ((w.alloc (.cells #[.slice none 0 0, .slice none 0 0, .slice none 0 0, .int .i64 0] 26)).alloc (.cells #[.int .i64 0] 34)).alloc (.cells #[.string s] 67) := ⟨_, rfl⟩
  have hB : Below w.heap.size w W := by rw [hW]; exact below3 w _ _ _
  have hsW : W.heap.size = w.heap.size + 3 := by rw [hW]; simp
  have HB0 := hide (show W.heap[w.heap.size]? = some (.cells #[.slice none 0 0, .slice none 0 0, .slice none 0 0, .int .i64 0] 26 (0, 0)) by rw [hW]; exact new3 w _ _ _)
  have HB1 := hide (show W.heap[w.heap.size + 1]? = some (.cells #[.int .i64 0] 34 (0, 0)) by rw [hW]; exact new3' w _ _ _)
  have HRd := hide (show Rd (w.heap.size + 2) s.data.toList W from ⟨s, rfl, by rw [hW]; exact new3'' w _ _ _⟩)
  have HW := hide hW
  have HB := hide hB
  have HT := hide hT
  have HC := hide hc
  have HGp := hide hg
  clear hW hB hT hc hg
  go_enter_defers Tryd.func9, Tryd.ntmps9
  go_wp2_with fail
  rw [← unhide HW]
  refine (prog_is (unhide HRd) (by rw [← size_list]; exact hl) (unhide HGp)).mono ?_
  rintro e u1 ⟨⟨v1, v2, v3, rfl, hP⟩, hK⟩
  have b0 := hK.blk (unhide HB0) (by omega)
  have b1 := hK.blk (unhide HB1) (by omega)
  have hs1 := hK.size
  have HP := hide hP
  obtain ⟨⟨y1, o1, ⟨a1, c1, rfl, -⟩, -⟩, ⟨y2, o2, ⟨a2, c2, rfl, -⟩, -⟩, ⟨y3, o3, ⟨a3, c3, rfl, -⟩, -⟩⟩ := hP
  have z0 : u1.cell? ⟨w.heap.size, 0, none⟩ = some (.slice none 0 0) := by rw [Lib.cell_of_heap b0]; rfl
  have z1 : u1.cell? ⟨w.heap.size, 1, none⟩ = some (.slice none 0 0) := by rw [Lib.cell_of_heap b0]; rfl
  have z2 : u1.cell? ⟨w.heap.size, 2, none⟩ = some (.slice none 0 0) := by rw [Lib.cell_of_heap b0]; rfl
  have z3 : u1.cell? ⟨w.heap.size, 3, none⟩ = some (.int .i64 0) := by rw [Lib.cell_of_heap b0]; rfl
  have y0 : ∀ j, u1.frozen? ⟨w.heap.size, j, none⟩ = false := Lib.frozen_of_heap b0
  obtain ⟨W5, hW5⟩ : ∃ W5, W5 = put u1 w.heap.size 0 [.slice a1 p.fs.length c1, .slice a2 p.ps.length c2, .slice a3 p.ar.length c3, .int .i64 p.mn] := ⟨_, rfl⟩
  have hb5 : W5.heap[w.heap.size]? = some (.cells #[.slice a1 p.fs.length c1, .slice a2 p.ps.length c2, .slice a3 p.ar.length c3, .int .i64 p.mn] 26 (0, 0)) := by
    rw [hW5]
    exact heap_set (heap_set (heap_set (heap_set b0 0 _) 1 _) 2 _) 3 _
  have hs5 : W5.heap.size = u1.heap.size := by rw [hW5]; exact put_size _ _
  have hk5 : ∀ k, k ≠ w.heap.size → W5.heap[k]? = u1.heap[k]? := fun k hk => by rw [hW5]; exact put_heap hk _ _
  have hbel : Below w.heap.size w W5 := (unhide HB).trans ((hK.belowR (by omega) (by omega)).trans (by rw [hW5]; exact put_below _ _ (Below.refl _ _) (Nat.le_refl _)))
  have hp5 : PgR (W.heap.size + 2) W5 (.slice a1 p.fs.length c1) (.slice a2 p.ps.length c2) (.slice a3 p.ar.length c3) p := (unhide HP).sm ⟨by omega, fun b o h1 _ => World.cell?_of_block (w := u1) (hk5 b (by omega))⟩
  have HG5 := hide (show Gd W5.heap.size W5 _ _ _ p from { hp5.at with le := Nat.le_refl _, g := by omega, t := (unhide HT).below hG hbel })
  have x0 : W5.cell? ⟨w.heap.size, 0, none⟩ = some (.slice a1 p.fs.length c1) := by rw [Lib.cell_of_heap hb5]; rfl
  have x1 : W5.cell? ⟨w.heap.size, 1, none⟩ = some (.slice a2 p.ps.length c2) := by rw [Lib.cell_of_heap hb5]; rfl
  have x2 : W5.cell? ⟨w.heap.size, 2, none⟩ = some (.slice a3 p.ar.length c3) := by rw [Lib.cell_of_heap hb5]; rfl
  have x3 : W5.cell? ⟨w.heap.size, 3, none⟩ = some (.int .i64 p.mn) := by rw [Lib.cell_of_heap hb5]; rfl
  have hb51 : W5.heap[w.heap.size + 1]? = some (.cells #[.int .i64 0] 34 (0, 0)) := (hk5 _ (by omega)).trans b1
  have HP5 := hide hp5
  have HBel := hide hbel
  have HB5 := hide hb5
  have HB51 := hide hb51
  have HW5 := hide (show W5 = (((u1.setCell ⟨w.heap.size, 0, none⟩ (.slice a1 p.fs.length c1)).setCell ⟨w.heap.size, 1, none⟩ (.slice a2 p.ps.length c2)).setCell ⟨w.heap.size, 2, none⟩ (.slice a3 p.ar.length c3)).setCell ⟨w.heap.size, 3, none⟩ (.int .i64 p.mn) from hW5)
  clear hK b0 b1 hp5 hbel hb5 hW5 hk5 hb51
  go_wp2_with fail
  rw [← unhide HW5]
  refine (check_is (unhide HG5) (unhide HC)).mono ?_
  rintro e u6 ⟨rfl, hB6⟩
  have b0 := (hB6.block w.heap.size (by omega)).trans (unhide HB5)
  have b1 := (hB6.block (w.heap.size + 1) (by omega)).trans (unhide HB51)
  have q0 : u6.cell? ⟨w.heap.size, 0, none⟩ = some (.slice a1 p.fs.length c1) := by rw [Lib.cell_of_heap b0]; rfl
  have q1 : u6.cell? ⟨w.heap.size, 1, none⟩ = some (.slice a2 p.ps.length c2) := by rw [Lib.cell_of_heap b0]; rfl
  have q2 : u6.cell? ⟨w.heap.size, 2, none⟩ = some (.slice a3 p.ar.length c3) := by rw [Lib.cell_of_heap b0]; rfl
  have q3 : u6.cell? ⟨w.heap.size, 3, none⟩ = some (.int .i64 p.mn) := by rw [Lib.cell_of_heap b0]; rfl
  have q4 : u6.cell? ⟨w.heap.size + 1, 0, none⟩ = some (.int .i64 0) := by rw [Lib.cell_of_heap b1]; rfl
  have y6 : ∀ j, u6.frozen? ⟨w.heap.size, j, none⟩ = false := Lib.frozen_of_heap b0
  have y7 : u6.frozen? ⟨w.heap.size + 1, 0, none⟩ = false := Lib.frozen_of_heap b1 0
  have hs6 := hB6.size
  have HP6 := hide ((unhide HP5).sm (w' := u6) ⟨hB6.size, fun b o _ h2 => hB6.cell (p := ⟨b, o, none⟩) h2⟩)
  have HB6 := hide ((unhide HBel).trans (hB6.mono (by omega)))
  have HU0 := hide b0
  have HU1 := hide b1
  clear hB6 b0 b1 z0 z1 z2 z3 y0 x0 x1 x2 x3
  go_wp2_with fail
  refine (need_eq _ (by first | with_reducible rfl | decide) _).mono ?_
  rintro e u7 ⟨rfl, hu⟩
  subst hu
  go_wp2
  obtain ⟨WF, hWF⟩ : ∃ WF, WF = ((((u7.setCell ⟨w.heap.size, 0, none⟩ (.slice a1 p.fs.length c1)).setCell ⟨w.heap.size, 1, none⟩ (.slice a2 p.ps.length c2)).setCell ⟨w.heap.size, 2, none⟩ (.slice a3 p.ar.length c3)).setCell ⟨w.heap.size, 3, none⟩ (.int .i64 p.mn)).setCell ⟨w.heap.size + 1, 0, none⟩ (.int .i64 0) := ⟨_, rfl⟩
  rw [← hWF]
  have b0 := unhide HU0
  have b1 := unhide HU1
  have f0 : WF.heap[w.heap.size]? = some (.cells #[.slice a1 p.fs.length c1, .slice a2 p.ps.length c2, .slice a3 p.ar.length c3, .int .i64 p.mn] 26 (0, 0)) := by
    rw [hWF]
    exact heap_setO (heap_set (heap_set (heap_set (heap_set b0 0 _) 1 _) 2 _) 3 _) (by omega) _ _
  have f1 : WF.heap[w.heap.size + 1]? = some (.cells #[.int .i64 0] 34 (0, 0)) := by
    rw [hWF]
    exact heap_set (heap_setO (heap_setO (heap_setO (heap_setO b1 (by omega) _ _) (by omega) _ _) (by omega) _ _) (by omega) _ _) 0 _
  have hsm : Sm (w.heap.size + 3) u7 WF := by
    rw [hWF]
    exact (((((Sm.set u7 (by omega) _ _).trans (Sm.set _ (by omega) _ _)).trans (Sm.set _ (by omega) _ _)).trans (Sm.set _ (by omega) _ _)).trans (Sm.set _ (by omega) _ _))
  have hbF : Below w.heap.size w WF := by
    rw [hWF]
    exact ((((((unhide HB6).setCell (Nat.le_refl _) _).setCell (Nat.le_refl _) _).setCell (Nat.le_refl _) _).setCell (Nat.le_refl _) _).setCell (show w.heap.size ≤ w.heap.size + 1 by omega) _)
  have r0 : WF.cell? ⟨w.heap.size, 0, none⟩ = some (.slice a1 p.fs.length c1) := by rw [Lib.cell_of_heap f0]; rfl
  have r1 : WF.cell? ⟨w.heap.size, 1, none⟩ = some (.slice a2 p.ps.length c2) := by rw [Lib.cell_of_heap f0]; rfl
  have r2 : WF.cell? ⟨w.heap.size, 2, none⟩ = some (.slice a3 p.ar.length c3) := by rw [Lib.cell_of_heap f0]; rfl
  have r3 : WF.cell? ⟨w.heap.size, 3, none⟩ = some (.int .i64 p.mn) := by rw [Lib.cell_of_heap f0]; rfl
  have r4 : WF.cell? ⟨w.heap.size + 1, 0, none⟩ = some (.int .i64 0) := by rw [Lib.cell_of_heap f1]; rfl
  have hpF := (unhide HP6).sm (w' := WF) ⟨hsm.le, fun b o h1 h2 => hsm.c b o (by omega) h2⟩
  have HPF := hide (show PgR w.heap.size WF (.slice a1 p.fs.length c1) (.slice a2 p.ps.length c2) (.slice a3 p.ar.length c3) p from
    ⟨fus_sm hpF.f ⟨Nat.le_refl _, fun _ _ _ _ => rfl⟩ (by omega) (Nat.le_refl _), prs_sm hpF.q ⟨Nat.le_refl _, fun _ _ _ _ => rfl⟩ (by omega) (Nat.le_refl _), ars_sm hpF.a ⟨Nat.le_refl _, fun _ _ _ _ => rfl⟩ (by omega) (Nat.le_refl _)⟩)
  have HBF := hide hbF
  clear hWF hpF hsm hbF f0 f1 b0 b1 q0 q1 q2 q3 q4 y6 y7
  refine leaves_cons (f := 20) (args := #[.pointer (some ⟨w.heap.size, 0, none⟩), .pointer (some ⟨w.heap.size + 1, 0, none⟩)]) (by simp) (by simp [go_sem]) ?_
  refine (catch_idle _ _ _).mono ?_
  rintro e u' w'' ⟨rfl, rfl, rfl⟩
  simp [Leaves, settle, results, Tryd.results9, go_sem, r0, r1, r2, r3, r4]
  exact ⟨⟨_, _, _, ⟨rfl, rfl, rfl⟩, unhide HPF⟩, unhide HBF⟩

end Go.Proofs.YtgheaieghoekhaaDoor
