/- A program that is read. -/
import Derived.Test.YtgheaieghoekhaaDoorDefuns
import Derived.Test.YtgheaieghoekhaaDoorDeprints
import Derived.Test.YtgheaieghoekhaaDoorDearmss
namespace Go.Proofs.YtgheaieghoekhaaDoor
open Go.RowKit

/-- cells of blocks from C on stay -/
structure Sm (C : Nat) (w w' : World) : Prop where
  le : w.heap.size ≤ w'.heap.size
  c : ∀ b o, C ≤ b → b < w.heap.size → w'.cell? ⟨b, o, none⟩ = w.cell? ⟨b, o, none⟩

theorem Sm.trans {C : Nat} {a b c : World} (h : Sm C a b) (k : Sm C b c) : Sm C a c := ⟨Nat.le_trans h.le k.le, fun x o h1 h2 => (k.c x o h1 (Nat.lt_of_lt_of_le h2 h.le)).trans (h.c x o h1 h2)⟩
theorem Sm.set {C B : Nat} (w : World) (hB : B < C) (i : Nat) (v : Value) : Sm C w (w.setCell ⟨B, i, none⟩ v) := ⟨by simp [World.setCell], fun b o h1 _ => set_cellB w B i v (by omega) o⟩
theorem Keep.sm {R C : Nat} {w w' : World} (h : Keep R w w') (hR : R < C) : Sm C w w' := ⟨h.size, fun _ _ h1 h2 => h.cellO h2 (by omega)⟩

theorem fus_sm {C B M : Nat} {w w' : World} {v : Value} {l : List Fu} (h : LstR B M 5 (FuR B M w) v l) (hs : Sm C w w') (hC : C ≤ B) (hM : M ≤ w.heap.size) : LstR C w'.heap.size 5 (FuR C w'.heap.size w') v l :=
  h.imp hC (Nat.le_trans hM hs.le) fun b o x h1 h2 ⟨v, c1, c2, c3, c4, c5, c6⟩ =>
    ⟨v, (hs.c b _ (by omega) (by omega)).trans c1, (hs.c b _ (by omega) (by omega)).trans c2, (hs.c b _ (by omega) (by omega)).trans c3, (hs.c b _ (by omega) (by omega)).trans c4, (hs.c b _ (by omega) (by omega)).trans c5,
      c6.imp hC (Nat.le_trans hM hs.le) fun _ _ _ g1 g2 => InAt.same (B := B) (M := M) (fun b o h1 h2 => hs.c b o (by omega) (by omega)) g1 g2⟩
theorem prs_sm {C B M : Nat} {w w' : World} {v : Value} {l : List (List It)} (h : LstR B M 1 (PrR B M w) v l) (hs : Sm C w w') (hC : C ≤ B) (hM : M ≤ w.heap.size) : LstR C w'.heap.size 1 (PrR C w'.heap.size w') v l :=
  h.imp hC (Nat.le_trans hM hs.le) fun b o x h1 h2 ⟨v, c1, c6⟩ =>
    ⟨v, (hs.c b _ (by omega) (by omega)).trans c1, c6.imp hC (Nat.le_trans hM hs.le) fun _ _ _ g1 g2 => ItAt.same (B := B) (M := M) (fun b o h1 h2 => hs.c b o (by omega) (by omega)) g1 g2⟩
theorem ars_sm {C B M : Nat} {w w' : World} {v : Value} {l : List (List Bool)} (h : LstR B M 1 (ArR B M w) v l) (hs : Sm C w w') (hC : C ≤ B) (hM : M ≤ w.heap.size) : LstR C w'.heap.size 1 (ArR C w'.heap.size w') v l :=
  h.imp hC (Nat.le_trans hM hs.le) fun b o x h1 h2 ⟨v, c1, c6⟩ =>
    ⟨v, (hs.c b _ (by omega) (by omega)).trans c1, c6.imp hC (Nat.le_trans hM hs.le) fun _ _ _ g1 g2 => BoAt.same (B := B) (M := M) (fun b o h1 h2 => hs.c b o (by omega) (by omega)) g1 g2⟩

/-- a program in memory of its own -/
structure PgR (C : Nat) (w : World) (v1 v2 v3 : Value) (p : Pg) : Prop where
  f : LstR C w.heap.size 5 (FuR C w.heap.size w) v1 p.fs
  q : LstR C w.heap.size 1 (PrR C w.heap.size w) v2 p.ps
  a : LstR C w.heap.size 1 (ArR C w.heap.size w) v3 p.ar

theorem PgR.at {C : Nat} {w : World} {v1 v2 v3 : Value} {p : Pg} (h : PgR C w v1 v2 v3 p) : PgAt w.heap.size w v1 v2 v3 p :=
  ⟨h.f.toL fun _ _ _ _ _ ⟨v, c1, c2, c3, c4, c5, c6⟩ => ⟨v, c1, c2, c3, c4, c5, c6.toL fun _ _ _ _ _ h => h⟩, h.q.toL fun _ _ _ _ _ ⟨v, c1, c6⟩ => ⟨v, c1, c6.toL fun _ _ _ _ _ h => h⟩, h.a.toL fun _ _ _ _ _ ⟨v, c1, c6⟩ => ⟨v, c1, c6.toL fun _ _ _ _ _ h => h⟩⟩

theorem PgR.sm {C : Nat} {w w' : World} {v1 v2 v3 : Value} {p : Pg} (h : PgR C w v1 v2 v3 p) (hs : Sm C w w') : PgR C w' v1 v2 v3 p :=
  ⟨fus_sm h.f hs (Nat.le_refl _) (Nat.le_refl _), prs_sm h.q hs (Nat.le_refl _) (Nat.le_refl _), ars_sm h.a hs (Nat.le_refl _) (Nat.le_refl _)⟩

set_option maxHeartbeats 8000000 in
theorem prog_is {R : Nat} {l : List UInt8} {w : World} (h : Rd R l w) (hl : l.length ≤ 140737488355328) {p : Pg} (hg : gProg l = some p) :
    Calls Tryd.prog 22 #[.pointer (some ⟨R, 0, none⟩)] w fun e w' => (∃ v1 v2 v3, e = .returned (pv v1 v2 v3 p.mn) ∧ PgR (w.heap.size + 2) w' v1 v2 v3 p) ∧ Keep R w w' := by
  obtain ⟨⟨x1, r1⟩, g1, hg⟩ := bind_some hg
  simp only at hg
  split at hg
  rotate_left
  · cases hg
  rename_i hx1
  obtain ⟨⟨x2, r2⟩, g2, hg⟩ := bind_some hg
  obtain ⟨⟨x3, r3⟩, g3, hg⟩ := bind_some hg
  obtain ⟨⟨x4, r4⟩, g4, hg⟩ := bind_some hg
  obtain ⟨⟨x5, r5⟩, g5, hg⟩ := bind_some hg
  simp only at hg g2 g3 g4 g5
  split at hg
  rotate_left
  · cases hg
  rename_i hr5
  injection hg with hg
  subst hg hx1 hr5
  have hr2 : r2.length ≤ l.length := Nat.le_trans (gNum_len g2) (gTake_rest g1)
  have hr3 : r3.length ≤ l.length := Nat.le_trans (len_list len_funs g3) hr2
  have hr4 : r4.length ≤ l.length := Nat.le_trans (len_list len_prints g4) hr3
  have hRl := h.lt
  have H := hide h
  have G1 := hide g1
  have G2 := hide g2
  have G3 := hide g3
  have G4 := hide g4
  have G5 := hide g5
  clear h g1 g2 g3 g4 g5
  go_enter Tryd.func22, Tryd.ntmps22
  go_wp2_with fail
  refine (take_is ((unhide H).alloc2 _ _) (by omega) (unhide G1)).mono ?_
  rintro e u0 ⟨rfl, hR, hK⟩
  have b1 : u0.heap[w.heap.size + 1]? = some (.cells #[.slice none 0 0, .slice none 0 0, .slice none 0 0, .int .i64 0] 26 (0, 0)) := hK.blk (new2' w _ _) (by omega)
  have b0 : u0.heap[w.heap.size]? = some (.cells #[.slice none 0 0, .slice none 0 0, .slice none 0 0, .int .i64 0] 26 (0, 0)) := hK.blk (new2 w _ _) (by omega)
  have HR0 := hide hR
  have HK0 := hide ((keep_alloc2 _ _ _).trans hK)
  have HB10 := hide b1
  have HB00 := hide b0
  clear hR hK b1 b0
  go_wp2_with fail
  refine (need_eq _ (by first | with_reducible rfl | decide) _).mono ?_
  rintro e u00 ⟨rfl, hu⟩
  subst hu
  go_wp2_with fail
  refine (num_is (unhide HR0) (unhide G2) rfl (by omega)).mono ?_
  rintro e u1 ⟨rfl, hR, hK⟩
  have b1 : u1.heap[w.heap.size + 1]? = some (.cells #[.slice none 0 0, .slice none 0 0, .slice none 0 0, .int .i64 0] 26 (0, 0)) := hK.blk (unhide HB10) (by omega)
  have b0 : u1.heap[w.heap.size]? = some (.cells #[.slice none 0 0, .slice none 0 0, .slice none 0 0, .int .i64 0] 26 (0, 0)) := hK.blk (unhide HB00) (by omega)
  have c0 : u1.cell? ⟨w.heap.size + 1, 0, none⟩ = some (.slice none 0 0) := by rw [Lib.cell_of_heap b1]; rfl
  have c1 : u1.cell? ⟨w.heap.size + 1, 1, none⟩ = some (.slice none 0 0) := by rw [Lib.cell_of_heap b1]; rfl
  have c2 : u1.cell? ⟨w.heap.size + 1, 2, none⟩ = some (.slice none 0 0) := by rw [Lib.cell_of_heap b1]; rfl
  have c3 : u1.cell? ⟨w.heap.size + 1, 3, none⟩ = some (.int .i64 0) := by rw [Lib.cell_of_heap b1]; rfl
  have f3 : u1.frozen? ⟨w.heap.size + 1, 3, none⟩ = false := Lib.frozen_of_heap b1 3
  have HR1 := hide hR
  have HS1 := hide (show w.heap.size + 1 < u1.heap.size from (Array.getElem?_eq_some_iff.1 b1).1)
  have HK1 := hide ((unhide HK0).trans hK)
  have HB11 := hide b1
  have HB01 := hide b0
  clear hR hK b1 b0
  go_wp2_with fail
  refine (list_funs ((unhide HR1).set (show w.heap.size + 1 ≠ R by omega) 3 (.int .i64 x2)) (by omega) (unhide G3)).mono ?_
  rintro e u2 ⟨⟨vv, rfl, hvv⟩, hR, hK⟩
  have HV2 := hide hvv
  obtain ⟨vb, vo, ⟨a3, k3, rfl, -⟩, -⟩ := hvv
  have b1 : u2.heap[w.heap.size + 1]? = some (.cells #[.slice none 0 0, .slice none 0 0, .slice none 0 0, .int .i64 x2] 26 (0, 0)) := hK.blk (heap_set (unhide HB11) 3 (.int .i64 x2)) (by omega)
  have b0 : u2.heap[w.heap.size]? = some (.cells #[.slice none 0 0, .slice none 0 0, .slice none 0 0, .int .i64 0] 26 (0, 0)) := hK.blk (heap_setO (unhide HB01) (show w.heap.size ≠ w.heap.size + 1 by omega) 3 (.int .i64 x2)) (by omega)
  have c0 : u2.cell? ⟨w.heap.size + 1, 0, none⟩ = some (.slice none 0 0) := by rw [Lib.cell_of_heap b1]; rfl
  have c1 : u2.cell? ⟨w.heap.size + 1, 1, none⟩ = some (.slice none 0 0) := by rw [Lib.cell_of_heap b1]; rfl
  have c2 : u2.cell? ⟨w.heap.size + 1, 2, none⟩ = some (.slice none 0 0) := by rw [Lib.cell_of_heap b1]; rfl
  have c3 : u2.cell? ⟨w.heap.size + 1, 3, none⟩ = some (.int .i64 x2) := by rw [Lib.cell_of_heap b1]; rfl
  have f0 : u2.frozen? ⟨w.heap.size + 1, 0, none⟩ = false := Lib.frozen_of_heap b1 0
  have HR2 := hide hR
  have HS2 := hide (show w.heap.size + 1 < u2.heap.size from (Array.getElem?_eq_some_iff.1 b1).1)
  have HK2 := hide (((unhide HK1).setN (show w.heap.size ≤ w.heap.size + 1 by omega) 3 (.int .i64 x2)).trans hK)
  have HB12 := hide b1
  have HB02 := hide b0
  clear hR hK b1 b0
  go_wp2_with fail
  refine (list_prints ((unhide HR2).set (show w.heap.size + 1 ≠ R by omega) 0 (.slice a3 x3.length k3)) (by omega) (unhide G4)).mono ?_
  rintro e u3 ⟨⟨vv, rfl, hvv⟩, hR, hK⟩
  have HV3 := hide hvv
  obtain ⟨vb, vo, ⟨a4, k4, rfl, -⟩, -⟩ := hvv
  have b1 : u3.heap[w.heap.size + 1]? = some (.cells #[.slice a3 x3.length k3, .slice none 0 0, .slice none 0 0, .int .i64 x2] 26 (0, 0)) := hK.blk (heap_set (unhide HB12) 0 (.slice a3 x3.length k3)) (by omega)
  have b0 : u3.heap[w.heap.size]? = some (.cells #[.slice none 0 0, .slice none 0 0, .slice none 0 0, .int .i64 0] 26 (0, 0)) := hK.blk (heap_setO (unhide HB02) (show w.heap.size ≠ w.heap.size + 1 by omega) 0 (.slice a3 x3.length k3)) (by omega)
  have c0 : u3.cell? ⟨w.heap.size + 1, 0, none⟩ = some (.slice a3 x3.length k3) := by rw [Lib.cell_of_heap b1]; rfl
  have c1 : u3.cell? ⟨w.heap.size + 1, 1, none⟩ = some (.slice none 0 0) := by rw [Lib.cell_of_heap b1]; rfl
  have c2 : u3.cell? ⟨w.heap.size + 1, 2, none⟩ = some (.slice none 0 0) := by rw [Lib.cell_of_heap b1]; rfl
  have c3 : u3.cell? ⟨w.heap.size + 1, 3, none⟩ = some (.int .i64 x2) := by rw [Lib.cell_of_heap b1]; rfl
  have f1 : u3.frozen? ⟨w.heap.size + 1, 1, none⟩ = false := Lib.frozen_of_heap b1 1
  have HR3 := hide hR
  have HM3 := hide ((Sm.set u2 (show w.heap.size + 1 < w.heap.size + 2 by omega) 0 (.slice a3 x3.length k3)).trans (hK.sm (by omega)))
  have HK3 := hide (((unhide HK2).setN (show w.heap.size ≤ w.heap.size + 1 by omega) 0 (.slice a3 x3.length k3)).trans hK)
  have HB13 := hide b1
  have HB03 := hide b0
  clear hR hK b1 b0
  go_wp2_with fail
  refine (list_armss ((unhide HR3).set (show w.heap.size + 1 ≠ R by omega) 1 (.slice a4 x4.length k4)) (by omega) (unhide G5)).mono ?_
  rintro e u4 ⟨⟨vv, rfl, hvv⟩, hR, hK⟩
  have HV4 := hide hvv
  obtain ⟨vb, vo, ⟨a5, k5, rfl, -⟩, -⟩ := hvv
  have b1 : u4.heap[w.heap.size + 1]? = some (.cells #[.slice a3 x3.length k3, .slice a4 x4.length k4, .slice none 0 0, .int .i64 x2] 26 (0, 0)) := hK.blk (heap_set (unhide HB13) 1 (.slice a4 x4.length k4)) (by omega)
  have b0 : u4.heap[w.heap.size]? = some (.cells #[.slice none 0 0, .slice none 0 0, .slice none 0 0, .int .i64 0] 26 (0, 0)) := hK.blk (heap_setO (unhide HB03) (show w.heap.size ≠ w.heap.size + 1 by omega) 1 (.slice a4 x4.length k4)) (by omega)
  have c0 : u4.cell? ⟨w.heap.size + 1, 0, none⟩ = some (.slice a3 x3.length k3) := by rw [Lib.cell_of_heap b1]; rfl
  have c1 : u4.cell? ⟨w.heap.size + 1, 1, none⟩ = some (.slice a4 x4.length k4) := by rw [Lib.cell_of_heap b1]; rfl
  have c2 : u4.cell? ⟨w.heap.size + 1, 2, none⟩ = some (.slice none 0 0) := by rw [Lib.cell_of_heap b1]; rfl
  have c3 : u4.cell? ⟨w.heap.size + 1, 3, none⟩ = some (.int .i64 x2) := by rw [Lib.cell_of_heap b1]; rfl
  have f2 : u4.frozen? ⟨w.heap.size + 1, 2, none⟩ = false := Lib.frozen_of_heap b1 2
  have HR4 := hide hR
  have HM4 := hide ((Sm.set u3 (show w.heap.size + 1 < w.heap.size + 2 by omega) 1 (.slice a4 x4.length k4)).trans (hK.sm (by omega)))
  have HK4 := hide (((unhide HK3).setN (show w.heap.size ≤ w.heap.size + 1 by omega) 1 (.slice a4 x4.length k4)).trans hK)
  have HB14 := hide b1
  have HB04 := hide b0
  clear hR hK b1 b0
  have w4 := (unhide HR4)
  obtain ⟨sr, hsr, hsb⟩ := ((unhide HR4).set (show w.heap.size + 1 ≠ R by omega) 2 (.slice a5 x5.length k5))
  have e4 : sr = ⟨#[]⟩ := ba_of hsr
  subst e4
  have hre : u4.cell? ⟨R, 0, none⟩ = some (.string ⟨#[]⟩) := by
    rw [← set_cellB u4 (w.heap.size + 1) 2 (.slice a5 x5.length k5) (show R ≠ w.heap.size + 1 by omega) 0, Lib.cell_of_heap hsb]
    rfl
  have z0 : u4.cell? ⟨w.heap.size, 0, none⟩ = some (.slice none 0 0) := by rw [Lib.cell_of_heap (unhide HB04)]; rfl
  have z1 : u4.cell? ⟨w.heap.size, 1, none⟩ = some (.slice none 0 0) := by rw [Lib.cell_of_heap (unhide HB04)]; rfl
  have z2 : u4.cell? ⟨w.heap.size, 2, none⟩ = some (.slice none 0 0) := by rw [Lib.cell_of_heap (unhide HB04)]; rfl
  have z3 : u4.cell? ⟨w.heap.size, 3, none⟩ = some (.int .i64 0) := by rw [Lib.cell_of_heap (unhide HB04)]; rfl
  have y0 : ∀ j, u4.frozen? ⟨w.heap.size, j, none⟩ = false := Lib.frozen_of_heap (unhide HB04)
  have nR : ¬ R = w.heap.size + 1 := by omega
  have nR2 : ¬ w.heap.size + 1 = R := by omega
  clear hsb hsr w4
  go_wp2_with fail
  refine (need_eq _ (by first | with_reducible rfl | decide) _).mono ?_
  rintro e u5 ⟨rfl, hu⟩
  subst hu
  go_wp2
  refine bodyPost_ret (v := pv (.slice a3 x3.length k3) (.slice a4 x4.length k4) (.slice a5 x5.length k5) x2) (by simp [results, Tryd.results22, go_sem, z0, z1, z2, z3]) rfl ⟨⟨_, _, _, rfl, ?_⟩, ?_⟩
  · have hS1 := unhide HS1
    have hS2 := unhide HS2
    have hM4 := unhide HM4
    have hM3 := unhide HM3
    have hF : Sm (w.heap.size + 2) u4 _ := ((((Sm.set u4 (show w.heap.size + 1 < w.heap.size + 2 by omega) 2 (.slice a5 x5.length k5)).trans (Sm.set (u4.setCell ⟨w.heap.size + 1, 2, none⟩ (.slice a5 x5.length k5)) (show w.heap.size < w.heap.size + 2 by omega) 0 (.slice a3 x3.length k3))).trans (Sm.set ((u4.setCell ⟨w.heap.size + 1, 2, none⟩ (.slice a5 x5.length k5)).setCell ⟨w.heap.size, 0, none⟩ (.slice a3 x3.length k3)) (show w.heap.size < w.heap.size + 2 by omega) 1 (.slice a4 x4.length k4))).trans (Sm.set (((u4.setCell ⟨w.heap.size + 1, 2, none⟩ (.slice a5 x5.length k5)).setCell ⟨w.heap.size, 0, none⟩ (.slice a3 x3.length k3)).setCell ⟨w.heap.size, 1, none⟩ (.slice a4 x4.length k4)) (show w.heap.size < w.heap.size + 2 by omega) 2 (.slice a5 x5.length k5))).trans (Sm.set ((((u4.setCell ⟨w.heap.size + 1, 2, none⟩ (.slice a5 x5.length k5)).setCell ⟨w.heap.size, 0, none⟩ (.slice a3 x3.length k3)).setCell ⟨w.heap.size, 1, none⟩ (.slice a4 x4.length k4)).setCell ⟨w.heap.size, 2, none⟩ (.slice a5 x5.length k5)) (show w.heap.size < w.heap.size + 2 by omega) 3 (.int .i64 x2))
    exact ⟨fus_sm (unhide HV2) ((hM3.trans hM4).trans hF) (by simp [World.setCell]; omega) (Nat.le_refl _), prs_sm (unhide HV3) (hM4.trans hF) (by simp [World.setCell]; omega) (Nat.le_refl _), ars_sm (unhide HV4) hF (by have := hM3.le; simp [World.setCell]; omega) (Nat.le_refl _)⟩
  · exact ((((((unhide HK4).setN (show w.heap.size ≤ w.heap.size + 1 by omega) _ _).setN (Nat.le_refl _) _ _).setN (Nat.le_refl _) _ _).setN (Nat.le_refl _) _ _).setN (Nat.le_refl _) _ _)

end Go.Proofs.YtgheaieghoekhaaDoor
