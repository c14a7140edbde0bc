/- The statements' walks: CodeEffects. -/
import Derived.Test.YtgheaieghoekhaaDoorSb
import Derived.Test.YtgheaieghoekhaaDoorCe
namespace Go.Proofs.YtgheaieghoekhaaDoor
open Go.RowKit

theorem reff_is {N : Nat} {w : World} {v1 v2 v3 : Value} {p : Pg} (h : PgAt N w v1 v2 v3 p) (hle : N ≤ w.heap.size) (i : In) {tk gv : Int} (he : eff p i = (tk, gv)) :
    Calls Tryd.prog 8 #[pv v1 v2 v3 p.mn, iv i] w fun e w' => e = .returned (.tuple #[.int .i64 tk, .int .i64 gv]) ∧ Below w.heap.size w w' := by
  have := reff_any h hle i
  unfold effV at this
  rw [he] at this
  exact this

set_option maxHeartbeats 4000000 in
theorem effects_walk {w : World} {v1 v2 v3 : Value} {p : Pg} (h : Gd w.heap.size w v1 v2 v3 p) (i : In) :
    Calls Tryd.prog 3 #[pv v1 v2 v3 p.mn, iv i] w fun e w' => e = .returned (.bool true) ∧ Below w.heap.size w w' := by
  obtain ⟨tk, gv, he⟩ : ∃ tk gv, eff p i = (tk, gv) := ⟨_, _, rfl⟩
  obtain ⟨W, hW⟩ : ∃ W, W = (w.alloc (.cells #[v1, v2, v3, .int .i64 p.mn] 26)).alloc (.cells #[.int .i64 i.op, .int .i64 i.a, .int .i64 i.b, .int .i64 i.l] 29) := ⟨_, rfl⟩
  have hb0 : Below w.heap.size w W := by rw [hW]; exact below2 w _ _
  have hsW : W.heap.size = w.heap.size + 2 := by rw [hW]; simp
  have n0 : W.heap[w.heap.size]? = some (.cells #[v1, v2, v3, .int .i64 p.mn] 26 (0, 0)) := by rw [hW]; exact new2 w _ _
  have n1 : W.heap[w.heap.size + 1]? = some (.cells #[.int .i64 i.op, .int .i64 i.a, .int .i64 i.b, .int .i64 i.l] 29 (0, 0)) := by rw [hW]; exact new2' w _ _
  have hGW := h.below hb0 (by omega)
  have HT := hide hGW.t
  have HGW := hide hGW
  have N0 := hide n0
  have N1 := hide n1
  have HW := hide hW
  have HB0 := hide hb0
  have HE := hide he
  have hg := h.g
  clear h hb0 n0 n1 hW hGW he
  go_enter Tryd.func3, Tryd.ntmps3
  go_wp2_with fail
  rw [← unhide HW]
  refine (awake_is (unhide HT) (by omega)).mono ?_
  rintro e u1 ⟨rfl, hB1⟩
  have hs1 := hB1.size
  have m0 := blkO hB1 (unhide N0) (by omega)
  have m1 := blkO hB1 (unhide N1) (by omega)
  have x0 : u1.cell? ⟨w.heap.size, 0, none⟩ = some v1 := by simp [World.cell?, m0]
  have x1 : u1.cell? ⟨w.heap.size, 1, none⟩ = some v2 := by simp [World.cell?, m0]
  have x2 : u1.cell? ⟨w.heap.size, 2, none⟩ = some v3 := by simp [World.cell?, m0]
  have x3 : u1.cell? ⟨w.heap.size, 3, none⟩ = some (.int .i64 p.mn) := by simp [World.cell?, m0]
  have y0 : u1.cell? ⟨w.heap.size + 1, 0, none⟩ = some (.int .i64 i.op) := by simp [World.cell?, m1]
  have y1 : u1.cell? ⟨w.heap.size + 1, 1, none⟩ = some (.int .i64 i.a) := by simp [World.cell?, m1]
  have y2 : u1.cell? ⟨w.heap.size + 1, 2, none⟩ = some (.int .i64 i.b) := by simp [World.cell?, m1]
  have y3 : u1.cell? ⟨w.heap.size + 1, 3, none⟩ = some (.int .i64 i.l) := by simp [World.cell?, m1]
  have HG1 := hide ((unhide HGW).below (hB1.mono (by omega)) (by omega))
  have HB1 := hide hB1
  have M0 := hide m0
  have M1 := hide m1
  clear hB1 m0 m1
  go_wp2_with fail
  refine (effect_is (unhide HG1) i (unhide HE)).mono ?_
  rintro e u2 ⟨rfl, hB2⟩
  have hs2 := hB2.size
  have m0 := blkO hB2 (unhide M0) (by omega)
  have m1 := blkO hB2 (unhide M1) (by omega)
  clear x0 x1 x2 x3 y0 y1 y2 y3
  have x0 : u2.cell? ⟨w.heap.size, 0, none⟩ = some v1 := by simp [World.cell?, m0]
  have x1 : u2.cell? ⟨w.heap.size, 1, none⟩ = some v2 := by simp [World.cell?, m0]
  have x2 : u2.cell? ⟨w.heap.size, 2, none⟩ = some v3 := by simp [World.cell?, m0]
  have x3 : u2.cell? ⟨w.heap.size, 3, none⟩ = some (.int .i64 p.mn) := by simp [World.cell?, m0]
  have y0 : u2.cell? ⟨w.heap.size + 1, 0, none⟩ = some (.int .i64 i.op) := by simp [World.cell?, m1]
  have y1 : u2.cell? ⟨w.heap.size + 1, 1, none⟩ = some (.int .i64 i.a) := by simp [World.cell?, m1]
  have y2 : u2.cell? ⟨w.heap.size + 1, 2, none⟩ = some (.int .i64 i.b) := by simp [World.cell?, m1]
  have y3 : u2.cell? ⟨w.heap.size + 1, 3, none⟩ = some (.int .i64 i.l) := by simp [World.cell?, m1]
  have HG2 := hide ((unhide HG1).below (hB2.mono (by omega)) (by omega))
  have HB2 := hide ((unhide HB1).trans (hB2.mono hs1))
  clear hB2 m0 m1
  go_wp2_with fail
  refine (reff_is (unhide HG2).toPgAt (unhide HG2).le i (unhide HE)).mono ?_
  rintro e u3 ⟨rfl, hB3⟩
  have HB3 := hide ((unhide HB2).trans (hB3.mono (by omega)))
  have q1 : (tk == tk) = true := by simp
  have q2 : (gv == gv) = true := by simp
  clear hB3
  go_wp2
  go_ret
  exact ⟨rfl, (unhide HB0).trans ((unhide HB3).mono (by omega))⟩

end Go.Proofs.YtgheaieghoekhaaDoor
