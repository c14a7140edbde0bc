/- Depths of a right program's functions. -/
import Derived.Test.YtgheaieghoekhaaDoorMa
import Derived.Test.YtgheaieghoekhaaDoorEf
namespace Go.Proofs.YtgheaieghoekhaaDoor
open Go.RowKit

/-- a function with which nothing is wrong -/
structure FunOk (p : Pg) (f : Fu) : Prop where
  siz : rSizes f = true
  bad : fstBad (okI p f) f.cd 0 = none
  beat : op0 f.cd = 1
  jmp : (fstJ f.cd f.cd 0).1 = 0
  dep : (dps p f.cd 0 (dp0 f.cd.length)).1 = 0

theorem cfun_ok {p : Pg} {f : Fu} (h : (cFun p f).1 = 0) : FunOk p f := by
  unfold cFun at h
  cases hz : rSizes f
  · rw [if_pos hz] at h; cases h
  rw [if_neg (by rw [hz]; simp)] at h
  cases hb : fstBad (okI p f) f.cd 0 with
  | some k => rw [hb] at h; cases h
  | none =>
    rw [hb] at h
    simp only at h
    split at h
    · cases h
    rename_i ho
    split at h
    · rename_i hj
      exact absurd h hj
    rename_i hj
    exact ⟨hz, hb, by omega, by omega, h⟩

theorem fstF_ok {p : Pg} : ∀ {l : List Fu} {k : Nat}, (fstF p l k).1 = 0 → ∀ f ∈ l, FunOk p f
  | [], _, _, _, hf => by cases hf
  | g :: r, k, h, f, hf => by
    unfold fstF at h
    split at h
    · rename_i hg
      rcases List.mem_cons.1 hf with rfl | hf
      · exact cfun_ok hg
      · exact fstF_ok h f hf
    · rename_i hg
      exact absurd h hg

theorem chk_ok {p : Pg} {b c : Int} (h : chk p = (0, b, c)) : ∀ f ∈ p.fs, FunOk p f := by
  unfold chk at h
  split at h
  · cases h
  split at h
  · cases h
  exact fstF_ok (k := 0) (by rw [h])

theorem FunOk.len {p : Pg} {f : Fu} (h : FunOk p f) : 0 < f.cd.length ∧ f.cd.length ≤ 8388608 := by
  have hz := h.siz
  unfold rSizes at hz
  simp only [Bool.and_eq_true, decide_eq_true_eq] at hz
  exact ⟨hz.1.2, hz.2⟩

set_option maxHeartbeats 4000000 in
theorem deps_ok {N : Nat} {w : World} {v1 v2 v3 : Value} {p : Pg} (h : Gd N w v1 v2 v3 p) {b c : Int} (hc : chk p = (0, b, c)) (j : Nat) (hj : j < p.fs.length) :
    Calls Tryd.prog 14 #[pv v1 v2 v3 p.mn, .int .i64 (j : Int)] w fun e w' => (∃ D, w.heap.size ≤ D ∧ RowI w' D (dps p p.fs[j].cd 0 (dp0 p.fs[j].cd.length)).2.2 ∧ e = .returned (.tuple #[.slice (some ⟨D, 0, none⟩) p.fs[j].cd.length p.fs[j].cd.length, .int .i64 0])) ∧ Below w.heap.size w w' := by
  have hle := h.le
  have ok := chk_ok hc p.fs[j] (List.getElem_mem hj)
  obtain ⟨hpos, hmx⟩ := ok.len
  have hK := allK_of ok.bad ok.jmp
  obtain ⟨W, hW⟩ : ∃ W, W = w.alloc (.cells #[v1, v2, v3, .int .i64 p.mn] 26) := ⟨_, rfl⟩
  have hb0 : Below w.heap.size w W := by rw [hW]; exact below1 w _
  have hszW : W.heap.size = w.heap.size + 1 := by rw [hW]; simp
  have n0 : W.heap[w.heap.size]? = some (.cells #[v1, v2, v3, .int .i64 p.mn] 26 (0, 0)) := by rw [hW]; exact heap_new w _
  have HGW := hide (h.below (hb0.mono hle) (by omega))
  obtain ⟨b1, o1, ⟨a1, c1, rfl, hc1, hm1, hs1⟩, hl1⟩ := h.hf
  obtain ⟨rfl, hb1⟩ := hs1 (by omega)
  have hw : wthn (j : Int) p.fs.length = true := by unfold wthn; simp; omega
  have x0 : W.cell? ⟨w.heap.size, 0, none⟩ = some (.slice (some ⟨b1, o1, none⟩) p.fs.length c1) := by simp [World.cell?, n0]
  have x1 : W.cell? ⟨w.heap.size, 1, none⟩ = some v2 := by simp [World.cell?, n0]
  have x2 : W.cell? ⟨w.heap.size, 2, none⟩ = some v3 := by simp [World.cell?, n0]
  have x3 : W.cell? ⟨w.heap.size, 3, none⟩ = some (.int .i64 p.mn) := by simp [World.cell?, n0]
  have HL := hide (hl1 j hj)
  have HC := hide hc
  have HW := hide hW
  have HB0 := hide hb0
  have HK := hide hK
  have HD := hide ok.dep
  clear h hs1 hl1 hc hW hb0 ok hK n0
  generalize hf : p.fs[j] = f at *
  clear hf
  go_enter Tryd.func14, Tryd.ntmps14
  go_wp2_with fail
  rw [← unhide HW]
  refine (check_is (unhide HGW) (unhide HC)).mono ?_
  rintro e u1 ⟨rfl, hB1⟩
  have hs1 := hB1.size
  obtain ⟨bc, -⟩ := bcell hB1
  have l0 : w.heap.size < W.heap.size := by omega
  have z1 : w.heap.size < u1.heap.size := by omega
  have z2 : b1 < u1.heap.size := by omega
  have hBN : Below N w u1 := ((unhide HB0).mono hle).trans (hB1.mono (by omega))
  obtain ⟨v, g1, g2, g3, g4, g5, hcd⟩ := FuAt.below hBN hb1 (unhide HL)
  have HCD := hide hcd
  obtain ⟨b2, o2, ⟨a2, c2', rfl, -⟩, -⟩ := hcd
  have HG1 := hide ((unhide HGW).below (hB1.mono (by omega)) (by omega))
  have HB1 := hide hB1
  clear hB1 hBN g1 g2 g3 g4
  go_wp2_with (go_at_call 34; refine (within_any _ _ _).mono ?_; rw [hw]; rintro e w' ⟨rfl, rfl⟩)
  go_region_with (first | (go_at_call 35; refine (depths_any ((unhide HG1).below (Below.refl _ _).drew (unhide HG1).le) (code_below (Below.refl _ _).drew (unhide HCD)) hpos hmx (unhide HK)).mono ?_; rintro e w8 ⟨hB8, ⟨h50, h51, D, hD1, hD2, hD3, rfl⟩ | ⟨h50, rfl⟩⟩; rotate_left; (exact absurd (unhide HD) h50); have HB8 := hide hB8; have HD2 := hide hD2; clear hB8 hD2 h50 h51 hD3))
  all_goals
    go_wp2
    go_ret2
    exact ⟨⟨D, Nat.le_trans (Nat.le_trans (by omega) (unhide HB1).size) hD1, unhide HD2, rfl⟩, (unhide HB0).trans (((unhide HB1).trans (((Below.refl _ _).drew.trans (unhide HB8)).mono (unhide HB1).size)).mono (by omega))⟩

end Go.Proofs.YtgheaieghoekhaaDoor
