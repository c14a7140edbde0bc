/- A list that is read: drowse/api.Ins. -/
import Derived.Test.YtgheaieghoekhaaDoorDd
namespace Go.Proofs.YtgheaieghoekhaaDoor
open Go.RowKit

theorem info_inss : (Tryd.prog.info? 29).map (fun i => (i.zero, i.size, i.bytes)) = some (some (.agg #[.int .i64 0, .int .i64 0, .int .i64 0, .int .i64 0]), 4, 32) := by kernel_rfl

/-- n new ones -/
def mc_inss (n : Nat) : Array Value := madeCells (.agg #[.int .i64 0, .int .i64 0, .int .i64 0, .int .i64 0] : Value).cells (n * 4)

theorem mk_inss (n : Nat) (w : World) (hn : n ≤ 8388608) : (Instr.makeSlice 49 (.int .i64 (n : Int)) (.int .i64 (n : Int))).run Tryd.prog w = .ok (.slice (some ⟨w.heap.size, 0, none⟩) n n) (w.alloc (.cells (mc_inss n) 29)) := by
  obtain ⟨i, hi, hz⟩ := Option.map_eq_some_iff.1 info_inss
  simp only [Prod.mk.injEq] at hz
  obtain ⟨hz0, hz1, hz2⟩ := hz
  have h := run_make (P := Tryd.prog) w 49 29 i (.agg #[.int .i64 0, .int .i64 0, .int .i64 0, .int .i64 0]) Tryd.underlying49 hi hz0 .i64 .i64 (n : Int) (n : Int) (by omega) (by omega) (by rw [hz2]; omega) (by omega)
  rw [hz1, Int.toNat_natCast] at h
  exact h

theorem blk_inss (w : World) (n : Nat) : Blk (w.alloc (.cells (mc_inss n) 29)) w.heap.size (n * 4) 29 := by
  have h := Blk.new w (mc_inss n) 29
  unfold mc_inss at *
  rw [size_madeCells] at h
  exact h

set_option maxHeartbeats 8000000 in
theorem list_inss {R : Nat} {l r : List UInt8} {w : World} (h : Rd R l w) (hl : l.length ≤ 140737488355328) {xs : List In} (hg : gList gIns 4 8388608 14 l = some (xs, r)) :
    Calls Tryd.prog 66 #[.pointer (some ⟨R, 0, none⟩), .int .i64 4, .int .i64 8388608, .int .i64 14, .func (.func 67) #[] #[]] w fun e w' => (∃ v, e = .returned v ∧ LstR w.heap.size w'.heap.size 4 (InAt w') v xs) ∧ Rd R r w' ∧ Keep R w w' := by
  obtain ⟨n, r1, g1, hn1, hn2, gm⟩ := gList_some hg (by omega)
  have hlen := gMany_len gm
  have hr1 : r1.length ≤ l.length := by rw [(gNum_some g1).2.2, List.length_drop]; omega
  have hRl := h.lt
  have hn8 : n ≤ 8388608 := by omega
  have hmk := mk_inss n
  have H := hide h
  have G1 := hide g1
  have GM := hide gm
  have q1 : decide ((n : Int) ≤ 8388608) = true := by simpa using hn1
  clear h g1 gm hg
  go_enter Tryd.func66, Tryd.ntmps66
  go_wp2_with fail
  refine (num_is (unhide H) (unhide G1) rfl (by omega)).mono ?_
  rintro e u1 ⟨rfl, hR1, hK1⟩
  obtain ⟨s, hs, hsb⟩ := hR1
  have hss : s.size = r1.length := by rw [size_list, hs]
  have c0 : u1.cell? ⟨R, 0, none⟩ = some (.string s) := by rw [Lib.cell_of_heap hsb]; rfl
  have q2 : decide ((n : Int) ≤ (s.size : Int) / 14) = true := by simp; omega
  have hsl : s.size ≤ 140737488355328 := by omega
  have hq : n ≤ s.size / 14 := by rw [hss]; exact hn2
  have hu1 := hK1.size
  have HR1 := hide (show Rd R r1 u1 from ⟨s, hs, hsb⟩)
  have HK1 := hide hK1
  clear hs hsb hK1 hss
  by_cases c0n : n = 0
  · have q3 : ((n : Int) == 0) = true := by simp [c0n]
    have HN := hide c0n
    clear hmk c0n
    go_wp2_with fail
    refine (need_eq _ (by first | with_reducible rfl | exact decide_eq_true (by omega)) _).mono ?_
    rintro e w' ⟨rfl, rfl⟩
    go_wp2
    go_ret
    have e0 := unhide HN
    subst e0
    obtain ⟨rfl, rfl⟩ := gMany_zero (unhide GM)
    exact ⟨⟨_, rfl, 0, 0, ⟨none, 0, rfl, Nat.le_refl _, by simp, fun h0 => by simp at h0⟩, fun i hi => by simp at hi⟩, unhide HR1, unhide HK1⟩
  have q3 : ((n : Int) == 0) = false := by simp; omega
  go_wp2_with fail
  refine (need_eq _ (by first | with_reducible rfl | exact decide_eq_true (by omega)) _).mono ?_
  rintro e u2 ⟨rfl, hu2⟩
  subst hu2
  go_wp2
  obtain ⟨W, hW⟩ : ∃ W, W = u2.alloc (.cells (mc_inss n) 29) := ⟨_, rfl⟩
  obtain ⟨D, hD⟩ : ∃ D, D = u2.heap.size := ⟨_, rfl⟩
  rw [← hW]
  have hBk : Blk W D (n * 4) 29 := by rw [hW, hD]; exact blk_inss u2 n
  have hbW : Below u2.heap.size u2 W := by rw [hW]; exact below1 u2 _
  have hsW : W.heap.size = u2.heap.size + 1 := by rw [hW]; simp
  have hDw0 : w.heap.size ≤ D := by omega
  have hDW : D < W.heap.size := by omega
  have HRW := hide ((unhide HR1).below hbW)
  have HKW := hide ((unhide HK1).trans (Keep.of_below hbW))
  have HBk := hide hBk
  rw [← hD]
  clear hmk hW hBk hbW c0 q1 q2 q3 hsl hq HR1 HK1 hD hsW
  go_loopw [39] (fun i wr => ∃ (k : Nat) (rk : List UInt8), k ≤ n ∧ i = .int .i64 k ∧ gMany gIns (n - k) rk = some (xs.drop k, r) ∧ rk.length ≤ l.length ∧ Rd R rk wr ∧ Keep R w wr ∧ Blk wr D (n * 4) 29 ∧ D < wr.heap.size ∧ ∀ i (_ : i < k) (hi : i < xs.length), InAt wr D (i * 4) xs[i]) (fun i _ => n - (intOf i).toNat)
  case atStart => exact ⟨0, r1, Nat.zero_le _, rfl, by simpa using unhide GM, hr1, unhide HRW, unhide HKW, unhide HBk, hDW, fun i hi _ => by omega⟩
  case round =>
    obtain ⟨k, rk, hk, rfl, gk, hrl, hRr, hKr, hBr, hDw, hA⟩ := hrel
    have hszr := hKr.size
    by_cases hlt : k < n
    · obtain ⟨m, hm⟩ : ∃ m, n - k = m + 1 := ⟨n - k - 1, by omega⟩
      rw [hm] at gk
      obtain ⟨x, ys, r2, ex, gone, gm2⟩ := gMany_succ gk
      have hkx : k < xs.length := by omega
      have hx : xs[k] = x := by
        have := List.drop_eq_getElem_cons hkx
        rw [ex] at this
        injection this with e1 _
        exact e1.symm
      have hys : ys = xs.drop (k + 1) := by
        have := List.drop_eq_getElem_cons hkx
        rw [ex] at this
        injection this
      have hr2 : r2.length ≤ rk.length := len_inss gone
      rw [hys, show m = n - (k + 1) by omega] at gm2
      have HRr := hide hRr
      have HKr := hide hKr
      have HBr := hide hBr
      have GO := hide gone
      have GM2 := hide gm2
      have HX := hide hx
      have HA := hide hA
      clear hRr hKr hBr gone gm2 hx hys ex gk hA hm
      go_wp2_with fail
      refine (ins_is (unhide HRr) (unhide GO)).mono ?_
      rintro e w5 ⟨rfl, hR5, hK5⟩
      have hBk5 : Blk w5 D (n * 4) 29 := (by obtain ⟨cur, q1, q2⟩ := unhide HBr; exact ⟨cur, hK5.blk q1 (by omega), q2⟩)
      have hsz5 := hK5.size
      obtain ⟨old0, c0⟩ := hBk5.cell (k * 4) (by omega)
      have f0 := hBk5.froz (k * 4)
      obtain ⟨old1, c1⟩ := hBk5.cell (k * 4 + 1) (by omega)
      have f1 := hBk5.froz (k * 4 + 1)
      obtain ⟨old2, c2⟩ := hBk5.cell (k * 4 + 2) (by omega)
      have f2 := hBk5.froz (k * 4 + 2)
      obtain ⟨old3, c3⟩ := hBk5.cell (k * 4 + 3) (by omega)
      have f3 := hBk5.froz (k * 4 + 3)
      have HB5 := hide hBk5
      have HR5 := hide hR5
      have HKw := hide hK5
      have HK5 := hide ((unhide HKr).trans hK5)
      clear hBk5 hR5 hK5
      go_wp2
      go_roundw
      case rel =>
        have hA := unhide HA
        have hBk5 := unhide HB5
        have n0 : (((((w5.setCell ⟨D, k * 4, none⟩ (.int .i64 x.op)).setCell ⟨D, k * 4 + 1, none⟩ (.int .i64 x.a)).setCell ⟨D, k * 4 + 2, none⟩ (.int .i64 x.b)).setCell ⟨D, k * 4 + 3, none⟩ (.int .i64 x.l))).cell? ⟨D, k * 4, none⟩ = some (.int .i64 x.op) := by simp [go_sem, c0]
        have n1 : (((((w5.setCell ⟨D, k * 4, none⟩ (.int .i64 x.op)).setCell ⟨D, k * 4 + 1, none⟩ (.int .i64 x.a)).setCell ⟨D, k * 4 + 2, none⟩ (.int .i64 x.b)).setCell ⟨D, k * 4 + 3, none⟩ (.int .i64 x.l))).cell? ⟨D, k * 4 + 1, none⟩ = some (.int .i64 x.a) := by simp [go_sem, c1]
        have n2 : (((((w5.setCell ⟨D, k * 4, none⟩ (.int .i64 x.op)).setCell ⟨D, k * 4 + 1, none⟩ (.int .i64 x.a)).setCell ⟨D, k * 4 + 2, none⟩ (.int .i64 x.b)).setCell ⟨D, k * 4 + 3, none⟩ (.int .i64 x.l))).cell? ⟨D, k * 4 + 2, none⟩ = some (.int .i64 x.b) := by simp [go_sem, c2]
        have n3 : (((((w5.setCell ⟨D, k * 4, none⟩ (.int .i64 x.op)).setCell ⟨D, k * 4 + 1, none⟩ (.int .i64 x.a)).setCell ⟨D, k * 4 + 2, none⟩ (.int .i64 x.b)).setCell ⟨D, k * 4 + 3, none⟩ (.int .i64 x.l))).cell? ⟨D, k * 4 + 3, none⟩ = some (.int .i64 x.l) := by simp [go_sem, c3]
        refine ⟨k + 1, r2, by omega, by go_num, unhide GM2, by omega, ((((unhide HR5).set (show D ≠ R by omega) _ _).set (show D ≠ R by omega) _ _).set (show D ≠ R by omega) _ _).set (show D ≠ R by omega) _ _, ((((unhide HK5).setN (show w.heap.size ≤ D by omega) _ _).setN (show w.heap.size ≤ D by omega) _ _).setN (show w.heap.size ≤ D by omega) _ _).setN (show w.heap.size ≤ D by omega) _ _, ((((hBk5).set _ _).set _ _).set _ _).set _ _, by simp [World.setCell]; omega, fun i hi hi2 => ?_⟩
        by_cases hik : i = k
        · have hik := hik.symm
          subst hik
          rw [unhide HX]
          exact ⟨n0, n1, n2, n3⟩
        · exact (hA i (by omega) (by omega)).alk ((((((unhide HKw).alk hDw (show D ≠ R by omega) _ _).trans (set_alk w5 D (k * 4) (.int .i64 x.op) (by omega))).trans (set_alk (w5.setCell ⟨D, k * 4, none⟩ (.int .i64 x.op)) D (k * 4 + 1) (.int .i64 x.a) (by omega))).trans (set_alk ((w5.setCell ⟨D, k * 4, none⟩ (.int .i64 x.op)).setCell ⟨D, k * 4 + 1, none⟩ (.int .i64 x.a)) D (k * 4 + 2) (.int .i64 x.b) (by omega))).trans (set_alk (((w5.setCell ⟨D, k * 4, none⟩ (.int .i64 x.op)).setCell ⟨D, k * 4 + 1, none⟩ (.int .i64 x.a)).setCell ⟨D, k * 4 + 2, none⟩ (.int .i64 x.b)) D (k * 4 + 3) (.int .i64 x.l) (by omega)))
      case measure => simp [intOf]; omega
    · have e : k = n := by omega
      subst e
      rw [Nat.sub_self] at gk
      obtain ⟨-, rfl⟩ := gMany_zero gk
      have HRr := hide hRr
      have HKr := hide hKr
      have HA := hide hA
      clear hRr hKr hBr gk hA
      go_wp2
      go_ret
      have hA := unhide HA
      refine ⟨⟨_, rfl, D, 0, ⟨some ⟨D, 0, none⟩, k, by rw [hlen]; rfl, by omega, by omega, fun _ => ⟨rfl, hDw0, hDw⟩⟩, fun i hi => by have := hA i (by omega) hi; rwa [Nat.zero_add]⟩, unhide HRr, unhide HKr⟩

end Go.Proofs.YtgheaieghoekhaaDoor
