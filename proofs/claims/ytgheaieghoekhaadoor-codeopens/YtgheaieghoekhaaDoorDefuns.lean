/- A list that is read: drowse/api.Func. -/
import Derived.Test.YtgheaieghoekhaaDoorDg
namespace Go.Proofs.YtgheaieghoekhaaDoor
open Go.RowKit

theorem info_funs : (Tryd.prog.info? 51).map (fun i => (i.zero, i.size, i.bytes)) = some (some (.agg #[.string ⟨#[]⟩, .int .i64 0, .int .i64 0, .bool false, .slice none 0 0]), 5, 64) := by kernel_rfl

/-- n new ones -/
def mc_funs (n : Nat) : Array Value := madeCells (.agg #[.string ⟨#[]⟩, .int .i64 0, .int .i64 0, .bool false, .slice none 0 0] : Value).cells (n * 5)

theorem mk_funs (n : Nat) (w : World) (hn : n ≤ 8388608) : (Instr.makeSlice 22 (.int .i64 (n : Int)) (.int .i64 (n : Int))).run Tryd.prog w = .ok (.slice (some ⟨w.heap.size, 0, none⟩) n n) (w.alloc (.cells (mc_funs n) 51)) := by
  obtain ⟨i, hi, hz⟩ := Option.map_eq_some_iff.1 info_funs
  simp only [Prod.mk.injEq] at hz
  obtain ⟨hz0, hz1, hz2⟩ := hz
  have h := run_make (P := Tryd.prog) w 22 51 i (.agg #[.string ⟨#[]⟩, .int .i64 0, .int .i64 0, .bool false, .slice none 0 0]) Tryd.underlying22 hi hz0 .i64 .i64 (n : Int) (n : Int) (by omega) (by omega) (by rw [hz2]; omega) (by omega)
  rw [hz1, Int.toNat_natCast] at h
  exact h

theorem blk_funs (w : World) (n : Nat) : Blk (w.alloc (.cells (mc_funs n) 51)) w.heap.size (n * 5) 51 := by
  have h := Blk.new w (mc_funs n) 51
  unfold mc_funs at *
  rw [size_madeCells] at h
  exact h

set_option maxHeartbeats 8000000 in
theorem list_funs {R : Nat} {l r : List UInt8} {w : World} (h : Rd R l w) (hl : l.length ≤ 140737488355328) {xs : List Fu} (hg : gList gFun 4 100 12 l = some (xs, r)) :
    Calls Tryd.prog 38 #[.pointer (some ⟨R, 0, none⟩), .int .i64 4, .int .i64 100, .int .i64 12, .func (.func 39) #[] #[]] w fun e w' => (∃ v, e = .returned v ∧ LstR w.heap.size w'.heap.size 5 (FuR w.heap.size w'.heap.size w') v xs) ∧ Rd R r w' ∧ Keep R w w' := by
  obtain ⟨n, r1, g1, hn1, hn2, gm⟩ := gList_some hg (by omega)
  have hlen := gMany_len gm
  have hr1 : r1.length ≤ l.length := by rw [(gNum_some g1).2.2, List.length_drop]; omega
  have hRl := h.lt
  have hn8 : n ≤ 8388608 := by omega
  have hmk := mk_funs n
  have H := hide h
  have G1 := hide g1
  have GM := hide gm
  have q1 : decide ((n : Int) ≤ 100) = true := by simpa using hn1
  clear h g1 gm hg
  go_enter Tryd.func38, Tryd.ntmps38
  go_wp2_with fail
  refine (num_is (unhide H) (unhide G1) rfl (by omega)).mono ?_
  rintro e u1 ⟨rfl, hR1, hK1⟩
  obtain ⟨s, hs, hsb⟩ := hR1
  have hss : s.size = r1.length := by rw [size_list, hs]
  have c0 : u1.cell? ⟨R, 0, none⟩ = some (.string s) := by rw [Lib.cell_of_heap hsb]; rfl
  have q2 : decide ((n : Int) ≤ (s.size : Int) / 12) = true := by simp; omega
  have hsl : s.size ≤ 140737488355328 := by omega
  have hq : n ≤ s.size / 12 := by rw [hss]; exact hn2
  have hu1 := hK1.size
  have HR1 := hide (show Rd R r1 u1 from ⟨s, hs, hsb⟩)
  have HK1 := hide hK1
  clear hs hsb hK1 hss
  by_cases c0n : n = 0
  · have q3 : ((n : Int) == 0) = true := by simp [c0n]
    have HN := hide c0n
    clear hmk c0n
    go_wp2_with fail
    refine (need_eq _ (by first | with_reducible rfl | exact decide_eq_true (by omega)) _).mono ?_
    rintro e w' ⟨rfl, rfl⟩
    go_wp2
    go_ret
    have e0 := unhide HN
    subst e0
    obtain ⟨rfl, rfl⟩ := gMany_zero (unhide GM)
    exact ⟨⟨_, rfl, 0, 0, ⟨none, 0, rfl, Nat.le_refl _, by simp, fun h0 => by simp at h0⟩, fun i hi => by simp at hi⟩, unhide HR1, unhide HK1⟩
  have q3 : ((n : Int) == 0) = false := by simp; omega
  go_wp2_with fail
  refine (need_eq _ (by first | with_reducible rfl | exact decide_eq_true (by omega)) _).mono ?_
  rintro e u2 ⟨rfl, hu2⟩
  subst hu2
  go_wp2
  obtain ⟨W, hW⟩ : ∃ W, W = u2.alloc (.cells (mc_funs n) 51) := ⟨_, rfl⟩
  obtain ⟨D, hD⟩ : ∃ D, D = u2.heap.size := ⟨_, rfl⟩
  rw [← hW]
  have hBk : Blk W D (n * 5) 51 := by rw [hW, hD]; exact blk_funs u2 n
  have hbW : Below u2.heap.size u2 W := by rw [hW]; exact below1 u2 _
  have hsW : W.heap.size = u2.heap.size + 1 := by rw [hW]; simp
  have hDw0 : w.heap.size ≤ D := by omega
  have hDW : D < W.heap.size := by omega
  have HRW := hide ((unhide HR1).below hbW)
  have HKW := hide ((unhide HK1).trans (Keep.of_below hbW))
  have HBk := hide hBk
  rw [← hD]
  clear hmk hW hBk hbW c0 q1 q2 q3 hsl hq HR1 HK1 hD hsW
  go_loopw [39] (fun i wr => ∃ (k : Nat) (rk : List UInt8), k ≤ n ∧ i = .int .i64 k ∧ gMany gFun (n - k) rk = some (xs.drop k, r) ∧ rk.length ≤ l.length ∧ Rd R rk wr ∧ Keep R w wr ∧ Blk wr D (n * 5) 51 ∧ D < wr.heap.size ∧ ∀ i (_ : i < k) (hi : i < xs.length), FuR (D + 1) wr.heap.size wr D (i * 5) xs[i]) (fun i _ => n - (intOf i).toNat)
  case atStart => exact ⟨0, r1, Nat.zero_le _, rfl, by simpa using unhide GM, hr1, unhide HRW, unhide HKW, unhide HBk, hDW, fun i hi _ => by omega⟩
  case round =>
    obtain ⟨k, rk, hk, rfl, gk, hrl, hRr, hKr, hBr, hDw, hA⟩ := hrel
    have hszr := hKr.size
    by_cases hlt : k < n
    · obtain ⟨m, hm⟩ : ∃ m, n - k = m + 1 := ⟨n - k - 1, by omega⟩
      rw [hm] at gk
      obtain ⟨x, ys, r2, ex, gone, gm2⟩ := gMany_succ gk
      have hkx : k < xs.length := by omega
      have hx : xs[k] = x := by
        have := List.drop_eq_getElem_cons hkx
        rw [ex] at this
        injection this with e1 _
        exact e1.symm
      have hys : ys = xs.drop (k + 1) := by
        have := List.drop_eq_getElem_cons hkx
        rw [ex] at this
        injection this
      have hr2 : r2.length ≤ rk.length := len_funs gone
      rw [hys, show m = n - (k + 1) by omega] at gm2
      have HRr := hide hRr
      have HKr := hide hKr
      have HBr := hide hBr
      have GO := hide gone
      have GM2 := hide gm2
      have HX := hide hx
      have HA := hide hA
      clear hRr hKr hBr gone gm2 hx hys ex gk hA hm
      go_wp2_with fail
      refine (fun_is (unhide HRr) (Nat.le_trans hrl hl) (unhide GO)).mono ?_
      rintro e w5 ⟨⟨vv, rfl, hvv⟩, hR5, hK5⟩
      have HVV := hide hvv
      obtain ⟨vb, vo, ⟨va, vc, rfl, -⟩, -⟩ := hvv
      have hBk5 : Blk w5 D (n * 5) 51 := (by obtain ⟨cur, q1, q2⟩ := unhide HBr; exact ⟨cur, hK5.blk q1 (by omega), q2⟩)
      have hsz5 := hK5.size
      obtain ⟨old0, c0⟩ := hBk5.cell (k * 5) (by omega)
      have f0 := hBk5.froz (k * 5)
      obtain ⟨old1, c1⟩ := hBk5.cell (k * 5 + 1) (by omega)
      have f1 := hBk5.froz (k * 5 + 1)
      obtain ⟨old2, c2⟩ := hBk5.cell (k * 5 + 2) (by omega)
      have f2 := hBk5.froz (k * 5 + 2)
      obtain ⟨old3, c3⟩ := hBk5.cell (k * 5 + 3) (by omega)
      have f3 := hBk5.froz (k * 5 + 3)
      obtain ⟨old4, c4⟩ := hBk5.cell (k * 5 + 4) (by omega)
      have f4 := hBk5.froz (k * 5 + 4)
      have HB5 := hide hBk5
      have HR5 := hide hR5
      have HKw := hide hK5
      have HK5 := hide ((unhide HKr).trans hK5)
      clear hBk5 hR5 hK5
      go_wp2
      go_roundw
      case rel =>
        have hA := unhide HA
        have hBk5 := unhide HB5
        obtain ⟨W5, hW5⟩ : ∃ W5, W5 = put w5 D (k * 5) [.string x.nm, .int .i64 x.pa, .int .i64 x.sl, .bool x.rs, .slice va x.cd.length vc] := ⟨_, rfl⟩
        have hat := put_at (k * 5) [.string x.nm, .int .i64 x.pa, .int .i64 x.sl, .bool x.rs, .slice va x.cd.length vc] hBk5 (by show k * 5 + 5 ≤ n * 5; omega)
        have hoth : ∀ b, b ≠ D → ∀ o, W5.cell? ⟨b, o, none⟩ = w5.cell? ⟨b, o, none⟩ := fun b hb o => by rw [hW5]; exact put_cellB hb _ _ o
        have hsz : W5.heap.size = w5.heap.size := by rw [hW5]; exact put_size _ _
        have hrd : Rd R r2 W5 := by rw [hW5]; exact put_rd (unhide HR5) (by omega) _ _
        have hkp : Keep R w W5 := by rw [hW5]; exact put_keep _ _ (unhide HK5) (by omega)
        have hbk : Blk W5 D (n * 5) 51 := by rw [hW5]; exact put_blk _ _ hBk5
        have hak : ∀ o, o + 5 ≤ k * 5 → Alk w5 W5 D o 5 := fun o ho => by rw [hW5]; exact put_alk _ ho
        have a0 : W5.cell? ⟨D, k * 5, none⟩ = some (.string x.nm) := by rw [hW5]; exact hat 0 (by simp)
        have a1 : W5.cell? ⟨D, k * 5 + 1, none⟩ = some (.int .i64 x.pa) := by rw [hW5]; exact hat 1 (by simp)
        have a2 : W5.cell? ⟨D, k * 5 + 2, none⟩ = some (.int .i64 x.sl) := by rw [hW5]; exact hat 2 (by simp)
        have a3 : W5.cell? ⟨D, k * 5 + 3, none⟩ = some (.bool x.rs) := by rw [hW5]; exact hat 3 (by simp)
        have a4 : W5.cell? ⟨D, k * 5 + 4, none⟩ = some (.slice va x.cd.length vc) := by rw [hW5]; exact hat 4 (by simp)
        have eW : (((((w5.setCell ⟨D, k * 5, none⟩ (.string x.nm)).setCell ⟨D, k * 5 + 1, none⟩ (.int .i64 x.pa)).setCell ⟨D, k * 5 + 2, none⟩ (.int .i64 x.sl)).setCell ⟨D, k * 5 + 3, none⟩ (.bool x.rs)).setCell ⟨D, k * 5 + 4, none⟩ (.slice va x.cd.length vc)) = W5 := hW5.symm
        rw [eW]
        clear eW hW5 hat
        refine ⟨k + 1, r2, by omega, by go_num, unhide GM2, by omega, hrd, hkp, hbk, by omega, fun i hi hi2 => ?_⟩
        rw [hsz]
        by_cases hik : i = k
        · have hik := hik.symm
          subst hik
          rw [unhide HX]
          exact ⟨_, a0, a1, a2, a3, a4, (unhide HVV).imp (show D + 1 ≤ _ by omega) (Nat.le_refl _) fun b o y h1 h2 => InAt.same (B := D + 1) (M := w5.heap.size) (fun b o h1 h2 => hoth b (by omega) o) (by omega) h2⟩
        · have ha := ((unhide HKw).alk hDw (show D ≠ R by omega) (i * 5) 5).trans (hak (i * 5) (by omega))
          exact (hA i (by omega) hi2).alk ha (fun b o h1 h2 => (hoth b (by omega) o).trans ((unhide HKw).cellO h2 (show b ≠ R by omega))) hsz5
      case measure => simp [intOf]; omega
    · have e : k = n := by omega
      subst e
      rw [Nat.sub_self] at gk
      obtain ⟨-, rfl⟩ := gMany_zero gk
      have HRr := hide hRr
      have HKr := hide hKr
      have HA := hide hA
      clear hRr hKr hBr gk hA
      go_wp2
      go_ret
      have hA := unhide HA
      refine ⟨⟨_, rfl, D, 0, ⟨some ⟨D, 0, none⟩, k, by rw [hlen]; rfl, by omega, by omega, fun _ => ⟨rfl, hDw0, hDw⟩⟩, fun i hi => by have := hA i (by omega) hi; rw [Nat.zero_add]; exact (by obtain ⟨v, h1, h2, h3, h4, h5, h6⟩ := this; exact ⟨v, h1, h2, h3, h4, h5, h6.imp (by omega) (Nat.le_refl _) fun _ _ _ _ _ hx => hx⟩)⟩, unhide HRr, unhide HKr⟩

end Go.Proofs.YtgheaieghoekhaaDoor
