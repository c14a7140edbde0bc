/- Layer 11: the law's book of lists: over, whole. -/
import Derived.Test.YthnnpipekeanoaaXf
namespace Go.Proofs.Ythnnpipekeanoaa
open Go.RowKit

theorem wp_any {P : Program} {c : Code} {R : Exit → Act → World → Prop} {a : Act} {w : World} (h : c.wp P (Exit.then (fun a w => R .normal a w) (fun _ _ _ => False)) a w) : c.wp P R a w :=
  Code.wp_mono (fun e a w h => by cases e <;> first | exact h | exact (h : False).elim) h

set_option maxRecDepth 100000 in
set_option maxHeartbeats 8000000 in
theorem over_is {W : World} {B T n : Nat} {av bv tv lv wv : Value} {ls ws : List Value} {rs : List (List Rc)} (h : Lsts W B T n av bv tv lv wv ls ws rs) :
    Calls Try.prog 11 #[.pointer (some ⟨T, 3, none⟩)] W fun e w' => e = .returned (.bool true) ∧ Ch (Qo lv ls n) W w' := by
  obtain ⟨la, lc, rfl, hlc, hlm⟩ := Row.form h.hl
  obtain ⟨wa, wc, rfl, hwc, hwm⟩ := Row.form h.hw
  have e1 := h.n1
  have e2 := h.n2
  have e3 := h.n3
  have H := hide h
  clear h
  go_enter Try.func11, Try.ntmps11
  go_wp2
  go_loopw [3, 4, 5] (fun iv _ _ wr => ∃ (i : Nat) (ls' : List Value), i ≤ n ∧ iv = .int .i64 (i : Int) ∧ Hid (LsRow wr B (.slice la ls.length lc) ls' ∧ ls'.length = n ∧ (∀ j, i ≤ j → j < n → nth ls' j = nth ls j) ∧ Ch (Qo (.slice la ls.length lc) ls i) W wr)) (fun iv _ _ _ => n - (intOf iv).toNat)
  case atStart => exact ⟨0, ls, Nat.zero_le _, rfl, hide ⟨H.out.hl, H.out.n1, fun _ _ _ => rfl, Ch.refl _ _⟩⟩
  case round =>
    obtain ⟨i, ls', hin, rfl, HI⟩ := hrel
    obtain ⟨W1, rfl⟩ : ∃ x, x = wr := ⟨_, rfl⟩
    have y3 : W1.cell? ⟨T, 3, none⟩ = some (.slice la ls.length lc) := by simp [Lib.cell_of_heap (H.out.oT hin HI.out.2.2.2)]
    by_cases hlt : i < n
    · have q : decide ((i : Int) < (ls.length : Int)) = true := decide_eq_true (by omega)
      go_wp2
      refine wp_then (over_r4 (v := nth ls i) (v' := nth ws i) (H.out.oT hin HI.out.2.2.2) HI.out.1 (H.out.ow hin HI.out.2.2.2) (by have := HI.out.2.1; omega) (by omega) ((nth_get _).trans (HI.out.2.2.1 i (Nat.le_refl _) hlt)) (nth_get _) (H.out.o1 (Nat.le_refl _) hlt HI.out.2.2.2) (H.out.o2 hin hlt HI.out.2.2.2) (by have := H.out.few i hlt; omega) ?_)
      intro W2 hc2
      intros
      have HR := hide (H.out.at1 i hlt)
      obtain ⟨va, vc, ev, hvc, hvm⟩ := Row.form HR.out
      have hfew := H.out.few i hlt
      have HL2 := hide (show RcRow W2 B (nth ls i) (nthR rs i) ∧ LsRow W2 B (.slice la ls.length lc) ls' ∧ Ch (Qo (.slice la ls.length lc) ls (i + 1)) W W2 from ⟨(H.out.o1 (Nat.le_refl _) hlt HI.out.2.2.2).ch hc2 (fun _ _ h => h), HI.out.1.ch hc2 (fun _ _ h => h), (HI.out.2.2.2.trans (hc2.mono (fun _ _ h => h.elim)) (fun _ _ h => h)).mono (fun _ _ h => h.up)⟩)
      generalize hm : (nthR rs i).length = m at *
      have QU := hide (fun y (e : (nth ls i).ownBlock = some y) => (Or.inr ⟨i, by omega, e⟩ : Qo (.slice la ls.length lc) ls (i + 1) y))
      clear y3 q hc2
      go_wp2
      go_loopw [5] (fun jv wr => ∃ (j : Nat) (qs : List Rc), j ≤ m ∧ jv = .int .i64 (j : Int) ∧ Hid (qs.length = m ∧ RcRow wr B (nth ls i) qs ∧ LsRow wr B (.slice la ls.length lc) ls' ∧ Ch (Qo (.slice la ls.length lc) ls (i + 1)) W wr)) (fun jv _ => m - (intOf jv).toNat)
      case atStart => exact ⟨0, nthR rs i, Nat.zero_le _, rfl, hide ⟨hm, HL2.out⟩⟩
      case round =>
        obtain ⟨j, qs, hj, rfl, HJ⟩ := hrel
        obtain ⟨W3, rfl⟩ : ∃ x, x = wr := ⟨_, rfl⟩
        have hT3 := H.out.oT (show i + 1 ≤ n by omega) HJ.out.2.2.2
        obtain ⟨lg, lc', el, hlc', -, hlg, hlat, -⟩ := LsRow.at HJ.out.2.2.1 (by have := HI.out.2.1; omega)
        rw [show ls'.length = ls.length from HI.out.2.1.trans e1.symm] at el
        cases el
        have y3 : W3.cell? ⟨T, 3, none⟩ = some (.slice (some ⟨lg, 0, none⟩) ls.length lc) := by simp [Lib.cell_of_heap hT3]
        have yi : W3.cell? ⟨lg, i, none⟩ = some (.slice va m vc) := by
          rw [hlat i (by have := HI.out.2.1; omega), nth_get, HI.out.2.2.1 i (Nat.le_refl _) hlt, ev]
        have LAT := hide (show lg < W3.heap.size from hlg)
        clear hlat hT3
        by_cases hjm : j < m
        · obtain ⟨vg, vc', cur, ev2, hvc', hvB, hvg, hvk, -, hcell⟩ := Row.at HJ.out.2.1 rcF_len (by have := HJ.out.1; omega)
          rw [ev, HJ.out.1] at ev2
          cases ev2
          have hjq : j < qs.length := by have := HJ.out.1; omega
          have qj : decide ((j : Int) < (m : Int)) = true := decide_eq_true (by omega)
          have qi : (i : Int) < (ls.length : Int) := by omega
          have w77 : IntKind.i64.wrap (-77 - (i : Int)) = -77 - (i : Int) := by rw [IntKind.wrap_i64]; omega
          have z0 : W3.cell? ⟨vg, j * 11, none⟩ = _ := hcell j hjq 0 (.int .u32 qs[j].ms) rfl
          have z1 := hcell j hjq 1 (.int .u32 qs[j].mg) rfl
          have z2 := hcell j hjq 2 (.int .u32 qs[j].ws) rfl
          have z3 := hcell j hjq 3 (.int .u32 qs[j].wg) rfl
          have z4 := hcell j hjq 4 (.int .u32 qs[j].rs) rfl
          have z5 := hcell j hjq 5 (.int .u32 qs[j].rg) rfl
          have z6 := hcell j hjq 6 (.int .i64 qs[j].rd) rfl
          have z7 := hcell j hjq 7 (.int .i64 qs[j].ar) rfl
          have z8 := hcell j hjq 8 (.int .i64 qs[j].vn) rfl
          have z9 := hcell j hjq 9 (.int .u32 qs[j].vs) rfl
          have z10 := hcell j hjq 10 (.int .u32 qs[j].vg) rfl
          have zf : ∀ o, W3.frozen? ⟨vg, o, none⟩ = false := fun o => by simp [World.frozen?, hvk]
          have EV := hide ev
          generalize qs[j] = z at z0 z1 z2 z3 z4 z5 z6 z7 z8 z9 z10
          clear hcell hvk ev
          go_wp2
          obtain ⟨qs1, hq1, hr1⟩ := rc_write (j := j) (by rw [← EV.out]; exact HJ.out.2.1) HJ.out.1 hjm (rc77 i)
          have CR := setRc_ch (Q := fun y => (nth ls i).ownBlock = some y) W3 (g := vg) (by rw [EV.out]; rfl) j (rc77 i)
          go_roundw
          case rel => exact ⟨j + 1, qs1, by omega, by go_num, hide ⟨hq1, by rw [EV.out]; exact hr1, HJ.out.2.2.1.ch CR (fun x hx e => own_ne HJ.out.2.2.1 HJ.out.2.1 (by decide) x hx e), HJ.out.2.2.2.trans CR (fun y _ e => QU.out y e)⟩⟩
          case measure => simp [intOf]; omega
        · have qj : decide ((j : Int) < (m : Int)) = false := decide_eq_false (by omega)
          have qi : (i : Int) < (ls.length : Int) := by omega
          go_wp2
          refine wp_any (over_r11 (v := nth ls i) (H.out.oT (show i + 1 ≤ n by omega) HJ.out.2.2.2) HJ.out.2.2.1 (by have := HI.out.2.1; omega) (by have := HI.out.2.1; omega) ((nth_get _).trans (HI.out.2.2.1 i (Nat.le_refl _) hlt)) HJ.out.2.1 (by have := HJ.out.1; omega) (Nat.le_trans H.out.hB HJ.out.2.2.2.size) ?_)
          intro x W4 hl4 hc4
          intros
          have HL4 := hide hl4
          have HC4 := hide hc4
          clear hl4 hc4 y3 yi
          dsimp only [Exit.inBlock, Exit.then]
          go_wp2
          go_roundw
          case rel => exact ⟨i + 1, ls'.set i x, by omega, by go_num, hide ⟨HL4.out, by rw [List.length_set]; exact HI.out.2.1, fun k hk hk2 => by unfold nth; rw [List.getElem?_set_ne (by omega)]; exact HI.out.2.2.1 k (by omega) hk2, HJ.out.2.2.2.trans HC4.out (fun y _ e => e.elim Or.inl (fun e => QU.out y e))⟩⟩
          case measure => simp [intOf]; omega
    · have q : decide ((i : Int) < (ls.length : Int)) = false := decide_eq_false (by omega)
      have ei : i = n := by omega
      go_wp2
      refine bodyPost_ret (v := .bool true) (by simp [results, Try.results11, go_sem]) rfl ⟨rfl, ?_⟩
      subst ei
      exact HI.out.2.2.2

end Go.Proofs.Ythnnpipekeanoaa
