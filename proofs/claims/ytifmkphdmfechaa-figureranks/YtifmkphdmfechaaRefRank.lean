/- The document's Rank; are two lists alike? -/
import Derived.Test.YtifmkphdmfechaaRankM
import Derived.Test.YtifmkphdmfechaaInts
import Derived.Test.YtifmkphdmfechaaKeep
namespace Go.Proofs.Ytifmkphdmfechaa
open Go.RowKit

theorem Try.infoI : (Try.prog.info? 3).map (fun i => (i.zero, i.size, i.bytes)) = some (some (.int .i64 0), 1, 8) := by kernel_rfl

/-- n new cells of 0 -/
def mcI (n : Nat) : Array Value := madeCells (Value.int .i64 0).cells n

theorem mk_ints (n : Nat) (w : World) (hn : n ≤ 35184372088832) : (Instr.makeSlice 34 (.int .i64 (n : Int)) (.int .i64 (n : Int))).run Try.prog w = .ok (.slice (some ⟨w.heap.size, 0, none⟩) n n) (w.alloc (.cells (mcI n) 3)) := by
  obtain ⟨i, hi, hz0, hz1, hz2⟩ := info_parts Try.infoI
  have h := run_make (P := Try.prog) w 34 3 i (.int .i64 0) Try.underlying34 hi hz0 .i64 .i64 (n : Int) (n : Int) (by omega) (by omega) (by rw [hz2]; omega) (by omega)
  rw [hz1, Nat.mul_one, Int.toNat_natCast] at h
  exact h

theorem mcI_size (n : Nat) : (mcI n).size = n := size_madeCells _ _

theorem blk_ints (w : World) (n : Nat) : Blk (w.alloc (.cells (mcI n) 3)) w.heap.size n 3 := by
  have h := Blk.new w (mcI n) 3
  rw [mcI_size] at h
  exact h

theorem drewN_add {wr w : World} {m : Nat} (h : wr = w.drewN m) (k : Nat) : wr.drewN k = w.drewN (m + k) := by rw [h, World.drewN_drewN]

theorem blk_drewN {w : World} {C n : Nat} {e : TypeId} (h : Blk w C n e) (m : Nat) : Blk (w.drewN m) C n e := h
theorem below_dn2 {B : Nat} {a w : World} (h : Below B a w) (n : Nat) : Below B a (w.drewN n) := ⟨h.os, h.tape, h.output, h.size, h.block⟩

theorem ranked_step {w : World} {C n i : Nat} {zs : Nat → Nat} (hB : Blk w C n 3) (hi : i < n) (h : ∀ j, j < i → w.cell? ⟨C, cntR zs j n, none⟩ = some (.int .i64 j)) :
    ∀ j, j < i + 1 → (w.setCell ⟨C, cntR zs i n, none⟩ (.int .i64 i)).cell? ⟨C, cntR zs j n, none⟩ = some (.int .i64 j) := by
  intro j hj
  by_cases e : j = i
  · subst e
    obtain ⟨u, hu⟩ := hB.cell (cntR zs j n) (cntR_lt zs hi)
    exact World.cell?_setCell_same _ _ _ hu
  · rw [World.cell?_setCell_other _ _ _ _ (by
      intro h1
      injection h1 with _ h1 _
      exact e (cntR_inj (by omega) hi h1.symm))]
    exact h j (by omega)

set_option maxHeartbeats 4000000 in
theorem refrank_any {w : World} {a : Option Addr} {n cap : Nat} {zs : Nat → Nat} (hR : Row w a n zs) (hz : ∀ i, i < n → zs i < 18446744073709551616) (hn : n ≤ 17592186044416) :
    Calls Try.prog 24 #[.slice a n cap] w fun e w' => e = .returned (.slice (some ⟨w.heap.size, 0, none⟩) n n) ∧ (∀ i, i < n → w'.cell? ⟨w.heap.size, cntR zs i n, none⟩ = some (.int .i64 i)) ∧ Blk w' w.heap.size n 3 ∧ Below w.heap.size w w' := by
  have HR := hide hR
  have HZ := hide hz
  have hmk := fun w => mk_ints n w (by omega)
  clear hR hz
  go_enter Try.func24, Try.ntmps24
  go_wp2
  clear hmk
  go_loopw [4] (fun i wr => ∃ k : Nat, k ≤ n ∧ i = .int .i64 k ∧ (∀ j, j < k → wr.cell? ⟨w.heap.size, cntR zs j n, none⟩ = some (.int .i64 j)) ∧ Blk wr w.heap.size n 3 ∧ Below w.heap.size w wr) (fun i _ => n - (intOf i).toNat)
  case atStart => exact ⟨0, by omega, rfl, fun j hj => by omega, blk_ints w n, (Below.refl _ _).alloc (Nat.le_refl _) _⟩
  case round =>
    obtain ⟨i, hi, rfl, hcs, hBk, hB⟩ := hrel
    by_cases hlt : i < n
    · obtain ⟨b, off, rfl, hb, hc⟩ := (unhide HR).at (by omega)
      obtain ⟨wo, hwo⟩ : ∃ wo, wo = wr := ⟨_, rfl⟩
      have HC : Hid (∀ k, k < n → wo.cell? ⟨b, off + k, none⟩ = some (.float .f64 (zs k))) := fun k hk => by rw [hwo]; exact (hB.cell (p := ⟨b, off + k, none⟩) hb).trans (hc k hk)
      have HCS := hide hcs
      have HBK := hide hBk
      have HB := hide hB
      rw [← hwo] at HCS HBK HB
      subst hwo
      clear hc hb hcs hBk hB
      go_wp2
      go_loopw [5, 6] (fun c k wr => ∃ q m : Nat, q ≤ n ∧ k = .int .i64 q ∧ c = .int .i64 (cntR zs i q) ∧ wr = wo.drewN m) (fun _ k _ => n - (intOf k).toNat)
      case atStart => exact ⟨0, 0, by omega, rfl, rfl, rfl⟩
      case round =>
        obtain ⟨q, m, hq, rfl, rfl, hw⟩ := hrel
        have hcl := cntR_le zs i q
        by_cases hql : q < n
        · have hcq : wr.cell? ⟨b, off + q, none⟩ = some (.float .f64 (zs q)) := by rw [hw]; exact (unhide HC) q hql
          have hci : wr.cell? ⟨b, off + i, none⟩ = some (.float .f64 (zs i)) := by rw [hw]; exact (unhide HC) i hlt
          have hzq := hide ((unhide HZ) q hql)
          have hzi := hide ((unhide HZ) i hlt)
          have HW := hide hw
          have hcl2 : cntR zs i q ≤ q := by omega
          clear hw hcl
          rcases ord_cases (zs q) (zs i) with ⟨h1, h2⟩ | ⟨h1, h2⟩ | ⟨h1, h2⟩
          · have F := hide (cntR_yes (zs := zs) (i := i) (k := q) (rlt_iff.2 (Or.inl h2)))
            clear h2
            go_wp2
            go_quiet ((go_at_call 15; exact Calls.quiet_of_same (reforder_any _ _ _ (unhide hzq) (unhide hzi))))
            go_wp2
            go_roundw
            case rel => exact ⟨q + 1, m + _, by omega, by go_num, by rw [unhide F] <;> go_num, drewN_add (unhide HW) _⟩
            case measure => simp [intOf]; omega
          · by_cases hqi : q < i
            · have F := hide (cntR_yes (zs := zs) (i := i) (k := q) (rlt_iff.2 (Or.inr ⟨h2, hqi⟩)))
              clear h2
              go_wp2
              go_quiet ((go_at_call 15; exact Calls.quiet_of_same (reforder_any _ _ _ (unhide hzq) (unhide hzi))))
              go_wp2
              go_roundw
              case rel => exact ⟨q + 1, m + _, by omega, by go_num, by rw [unhide F] <;> go_num, drewN_add (unhide HW) _⟩
              case measure => simp [intOf]; omega
            · have F := hide (cntR_no (zs := zs) (i := i) (k := q) (rlt_no.2 (by omega)))
              clear h2
              go_wp2
              go_quiet ((go_at_call 15; exact Calls.quiet_of_same (reforder_any _ _ _ (unhide hzq) (unhide hzi))))
              go_wp2
              go_roundw
              case rel => exact ⟨q + 1, m + _, by omega, by go_num, by rw [unhide F] <;> go_num, drewN_add (unhide HW) _⟩
              case measure => simp [intOf]; omega
          · have F := hide (cntR_no (zs := zs) (i := i) (k := q) (rlt_no.2 (by omega)))
            clear h2
            go_wp2
            go_quiet ((go_at_call 15; exact Calls.quiet_of_same (reforder_any _ _ _ (unhide hzq) (unhide hzi))))
            go_wp2
            go_roundw
            case rel => exact ⟨q + 1, m + _, by omega, by go_num, by rw [unhide F] <;> go_num, drewN_add (unhide HW) _⟩
            case measure => simp [intOf]; omega
        · have e : q = n := by omega
          subst e
          subst hw
          have hpos := cntR_lt zs hlt
          obtain ⟨u, hu⟩ := (unhide HBK).cell (cntR zs i q) hpos
          have hfz := (unhide HBK).froz (cntR zs i q)
          have S1 := hide (ranked_step (unhide HBK) hlt (unhide HCS))
          have S2 := hide ((unhide HBK).set (cntR zs i q) (.int .i64 i))
          have S3 := hide ((unhide HB).setCell (p := ⟨w.heap.size, cntR zs i q, none⟩) (Nat.le_refl _) (.int .i64 i))
          clear hcl
          go_wp2
          go_roundw
          case rel => exact ⟨i + 1, by omega, by go_num, unhide S1, blk_drewN (unhide S2) _, below_dn2 (unhide S3) _⟩
          case measure => simp [intOf]; omega
    · have e : i = n := by omega
      subst e
      have H1 := hide hcs
      have H2 := hide hBk
      have H3 := hide hB
      clear hcs hBk hB
      go_wp2
      go_ret
      exact ⟨rfl, unhide H1, unhide H2, unhide H3⟩

set_option maxHeartbeats 1000000 in
theorem sameints_any {w : World} {C D n c1 c2 : Nat} {f : Nat → Int} (h1 : ∀ p, p < n → w.cell? ⟨C, p, none⟩ = some (.int .i64 (f p))) (h2 : ∀ p, p < n → w.cell? ⟨D, p, none⟩ = some (.int .i64 (f p))) (hn : n ≤ 17592186044416) :
    Calls Try.prog 26 #[.slice (some ⟨C, 0, none⟩) n c1, .slice (some ⟨D, 0, none⟩) n c2] w fun e w' => e = .returned (.bool true) ∧ ∃ m, w' = w.drewN m := by
  have H1 := hide h1
  have H2 := hide h2
  have hnn : ((n : Int) != (n : Int)) = false := by simp
  clear h1 h2
  go_enter Try.func26, Try.ntmps26
  go_wp2
  go_loopw [5] (fun i wr => ∃ k m : Nat, k ≤ n ∧ i = .int .i64 k ∧ wr = w.drewN m) (fun i _ => n - (intOf i).toNat)
  case atStart => exact ⟨0, 0, by omega, rfl, rfl⟩
  case round =>
    obtain ⟨k, m, hk, rfl, hw⟩ := hrel
    by_cases hlt : k < n
    · have hc : wr.cell? ⟨C, k, none⟩ = some (.int .i64 (f k)) := by rw [hw]; exact (unhide H1) k hlt
      have hd : wr.cell? ⟨D, k, none⟩ = some (.int .i64 (f k)) := by rw [hw]; exact (unhide H2) k hlt
      have HW := hide hw
      have hff : (f k != f k) = false := by simp
      clear hw hnn
      go_wp2
      go_quiet (fail)
      go_wp2
      go_roundw
      case rel => exact ⟨k + 1, m + _, by omega, by go_num, drewN_add (unhide HW) _⟩
      case measure => simp [intOf]; omega
    · subst hw
      go_wp2
      go_ret
      exact ⟨rfl, m, rfl⟩

end Go.Proofs.Ytifmkphdmfechaa
