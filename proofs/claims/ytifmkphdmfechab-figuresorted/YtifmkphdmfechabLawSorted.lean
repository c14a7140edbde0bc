/- Proved: for every list of float64 values the law FigureSorted answers true and leaves its argument as it was. Conditions: none. -/
import Derived.Test.YtifmkphdmfechabLift
import Derived.Test.YtifmkphdmfechabRank
import Derived.Test.YtifmkphdmfechabSortM
import Derived.SizedLaws
namespace Go.Proofs.Ytifmkphdmfechab
open Go.ChangeShapes Go.WideShapes Go.ChangeAt Go.RowKit

theorem seen_start (w : World) (n q : Nat) (hq : q < n) : (w.alloc (.cells (mcI n) 3)).cell? ⟨w.heap.size, q, none⟩ = some (.int .i64 0) := by
  rw [World.cell?_alloc_new]
  simp [mcI, madeCells, Value.cells, hq, Nat.mod_one]

theorem ranked_inj {zs rs : Nat → Nat} {n p q : Nat} (h : Ranked zs n rs) (hp : p < n) (hq : q < n) (e : rs p = rs q) : p = q := by
  have a := h.pos p hp
  have b := h.pos q hq
  rw [e] at a; omega

theorem seen_step {zs rs : Nat → Nat} {w : World} {D n k : Nat} (h : Ranked zs n rs) (hk : k < n) (hs : ∀ p, k ≤ p → p < n → w.cell? ⟨D, rs p, none⟩ = some (.int .i64 0)) (v : Value) :
    ∀ p, k + 1 ≤ p → p < n → (w.setCell ⟨D, rs k, none⟩ v).cell? ⟨D, rs p, none⟩ = some (.int .i64 0) := by
  intro p h1 h2
  rw [World.cell?_setCell_other _ _ _ _ (by
    intro e
    injection e with _ e _
    have := ranked_inj h hk h2 e
    omega)]
  exact hs p (by omega) h2

/-- how two that stand behind one another are ordered -/
theorem ranked_next {zs rs : Nat → Nat} {n k : Nat} (h : Ranked zs n rs) (hk : k + 1 < n) : ord (zs (rs k)) (zs (rs (k + 1))) = -1 ∨ (ord (zs (rs k)) (zs (rs (k + 1))) = 0 ∧ rs k < rs (k + 1)) := by
  have h1 := h.2 k (k + 1) (by omega) hk
  rw [rlt_iff] at h1
  have h2 := ord_cases (zs (rs k)) (zs (rs (k + 1)))
  omega

theorem ord_self (a : Nat) : (ord a a == 0) = true := by
  have h : ord a a = 0 := FM.cmp3_eq rfl
  rw [h]; rfl

theorem all_nan {zs : Nat → Nat} {n : Nat} (h : cnn zs n = 0) : fore zs (-1) n = (9221120237041090561, -1) ∧ fore zs 1 n = (9221120237041090561, -1) := by
  have key : ∀ wy : Int, (wy = 1 ∨ wy = -1) → fore zs wy n = (9221120237041090561, -1) := by
    intro wy hwy
    have hf := fore_found zs wy hwy n
    generalize fore zs wy n = F at hf
    obtain ⟨f, p⟩ := F
    rcases hf with ⟨hp, hf, _⟩ | ⟨i, hi, _, _, hni, _, _⟩
    · simp only at hp hf; rw [hp, hf]
    · rw [cnn_zero n h i hi] at hni; cases hni
  exact ⟨key (-1) (Or.inr rfl), key 1 (Or.inl rfl)⟩

theorem ends_of {zs rs : Nat → Nat} {n : Nat} (h : Ranked zs n rs) (h0 : 0 < cnn zs n) :
    fore zs (-1) n = (zs (rs 0), (rs 0 : Int)) ∧ ∃ t : Nat, t < n ∧ fore zs 1 n = (zs t, (t : Int)) ∧ ord (zs t) (zs (rs (cnn zs n - 1))) = 0 := by
  obtain ⟨hl1, hl2⟩ := last_num h h0
  have hlm := h.1 (cnn zs n - 1) (by have := cnn_le zs n; omega)
  constructor
  · have hf := fore_found zs (-1) (Or.inr rfl) n
    generalize fore zs (-1) n = F at hf
    obtain ⟨f, p⟩ := F
    rcases hf with ⟨_, _, hall⟩ | ⟨i, hi, hp, hf, hni, h1, h2⟩
    · rw [hall _ hlm] at hl1; cases hl1
    · have e := first_least h hi hni h1 h2
      simp only at hp hf
      rw [hp, hf, e]
  · have hf := fore_found zs 1 (Or.inl rfl) n
    generalize fore zs 1 n = F at hf
    obtain ⟨f, p⟩ := F
    rcases hf with ⟨_, _, hall⟩ | ⟨i, hi, hp, hf, hni, h1, _⟩
    · rw [hall _ hlm] at hl1; cases hl1
    · simp only at hp hf
      refine ⟨i, hi, by rw [hp, hf], ?_⟩
      have a := hl2 i hi hni
      have b := h1 _ hlm hl1
      have c := ord_cases (zs (rs (cnn zs n - 1))) (zs i)
      have d := ord_cases (zs i) (zs (rs (cnn zs n - 1)))
      omega

set_option maxRecDepth 100000 in
set_option maxHeartbeats 4000000 in
theorem sorted_walk {a : Option Addr} {n cap : Nat} {zs : Nat → Nat} {w : World} (hR : Row w a n zs) (hn : n ≤ 17592186044416) :
    Calls Try.prog 4 #[.slice a n cap] w fun e w' => e = .returned (.bool true) ∧ Below w.heap.size w w' := by
  have HR := hide hR
  have HN := hide (show n ≤ 281474976710656 by omega)
  have hmk := fun w => mk_ints n w (by omega)
  clear hR
  go_enter Try.func4, Try.ntmps4
  go_wp2_with fail
  refine (awake_any _).mono ?_
  rintro e w1 ⟨rfl, hb1⟩
  have HR1 := hide ((unhide HR).below hb1)
  have HB1 := hide hb1
  have s1 := hb1.size
  clear hb1
  go_wp2_with fail
  refine (rank_any (unhide HR1) hn).mono ?_
  rintro e w2 ⟨rs, rfl, hr2, hc2, hk2, hb2⟩
  have HR2 := hide ((unhide HR1).below hb2)
  have HC := hide hc2
  have HK := hide hr2
  have s2 := hk2.lt
  have HB2 := hide ((unhide HB1).trans (hb2.mono (by omega)))
  have hnn : ((n : Int) != (n : Int)) = false := by simp
  clear hr2 hc2 hk2 hb2 HR1 HB1
  go_wp2
  clear hmk
  go_loopw [6, 7] (fun c i wr => ∃ k : Nat, k ≤ n ∧ i = .int .i64 k ∧ c = .int .i64 (cnn zs k) ∧ (∀ p, k ≤ p → p < n → wr.cell? ⟨w2.heap.size, rs p, none⟩ = some (.int .i64 0)) ∧ Blk wr w2.heap.size n 3 ∧ Below w2.heap.size w2 wr) (fun _ i _ => n - (intOf i).toNat)
  case atStart => exact ⟨0, by omega, rfl, rfl, fun p _ hp => seen_start w2 n _ ((unhide HK).1 p hp), blk_ints w2 n, (Below.refl _ _).alloc (Nat.le_refl _) _⟩
  case round =>
    obtain ⟨k, hk, rfl, rfl, hsn, hBk, hB⟩ := hrel
    have hcl := cnn_le zs k
    by_cases hlt : k < n
    · obtain ⟨b, off, rfl, hb, hc⟩ := (unhide HR2).at (by omega)
      have hrk : wr.cell? ⟨w1.heap.size + 1, k, none⟩ = some (.int .i64 (rs k)) := (hB.cell (p := ⟨w1.heap.size + 1, k, none⟩) s2).trans ((unhide HC) k hlt)
      have hlk := (unhide HK).1 k hlt
      have hsk := hsn k (Nat.le_refl _) hlt
      have hfk := hBk.froz (rs k)
      have hzk : wr.cell? ⟨b, off + k, none⟩ = some (.float .f64 (zs k)) := (hB.cell (p := ⟨b, off + k, none⟩) hb).trans (hc k hlt)
      have S1 := hide (seen_step (unhide HK) hlt hsn (.int .i64 1))
      have S2 := hide (hBk.set (rs k) (.int .i64 1))
      have S3 := hide (hB.setCell (p := ⟨w2.heap.size, rs k, none⟩) (Nat.le_refl _) (.int .i64 1))
      have hge : ¬ (n : Int) ≤ (rs k : Int) := by omega
      have hnk := ne_nan_f (zs k)
      have hne1 : w1.heap.size + 1 ≠ w2.heap.size := by omega
      have hne2 : b ≠ w2.heap.size := by omega
      have HC2 := hide hc
      have HBB := hide hb
      clear hc hb hsn hBk hB
      by_cases hk0 : k = 0
      · have hd0 : decide ((0 : Int) < (k : Int)) = false := decide_eq_false (by omega)
        have hd1 : decide (0 < k) = false := decide_eq_false (by omega)
        have hd2 : decide ((k : Int) > 0) = false := decide_eq_false (by omega)
        clear hk0
        cases hnan : FM.nan (zs k)
        · rw [hnan, Bool.not_false] at hnk
          have CN := hide (cnn_num (zs := zs) (k := k) hnan)
          go_wp2
          generalize wr.setCell ⟨w2.heap.size, rs k, none⟩ (.int .i64 1) = ws at *
          have f1 : ws.cell? ⟨b, off + k, none⟩ = some (.float .f64 (zs k)) := ((unhide S3).cell (p := ⟨b, off + k, none⟩) (unhide HBB)).trans ((unhide HC2) k hlt)
          go_quiet (fail)
          go_wp2
          go_roundw
          case rel => exact ⟨k + 1, by omega, by go_num, by rw [unhide CN] <;> go_num, unhide S1, blk_drewN (unhide S2) _, below_dn2 (unhide S3) _⟩
          case measure => simp [intOf]; omega
        · rw [hnan, Bool.not_true] at hnk
          have CN := hide (cnn_nan (zs := zs) (k := k) hnan)
          go_wp2
          generalize wr.setCell ⟨w2.heap.size, rs k, none⟩ (.int .i64 1) = ws at *
          have f1 : ws.cell? ⟨b, off + k, none⟩ = some (.float .f64 (zs k)) := ((unhide S3).cell (p := ⟨b, off + k, none⟩) (unhide HBB)).trans ((unhide HC2) k hlt)
          go_quiet (fail)
          go_wp2
          go_roundw
          case rel => exact ⟨k + 1, by omega, by go_num, by rw [unhide CN] <;> go_num, unhide S1, blk_drewN (unhide S2) _, below_dn2 (unhide S3) _⟩
          case measure => simp [intOf]; omega
      · have hd0 : decide ((0 : Int) < (k : Int)) = true := decide_eq_true (by omega)
        have hlk1 := (unhide HK).1 (k - 1) (by omega)
        have hnx := ranked_next (unhide HK) (show k - 1 + 1 < n by omega)
        rw [show k - 1 + 1 = k by omega] at hnx
        have hk1 : 1 ≤ k := by omega
        cases hnan : FM.nan (zs k)
        · rw [hnan, Bool.not_false] at hnk
          have CN := hide (cnn_num (zs := zs) (k := k) hnan)
          have HNX := hide hnx
          clear hnx
          go_wp2
          generalize wr.setCell ⟨w2.heap.size, rs k, none⟩ (.int .i64 1) = ws at *
          have f1 : ws.cell? ⟨b, off + k, none⟩ = some (.float .f64 (zs k)) := ((unhide S3).cell (p := ⟨b, off + k, none⟩) (unhide HBB)).trans ((unhide HC2) k hlt)
          go_quiet (fail)
          go_wp2
          obtain ⟨wt, hwt⟩ : ∃ wt, wt = ws.drewN nq := ⟨_, rfl⟩
          rw [← hwt]
          have g1 : wt.cell? ⟨w1.heap.size + 1, k, none⟩ = some (.int .i64 (rs k)) := by rw [hwt]; exact ((unhide S3).cell (p := ⟨w1.heap.size + 1, k, none⟩) s2).trans ((unhide HC) k hlt)
          have g2 : wt.cell? ⟨w1.heap.size + 1, k - 1, none⟩ = some (.int .i64 (rs (k - 1))) := by rw [hwt]; exact ((unhide S3).cell (p := ⟨w1.heap.size + 1, k - 1, none⟩) s2).trans ((unhide HC) (k - 1) (by omega))
          have g3 : wt.cell? ⟨b, off + rs k, none⟩ = some (.float .f64 (zs (rs k))) := by rw [hwt]; exact ((unhide S3).cell (p := ⟨b, off + rs k, none⟩) (unhide HBB)).trans ((unhide HC2) (rs k) hlk)
          have g4 : wt.cell? ⟨b, off + rs (k - 1), none⟩ = some (.float .f64 (zs (rs (k - 1)))) := by rw [hwt]; exact ((unhide S3).cell (p := ⟨b, off + rs (k - 1), none⟩) (unhide HBB)).trans ((unhide HC2) (rs (k - 1)) hlk1)
          have HWT := hide hwt
          clear hwt f1 hrk hsk hfk hzk
          go_quiet ((go_at_call 7; exact Calls.quiet_of_same (order_any _ _ _)))
          go_wp2
          rcases unhide HNX with h1 | ⟨h1, h2⟩
          · rw [h1]
            go_quiet (fail)
            go_wp2
            go_roundw
            case rel => exact ⟨k + 1, by omega, by go_num, by rw [unhide CN] <;> go_num, by rw [unhide HWT]; exact unhide S1, by rw [unhide HWT]; exact unhide S2, by rw [unhide HWT]; exact below_dn2 (below_dn2 (unhide S3) _) _⟩
            case measure => simp [intOf]; omega
          · rw [h1]
            have h3 : ¬ (rs k : Int) < (rs (k - 1) : Int) := by omega
            go_quiet (fail)
            go_wp2
            go_roundw
            case rel => exact ⟨k + 1, by omega, by go_num, by rw [unhide CN] <;> go_num, by rw [unhide HWT]; exact unhide S1, by rw [unhide HWT]; exact unhide S2, by rw [unhide HWT]; exact below_dn2 (below_dn2 (unhide S3) _) _⟩
            case measure => simp [intOf]; omega
        · rw [hnan, Bool.not_true] at hnk
          have CN := hide (cnn_nan (zs := zs) (k := k) hnan)
          have HNX := hide hnx
          clear hnx
          go_wp2
          generalize wr.setCell ⟨w2.heap.size, rs k, none⟩ (.int .i64 1) = ws at *
          have f1 : ws.cell? ⟨b, off + k, none⟩ = some (.float .f64 (zs k)) := ((unhide S3).cell (p := ⟨b, off + k, none⟩) (unhide HBB)).trans ((unhide HC2) k hlt)
          go_quiet (fail)
          go_wp2
          obtain ⟨wt, hwt⟩ : ∃ wt, wt = ws.drewN nq := ⟨_, rfl⟩
          rw [← hwt]
          have g1 : wt.cell? ⟨w1.heap.size + 1, k, none⟩ = some (.int .i64 (rs k)) := by rw [hwt]; exact ((unhide S3).cell (p := ⟨w1.heap.size + 1, k, none⟩) s2).trans ((unhide HC) k hlt)
          have g2 : wt.cell? ⟨w1.heap.size + 1, k - 1, none⟩ = some (.int .i64 (rs (k - 1))) := by rw [hwt]; exact ((unhide S3).cell (p := ⟨w1.heap.size + 1, k - 1, none⟩) s2).trans ((unhide HC) (k - 1) (by omega))
          have g3 : wt.cell? ⟨b, off + rs k, none⟩ = some (.float .f64 (zs (rs k))) := by rw [hwt]; exact ((unhide S3).cell (p := ⟨b, off + rs k, none⟩) (unhide HBB)).trans ((unhide HC2) (rs k) hlk)
          have g4 : wt.cell? ⟨b, off + rs (k - 1), none⟩ = some (.float .f64 (zs (rs (k - 1)))) := by rw [hwt]; exact ((unhide S3).cell (p := ⟨b, off + rs (k - 1), none⟩) (unhide HBB)).trans ((unhide HC2) (rs (k - 1)) hlk1)
          have HWT := hide hwt
          clear hwt f1 hrk hsk hfk hzk
          go_quiet ((go_at_call 7; exact Calls.quiet_of_same (order_any _ _ _)))
          go_wp2
          rcases unhide HNX with h1 | ⟨h1, h2⟩
          · rw [h1]
            go_quiet (fail)
            go_wp2
            go_roundw
            case rel => exact ⟨k + 1, by omega, by go_num, by rw [unhide CN] <;> go_num, by rw [unhide HWT]; exact unhide S1, by rw [unhide HWT]; exact unhide S2, by rw [unhide HWT]; exact below_dn2 (below_dn2 (unhide S3) _) _⟩
            case measure => simp [intOf]; omega
          · rw [h1]
            have h3 : ¬ (rs k : Int) < (rs (k - 1) : Int) := by omega
            go_quiet (fail)
            go_wp2
            go_roundw
            case rel => exact ⟨k + 1, by omega, by go_num, by rw [unhide CN] <;> go_num, by rw [unhide HWT]; exact unhide S1, by rw [unhide HWT]; exact unhide S2, by rw [unhide HWT]; exact below_dn2 (below_dn2 (unhide S3) _) _⟩
            case measure => simp [intOf]; omega
    · have e : k = n := by omega
      subst e
      have HRw := hide ((unhide HR2).below hB)
      have HBw := hide hB
      have HB3 := hide ((unhide HB2).trans (hB.mono (by omega)))
      by_cases h0 : cnn zs k = 0
      · obtain ⟨l1, l2⟩ := all_nan h0
        have hs0 : ((cnn zs k : Int) == 0) = true := by rw [h0]; rfl
        have hq : (FloatKind.f64.format.order 9221120237041090561 9221120237041090561 != some Ordering.eq) = true := by decide +kernel
        have L1 := hide l1
        have L2 := hide l2
        clear hsn hBk hB hcl h0 l1 l2 hnn
        go_wp2_with fail
        refine (least_any (unhide HRw) (unhide HN)).mono ?_
        rintro e w3 ⟨rfl, rfl⟩
        rw [unhide L1]
        go_wp2_with fail
        refine (most_any (unhide HRw) (unhide HN)).mono ?_
        rintro e w3 ⟨rfl, rfl⟩
        rw [unhide L2]
        go_wp2
        go_ret
        exact ⟨rfl, unhide HB3⟩
      · have hc0 : 0 < cnn zs k := by omega
        obtain ⟨l1, t, ht, l2, l3⟩ := ends_of (unhide HK) hc0
        obtain ⟨b, off, rfl, hb, hc⟩ := (unhide HR2).at (by omega)
        have hs0 : ((cnn zs k : Int) == 0) = false := by simp; omega
        have r0 := (unhide HK).1 0 (by omega)
        have rc := (unhide HK).1 (cnn zs k - 1) (by omega)
        have g1 : wr.cell? ⟨w1.heap.size + 1, 0, none⟩ = some (.int .i64 (rs 0)) := (hB.cell (p := ⟨w1.heap.size + 1, 0, none⟩) s2).trans ((unhide HC) 0 (by omega))
        have g2 : wr.cell? ⟨w1.heap.size + 1, cnn zs k - 1, none⟩ = some (.int .i64 (rs (cnn zs k - 1))) := (hB.cell (p := ⟨w1.heap.size + 1, cnn zs k - 1, none⟩) s2).trans ((unhide HC) (cnn zs k - 1) (by omega))
        have g3 : wr.cell? ⟨b, off + rs 0, none⟩ = some (.float .f64 (zs (rs 0))) := (hB.cell (p := ⟨b, off + rs 0, none⟩) hb).trans (hc (rs 0) r0)
        have g4 : wr.cell? ⟨b, off + rs (cnn zs k - 1), none⟩ = some (.float .f64 (zs (rs (cnn zs k - 1)))) := (hB.cell (p := ⟨b, off + rs (cnn zs k - 1), none⟩) hb).trans (hc (rs (cnn zs k - 1)) rc)
        have g5 : wr.cell? ⟨b, off + t, none⟩ = some (.float .f64 (zs t)) := (hB.cell (p := ⟨b, off + t, none⟩) hb).trans (hc t ht)
        have q1 : (ord (zs (rs 0)) (zs (rs 0)) == 0) = true := ord_self _
        have q2 : (ord (zs t) (zs (rs (cnn zs k - 1))) == 0) = true := by rw [l3]; rfl
        have q3 : (ord (zs t) (zs t) == 0) = true := ord_self _
        have q4 : ((rs 0 : Int) == (rs 0 : Int)) = true := by simp
        have hck : 1 ≤ cnn zs k := hc0
        have L1 := hide l1
        have L2 := hide l2
        clear hsn hBk hB hc hb h0 hc0 l1 l2 l3 hnn
        go_wp2_with fail
        refine (least_any (unhide HRw) (unhide HN)).mono ?_
        rintro e w3 ⟨rfl, rfl⟩
        rw [unhide L1]
        go_wp2_with fail
        refine (most_any (unhide HRw) (unhide HN)).mono ?_
        rintro e w3 ⟨rfl, rfl⟩
        rw [unhide L2]
        go_wp2_with (go_at_call 11; refine (same_any _ _ _).mono ?_; rintro e w' ⟨rfl, rfl⟩)
        go_ret
        exact ⟨rfl, unhide HB3⟩

set_option maxRecDepth 100000 in
theorem sorted_lifted (os : Os) (started : os.Started) (H : Type) (enc : TypeId × Value → H) :
    ReturnsInHanded {} Try.checked os 4 .any (Rows.figureSortedSpec.pre6 enc Try.prog Try.f4 Rows.figureSortedRow.domain false) (Rows.figureSortedSpec.post enc Try.prog Try.f4 false true false false) := by
  refine returnsInHanded_of_change_sized (C := Try.checked) own_knob started (by kernel_rfl) Try.func4
    (ChangeSpec.witness6 (enc := enc) (C := Try.checked) false ⟨#[], #[.slice none 0 0], []⟩ 8 (by kernel_rfl) (by kernel_rfl) (by kernel_rfl) (by kernel_rfl)) ?_
  intro W base args ds gs before hval0 hW _ hsz0 _
  have hval : ∀ (j : Nat) t v, Try.f4.params[j]? = some t → args[j]? = some v → Value.okWide Try.prog W .any base t v := hval0
  have hW' := hW
  obtain ⟨p, q, hA0, hV, rfl, hfz, hnd⟩ := hW
  have hA : DataW.TrodAll enc Try.prog W 0 (fun _ => true) true Try.f4.params.toList args.toList ds p := hA0
  have hsz : (DataW.weightsEach Try.prog (Try.f4.params.toList ++ Rows.figureSortedSpec.plain.varTypes Try.prog) (ds ++ gs)).all (· ≤ reachBytes) = true := hsz0
  rw [Try.params4] at hA hval hsz
  obtain ⟨v0, vs0, d0, ds0, p0, q0, hargs, rfl, rfl, h0, r0⟩ := trodAll_cons hA
  obtain ⟨rfl, rfl, rfl⟩ := trodAll_nil r0
  obtain rfl : args = #[v0] := by cases args; simp_all
  obtain ⟨rfl, rfl⟩ := trodVars_none hV
  obtain ⟨a0, len0, cap0, rfl⟩ := okWide_slice Try.underlying26 (hval 0 26 v0 rfl rfl)
  have k0 := h0
  have lt0 : ∀ x ∈ p0, x.block < W.heap.size := by obtain ⟨m, hm⟩ := k0; exact DataW.trod_lt m _ _ _ hm
  obtain ⟨z0, w0, u0, s0⟩ := floats_of_trod h0
  have n0 : len0 ≤ 17592186043904 := by
    rcases s0 with e | ⟨elems, spare, rfl, e⟩
    · omega
    · have z := sized_slice hsz (j := 0) (t := 26) (e := 22) rfl rfl Try.underlying26
      rw [Try.bytesF] at z
      unfold reachBytes at z
      omega
  clear hA0 hval0 hsz hsz0
  refine (sorted_walk w0 (by omega)).mono fun e W' ⟨he, bel⟩ => ?_
  subst he
  exact ⟨_, rfl, _, _, _, [], _, [], hW', trodAll_mk1 (shut_bool Try.underlying4 _), (trodAll_cons_mk (Below.trod laid_out (by kernel_rfl) (of_decide_eq_true (by kernel_rfl)) k0 bel lt0) trodAll_mk0), rfl, bel.frame _, fun h => by cases h⟩

theorem figureSorted_holds : Rows.FigureSortedSaid :=
  OpenClaim.holds_of_wide 4 Try.f4 rfl rfl rfl rfl rfl rfl rfl ⟨rfl, rfl, rfl, rfl, rfl⟩ rfl rfl rfl rfl rfl (by kernel_rfl) Try.func4 (by kernel_rfl)
    (of_decide_eq_true (by kernel_rfl)) (by unfold Func.isWrapper; first | (rw [if_pos (by decide +kernel)]; kernel_rfl) | (rw [if_neg (by decide +kernel)]; exact ⟨rfl, rfl⟩))
    (fun os started H enc _ => sorted_lifted os started H enc)

end Go.Proofs.Ytifmkphdmfechab
