/- Proved: for every list of ints the law FigureFair answers true and leaves its argument as it was. Conditions: none. -/
import Derived.Test.YtifmkphdmfechabInts
import Derived.Test.YtifmkphdmfechabFair
import Derived.Test.YtifmkphdmfechabGrow
import Derived.Test.YtifmkphdmfechabFy
import Derived.SizedLaws
namespace Go.Proofs.Ytifmkphdmfechab
open Go.ChangeShapes Go.WideShapes Go.ChangeAt Go.RowKit

/-- the number that the statement makes of an int -/
def mk (v : Int) : Nat := ((if v < 0 then -(v + 1) else v) % 1001).toNat

theorem mk_le (v : Int) : mk v ≤ 1000 := by unfold mk; split <;> omega

theorem floatOfInt_fi (c : Nat) (h : c < 9007199254740992) : floatOfInt .f64 (c : Int) = FM.fi c := by
  have e : floatOfInt .f64 (c : Int) = Ieee.double.nearest (decide ((c : Int) < 0)) (c : Int).natAbs 0 := rfl
  rw [e, Int.natAbs_natCast, decide_eq_false (by omega), FM.floatOf c h]

theorem fi_inj {a b : Nat} (ha : a < 9007199254740992) (hb : b < 9007199254740992) (h : FM.fi a = FM.fi b) : a = b := by
  obtain ⟨E, hE⟩ : ∃ E : Nat, E = 1074 := ⟨_, rfl⟩
  obtain ⟨m, i, hr, hm, _⟩ := FM.read_fi (c := a) hE ha
  obtain ⟨n, j, hr', hn, _⟩ := FM.read_fi (c := b) hE hb
  rw [h, hr'] at hr
  injection hr with _ h1 h2
  have h3 : i = j := by omega
  subst h1 h3
  rw [hm] at hn
  exact Nat.eq_of_mul_eq_mul_right (Nat.two_pow_pos E) hn

theorem fi_small {c : Nat} (h : c < 9007199254740992) : FM.fi c < 9218868437227405312 := by
  by_cases e : c = 0
  · subst e; decide
  · rw [FM.fi_pos (by omega)]; exact (FM.wn_lt (by omega) h).2

theorem fi_eq {a b : Nat} (ha : a < 9007199254740992) (hb : b < 9007199254740992) (h : (FloatKind.f64.format.order (FM.fi a) (FM.fi b) == some Ordering.eq) = true) : a = b := by
  obtain ⟨r1, n1, x1⟩ := FM.small_word (fi_small ha)
  obtain ⟨r2, n2, x2⟩ := FM.small_word (fi_small hb)
  have h' : (Ieee.double.order (FM.fi a) (FM.fi b) == some Ordering.eq) = true := h
  rw [FM.order_eq, if_neg (by simp [x1, x2])] at h'
  have h2 : compare (FM.sg (FM.fi a)) (FM.sg (FM.fi b)) = .eq := by simpa using h'
  have h3 := Int.compare_eq_eq.1 h2
  unfold FM.sg at h3
  rw [n1, n2, r1, r2, if_neg Bool.false_ne_true, if_neg Bool.false_ne_true] at h3
  exact fi_inj ha hb (by omega)

theorem mk_cast_pos {v : Int} (h : ¬ v < 0) : v % 1001 = (mk v : Int) := by unfold mk; rw [if_neg h]; omega
theorem mk_cast_neg {v : Int} (h : v < 0) : (-(v + 1)) % 1001 = (mk v : Int) := by unfold mk; rw [if_pos h]; omega

theorem mk_tmod_pos {v : Int} (h : ¬ v < 0) : v.tmod 1001 = (mk v : Int) := by rw [Int.tmod_eq_emod_of_nonneg (by omega)]; exact mk_cast_pos h
theorem mk_tmod_neg {v : Int} (h : v < 0) : -((v + 1).tmod 1001) = (mk v : Int) := by
  rw [← Int.neg_tmod, Int.tmod_eq_emod_of_nonneg (by omega)]; exact mk_cast_neg h

theorem grow_open {w : World} {B k : Nat} {v : Value} {p : Nat → Nat → Prop} (h : Grow w B v (k + 1) p) :
    ∃ (g cap : Nat) (ys : Nat → Nat), v = .slice (some ⟨g, 0, none⟩) (k + 1) cap ∧ (∀ i, i < k + 1 → w.cell? ⟨g, i, none⟩ = some (.float .f64 (ys i))) ∧ ∀ i, i < k + 1 → p i (ys i) := by
  obtain ⟨a, cap, ys, rfl, hR, hp, _⟩ := h.row
  obtain ⟨ys', hp', hlen, h⟩ := h
  rcases h with ⟨h, h0⟩ | ⟨g, cap', cur, he, hB, hg, hn, hm, hsz, ht⟩
  · omega
  · cases he
    obtain ⟨b, off, e, hb, hc⟩ := hR.at (by omega)
    cases e
    exact ⟨g, cap, ys, rfl, fun i hi => by have h := hc i hi; rw [Nat.zero_add] at h; exact h, hp⟩

theorem one_cellF (fl : Nat) : ∀ u ∈ [Value.float .f64 fl], u.oneCell' = true := by intro u hu; simp at hu; subst hu; rfl

theorem sum_cast (vs : Nat → Int) (k : Nat) (hk : k < 1000) : Value.int .i64 (wrap64 ((FM.S1 (fun i => mk (vs i)) k : Int) + (mk (vs k) : Int))) = Value.int .i64 ((FM.S1 (fun i => mk (vs i)) (k + 1) : Nat) : Int) := by
  have h1 := FM.S1_le (xs := fun i => mk (vs i)) k (fun i _ => mk_le (vs i))
  have h2 := mk_le (vs k)
  have e : FM.S1 (fun i => mk (vs i)) (k + 1) = FM.S1 (fun i => mk (vs i)) k + mk (vs k) := rfl
  rw [e, IntWalk.wrap64_in _ (by omega)]
  congr 1

theorem fair_fi_of {vs : Nat → Int} {zs : Nat → Nat} {k : Nat} (hy : ∀ i, i < k → zs i = FM.fi (mk (vs i))) (hk : k ≤ 1000) :
    fairv zs k = FM.fdiv (FM.fi (FM.S1 (fun i => mk (vs i)) k * FM.S1 (fun i => mk (vs i)) k)) (FM.fi (k * FM.S2 (fun i => mk (vs i)) k)) := by
  unfold fairv
  rw [floatOfInt_fi k (by omega)]
  exact FM.fair_fi (xs := fun i => mk (vs i)) hy hk (fun i _ => mk_le (vs i))

theorem lt_one {z : Nat} (h1 : 4503599627370496 ≤ z) (h2 : z ≤ 4607182418800017408) (h3 : ¬ z = 4607182418800017408) : (Ieee.double.order z 4607182418800017408 == some .lt) = true := by
  obtain ⟨r, n, a⟩ := FM.small_word (x := z) (by omega)
  have hg : FM.sg z = z := by unfold FM.sg; rw [n, r, if_neg Bool.false_ne_true]
  have n1 : FM.nan 4607182418800017408 = false := by decide
  have g1 : FM.sg 4607182418800017408 = 4607182418800017408 := by decide
  rw [FM.lt_iff z _ a n1, hg, g1]; exact decide_eq_true (by omega)

theorem alike_succ {vs : Nat → Int} {k : Nat} (h : ∀ i, i < k → mk (vs i) = mk (vs 0)) (e : mk (vs k) = mk (vs 0)) : ∀ i, i < k + 1 → mk (vs i) = mk (vs 0) := by
  intro i hi
  by_cases h1 : i = k
  · rw [h1]; exact e
  · exact h i (by omega)

theorem Grow.drewN {w : World} {B k : Nat} {v : Value} {p : Nat → Nat → Prop} (h : Grow w B v k p) (m : Nat) : Grow (w.drewN m) B v k p := h

set_option maxHeartbeats 4000000 in
theorem fair_walk {a : Option Addr} {n cap : Nat} {vs : Nat → Int} {w : World} (hR : IRow w a n vs) (hv : ∀ i, i < n → -9223372036854775808 ≤ vs i ∧ vs i ≤ 9223372036854775807) (hn : n ≤ 17592186044416) :
    Calls Try.prog 5 #[.slice a n cap] w fun e w' => e = .returned (.bool true) ∧ Below w.heap.size w w' := by
  have HR := hide hR
  have HV := hide hv
  clear hR hv
  obtain ⟨i0, hi0, hz0, hz1, hz2⟩ := info_parts Try.infoF
  go_enter Try.func5, Try.ntmps5
  go_wp2_with fail
  refine (awake_any _).mono ?_
  rintro e w1 ⟨rfl, hb1⟩
  have HR1 := hide ((unhide HR).below hb1)
  have HB1 := hide hb1
  have s1 := hb1.size
  clear hb1
  go_wp2
  go_loopw [4, 5, 6, 7] (fun x s b i wr => ∃ (k : Nat) (al : Bool), k ≤ n ∧ k ≤ 1000 ∧ i = .int .i64 k ∧ s = .int .i64 (FM.S1 (fun i => mk (vs i)) k) ∧ b = .bool al ∧ (al = true → ∀ i, i < k → mk (vs i) = mk (vs 0)) ∧ Grow wr w1.heap.size x k (fun i u => u = FM.fi (mk (vs i))) ∧ Below w1.heap.size w1 wr) (fun _ _ _ i _ => n - (intOf i).toNat)
  case atStart => exact ⟨0, true, by omega, by omega, rfl, rfl, rfl, fun _ i hi => by omega, ⟨fun _ => 0, fun i hi => by omega, World.ownsRow_nil _ _ _ _⟩, Below.refl _ _⟩
  case round =>
    obtain ⟨k, al, hk, hk2, rfl, rfl, rfl, hal, ⟨ys, hp, hown⟩, hB⟩ := hrel
    have hS := FM.S1_le (xs := fun i => mk (vs i)) k (fun i _ => mk_le (vs i))
    by_cases hlt : k < n ∧ k < 1000
    · obtain ⟨hlt, hlt2⟩ := hlt
      have hd1000 : decide ((k : Int) < 1000) = true := decide_eq_true (by omega)
      have HLT2 := hide hlt2
      have HS := hide hS
      obtain ⟨b, off, rfl, hb, hc⟩ := (unhide HR1).at (by omega)
      have hck : wr.cell? ⟨b, off + k, none⟩ = some (.int .i64 (vs k)) := (hB.cell (p := ⟨b, off + k, none⟩) hb).trans (hc k hlt)
      have v1 : -9223372036854775807 ≤ vs k + 1 := by have := (unhide HV) k hlt; omega
      have HP := hide hp
      have HO := hide hown
      have HB := hide hB
      have HAL := hide hal
      have hsz := hB.size
      have hmk := mk_le (vs k)
      clear hc hb hp hown hB hal hlt2 hk2 hS
      obtain ⟨fl, hfl⟩ : ∃ fl, fl = FM.fi (mk (vs k)) := ⟨_, rfl⟩
      have hcv : floatOfInt .f64 (mk (vs k) : Int) = fl := by rw [hfl]; exact floatOfInt_fi _ (by omega)
      have HFL := hide hfl
      clear hfl
      by_cases hneg : vs k < 0
      · have hmc := mk_tmod_neg hneg
        go_wp2_with (at_builtin; refine wpList_append_own _ rfl _ _ 26 rfl w1.heap.size 22 i0 (.float .f64 0) 1 8 Try.underlying26 hi0 hz0 hz1 hz2 rfl (by decide) _ _ _ rfl ((unhide HO).alloc _) ⟨wr.heap.size, 0, none⟩ 1 1 [.float .f64 fl] rfl rfl (one_new _ _ _) (one_cellF _) (by unfold maxLen; omega) (by omega) (by simp; omega) ?_)
        intro v' w2 hown' hgrow _
        have hG := Grow.step (p := fun i u => u = FM.fi (mk (vs i))) (unhide HP) (unhide HFL) hown'
        have HG := hide hG
        have HB2 := hide ((below_alloc_own (unhide HB) _).grown hgrow (by simp; omega) (own_block (unhide HO)))
        obtain ⟨g, cp, zs, rfl, hzc, hzp⟩ := grow_open hG
        have c1 := hzc k (by omega)
        have c2 := hzc 0 (by omega)
        rw [hzp k (by omega)] at c1
        rw [hzp 0 (by omega)] at c2
        clear hown' hgrow hG hzc hzp
        cases al
        · go_wp2
          go_quiet (fail)
          go_wp2
          go_roundw
          case rel => exact ⟨k + 1, false, by omega, by have := unhide HLT2; omega, by go_num, sum_cast vs k (unhide HLT2), rfl, fun h => (Bool.false_ne_true h).elim, Grow.drewN (unhide HG) _, below_dn (unhide HB2) _⟩
          case measure => simp [intOf]; omega
        · cases hq : (FloatKind.f64.format.order (FM.fi (mk (vs k))) (FM.fi (mk (vs 0))) == some Ordering.eq)
          · go_wp2
            go_quiet (fail)
            go_wp2
            go_roundw
            case rel => exact ⟨k + 1, false, by omega, by have := unhide HLT2; omega, by go_num, sum_cast vs k (unhide HLT2), rfl, fun h => (Bool.false_ne_true h).elim, Grow.drewN (unhide HG) _, below_dn (unhide HB2) _⟩
            case measure => simp [intOf]; omega
          · have HE := hide (fi_eq (a := mk (vs k)) (b := mk (vs 0)) (by have := mk_le (vs k); omega) (by have := mk_le (vs 0); omega) hq)
            go_wp2
            go_quiet (fail)
            go_wp2
            go_roundw
            case rel => exact ⟨k + 1, true, by omega, by have := unhide HLT2; omega, by go_num, sum_cast vs k (unhide HLT2), rfl, fun _ => alike_succ (unhide HAL trivial) (unhide HE), Grow.drewN (unhide HG) _, below_dn (unhide HB2) _⟩
            case measure => simp [intOf]; omega
      · have hmc := mk_tmod_pos hneg
        have hdn : decide (vs k < 0) = false := decide_eq_false hneg
        clear v1 hneg
        go_wp2_with (at_builtin; refine wpList_append_own _ rfl _ _ 26 rfl w1.heap.size 22 i0 (.float .f64 0) 1 8 Try.underlying26 hi0 hz0 hz1 hz2 rfl (by decide) _ _ _ rfl ((unhide HO).alloc _) ⟨wr.heap.size, 0, none⟩ 1 1 [.float .f64 fl] rfl rfl (one_new _ _ _) (one_cellF _) (by unfold maxLen; omega) (by omega) (by simp; omega) ?_)
        intro v' w2 hown' hgrow _
        have hG := Grow.step (p := fun i u => u = FM.fi (mk (vs i))) (unhide HP) (unhide HFL) hown'
        have HG := hide hG
        have HB2 := hide ((below_alloc_own (unhide HB) _).grown hgrow (by simp; omega) (own_block (unhide HO)))
        obtain ⟨g, cp, zs, rfl, hzc, hzp⟩ := grow_open hG
        have c1 := hzc k (by omega)
        have c2 := hzc 0 (by omega)
        rw [hzp k (by omega)] at c1
        rw [hzp 0 (by omega)] at c2
        clear hown' hgrow hG hzc hzp
        cases al
        · go_wp2
          go_quiet (fail)
          go_wp2
          go_roundw
          case rel => exact ⟨k + 1, false, by omega, by have := unhide HLT2; omega, by go_num, sum_cast vs k (unhide HLT2), rfl, fun h => (Bool.false_ne_true h).elim, Grow.drewN (unhide HG) _, below_dn (unhide HB2) _⟩
          case measure => simp [intOf]; omega
        · cases hq : (FloatKind.f64.format.order (FM.fi (mk (vs k))) (FM.fi (mk (vs 0))) == some Ordering.eq)
          · go_wp2
            go_quiet (fail)
            go_wp2
            go_roundw
            case rel => exact ⟨k + 1, false, by omega, by have := unhide HLT2; omega, by go_num, sum_cast vs k (unhide HLT2), rfl, fun h => (Bool.false_ne_true h).elim, Grow.drewN (unhide HG) _, below_dn (unhide HB2) _⟩
            case measure => simp [intOf]; omega
          · have HE := hide (fi_eq (a := mk (vs k)) (b := mk (vs 0)) (by have := mk_le (vs k); omega) (by have := mk_le (vs 0); omega) hq)
            go_wp2
            go_quiet (fail)
            go_wp2
            go_roundw
            case rel => exact ⟨k + 1, true, by omega, by have := unhide HLT2; omega, by go_num, sum_cast vs k (unhide HLT2), rfl, fun _ => alike_succ (unhide HAL trivial) (unhide HE), Grow.drewN (unhide HG) _, below_dn (unhide HB2) _⟩
            case measure => simp [intOf]; omega
    · obtain ⟨a2, cap2, ys2, rfl, hrow, hy, _⟩ := Grow.row (p := fun i u => u = FM.fi (mk (vs i))) ⟨ys, hp, hown⟩
      have HRW := hide hrow
      have HB := hide hB
      have HB2 := hide ((unhide HB1).trans (hB.mono (by omega)))
      have F := fair_fi_of (vs := vs) hy hk2
      have hk3 : k ≤ 17592186044416 := by omega
      have HAL := hide hal
      have HK2 := hide hk2
      clear hp hown hrow hy hB hal HB1
      by_cases h0 : FM.S1 (fun i => mk (vs i)) k = 0
      · have hs0 : (((FM.S1 (fun i => mk (vs i)) k : Nat) : Int) == 0) = true := by rw [h0]; rfl
        rw [FM.fair_zero h0] at F
        have E := hide F
        have hnan : (FloatKind.f64.format.order 9221120237041090561 9221120237041090561 != some Ordering.eq) = true := by decide +kernel
        clear F h0 hS hk2
        by_cases hkn : k < n
        · have hd1000 : decide ((k : Int) < 1000) = false := decide_eq_false (by omega)
          clear hlt
          go_wp2_with fail
          refine (fair_any (unhide HRW) hk3).mono ?_
          rintro e w3 ⟨rfl, hb3⟩
          have HB3 := hide ((unhide HB2).trans (hb3.mono (unhide HB2).size))
          rw [unhide E]
          clear hb3
          go_wp2
          go_ret
          exact ⟨rfl, unhide HB3⟩
        · clear hlt
          go_wp2_with fail
          refine (fair_any (unhide HRW) hk3).mono ?_
          rintro e w3 ⟨rfl, hb3⟩
          have HB3 := hide ((unhide HB2).trans (hb3.mono (unhide HB2).size))
          rw [unhide E]
          clear hb3
          go_wp2
          go_ret
          exact ⟨rfl, unhide HB3⟩
      · have hs0 : (((FM.S1 (fun i => mk (vs i)) k : Nat) : Int) == 0) = false := by simp; omega
        obtain ⟨z, hz, z1, z2, z3⟩ := FM.fair_part (xs := fun i => mk (vs i)) hk2 (fun i _ => mk_le (vs i)) (show 0 < FM.S1 (fun i => mk (vs i)) k by omega)
        rw [hz] at F
        have E := hide F
        obtain ⟨o1, _⟩ := FM.part_order z1 z2
        have p1 : (FloatKind.f64.format.order z 0 == some Ordering.gt) = true := o1
        by_cases e1 : z = 4607182418800017408
        · subst e1
          have p2 : (FloatKind.f64.format.order 4607182418800017408 4607182418800017408 == some Ordering.eq) = true := by decide +kernel
          clear F h0 hS hk2 hz z1 z2 z3 o1
          by_cases hkn : k < n
          · have hd1000 : decide ((k : Int) < 1000) = false := decide_eq_false (by omega)
            clear hlt
            go_wp2_with fail
            refine (fair_any (unhide HRW) hk3).mono ?_
            rintro e w3 ⟨rfl, hb3⟩
            have HB3 := hide ((unhide HB2).trans (hb3.mono (unhide HB2).size))
            rw [unhide E]
            clear hb3
            cases al
            all_goals
              go_wp2
              go_ret
              exact ⟨rfl, unhide HB3⟩
          · clear hlt
            go_wp2_with fail
            refine (fair_any (unhide HRW) hk3).mono ?_
            rintro e w3 ⟨rfl, hb3⟩
            have HB3 := hide ((unhide HB2).trans (hb3.mono (unhide HB2).size))
            rw [unhide E]
            clear hb3
            cases al
            all_goals
              go_wp2
              go_ret
              exact ⟨rfl, unhide HB3⟩
        · have p2 : (FloatKind.f64.format.order z 4607182418800017408 == some Ordering.lt) = true := lt_one z1 z2 e1
          have hal2 : al = false := by
            cases al
            · rfl
            · exact absurd (z3 (unhide HAL rfl)) e1
          subst hal2
          clear F h0 hS hk2 hz z1 z2 z3 o1 e1
          by_cases hkn : k < n
          · have hd1000 : decide ((k : Int) < 1000) = false := decide_eq_false (by omega)
            clear hlt
            go_wp2_with fail
            refine (fair_any (unhide HRW) hk3).mono ?_
            rintro e w3 ⟨rfl, hb3⟩
            have HB3 := hide ((unhide HB2).trans (hb3.mono (unhide HB2).size))
            rw [unhide E]
            clear hb3
            go_wp2
            go_ret
            exact ⟨rfl, unhide HB3⟩
          · clear hlt
            go_wp2_with fail
            refine (fair_any (unhide HRW) hk3).mono ?_
            rintro e w3 ⟨rfl, hb3⟩
            have HB3 := hide ((unhide HB2).trans (hb3.mono (unhide HB2).size))
            rw [unhide E]
            clear hb3
            go_wp2
            go_ret
            exact ⟨rfl, unhide HB3⟩

set_option maxRecDepth 100000 in
theorem fair_lifted (os : Os) (started : os.Started) (H : Type) (enc : TypeId × Value → H) :
    ReturnsInHanded {} Try.checked os 5 .any (Rows.figureFairSpec.pre6 enc Try.prog Try.f5 Rows.figureFairRow.domain false) (Rows.figureFairSpec.post enc Try.prog Try.f5 false true false false) := by
  refine returnsInHanded_of_change_sized (C := Try.checked) own_knob started (by kernel_rfl) Try.func5
    (ChangeSpec.witness6 (enc := enc) (C := Try.checked) false ⟨#[], #[.slice none 0 0], []⟩ 8 (by kernel_rfl) (by kernel_rfl) (by kernel_rfl) (by kernel_rfl)) ?_
  intro W base args ds gs before hval0 hW _ hsz0 _
  have hval : ∀ (j : Nat) t v, Try.f5.params[j]? = some t → args[j]? = some v → Value.okWide Try.prog W .any base t v := hval0
  have hW' := hW
  obtain ⟨p, q, hA0, hV, rfl, hfz, hnd⟩ := hW
  have hA : DataW.TrodAll enc Try.prog W 0 (fun _ => true) true Try.f5.params.toList args.toList ds p := hA0
  have hsz : (DataW.weightsEach Try.prog (Try.f5.params.toList ++ Rows.figureFairSpec.plain.varTypes Try.prog) (ds ++ gs)).all (· ≤ reachBytes) = true := hsz0
  rw [Try.params5] at hA hval hsz
  obtain ⟨v0, vs0, d0, ds0, p0, q0, hargs, rfl, rfl, h0, r0⟩ := trodAll_cons hA
  obtain ⟨rfl, rfl, rfl⟩ := trodAll_nil r0
  obtain rfl : args = #[v0] := by cases args; simp_all
  obtain ⟨rfl, rfl⟩ := trodVars_none hV
  obtain ⟨a0, len0, cap0, rfl⟩ := okWide_slice Try.underlying27 (hval 0 27 v0 rfl rfl)
  have k0 := h0
  have lt0 : ∀ x ∈ p0, x.block < W.heap.size := by obtain ⟨m, hm⟩ := k0; exact DataW.trod_lt m _ _ _ hm
  obtain ⟨z0, w0, u0, s0⟩ := ints_of_trod h0
  have n0 : len0 ≤ 17592186043904 := by
    rcases s0 with e | ⟨elems, spare, rfl, e⟩
    · omega
    · have z := sized_slice hsz (j := 0) (t := 27) (e := 3) rfl rfl Try.underlying27
      rw [Try.bytesI] at z
      unfold reachBytes at z
      omega
  clear hA0 hval0 hsz hsz0
  refine (fair_walk w0 u0 (by omega)).mono fun e W' ⟨he, bel⟩ => ?_
  subst he
  exact ⟨_, rfl, _, _, _, [], _, [], hW', trodAll_mk1 (shut_bool Try.underlying4 _), (trodAll_cons_mk (Below.trod laid_out (by kernel_rfl) (of_decide_eq_true (by kernel_rfl)) k0 bel lt0) trodAll_mk0), rfl, bel.frame _, fun h => by cases h⟩

theorem figureFair_holds : Rows.FigureFairSaid :=
  OpenClaim.holds_of_wide 5 Try.f5 rfl rfl rfl rfl rfl rfl rfl ⟨rfl, rfl, rfl, rfl, rfl⟩ rfl rfl rfl rfl rfl (by kernel_rfl) Try.func5 (by kernel_rfl)
    (of_decide_eq_true (by kernel_rfl)) (by unfold Func.isWrapper; first | (rw [if_pos (by decide +kernel)]; kernel_rfl) | (rw [if_neg (by decide +kernel)]; exact ⟨rfl, rfl⟩))
    (fun os started H enc _ => fair_lifted os started H enc)

end Go.Proofs.Ytifmkphdmfechab
