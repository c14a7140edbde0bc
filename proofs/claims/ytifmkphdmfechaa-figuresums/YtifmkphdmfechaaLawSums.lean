/- Proved: for every list of float64 values the law FigureSums answers true and leaves its argument as it was. Conditions: none. -/
import Derived.Test.YtifmkphdmfechaaLift
import Derived.Test.YtifmkphdmfechaaRefShares
import Derived.SizedLaws
namespace Go.Proofs.Ytifmkphdmfechaa
open Go.ChangeShapes Go.WideShapes Go.ChangeAt Go.RowKit
attribute [local go_sem] run_store_float

theorem two_new (w : World) (u v : Value) (t : TypeId) : ∀ (j : Nat) (x : Value), [u, v][j]? = some x → (w.alloc (.cells #[u, v] t)).cell? ((⟨w.heap.size, 0, none⟩ : Addr).add j) = some x := by
  intro j x hj
  match j, hj with
  | 0, hj => simp at hj; subst hj; simp [Addr.add]
  | 1, hj => simp at hj; subst hj; simp [Addr.add]

set_option maxHeartbeats 4000000 in
theorem sums_walk {a : Option Addr} {n cap : Nat} {zs : Nat → Nat} {w : World} (hR : Row w a n zs) (hn : n ≤ 17592186044414) :
    Calls Try.prog 7 #[.slice a n cap] w fun e w' => e = .returned (.bool true) ∧ Below w.heap.size w w' := by
  have HR := hide hR
  have hn1 : n ≤ 17592186044416 := by omega
  clear hR
  obtain ⟨i0, hi0, hz0, hz1, hz2⟩ := info_parts Try.infoF
  go_enter Try.func7, Try.ntmps7
  go_wp2_with fail
  refine (awake_any _).mono ?_
  rintro e w1 ⟨rfl, hb1⟩
  have HR1 := hide ((unhide HR).below hb1)
  go_wp2_with fail
  refine (own_any (unhide HR1) hn1).mono ?_
  rintro e w2 ⟨rfl, hM, hb2⟩
  have HM2 := hide hM
  have HR2 := hide ((unhide HR1).below hb2)
  have HB2 := hide (hb1.trans (hb2.mono hb1.size))
  have s1 := hb1.size
  have s2 := hM.lt
  clear hM hb1 hb2 HR1
  go_wp2_with fail
  refine (share_any (unhide HM2).row hn1).mono ?_
  rintro e w3 ⟨rfl, hF3, hb3⟩
  have HR3 := hide ((unhide HR2).below hb3)
  go_wp2_with fail
  refine (refshare_any (unhide HR3) hn1 (by omega)).mono ?_
  rintro e w4 ⟨v, rfl, hG4, hb4⟩
  obtain ⟨a2, cap2, ys, rfl, hrow, hys, hblk⟩ := hG4.row
  have hw := Row.same hrow hys
  obtain ⟨xs, hxs, hxp⟩ := hF3.row
  have HX := hide (Row.below (Row.same hxs hxp) hb4)
  have HBK := hide (hF3.blk.of_below hb4)
  have s3 := hF3.lt
  have s4 := hb4.size
  have HW := hide hw
  have HNE : Hid (∀ b off, a2 = some ⟨b, off, none⟩ → b ≠ w2.heap.size) := fun b off e => by have := hblk b off e; omega
  have HR4 := hide ((unhide HR3).below hb4)
  have HM4 := hide (((unhide HM2).below hb3).below hb4)
  have HB4 := hide ((unhide HB2).trans ((hb3.mono (by omega)).trans (hb4.mono (by have := hb3.size; omega))))
  have s5 : w2.heap.size ≤ w3.heap.size := hb3.size
  clear hF3 hb3 hG4 hb4 hrow hys hblk hw hxs hxp HR2 HM2 HB2 HR3 ys xs
  have hnn : ((n : Int) != (n : Int)) = false := by simp
  go_wp2
  go_loopw [7] (fun i wr => ∃ k m : Nat, k ≤ n ∧ i = .int .i64 k ∧ wr = w4.drewN m) (fun i _ => n - (intOf i).toNat)
  case atStart => exact ⟨0, 0, by omega, rfl, rfl⟩
  case round =>
    obtain ⟨k, m, hk, rfl, hw⟩ := hrel
    by_cases hlt : k < n
    · obtain ⟨b, off, rfl, hb, hc⟩ := (unhide HW).at (by omega)
      obtain ⟨b', off', e', hb', hc'⟩ := (unhide HX).at (by omega)
      cases e'
      have hck : wr.cell? ⟨b, off + k, none⟩ = some (.float .f64 (quo (zs k) (FM.fsum zs n))) := by rw [hw]; exact hc k hlt
      have hdk : wr.cell? ⟨w2.heap.size, k, none⟩ = some (.float .f64 (quo (zs k) (FM.fsum zs n))) := by rw [hw]; have h := hc' k hlt; rw [Nat.zero_add] at h; exact h
      have hd : decide (quo (zs k) (FM.fsum zs n) = quo (zs k) (FM.fsum zs n)) = true := decide_eq_true rfl
      have HW2 := hide hw
      clear hc hc' hb hb' hw hnn
      go_wp2
      go_quiet ((go_at_call 10; exact Calls.quiet_of_same (bits_any _ _ _)))
      go_wp2
      go_roundw
      case rel => exact ⟨k + 1, m + nq, by omega, by go_num, by rw [unhide HW2, World.drewN_drewN]⟩
      case measure => simp [intOf]; omega
    · have e : k = n := by omega
      subst e
      subst hw
      go_wp2
      go_loopw [9] (fun i wr => ∃ q : Nat, q ≤ k ∧ i = .int .i64 q ∧ Keep w2.heap.size w4 wr ∧ Blk wr w2.heap.size k 22) (fun i _ => k - (intOf i).toNat)
      case atStart => exact ⟨0, by omega, rfl, (Keep.refl _ _).drewN m, unhide HBK⟩
      case round =>
        obtain ⟨q, hq, rfl, hK, hBq⟩ := hrel
        by_cases hlt2 : q < k
        · obtain ⟨u, hu⟩ := hBq.cell q hlt2
          have hfz := hBq.froz q
          have HK := hide (hK.set q (.float .f64 4617315517961601024))
          have HQ := hide (hBq.set q (.float .f64 4617315517961601024))
          clear hK hBq hnn
          go_wp2
          go_roundw
          case rel => exact ⟨q + 1, by omega, by go_num, unhide HK, unhide HQ⟩
          case measure => simp [intOf]; omega
        · have e : q = k := by omega
          subst e
          obtain ⟨xs, hown⟩ := hBq.own (base := w.heap.size) (by omega) (by unfold maxLen; omega)
          have HO := hide hown
          have HK := hide hK
          have hsz := hK.size
          clear hown hK hBq
          go_wp2_with (first
            | (at_builtin; refine wpList_append_own _ rfl _ _ 28 rfl w.heap.size 22 i0 (.float .f64 0) 1 8 Try.underlying28 hi0 hz0 hz1 hz2 rfl (by decide) _ _ _ rfl ((unhide HO).alloc _) ⟨wr.heap.size, 0, none⟩ 2 2 [.float .f64 4617315517961601024, .float .f64 4617315517961601024] rfl rfl ?c1 ?c2 ?c3 ?c4 ?c5 ?_)
            | fail)
          case c1 => exact two_new _ _ _ _
          case c2 => intro u hu; simp at hu; subst hu; rfl
          case c3 => unfold maxLen; omega
          case c4 => omega
          case c5 => simp; omega
          intro v' w5 _ hgrow _
          have HK5 := hide (((unhide HK).alloc _).trans hgrow)
          have HB5 := hide (Keep.below (unhide HB4) (by omega) (unhide HK5))
          have HR5 := hide ((unhide HR).below (unhide HB5))
          have HM5 := hide (Keep.mine (unhide HK5) (unhide HM4) (by omega))
          have HW5 := hide (Keep.row (unhide HK5) (unhide HW) (unhide HNE))
          clear hgrow HX HBK HW HNE HR4 HM4 HO HK HK5 hsz
          go_wp2_with fail
          refine (share_any (unhide HM5).row hn1).mono ?_
          rintro e w6 ⟨rfl, hF6, hb6⟩
          obtain ⟨ps, hps, hpp⟩ := hF6.row
          have HX6 := hide (Row.same hps hpp)
          have HW6 := hide ((unhide HW5).below hb6)
          have HR6 := hide ((unhide HR5).below hb6)
          have HM6 := hide ((unhide HM5).below hb6)
          have HB6 := hide ((unhide HB5).trans (hb6.mono (unhide HB5).size))
          clear hF6 hb6 hps hpp HW5 HR5 HM5 HB5 HB4
          have hqq : ((q : Int) == (q : Int)) = true := by simp
          go_wp2
          go_loopw [11] (fun i wr => ∃ r m : Nat, r ≤ q ∧ i = .int .i64 r ∧ wr = w6.drewN m) (fun i _ => q - (intOf i).toNat)
          case atStart => exact ⟨0, 0, by omega, rfl, rfl⟩
          case round =>
            obtain ⟨r, m, hr, rfl, hw⟩ := hrel
            by_cases hlt3 : r < q
            · obtain ⟨b, off, rfl, hb, hc⟩ := (unhide HW6).at (by omega)
              obtain ⟨b', off', e', hb', hc'⟩ := (unhide HX6).at (by omega)
              cases e'
              have hck : wr.cell? ⟨b, off + r, none⟩ = some (.float .f64 (quo (zs r) (FM.fsum zs q))) := by rw [hw]; exact hc r hlt3
              have hdk : wr.cell? ⟨w5.heap.size, r, none⟩ = some (.float .f64 (quo (zs r) (FM.fsum zs q))) := by rw [hw]; have h := hc' r hlt3; rw [Nat.zero_add] at h; exact h
              have hd : decide (quo (zs r) (FM.fsum zs q) = quo (zs r) (FM.fsum zs q)) = true := decide_eq_true rfl
              have HW2 := hide hw
              clear hc hc' hb hb' hw hnn
              go_wp2
              go_quiet ((go_at_call 10; exact Calls.quiet_of_same (bits_any _ _ _)))
              go_wp2
              go_roundw
              case rel => exact ⟨r + 1, m + nq, by omega, by go_num, by rw [unhide HW2, World.drewN_drewN]⟩
              case measure => simp [intOf]; omega
            · have e : r = q := by omega
              subst e
              subst hw
              clear hnn hqq
              go_wp2_with fail
              refine (sum_any ((unhide HM6).drewN m).row hn1).mono ?_
              rintro e w7 ⟨rfl, m7, rfl⟩
              go_wp2_with fail
              refine (refsum_any ((unhide HR6).drewN _) hn1).mono ?_
              rintro e w8 ⟨rfl, m8, rfl⟩
              go_wp2_with fail
              refine (bits_any _ _ _).mono ?_
              rintro e w9 ⟨rfl, rfl⟩
              rw [decide_eq_true rfl]
              go_wp2_with fail
              refine (mean_any ((unhide HM6).drewN _).row hn1).mono ?_
              rintro e w7 ⟨rfl, m9, rfl⟩
              go_wp2_with fail
              refine (refmean_any ((unhide HR6).drewN _) hn1).mono ?_
              rintro e w8 ⟨rfl, m10, rfl⟩
              go_wp2_with fail
              refine (bits_any _ _ _).mono ?_
              rintro e w9 ⟨rfl, rfl⟩
              rw [decide_eq_true rfl]
              go_wp2_with fail
              refine (fair_any ((unhide HM6).drewN _).row hn1).mono ?_
              rintro e w10 ⟨rfl, hb10⟩
              have HM10 := hide (Mine.below ((unhide HM6).drewN _) hb10)
              have HR10 := hide (Row.below ((unhide HR6).drewN _) hb10)
              have HB10 := hide ((below_drewN' (unhide HB6) _).trans (hb10.mono (below_drewN' (unhide HB6) _).size))
              clear hb10
              go_wp2_with fail
              refine (reffair_any (unhide HR10) hn1).mono ?_
              rintro e w11 ⟨rfl, hb11⟩
              have HM11 := hide ((unhide HM10).below hb11)
              have HR11 := hide ((unhide HR10).below hb11)
              have HB11 := hide ((unhide HB10).trans (hb11.mono (unhide HB10).size))
              clear hb11
              go_wp2_with fail
              refine (bits_any _ _ _).mono ?_
              rintro e w9 ⟨rfl, rfl⟩
              rw [decide_eq_true rfl]
              go_wp2_with fail
              refine (still_any (unhide HR11) (unhide HM11) hn1).mono ?_
              rintro e w12 ⟨rfl, m12, rfl⟩
              go_wp2
              go_ret
              exact ⟨rfl, below_drewN' (unhide HB11) _⟩

set_option maxRecDepth 100000 in
theorem sums_lifted (os : Os) (started : os.Started) (H : Type) (enc : TypeId × Value → H) :
    ReturnsInHanded {} Try.checked os 7 .any (Rows.figureSumsSpec.pre6 enc Try.prog Try.f7 Rows.figureSumsRow.domain false) (Rows.figureSumsSpec.post enc Try.prog Try.f7 false true false false) := by
  refine returnsInHanded_of_change_sized (C := Try.checked) own_knob started (by kernel_rfl) Try.func7
    (ChangeSpec.witness6 (enc := enc) (C := Try.checked) false ⟨#[], #[.slice none 0 0], []⟩ 8 (by kernel_rfl) (by kernel_rfl) (by kernel_rfl) (by kernel_rfl)) ?_
  intro W base args ds gs before hval0 hW _ hsz0 _
  have hval : ∀ (j : Nat) t v, Try.f7.params[j]? = some t → args[j]? = some v → Value.okWide Try.prog W .any base t v := hval0
  have hW' := hW
  obtain ⟨p, q, hA0, hV, rfl, hfz, hnd⟩ := hW
  have hA : DataW.TrodAll enc Try.prog W 0 (fun _ => true) true Try.f7.params.toList args.toList ds p := hA0
  have hsz : (DataW.weightsEach Try.prog (Try.f7.params.toList ++ Rows.figureSumsSpec.plain.varTypes Try.prog) (ds ++ gs)).all (· ≤ reachBytes) = true := hsz0
  rw [Try.params7] at hA hval hsz
  obtain ⟨v0, vs0, d0, ds0, p0, q0, hargs, rfl, rfl, h0, r0⟩ := trodAll_cons hA
  obtain ⟨rfl, rfl, rfl⟩ := trodAll_nil r0
  obtain rfl : args = #[v0] := by cases args; simp_all
  obtain ⟨rfl, rfl⟩ := trodVars_none hV
  obtain ⟨a0, len0, cap0, rfl⟩ := okWide_slice Try.underlying28 (hval 0 28 v0 rfl rfl)
  have k0 := h0
  have lt0 : ∀ x ∈ p0, x.block < W.heap.size := by obtain ⟨m, hm⟩ := k0; exact DataW.trod_lt m _ _ _ hm
  obtain ⟨z0, w0, u0, s0⟩ := floats_of_trod h0
  have n0 : len0 ≤ 17592186043904 := by
    rcases s0 with e | ⟨elems, spare, rfl, e⟩
    · omega
    · have z := sized_slice hsz (j := 0) (t := 28) (e := 22) rfl rfl Try.underlying28
      rw [Try.bytesF] at z
      unfold reachBytes at z
      omega
  clear hA0 hval0 hsz hsz0
  refine (sums_walk w0 (by omega)).mono fun e W' ⟨he, bel⟩ => ?_
  subst he
  exact ⟨_, rfl, _, _, _, [], _, [], hW', trodAll_mk1 (shut_bool Try.underlying4 _), (trodAll_cons_mk (Below.trod laid_out (by kernel_rfl) (of_decide_eq_true (by kernel_rfl)) k0 bel lt0) trodAll_mk0), rfl, bel.frame _, fun h => by cases h⟩

theorem figureSums_holds : Rows.FigureSumsSaid :=
  OpenClaim.holds_of_wide 7 Try.f7 rfl rfl rfl rfl rfl rfl rfl ⟨rfl, rfl, rfl, rfl, rfl⟩ rfl rfl rfl rfl rfl (by kernel_rfl) Try.func7 (by kernel_rfl)
    (of_decide_eq_true (by kernel_rfl)) (by unfold Func.isWrapper; first | (rw [if_pos (by decide +kernel)]; kernel_rfl) | (rw [if_neg (by decide +kernel)]; exact ⟨rfl, rfl⟩))
    (fun os started H enc _ => sums_lifted os started H enc)

end Go.Proofs.Ytifmkphdmfechaa
