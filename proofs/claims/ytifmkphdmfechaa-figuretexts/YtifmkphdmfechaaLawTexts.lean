/- Proved: for every float64 value and every string the law FigureTexts answers true and leaves its arguments as they were. Conditions: none. -/
import Derived.Test.YtifmkphdmfechaaLift
import Derived.Test.YtifmkphdmfechaaRefRead
namespace Go.Proofs.Ytifmkphdmfechaa
open Go.ChangeShapes Go.WideShapes Go.ChangeAt Go.RowKit
open Go.ChangeMaps (open_string shut_string)

theorem one_one (x : Nat) : FM.one (FM.one x) = FM.one x := by
  unfold FM.one
  cases hn : FM.nan x
  · simp [hn]
  · simp

theorem text_good {x : Nat} (hx : x < 18446744073709551616) :
    rdv (strOfNums (textL (FM.one x))) = FM.one x ∧ rde (strOfNums (textL (FM.one x))) = 0 := by
  have ha := text_acc (FM.one x) (one_lt hx)
  have hg : good (strOfNums (textL (FM.one x))) = true := by
    rw [good_iff (text_size _) (text_okd _), ha, decide_eq_true_eq]
    exact one_one x
  unfold rdv rde
  rw [hg, ha]
  exact ⟨rfl, rfl⟩

theorem rdv_lt (s : ByteArray) : rdv s < 18446744073709551616 := by
  unfold rdv
  split
  · exact acc16_lt s
  · omega

theorem text_rdv {s : ByteArray} (h : good s = true) : strOfNums (textL (FM.one (rdv s))) = s := by
  have hh : hex s = true := by
    unfold good at h
    rw [Bool.and_eq_true] at h
    exact h.1
  have h3 := (text_eq_iff (hex_okd hh).1 (hex_okd hh).2).2 h
  unfold rdv
  rw [h]
  exact h3

set_option maxHeartbeats 2000000 in
theorem texts_walk (x : Nat) (s : ByteArray) (w : World) (hx : x < 18446744073709551616) (hs : s.size ≤ maxLen) :
    Calls Try.prog 8 #[.float .f64 x, .string s] w fun e w' => e = .returned (.bool true) ∧ Below w.heap.size w w' := by
  have HX := hide hx
  have HS := hide hs
  clear hx hs
  have TG := hide (text_good (unhide HX))
  have HT : Hid ((strOfNums (textL (FM.one x))).size ≤ maxLen) := by
    show _ ≤ _
    rw [text_size]; unfold maxLen; omega
  go_enter Try.func8, Try.ntmps8
  go_wp2_with fail
  refine (awake_any _).mono ?_
  rintro e w1 ⟨rfl, hb1⟩
  go_wp2_with fail
  refine (text_any _ _ (one_lt (unhide HX))).mono ?_
  rintro e w2 ⟨rfl, hb2⟩
  have hb := hb1.trans (hb2.mono hb1.size)
  clear hb1 hb2
  go_wp2_with fail
  refine (reftext_any _ _ (one_lt (unhide HX))).mono ?_
  rintro e w3 ⟨rfl, rfl⟩
  go_wp2_with fail
  refine (read_any _ _ (unhide HT)).mono ?_
  rintro e w3 ⟨rfl, rfl⟩
  rw [(unhide TG).1, (unhide TG).2]
  go_wp2_with fail
  refine (refone_any _ _).mono ?_
  rintro e w3 ⟨rfl, rfl⟩
  go_wp2_with fail
  refine (bits_any _ _ _).mono ?_
  rintro e w3 ⟨rfl, rfl⟩
  rw [decide_eq_true rfl]
  go_wp2_with fail
  refine (read_any _ _ (unhide HS)).mono ?_
  rintro e w3 ⟨rfl, rfl⟩
  go_wp2_with fail
  refine (refread_any _ _ (unhide HS)).mono ?_
  rintro e w3 ⟨rfl, rfl⟩
  go_wp2_with fail
  refine (bits_any _ _ _).mono ?_
  rintro e w3 ⟨rfl, rfl⟩
  rw [decide_eq_true rfl]
  cases hg : good s
  · have e : rde s = 11 := (rd_bad hg).2.symm
    rw [e]
    clear e
    go_wp2
    go_ret
    exact ⟨rfl, hb⟩
  · have e : rde s = 0 := (rd_good hg).2.symm
    have T := hide (text_rdv hg)
    rw [e]
    clear e
    go_wp2_with fail
    refine (text_any _ _ (one_lt (rdv_lt s))).mono ?_
    rintro e w4 ⟨rfl, hb4⟩
    rw [unhide T]
    go_wp2
    go_ret
    exact ⟨rfl, hb.trans (hb4.mono hb.size)⟩

set_option maxRecDepth 100000 in
theorem texts_lifted (os : Os) (started : os.Started) (H : Type) (enc : TypeId × Value → H) :
    ReturnsInHanded {} Try.checked os 8 .any (Rows.figureTextsSpec.pre6 enc Try.prog Try.f8 Rows.figureTextsRow.domain false) (Rows.figureTextsSpec.post enc Try.prog Try.f8 false true false false) := by
  refine returnsInHanded_of_change (C := Try.checked) own_knob started (by kernel_rfl) Try.func8
    (ChangeSpec.witness6 (enc := enc) (C := Try.checked) false ⟨#[], #[.float .f64 0, .string ByteArray.empty], []⟩ 8 (by kernel_rfl) (by kernel_rfl) (by kernel_rfl) (by kernel_rfl)) ?_
  intro W base args ds gs before hval0 hW _ hsz
  have hval : ∀ (j : Nat) t v, Try.f8.params[j]? = some t → args[j]? = some v → Value.okWide Try.prog W .any base t v := hval0
  have hW' := hW
  obtain ⟨p, q, hA0, hV, rfl, hfz, hnd⟩ := hW
  have hA : DataW.TrodAll enc Try.prog W 0 (fun _ => true) true Try.f8.params.toList args.toList ds p := hA0
  rw [Try.params8] at hA hval
  obtain ⟨v0, vs0, d0, ds0, p0, q0, hargs, rfl, rfl, h0, r0⟩ := trodAll_cons hA
  obtain ⟨v1, vs1, d1, ds1, p1, q1, rfl, rfl, rfl, h1, r1⟩ := trodAll_cons r0
  obtain ⟨rfl, rfl, rfl⟩ := trodAll_nil r1
  obtain rfl : args = #[v0, v1] := by cases args; simp_all
  obtain ⟨rfl, rfl⟩ := trodVars_none hV
  obtain ⟨a0, rfl, rfl, rfl, w0⟩ := open_float Try.underlying22 (hval 0 22 v0 rfl rfl) h0
  obtain ⟨a1, rfl, rfl, rfl, w1⟩ := open_string Try.underlying9 (hval 1 9 v1 rfl rfl) h1
  clear hA0 hval0 hsz
  refine (texts_walk a0 a1 W (lt64_of_wf w0) w1).mono fun e W' ⟨he, bel⟩ => ?_
  subst he
  exact ⟨_, rfl, _, _, _, [], _, [], hW', trodAll_mk1 (shut_bool Try.underlying4 _), (trodAll_cons_mk (shut_float Try.underlying22 w0) (trodAll_cons_mk (shut_string Try.underlying9 w1) trodAll_mk0)), rfl, bel.frame _, fun h => by cases h⟩

theorem figureTexts_holds : Rows.FigureTextsSaid :=
  OpenClaim.holds_of_wide 8 Try.f8 rfl rfl rfl rfl rfl rfl rfl ⟨rfl, rfl, rfl, rfl, rfl⟩ rfl rfl rfl rfl rfl (by kernel_rfl) Try.func8 (by kernel_rfl)
    (of_decide_eq_true (by kernel_rfl)) (by unfold Func.isWrapper; first | (rw [if_pos (by decide +kernel)]; kernel_rfl) | (rw [if_neg (by decide +kernel)]; exact ⟨rfl, rfl⟩))
    (fun os started H enc _ => texts_lifted os started H enc)

end Go.Proofs.Ytifmkphdmfechaa
