/- WordsAgain: what is taken has one form: told again it is the same; a text ends where it says, and no sooner. Proved: WordsAgainUptoCardSaid (what comes in of bulk at most 1048576; the library's five variables start as the program's text lays them). -/
import Derived.Test.YtoomeadlpgmaaaaDoorUnquo
import Derived.Test.YtoomeadlpgmaaaaDoorParse
import Derived.Test.YtoomeadlpgmaaaaDoorLaid
namespace Go.Proofs.YtoomeadlpgmaaaaDoor
open Go.ChangeShapes Go.WideShapes Go.ChangeAt Go.RowKit
open Go.ChangeMaps (open_string shut_string)

theorem arr_list (l : List UInt8) : (⟨l.toArray⟩ : ByteArray).data.toList = l := by simp
theorem arr_size (l : List UInt8) : (⟨l.toArray⟩ : ByteArray).size = l.length := by rw [size_len, arr_list]

theorem pv_range (l : List UInt8) : -9223372036854775808 ≤ pv l ∧ pv l ≤ 9223372036854775807 := by
  unfold pv
  by_cases h : (isForm l && decide (dval 0 (mag l) ≤ lim l)) = true
  · rw [if_pos h]
    rw [Bool.and_eq_true, decide_eq_true_eq] at h
    have h2 := h.2
    unfold lim at h2
    unfold pval
    cases hm : minus l
    · rw [hm, if_neg (by decide)] at h2; rw [if_neg (by decide)]; omega
    · rw [hm, if_pos rfl] at h2; rw [if_pos rfl]; omega
  · rw [if_neg h]; omega

theorem p_cases (l : List UInt8) : (pe l = 0 ∧ Lib.itoa (pv l) = l) ∨ (¬ pe l = 0 ∧ pv l = 0) := by
  cases hf : isForm l
  · obtain ⟨h1, h2⟩ := p_no hf
    exact Or.inr ⟨by rw [← h2]; decide, h1.symm⟩
  · by_cases hv : dval 0 (mag l) ≤ lim l
    · obtain ⟨h1, h2⟩ := p_ok hf hv
      exact Or.inl ⟨h2.symm, by rw [← h1]; exact formed_back ((isForm_iff l).1 hf)⟩
    · obtain ⟨h1, h2⟩ := p_range hf hv
      exact Or.inr ⟨by rw [← h2]; decide, h1.symm⟩

theorem seven : pv (⟨#[45, 55]⟩ : ByteArray).data.toList = -7 ∧ pe (⟨#[45, 55]⟩ : ByteArray).data.toList = 0 := by decide +kernel

theorem ext0_list (s : ByteArray) (k : Nat) : (s.extract 0 k).data.toList = s.data.toList.take k := by
  rw [ByteArray.data_extract, Array.toList_extract, List.extract_eq_take_drop, List.drop_zero, Nat.sub_zero]

/-- where a text ends, in the statement's words -/
theorem ends {s : ByteArray} {t : List UInt8} {k : Nat} (h : unquote s.data.toList = some (t, k)) :
    ∃ j, k = j + 2 ∧ j + 2 ≤ s.size ∧ (by_ s 0).toNat = 34 ∧ (by_ s (j + 1)).toNat = 34 ∧ t.length ≤ j ∧
      unquote (s.extract 0 (j + 2)).data.toList = some (t, j + 2) ∧ unquote (s.extract 0 (j + 1)).data.toList = none := by
  simp only [ext0_list]
  unfold unquote at h
  have h0 : 0 < s.size := by
    rcases Nat.eq_zero_or_pos s.size with e | e
    · have e := empty_of e
      subst e
      cases h
    · exact e
  have e := list_first s h0
  have el := size_len s
  rw [e] at h el ⊢
  simp only at h
  by_cases hc : (by_ s 0).toNat = 34
  · rw [if_pos hc] at h
    cases hr : unq (s.data.toList.drop 1) with
    | none => rw [hr] at h; cases h
    | some p =>
      obtain ⟨t', k'⟩ := p
      rw [hr] at h
      simp only [Option.map, Option.some.injEq, Prod.mk.injEq] at h
      obtain ⟨rfl, rfl⟩ := h
      obtain ⟨a1, a2, ⟨c', a3, a3'⟩, a4, a5, a6⟩ := unq_ends _ (s.data.toList.drop 1) t' k' (Nat.le_refl _) hr
      obtain ⟨j, rfl⟩ : ∃ j, k' = j + 1 := ⟨k' - 1, by omega⟩
      refine ⟨j, rfl, ?_, hc, ?_, by omega, ?_, ?_⟩
      · rw [List.length_cons] at el; omega
      · rw [List.getElem?_drop] at a3
        have e3 : by_ s (j + 1) = c' := by
          unfold by_
          rw [List.getD_eq_getElem?_getD, show j + 1 = 1 + (j + 1 - 1) from by omega, a3]
          rfl
        rw [e3]
        exact a3'
      · have a5' := a5 []
        rw [List.append_nil] at a5'
        rw [List.take_succ_cons]
        unfold unquote
        simp only
        rw [if_pos hc, a5']
        rfl
      · rw [show j + 1 - 1 = j from by omega] at a6
        rw [List.take_succ_cons]
        unfold unquote
        simp only
        rw [if_pos hc, a6]
        rfl
  · rw [if_neg hc] at h; cases h

theorem quo_self (t : List UInt8) : ut ⟨(quo t).toArray⟩ = ⟨t.toArray⟩ ∧ uk ⟨(quo t).toArray⟩ = (⟨(quo t).toArray⟩ : ByteArray).size ∧ ue ⟨(quo t).toArray⟩ = 0 := by
  have h := unquote_quo t []
  rw [List.append_nil] at h
  obtain ⟨h1, h2, h3⟩ := u_some (s := ⟨(quo t).toArray⟩) (by rw [arr_list]; exact h)
  exact ⟨h1, by rw [h2, arr_size], h3⟩

set_option maxHeartbeats 4000000 in
theorem again_walk (s : ByteArray) (w : World) (hs : s.size ≤ 1048576) (hV : Vars w) :
    Calls Tryd.prog 5 #[.string s] w fun e w' => e = .returned (.bool true) ∧ Below w.heap.size w w' := by
  have HV := hide hV
  have hpr := pv_range s.data.toList
  have S7 := hide seven
  clear hV
  go_enter Tryd.func5, Tryd.ntmps5
  go_wp2_with fail
  refine (parse_any s w (by omega) (unhide HV)).mono ?_
  rintro e w1 ⟨rfl, b1⟩
  have HB1 := hide b1
  have HV1 := hide ((unhide HV).below b1)
  clear b1 HV
  go_wp2_with fail
  refine (parse_any _ w1 (by decide) (unhide HV1)).mono ?_
  rintro e w2 ⟨rfl, b2⟩
  rw [(unhide S7).1, (unhide S7).2]
  have HB2 := hide ((unhide HB1).trans (b2.mono (unhide HB1).size))
  have HV2 := hide ((unhide HV1).below b2)
  clear b2 HB1 HV1 S7
  rcases p_cases s.data.toList with ⟨hp1, hp2⟩ | ⟨hp1, hp2⟩
  · have HP := hide hp2
    rw [hp1]
    clear hp1 hp2
    go_wp2_with fail
    refine (int_any _ hpr.1 hpr.2 w2 (unhide HV2)).mono ?_
    rintro e w3 ⟨rfl, b3⟩
    rw [unhide HP, show (⟨s.data.toList.toArray⟩ : ByteArray) = s from rfl]
    have HB3 := hide ((unhide HB2).trans (b3.mono (unhide HB2).size))
    clear b3 HB2 HV2 HP
    go_wp2_with fail
    refine (unquote_any s w3 (by omega)).mono ?_
    rintro e w4 ⟨rfl, b4⟩
    have HB4 := hide ((unhide HB3).trans (b4.mono (unhide HB3).size))
    clear b4 HB3
    unfold Uend
    cases hu : unquote s.data.toList with
    | none =>
      obtain ⟨u1, u2, u3⟩ := u_none hu
      rw [u1, u2, u3]
      clear u1 u2 u3 hu
      go_wp2
      go_ret
      exact ⟨ret_bool (by simp), unhide HB4⟩
    | some p =>
      obtain ⟨t, k⟩ := p
      obtain ⟨u1, u2, u3⟩ := u_some hu
      obtain ⟨j, rfl, hj, c0, cj, htl, n1, n2⟩ := ends hu
      rw [u1, u2, u3]
      clear u1 u2 u3 hu
      obtain ⟨x1, x2, x3⟩ := u_some n1
      obtain ⟨y1, y2, y3⟩ := u_none n2
      obtain ⟨z1, z2, z3⟩ := quo_self t
      have X := hide (And.intro x1 (And.intro x2 x3))
      have Y := hide (And.intro y1 (And.intro y2 y3))
      have Z := hide (And.intro z1 (And.intro z2 z3))
      have TS := hide (show (⟨t.toArray⟩ : ByteArray).size ≤ 1048576 by rw [arr_size]; omega)
      have QS := hide (show (⟨(quo t).toArray⟩ : ByteArray).size ≤ 2097154 by rw [arr_size]; have := quo_len t; omega)
      clear n1 n2 x1 x2 x3 y1 y2 y3 z1 z2 z3 htl
      have b0 := by_at s 0 (by omega)
      have bj := by_at s (j + 1) (by omega)
      have p0 : (((by_ s 0).toNat : Int) != 34) = false := by simp; omega
      have pj : (((by_ s (j + 1)).toNat : Int) != 34) = false := by simp; omega
      clear c0 cj
      go_wp2_with fail
      refine (unquote_any (s.extract 0 (j + 2)) w4 (by rw [ByteArray.size_extract]; omega)).mono ?_
      rintro e w5 ⟨rfl, b5⟩
      unfold Uend
      rw [(unhide X).1, (unhide X).2.1, (unhide X).2.2]
      have HB5 := hide ((unhide HB4).trans (b5.mono (unhide HB4).size))
      clear b5 HB4 X
      go_wp2_with fail
      refine (unquote_any (s.extract 0 (j + 1)) w5 (by rw [ByteArray.size_extract]; omega)).mono ?_
      rintro e w6 ⟨rfl, b6⟩
      unfold Uend
      rw [(unhide Y).1, (unhide Y).2.1, (unhide Y).2.2]
      have HB6 := hide ((unhide HB5).trans (b6.mono (unhide HB5).size))
      clear b6 HB5 Y
      go_wp2_with fail
      refine (quote_any ⟨t.toArray⟩ w6 (by have := unhide TS; omega)).mono ?_
      rintro e w7 ⟨rfl, b7⟩
      rw [arr_list]
      have HB7 := hide ((unhide HB6).trans (b7.mono (unhide HB6).size))
      clear b7 HB6
      go_wp2_with fail
      refine (unquote_any ⟨(quo t).toArray⟩ w7 (by have := unhide QS; omega)).mono ?_
      rintro e w8 ⟨rfl, b8⟩
      unfold Uend
      rw [(unhide Z).1, (unhide Z).2.1, (unhide Z).2.2]
      have HB8 := hide ((unhide HB7).trans (b8.mono (unhide HB7).size))
      clear b8 HB7 Z
      go_wp2_with fail
      refine (quote_any ⟨t.toArray⟩ w8 (by have := unhide TS; omega)).mono ?_
      rintro e w9 ⟨rfl, b9⟩
      rw [arr_list]
      have HB9 := hide ((unhide HB8).trans (b9.mono (unhide HB8).size))
      clear b9 HB8
      go_wp2
      go_ret
      exact ⟨ret_bool (by simp), unhide HB9⟩
  · have hp3 : (pe s.data.toList == 0) = false := beq_false_of_ne hp1
    have hp4 : (pe s.data.toList != 0) = true := bne_iff_ne.2 hp1
    rw [hp2]
    clear hp1 hp2
    have HB3 := HB2
    clear HB2 HV2
    go_wp2_with fail
    refine (unquote_any s w2 (by omega)).mono ?_
    rintro e w4 ⟨rfl, b4⟩
    have HB4 := hide ((unhide HB3).trans (b4.mono (unhide HB3).size))
    clear b4 HB3
    unfold Uend
    cases hu : unquote s.data.toList with
    | none =>
      obtain ⟨u1, u2, u3⟩ := u_none hu
      rw [u1, u2, u3]
      clear u1 u2 u3 hu
      go_wp2
      go_ret
      exact ⟨ret_bool (by simp), unhide HB4⟩
    | some p =>
      obtain ⟨t, k⟩ := p
      obtain ⟨u1, u2, u3⟩ := u_some hu
      obtain ⟨j, rfl, hj, c0, cj, htl, n1, n2⟩ := ends hu
      rw [u1, u2, u3]
      clear u1 u2 u3 hu
      obtain ⟨x1, x2, x3⟩ := u_some n1
      obtain ⟨y1, y2, y3⟩ := u_none n2
      obtain ⟨z1, z2, z3⟩ := quo_self t
      have X := hide (And.intro x1 (And.intro x2 x3))
      have Y := hide (And.intro y1 (And.intro y2 y3))
      have Z := hide (And.intro z1 (And.intro z2 z3))
      have TS := hide (show (⟨t.toArray⟩ : ByteArray).size ≤ 1048576 by rw [arr_size]; omega)
      have QS := hide (show (⟨(quo t).toArray⟩ : ByteArray).size ≤ 2097154 by rw [arr_size]; have := quo_len t; omega)
      clear n1 n2 x1 x2 x3 y1 y2 y3 z1 z2 z3 htl
      have b0 := by_at s 0 (by omega)
      have bj := by_at s (j + 1) (by omega)
      have p0 : (((by_ s 0).toNat : Int) != 34) = false := by simp; omega
      have pj : (((by_ s (j + 1)).toNat : Int) != 34) = false := by simp; omega
      clear c0 cj
      go_wp2_with fail
      refine (unquote_any (s.extract 0 (j + 2)) w4 (by rw [ByteArray.size_extract]; omega)).mono ?_
      rintro e w5 ⟨rfl, b5⟩
      unfold Uend
      rw [(unhide X).1, (unhide X).2.1, (unhide X).2.2]
      have HB5 := hide ((unhide HB4).trans (b5.mono (unhide HB4).size))
      clear b5 HB4 X
      go_wp2_with fail
      refine (unquote_any (s.extract 0 (j + 1)) w5 (by rw [ByteArray.size_extract]; omega)).mono ?_
      rintro e w6 ⟨rfl, b6⟩
      unfold Uend
      rw [(unhide Y).1, (unhide Y).2.1, (unhide Y).2.2]
      have HB6 := hide ((unhide HB5).trans (b6.mono (unhide HB5).size))
      clear b6 HB5 Y
      go_wp2_with fail
      refine (quote_any ⟨t.toArray⟩ w6 (by have := unhide TS; omega)).mono ?_
      rintro e w7 ⟨rfl, b7⟩
      rw [arr_list]
      have HB7 := hide ((unhide HB6).trans (b7.mono (unhide HB6).size))
      clear b7 HB6
      go_wp2_with fail
      refine (unquote_any ⟨(quo t).toArray⟩ w7 (by have := unhide QS; omega)).mono ?_
      rintro e w8 ⟨rfl, b8⟩
      unfold Uend
      rw [(unhide Z).1, (unhide Z).2.1, (unhide Z).2.2]
      have HB8 := hide ((unhide HB7).trans (b8.mono (unhide HB7).size))
      clear b8 HB7 Z
      go_wp2_with fail
      refine (quote_any ⟨t.toArray⟩ w8 (by have := unhide TS; omega)).mono ?_
      rintro e w9 ⟨rfl, b9⟩
      rw [arr_list]
      have HB9 := hide ((unhide HB8).trans (b9.mono (unhide HB8).size))
      clear b9 HB8
      go_wp2
      go_ret
      exact ⟨ret_bool (by simp), unhide HB9⟩

theorem again_short {H : Type} {a0 : ByteArray} (hk : Rows.uptoSmall H [DataW.lit (H := H) (.string a0.data.toList)] = true) : a0.size ≤ 1048576 := by
  have h : Rows.uptoBulkAll [DataW.lit (H := H) (.string a0.data.toList)] ≤ 1048576 := of_decide_eq_true hk
  simp only [Rows.uptoBulkAll, Rows.uptoBulk] at h
  have e0 : a0.data.toList.length = a0.size := by rw [Array.length_toList]; rfl
  omega

theorem again_contract (H : Type) (enc : TypeId × Value → H) (W : World) (base : Nat) (args : Array Value) (ds gs : List (DataW H)) (before : List MemPlace)
    (hval : ∀ (j : Nat) t v, Tryd.f5.params[j]? = some t → args[j]? = some v → Value.okWide Tryd.prog W .any base t v)
    (hW : DataW.Whole enc Tryd.prog Tryd.f5.params.toList Rows.wordsAgainSpec.vars false W args.toList ds gs before) (hk : Rows.uptoSmall H (ds ++ gs) = true)
    (hL : laidMetH Tryd.prog laids W) :
    Calls Tryd.prog 5 args W fun e W' => ∃ v, e = .returned v ∧ Rows.wordsAgainSpec.post enc Tryd.prog Tryd.f5 false true false false W args v W' := by
  have hW' := hW
  obtain ⟨p, q, hA0, hVr, rfl, hfz, hnd⟩ := hW
  have hA : DataW.TrodAll enc Tryd.prog W 0 (fun _ => true) true Tryd.f5.params.toList args.toList ds p := hA0
  rw [Tryd.params5] at hA hval
  obtain ⟨v0, vs0, d0, ds0, p0, q0, hargs, rfl, rfl, h0, r0⟩ := trodAll_cons hA
  obtain ⟨rfl, rfl, rfl⟩ := trodAll_nil r0
  obtain rfl : args = #[v0] := by cases args; simp_all
  obtain ⟨rfl, rfl⟩ := trodVars_none hVr
  obtain ⟨a0, rfl, rfl, rfl, w0⟩ := open_string Tryd.underlying9 (hval 0 9 v0 rfl rfl) h0
  clear hA0
  simp only [List.append_nil] at hW' hk
  have hz := again_short hk
  refine (again_walk a0 W hz (vars_of hL)).mono fun e W' ⟨he, bel⟩ => ?_
  subst he
  exact ⟨_, rfl, _, _, _, [], _, [], hW', trodAll_mk1 (shut_bool Tryd.underlying4 _), (trodAll_cons_mk (shut_string Tryd.underlying9 w0) trodAll_mk0), rfl, bel.frame _, fun h => by cases h⟩

theorem again_reads (os : Os) {H : Type} (enc : TypeId × Value → H) : ∃ places, DataW.whole enc Tryd.prog ((laidWorld os).forCall (fun _ _ => 0) ⟨#[], #[.string .empty], []⟩).memory Tryd.f5.params.toList Rows.wordsAgainSpec.vars false (#[.string .empty] : Array Value).toList 8 = some ([.lit (.string [])], [], places) :=
  ⟨[], by kernel_rfl⟩

set_option maxRecDepth 100000 in
theorem again_lifted (os : Os) (started : os.Started) (H : Type) (enc : TypeId × Value → H) (F : Stop.Interp) :
    ReturnsInHanded {} Tryd.checked os 5 .any ((Rows.OpenSpec.upto Rows.wordsAgainSpec).preRow enc Tryd.prog Tryd.f5 Rows.wordsAgainUptoRow.domain false Rows.wordsAgainUptoRow.laid) (((Rows.OpenSpec.upto Rows.wordsAgainSpec).at F).post enc Tryd.prog Tryd.f5 false true false false) := by
  obtain ⟨places, hx⟩ := again_reads os enc
  refine returnsInHanded_of_row (C := Tryd.checked) (s := Rows.OpenSpec.upto Rows.wordsAgainSpec) own_knob started (by kernel_rfl) Tryd.func5
    (witness_row_at (enc := enc) (C := Tryd.checked) false (laidWorld os) #[.string .empty] rfl (by kernel_rfl) (by kernel_rfl) (by kernel_rfl)
      (OpenSpec.preRow_of_cond 8 hx (by kernel_rfl) (fun k hk => by cases hk; kernel_rfl) (by kernel_rfl) (laid_met os _))) ?_
  intro W base args ds gs before hval hW _ hcond _ hL _ _
  exact again_contract H enc W base args ds gs before hval hW (hcond _ rfl) hL

theorem again_said : Rows.WordsAgainUptoSaid :=
  OpenClaim.holds_of_cond 5 Tryd.f5 rfl rfl rfl rfl rfl rfl rfl ⟨rfl, rfl, rfl, rfl, rfl⟩ rfl rfl rfl rfl rfl (by kernel_rfl) Tryd.func5 (by kernel_rfl)
    (of_decide_eq_true (by kernel_rfl)) (by unfold Func.isWrapper; first | (rw [if_pos (by decide +kernel)]; kernel_rfl) | (rw [if_neg (by decide +kernel)]; exact ⟨rfl, rfl⟩))
    (fun os started H enc _ F => by rw [OpenClaim.pre_eq_preRow]; exact again_lifted os started H enc F)

theorem again_plain (f : FuncId) (fn : Func) (hf : Tryd.pinned.checked.prog.funcNamed "drowse/drowselaw02.WordsAgain" = some f) (hfn : Tryd.pinned.checked.prog.funcs[f]? = some fn) :
    true = Tryd.pinned.checked.prog.looks [] ∧ ∀ (j : Nat) t, fn.params[j]? = some t → Tryd.pinned.checked.prog.wantsStandIn t = false := by
  obtain rfl : f = 5 := Option.some.inj ((show Tryd.prog.funcNamed "drowse/drowselaw02.WordsAgain" = some 5 by kernel_rfl).symm.trans hf) |>.symm
  obtain rfl : fn = Tryd.f5 := (Option.some.inj (Tryd.func5.symm.trans hfn)).symm
  refine ⟨by kernel_rfl, fun j t ht => ?_⟩
  rw [Tryd.params5] at ht
  have hm := Array.mem_of_getElem? ht
  have h2 : t = 9 := by simpa using hm
  subst h2
  exact (show Tryd.prog.wantsStandIn 9 = false by kernel_rfl)

theorem wordsAgain_holds : Rows.WordsAgainUptoCardSaid :=
  Claim7.holds_tied_plain_at .later [] _ _ _ _ again_said (fun _ h => by cases h) (by kernel_rfl) (fun _ h => by cases h) wordsAgainUpto_row_tie rfl ⟨rfl, rfl⟩ (by kernel_rfl) rfl again_plain (by kernel_rfl)

end Go.Proofs.YtoomeadlpgmaaaaDoor
