/- WordsBack: what is told is read; a text stands for itself, whatever follows. Proved: WordsBackUptoCardSaid (what comes in together of bulk at most 1048576; the library's five variables start as the program's text lays them). -/
import Derived.Test.YtoomeadlpgmaaaaDoorUnquo
import Derived.Test.YtoomeadlpgmaaaaDoorParse
import Derived.Test.YtoomeadlpgmaaaaDoorLaid
import Derived.Lib.ItoaLen
namespace Go.Proofs.YtoomeadlpgmaaaaDoor
open Go.ChangeShapes Go.WideShapes Go.ChangeAt Go.RowKit
open Go.ChangeMaps (open_string shut_string)

theorem itoa_pv (n : Int) (h0 : -9223372036854775808 ≤ n) (h1 : n ≤ 9223372036854775807) : pv (Lib.itoa n) = n ∧ pe (Lib.itoa n) = 0 := by
  obtain ⟨e1, e2⟩ := p_ok (isForm_yes (itoa_parts n).1) (itoa_fits n h0 h1)
  rw [← e1, ← e2]
  exact ⟨itoa_val n, rfl⟩

theorem arr_list (l : List UInt8) : (⟨l.toArray⟩ : ByteArray).data.toList = l := by simp
theorem arr_size (l : List UInt8) : (⟨l.toArray⟩ : ByteArray).size = l.length := by rw [size_len, arr_list]

theorem quo_by (l : List UInt8) (k : Nat) (h : k < (⟨(quo l).toArray⟩ : ByteArray).size) : ¬ (by_ ⟨(quo l).toArray⟩ k).toNat = 10 := by
  have := by_mem _ k h
  rw [arr_list] at this
  exact quo_line l _ this

theorem append_list (a b : ByteArray) : (a ++ b).data.toList = a.data.toList ++ b.data.toList := by rw [ByteArray.data_append]; simp

theorem back_unq (s rest : ByteArray) : ut (⟨(quo s.data.toList).toArray⟩ ++ rest) = s ∧ uk (⟨(quo s.data.toList).toArray⟩ ++ rest) = (⟨(quo s.data.toList).toArray⟩ : ByteArray).size ∧ ue (⟨(quo s.data.toList).toArray⟩ ++ rest) = 0 := by
  have h : unquote ((⟨(quo s.data.toList).toArray⟩ : ByteArray) ++ rest).data.toList = some (s.data.toList, (quo s.data.toList).length) := by
    rw [append_list, arr_list]
    exact unquote_quo _ _
  obtain ⟨h1, h2, h3⟩ := u_some h
  refine ⟨?_, ?_, h3⟩
  · rw [h1]
  · rw [h2, arr_size]

set_option maxHeartbeats 2000000 in
theorem back_walk (n : Int) (s rest : ByteArray) (w : World) (h0 : -9223372036854775808 ≤ n) (h1 : n ≤ 9223372036854775807) (hs : s.size ≤ 1048576) (hr : rest.size ≤ 1048576) (hV : Vars w) :
    Calls Tryd.prog 4 #[.int .i64 n, .string s, .string rest] w fun e w' => e = .returned (.bool true) ∧ Below w.heap.size w w' := by
  have HV := hide hV
  have PN := hide (itoa_pv n h0 h1)
  have PL := hide (Lib.itoa_length_le n h0 h1)
  have HQ := hide (fun k h => quo_by s.data.toList k h)
  have HU := hide (back_unq s rest)
  have hql : (⟨(quo s.data.toList).toArray⟩ : ByteArray).size ≤ 2097154 := by
    rw [arr_size]
    have := quo_len s.data.toList
    rw [← size_len] at this
    omega
  have HSZ := hide (ByteArray.size_append (a := ⟨(quo s.data.toList).toArray⟩) (b := rest))
  clear hV
  go_enter Tryd.func4, Tryd.ntmps4
  go_wp2_with fail
  refine (int_any n h0 h1 w (unhide HV)).mono ?_
  rintro e w1 ⟨rfl, b1⟩
  have HB1 := hide b1
  have HV1 := hide ((unhide HV).below b1)
  clear b1 HV
  go_wp2_with fail
  refine (parse_any ⟨(Lib.itoa n).toArray⟩ w1 (by rw [arr_size]; have := unhide PL; omega) (unhide HV1)).mono ?_
  rintro e w2 ⟨rfl, b2⟩
  rw [arr_list, (unhide PN).1, (unhide PN).2]
  have HB2 := hide ((unhide HB1).trans (b2.mono (unhide HB1).size))
  clear b2 HB1 HV1 PN PL
  go_wp2_with fail
  refine (quote_any s w2 (by omega)).mono ?_
  rintro e w3 ⟨rfl, b3⟩
  have HB3 := hide ((unhide HB2).trans (b3.mono (unhide HB2).size))
  clear b3 HB2
  generalize (⟨(quo s.data.toList).toArray⟩ : ByteArray) = q at *
  go_wp2
  go_loop [10] (fun i => ∃ k : Nat, k ≤ q.size ∧ i = .int .i64 k) (fun i => q.size - (intOf i).toNat)
  case atStart => exact ⟨0, by omega, rfl⟩
  case round =>
    obtain ⟨k, hk, rfl⟩ := hrel
    by_cases hlt : k < q.size
    · have hb := by_at q k hlt
      have c := unhide HQ k hlt
      have p : (((by_ q k).toNat : Int) == 10) = false := by simp; omega
      clear c
      go_wp2
      go_round
      case rel => exact ⟨k + 1, by omega, by go_num⟩
      case measure => simp [intOf]; omega
    · have e : k = q.size := by omega
      subst e
      go_wp2_with fail
      refine (unquote_any (q ++ rest) w3 (by rw [unhide HSZ]; omega)).mono ?_
      rintro e w4 ⟨rfl, b4⟩
      have HB4 := hide ((unhide HB3).trans (b4.mono (unhide HB3).size))
      clear b4 HB3
      unfold Uend
      rw [(unhide HU).1, (unhide HU).2.1, (unhide HU).2.2]
      go_wp2
      go_ret
      exact ⟨ret_bool (by simp), unhide HB4⟩

theorem back_short {H : Type} {a0 : Int} {a1 : ByteArray} {a2 : ByteArray} (hk : Rows.uptoSmall H [DataW.lit (H := H) (.int .i64 a0), DataW.lit (H := H) (.string a1.data.toList), DataW.lit (H := H) (.string a2.data.toList)] = true) : a1.size ≤ 1048576 ∧ a2.size ≤ 1048576 := by
  have h : Rows.uptoBulkAll [DataW.lit (H := H) (.int .i64 a0), DataW.lit (H := H) (.string a1.data.toList), DataW.lit (H := H) (.string a2.data.toList)] ≤ 1048576 := of_decide_eq_true hk
  simp only [Rows.uptoBulkAll, Rows.uptoBulk] at h
  have e1 : a1.data.toList.length = a1.size := by rw [Array.length_toList]; rfl
  have e2 : a2.data.toList.length = a2.size := by rw [Array.length_toList]; rfl
  omega

theorem back_contract (H : Type) (enc : TypeId × Value → H) (W : World) (base : Nat) (args : Array Value) (ds gs : List (DataW H)) (before : List MemPlace)
    (hval : ∀ (j : Nat) t v, Tryd.f4.params[j]? = some t → args[j]? = some v → Value.okWide Tryd.prog W .any base t v)
    (hW : DataW.Whole enc Tryd.prog Tryd.f4.params.toList Rows.wordsBackSpec.vars false W args.toList ds gs before) (hk : Rows.uptoSmall H (ds ++ gs) = true)
    (hL : laidMetH Tryd.prog laids W) :
    Calls Tryd.prog 4 args W fun e W' => ∃ v, e = .returned v ∧ Rows.wordsBackSpec.post enc Tryd.prog Tryd.f4 false true false false W args v W' := by
  have hW' := hW
  obtain ⟨p, q, hA0, hVr, rfl, hfz, hnd⟩ := hW
  have hA : DataW.TrodAll enc Tryd.prog W 0 (fun _ => true) true Tryd.f4.params.toList args.toList ds p := hA0
  rw [Tryd.params4] at hA hval
  obtain ⟨v0, vs0, d0, ds0, p0, q0, hargs, rfl, rfl, h0, r0⟩ := trodAll_cons hA
  obtain ⟨v1, vs1, d1, ds1, p1, q1, rfl, rfl, rfl, h1, r1⟩ := trodAll_cons r0
  obtain ⟨v2, vs2, d2, ds2, p2, q2, rfl, rfl, rfl, h2, r2⟩ := trodAll_cons r1
  obtain ⟨rfl, rfl, rfl⟩ := trodAll_nil r2
  obtain rfl : args = #[v0, v1, v2] := by cases args; simp_all
  obtain ⟨rfl, rfl⟩ := trodVars_none hVr
  obtain ⟨a0, rfl, rfl, rfl, w0⟩ := open_int Tryd.underlying2 (hval 0 2 v0 rfl rfl) h0
  obtain ⟨a1, rfl, rfl, rfl, w1⟩ := open_string Tryd.underlying9 (hval 1 9 v1 rfl rfl) h1
  obtain ⟨a2, rfl, rfl, rfl, w2⟩ := open_string Tryd.underlying9 (hval 2 9 v2 rfl rfl) h2
  clear hA0
  simp only [List.append_nil] at hW' hk
  have hz := back_short hk
  refine (back_walk a0 a1 a2 W (i64_of_wf w0).1 (i64_of_wf w0).2 hz.1 hz.2 (vars_of hL)).mono fun e W' ⟨he, bel⟩ => ?_
  subst he
  exact ⟨_, rfl, _, _, _, [], _, [], hW', trodAll_mk1 (shut_bool Tryd.underlying4 _), (trodAll_cons_mk (shut_int Tryd.underlying2 w0) (trodAll_cons_mk (shut_string Tryd.underlying9 w1) (trodAll_cons_mk (shut_string Tryd.underlying9 w2) trodAll_mk0))), rfl, bel.frame _, fun h => by cases h⟩

theorem back_reads (os : Os) {H : Type} (enc : TypeId × Value → H) : ∃ places, DataW.whole enc Tryd.prog ((laidWorld os).forCall (fun _ _ => 0) ⟨#[], #[.int .i64 0, .string .empty, .string .empty], []⟩).memory Tryd.f4.params.toList Rows.wordsBackSpec.vars false (#[.int .i64 0, .string .empty, .string .empty] : Array Value).toList 8 = some ([.lit (.int .i64 0), .lit (.string []), .lit (.string [])], [], places) :=
  ⟨[], by kernel_rfl⟩

set_option maxRecDepth 100000 in
theorem back_lifted (os : Os) (started : os.Started) (H : Type) (enc : TypeId × Value → H) (F : Stop.Interp) :
    ReturnsInHanded {} Tryd.checked os 4 .any ((Rows.OpenSpec.upto Rows.wordsBackSpec).preRow enc Tryd.prog Tryd.f4 Rows.wordsBackUptoRow.domain false Rows.wordsBackUptoRow.laid) (((Rows.OpenSpec.upto Rows.wordsBackSpec).at F).post enc Tryd.prog Tryd.f4 false true false false) := by
  obtain ⟨places, hx⟩ := back_reads os enc
  refine returnsInHanded_of_row (C := Tryd.checked) (s := Rows.OpenSpec.upto Rows.wordsBackSpec) own_knob started (by kernel_rfl) Tryd.func4
    (witness_row_at (enc := enc) (C := Tryd.checked) false (laidWorld os) #[.int .i64 0, .string .empty, .string .empty] rfl (by kernel_rfl) (by kernel_rfl) (by kernel_rfl)
      (OpenSpec.preRow_of_cond 8 hx (by kernel_rfl) (fun k hk => by cases hk; kernel_rfl) (by kernel_rfl) (laid_met os _))) ?_
  intro W base args ds gs before hval hW _ hcond _ hL _ _
  exact back_contract H enc W base args ds gs before hval hW (hcond _ rfl) hL

theorem back_said : Rows.WordsBackUptoSaid :=
  OpenClaim.holds_of_cond 4 Tryd.f4 rfl rfl rfl rfl rfl rfl rfl ⟨rfl, rfl, rfl, rfl, rfl⟩ rfl rfl rfl rfl rfl (by kernel_rfl) Tryd.func4 (by kernel_rfl)
    (of_decide_eq_true (by kernel_rfl)) (by unfold Func.isWrapper; first | (rw [if_pos (by decide +kernel)]; kernel_rfl) | (rw [if_neg (by decide +kernel)]; exact ⟨rfl, rfl⟩))
    (fun os started H enc _ F => by rw [OpenClaim.pre_eq_preRow]; exact back_lifted os started H enc F)

theorem back_plain (f : FuncId) (fn : Func) (hf : Tryd.pinned.checked.prog.funcNamed "drowse/drowselaw02.WordsBack" = some f) (hfn : Tryd.pinned.checked.prog.funcs[f]? = some fn) :
    true = Tryd.pinned.checked.prog.looks [] ∧ ∀ (j : Nat) t, fn.params[j]? = some t → Tryd.pinned.checked.prog.wantsStandIn t = false := by
  obtain rfl : f = 4 := Option.some.inj ((show Tryd.prog.funcNamed "drowse/drowselaw02.WordsBack" = some 4 by kernel_rfl).symm.trans hf) |>.symm
  obtain rfl : fn = Tryd.f4 := (Option.some.inj (Tryd.func4.symm.trans hfn)).symm
  refine ⟨by kernel_rfl, fun j t ht => ?_⟩
  rw [Tryd.params4] at ht
  have hm := Array.mem_of_getElem? ht
  have h2 : t = 2 ∨ t = 9 := by simpa using hm
  rcases h2 with rfl | rfl
  · exact (show Tryd.prog.wantsStandIn 2 = false by kernel_rfl)
  · exact (show Tryd.prog.wantsStandIn 9 = false by kernel_rfl)

theorem wordsBack_holds : Rows.WordsBackUptoCardSaid :=
  Claim7.holds_tied_plain_at .later [] _ _ _ _ back_said (fun _ h => by cases h) (by kernel_rfl) (fun _ h => by cases h) wordsBackUpto_row_tie rfl ⟨rfl, rfl⟩ (by kernel_rfl) rfl back_plain (by kernel_rfl)

end Go.Proofs.YtoomeadlpgmaaaaDoor
