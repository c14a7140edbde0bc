/- The program's lexer: a number, a sign at a source's beginning. -/
import Derived.Test.YtkbgnbcphmkjkaaDoorPb
import Derived.Test.YtkbgnbcphmkjkaaDoorParse
namespace Go.Proofs.YtkbgnbcphmkjkaaDoor
open Go.RowKit

/-- how many digits stand ahead -/
def runD : List UInt8 → Nat
  | [] => 0
  | c :: r => if digit c.toNat then runD r + 1 else 0

theorem runD_step {s : ByteArray} {k : Nat} (h : k < s.size) (hc : digit (by_ s k).toNat = true) : runD (s.data.toList.drop k) = runD (s.data.toList.drop (k + 1)) + 1 := by
  rw [drop_by s k h, runD, if_pos hc]
theorem runD_stop {s : ByteArray} {k : Nat} (h : k < s.size) (hc : digit (by_ s k).toNat = false) : runD (s.data.toList.drop k) = 0 := by
  rw [drop_by s k h, runD, hc, if_neg (by decide)]
theorem runD_end {s : ByteArray} {k : Nat} (h : ¬ k < s.size) : runD (s.data.toList.drop k) = 0 := by rw [drop_end h]; rfl

theorem run_split (l : List UInt8) : runN l = runD l + runN (l.drop (runD l)) := by
  induction l with
  | nil => rfl
  | cons c r ih =>
    unfold runD
    cases h : digit c.toNat
    · rw [if_neg (by decide), Nat.zero_add, List.drop_zero]
    · rw [if_pos rfl, List.drop_succ_cons]
      show (if ld c then runN r + 1 else 0) = runD r + 1 + runN (r.drop (runD r))
      rw [if_pos (by unfold ld; rw [h, Bool.or_true])]
      omega

theorem numb_ok {l : List UInt8} {k : Nat} (hr : runN l = k) (h : pe (l.take k) = 0) : tkNum l = ⟨0, 3, [], pv (l.take k), k⟩ := by
  unfold tkNum
  rw [hr, if_pos h]
theorem numb_no {l : List UInt8} {k : Nat} (hr : runN l = k) (h : ¬ pe (l.take k) = 0) : tkNum l = ⟨33, 0, [], 0, 0⟩ := by
  unfold tkNum
  rw [hr, if_neg h]
  rfl

/-- a letter directly behind -/
theorem num_bad {s : ByteArray} {k : Nat} (h0 : digit (by_ s 0).toNat = true) (hk : k < s.size) (hd : runD s.data.toList = k) (hl : letter (by_ s k).toNat = true) : tkNum s.data.toList = ⟨33, 0, [], 0, 0⟩ := by
  have hr := run_split s.data.toList
  rw [hd, runN_step hk (by unfold ld; rw [hl]; rfl)] at hr
  have hf : isForm (s.data.toList.take (runN s.data.toList)) = false := by
    refine isForm_no fun hF => ?_
    obtain ⟨_, hall⟩ := formed_digits hF
    have e0 : s.data.toList = by_ s 0 :: s.data.toList.drop 1 := list_first s (by omega)
    have em : mag (s.data.toList.take (runN s.data.toList)) = s.data.toList.take (runN s.data.toList) := by
      have hp : runN s.data.toList = (runN s.data.toList - 1) + 1 := by omega
      rw [hp]
      generalize runN s.data.toList - 1 = m
      rw [e0, List.take_succ_cons]
      show (if (by_ s 0).toNat = 45 then _ else _) = _
      rw [if_neg]
      intro h45
      unfold digit at h0
      simp at h0
      omega
    rw [em] at hall
    have hm : by_ s k ∈ s.data.toList.take (runN s.data.toList) := by
      refine List.mem_of_getElem? (i := k) ?_
      rw [List.getElem?_take_of_lt (by omega), List.getElem?_eq_getElem (by rw [← size_len]; exact hk)]
      unfold by_
      rw [List.getD_eq_getElem?_getD, List.getElem?_eq_getElem (by rw [← size_len]; exact hk)]
      rfl
    have := digs_iff.1 (hall _ hm)
    unfold letter at hl
    simp at hl
    omega
  exact numb_no rfl (by rw [← (p_no hf).2]; decide)

set_option maxHeartbeats 4000000 in
theorem readnumber_any (s : ByteArray) (w : World) (hs : s.size ≤ 70368744177000) (h0 : 0 < s.size) (hc : digit (by_ s 0).toNat = true) (hV : Vars w) :
    Calls Tryd.prog 30 #[.string s] w fun e w' => e = tkEnd (tkNum s.data.toList) ∧ Below w.heap.size w w' := by
  have X := fun k => cut_front s k
  have T1' := hide (fun k => numb_ok (l := s.data.toList) (k := k))
  have T2' := hide (fun k => numb_no (l := s.data.toList) (k := k))
  have T3' := hide (fun k => num_bad (s := s) (k := k) hc)
  have R1 := hide (show runD s.data.toList = 1 + runD (s.data.toList.drop 1) by have := runD_step h0 hc; rw [List.drop_zero] at this; rw [this]; exact Nat.add_comm _ _)
  have HT0 := hide (TokAt.new w (.int .i64 0) (.string ⟨#[]⟩) (.int .i64 0) (.int .i64 0) (.int .i64 0))
  have HB0 := hide ((Below.refl w.heap.size w).alloc (Nat.le_refl _) (.cells #[.int .i64 0, .string ⟨#[]⟩, .int .i64 0, .int .i64 0, .int .i64 0] 28))
  have HV0 := hide (hV.below (unhide HB0))
  clear hc hV
  go_enter Tryd.func30, Tryd.ntmps30
  go_wp2
  go_loop [5] (fun n => ∃ k : Nat, k ≤ s.size ∧ n = .int .i64 k ∧ runD s.data.toList = k + runD (s.data.toList.drop k)) (fun n => s.size - (intOf n).toNat)
  case atStart => exact ⟨1, by omega, rfl, unhide R1⟩
  case round =>
    obtain ⟨k, hk, rfl, hr⟩ := hrel
    clear R1
    have X := X k
    have T1' := hide (unhide T1' k)
    have T2' := hide (unhide T2' k)
    have T3' := hide (unhide T3' k)
    by_cases hlt : k < s.size
    · have hb := by_at s k hlt
      cases c : digit (by_ s k).toNat
      · have hd : runD s.data.toList = k := by rw [hr, runD_stop hlt c]; rfl
        cases cl : letter (by_ s k).toNat
        · have hn : runN s.data.toList = k := by rw [run_split, hd, runN_stop hlt (by unfold ld; rw [c, cl]; rfl)]; rfl
          have T1 := hide (unhide T1' hn)
          have T2 := hide (unhide T2' hn)
          have T3 : True := trivial
          clear T1' T2' T3' hn hd hr
          go_wp2_with (first | (go_at_call 27; refine (lexletter_any _ _).mono ?_; rintro e w' ⟨rfl, rfl⟩) | (go_at_call 29; refine (lexdigit_any _ _).mono ?_; rintro e w' ⟨rfl, rfl⟩) | fail)
          clear X
          refine (parse_any _ _ (by rw [arr_size, List.length_take]; omega) (unhide HV0)).mono ?_
          rintro e w2 ⟨rfl, b2⟩
          rw [arr_list]
          have HT := hide ((unhide HT0).below b2)
          have HB := hide ((unhide HB0).trans (b2.mono (by rw [World.size_alloc]; omega)))
          obtain ⟨v0, v1, v2, v3, v4, c0, c1', c2', c3, c4⟩ := (unhide HT).cell
          have f := fun i => (unhide HT).froz i
          clear b2
          by_cases hp : pe (s.data.toList.take k) = 0
          · have qp : (pe (s.data.toList.take k) != 0) = false := by rw [hp]; rfl
            have E : Hid (_ = tkEnd _) := hide (congrArg tkEnd (unhide T1 hp).symm)
            clear T1 T2 T3
            generalize pv (s.data.toList.take k) = P at *
            generalize pe (s.data.toList.take k) = Q at *
            go_wp2_with (first | (go_at_call 27; refine (lexletter_any _ _).mono ?_; rintro e w' ⟨rfl, rfl⟩) | (go_at_call 29; refine (lexdigit_any _ _).mono ?_; rintro e w' ⟨rfl, rfl⟩) | fail)
            change bodyPost _ _ _ _ _ (put5 _ w.heap.size (.int .i64 3) (.string ⟨#[]⟩) (.int .i64 P) (.int .i64 0) (.int .i64 0))
            obtain ⟨g0, g1, g2, g3, g4⟩ := put5_cells (unhide HT) (.int .i64 3) (.string ⟨#[]⟩) (.int .i64 P) (.int .i64 0) (.int .i64 0)
            have HF := hide (put5_below (unhide HB) (Nat.le_refl _) (.int .i64 3) (.string ⟨#[]⟩) (.int .i64 P) (.int .i64 0) (.int .i64 0))
            generalize put5 _ w.heap.size (.int .i64 3) (.string ⟨#[]⟩) (.int .i64 P) (.int .i64 0) (.int .i64 0) = wf at *
            refine bodyPost_ret (by simp [results, Tryd.results30, go_sem, g0, g1, g2, g3, g4]; try rfl) rfl ?_
            exact ⟨unhide E, unhide HF⟩
          · have qp : (pe (s.data.toList.take k) != 0) = true := by simp; exact hp
            have E : Hid (_ = tkEnd _) := hide (congrArg tkEnd (unhide T2 hp).symm)
            clear T1 T2 T3
            generalize pv (s.data.toList.take k) = P at *
            generalize pe (s.data.toList.take k) = Q at *
            go_wp2_with (first | (go_at_call 27; refine (lexletter_any _ _).mono ?_; rintro e w' ⟨rfl, rfl⟩) | (go_at_call 29; refine (lexdigit_any _ _).mono ?_; rintro e w' ⟨rfl, rfl⟩) | fail)
            change bodyPost _ _ _ _ _ (put5 _ w.heap.size (.int .i64 0) (.string ⟨#[]⟩) (.int .i64 0) (.int .i64 0) (.int .i64 0))
            obtain ⟨g0, g1, g2, g3, g4⟩ := put5_cells (unhide HT) (.int .i64 0) (.string ⟨#[]⟩) (.int .i64 0) (.int .i64 0) (.int .i64 0)
            have HF := hide (put5_below (unhide HB) (Nat.le_refl _) (.int .i64 0) (.string ⟨#[]⟩) (.int .i64 0) (.int .i64 0) (.int .i64 0))
            generalize put5 _ w.heap.size (.int .i64 0) (.string ⟨#[]⟩) (.int .i64 0) (.int .i64 0) (.int .i64 0) = wf at *
            refine bodyPost_ret (by simp [results, Tryd.results30, go_sem, g0, g1, g2, g3, g4]; try rfl) rfl ?_
            exact ⟨unhide E, unhide HF⟩
        · have T3 := hide (unhide T3' hlt hd cl)
          have T1 : True := trivial
          have T2 : True := trivial
          clear T1' T2' T3' hd hr
          go_wp2_with (first | (go_at_call 27; refine (lexletter_any _ _).mono ?_; rintro e w' ⟨rfl, rfl⟩) | (go_at_call 29; refine (lexdigit_any _ _).mono ?_; rintro e w' ⟨rfl, rfl⟩) | fail)
          clear X
          refine (parse_any _ _ (by rw [arr_size, List.length_take]; omega) (unhide HV0)).mono ?_
          rintro e w2 ⟨rfl, b2⟩
          rw [arr_list]
          have HT := hide ((unhide HT0).below b2)
          have HB := hide ((unhide HB0).trans (b2.mono (by rw [World.size_alloc]; omega)))
          obtain ⟨v0, v1, v2, v3, v4, c0, c1', c2', c3, c4⟩ := (unhide HT).cell
          have f := fun i => (unhide HT).froz i
          clear b2
          by_cases hp : pe (s.data.toList.take k) = 0
          · have qp : (pe (s.data.toList.take k) != 0) = false := by rw [hp]; rfl
            have E : Hid (_ = tkEnd _) := hide (congrArg tkEnd (unhide T3).symm)
            clear T1 T2 T3
            generalize pv (s.data.toList.take k) = P at *
            generalize pe (s.data.toList.take k) = Q at *
            go_wp2_with (first | (go_at_call 27; refine (lexletter_any _ _).mono ?_; rintro e w' ⟨rfl, rfl⟩) | (go_at_call 29; refine (lexdigit_any _ _).mono ?_; rintro e w' ⟨rfl, rfl⟩) | fail)
            change bodyPost _ _ _ _ _ (put5 _ w.heap.size (.int .i64 0) (.string ⟨#[]⟩) (.int .i64 0) (.int .i64 0) (.int .i64 0))
            obtain ⟨g0, g1, g2, g3, g4⟩ := put5_cells (unhide HT) (.int .i64 0) (.string ⟨#[]⟩) (.int .i64 0) (.int .i64 0) (.int .i64 0)
            have HF := hide (put5_below (unhide HB) (Nat.le_refl _) (.int .i64 0) (.string ⟨#[]⟩) (.int .i64 0) (.int .i64 0) (.int .i64 0))
            generalize put5 _ w.heap.size (.int .i64 0) (.string ⟨#[]⟩) (.int .i64 0) (.int .i64 0) (.int .i64 0) = wf at *
            refine bodyPost_ret (by simp [results, Tryd.results30, go_sem, g0, g1, g2, g3, g4]; try rfl) rfl ?_
            exact ⟨unhide E, unhide HF⟩
          · have qp : (pe (s.data.toList.take k) != 0) = true := by simp; exact hp
            have E : Hid (_ = tkEnd _) := hide (congrArg tkEnd (unhide T3).symm)
            clear T1 T2 T3
            generalize pv (s.data.toList.take k) = P at *
            generalize pe (s.data.toList.take k) = Q at *
            go_wp2_with (first | (go_at_call 27; refine (lexletter_any _ _).mono ?_; rintro e w' ⟨rfl, rfl⟩) | (go_at_call 29; refine (lexdigit_any _ _).mono ?_; rintro e w' ⟨rfl, rfl⟩) | fail)
            change bodyPost _ _ _ _ _ (put5 _ w.heap.size (.int .i64 0) (.string ⟨#[]⟩) (.int .i64 0) (.int .i64 0) (.int .i64 0))
            obtain ⟨g0, g1, g2, g3, g4⟩ := put5_cells (unhide HT) (.int .i64 0) (.string ⟨#[]⟩) (.int .i64 0) (.int .i64 0) (.int .i64 0)
            have HF := hide (put5_below (unhide HB) (Nat.le_refl _) (.int .i64 0) (.string ⟨#[]⟩) (.int .i64 0) (.int .i64 0) (.int .i64 0))
            generalize put5 _ w.heap.size (.int .i64 0) (.string ⟨#[]⟩) (.int .i64 0) (.int .i64 0) (.int .i64 0) = wf at *
            refine bodyPost_ret (by simp [results, Tryd.results30, go_sem, g0, g1, g2, g3, g4]; try rfl) rfl ?_
            exact ⟨unhide E, unhide HF⟩
      · have HN := hide (show runD s.data.toList = k + 1 + runD (s.data.toList.drop (k + 1)) by rw [hr, runD_step hlt c]; omega)
        clear hr T1' T2' T3' X
        go_wp2_with (first | (go_at_call 27; refine (lexletter_any _ _).mono ?_; rintro e w' ⟨rfl, rfl⟩) | (go_at_call 29; refine (lexdigit_any _ _).mono ?_; rintro e w' ⟨rfl, rfl⟩) | fail)
        go_round
        case rel => exact ⟨k + 1, by omega, by go_num, unhide HN⟩
        case measure => simp [intOf]; omega
    · have hd : runD s.data.toList = k := by rw [hr, runD_end hlt]; rfl
      have hn : runN s.data.toList = k := by rw [run_split, hd, runN_end hlt]; rfl
      have T1 := hide (unhide T1' hn)
      have T2 := hide (unhide T2' hn)
      have T3 : True := trivial
      clear T1' T2' T3' hn hd hr
      go_wp2_with (first | (go_at_call 27; refine (lexletter_any _ _).mono ?_; rintro e w' ⟨rfl, rfl⟩) | (go_at_call 29; refine (lexdigit_any _ _).mono ?_; rintro e w' ⟨rfl, rfl⟩) | fail)
      clear X
      refine (parse_any _ _ (by rw [arr_size, List.length_take]; omega) (unhide HV0)).mono ?_
      rintro e w2 ⟨rfl, b2⟩
      rw [arr_list]
      have HT := hide ((unhide HT0).below b2)
      have HB := hide ((unhide HB0).trans (b2.mono (by rw [World.size_alloc]; omega)))
      obtain ⟨v0, v1, v2, v3, v4, c0, c1', c2', c3, c4⟩ := (unhide HT).cell
      have f := fun i => (unhide HT).froz i
      clear b2
      by_cases hp : pe (s.data.toList.take k) = 0
      · have qp : (pe (s.data.toList.take k) != 0) = false := by rw [hp]; rfl
        have E : Hid (_ = tkEnd _) := hide (congrArg tkEnd (unhide T1 hp).symm)
        clear T1 T2 T3
        generalize pv (s.data.toList.take k) = P at *
        generalize pe (s.data.toList.take k) = Q at *
        go_wp2_with (first | (go_at_call 27; refine (lexletter_any _ _).mono ?_; rintro e w' ⟨rfl, rfl⟩) | (go_at_call 29; refine (lexdigit_any _ _).mono ?_; rintro e w' ⟨rfl, rfl⟩) | fail)
        change bodyPost _ _ _ _ _ (put5 _ w.heap.size (.int .i64 3) (.string ⟨#[]⟩) (.int .i64 P) (.int .i64 0) (.int .i64 0))
        obtain ⟨g0, g1, g2, g3, g4⟩ := put5_cells (unhide HT) (.int .i64 3) (.string ⟨#[]⟩) (.int .i64 P) (.int .i64 0) (.int .i64 0)
        have HF := hide (put5_below (unhide HB) (Nat.le_refl _) (.int .i64 3) (.string ⟨#[]⟩) (.int .i64 P) (.int .i64 0) (.int .i64 0))
        generalize put5 _ w.heap.size (.int .i64 3) (.string ⟨#[]⟩) (.int .i64 P) (.int .i64 0) (.int .i64 0) = wf at *
        refine bodyPost_ret (by simp [results, Tryd.results30, go_sem, g0, g1, g2, g3, g4]; try rfl) rfl ?_
        exact ⟨unhide E, unhide HF⟩
      · have qp : (pe (s.data.toList.take k) != 0) = true := by simp; exact hp
        have E : Hid (_ = tkEnd _) := hide (congrArg tkEnd (unhide T2 hp).symm)
        clear T1 T2 T3
        generalize pv (s.data.toList.take k) = P at *
        generalize pe (s.data.toList.take k) = Q at *
        go_wp2_with (first | (go_at_call 27; refine (lexletter_any _ _).mono ?_; rintro e w' ⟨rfl, rfl⟩) | (go_at_call 29; refine (lexdigit_any _ _).mono ?_; rintro e w' ⟨rfl, rfl⟩) | fail)
        change bodyPost _ _ _ _ _ (put5 _ w.heap.size (.int .i64 0) (.string ⟨#[]⟩) (.int .i64 0) (.int .i64 0) (.int .i64 0))
        obtain ⟨g0, g1, g2, g3, g4⟩ := put5_cells (unhide HT) (.int .i64 0) (.string ⟨#[]⟩) (.int .i64 0) (.int .i64 0) (.int .i64 0)
        have HF := hide (put5_below (unhide HB) (Nat.le_refl _) (.int .i64 0) (.string ⟨#[]⟩) (.int .i64 0) (.int .i64 0) (.int .i64 0))
        generalize put5 _ w.heap.size (.int .i64 0) (.string ⟨#[]⟩) (.int .i64 0) (.int .i64 0) (.int .i64 0) = wf at *
        refine bodyPost_ret (by simp [results, Tryd.results30, go_sem, g0, g1, g2, g3, g4]; try rfl) rfl ?_
        exact ⟨unhide E, unhide HF⟩

theorem sign_hit {l g : List UInt8} (h : sgn l = some g) : tkSign l = ⟨0, sgk g, g, 0, g.length⟩ := by
  by_cases e : g = [59]
  · rw [e] at h ⊢; exact sign_semi h
  · rw [sign_other h e]; unfold sgk; rw [if_neg e]

theorem sign_end {s x : ByteArray} (h : sgn s.data.toList = some x.data.toList) : Ending.returned (.tuple #[.agg #[.int .i64 (sgk x.data.toList), .string x, .int .i64 0, .int .i64 0, .int .i64 0], .int .i64 (x.size : Int), .int .i64 0]) = tkEnd (tkSign s.data.toList) := by
  rw [sign_hit h]
  unfold tkEnd tokV
  simp only [← size_len]

set_option maxHeartbeats 4000000 in
theorem readsign_any (s : ByteArray) {B : Nat} (w : World) (hS : StrsAt w B sgl) (hB : B < w.heap.size) :
    Calls Tryd.prog 32 #[.string s, .slice (some ⟨B, 0, none⟩) 27 27] w fun e w' => e = tkEnd (tkSign s.data.toList) ∧ Below w.heap.size w w' := by
  have HT0 := hide (TokAt.new w (.int .i64 0) (.string ⟨#[]⟩) (.int .i64 0) (.int .i64 0) (.int .i64 0))
  have HB0 := hide ((Below.refl w.heap.size w).alloc (Nat.le_refl _) (.cells #[.int .i64 0, .string ⟨#[]⟩, .int .i64 0, .int .i64 0, .int .i64 0] 28))
  have HA := hide (hS.below hB (unhide HB0))
  clear hS
  go_enter Tryd.func32, Tryd.ntmps32
  go_wp2
  go_loop [11] (fun i => ∃ k : Nat, k ≤ 27 ∧ i = .int .i64 k ∧ ∀ j, j < k → (sgl.getD j []).isPrefixOf s.data.toList = false) (fun i => 27 - (intOf i).toNat)
  case atStart => exact ⟨0, by omega, rfl, fun j hj => by omega⟩
  case round =>
    obtain ⟨k, hk, rfl, hno⟩ := hrel
    by_cases hlt : k < 27
    · have hc := (unhide HA).cell k hlt
      have hxl := sx_list sgl k
      cases e : (sgl.getD k []).isPrefixOf s.data.toList
      · have HX := hide (show ∀ j, j < k + 1 → (sgl.getD j []).isPrefixOf s.data.toList = false from fun j hj => if h : j = k then h ▸ e else hno j (by omega))
        have qp : pfx (sx sgl k).data.toList s.data.toList = false := by rw [hxl]; exact e
        clear hno e hxl
        generalize sx sgl k = x at *
        go_wp2_with (first | (go_at_call 25; refine (hasprefix_any _ _ _).mono ?_; rintro e w' ⟨rfl, rfl⟩) | fail)
        go_round
        case rel => exact ⟨k + 1, by omega, by go_num, unhide HX⟩
        case measure => simp [intOf]; omega
      · have E := hide (sign_end (s := s) (x := sx sgl k) (by rw [hxl]; exact sgn_hit hlt hno e))
        have qp : pfx (sx sgl k).data.toList s.data.toList = true := by rw [hxl]; exact e
        clear hno e hxl
        generalize sx sgl k = x at *
        go_wp2_with (first | (go_at_call 25; refine (hasprefix_any _ _ _).mono ?_; rintro e w' ⟨rfl, rfl⟩) | (go_at_call 21; refine (signkind_any _ _).mono ?_; rintro e w' ⟨rfl, rfl⟩) | fail)
        refine bodyPost_ret (by simp [results, Tryd.results32, go_sem]; try rfl) rfl ?_
        exact ⟨unhide E, (Below.refl w.heap.size w).alloc (Nat.le_refl _) _⟩
    · have e27 : k = 27 := by omega
      subst e27
      have E : Hid (_ = tkEnd _) := hide (congrArg tkEnd (sign_no (sgn_none hno)).symm)
      clear hno
      go_wp2
      refine bodyPost_ret (by simp [results, Tryd.results32, go_sem]; try rfl) rfl ?_
      exact ⟨unhide E, unhide HB0⟩

end Go.Proofs.YtkbgnbcphmkjkaaDoor
