/- The program's lexer: a name or word, a number, a text, a sign at a source's beginning. -/
import Derived.Test.YtkbgnbcphmkjkaaDoorPa
import Derived.Test.YtkbgnbcphmkjkaaDoorLxE
import Derived.Test.YtkbgnbcphmkjkaaDoorUnquo
namespace Go.Proofs.YtkbgnbcphmkjkaaDoor
open Go.RowKit

theorem isWord_len {s : ByteArray} (h : isWord s = true) : s.size ≤ 30 := by
  have key : ∀ x ∈ wl, x.size ≤ 30 := by decide
  unfold isWord at h
  rw [List.any_eq_true] at h
  obtain ⟨x, hx, e⟩ := h
  rw [decide_eq_true_eq] at e
  rw [e]
  exact key x hx

/-- a long name is no word -/
theorem name_far {l : List UInt8} (g : 30 < runN l) : tkName l = ⟨35, 0, [], 0, 0⟩ := by
  have hw : isWord ⟨(l.take (runN l)).toArray⟩ = false := by
    cases h : isWord ⟨(l.take (runN l)).toArray⟩
    · rfl
    · have := isWord_len h
      rw [arr_size, List.length_take] at this
      have := runN_le l
      omega
  exact name_long hw g

theorem cut_front (s : ByteArray) (n : Nat) : s.extract 0 n = ⟨(s.data.toList.take n).toArray⟩ := by
  have := ext_cut s 0 n
  rwa [Nat.zero_add, List.drop_zero] at this

theorem run_one {s : ByteArray} (h : 0 < s.size) (hc : ld (by_ s 0) = true) : runN s.data.toList = 1 + runN (s.data.toList.drop 1) := by
  have := runN_step h hc
  rw [List.drop_zero] at this
  rw [this]
  exact Nat.add_comm _ _

set_option maxHeartbeats 4000000 in
theorem readname_any (s : ByteArray) (w : World) (hs : s.size ≤ 70368744177000) (h0 : 0 < s.size) (hc : letter (by_ s 0).toNat = true) :
    Calls Tryd.prog 28 #[.string s] w fun e w' => e = tkEnd (tkName s.data.toList) ∧ Below w.heap.size w w' := by
  have hn := runN_le s.data.toList
  rw [← size_len] at hn
  have X := cut_front s (runN s.data.toList)
  have T1 := hide (fun h => name_word (l := s.data.toList) h)
  have T2 := hide (fun g => name_far (l := s.data.toList) g)
  have T3 := hide (fun h g => name_name (l := s.data.toList) h g)
  have R1 := hide (run_one h0 (by unfold ld; rw [hc]; rfl))
  clear hc
  go_enter Tryd.func28, Tryd.ntmps28
  go_wp2
  go_loop [5] (fun n => ∃ k : Nat, k ≤ s.size ∧ n = .int .i64 k ∧ runN s.data.toList = k + runN (s.data.toList.drop k)) (fun n => s.size - (intOf n).toNat)
  case atStart => exact ⟨1, by omega, rfl, unhide R1⟩
  case round =>
    obtain ⟨k, hk, rfl, hr⟩ := hrel
    clear R1
    by_cases hlt : k < s.size
    · have hb := by_at s k hlt
      cases c : ld (by_ s k)
      · have E0 := hide (show runN s.data.toList = k by rw [hr, runN_stop hlt c]; rfl)
        have c' := c
        unfold ld at c'
        rw [Bool.or_eq_false_iff] at c'
        obtain ⟨c1, c2⟩ := c'
        clear hr c
        rw [unhide E0] at X T1 T2 T3 hn
        have HT0 := hide (TokAt.new w (.int .i64 0) (.string ⟨#[]⟩) (.int .i64 0) (.int .i64 0) (.int .i64 0))
        have HB0 := hide ((Below.refl w.heap.size w).alloc (Nat.le_refl _) (.cells #[.int .i64 0, .string ⟨#[]⟩, .int .i64 0, .int .i64 0, .int .i64 0] 28))
        clear E0
        by_cases h30 : 30 < k
        · have E : Hid (_ = tkEnd _) := hide (congrArg tkEnd (unhide T2 h30).symm)
          clear T1 T2 T3
          go_wp2_with (first | (go_at_call 27; refine (lexletter_any _ _).mono ?_; rintro e w' ⟨rfl, rfl⟩) | (go_at_call 29; refine (lexdigit_any _ _).mono ?_; rintro e w' ⟨rfl, rfl⟩) | fail)
          refine bodyPost_ret (by simp [results, Tryd.results28, go_sem]; try rfl) rfl ?_
          exact ⟨unhide E, unhide HB0⟩
        · go_wp2_with (first | (go_at_call 27; refine (lexletter_any _ _).mono ?_; rintro e w' ⟨rfl, rfl⟩) | (go_at_call 29; refine (lexdigit_any _ _).mono ?_; rintro e w' ⟨rfl, rfl⟩) | fail)
          clear X
          generalize (s.data.toList.take k) = W at *
          refine (word_any _ _).mono ?_
          rintro e w2 ⟨rfl, b2⟩
          have HT := hide ((unhide HT0).below b2)
          have HB := hide ((unhide HB0).trans (b2.mono (by rw [World.size_alloc]; omega)))
          obtain ⟨v0, v1, v2, v3, v4, c0, c1', c2', c3, c4⟩ := (unhide HT).cell
          have f := fun i => (unhide HT).froz i
          clear b2
          cases hw : isWord ⟨W.toArray⟩
          · have E : Hid (_ = tkEnd _) := hide (congrArg tkEnd (unhide T3 hw h30).symm)
            clear T1 T2 T3
            go_wp2
            change bodyPost _ _ _ _ _ (put5 _ w.heap.size (.int .i64 1) (.string ⟨W.toArray⟩) (.int .i64 0) (.int .i64 0) (.int .i64 0))
            obtain ⟨g0, g1, g2, g3, g4⟩ := put5_cells (unhide HT) (.int .i64 1) (.string ⟨W.toArray⟩) (.int .i64 0) (.int .i64 0) (.int .i64 0)
            have HF := hide (put5_below (unhide HB) (Nat.le_refl _) (.int .i64 1) (.string ⟨W.toArray⟩) (.int .i64 0) (.int .i64 0) (.int .i64 0))
            generalize put5 _ w.heap.size (.int .i64 1) (.string ⟨W.toArray⟩) (.int .i64 0) (.int .i64 0) (.int .i64 0) = wf at *
            refine bodyPost_ret (by simp [results, Tryd.results28, go_sem, g0, g1, g2, g3, g4]; try rfl) rfl ?_
            exact ⟨unhide E, unhide HF⟩
          · have E : Hid (_ = tkEnd _) := hide (congrArg tkEnd (unhide T1 hw).symm)
            clear T1 T2 T3
            go_wp2
            change bodyPost _ _ _ _ _ (put5 _ w.heap.size (.int .i64 2) (.string ⟨W.toArray⟩) (.int .i64 0) (.int .i64 0) (.int .i64 0))
            obtain ⟨g0, g1, g2, g3, g4⟩ := put5_cells (unhide HT) (.int .i64 2) (.string ⟨W.toArray⟩) (.int .i64 0) (.int .i64 0) (.int .i64 0)
            have HF := hide (put5_below (unhide HB) (Nat.le_refl _) (.int .i64 2) (.string ⟨W.toArray⟩) (.int .i64 0) (.int .i64 0) (.int .i64 0))
            generalize put5 _ w.heap.size (.int .i64 2) (.string ⟨W.toArray⟩) (.int .i64 0) (.int .i64 0) (.int .i64 0) = wf at *
            refine bodyPost_ret (by simp [results, Tryd.results28, go_sem, g0, g1, g2, g3, g4]; try rfl) rfl ?_
            exact ⟨unhide E, unhide HF⟩
      · have HN := hide (show runN s.data.toList = k + 1 + runN (s.data.toList.drop (k + 1)) by rw [hr, runN_step hlt c]; omega)
        have c' := c
        unfold ld at c'
        clear hr c T1 T2 T3 X
        cases c1 : letter (by_ s k).toNat
        · rw [c1, Bool.false_or] at c'
          go_wp2_with (first | (go_at_call 27; refine (lexletter_any _ _).mono ?_; rintro e w' ⟨rfl, rfl⟩) | (go_at_call 29; refine (lexdigit_any _ _).mono ?_; rintro e w' ⟨rfl, rfl⟩) | fail)
          go_round
          case rel => exact ⟨k + 1, by omega, by go_num, unhide HN⟩
          case measure => simp [intOf]; omega
        · clear c'
          go_wp2_with (first | (go_at_call 27; refine (lexletter_any _ _).mono ?_; rintro e w' ⟨rfl, rfl⟩) | (go_at_call 29; refine (lexdigit_any _ _).mono ?_; rintro e w' ⟨rfl, rfl⟩) | fail)
          go_round
          case rel => exact ⟨k + 1, by omega, by go_num, unhide HN⟩
          case measure => simp [intOf]; omega
    · have E0 := hide (show runN s.data.toList = k by rw [hr, runN_end hlt]; rfl)
      clear hr
      rw [unhide E0] at X T1 T2 T3 hn
      have HT0 := hide (TokAt.new w (.int .i64 0) (.string ⟨#[]⟩) (.int .i64 0) (.int .i64 0) (.int .i64 0))
      have HB0 := hide ((Below.refl w.heap.size w).alloc (Nat.le_refl _) (.cells #[.int .i64 0, .string ⟨#[]⟩, .int .i64 0, .int .i64 0, .int .i64 0] 28))
      clear E0
      by_cases h30 : 30 < k
      · have E : Hid (_ = tkEnd _) := hide (congrArg tkEnd (unhide T2 h30).symm)
        clear T1 T2 T3
        go_wp2_with (first | (go_at_call 27; refine (lexletter_any _ _).mono ?_; rintro e w' ⟨rfl, rfl⟩) | (go_at_call 29; refine (lexdigit_any _ _).mono ?_; rintro e w' ⟨rfl, rfl⟩) | fail)
        refine bodyPost_ret (by simp [results, Tryd.results28, go_sem]; try rfl) rfl ?_
        exact ⟨unhide E, unhide HB0⟩
      · go_wp2_with (first | (go_at_call 27; refine (lexletter_any _ _).mono ?_; rintro e w' ⟨rfl, rfl⟩) | (go_at_call 29; refine (lexdigit_any _ _).mono ?_; rintro e w' ⟨rfl, rfl⟩) | fail)
        clear X
        generalize (s.data.toList.take k) = W at *
        refine (word_any _ _).mono ?_
        rintro e w2 ⟨rfl, b2⟩
        have HT := hide ((unhide HT0).below b2)
        have HB := hide ((unhide HB0).trans (b2.mono (by rw [World.size_alloc]; omega)))
        obtain ⟨v0, v1, v2, v3, v4, c0, c1', c2', c3, c4⟩ := (unhide HT).cell
        have f := fun i => (unhide HT).froz i
        clear b2
        cases hw : isWord ⟨W.toArray⟩
        · have E : Hid (_ = tkEnd _) := hide (congrArg tkEnd (unhide T3 hw h30).symm)
          clear T1 T2 T3
          go_wp2
          change bodyPost _ _ _ _ _ (put5 _ w.heap.size (.int .i64 1) (.string ⟨W.toArray⟩) (.int .i64 0) (.int .i64 0) (.int .i64 0))
          obtain ⟨g0, g1, g2, g3, g4⟩ := put5_cells (unhide HT) (.int .i64 1) (.string ⟨W.toArray⟩) (.int .i64 0) (.int .i64 0) (.int .i64 0)
          have HF := hide (put5_below (unhide HB) (Nat.le_refl _) (.int .i64 1) (.string ⟨W.toArray⟩) (.int .i64 0) (.int .i64 0) (.int .i64 0))
          generalize put5 _ w.heap.size (.int .i64 1) (.string ⟨W.toArray⟩) (.int .i64 0) (.int .i64 0) (.int .i64 0) = wf at *
          refine bodyPost_ret (by simp [results, Tryd.results28, go_sem, g0, g1, g2, g3, g4]; try rfl) rfl ?_
          exact ⟨unhide E, unhide HF⟩
        · have E : Hid (_ = tkEnd _) := hide (congrArg tkEnd (unhide T1 hw).symm)
          clear T1 T2 T3
          go_wp2
          change bodyPost _ _ _ _ _ (put5 _ w.heap.size (.int .i64 2) (.string ⟨W.toArray⟩) (.int .i64 0) (.int .i64 0) (.int .i64 0))
          obtain ⟨g0, g1, g2, g3, g4⟩ := put5_cells (unhide HT) (.int .i64 2) (.string ⟨W.toArray⟩) (.int .i64 0) (.int .i64 0) (.int .i64 0)
          have HF := hide (put5_below (unhide HB) (Nat.le_refl _) (.int .i64 2) (.string ⟨W.toArray⟩) (.int .i64 0) (.int .i64 0) (.int .i64 0))
          generalize put5 _ w.heap.size (.int .i64 2) (.string ⟨W.toArray⟩) (.int .i64 0) (.int .i64 0) (.int .i64 0) = wf at *
          refine bodyPost_ret (by simp [results, Tryd.results28, go_sem, g0, g1, g2, g3, g4]; try rfl) rfl ?_
          exact ⟨unhide E, unhide HF⟩

set_option maxHeartbeats 2000000 in
theorem readtext_any (s : ByteArray) (w : World) (hs : s.size ≤ 70368744177000) :
    Calls Tryd.prog 31 #[.string s] w fun e w' => e = tkEnd (tkText s.data.toList) ∧ Below w.heap.size w w' := by
  go_enter Tryd.func31, Tryd.ntmps31
  go_wp2_with fail
  refine (unquote_any s _ hs).mono ?_
  rintro e w2 ⟨rfl, b2⟩
  have HT := hide ((TokAt.new w (.int .i64 0) (.string ⟨#[]⟩) (.int .i64 0) (.int .i64 0) (.int .i64 0)).below b2)
  have HB := hide (((Below.refl w.heap.size w).alloc (Nat.le_refl _) _).trans (b2.mono (by rw [World.size_alloc]; omega)))
  obtain ⟨v0, v1, v2, v3, v4, c0, c1, c2, c3, c4⟩ := (unhide HT).cell
  have f := fun i => (unhide HT).froz i
  clear b2
  unfold Uend
  cases hu : unquote s.data.toList with
  | none =>
    have E : Hid (_ = tkEnd _) := hide (congrArg tkEnd (text_no hu).symm)
    obtain ⟨u1, u2, u3⟩ := u_none hu
    rw [u1, u2, u3]
    clear hu u1 u2 u3
    go_wp2
    change bodyPost _ _ _ _ _ (put5 _ w.heap.size (.int .i64 0) (.string ⟨#[]⟩) (.int .i64 0) (.int .i64 0) (.int .i64 0))
    obtain ⟨g0, g1, g2, g3, g4⟩ := put5_cells (unhide HT) (.int .i64 0) (.string ⟨#[]⟩) (.int .i64 0) (.int .i64 0) (.int .i64 0)
    have HF := hide (put5_below (unhide HB) (Nat.le_refl _) (.int .i64 0) (.string ⟨#[]⟩) (.int .i64 0) (.int .i64 0) (.int .i64 0))
    generalize put5 _ w.heap.size (.int .i64 0) (.string ⟨#[]⟩) (.int .i64 0) (.int .i64 0) (.int .i64 0) = wf at *
    refine bodyPost_ret (by simp [results, Tryd.results31, go_sem, g0, g1, g2, g3, g4]; try rfl) rfl ?_
    exact ⟨unhide E, unhide HF⟩
  | some p =>
    obtain ⟨t, k⟩ := p
    have E : Hid (_ = tkEnd _) := hide (congrArg tkEnd (text_ok hu).symm)
    obtain ⟨u1, u2, u3⟩ := u_some hu
    rw [u1, u2, u3]
    clear hu u1 u2 u3
    go_wp2
    change bodyPost _ _ _ _ _ (put5 _ w.heap.size (.int .i64 4) (.string ⟨t.toArray⟩) (.int .i64 0) (.int .i64 0) (.int .i64 0))
    obtain ⟨g0, g1, g2, g3, g4⟩ := put5_cells (unhide HT) (.int .i64 4) (.string ⟨t.toArray⟩) (.int .i64 0) (.int .i64 0) (.int .i64 0)
    have HF := hide (put5_below (unhide HB) (Nat.le_refl _) (.int .i64 4) (.string ⟨t.toArray⟩) (.int .i64 0) (.int .i64 0) (.int .i64 0))
    generalize put5 _ w.heap.size (.int .i64 4) (.string ⟨t.toArray⟩) (.int .i64 0) (.int .i64 0) (.int .i64 0) = wf at *
    refine bodyPost_ret (by simp [results, Tryd.results31, go_sem, g0, g1, g2, g3, g4]; try rfl) rfl ?_
    exact ⟨unhide E, unhide HF⟩

end Go.Proofs.YtkbgnbcphmkjkaaDoor
