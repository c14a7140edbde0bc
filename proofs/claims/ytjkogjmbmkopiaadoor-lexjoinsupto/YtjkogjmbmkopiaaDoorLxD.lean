/- The document's lexer: numbers and texts. -/
import Derived.Test.YtjkogjmbmkopiaaDoorLxC
import Derived.Test.YtjkogjmbmkopiaaDoorRefParse
import Derived.Test.YtjkogjmbmkopiaaDoorRefUnq
namespace Go.Proofs.YtjkogjmbmkopiaaDoor
open Go.RowKit

theorem num_ok {l : List UInt8} (h : pe (l.take (runN l)) = 0) : tkNum l = ⟨0, 3, [], pv (l.take (runN l)), runN l⟩ := by unfold tkNum; rw [if_pos h]
theorem num_no {l : List UInt8} (h : ¬ pe (l.take (runN l)) = 0) : tkNum l = ⟨33, 0, [], 0, 0⟩ := by unfold tkNum; rw [if_neg h]; rfl
theorem text_ok {l t : List UInt8} {k : Nat} (h : unquote l = some (t, k)) : tkText l = ⟨0, 4, t, 0, k⟩ := by unfold tkText; rw [h]
theorem text_no {l : List UInt8} (h : unquote l = none) : tkText l = ⟨34, 0, [], 0, 0⟩ := by unfold tkText; rw [h]; rfl

set_option maxHeartbeats 1000000 in
theorem tnumber_any (s : ByteArray) (a : Nat) (w : World) (hs : s.size ≤ 70368744177000) (ha : a < s.size) :
    Calls Tryd.prog 37 #[.string s, .int .i64 (a : Int)] w fun e w' => e = tkEnd (tkNum (s.data.toList.drop a)) ∧ Below w.heap.size w w' := by
  have hn := runN_le (s.data.toList.drop a)
  rw [List.length_drop, ← size_len] at hn
  have X := ext_cut s a (runN (s.data.toList.drop a))
  have HW := hide (show ((s.data.toList.drop a).take (runN (s.data.toList.drop a))).length ≤ 70368744177000 by rw [List.length_take]; omega)
  have T1 := hide (fun h => num_ok (l := s.data.toList.drop a) h)
  have T2 := hide (fun h => num_no (l := s.data.toList.drop a) h)
  go_enter Tryd.func37, Tryd.ntmps37
  go_wp2_with fail
  refine (run_any s a _ (by omega) (by omega)).mono ?_
  rintro e w1 ⟨rfl, rfl⟩
  generalize runN (s.data.toList.drop a) = n at *
  generalize ((s.data.toList.drop a).take n) = W at *
  go_wp2_with fail
  refine (refparse_any ⟨W.toArray⟩ _ (by rw [arr_size]; have := unhide HW; omega)).mono ?_
  rintro e w2 ⟨rfl, rfl⟩
  rw [arr_list]
  by_cases h : pe W = 0
  · have E := hide (congrArg tkEnd (unhide T1 h).symm)
    have q : (pe W != 0) = false := by rw [h]; rfl
    clear T1 T2 h
    go_wp2
    go_returns
    exact ⟨unhide E, (Below.refl w.heap.size w).alloc (Nat.le_refl _) _⟩
  · have E := hide (congrArg tkEnd (unhide T2 h).symm)
    have q : (pe W != 0) = true := bne_iff_ne.2 h
    clear T1 T2 h
    go_wp2
    go_returns
    exact ⟨unhide E, (Below.refl w.heap.size w).alloc (Nat.le_refl _) _⟩

set_option maxHeartbeats 1000000 in
theorem ttext_any (s : ByteArray) (a : Nat) (w : World) (hs : s.size ≤ 70368744177000) (ha : a < s.size) :
    Calls Tryd.prog 38 #[.string s, .int .i64 (a : Int)] w fun e w' => e = tkEnd (tkText (s.data.toList.drop a)) ∧ Below w.heap.size w w' := by
  have EL := hide (ext_list s a)
  have HW := hide (show (s.extract a s.size).size ≤ 70368744177000 by rw [ext_size s a (by omega)]; omega)
  go_enter Tryd.func38, Tryd.ntmps38
  go_wp2_with fail
  refine (refunquote_any (s.extract a s.size) _ (unhide HW)).mono ?_
  rintro e w2 ⟨rfl, b2⟩
  unfold Uend
  have HT := hide ((TokAt.new w (.int .i64 0) (.string ⟨#[]⟩) (.int .i64 0) (.int .i64 0) (.int .i64 0)).below b2)
  have HB := hide (((Below.refl w.heap.size w).alloc (Nat.le_refl _) _).trans (b2.mono (by rw [World.size_alloc]; omega)))
  obtain ⟨v0, v1, v2, v3, v4, c0, c1, c2, c3, c4⟩ := (unhide HT).cell
  have f := fun i => (unhide HT).froz i
  clear b2
  cases hu : unquote (s.extract a s.size).data.toList with
  | none =>
    obtain ⟨u1, u2, u3⟩ := u_none hu
    rw [u1, u2, u3]
    rw [unhide EL] at hu
    have E := hide (congrArg tkEnd (text_no hu).symm)
    clear u1 u2 u3 hu EL HW
    go_wp2
    change bodyPost _ _ _ _ _ (put5 _ w.heap.size (.int .i64 0) (.string ⟨#[]⟩) (.int .i64 0) (.int .i64 0) (.int .i64 0))
    obtain ⟨g0, g1, g2, g3, g4⟩ := put5_cells (unhide HT) (.int .i64 0) (.string ⟨#[]⟩) (.int .i64 0) (.int .i64 0) (.int .i64 0)
    have HF := hide (put5_below (unhide HB) (Nat.le_refl _) (.int .i64 0) (.string ⟨#[]⟩) (.int .i64 0) (.int .i64 0) (.int .i64 0))
    generalize put5 _ w.heap.size (.int .i64 0) (.string ⟨#[]⟩) (.int .i64 0) (.int .i64 0) (.int .i64 0) = wf at *
    refine bodyPost_ret (by simp [results, Tryd.results38, go_sem, g0, g1, g2, g3, g4]; try rfl) rfl ?_
    exact ⟨unhide E, unhide HF⟩
  | some p =>
    obtain ⟨t, k⟩ := p
    obtain ⟨u1, u2, u3⟩ := u_some hu
    rw [u1, u2, u3]
    rw [unhide EL] at hu
    have E := hide (congrArg tkEnd (text_ok hu).symm)
    clear u1 u2 u3 hu EL HW
    go_wp2
    change bodyPost _ _ _ _ _ (put5 _ w.heap.size (.int .i64 4) (.string ⟨t.toArray⟩) (.int .i64 0) (.int .i64 0) (.int .i64 0))
    obtain ⟨g0, g1, g2, g3, g4⟩ := put5_cells (unhide HT) (.int .i64 4) (.string ⟨t.toArray⟩) (.int .i64 0) (.int .i64 0) (.int .i64 0)
    have HF := hide (put5_below (unhide HB) (Nat.le_refl _) (.int .i64 4) (.string ⟨t.toArray⟩) (.int .i64 0) (.int .i64 0) (.int .i64 0))
    generalize put5 _ w.heap.size (.int .i64 4) (.string ⟨t.toArray⟩) (.int .i64 0) (.int .i64 0) (.int .i64 0) = wf at *
    refine bodyPost_ret (by simp [results, Tryd.results38, go_sem, g0, g1, g2, g3, g4]; try rfl) rfl ?_
    exact ⟨unhide E, unhide HF⟩

end Go.Proofs.YtjkogjmbmkopiaaDoor
