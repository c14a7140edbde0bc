/- The document's lexer: the token at a place. -/
import Derived.Test.YtjkogjmbmkopiaaDoorLxD
namespace Go.Proofs.YtjkogjmbmkopiaaDoor
open Go.RowKit

theorem tk_letter {s : ByteArray} {a : Nat} (h : a < s.size) (c : letter (by_ s a).toNat = true) : tkName (s.data.toList.drop a) = tk (s.data.toList.drop a) := by
  rw [drop_by s a h, tk, if_pos c]
theorem tk_digit {s : ByteArray} {a : Nat} (h : a < s.size) (c : letter (by_ s a).toNat = false) (d : digit (by_ s a).toNat = true) : tkNum (s.data.toList.drop a) = tk (s.data.toList.drop a) := by
  rw [drop_by s a h, tk, c, if_neg (by decide), if_pos d]
theorem tk_quote {s : ByteArray} {a : Nat} (h : a < s.size) (c : letter (by_ s a).toNat = false) (d : digit (by_ s a).toNat = false) (q : (by_ s a).toNat = 34) : tkText (s.data.toList.drop a) = tk (s.data.toList.drop a) := by
  rw [drop_by s a h, tk, c, if_neg (by decide), d, if_neg (by decide), if_pos q]
theorem tk_sign {s : ByteArray} {a : Nat} (h : a < s.size) (c : letter (by_ s a).toNat = false) (d : digit (by_ s a).toNat = false) (q : ¬ (by_ s a).toNat = 34) : tkSign (s.data.toList.drop a) = tk (s.data.toList.drop a) := by
  rw [drop_by s a h, tk, c, if_neg (by decide), d, if_neg (by decide), if_neg q]

theorem tkEnd_def (x : Tk) : tkEnd x = .returned (.tuple #[.agg #[.int .i64 x.k, .string ⟨x.t.toArray⟩, .int .i64 x.n, .int .i64 0, .int .i64 0], .int .i64 (x.len : Int), .int .i64 x.e]) := rfl

set_option maxHeartbeats 2000000 in
theorem token_letter (s : ByteArray) (a : Nat) (w : World) (hs : s.size ≤ 70368744177000) (ha : a < s.size) (c : letter (by_ s a).toNat = true) :
    Calls Tryd.prog 22 #[.string s, .int .i64 (a : Int)] w fun e w' => e = tkEnd (tk (s.data.toList.drop a)) ∧ Below w.heap.size w w' := by
  have hb := by_at s a ha
  have EQ := hide (tk_letter ha c)
  go_enter Tryd.func22, Tryd.ntmps22
  go_wp2_with (first | (go_at_call 34; refine (refletter_any _ _).mono ?_; rintro e w' ⟨rfl, rfl⟩) | (go_at_call 35; refine (refdigit_any _ _).mono ?_; rintro e w' ⟨rfl, rfl⟩))
  refine (tname_any s a _ (by omega) ha).mono ?_
  rintro e w2 ⟨rfl, b2⟩
  rw [unhide EQ]
  generalize hx : tk (s.data.toList.drop a) = x
  have HX := hide hx
  clear hx EQ
  have HT := hide ((TokAt.new w (.int .i64 0) (.string ⟨#[]⟩) (.int .i64 0) (.int .i64 0) (.int .i64 0)).below b2)
  have HB := hide (((Below.refl w.heap.size w).alloc (Nat.le_refl _) _).trans (b2.mono (by rw [World.size_alloc]; omega)))
  obtain ⟨v0, v1, v2, v3, v4, c0, c1, c2, c3, c4⟩ := (unhide HT).cell
  have f := fun i => (unhide HT).froz i
  clear b2
  rw [tkEnd_def]
  go_wp2
  change bodyPost _ _ _ _ _ (put5 _ w.heap.size (.int .i64 x.k) (.string ⟨x.t.toArray⟩) (.int .i64 x.n) (.int .i64 0) (.int .i64 0))
  obtain ⟨g0, g1, g2, g3, g4⟩ := put5_cells (unhide HT) (.int .i64 x.k) (.string ⟨x.t.toArray⟩) (.int .i64 x.n) (.int .i64 0) (.int .i64 0)
  have HF := hide (put5_below (unhide HB) (Nat.le_refl _) (.int .i64 x.k) (.string ⟨x.t.toArray⟩) (.int .i64 x.n) (.int .i64 0) (.int .i64 0))
  generalize put5 _ w.heap.size (.int .i64 x.k) (.string ⟨x.t.toArray⟩) (.int .i64 x.n) (.int .i64 0) (.int .i64 0) = wf at *
  refine bodyPost_ret (by simp [results, Tryd.results22, go_sem, g0, g1, g2, g3, g4]; try rfl) rfl ?_
  exact ⟨by rw [unhide HX]; rfl, unhide HF⟩

set_option maxHeartbeats 2000000 in
theorem token_digit (s : ByteArray) (a : Nat) (w : World) (hs : s.size ≤ 70368744177000) (ha : a < s.size) (c : letter (by_ s a).toNat = false) (d : digit (by_ s a).toNat = true) :
    Calls Tryd.prog 22 #[.string s, .int .i64 (a : Int)] w fun e w' => e = tkEnd (tk (s.data.toList.drop a)) ∧ Below w.heap.size w w' := by
  have hb := by_at s a ha
  have EQ := hide (tk_digit ha c d)
  go_enter Tryd.func22, Tryd.ntmps22
  go_wp2_with (first | (go_at_call 34; refine (refletter_any _ _).mono ?_; rintro e w' ⟨rfl, rfl⟩) | (go_at_call 35; refine (refdigit_any _ _).mono ?_; rintro e w' ⟨rfl, rfl⟩))
  refine (tnumber_any s a _ (hs) ha).mono ?_
  rintro e w2 ⟨rfl, b2⟩
  rw [unhide EQ]
  generalize hx : tk (s.data.toList.drop a) = x
  have HX := hide hx
  clear hx EQ
  have HT := hide ((TokAt.new w (.int .i64 0) (.string ⟨#[]⟩) (.int .i64 0) (.int .i64 0) (.int .i64 0)).below b2)
  have HB := hide (((Below.refl w.heap.size w).alloc (Nat.le_refl _) _).trans (b2.mono (by rw [World.size_alloc]; omega)))
  obtain ⟨v0, v1, v2, v3, v4, c0, c1, c2, c3, c4⟩ := (unhide HT).cell
  have f := fun i => (unhide HT).froz i
  clear b2
  rw [tkEnd_def]
  go_wp2
  change bodyPost _ _ _ _ _ (put5 _ w.heap.size (.int .i64 x.k) (.string ⟨x.t.toArray⟩) (.int .i64 x.n) (.int .i64 0) (.int .i64 0))
  obtain ⟨g0, g1, g2, g3, g4⟩ := put5_cells (unhide HT) (.int .i64 x.k) (.string ⟨x.t.toArray⟩) (.int .i64 x.n) (.int .i64 0) (.int .i64 0)
  have HF := hide (put5_below (unhide HB) (Nat.le_refl _) (.int .i64 x.k) (.string ⟨x.t.toArray⟩) (.int .i64 x.n) (.int .i64 0) (.int .i64 0))
  generalize put5 _ w.heap.size (.int .i64 x.k) (.string ⟨x.t.toArray⟩) (.int .i64 x.n) (.int .i64 0) (.int .i64 0) = wf at *
  refine bodyPost_ret (by simp [results, Tryd.results22, go_sem, g0, g1, g2, g3, g4]; try rfl) rfl ?_
  exact ⟨by rw [unhide HX]; rfl, unhide HF⟩

set_option maxHeartbeats 2000000 in
theorem token_quote (s : ByteArray) (a : Nat) (w : World) (hs : s.size ≤ 70368744177000) (ha : a < s.size) (c : letter (by_ s a).toNat = false) (d : digit (by_ s a).toNat = false) (q : (by_ s a).toNat = 34) :
    Calls Tryd.prog 22 #[.string s, .int .i64 (a : Int)] w fun e w' => e = tkEnd (tk (s.data.toList.drop a)) ∧ Below w.heap.size w w' := by
  have hb := by_at s a ha
  have EQ := hide (tk_quote ha c d q)
  have q1 : (((by_ s a).toNat : Int) == 34) = true := by simp; omega
  clear q
  go_enter Tryd.func22, Tryd.ntmps22
  go_wp2_with (first | (go_at_call 34; refine (refletter_any _ _).mono ?_; rintro e w' ⟨rfl, rfl⟩) | (go_at_call 35; refine (refdigit_any _ _).mono ?_; rintro e w' ⟨rfl, rfl⟩))
  refine (ttext_any s a _ (hs) ha).mono ?_
  rintro e w2 ⟨rfl, b2⟩
  rw [unhide EQ]
  generalize hx : tk (s.data.toList.drop a) = x
  have HX := hide hx
  clear hx EQ
  have HT := hide ((TokAt.new w (.int .i64 0) (.string ⟨#[]⟩) (.int .i64 0) (.int .i64 0) (.int .i64 0)).below b2)
  have HB := hide (((Below.refl w.heap.size w).alloc (Nat.le_refl _) _).trans (b2.mono (by rw [World.size_alloc]; omega)))
  obtain ⟨v0, v1, v2, v3, v4, c0, c1, c2, c3, c4⟩ := (unhide HT).cell
  have f := fun i => (unhide HT).froz i
  clear b2
  rw [tkEnd_def]
  go_wp2
  change bodyPost _ _ _ _ _ (put5 _ w.heap.size (.int .i64 x.k) (.string ⟨x.t.toArray⟩) (.int .i64 x.n) (.int .i64 0) (.int .i64 0))
  obtain ⟨g0, g1, g2, g3, g4⟩ := put5_cells (unhide HT) (.int .i64 x.k) (.string ⟨x.t.toArray⟩) (.int .i64 x.n) (.int .i64 0) (.int .i64 0)
  have HF := hide (put5_below (unhide HB) (Nat.le_refl _) (.int .i64 x.k) (.string ⟨x.t.toArray⟩) (.int .i64 x.n) (.int .i64 0) (.int .i64 0))
  generalize put5 _ w.heap.size (.int .i64 x.k) (.string ⟨x.t.toArray⟩) (.int .i64 x.n) (.int .i64 0) (.int .i64 0) = wf at *
  refine bodyPost_ret (by simp [results, Tryd.results22, go_sem, g0, g1, g2, g3, g4]; try rfl) rfl ?_
  exact ⟨by rw [unhide HX]; rfl, unhide HF⟩

theorem sx_list (xs : List (List UInt8)) (j : Nat) : (sx xs j).data.toList = xs.getD j [] := arr_list _
theorem sx_size (xs : List (List UInt8)) (j : Nat) : (sx xs j).size = (xs.getD j []).length := arr_size _

theorem sgl_at (k : Nat) (h : k < 27) : 1 ≤ (sgl.getD k []).length ∧ (sgl.getD k []).length ≤ 2 := by
  have key : ∀ m : Fin 27, 1 ≤ (sgl.getD m.val []).length ∧ (sgl.getD m.val []).length ≤ 2 := by decide
  exact key ⟨k, h⟩

theorem pre_iff (g l : List UInt8) : g.isPrefixOf l = decide (g.length ≤ l.length ∧ l.take g.length = g) := by
  rw [Bool.eq_iff_iff, decide_eq_true_eq, List.isPrefixOf_iff_prefix]
  constructor
  · intro h
    exact ⟨h.length_le, (List.prefix_iff_eq_take.1 h).symm⟩
  · rintro ⟨_, h⟩
    exact List.prefix_iff_eq_take.2 h.symm

theorem sgn_hit {l : List UInt8} {k : Nat} (hk : k < 27) (hno : ∀ j, j < k → (sgl.getD j []).isPrefixOf l = false) (h : (sgl.getD k []).isPrefixOf l = true) : sgn l = some (sgl.getD k []) := by
  unfold sgn
  rw [List.find?_eq_some_iff_getElem]
  refine ⟨h, k, hk, ?_, ?_⟩
  · rw [List.getD_eq_getElem?_getD, List.getElem?_eq_getElem (show k < sgl.length from hk)]; rfl
  · intro j hj
    have := hno j hj
    rw [List.getD_eq_getElem?_getD, List.getElem?_eq_getElem (show j < sgl.length from Nat.lt_trans hj hk)] at this
    simpa using this
theorem sgn_none {l : List UInt8} (hno : ∀ j, j < 27 → (sgl.getD j []).isPrefixOf l = false) : sgn l = none := by
  unfold sgn
  rw [List.find?_eq_none]
  intro g hg
  obtain ⟨j, hj, rfl⟩ := List.getElem_of_mem hg
  have h1 := hno j hj
  rw [List.getD_eq_getElem?_getD, List.getElem?_eq_getElem hj] at h1
  intro h2
  have h3 : sgl[j].isPrefixOf l = false := h1
  rw [h3] at h2
  cases h2

theorem TokAt.drewN {w : World} {B : Nat} (h : TokAt w B) (m : Nat) : TokAt (w.drewN m) B := ⟨h.blk⟩
theorem below_dn {B : Nat} {a w : World} (h : Below B a w) (n : Nat) : Below B a (w.drewN n) := ⟨h.os, h.tape, h.output, h.size, h.block⟩

theorem sign_semi {l : List UInt8} (h : sgn l = some [59]) : tkSign l = ⟨0, 6, [59], 0, 1⟩ := by unfold tkSign; rw [h]; rfl
theorem sign_other {l g : List UInt8} (h : sgn l = some g) (hg : ¬ g = [59]) : tkSign l = ⟨0, 5, g, 0, g.length⟩ := by unfold tkSign; rw [h]; simp only; rw [if_neg hg]
theorem sign_no {l : List UInt8} (h : sgn l = none) : tkSign l = ⟨32, 0, [], 0, 0⟩ := by unfold tkSign; rw [h]; rfl

theorem sx_semi (k : Nat) : ((sx sgl k).toList == [59]) = decide (sgl.getD k [] = [59]) := by
  rw [ByteArray.toList_eq, sx_list, Bool.eq_iff_iff, beq_iff_eq, decide_eq_true_eq]

/-- the sign at place k stands there just if the bytes are the same -/
theorem sign_here {s : ByteArray} {a k : Nat} (h : a + (sx sgl k).size ≤ s.size) : ((s.extract a (a + (sx sgl k).size)).toList == (sx sgl k).toList) = (sgl.getD k []).isPrefixOf (s.data.toList.drop a) := by
  rw [ByteArray.toList_eq, ByteArray.toList_eq, ext_cut_list, sx_list, sx_size, pre_iff, Bool.eq_iff_iff, beq_iff_eq, decide_eq_true_eq]
  rw [sx_size] at h
  constructor
  · intro e
    exact ⟨by rw [List.length_drop, ← size_len]; omega, e⟩
  · rintro ⟨_, e⟩
    exact e
theorem sign_far {s : ByteArray} {a k : Nat} (h : ¬ a + (sx sgl k).size ≤ s.size) (ha : a ≤ s.size) : (sgl.getD k []).isPrefixOf (s.data.toList.drop a) = false := by
  rw [pre_iff]
  rw [sx_size] at h
  exact decide_eq_false (fun e => by have := e.1; rw [List.length_drop, ← size_len] at this; omega)

set_option maxHeartbeats 4000000 in
theorem token_sign (s : ByteArray) (a : Nat) (w : World) (hs : s.size ≤ 70368744177000) (ha : a < s.size) (c : letter (by_ s a).toNat = false) (d : digit (by_ s a).toNat = false) (q : ¬ (by_ s a).toNat = 34) :
    Calls Tryd.prog 22 #[.string s, .int .i64 (a : Int)] w fun e w' => e = tkEnd (tk (s.data.toList.drop a)) ∧ Below w.heap.size w w' := by
  have hb := by_at s a ha
  have EQ := hide (tk_sign ha c d q)
  have q1 : (((by_ s a).toNat : Int) == 34) = false := by simp; omega
  clear q
  go_enter Tryd.func22, Tryd.ntmps22
  go_wp2_with (first | (go_at_call 34; refine (refletter_any _ _).mono ?_; rintro e w' ⟨rfl, rfl⟩) | (go_at_call 35; refine (refdigit_any _ _).mono ?_; rintro e w' ⟨rfl, rfl⟩))
  refine (refsigns_any _).mono ?_
  rintro e w2 ⟨rfl, e2⟩
  have HA := hide (show StrsAt w2 (w.heap.size + 1) sgl by rw [e2]; have h := strsAt_new (w.alloc (.cells #[.int .i64 0, .string ⟨#[]⟩, .int .i64 0, .int .i64 0, .int .i64 0] 42)) 9 sgl; rw [World.size_alloc] at h; exact h)
  have b2 : Below (w.alloc (.cells #[.int .i64 0, .string ⟨#[]⟩, .int .i64 0, .int .i64 0, .int .i64 0] 42)).heap.size (w.alloc (.cells #[.int .i64 0, .string ⟨#[]⟩, .int .i64 0, .int .i64 0, .int .i64 0] 42)) w2 := by rw [e2]; exact (Below.refl _ _).alloc (Nat.le_refl _) _
  have HT := hide ((TokAt.new w (.int .i64 0) (.string ⟨#[]⟩) (.int .i64 0) (.int .i64 0) (.int .i64 0)).below b2)
  have HB := hide (((Below.refl w.heap.size w).alloc (Nat.le_refl _) _).trans (b2.mono (by rw [World.size_alloc]; omega)))
  clear b2 e2 c d hb q1
  go_wp2
  go_loopw [10] (fun i wr => ∃ k m : Nat, k ≤ 27 ∧ i = .int .i64 k ∧ wr = w2.drewN m ∧ ∀ j, j < k → (sgl.getD j []).isPrefixOf (s.data.toList.drop a) = false) (fun i _ => 27 - (intOf i).toNat)
  case atStart => exact ⟨0, 0, by omega, rfl, rfl, fun j hj => by omega⟩
  case round =>
    obtain ⟨k, m, hk, rfl, hw, hno⟩ := hrel
    by_cases hlt : k < 27
    · have hc : wr.cell? ⟨w.heap.size + 1, k, none⟩ = some (.string (sx sgl k)) := by rw [hw]; exact (unhide HA).cell k hlt
      have HZ := hide (sx_size sgl k)
      have hz2 : 1 ≤ (sx sgl k).size ∧ (sx sgl k).size ≤ 2 := by rw [unhide HZ]; exact sgl_at k hlt
      have HTr := hide (show TokAt wr w.heap.size by rw [hw]; exact (unhide HT).drewN m)
      have HBr := hide (show Below w.heap.size w wr by rw [hw]; exact below_dn (unhide HB) m)
      obtain ⟨v0, v1, v2, v3, v4, c0, c1, c2, c3, c4⟩ := (unhide HTr).cell
      have f := fun i => (unhide HTr).froz i
      by_cases hfit : a + (sx sgl k).size ≤ s.size
      · have hq := sign_here hfit
        have hfd : decide ((a : Int) + ((sx sgl k).size : Int) ≤ (s.size : Int)) = true := decide_eq_true (by omega)
        cases hp : (sgl.getD k []).isPrefixOf (s.data.toList.drop a)
        · rw [hp] at hq
          have HN := hide (show ∀ j, j < k + 1 → (sgl.getD j []).isPrefixOf (s.data.toList.drop a) = false from fun j hj => if h : j = k then h ▸ hp else hno j (by omega))
          have HW := hide hw
          clear hno hw hp
          go_wp2
          go_quiet (fail)
          go_wp2
          go_roundw
          case rel => exact ⟨k + 1, m + nq, by omega, by go_num, by rw [unhide HW, World.drewN_drewN], unhide HN⟩
          case measure => simp [intOf]; omega
        · rw [hp] at hq
          have SH := hide (sgn_hit hlt hno hp)
          have h59 := sx_semi k
          clear hno hw hp
          by_cases hs9 : sgl.getD k [] = [59]
          · rw [decide_eq_true hs9] at h59
            have SS := unhide SH
            rw [hs9] at SS
            have E := hide (congrArg tkEnd ((sign_semi SS).symm.trans (unhide EQ)))
            have HZ1 := hide (show ((sx sgl k).size : Int) = 1 by rw [unhide HZ, hs9]; rfl)
            clear hs9 SH SS HZ
            go_wp2
            go_quiet (fail)
            have HT5 := hide ((unhide HTr).drewN nq)
            have HB5 := hide (below_dn (unhide HBr) nq)
            go_wp2
            change bodyPost _ _ _ _ _ (put5 (wr.drewN nq) w.heap.size (.int .i64 6) (.string ⟨#[59]⟩) (.int .i64 0) (.int .i64 0) (.int .i64 0))
            obtain ⟨g0, g1, g2, g3, g4⟩ := put5_cells (unhide HT5) (.int .i64 6) (.string ⟨#[59]⟩) (.int .i64 0) (.int .i64 0) (.int .i64 0)
            have HF := hide (put5_below (unhide HB5) (Nat.le_refl _) (.int .i64 6) (.string ⟨#[59]⟩) (.int .i64 0) (.int .i64 0) (.int .i64 0))
            generalize put5 (wr.drewN nq) w.heap.size (.int .i64 6) (.string ⟨#[59]⟩) (.int .i64 0) (.int .i64 0) (.int .i64 0) = wf at *
            refine bodyPost_ret (by simp [results, Tryd.results22, go_sem, g0, g1, g2, g3, g4]; try rfl) rfl ?_
            exact ⟨by rw [unhide HZ1]; exact unhide E, unhide HF⟩
          · rw [decide_eq_false hs9] at h59
            have E := hide (congrArg tkEnd ((sign_other (unhide SH) hs9).symm.trans (unhide EQ)))
            clear hs9 SH
            go_wp2
            go_quiet (fail)
            have HT5 := hide ((unhide HTr).drewN nq)
            have HB5 := hide (below_dn (unhide HBr) nq)
            go_wp2
            change bodyPost _ _ _ _ _ (put5 (wr.drewN nq) w.heap.size (.int .i64 5) (.string (sx sgl k)) (.int .i64 0) (.int .i64 0) (.int .i64 0))
            obtain ⟨g0, g1, g2, g3, g4⟩ := put5_cells (unhide HT5) (.int .i64 5) (.string (sx sgl k)) (.int .i64 0) (.int .i64 0) (.int .i64 0)
            have HF := hide (put5_below (unhide HB5) (Nat.le_refl _) (.int .i64 5) (.string (sx sgl k)) (.int .i64 0) (.int .i64 0) (.int .i64 0))
            generalize put5 (wr.drewN nq) w.heap.size (.int .i64 5) (.string (sx sgl k)) (.int .i64 0) (.int .i64 0) (.int .i64 0) = wf at *
            refine bodyPost_ret (by simp [results, Tryd.results22, go_sem, g0, g1, g2, g3, g4]; try rfl) rfl ?_
            exact ⟨by rw [unhide HZ]; exact unhide E, unhide HF⟩
      · have HN := hide (show ∀ j, j < k + 1 → (sgl.getD j []).isPrefixOf (s.data.toList.drop a) = false from fun j hj => if h : j = k then h ▸ sign_far hfit (by omega) else hno j (by omega))
        have HW := hide hw
        have hfd : decide ((a : Int) + ((sx sgl k).size : Int) ≤ (s.size : Int)) = false := decide_eq_false (by omega)
        clear hno hw
        go_wp2
        go_quiet (fail)
        go_wp2
        go_roundw
        case rel => exact ⟨k + 1, m + nq, by omega, by go_num, by rw [unhide HW, World.drewN_drewN], unhide HN⟩
        case measure => simp [intOf]; omega
    · have e : k = 27 := by omega
      subst e
      have E := hide (congrArg tkEnd ((sign_no (sgn_none hno)).symm.trans (unhide EQ)))
      have HT5 := hide (show TokAt wr w.heap.size by rw [hw]; exact (unhide HT).drewN m)
      have HB5 := hide (show Below w.heap.size w wr by rw [hw]; exact below_dn (unhide HB) m)
      obtain ⟨v0, v1, v2, v3, v4, c0, c1, c2, c3, c4⟩ := (unhide HT5).cell
      have f := fun i => (unhide HT5).froz i
      clear hno hw
      go_wp2
      change bodyPost _ _ _ _ _ (put5 wr w.heap.size (.int .i64 0) (.string ⟨#[]⟩) (.int .i64 0) (.int .i64 0) (.int .i64 0))
      obtain ⟨g0, g1, g2, g3, g4⟩ := put5_cells (unhide HT5) (.int .i64 0) (.string ⟨#[]⟩) (.int .i64 0) (.int .i64 0) (.int .i64 0)
      have HF := hide (put5_below (unhide HB5) (Nat.le_refl _) (.int .i64 0) (.string ⟨#[]⟩) (.int .i64 0) (.int .i64 0) (.int .i64 0))
      generalize put5 wr w.heap.size (.int .i64 0) (.string ⟨#[]⟩) (.int .i64 0) (.int .i64 0) (.int .i64 0) = wf at *
      refine bodyPost_ret (by simp [results, Tryd.results22, go_sem, g0, g1, g2, g3, g4]; try rfl) rfl ?_
      exact ⟨unhide E, unhide HF⟩

theorem token_any (s : ByteArray) (a : Nat) (w : World) (hs : s.size ≤ 70368744177000) (ha : a < s.size) :
    Calls Tryd.prog 22 #[.string s, .int .i64 (a : Int)] w fun e w' => e = tkEnd (tk (s.data.toList.drop a)) ∧ Below w.heap.size w w' := by
  cases c : letter (by_ s a).toNat
  · cases d : digit (by_ s a).toNat
    · by_cases q : (by_ s a).toNat = 34
      · exact token_quote s a w hs ha c d q
      · exact token_sign s a w hs ha c d q
    · exact token_digit s a w hs ha c d
  · exact token_letter s a w hs ha c

end Go.Proofs.YtjkogjmbmkopiaaDoor
