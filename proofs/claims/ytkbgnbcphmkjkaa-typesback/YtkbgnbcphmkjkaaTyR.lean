/- The document's functions on types' texts. -/
import Derived.Test.YtkbgnbcphmkjkaaTyC
namespace Go.Proofs.Ytkbgnbcphmkjkaa
open Go.RowKit

theorem begins_is {s p : ByteArray} {a b : List UInt8} {c : Bool} (ea : s.data.toList = a) (eb : p.data.toList = b) (h : hp b a = c) (w : World) :
    Calls Try.prog 25 #[.string s, .string p] w fun e w' => e = .returned (.bool c) ∧ w' = w := by
  subst ea eb; exact begins_any s p c h w
theorem plain_is {s : ByteArray} {a : List UInt8} {b : Bool} (ea : s.data.toList = a) (h : base a = b) (w : World) :
    Calls Try.prog 27 #[.string s] w fun e w' => e = .returned (.bool b) ∧ w' = w := by
  subst ea; exact plain_any s b h w

theorem hp40_bt {X : ByteArray} (h : 1 ≤ X.size) : hp [40] X.data.toList = decide (bt X 0 = 40) := by
  have e := drop_by X 0 (by omega)
  rw [List.drop_zero] at e
  rw [e, hp_cons, hp_nil, Bool.and_true]
  unfold bt by_
  rw [Bool.eq_iff_iff, beq_iff_eq, decide_eq_true_eq]
  constructor
  · intro h; rw [← h]; rfl
  · intro h; exact UInt8.toNat_inj.1 h.symm

theorem hs41_bt {X : ByteArray} (h : 1 ≤ X.size) : hs [41] X.data.toList = decide (bt X (X.size - 1) = 41) := by
  have e := take_by X (X.size - 1) (by omega)
  have e2 : X.size - 1 + 1 = X.data.toList.length := by rw [← size_len]; omega
  rw [e2, List.take_length] at e
  rw [Bool.eq_iff_iff, hs_iff, decide_eq_true_eq]
  constructor
  · rintro ⟨r, hr⟩
    rw [hr] at e
    have := (List.append_inj' e rfl).2
    have h1 : (41 : UInt8) = by_ X (X.size - 1) := (List.cons.inj this).1
    show (by_ X (X.size - 1)).toNat = 41
    rw [← h1]; rfl
  · intro hb
    have h1 : by_ X (X.size - 1) = 41 := UInt8.toNat_inj.1 hb
    rw [h1] at e
    exact ⟨_, e⟩

theorem inn_ext (X : ByteArray) : X.extract 1 (X.size - 1) = B (inn X.data.toList) := by
  rw [← B_of (X.extract 1 (X.size - 1))]
  have e : (X.extract 1 (X.size - 1)).data.toList = inn X.data.toList := by
    rw [ByteArray.data_extract, Array.toList_extract, List.extract_eq_take_drop]
    unfold inn
    rw [List.length_drop, ← size_len]
  rw [e]

/-- how the document's taking apart ends -/
def rEnd (p : Nat × List UInt8 × Bool) : Ending := .returned (.tuple #[.int .i64 (p.1 : Int), .string (B p.2.1), .bool p.2.2])

set_option maxHeartbeats 2000000 in
theorem rsplit_any (s : ByteArray) (hz : Fit s) (w : World) :
    Calls Try.prog 26 #[.string s] w fun e w' => e = rEnd (rsplit s.data.toList) ∧ ∃ q, w' = w.drewN q := by
  have hf := hz.le
  cases h1 : hp pB s.data.toList
  · have H1 := hide h1
    cases h2 : hp pS s.data.toList
    · have H2 := hide h2
      cases h3 : hp pR s.data.toList
      · have H3 := hide h3
        have E := hide (show Ending.returned (.tuple #[.int .i64 0, .string ⟨#[]⟩, .bool false]) = rEnd (rsplit s.data.toList) by unfold rsplit; rw [h1, h2, h3]; rfl)
        clear h1 h2 h3 hz
        go_enter Try.func26, Try.ntmps26
        go_wp2_with fail
        refine (begins_is rfl lpB (unhide H1) _).mono ?_
        rintro e w' ⟨rfl, rfl⟩
        go_wp2_with fail
        refine (begins_is rfl lpS (unhide H2) _).mono ?_
        rintro e w' ⟨rfl, rfl⟩
        go_wp2_with fail
        refine (begins_is rfl lpR (unhide H3) _).mono ?_
        rintro e w' ⟨rfl, rfl⟩
        go_wp2
        go_ret3
        exact ⟨unhide E, 0, rfl⟩
      · have H3 := hide h3
        have hle := hp_le h3
        rw [← size_len] at hle
        have hle : 7 ≤ s.size := hle
        obtain ⟨X, hX⟩ : ∃ X, s.extract 7 s.size = X := ⟨_, rfl⟩
        have E := hide (show Ending.returned (.tuple #[.int .i64 2, .string X, .bool true]) = rEnd (rsplit s.data.toList) by unfold rsplit; rw [h1, h2, h3, ← hX, ext_B]; rfl)
        clear h1 h2 h3 hz
        go_enter Try.func26, Try.ntmps26
        go_wp2_with fail
        refine (begins_is rfl lpB (unhide H1) _).mono ?_
        rintro e w' ⟨rfl, rfl⟩
        go_wp2_with fail
        refine (begins_is rfl lpS (unhide H2) _).mono ?_
        rintro e w' ⟨rfl, rfl⟩
        go_wp2_with fail
        refine (begins_is rfl lpR (unhide H3) _).mono ?_
        rintro e w' ⟨rfl, rfl⟩
        go_wp2
        go_quiet (fail)
        go_wp2
        go_ret3
        exact ⟨unhide E, _, rfl⟩
    · have H2 := hide h2
      have hle := hp_le h2
      rw [← size_len] at hle
      have hle : 7 ≤ s.size := hle
      obtain ⟨X, hX⟩ : ∃ X, s.extract 7 s.size = X := ⟨_, rfl⟩
      obtain ⟨b3, h3⟩ : ∃ b3, hp pR s.data.toList = b3 := ⟨_, rfl⟩
      have H3 := hide h3
      have E := hide (show Ending.returned (.tuple #[.int .i64 1, .string X, .bool true]) = rEnd (rsplit s.data.toList) by unfold rsplit; rw [h1, h2, ← hX, ext_B]; rfl)
      clear h1 h2 h3 hz
      go_enter Try.func26, Try.ntmps26
      go_wp2_with fail
      refine (begins_is rfl lpB (unhide H1) _).mono ?_
      rintro e w' ⟨rfl, rfl⟩
      go_wp2_with fail
      refine (begins_is rfl lpS (unhide H2) _).mono ?_
      rintro e w' ⟨rfl, rfl⟩
      go_wp2_with fail
      refine (begins_is rfl lpR (unhide H3) _).mono ?_
      rintro e w' ⟨rfl, rfl⟩
      go_wp2
      go_quiet (fail)
      go_wp2
      go_ret3
      exact ⟨unhide E, _, rfl⟩
  · have H1 := hide h1
    have H2 := hide (pB_pS h1).1
    have H3 := hide (pB_pS h1).2
    have hle := hp_le h1
    rw [← size_len] at hle
    have hle : 5 ≤ s.size := hle
    obtain ⟨X, hX⟩ : ∃ X, s.extract 5 s.size = X := ⟨_, rfl⟩
    have hl : X.data.toList = s.data.toList.drop 5 := by rw [← hX, ext_list]
    have hxs : X.size = s.size - 5 := by rw [← hX, ext_size _ _ hle]
    have hlo : ((X.size : Int) - 1 + 9223372036854775808) % 18446744073709551616 - 9223372036854775808 = ((X.size : Int) - 1) := by omega
    have HF := hide (show rsplit s.data.toList = if 2 ≤ X.data.toList.length ∧ hp [40] X.data.toList = true ∧ hs [41] X.data.toList = true then (0, inn X.data.toList, hp ar (inn X.data.toList)) else (0, X.data.toList, !hp ar X.data.toList) by
      rw [hl]; unfold rsplit; rw [if_pos h1])
    have HX := hide (size_len X)
    have hxb : X.size ≤ 9223372036854775807 := by omega
    clear h1 hz hl hxs
    obtain ⟨b0, hb0⟩ : ∃ b0, hp ar X.data.toList = b0 := ⟨_, rfl⟩
    have HB0 := hide hb0
    by_cases g1 : 2 ≤ X.size
    · have i0 := bt_at X 0 (by omega)
      by_cases g2 : bt X 0 = 40
      · have i1 := bt_at X (X.size - 1) (by omega)
        have hn : ((X.size : Int) - 1).toNat = X.size - 1 := by omega
        by_cases g3 : bt X (X.size - 1) = 41
        · obtain ⟨Y, hY⟩ : ∃ Y, X.extract 1 (X.size - 1) = Y := ⟨_, rfl⟩
          have hl' : Y.data.toList = inn X.data.toList := by rw [← hY, inn_ext]; rfl
          have HL := hide hl'
          obtain ⟨b1, hb1⟩ : ∃ b1, hp ar (inn X.data.toList) = b1 := ⟨_, rfl⟩
          have HB1 := hide hb1
          have E := hide (show Ending.returned (.tuple #[.int .i64 0, .string Y, .bool b1]) = rEnd (rsplit s.data.toList) by
            rw [unhide HF, if_pos ⟨by rw [← size_len]; exact g1, by rw [hp40_bt (by omega)]; exact decide_eq_true g2, by rw [hs41_bt (by omega)]; exact decide_eq_true g3⟩, hb1, ← hl']; rfl)
          clear hl' hb1 hb0 HF
          rw [g2] at i0
          rw [g3] at i1
          clear g2 g3
          go_enter Try.func26, Try.ntmps26
          go_wp2_with fail
          refine (begins_is rfl lpB (unhide H1) _).mono ?_
          rintro e w' ⟨rfl, rfl⟩
          go_wp2_with fail
          refine (begins_is rfl lpS (unhide H2) _).mono ?_
          rintro e w' ⟨rfl, rfl⟩
          go_wp2_with fail
          refine (begins_is rfl lpR (unhide H3) _).mono ?_
          rintro e w' ⟨rfl, rfl⟩
          go_wp2_with fail
          refine (begins_is (unhide HL) lar (unhide HB1) _).mono ?_
          rintro e w' ⟨rfl, rfl⟩
          go_wp2
          go_ret3
          exact ⟨unhide E, 0, rfl⟩
        · have q3 : ((bt X (X.size - 1) : Int) == 41) = false := by simp; omega
          have E := hide (show Ending.returned (.tuple #[.int .i64 0, .string X, .bool (!b0)]) = rEnd (rsplit s.data.toList) by
            rw [unhide HF, if_neg (fun hc => by rw [hs41_bt (by omega), decide_eq_false g3] at hc; exact absurd hc.2.2 (by simp)), hb0]; rfl)
          clear hb0 HF
          rw [g2] at i0
          clear g2 g3
          go_enter Try.func26, Try.ntmps26
          go_wp2_with fail
          refine (begins_is rfl lpB (unhide H1) _).mono ?_
          rintro e w' ⟨rfl, rfl⟩
          go_wp2_with fail
          refine (begins_is rfl lpS (unhide H2) _).mono ?_
          rintro e w' ⟨rfl, rfl⟩
          go_wp2_with fail
          refine (begins_is rfl lpR (unhide H3) _).mono ?_
          rintro e w' ⟨rfl, rfl⟩
          go_wp2_with fail
          refine (begins_is rfl lar (unhide HB0) _).mono ?_
          rintro e w' ⟨rfl, rfl⟩
          go_wp2
          go_ret3
          exact ⟨unhide E, 0, rfl⟩
      · have q2 : ((bt X 0 : Int) == 40) = false := by simp; omega
        have E := hide (show Ending.returned (.tuple #[.int .i64 0, .string X, .bool (!b0)]) = rEnd (rsplit s.data.toList) by
          rw [unhide HF, if_neg (fun hc => by rw [hp40_bt (by omega), decide_eq_false g2] at hc; exact absurd hc.2.1 (by simp)), hb0]; rfl)
        clear hb0 HF
        clear g2
        go_enter Try.func26, Try.ntmps26
        go_wp2_with fail
        refine (begins_is rfl lpB (unhide H1) _).mono ?_
        rintro e w' ⟨rfl, rfl⟩
        go_wp2_with fail
        refine (begins_is rfl lpS (unhide H2) _).mono ?_
        rintro e w' ⟨rfl, rfl⟩
        go_wp2_with fail
        refine (begins_is rfl lpR (unhide H3) _).mono ?_
        rintro e w' ⟨rfl, rfl⟩
        go_wp2_with fail
        refine (begins_is rfl lar (unhide HB0) _).mono ?_
        rintro e w' ⟨rfl, rfl⟩
        go_wp2
        go_ret3
        exact ⟨unhide E, 0, rfl⟩
    · skip
      have E := hide (show Ending.returned (.tuple #[.int .i64 0, .string X, .bool (!b0)]) = rEnd (rsplit s.data.toList) by
        rw [unhide HF, if_neg (fun hc => g1 (by rw [size_len]; exact hc.1)), hb0]; rfl)
      clear hb0 HF
      have q1 : decide (2 ≤ (X.size : Int)) = false := decide_eq_false (by omega)
      go_enter Try.func26, Try.ntmps26
      go_wp2_with fail
      refine (begins_is rfl lpB (unhide H1) _).mono ?_
      rintro e w' ⟨rfl, rfl⟩
      go_wp2_with fail
      refine (begins_is rfl lpS (unhide H2) _).mono ?_
      rintro e w' ⟨rfl, rfl⟩
      go_wp2_with fail
      refine (begins_is rfl lpR (unhide H3) _).mono ?_
      rintro e w' ⟨rfl, rfl⟩
      go_wp2_with fail
      refine (begins_is rfl lar (unhide HB0) _).mono ?_
      rintro e w' ⟨rfl, rfl⟩
      go_wp2
      go_ret3
      exact ⟨unhide E, 0, rfl⟩

theorem rsplit_is {s : ByteArray} {a : List UInt8} {d : Nat} {x : List UInt8} {b : Bool} (hz : Fit s) (ea : s.data.toList = a) (h : rsplit a = (d, x, b)) (w : World) :
    Calls Try.prog 26 #[.string s] w fun e w' => e = .returned (.tuple #[.int .i64 (d : Int), .string (B x), .bool b]) ∧ ∃ q, w' = w.drewN q := by
  have := rsplit_any s hz w
  rw [ea, h] at this
  exact this

end Go.Proofs.Ytkbgnbcphmkjkaa
