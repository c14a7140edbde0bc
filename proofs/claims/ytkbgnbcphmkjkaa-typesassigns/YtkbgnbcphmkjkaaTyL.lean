/- The laws of types: their walks. -/
import Derived.Test.YtkbgnbcphmkjkaaTyS
namespace Go.Proofs.Ytkbgnbcphmkjkaa
open Go.RowKit

/-- Chan, of both -/
theorem chan_both {s : ByteArray} (hz : Fit s) (d : Int) : ∃ (C : ByteArray) (ec : Int),
    (∀ w, Calls Try.prog 8 #[.int .i64 d, .string s] w fun e w' => e = .returned (.tuple #[.string C, .int .i64 ec]) ∧ w' = w) ∧
    (∀ w, Calls Try.prog 10 #[.int .i64 d, .string s] w fun e w' => e = .returned (.tuple #[.string C, .int .i64 ec]) ∧ DN w w') := by
  by_cases h : d < 0 ∨ 2 < d
  · exact ⟨_, _, fun w => chan_arg h w, fun w => rchan_arg h w⟩
  · by_cases g : right s.data.toList = false ∨ depth s.data.toList = 40
    · exact ⟨_, _, fun w => chan_form hz rfl (by omega) (by omega) g w, fun w => rchan_form hz rfl (by omega) (by omega) g w⟩
    · have g1 : right s.data.toList = true := by
        cases hc : right s.data.toList
        · exact absurd (Or.inl hc) g
        · rfl
      have g2 : depth s.data.toList ≠ 40 := fun hc => g (Or.inr hc)
      obtain ⟨n, rfl⟩ : ∃ n : Nat, d = (n : Int) := ⟨d.toNat, by omega⟩
      exact ⟨_, _, fun w => chan_ok hz rfl (by omega) g1 g2 w, fun w => rchan_ok hz rfl (by omega) g1 g2 w⟩

/-- Split, of both -/
theorem split_both {s : ByteArray} (hz : Fit s) : ∃ (d : Int) (X : ByteArray) (b : Bool),
    (∀ w, Calls Try.prog 9 #[.string s] w fun e w' => e = .returned (.tuple #[.int .i64 d, .string X, .bool b]) ∧ w' = w) ∧
    (∀ w, Calls Try.prog 11 #[.string s] w fun e w' => e = .returned (.tuple #[.int .i64 d, .string X, .bool b]) ∧ DN w w') := by
  cases h : splt s.data.toList with
  | none => exact ⟨_, _, _, fun w => split_no hz rfl h w, fun w => rsp_no hz rfl h w⟩
  | some p =>
    obtain ⟨d, x⟩ := p
    exact ⟨_, _, _, fun w => split_is hz rfl h w, fun w => rsp_is hz rfl h w⟩

theorem beq_self_l (l : List UInt8) : (l == l) = true := by simp

set_option maxRecDepth 100000 in
set_option maxHeartbeats 4000000 in
theorem reads_walk (s : ByteArray) (dir : Int) (w : World) (hz : Fit s) :
    Calls Try.prog 3 #[.string s, .int .i64 dir] w fun e w' => e = .returned (.bool true) ∧ Below w.heap.size w w' := by
  obtain ⟨C, ec, hc1, hc2⟩ := chan_both hz dir
  obtain ⟨d, X, b, hs1, hs2⟩ := split_both hz
  obtain ⟨br, hr⟩ : ∃ br, right s.data.toList = br := ⟨_, rfl⟩
  obtain ⟨n, hn⟩ : ∃ n, depth s.data.toList = n := ⟨_, rfl⟩
  have HZ := hide hz
  have HC1 := hide hc1
  have HC2 := hide hc2
  have HS1 := hide hs1
  have HS2 := hide hs2
  have HR := hide hr
  have HN := hide hn
  have q1 := beq_self_l C.toList
  have q2 := beq_self_l X.toList
  clear hz hc1 hc2 hs1 hs2 hr hn
  go_enter Try.func3, Try.ntmps3
  go_wp2_with fail
  refine (right_is (unhide HZ) rfl (unhide HR) _).mono ?_
  rintro e w' ⟨rfl, rfl⟩
  go_wp2_with fail
  refine (depth_is (unhide HZ) rfl (unhide HN) _).mono ?_
  rintro e w' ⟨rfl, rfl⟩
  go_wp2_with fail
  refine ((unhide HC1) _).mono ?_
  rintro e w' ⟨rfl, rfl⟩
  go_wp2_with fail
  refine ((unhide HS1) _).mono ?_
  rintro e w' ⟨rfl, rfl⟩
  go_wp2_with fail
  refine ((unhide HC2) _).mono ?_
  rintro e w5 ⟨rfl, d5⟩
  have D5 := hide d5
  clear d5
  go_wp2_with fail
  refine ((unhide HS2) _).mono ?_
  rintro e w6 ⟨rfl, d6⟩
  have D6 := hide d6
  clear d6
  go_wp2_with fail
  refine (rright_is (unhide HZ) rfl (unhide HR) _).mono ?_
  rintro e w7 ⟨rfl, d7⟩
  have D7 := hide d7
  clear d7
  go_wp2_with fail
  refine (rdepth_is (unhide HZ) rfl (unhide HN) _).mono ?_
  rintro e w8 ⟨rfl, d8⟩
  have D8 := hide d8
  clear d8
  go_wp2
  go_ret
  exact ⟨rfl, ((((unhide D5).trans (unhide D6)).trans (unhide D7)).trans (unhide D8)).below⟩

set_option maxRecDepth 100000 in
set_option maxHeartbeats 4000000 in
theorem assigns_walk (s t : ByteArray) (w : World) (hz : Fit s) (hy : Fit t) :
    Calls Try.prog 4 #[.string s, .string t] w fun e w' => e = .returned (.bool true) ∧ Below w.heap.size w w' := by
  obtain ⟨b1, h1⟩ : ∃ b, sends s.data.toList = b := ⟨_, rfl⟩
  obtain ⟨b2, h2⟩ : ∃ b, recvs s.data.toList = b := ⟨_, rfl⟩
  obtain ⟨b3, h3⟩ : ∃ b, asg s.data.toList t.data.toList = b := ⟨_, rfl⟩
  obtain ⟨b4, h4⟩ : ∃ b, asg t.data.toList s.data.toList = b := ⟨_, rfl⟩
  obtain ⟨b5, h5⟩ : ∃ b, cmps s.data.toList t.data.toList = b := ⟨_, rfl⟩
  have HZ := hide hz
  have HY := hide hy
  have H1 := hide h1
  have H2 := hide h2
  have H3 := hide h3
  have H4 := hide h4
  have H5 := hide h5
  clear hz hy h1 h2 h3 h4 h5
  go_enter Try.func4, Try.ntmps4
  go_wp2_with fail
  refine (sends_is (unhide HZ) rfl (unhide H1) _).mono ?_
  rintro e w' ⟨rfl, rfl⟩
  go_wp2_with fail
  refine (recvs_is (unhide HZ) rfl (unhide H2) _).mono ?_
  rintro e w' ⟨rfl, rfl⟩
  go_wp2_with fail
  refine (asg_is (unhide HZ) rfl (unhide HY) rfl (unhide H3) _).mono ?_
  rintro e w' ⟨rfl, rfl⟩
  go_wp2_with fail
  refine (asg_is (unhide HY) rfl (unhide HZ) rfl (unhide H4) _).mono ?_
  rintro e w' ⟨rfl, rfl⟩
  go_wp2_with fail
  refine (cmps_is (unhide HZ) rfl (unhide HY) rfl (unhide H5) _).mono ?_
  rintro e w' ⟨rfl, rfl⟩
  go_wp2_with fail
  refine (rsends_is (unhide HZ) rfl (unhide H1) _).mono ?_
  rintro e w6 ⟨rfl, d6⟩
  have D6 := hide d6
  clear d6
  go_wp2_with fail
  refine (rrecvs_is (unhide HZ) rfl (unhide H2) _).mono ?_
  rintro e w7 ⟨rfl, d7⟩
  have D7 := hide d7
  clear d7
  go_wp2_with fail
  refine (rasg_is (unhide HZ) rfl (unhide HY) rfl (unhide H3) _).mono ?_
  rintro e w8 ⟨rfl, d8⟩
  have D8 := hide d8
  clear d8
  go_wp2_with fail
  refine (rasg_is (unhide HY) rfl (unhide HZ) rfl (unhide H4) _).mono ?_
  rintro e w9 ⟨rfl, d9⟩
  have D9 := hide d9
  clear d9
  go_wp2_with fail
  refine (rcmps_is (unhide HZ) rfl (unhide HY) rfl (unhide H5) _).mono ?_
  rintro e w10 ⟨rfl, d10⟩
  have D10 := hide d10
  clear d10
  go_wp2
  go_ret
  exact ⟨rfl, (((((unhide D6).trans (unhide D7)).trans (unhide D8)).trans (unhide D9)).trans (unhide D10)).below⟩

theorem split_x {s X : ByteArray} {a : List UInt8} {d : Nat} {x : List UInt8} (hz : Fit s) (ea : s.data.toList = a) (h : splt a = some (d, x)) (hX : B x = X) (w : World) :
    Calls Try.prog 9 #[.string s] w fun e w' => e = .returned (.tuple #[.int .i64 (d : Int), .string X, .bool true]) ∧ w' = w := by
  subst hX; exact split_is hz ea h w
theorem chan_x {s X : ByteArray} {a : List UInt8} {d : Nat} (hz : Fit s) (ea : s.data.toList = a) (hd : d ≤ 2) (h : right a = true) (h4 : depth a ≠ 40) (hX : B (mk d a) = X) (w : World) :
    Calls Try.prog 8 #[.int .i64 (d : Int), .string s] w fun e w' => e = .returned (.tuple #[.string X, .int .i64 0]) ∧ w' = w := by
  subst hX; exact chan_ok hz ea hd h h4 w

theorem right_int : right (⟨#[105, 110, 116]⟩ : ByteArray).data.toList = true := by decide
theorem fit_int : Fit (⟨#[105, 110, 116]⟩ : ByteArray) := ⟨by decide⟩
theorem fit_nil : Fit (⟨#[110, 105, 108]⟩ : ByteArray) := ⟨by decide⟩
theorem l_nil : (⟨#[110, 105, 108]⟩ : ByteArray).data.toList = tNil := rfl

set_option maxRecDepth 100000 in
set_option maxHeartbeats 4000000 in
theorem back_bad (s : ByteArray) (dir : Int) (w : World) (hz : Fit s) (h : dir < 0 ∨ 2 < dir) :
    Calls Try.prog 5 #[.string s, .int .i64 dir] w fun e w' => e = .returned (.bool true) ∧ w' = w := by
  obtain ⟨br, hr⟩ : ∃ br, right s.data.toList = br := ⟨_, rfl⟩
  have HR := hide hr
  have HZ := hide hz
  have H := hide h
  clear hr hz
  by_cases h1 : dir < 0
  · have q1 : decide (dir < 0) = true := decide_eq_true h1
    clear h
    go_enter Try.func5, Try.ntmps5
    go_wp2_with fail
    refine (right_is fit_int rfl right_int _).mono ?_
    rintro e w' ⟨rfl, rfl⟩
    go_wp2_with fail
    refine (chan_arg (unhide H) _).mono ?_
    rintro e w' ⟨rfl, rfl⟩
    go_wp2_with fail
    refine (right_is (unhide HZ) rfl (unhide HR) _).mono ?_
    rintro e w' ⟨rfl, rfl⟩
    go_wp2
    go_ret
    exact ⟨rfl, rfl⟩
  · have q1 : decide (dir < 0) = false := decide_eq_false h1
    have q2 : decide (2 < dir) = true := decide_eq_true (by omega)
    clear h
    go_enter Try.func5, Try.ntmps5
    go_wp2_with fail
    refine (right_is fit_int rfl right_int _).mono ?_
    rintro e w' ⟨rfl, rfl⟩
    go_wp2_with fail
    refine (chan_arg (unhide H) _).mono ?_
    rintro e w' ⟨rfl, rfl⟩
    go_wp2_with fail
    refine (right_is (unhide HZ) rfl (unhide HR) _).mono ?_
    rintro e w' ⟨rfl, rfl⟩
    go_wp2
    go_ret
    exact ⟨rfl, rfl⟩

set_option maxRecDepth 100000 in
set_option maxHeartbeats 4000000 in
theorem back_form (s : ByteArray) (dir : Int) (w : World) (hz : Fit s) (h0 : 0 ≤ dir) (h2 : dir ≤ 2) (h : right s.data.toList = false ∨ depth s.data.toList = 40) :
    Calls Try.prog 5 #[.string s, .int .i64 dir] w fun e w' => e = .returned (.bool true) ∧ w' = w := by
  have HZ := hide hz
  have H := hide h
  have H0 := hide h0
  have H2 := hide h2
  have q1 : decide (dir < 0) = false := decide_eq_false (by omega)
  have q2 : decide (2 < dir) = false := decide_eq_false (by omega)
  clear h0 h2 hz
  cases hr : right s.data.toList
  · have HR := hide hr
    clear h hr
    go_enter Try.func5, Try.ntmps5
    go_wp2_with fail
    refine (right_is fit_int rfl right_int _).mono ?_
    rintro e w' ⟨rfl, rfl⟩
    go_wp2_with fail
    refine (chan_form (unhide HZ) rfl (unhide H0) (unhide H2) (unhide H) _).mono ?_
    rintro e w' ⟨rfl, rfl⟩
    go_wp2_with fail
    refine (right_is (unhide HZ) rfl (unhide HR) _).mono ?_
    rintro e w' ⟨rfl, rfl⟩
    go_wp2
    go_ret
    exact ⟨rfl, rfl⟩
  · have HR := hide hr
    have HD := hide (show depth s.data.toList = 40 by rcases h with h | h; rw [hr] at h; cases h; exact h)
    clear h hr
    go_enter Try.func5, Try.ntmps5
    go_wp2_with fail
    refine (right_is fit_int rfl right_int _).mono ?_
    rintro e w' ⟨rfl, rfl⟩
    go_wp2_with fail
    refine (chan_form (unhide HZ) rfl (unhide H0) (unhide H2) (unhide H) _).mono ?_
    rintro e w' ⟨rfl, rfl⟩
    go_wp2_with fail
    refine (right_is (unhide HZ) rfl (unhide HR) _).mono ?_
    rintro e w' ⟨rfl, rfl⟩
    go_wp2_with fail
    refine (depth_is (unhide HZ) rfl (unhide HD) _).mono ?_
    rintro e w' ⟨rfl, rfl⟩
    go_wp2
    go_ret
    exact ⟨rfl, rfl⟩

set_option maxRecDepth 100000 in
set_option maxHeartbeats 8000000 in
theorem back_ok0 (s : ByteArray) (w : World) (hz : Fit s) (h : right s.data.toList = true) (h4 : depth s.data.toList ≠ 40) :
    Calls Try.prog 5 #[.string s, .int .i64 0] w fun e w' => e = .returned (.bool true) ∧ w' = w := by
  have hk := right_meas h
  obtain ⟨n, hn, hn2, hn3⟩ := hk
  have HR := hide h
  have H4 := hide h4
  have HZ := hide hz
  have HBs := hide (B_of s)
  have hl := right_len h
  obtain ⟨T, hT⟩ : ∃ T, B (mk 0 s.data.toList) = T := ⟨_, rfl⟩
  have htl : T.data.toList = mk 0 s.data.toList := by rw [← hT]; rfl
  have HT := hide hT
  have HTL := hide htl
  have HTR := hide (mk_right (d := 0) (by omega) h h4)
  have HTD := hide (show depth (mk 0 s.data.toList) = n + 1 by rw [mk_depth (by omega) h h4, hn2])
  have HN := hide hn2
  have hts := mk_splt (d := 0) (by omega) h h4
  have HTS := hide hts
  have HTF := hide (show Fit T from ⟨by rw [size_len, htl]; have := right_len (mk_right (d := 0) (by omega) h h4); omega⟩)
  have HS := hide (show sends (mk 0 s.data.toList) = true by unfold sends; rw [hts]; rfl)
  have HV := hide (show recvs (mk 0 s.data.toList) = true by unfold recvs; rw [hts]; rfl)
  have HA1 := hide (asg_nil (d := 0) (by omega) h h4)
  have HA2 := hide (asg_self (d := 0) (by omega) h h4)
  have q1 := beq_self_l s.toList
  have q2 := beq_self_l T.toList
  clear hz h h4 hn hn2 hl hT htl hts
  go_enter Try.func5, Try.ntmps5
  go_wp2_with fail
  refine (right_is fit_int rfl right_int _).mono ?_
  rintro e w' ⟨rfl, rfl⟩
  go_wp2_with fail
  refine (chan_x (d := 0) (unhide HZ) rfl (by omega) (unhide HR) (unhide H4) (unhide HT) _).mono ?_
  rintro e w' ⟨rfl, rfl⟩
  go_wp2_with fail
  refine (split_x (unhide HTF) (unhide HTL) (unhide HTS) (unhide HBs) _).mono ?_
  rintro e w' ⟨rfl, rfl⟩
  go_wp2_with fail
  refine (chan_x (d := 0) (unhide HZ) rfl (by omega) (unhide HR) (unhide H4) (unhide HT) _).mono ?_
  rintro e w' ⟨rfl, rfl⟩
  go_wp2_with fail
  refine (depth_is (unhide HTF) (unhide HTL) (unhide HTD) _).mono ?_
  rintro e w' ⟨rfl, rfl⟩
  go_wp2_with fail
  refine (depth_is (unhide HZ) rfl (unhide HN) _).mono ?_
  rintro e w' ⟨rfl, rfl⟩
  go_wp2_with fail
  refine (sends_is (unhide HTF) (unhide HTL) (unhide HS) _).mono ?_
  rintro e w' ⟨rfl, rfl⟩
  go_wp2_with fail
  refine (recvs_is (unhide HTF) (unhide HTL) (unhide HV) _).mono ?_
  rintro e w' ⟨rfl, rfl⟩
  go_wp2
  go_loop [14] (fun i => ∃ k : Nat, k ≤ 3 ∧ i = .int .i64 (k : Int)) (fun i => 3 - (intOf i).toNat)
  case atStart => exact ⟨0, by omega, rfl⟩
  case round =>
    obtain ⟨k, hk, rfl⟩ := hrel
    obtain rfl | rfl | rfl | rfl : k = 0 ∨ k = 1 ∨ k = 2 ∨ k = 3 := by omega
    · obtain ⟨U, hU⟩ : ∃ U, B (mk 0 s.data.toList) = U := ⟨_, rfl⟩
      have hul : U.data.toList = mk 0 s.data.toList := by rw [← hU]; rfl
      have HU := hide hU
      have HUL := hide hul
      have HUF := hide (show Fit U from ⟨by rw [size_len, hul]; have := right_len (mk_right (d := 0) (by omega) (unhide HR) (unhide H4)); omega⟩)
      have HQ := hide (show asg (mk 0 s.data.toList) (mk 0 s.data.toList) = true from asg_ways (by omega) (by omega) (unhide HR) (unhide H4))
      clear hU hul
      go_wp2_with fail
      refine (chan_x (d := 0) (unhide HZ) rfl (by omega) (unhide HR) (unhide H4) (unhide HU) _).mono ?_
      rintro e w' ⟨rfl, rfl⟩
      go_wp2_with fail
      refine (asg_is (unhide HTF) (unhide HTL) (unhide HUF) (unhide HUL) (unhide HQ) _).mono ?_
      rintro e w' ⟨rfl, rfl⟩
      go_wp2
      go_round
      case rel => exact ⟨1, by omega, rfl⟩
      case measure => simp [intOf]
    · obtain ⟨U, hU⟩ : ∃ U, B (mk 1 s.data.toList) = U := ⟨_, rfl⟩
      have hul : U.data.toList = mk 1 s.data.toList := by rw [← hU]; rfl
      have HU := hide hU
      have HUL := hide hul
      have HUF := hide (show Fit U from ⟨by rw [size_len, hul]; have := right_len (mk_right (d := 1) (by omega) (unhide HR) (unhide H4)); omega⟩)
      have HQ := hide (show asg (mk 0 s.data.toList) (mk 1 s.data.toList) = true from asg_ways (by omega) (by omega) (unhide HR) (unhide H4))
      clear hU hul
      go_wp2_with fail
      refine (chan_x (d := 1) (unhide HZ) rfl (by omega) (unhide HR) (unhide H4) (unhide HU) _).mono ?_
      rintro e w' ⟨rfl, rfl⟩
      go_wp2_with fail
      refine (asg_is (unhide HTF) (unhide HTL) (unhide HUF) (unhide HUL) (unhide HQ) _).mono ?_
      rintro e w' ⟨rfl, rfl⟩
      go_wp2
      go_round
      case rel => exact ⟨2, by omega, rfl⟩
      case measure => simp [intOf]
    · obtain ⟨U, hU⟩ : ∃ U, B (mk 2 s.data.toList) = U := ⟨_, rfl⟩
      have hul : U.data.toList = mk 2 s.data.toList := by rw [← hU]; rfl
      have HU := hide hU
      have HUL := hide hul
      have HUF := hide (show Fit U from ⟨by rw [size_len, hul]; have := right_len (mk_right (d := 2) (by omega) (unhide HR) (unhide H4)); omega⟩)
      have HQ := hide (show asg (mk 0 s.data.toList) (mk 2 s.data.toList) = true from asg_ways (by omega) (by omega) (unhide HR) (unhide H4))
      clear hU hul
      go_wp2_with fail
      refine (chan_x (d := 2) (unhide HZ) rfl (by omega) (unhide HR) (unhide H4) (unhide HU) _).mono ?_
      rintro e w' ⟨rfl, rfl⟩
      go_wp2_with fail
      refine (asg_is (unhide HTF) (unhide HTL) (unhide HUF) (unhide HUL) (unhide HQ) _).mono ?_
      rintro e w' ⟨rfl, rfl⟩
      go_wp2
      go_round
      case rel => exact ⟨3, by omega, rfl⟩
      case measure => simp [intOf]
    · skip
      go_wp2_with fail
      refine (asg_is fit_nil l_nil (unhide HTF) (unhide HTL) (unhide HA1) _).mono ?_
      rintro e w' ⟨rfl, rfl⟩
      go_wp2_with fail
      refine (asg_is (unhide HTF) (unhide HTL) (unhide HZ) rfl (unhide HA2) _).mono ?_
      rintro e w' ⟨rfl, rfl⟩
      go_wp2
      go_ret
      exact ⟨rfl, rfl⟩

set_option maxRecDepth 100000 in
set_option maxHeartbeats 8000000 in
theorem back_ok1 (s : ByteArray) (w : World) (hz : Fit s) (h : right s.data.toList = true) (h4 : depth s.data.toList ≠ 40) :
    Calls Try.prog 5 #[.string s, .int .i64 1] w fun e w' => e = .returned (.bool true) ∧ w' = w := by
  have hk := right_meas h
  obtain ⟨n, hn, hn2, hn3⟩ := hk
  have HR := hide h
  have H4 := hide h4
  have HZ := hide hz
  have HBs := hide (B_of s)
  have hl := right_len h
  obtain ⟨T, hT⟩ : ∃ T, B (mk 1 s.data.toList) = T := ⟨_, rfl⟩
  have htl : T.data.toList = mk 1 s.data.toList := by rw [← hT]; rfl
  have HT := hide hT
  have HTL := hide htl
  have HTR := hide (mk_right (d := 1) (by omega) h h4)
  have HTD := hide (show depth (mk 1 s.data.toList) = n + 1 by rw [mk_depth (by omega) h h4, hn2])
  have HN := hide hn2
  have hts := mk_splt (d := 1) (by omega) h h4
  have HTS := hide hts
  have HTF := hide (show Fit T from ⟨by rw [size_len, htl]; have := right_len (mk_right (d := 1) (by omega) h h4); omega⟩)
  have HS := hide (show sends (mk 1 s.data.toList) = true by unfold sends; rw [hts]; rfl)
  have HV := hide (show recvs (mk 1 s.data.toList) = false by unfold recvs; rw [hts]; rfl)
  have HA1 := hide (asg_nil (d := 1) (by omega) h h4)
  have HA2 := hide (asg_self (d := 1) (by omega) h h4)
  have q1 := beq_self_l s.toList
  have q2 := beq_self_l T.toList
  clear hz h h4 hn hn2 hl hT htl hts
  go_enter Try.func5, Try.ntmps5
  go_wp2_with fail
  refine (right_is fit_int rfl right_int _).mono ?_
  rintro e w' ⟨rfl, rfl⟩
  go_wp2_with fail
  refine (chan_x (d := 1) (unhide HZ) rfl (by omega) (unhide HR) (unhide H4) (unhide HT) _).mono ?_
  rintro e w' ⟨rfl, rfl⟩
  go_wp2_with fail
  refine (split_x (unhide HTF) (unhide HTL) (unhide HTS) (unhide HBs) _).mono ?_
  rintro e w' ⟨rfl, rfl⟩
  go_wp2_with fail
  refine (chan_x (d := 1) (unhide HZ) rfl (by omega) (unhide HR) (unhide H4) (unhide HT) _).mono ?_
  rintro e w' ⟨rfl, rfl⟩
  go_wp2_with fail
  refine (depth_is (unhide HTF) (unhide HTL) (unhide HTD) _).mono ?_
  rintro e w' ⟨rfl, rfl⟩
  go_wp2_with fail
  refine (depth_is (unhide HZ) rfl (unhide HN) _).mono ?_
  rintro e w' ⟨rfl, rfl⟩
  go_wp2_with fail
  refine (sends_is (unhide HTF) (unhide HTL) (unhide HS) _).mono ?_
  rintro e w' ⟨rfl, rfl⟩
  go_wp2_with fail
  refine (recvs_is (unhide HTF) (unhide HTL) (unhide HV) _).mono ?_
  rintro e w' ⟨rfl, rfl⟩
  go_wp2
  go_loop [14] (fun i => ∃ k : Nat, k ≤ 3 ∧ i = .int .i64 (k : Int)) (fun i => 3 - (intOf i).toNat)
  case atStart => exact ⟨0, by omega, rfl⟩
  case round =>
    obtain ⟨k, hk, rfl⟩ := hrel
    obtain rfl | rfl | rfl | rfl : k = 0 ∨ k = 1 ∨ k = 2 ∨ k = 3 := by omega
    · obtain ⟨U, hU⟩ : ∃ U, B (mk 0 s.data.toList) = U := ⟨_, rfl⟩
      have hul : U.data.toList = mk 0 s.data.toList := by rw [← hU]; rfl
      have HU := hide hU
      have HUL := hide hul
      have HUF := hide (show Fit U from ⟨by rw [size_len, hul]; have := right_len (mk_right (d := 0) (by omega) (unhide HR) (unhide H4)); omega⟩)
      have HQ := hide (show asg (mk 1 s.data.toList) (mk 0 s.data.toList) = false from asg_ways (by omega) (by omega) (unhide HR) (unhide H4))
      clear hU hul
      go_wp2_with fail
      refine (chan_x (d := 0) (unhide HZ) rfl (by omega) (unhide HR) (unhide H4) (unhide HU) _).mono ?_
      rintro e w' ⟨rfl, rfl⟩
      go_wp2_with fail
      refine (asg_is (unhide HTF) (unhide HTL) (unhide HUF) (unhide HUL) (unhide HQ) _).mono ?_
      rintro e w' ⟨rfl, rfl⟩
      go_wp2
      go_round
      case rel => exact ⟨1, by omega, rfl⟩
      case measure => simp [intOf]
    · obtain ⟨U, hU⟩ : ∃ U, B (mk 1 s.data.toList) = U := ⟨_, rfl⟩
      have hul : U.data.toList = mk 1 s.data.toList := by rw [← hU]; rfl
      have HU := hide hU
      have HUL := hide hul
      have HUF := hide (show Fit U from ⟨by rw [size_len, hul]; have := right_len (mk_right (d := 1) (by omega) (unhide HR) (unhide H4)); omega⟩)
      have HQ := hide (show asg (mk 1 s.data.toList) (mk 1 s.data.toList) = true from asg_ways (by omega) (by omega) (unhide HR) (unhide H4))
      clear hU hul
      go_wp2_with fail
      refine (chan_x (d := 1) (unhide HZ) rfl (by omega) (unhide HR) (unhide H4) (unhide HU) _).mono ?_
      rintro e w' ⟨rfl, rfl⟩
      go_wp2_with fail
      refine (asg_is (unhide HTF) (unhide HTL) (unhide HUF) (unhide HUL) (unhide HQ) _).mono ?_
      rintro e w' ⟨rfl, rfl⟩
      go_wp2
      go_round
      case rel => exact ⟨2, by omega, rfl⟩
      case measure => simp [intOf]
    · obtain ⟨U, hU⟩ : ∃ U, B (mk 2 s.data.toList) = U := ⟨_, rfl⟩
      have hul : U.data.toList = mk 2 s.data.toList := by rw [← hU]; rfl
      have HU := hide hU
      have HUL := hide hul
      have HUF := hide (show Fit U from ⟨by rw [size_len, hul]; have := right_len (mk_right (d := 2) (by omega) (unhide HR) (unhide H4)); omega⟩)
      have HQ := hide (show asg (mk 1 s.data.toList) (mk 2 s.data.toList) = false from asg_ways (by omega) (by omega) (unhide HR) (unhide H4))
      clear hU hul
      go_wp2_with fail
      refine (chan_x (d := 2) (unhide HZ) rfl (by omega) (unhide HR) (unhide H4) (unhide HU) _).mono ?_
      rintro e w' ⟨rfl, rfl⟩
      go_wp2_with fail
      refine (asg_is (unhide HTF) (unhide HTL) (unhide HUF) (unhide HUL) (unhide HQ) _).mono ?_
      rintro e w' ⟨rfl, rfl⟩
      go_wp2
      go_round
      case rel => exact ⟨3, by omega, rfl⟩
      case measure => simp [intOf]
    · skip
      go_wp2_with fail
      refine (asg_is fit_nil l_nil (unhide HTF) (unhide HTL) (unhide HA1) _).mono ?_
      rintro e w' ⟨rfl, rfl⟩
      go_wp2_with fail
      refine (asg_is (unhide HTF) (unhide HTL) (unhide HZ) rfl (unhide HA2) _).mono ?_
      rintro e w' ⟨rfl, rfl⟩
      go_wp2
      go_ret
      exact ⟨rfl, rfl⟩

set_option maxRecDepth 100000 in
set_option maxHeartbeats 8000000 in
theorem back_ok2 (s : ByteArray) (w : World) (hz : Fit s) (h : right s.data.toList = true) (h4 : depth s.data.toList ≠ 40) :
    Calls Try.prog 5 #[.string s, .int .i64 2] w fun e w' => e = .returned (.bool true) ∧ w' = w := by
  have hk := right_meas h
  obtain ⟨n, hn, hn2, hn3⟩ := hk
  have HR := hide h
  have H4 := hide h4
  have HZ := hide hz
  have HBs := hide (B_of s)
  have hl := right_len h
  obtain ⟨T, hT⟩ : ∃ T, B (mk 2 s.data.toList) = T := ⟨_, rfl⟩
  have htl : T.data.toList = mk 2 s.data.toList := by rw [← hT]; rfl
  have HT := hide hT
  have HTL := hide htl
  have HTR := hide (mk_right (d := 2) (by omega) h h4)
  have HTD := hide (show depth (mk 2 s.data.toList) = n + 1 by rw [mk_depth (by omega) h h4, hn2])
  have HN := hide hn2
  have hts := mk_splt (d := 2) (by omega) h h4
  have HTS := hide hts
  have HTF := hide (show Fit T from ⟨by rw [size_len, htl]; have := right_len (mk_right (d := 2) (by omega) h h4); omega⟩)
  have HS := hide (show sends (mk 2 s.data.toList) = false by unfold sends; rw [hts]; rfl)
  have HV := hide (show recvs (mk 2 s.data.toList) = true by unfold recvs; rw [hts]; rfl)
  have HA1 := hide (asg_nil (d := 2) (by omega) h h4)
  have HA2 := hide (asg_self (d := 2) (by omega) h h4)
  have q1 := beq_self_l s.toList
  have q2 := beq_self_l T.toList
  clear hz h h4 hn hn2 hl hT htl hts
  go_enter Try.func5, Try.ntmps5
  go_wp2_with fail
  refine (right_is fit_int rfl right_int _).mono ?_
  rintro e w' ⟨rfl, rfl⟩
  go_wp2_with fail
  refine (chan_x (d := 2) (unhide HZ) rfl (by omega) (unhide HR) (unhide H4) (unhide HT) _).mono ?_
  rintro e w' ⟨rfl, rfl⟩
  go_wp2_with fail
  refine (split_x (unhide HTF) (unhide HTL) (unhide HTS) (unhide HBs) _).mono ?_
  rintro e w' ⟨rfl, rfl⟩
  go_wp2_with fail
  refine (chan_x (d := 2) (unhide HZ) rfl (by omega) (unhide HR) (unhide H4) (unhide HT) _).mono ?_
  rintro e w' ⟨rfl, rfl⟩
  go_wp2_with fail
  refine (depth_is (unhide HTF) (unhide HTL) (unhide HTD) _).mono ?_
  rintro e w' ⟨rfl, rfl⟩
  go_wp2_with fail
  refine (depth_is (unhide HZ) rfl (unhide HN) _).mono ?_
  rintro e w' ⟨rfl, rfl⟩
  go_wp2_with fail
  refine (sends_is (unhide HTF) (unhide HTL) (unhide HS) _).mono ?_
  rintro e w' ⟨rfl, rfl⟩
  go_wp2_with fail
  refine (recvs_is (unhide HTF) (unhide HTL) (unhide HV) _).mono ?_
  rintro e w' ⟨rfl, rfl⟩
  go_wp2
  go_loop [14] (fun i => ∃ k : Nat, k ≤ 3 ∧ i = .int .i64 (k : Int)) (fun i => 3 - (intOf i).toNat)
  case atStart => exact ⟨0, by omega, rfl⟩
  case round =>
    obtain ⟨k, hk, rfl⟩ := hrel
    obtain rfl | rfl | rfl | rfl : k = 0 ∨ k = 1 ∨ k = 2 ∨ k = 3 := by omega
    · obtain ⟨U, hU⟩ : ∃ U, B (mk 0 s.data.toList) = U := ⟨_, rfl⟩
      have hul : U.data.toList = mk 0 s.data.toList := by rw [← hU]; rfl
      have HU := hide hU
      have HUL := hide hul
      have HUF := hide (show Fit U from ⟨by rw [size_len, hul]; have := right_len (mk_right (d := 0) (by omega) (unhide HR) (unhide H4)); omega⟩)
      have HQ := hide (show asg (mk 2 s.data.toList) (mk 0 s.data.toList) = false from asg_ways (by omega) (by omega) (unhide HR) (unhide H4))
      clear hU hul
      go_wp2_with fail
      refine (chan_x (d := 0) (unhide HZ) rfl (by omega) (unhide HR) (unhide H4) (unhide HU) _).mono ?_
      rintro e w' ⟨rfl, rfl⟩
      go_wp2_with fail
      refine (asg_is (unhide HTF) (unhide HTL) (unhide HUF) (unhide HUL) (unhide HQ) _).mono ?_
      rintro e w' ⟨rfl, rfl⟩
      go_wp2
      go_round
      case rel => exact ⟨1, by omega, rfl⟩
      case measure => simp [intOf]
    · obtain ⟨U, hU⟩ : ∃ U, B (mk 1 s.data.toList) = U := ⟨_, rfl⟩
      have hul : U.data.toList = mk 1 s.data.toList := by rw [← hU]; rfl
      have HU := hide hU
      have HUL := hide hul
      have HUF := hide (show Fit U from ⟨by rw [size_len, hul]; have := right_len (mk_right (d := 1) (by omega) (unhide HR) (unhide H4)); omega⟩)
      have HQ := hide (show asg (mk 2 s.data.toList) (mk 1 s.data.toList) = false from asg_ways (by omega) (by omega) (unhide HR) (unhide H4))
      clear hU hul
      go_wp2_with fail
      refine (chan_x (d := 1) (unhide HZ) rfl (by omega) (unhide HR) (unhide H4) (unhide HU) _).mono ?_
      rintro e w' ⟨rfl, rfl⟩
      go_wp2_with fail
      refine (asg_is (unhide HTF) (unhide HTL) (unhide HUF) (unhide HUL) (unhide HQ) _).mono ?_
      rintro e w' ⟨rfl, rfl⟩
      go_wp2
      go_round
      case rel => exact ⟨2, by omega, rfl⟩
      case measure => simp [intOf]
    · obtain ⟨U, hU⟩ : ∃ U, B (mk 2 s.data.toList) = U := ⟨_, rfl⟩
      have hul : U.data.toList = mk 2 s.data.toList := by rw [← hU]; rfl
      have HU := hide hU
      have HUL := hide hul
      have HUF := hide (show Fit U from ⟨by rw [size_len, hul]; have := right_len (mk_right (d := 2) (by omega) (unhide HR) (unhide H4)); omega⟩)
      have HQ := hide (show asg (mk 2 s.data.toList) (mk 2 s.data.toList) = true from asg_ways (by omega) (by omega) (unhide HR) (unhide H4))
      clear hU hul
      go_wp2_with fail
      refine (chan_x (d := 2) (unhide HZ) rfl (by omega) (unhide HR) (unhide H4) (unhide HU) _).mono ?_
      rintro e w' ⟨rfl, rfl⟩
      go_wp2_with fail
      refine (asg_is (unhide HTF) (unhide HTL) (unhide HUF) (unhide HUL) (unhide HQ) _).mono ?_
      rintro e w' ⟨rfl, rfl⟩
      go_wp2
      go_round
      case rel => exact ⟨3, by omega, rfl⟩
      case measure => simp [intOf]
    · skip
      go_wp2_with fail
      refine (asg_is fit_nil l_nil (unhide HTF) (unhide HTL) (unhide HA1) _).mono ?_
      rintro e w' ⟨rfl, rfl⟩
      go_wp2_with fail
      refine (asg_is (unhide HTF) (unhide HTL) (unhide HZ) rfl (unhide HA2) _).mono ?_
      rintro e w' ⟨rfl, rfl⟩
      go_wp2
      go_ret
      exact ⟨rfl, rfl⟩

theorem back_walk (s : ByteArray) (dir : Int) (w : World) (hz : Fit s) :
    Calls Try.prog 5 #[.string s, .int .i64 dir] w fun e w' => e = .returned (.bool true) ∧ w' = w := by
  by_cases h : dir < 0 ∨ 2 < dir
  · exact back_bad s dir w hz h
  · by_cases g : right s.data.toList = false ∨ depth s.data.toList = 40
    · exact back_form s dir w hz (by omega) (by omega) g
    · have g1 : right s.data.toList = true := by
        cases hc : right s.data.toList
        · exact absurd (Or.inl hc) g
        · rfl
      have g2 : depth s.data.toList ≠ 40 := fun hc => g (Or.inr hc)
      obtain rfl | rfl | rfl : dir = 0 ∨ dir = 1 ∨ dir = 2 := by omega
      · exact back_ok0 s w hz g1 g2
      · exact back_ok1 s w hz g1 g2
      · exact back_ok2 s w hz g1 g2

end Go.Proofs.Ytkbgnbcphmkjkaa
