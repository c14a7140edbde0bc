/- The program's functions on types' texts. -/
import Derived.Test.YtkbgnbcphmkjkaaTyM
namespace Go.Proofs.Ytkbgnbcphmkjkaa
open Go.RowKit

theorem meas_len : ∀ {n : Nat} {l : List UInt8} {k : Nat}, meas n l = some k → l.length ≤ 7 * k + 9
  | 0, _, _, h => by simp [meas] at h
  | n + 1, l, k, h => by
    cases hb : base l with
    | true =>
      unfold base at hb
      simp only [Bool.or_eq_true, decide_eq_true_eq] at hb
      rcases hb with ((rfl | rfl) | rfl) | rfl <;> simp [tInt, tBool, tMutex, tGroup] <;> omega
    | false =>
      cases hp : peel l with
      | none => rw [meas_none hb hp] at h; cases h
      | some p =>
        obtain ⟨d, e⟩ := p
        rw [meas_some hb hp] at h
        cases hm : meas n e with
        | none => rw [hm] at h; cases h
        | some j =>
          rw [hm] at h
          have h1 : j + 1 = k := Option.some.inj h
          have h2 := meas_len hm
          have h3 : (mk d e).length ≤ e.length + 7 := by
            unfold mk
            repeat' split
            all_goals (simp [pS, pR, pB]; try omega)
          rw [← (peel_mk hp).1] at h3
          omega

theorem right_len {l : List UInt8} (h : right l = true) : l.length ≤ 289 := by
  obtain ⟨k, h1, _, h3⟩ := right_meas h
  have := meas_len h1
  omega

theorem measure_is {s : ByteArray} {a : List UInt8} {k : Nat} (hz : Fit s) (ea : s.data.toList = a) (h : meas 41 a = some k) (w : World) :
    Calls Try.prog 22 #[.string s] w fun e w' => e = .returned (.tuple #[.int .i64 (k : Int), .bool true]) ∧ w' = w := by
  have := measure_any s hz w
  rw [ea, h] at this
  exact this
theorem measure_no {s : ByteArray} {a : List UInt8} (hz : Fit s) (ea : s.data.toList = a) (h : meas 41 a = none) (w : World) :
    Calls Try.prog 22 #[.string s] w fun e w' => e = .returned (.tuple #[.int .i64 0, .bool false]) ∧ w' = w := by
  have := measure_any s hz w
  rw [ea, h] at this
  exact this

set_option maxHeartbeats 1000000 in
theorem right_is {s : ByteArray} {a : List UInt8} {b : Bool} (hz : Fit s) (ea : s.data.toList = a) (h : right a = b) (w : World) :
    Calls Try.prog 6 #[.string s] w fun e w' => e = .returned (.bool b) ∧ w' = w := by
  cases b
  · have H := hide (right_not h).1
    have HA := hide ea
    have HZ := hide hz
    clear h hz ea
    go_enter Try.func6, Try.ntmps6
    go_wp2_with fail
    refine (measure_no (unhide HZ) (unhide HA) (unhide H) _).mono ?_
    rintro e w' ⟨rfl, rfl⟩
    go_wp2
    go_ret
    exact ⟨rfl, rfl⟩
  · obtain ⟨k, h1, _, _⟩ := right_meas h
    have H := hide h1
    have HA := hide ea
    have HZ := hide hz
    clear h hz ea h1
    go_enter Try.func6, Try.ntmps6
    go_wp2_with fail
    refine (measure_is (unhide HZ) (unhide HA) (unhide H) _).mono ?_
    rintro e w' ⟨rfl, rfl⟩
    go_wp2
    go_ret
    exact ⟨rfl, rfl⟩

set_option maxHeartbeats 1000000 in
theorem depth_is {s : ByteArray} {a : List UInt8} {n : Nat} (hz : Fit s) (ea : s.data.toList = a) (h : depth a = n) (w : World) :
    Calls Try.prog 7 #[.string s] w fun e w' => e = .returned (.int .i64 (n : Int)) ∧ w' = w := by
  have HA := hide ea
  have HZ := hide hz
  cases hm : meas 41 a with
  | none =>
    obtain rfl : n = 0 := by rw [← h]; unfold depth; rw [hm]; rfl
    have H := hide hm
    clear h hz ea hm
    go_enter Try.func7, Try.ntmps7
    go_wp2_with fail
    refine (measure_no (unhide HZ) (unhide HA) (unhide H) _).mono ?_
    rintro e w' ⟨rfl, rfl⟩
    go_wp2
    go_ret
    exact ⟨rfl, rfl⟩
  | some k =>
    obtain rfl : n = k := by rw [← h]; unfold depth; rw [hm]; rfl
    have H := hide hm
    clear h hz ea hm
    go_enter Try.func7, Try.ntmps7
    go_wp2_with fail
    refine (measure_is (unhide HZ) (unhide HA) (unhide H) _).mono ?_
    rintro e w' ⟨rfl, rfl⟩
    go_wp2
    go_ret
    exact ⟨rfl, rfl⟩

set_option maxHeartbeats 1000000 in
theorem chan_arg {s : ByteArray} {d : Int} (h : d < 0 ∨ 2 < d) (w : World) :
    Calls Try.prog 8 #[.int .i64 d, .string s] w fun e w' => e = .returned (.tuple #[.string ⟨#[]⟩, .int .i64 1]) ∧ w' = w := by
  by_cases h1 : d < 0
  · clear h
    go_enter Try.func8, Try.ntmps8
    go_wp2
    go_ret2
    exact ⟨rfl, rfl⟩
  · have h2 : 2 < d := by omega
    clear h
    go_enter Try.func8, Try.ntmps8
    go_wp2
    go_ret2
    exact ⟨rfl, rfl⟩

set_option maxHeartbeats 1000000 in
theorem chan_form {s : ByteArray} {a : List UInt8} {d : Int} (hz : Fit s) (ea : s.data.toList = a) (h0 : 0 ≤ d) (h2 : d ≤ 2) (h : right a = false ∨ depth a = 40) (w : World) :
    Calls Try.prog 8 #[.int .i64 d, .string s] w fun e w' => e = .returned (.tuple #[.string ⟨#[]⟩, .int .i64 61]) ∧ w' = w := by
  have HA := hide ea
  have HZ := hide hz
  have q0 : decide (d < 0) = false := decide_eq_false (by omega)
  have q2 : decide (2 < d) = false := decide_eq_false (by omega)
  cases hm : meas 41 a with
  | none =>
    have H := hide hm
    clear h hz ea hm
    go_enter Try.func8, Try.ntmps8
    go_wp2_with fail
    refine (measure_no (unhide HZ) (unhide HA) (unhide H) _).mono ?_
    rintro e w' ⟨rfl, rfl⟩
    go_wp2
    go_ret2
    exact ⟨rfl, rfl⟩
  | some k =>
    obtain rfl : k = 40 := by
      rcases h with h | h
      · unfold right at h; rw [hm] at h; cases h
      · unfold depth at h; rw [hm] at h; exact h
    have H := hide hm
    clear h hz ea hm
    go_enter Try.func8, Try.ntmps8
    go_wp2_with fail
    refine (measure_is (unhide HZ) (unhide HA) (unhide H) _).mono ?_
    rintro e w' ⟨rfl, rfl⟩
    go_wp2
    go_ret2
    exact ⟨rfl, rfl⟩

theorem cat_B (p s : ByteArray) : p ++ s = B (p.data.toList ++ s.data.toList) := by
  have e : (p ++ s).data.toList = p.data.toList ++ s.data.toList := by simp [ByteArray.data_append]
  rw [← e, B_of]

theorem mk1 (s : ByteArray) {a : List UInt8} (ea : s.data.toList = a) : (⟨#[99, 104, 97, 110, 60, 45, 32]⟩ : ByteArray) ++ s = B (mk 1 a) := by rw [cat_B, ea]; rfl
theorem mk2 (s : ByteArray) {a : List UInt8} (ea : s.data.toList = a) : (⟨#[60, 45, 99, 104, 97, 110, 32]⟩ : ByteArray) ++ s = B (mk 2 a) := by rw [cat_B, ea]; rfl
theorem mk0 (s : ByteArray) {a : List UInt8} (ea : s.data.toList = a) (h : hp ar a = false) : (⟨#[99, 104, 97, 110, 32]⟩ : ByteArray) ++ s = B (mk 0 a) := by rw [cat_B, ea]; unfold mk; rw [h]; rfl
theorem mk0b (s : ByteArray) {a : List UInt8} (ea : s.data.toList = a) (h : hp ar a = true) : (⟨#[99, 104, 97, 110, 32, 40]⟩ : ByteArray) ++ s ++ (⟨#[41]⟩ : ByteArray) = B (mk 0 a) := by
  rw [cat_B, cat_B, ea, B_list]; unfold mk; rw [h]; simp [pB]

set_option maxHeartbeats 1000000 in
theorem chan_ok {s : ByteArray} {a : List UInt8} {d : Nat} (hz : Fit s) (ea : s.data.toList = a) (hd : d ≤ 2) (h : right a = true) (h4 : depth a ≠ 40) (w : World) :
    Calls Try.prog 8 #[.int .i64 (d : Int), .string s] w fun e w' => e = .returned (.tuple #[.string (B (mk d a)), .int .i64 0]) ∧ w' = w := by
  have HA := hide ea
  have HZ := hide hz
  have hl := right_len h
  rw [← ea, ← size_len] at hl
  obtain ⟨k, h1, h2, h3⟩ := right_meas h
  have q4 : ((k : Int) == 40) = false := by simp; omega
  have HM := hide h1
  clear h1 h2 h3 h4 h hz
  obtain rfl | rfl | rfl : d = 0 ∨ d = 1 ∨ d = 2 := by omega
  · cases hh : hp ar a
    · have HH := hide hh
      have E := hide (mk0 s ea hh)
      clear hh ea
      go_enter Try.func8, Try.ntmps8
      go_wp2_with fail
      refine (measure_is (unhide HZ) (unhide HA) (unhide HM) _).mono ?_
      rintro e w' ⟨rfl, rfl⟩
      go_wp2_with fail
      refine (xh_is (unhide HA) lar (unhide HH) _).mono ?_
      rintro e w' ⟨rfl, rfl⟩
      go_wp2
      go_ret2
      exact ⟨by rw [← unhide E]; rfl, rfl⟩
    · have HH := hide hh
      have E := hide (mk0b s ea hh)
      clear hh ea
      go_enter Try.func8, Try.ntmps8
      go_wp2_with fail
      refine (measure_is (unhide HZ) (unhide HA) (unhide HM) _).mono ?_
      rintro e w' ⟨rfl, rfl⟩
      go_wp2_with fail
      refine (xh_is (unhide HA) lar (unhide HH) _).mono ?_
      rintro e w' ⟨rfl, rfl⟩
      go_wp2
      go_ret2
      exact ⟨by rw [← unhide E]; rfl, rfl⟩
  · skip
    have E := hide (mk1 s ea)
    clear ea
    go_enter Try.func8, Try.ntmps8
    go_wp2_with fail
    refine (measure_is (unhide HZ) (unhide HA) (unhide HM) _).mono ?_
    rintro e w' ⟨rfl, rfl⟩
    go_wp2
    go_ret2
    exact ⟨by rw [← unhide E]; rfl, rfl⟩
  · skip
    have E := hide (mk2 s ea)
    clear ea
    go_enter Try.func8, Try.ntmps8
    go_wp2_with fail
    refine (measure_is (unhide HZ) (unhide HA) (unhide HM) _).mono ?_
    rintro e w' ⟨rfl, rfl⟩
    go_wp2
    go_ret2
    exact ⟨by rw [← unhide E]; rfl, rfl⟩

set_option maxHeartbeats 1000000 in
theorem split_is {s : ByteArray} {a : List UInt8} {d : Nat} {x : List UInt8} (hz : Fit s) (ea : s.data.toList = a) (h : splt a = some (d, x)) (w : World) :
    Calls Try.prog 9 #[.string s] w fun e w' => e = .returned (.tuple #[.int .i64 (d : Int), .string (B x), .bool true]) ∧ w' = w := by
  unfold splt at h
  have HA := hide ea
  have HZ := hide hz
  split at h
  · rename_i hr
    have HR := hide hr
    have HP := hide h
    clear h hr ea hz
    go_enter Try.func9, Try.ntmps9
    go_wp2_with fail
    refine (right_is (unhide HZ) (unhide HA) (unhide HR) _).mono ?_
    rintro e w' ⟨rfl, rfl⟩
    go_wp2_with fail
    refine (peel_is (unhide HZ) _ (unhide HA) (unhide HP)).mono ?_
    rintro e w' ⟨rfl, rfl⟩
    go_wp2
    go_ret3
    exact ⟨rfl, rfl⟩
  · cases h

set_option maxHeartbeats 1000000 in
theorem split_no {s : ByteArray} {a : List UInt8} (hz : Fit s) (ea : s.data.toList = a) (h : splt a = none) (w : World) :
    Calls Try.prog 9 #[.string s] w fun e w' => e = .returned (.tuple #[.int .i64 0, .string ⟨#[]⟩, .bool false]) ∧ w' = w := by
  unfold splt at h
  have HA := hide ea
  have HZ := hide hz
  split at h
  · rename_i hr
    have HR := hide hr
    have HP := hide h
    clear h hr ea hz
    go_enter Try.func9, Try.ntmps9
    go_wp2_with fail
    refine (right_is (unhide HZ) (unhide HA) (unhide HR) _).mono ?_
    rintro e w' ⟨rfl, rfl⟩
    go_wp2_with fail
    refine (peel_no (unhide HZ) _ (unhide HA) (unhide HP)).mono ?_
    rintro e w' ⟨rfl, rfl⟩
    go_wp2
    go_ret3
    exact ⟨rfl, rfl⟩
  · rename_i hr
    have HR := hide (show right a = false by cases hc : right a; rfl; exact absurd hc hr)
    clear h hr ea hz
    go_enter Try.func9, Try.ntmps9
    go_wp2_with fail
    refine (right_is (unhide HZ) (unhide HA) (unhide HR) _).mono ?_
    rintro e w' ⟨rfl, rfl⟩
    go_wp2
    go_ret3
    exact ⟨rfl, rfl⟩

set_option maxHeartbeats 1000000 in
theorem sends_is {s : ByteArray} {a : List UInt8} {b : Bool} (hz : Fit s) (ea : s.data.toList = a) (h : sends a = b) (w : World) :
    Calls Try.prog 14 #[.string s] w fun e w' => e = .returned (.bool b) ∧ w' = w := by
  have HA := hide ea
  have HZ := hide hz
  unfold sends at h
  cases hs : splt a with
  | none =>
    rw [hs] at h
    have HS := hide hs
    have hb : false = b := h
    subst hb
    clear hs ea hz h
    go_enter Try.func14, Try.ntmps14
    go_wp2_with fail
    refine (split_no (unhide HZ) (unhide HA) (unhide HS) _).mono ?_
    rintro e w' ⟨rfl, rfl⟩
    go_wp2
    go_ret
    exact ⟨rfl, rfl⟩
  | some p =>
    obtain ⟨d, x⟩ := p
    rw [hs] at h
    have h : (!decide (d = 2)) = b := h
    have HS := hide hs
    by_cases hd : d = 2
    · obtain rfl : false = b := by rw [← h, decide_eq_true hd]; rfl
      subst hd
      clear hs ea hz h
      go_enter Try.func14, Try.ntmps14
      go_wp2_with fail
      refine (split_is (unhide HZ) (unhide HA) (unhide HS) _).mono ?_
      rintro e w' ⟨rfl, rfl⟩
      go_wp2
      go_ret
      exact ⟨rfl, rfl⟩
    · obtain rfl : true = b := by rw [← h, decide_eq_false hd]; rfl
      have q : ((d : Int) != 2) = true := by simp; omega
      clear hs ea hz h hd
      go_enter Try.func14, Try.ntmps14
      go_wp2_with fail
      refine (split_is (unhide HZ) (unhide HA) (unhide HS) _).mono ?_
      rintro e w' ⟨rfl, rfl⟩
      go_wp2
      go_ret
      exact ⟨rfl, rfl⟩

set_option maxHeartbeats 1000000 in
theorem recvs_is {s : ByteArray} {a : List UInt8} {b : Bool} (hz : Fit s) (ea : s.data.toList = a) (h : recvs a = b) (w : World) :
    Calls Try.prog 15 #[.string s] w fun e w' => e = .returned (.bool b) ∧ w' = w := by
  have HA := hide ea
  have HZ := hide hz
  unfold recvs at h
  cases hs : splt a with
  | none =>
    rw [hs] at h
    have HS := hide hs
    have hb : false = b := h
    subst hb
    clear hs ea hz h
    go_enter Try.func15, Try.ntmps15
    go_wp2_with fail
    refine (split_no (unhide HZ) (unhide HA) (unhide HS) _).mono ?_
    rintro e w' ⟨rfl, rfl⟩
    go_wp2
    go_ret
    exact ⟨rfl, rfl⟩
  | some p =>
    obtain ⟨d, x⟩ := p
    rw [hs] at h
    have h : (!decide (d = 1)) = b := h
    have HS := hide hs
    by_cases hd : d = 1
    · obtain rfl : false = b := by rw [← h, decide_eq_true hd]; rfl
      subst hd
      clear hs ea hz h
      go_enter Try.func15, Try.ntmps15
      go_wp2_with fail
      refine (split_is (unhide HZ) (unhide HA) (unhide HS) _).mono ?_
      rintro e w' ⟨rfl, rfl⟩
      go_wp2
      go_ret
      exact ⟨rfl, rfl⟩
    · obtain rfl : true = b := by rw [← h, decide_eq_false hd]; rfl
      have q : ((d : Int) != 1) = true := by simp; omega
      clear hs ea hz h hd
      go_enter Try.func15, Try.ntmps15
      go_wp2_with fail
      refine (split_is (unhide HZ) (unhide HA) (unhide HS) _).mono ?_
      rintro e w' ⟨rfl, rfl⟩
      go_wp2
      go_ret
      exact ⟨rfl, rfl⟩

set_option maxHeartbeats 1000000 in
theorem hasnil_is {s : ByteArray} {a : List UInt8} {b : Bool} (ea : s.data.toList = a) (h : hasNil a = b) (w : World) :
    Calls Try.prog 28 #[.string s] w fun e w' => e = .returned (.bool b) ∧ w' = w := by
  subst ea
  have q0 := eqb s [105, 110, 116]
  have q1 := eqb s [98, 111, 111, 108]
  unfold hasNil tInt tBool at h
  by_cases c0 : s.data.toList = [105, 110, 116]
  · rw [decide_eq_true c0] at q0 h
    have hb : false = b := h
    subst hb
    clear h c0 q1
    go_enter Try.func28, Try.ntmps28
    go_wp2
    go_ret
    exact ⟨rfl, rfl⟩
  · rw [decide_eq_false c0] at q0 h
    by_cases c1 : s.data.toList = [98, 111, 111, 108]
    · rw [decide_eq_true c1] at q1 h
      have hb : false = b := h
      subst hb
      clear h c0 c1
      go_enter Try.func28, Try.ntmps28
      go_wp2
      go_ret
      exact ⟨rfl, rfl⟩
    · rw [decide_eq_false c1] at q1 h
      have hb : true = b := h
      subst hb
      clear h c0 c1
      go_enter Try.func28, Try.ntmps28
      go_wp2
      go_ret
      exact ⟨rfl, rfl⟩

theorem beq_B (x y : List UInt8) : ((B x).toList == (B y).toList) = decide (x = y) := by
  rw [Bool.eq_iff_iff, beq_iff_eq, decide_eq_true_eq, ByteArray.toList_eq, ByteArray.toList_eq, B_list, B_list]
theorem beq_l {s t : ByteArray} {a c : List UInt8} (ea : s.data.toList = a) (ec : t.data.toList = c) : (s.toList == t.toList) = decide (a = c) := by
  rw [Bool.eq_iff_iff, beq_iff_eq, decide_eq_true_eq, ByteArray.toList_eq, ByteArray.toList_eq, ea, ec]

set_option maxHeartbeats 1000000 in
theorem narrows_is {s t : ByteArray} {a c : List UInt8} {b : Bool} (hz : Fit s) (ea : s.data.toList = a) (hy : Fit t) (ec : t.data.toList = c) (h : narrows a c = b) (w : World) :
    Calls Try.prog 29 #[.string s, .string t] w fun e w' => e = .returned (.bool b) ∧ w' = w := by
  have HA := hide ea
  have HZ := hide hz
  have HC := hide ec
  have HY := hide hy
  clear ea hz ec hy
  unfold narrows at h
  cases hs : splt a with
  | none =>
    rw [hs] at h
    have HS := hide hs
    obtain rfl : false = b := by cases hx : splt c <;> (rw [hx] at h; exact h)
    clear hs h
    go_enter Try.func29, Try.ntmps29
    go_wp2_with fail
    refine (split_no (unhide HZ) (unhide HA) (unhide HS) _).mono ?_
    rintro e w' ⟨rfl, rfl⟩
    go_wp2
    go_ret
    exact ⟨rfl, rfl⟩
  | some p =>
    obtain ⟨d, x⟩ := p
    rw [hs] at h
    have HS := hide hs
    clear hs
    by_cases hd : d = 0
    · subst hd
      cases ht : splt c with
      | none =>
        rw [ht] at h
        have HT := hide ht
        have hb : false = b := h
        subst hb
        clear ht h
        go_enter Try.func29, Try.ntmps29
        go_wp2_with fail
        refine (split_is (unhide HZ) (unhide HA) (unhide HS) _).mono ?_
        rintro e w' ⟨rfl, rfl⟩
        go_wp2_with fail
        refine (split_no (unhide HY) (unhide HC) (unhide HT) _).mono ?_
        rintro e w' ⟨rfl, rfl⟩
        go_wp2
        go_ret
        exact ⟨rfl, rfl⟩
      | some q =>
        obtain ⟨d', x'⟩ := q
        rw [ht] at h
        have HT := hide ht
        have hq := beq_B x x'
        have hb : decide (x = x') = b := by rw [← h]; simp
        rw [hb] at hq
        clear ht h hb
        go_enter Try.func29, Try.ntmps29
        go_wp2_with fail
        refine (split_is (unhide HZ) (unhide HA) (unhide HS) _).mono ?_
        rintro e w' ⟨rfl, rfl⟩
        go_wp2_with fail
        refine (split_is (unhide HY) (unhide HC) (unhide HT) _).mono ?_
        rintro e w' ⟨rfl, rfl⟩
        go_wp2
        go_ret
        exact ⟨rfl, rfl⟩
    · have q : ((d : Int) == 0) = false := by simp; omega
      obtain rfl : false = b := by
        cases hx : splt c with
        | none => rw [hx] at h; exact h
        | some p => obtain ⟨d', x'⟩ := p; rw [hx] at h; rw [← h]; simp [hd]
      clear h hd
      go_enter Try.func29, Try.ntmps29
      go_wp2_with fail
      refine (split_is (unhide HZ) (unhide HA) (unhide HS) _).mono ?_
      rintro e w' ⟨rfl, rfl⟩
      go_wp2
      go_ret
      exact ⟨rfl, rfl⟩

set_option maxHeartbeats 1000000 in
theorem asg_is {s t : ByteArray} {a c : List UInt8} {b : Bool} (hz : Fit s) (ea : s.data.toList = a) (hy : Fit t) (ec : t.data.toList = c) (h : asg a c = b) (w : World) :
    Calls Try.prog 16 #[.string s, .string t] w fun e w' => e = .returned (.bool b) ∧ w' = w := by
  have HA := hide ea
  have HZ := hide hz
  have HC := hide ec
  have HY := hide hy
  have q1 := beq_l ea ec
  have q2 := eqb s [110, 105, 108]
  rw [ea] at q2
  clear ea hz ec hy
  unfold asg at h
  cases hr : right c
  · rw [hr] at h
    have hb : false = b := h
    subst hb
    have HR := hide hr
    clear hr h q1 q2
    go_enter Try.func16, Try.ntmps16
    go_wp2_with fail
    refine (right_is (unhide HY) (unhide HC) (unhide HR) _).mono ?_
    rintro e w' ⟨rfl, rfl⟩
    go_wp2
    go_ret
    exact ⟨rfl, rfl⟩
  · rw [hr, Bool.true_and] at h
    have HR := hide hr
    clear hr
    by_cases e1 : a = c
    · rw [decide_eq_true e1] at q1 h
      have hb : true = b := h
      subst hb
      clear h e1 q2
      go_enter Try.func16, Try.ntmps16
      go_wp2_with fail
      refine (right_is (unhide HY) (unhide HC) (unhide HR) _).mono ?_
      rintro e w' ⟨rfl, rfl⟩
      go_wp2
      go_ret
      exact ⟨rfl, rfl⟩
    · rw [decide_eq_false e1] at q1 h
      rw [Bool.false_or] at h
      by_cases e2 : a = tNil
      · rw [if_pos e2] at h
        rw [show decide (a = [110, 105, 108]) = true from decide_eq_true e2] at q2
        have HN := hide h
        clear h e1 e2
        go_enter Try.func16, Try.ntmps16
        go_wp2_with fail
        refine (right_is (unhide HY) (unhide HC) (unhide HR) _).mono ?_
        rintro e w' ⟨rfl, rfl⟩
        go_wp2_with fail
        refine (hasnil_is (unhide HC) (unhide HN) _).mono ?_
        rintro e w' ⟨rfl, rfl⟩
        go_wp2
        go_ret
        exact ⟨rfl, rfl⟩
      · rw [if_neg e2] at h
        rw [show decide (a = [110, 105, 108]) = false from decide_eq_false e2] at q2
        have HN := hide h
        clear h e1 e2
        go_enter Try.func16, Try.ntmps16
        go_wp2_with fail
        refine (right_is (unhide HY) (unhide HC) (unhide HR) _).mono ?_
        rintro e w' ⟨rfl, rfl⟩
        go_wp2_with fail
        refine (narrows_is (unhide HZ) (unhide HA) (unhide HY) (unhide HC) (unhide HN) _).mono ?_
        rintro e w' ⟨rfl, rfl⟩
        go_wp2
        go_ret
        exact ⟨rfl, rfl⟩

set_option maxHeartbeats 1000000 in
theorem cmps_is {s t : ByteArray} {a c : List UInt8} {b : Bool} (hz : Fit s) (ea : s.data.toList = a) (hy : Fit t) (ec : t.data.toList = c) (h : cmps a c = b) (w : World) :
    Calls Try.prog 17 #[.string s, .string t] w fun e w' => e = .returned (.bool b) ∧ w' = w := by
  have HA := hide ea
  have HZ := hide hz
  have HC := hide ec
  have HY := hide hy
  clear ea hz ec hy
  unfold cmps at h
  cases h1 : asg a c
  · rw [h1, Bool.false_or] at h
    have H1 := hide h1
    have H2 := hide h
    clear h1 h
    go_enter Try.func17, Try.ntmps17
    go_wp2_with fail
    refine (asg_is (unhide HZ) (unhide HA) (unhide HY) (unhide HC) (unhide H1) _).mono ?_
    rintro e w' ⟨rfl, rfl⟩
    go_wp2_with fail
    refine (asg_is (unhide HY) (unhide HC) (unhide HZ) (unhide HA) (unhide H2) _).mono ?_
    rintro e w' ⟨rfl, rfl⟩
    go_wp2
    go_ret
    exact ⟨rfl, rfl⟩
  · rw [h1] at h
    have hb : true = b := h
    subst hb
    have H1 := hide h1
    clear h1 h
    go_enter Try.func17, Try.ntmps17
    go_wp2_with fail
    refine (asg_is (unhide HZ) (unhide HA) (unhide HY) (unhide HC) (unhide H1) _).mono ?_
    rintro e w' ⟨rfl, rfl⟩
    go_wp2
    go_ret
    exact ⟨rfl, rfl⟩

end Go.Proofs.Ytkbgnbcphmkjkaa
