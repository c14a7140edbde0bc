/- The document's functions on types' texts, the exported ones. -/
import Derived.Test.YtkbgnbcphmkjkaaTyR
namespace Go.Proofs.Ytkbgnbcphmkjkaa
open Go.RowKit

/-- some draws more, else the same -/
def DN (w w' : World) : Prop := ∃ q, w' = w.drewN q

theorem DN.refl (w : World) : DN w w := ⟨0, rfl⟩
theorem DN.trans {a b c : World} (h : DN a b) (h' : DN b c) : DN a c := by
  obtain ⟨q, rfl⟩ := h
  obtain ⟨r, rfl⟩ := h'
  exact ⟨_, by rw [World.drewN_drewN]⟩
theorem DN.below {a b : World} (h : DN a b) : Below a.heap.size a b := by
  obtain ⟨q, rfl⟩ := h
  exact below_drewN a q

theorem rsplit_len (l : List UInt8) : (rsplit l).2.1.length ≤ l.length := by
  unfold rsplit
  repeat' split
  all_goals simp [inn]
  all_goals try omega

set_option maxHeartbeats 4000000 in
theorem rright_is {s : ByteArray} {a : List UInt8} {b : Bool} (hz : Fit s) (ea : s.data.toList = a) (h : right a = b) (w : World) :
    Calls Try.prog 12 #[.string s] w fun e w' => e = .returned (.bool b) ∧ DN w w' := by
  have HM := hide (show (meas 41 a).isSome = b from h)
  have HZ := hide hz
  have HA := hide ea
  clear h hz ea
  go_enter Try.func12, Try.ntmps12
  go_wp2
  go_loopw [0, 3] (fun t i wr => ∃ (k : Nat) (l : List UInt8), k ≤ 41 ∧ i = .int .i64 (k : Int) ∧ t = .string (B l) ∧ l.length ≤ 9223372036854775807 ∧ b = (meas (41 - k) l).isSome ∧ DN w wr) (fun _ i _ => 41 - (intOf i).toNat)
  case atStart => exact ⟨0, s.data.toList, by omega, rfl, rfl, by rw [← size_len]; exact (unhide HZ).le, by rw [unhide HA]; exact (unhide HM).symm, DN.refl _⟩
  case round =>
    obtain ⟨k, l, hk, rfl, rfl, hl, hm, hw⟩ := hrel
    have hz : Fit (B l) := ⟨by rw [B_size]; exact hl⟩
    have HZ := hide hz
    have HW := hide hw
    clear hz hw
    by_cases hlt : k < 41
    · have hkq : decide ((k : Int) ≤ 40) = true := decide_eq_true (by omega)
      obtain ⟨j, hj⟩ : ∃ j, 41 - k = j + 1 := ⟨40 - k, by omega⟩
      rw [hj] at hm
      cases hb : base l
      · have HB := hide hb
        obtain ⟨d, x, b', hr⟩ : ∃ d x b', rsplit l = (d, x, b') := ⟨_, _, _, rfl⟩
        have hs := right_step (n := j) hb
        have hxl := rsplit_len l
        rw [hr] at hs hxl
        have hs : (meas (j + 1) l).isSome = (b' && (meas j x).isSome) := hs
        have hxl : x.length ≤ l.length := hxl
        have HR := hide hr
        cases b'
        · have E := hide (show false = b by rw [hm, hs]; rfl)
          clear hm hb hj hl hs hr hxl
          go_wp2_with fail
          refine (plain_is (B_list l) (unhide HB) _).mono ?_
          rintro e w' ⟨rfl, rfl⟩
          go_wp2_with fail
          refine (rsplit_is (unhide HZ) (B_list l) (unhide HR) _).mono ?_
          rintro e w1 ⟨rfl, d1⟩
          have D1 := hide d1
          clear d1
          go_wp2
          go_ret
          exact ⟨ret_bool (unhide E), (unhide HW).trans (unhide D1)⟩
        · have E := hide (show x.length ≤ 9223372036854775807 ∧ b = (meas (41 - (k + 1)) x).isSome from ⟨by omega, by rw [hm, hs, show 41 - (k + 1) = j by omega]; rfl⟩)
          clear hm hb hj hl hs hr hxl
          go_wp2_with fail
          refine (plain_is (B_list l) (unhide HB) _).mono ?_
          rintro e w' ⟨rfl, rfl⟩
          go_wp2_with fail
          refine (rsplit_is (unhide HZ) (B_list l) (unhide HR) _).mono ?_
          rintro e w1 ⟨rfl, d1⟩
          have D1 := hide d1
          clear d1
          go_wp2
          go_roundw
          case rel => exact ⟨k + 1, x, by omega, by go_num, rfl, (unhide E).1, (unhide E).2, (unhide HW).trans (unhide D1)⟩
          case measure => simp [intOf]; omega
      · have HB := hide hb
        rw [meas_base hb] at hm
        have E := hide (show true = b by rw [hm]; rfl)
        clear hm hb hj hl
        go_wp2_with fail
        refine (plain_is (B_list l) (unhide HB) _).mono ?_
        rintro e w' ⟨rfl, rfl⟩
        go_wp2
        go_ret
        exact ⟨ret_bool (unhide E), unhide HW⟩
    · have e : k = 41 := by omega
      subst e
      have E := hide (show false = b by rw [hm]; rfl)
      clear hm hl
      go_wp2
      go_ret
      exact ⟨ret_bool (unhide E), unhide HW⟩

set_option maxHeartbeats 4000000 in
theorem rdepth_is {s : ByteArray} {a : List UInt8} {n : Nat} (hz : Fit s) (ea : s.data.toList = a) (h : depth a = n) (w : World) :
    Calls Try.prog 13 #[.string s] w fun e w' => e = .returned (.int .i64 (n : Int)) ∧ DN w w' := by
  have HZ := hide hz
  have HA := hide ea
  cases hr : right a
  · have HR := hide hr
    obtain rfl : n = 0 := by rw [← h]; exact (right_not hr).2
    clear h hz ea hr
    go_enter Try.func13, Try.ntmps13
    go_wp2_with fail
    refine (rright_is (unhide HZ) (unhide HA) (unhide HR) _).mono ?_
    rintro e w1 ⟨rfl, d1⟩
    have D1 := hide d1
    clear d1
    go_wp2
    go_ret
    exact ⟨rfl, (unhide D1)⟩
  · have HR := hide hr
    obtain ⟨D, h1, h2, h3⟩ := right_meas hr
    obtain rfl : n = D := by rw [← h, h2]
    have HM := hide h1
    clear h hz ea hr h1 h2
    go_enter Try.func13, Try.ntmps13
    go_wp2_with fail
    refine (rright_is (unhide HZ) (unhide HA) (unhide HR) _).mono ?_
    rintro e w0 ⟨rfl, d0⟩
    have D0 := hide d0
    clear d0
    go_wp2
    go_loopw [0, 4] (fun t i wr => ∃ (k : Nat) (l : List UInt8), k ≤ n ∧ i = .int .i64 (k : Int) ∧ t = .string (B l) ∧ l.length ≤ 9223372036854775807 ∧ meas (41 - k) l = some (n - k) ∧ DN w wr) (fun _ i _ => n - (intOf i).toNat)
    case atStart => exact ⟨0, s.data.toList, by omega, rfl, rfl, by rw [← size_len]; exact (unhide HZ).le, by rw [unhide HA]; exact (unhide HM), unhide D0⟩
    case round =>
      obtain ⟨k, l, hk, rfl, rfl, hl, hm, hw⟩ := hrel
      have hz : Fit (B l) := ⟨by rw [B_size]; exact hl⟩
      have HZ := hide hz
      have HW := hide hw
      clear hz hw
      obtain ⟨j, hj⟩ : ∃ j, 41 - k = j + 1 := ⟨40 - k, by omega⟩
      rw [hj] at hm
      obtain ⟨d, x, b', hr⟩ : ∃ d x b', rsplit l = (d, x, b') := ⟨_, _, _, rfl⟩
      have hs := depth_step hm
      have hxl := rsplit_len l
      rw [hr] at hs hxl
      have hxl : x.length ≤ l.length := hxl
      have HX := hide hr
      rcases hs with ⟨e1, e2⟩ | ⟨e1, y, e2, e3⟩
      · have e1 : b' = false := e1
        subst e1
        have e : k = n := by omega
        subst e
        clear hm hj hl hr hxl e2
        go_wp2_with fail
        refine (rsplit_is (unhide HZ) (B_list l) (unhide HX) _).mono ?_
        rintro e w1 ⟨rfl, d1⟩
        have D1 := hide d1
        clear d1
        go_wp2
        go_ret
        exact ⟨rfl, (unhide HW).trans (unhide D1)⟩
      · have e1 : b' = true := e1
        subst e1
        have hlt : k + 1 ≤ n := by omega
        have E := hide (show x.length ≤ 9223372036854775807 ∧ meas (41 - (k + 1)) x = some (n - (k + 1)) from ⟨by omega, by rw [show 41 - (k + 1) = j by omega, show n - (k + 1) = y by omega]; exact e3⟩)
        clear hm hj hl hr hxl e2 e3
        go_wp2_with fail
        refine (rsplit_is (unhide HZ) (B_list l) (unhide HX) _).mono ?_
        rintro e w1 ⟨rfl, d1⟩
        have D1 := hide d1
        clear d1
        go_wp2
        go_roundw
        case rel => exact ⟨k + 1, x, hlt, by go_num, rfl, (unhide E).1, (unhide E).2, (unhide HW).trans (unhide D1)⟩
        case measure => simp [intOf]; omega

set_option maxHeartbeats 1000000 in
theorem rsp_is {s : ByteArray} {a : List UInt8} {d : Nat} {x : List UInt8} (hz : Fit s) (ea : s.data.toList = a) (h : splt a = some (d, x)) (w : World) :
    Calls Try.prog 11 #[.string s] w fun e w' => e = .returned (.tuple #[.int .i64 (d : Int), .string (B x), .bool true]) ∧ DN w w' := by
  have HA := hide ea
  have HZ := hide hz
  have hr : right a = true := by
    unfold splt at h
    split at h
    · assumption
    · cases h
  have hp := rsplit_splt hr
  rw [h] at hp
  have HR := hide hr
  have HP := hide hp
  clear h hr ea hz hp
  go_enter Try.func11, Try.ntmps11
  go_wp2_with fail
  refine (rright_is (unhide HZ) (unhide HA) (unhide HR) _).mono ?_
  rintro e w1 ⟨rfl, d1⟩
  have D1 := hide d1
  clear d1
  go_wp2_with fail
  refine (rsplit_is (unhide HZ) (unhide HA) (unhide HP) _).mono ?_
  rintro e w2 ⟨rfl, d2⟩
  have D2 := hide d2
  clear d2
  go_wp2
  go_ret3
  exact ⟨rfl, ((unhide D1).trans (unhide D2))⟩

set_option maxHeartbeats 1000000 in
theorem rsp_no {s : ByteArray} {a : List UInt8} (hz : Fit s) (ea : s.data.toList = a) (h : splt a = none) (w : World) :
    Calls Try.prog 11 #[.string s] w fun e w' => e = .returned (.tuple #[.int .i64 0, .string ⟨#[]⟩, .bool false]) ∧ DN w w' := by
  have HA := hide ea
  have HZ := hide hz
  cases hr : right a
  · have HR := hide hr
    clear h hr ea hz
    go_enter Try.func11, Try.ntmps11
    go_wp2_with fail
    refine (rright_is (unhide HZ) (unhide HA) (unhide HR) _).mono ?_
    rintro e w1 ⟨rfl, d1⟩
    have D1 := hide d1
    clear d1
    go_wp2
    go_ret3
    exact ⟨rfl, (unhide D1)⟩
  · have hp := rsplit_splt hr
    rw [h] at hp
    have HR := hide hr
    have HP := hide hp
    clear h hr ea hz hp
    go_enter Try.func11, Try.ntmps11
    go_wp2_with fail
    refine (rright_is (unhide HZ) (unhide HA) (unhide HR) _).mono ?_
    rintro e w1 ⟨rfl, d1⟩
    have D1 := hide d1
    clear d1
    go_wp2_with fail
    refine (rsplit_is (unhide HZ) (unhide HA) (unhide HP) _).mono ?_
    rintro e w2 ⟨rfl, d2⟩
    have D2 := hide d2
    clear d2
    go_wp2
    go_ret3
    exact ⟨rfl, ((unhide D1).trans (unhide D2))⟩

set_option maxHeartbeats 1000000 in
theorem rchan_arg {s : ByteArray} {d : Int} (h : d < 0 ∨ 2 < d) (w : World) :
    Calls Try.prog 10 #[.int .i64 d, .string s] w fun e w' => e = .returned (.tuple #[.string ⟨#[]⟩, .int .i64 1]) ∧ DN w w' := by
  by_cases h1 : d < 0
  · clear h
    go_enter Try.func10, Try.ntmps10
    go_wp2
    go_ret2
    exact ⟨rfl, DN.refl _⟩
  · have h2 : 2 < d := by omega
    clear h
    go_enter Try.func10, Try.ntmps10
    go_wp2
    go_ret2
    exact ⟨rfl, DN.refl _⟩

set_option maxHeartbeats 1000000 in
theorem rchan_form {s : ByteArray} {a : List UInt8} {d : Int} (hz : Fit s) (ea : s.data.toList = a) (h0 : 0 ≤ d) (h2 : d ≤ 2) (h : right a = false ∨ depth a = 40) (w : World) :
    Calls Try.prog 10 #[.int .i64 d, .string s] w fun e w' => e = .returned (.tuple #[.string ⟨#[]⟩, .int .i64 61]) ∧ DN w w' := by
  have HA := hide ea
  have HZ := hide hz
  have q0 : decide (d < 0) = false := decide_eq_false (by omega)
  have q2 : decide (2 < d) = false := decide_eq_false (by omega)
  cases hr : right a
  · have HR := hide hr
    clear h hz ea hr
    go_enter Try.func10, Try.ntmps10
    go_wp2_with fail
    refine (rright_is (unhide HZ) (unhide HA) (unhide HR) _).mono ?_
    rintro e w1 ⟨rfl, d1⟩
    have D1 := hide d1
    clear d1
    go_wp2
    go_ret2
    exact ⟨rfl, (unhide D1)⟩
  · have HR := hide hr
    have HD := hide (show depth a = 40 by rcases h with h | h; rw [hr] at h; cases h; exact h)
    clear h hz ea hr
    go_enter Try.func10, Try.ntmps10
    go_wp2_with fail
    refine (rright_is (unhide HZ) (unhide HA) (unhide HR) _).mono ?_
    rintro e w1 ⟨rfl, d1⟩
    have D1 := hide d1
    clear d1
    go_wp2_with fail
    refine (rdepth_is (unhide HZ) (unhide HA) (unhide HD) _).mono ?_
    rintro e w2 ⟨rfl, d2⟩
    have D2 := hide d2
    clear d2
    go_wp2
    go_ret2
    exact ⟨rfl, ((unhide D1).trans (unhide D2))⟩

set_option maxHeartbeats 1000000 in
theorem rchan_ok {s : ByteArray} {a : List UInt8} {d : Nat} (hz : Fit s) (ea : s.data.toList = a) (hd : d ≤ 2) (h : right a = true) (h4 : depth a ≠ 40) (w : World) :
    Calls Try.prog 10 #[.int .i64 (d : Int), .string s] w fun e w' => e = .returned (.tuple #[.string (B (mk d a)), .int .i64 0]) ∧ DN w w' := by
  have HA := hide ea
  have HZ := hide hz
  have hl := right_len h
  rw [← ea, ← size_len] at hl
  obtain ⟨k, hk⟩ : ∃ k, depth a = k := ⟨_, rfl⟩
  have q4 : ((k : Int) == 40) = false := by simp; omega
  have HR := hide h
  have HD := hide hk
  clear hk h4 h hz
  obtain rfl | rfl | rfl : d = 0 ∨ d = 1 ∨ d = 2 := by omega
  · cases hh : hp ar a
    · have HH := hide hh
      have E := hide (mk0 s ea hh)
      clear hh ea
      go_enter Try.func10, Try.ntmps10
      go_wp2_with fail
      refine (rright_is (unhide HZ) (unhide HA) (unhide HR) _).mono ?_
      rintro e w1 ⟨rfl, d1⟩
      have D1 := hide d1
      clear d1
      go_wp2_with fail
      refine (rdepth_is (unhide HZ) (unhide HA) (unhide HD) _).mono ?_
      rintro e w2 ⟨rfl, d2⟩
      have D2 := hide d2
      clear d2
      go_wp2_with fail
      refine (begins_is (unhide HA) lar (unhide HH) _).mono ?_
      rintro e w' ⟨rfl, rfl⟩
      go_wp2
      go_ret2
      exact ⟨by rw [← unhide E]; rfl, ((unhide D1).trans (unhide D2))⟩
    · have HH := hide hh
      have E := hide (mk0b s ea hh)
      clear hh ea
      go_enter Try.func10, Try.ntmps10
      go_wp2_with fail
      refine (rright_is (unhide HZ) (unhide HA) (unhide HR) _).mono ?_
      rintro e w1 ⟨rfl, d1⟩
      have D1 := hide d1
      clear d1
      go_wp2_with fail
      refine (rdepth_is (unhide HZ) (unhide HA) (unhide HD) _).mono ?_
      rintro e w2 ⟨rfl, d2⟩
      have D2 := hide d2
      clear d2
      go_wp2_with fail
      refine (begins_is (unhide HA) lar (unhide HH) _).mono ?_
      rintro e w' ⟨rfl, rfl⟩
      go_wp2
      go_ret2
      exact ⟨by rw [← unhide E]; rfl, ((unhide D1).trans (unhide D2))⟩
  · skip
    have E := hide (mk1 s ea)
    clear ea
    go_enter Try.func10, Try.ntmps10
    go_wp2_with fail
    refine (rright_is (unhide HZ) (unhide HA) (unhide HR) _).mono ?_
    rintro e w1 ⟨rfl, d1⟩
    have D1 := hide d1
    clear d1
    go_wp2_with fail
    refine (rdepth_is (unhide HZ) (unhide HA) (unhide HD) _).mono ?_
    rintro e w2 ⟨rfl, d2⟩
    have D2 := hide d2
    clear d2
    go_wp2
    go_ret2
    exact ⟨by rw [← unhide E]; rfl, ((unhide D1).trans (unhide D2))⟩
  · skip
    have E := hide (mk2 s ea)
    clear ea
    go_enter Try.func10, Try.ntmps10
    go_wp2_with fail
    refine (rright_is (unhide HZ) (unhide HA) (unhide HR) _).mono ?_
    rintro e w1 ⟨rfl, d1⟩
    have D1 := hide d1
    clear d1
    go_wp2_with fail
    refine (rdepth_is (unhide HZ) (unhide HA) (unhide HD) _).mono ?_
    rintro e w2 ⟨rfl, d2⟩
    have D2 := hide d2
    clear d2
    go_wp2
    go_ret2
    exact ⟨by rw [← unhide E]; rfl, ((unhide D1).trans (unhide D2))⟩

set_option maxHeartbeats 1000000 in
theorem rsends_is {s : ByteArray} {a : List UInt8} {b : Bool} (hz : Fit s) (ea : s.data.toList = a) (h : sends a = b) (w : World) :
    Calls Try.prog 18 #[.string s] w fun e w' => e = .returned (.bool b) ∧ DN w w' := by
  have HA := hide ea
  have HZ := hide hz
  unfold sends at h
  cases hs : splt a with
  | none =>
    rw [hs] at h
    have HS := hide hs
    have hb : false = b := h
    subst hb
    clear hs ea hz h
    go_enter Try.func18, Try.ntmps18
    go_wp2_with fail
    refine (rsp_no (unhide HZ) (unhide HA) (unhide HS) _).mono ?_
    rintro e w1 ⟨rfl, d1⟩
    have D1 := hide d1
    clear d1
    go_wp2
    go_ret
    exact ⟨rfl, (unhide D1)⟩
  | some p =>
    obtain ⟨d, x⟩ := p
    rw [hs] at h
    replace h : (!decide (d = 2)) = b := h
    have HS := hide hs
    by_cases hd : d = 2
    · obtain rfl : false = b := by rw [← h, decide_eq_true hd]; rfl
      subst hd
      clear hs ea hz h
      go_enter Try.func18, Try.ntmps18
      go_wp2_with fail
      refine (rsp_is (unhide HZ) (unhide HA) (unhide HS) _).mono ?_
      rintro e w1 ⟨rfl, d1⟩
      have D1 := hide d1
      clear d1
      go_wp2
      go_ret
      exact ⟨rfl, (unhide D1)⟩
    · obtain rfl : true = b := by rw [← h, decide_eq_false hd]; rfl
      have q : ((d : Int) != 2) = true := by simp; omega
      clear hs ea hz h hd
      go_enter Try.func18, Try.ntmps18
      go_wp2_with fail
      refine (rsp_is (unhide HZ) (unhide HA) (unhide HS) _).mono ?_
      rintro e w1 ⟨rfl, d1⟩
      have D1 := hide d1
      clear d1
      go_wp2
      go_ret
      exact ⟨rfl, (unhide D1)⟩

set_option maxHeartbeats 1000000 in
theorem rrecvs_is {s : ByteArray} {a : List UInt8} {b : Bool} (hz : Fit s) (ea : s.data.toList = a) (h : recvs a = b) (w : World) :
    Calls Try.prog 19 #[.string s] w fun e w' => e = .returned (.bool b) ∧ DN w w' := by
  have HA := hide ea
  have HZ := hide hz
  unfold recvs at h
  cases hs : splt a with
  | none =>
    rw [hs] at h
    have HS := hide hs
    have hb : false = b := h
    subst hb
    clear hs ea hz h
    go_enter Try.func19, Try.ntmps19
    go_wp2_with fail
    refine (rsp_no (unhide HZ) (unhide HA) (unhide HS) _).mono ?_
    rintro e w1 ⟨rfl, d1⟩
    have D1 := hide d1
    clear d1
    go_wp2
    go_ret
    exact ⟨rfl, (unhide D1)⟩
  | some p =>
    obtain ⟨d, x⟩ := p
    rw [hs] at h
    replace h : (!decide (d = 1)) = b := h
    have HS := hide hs
    by_cases hd : d = 1
    · obtain rfl : false = b := by rw [← h, decide_eq_true hd]; rfl
      subst hd
      clear hs ea hz h
      go_enter Try.func19, Try.ntmps19
      go_wp2_with fail
      refine (rsp_is (unhide HZ) (unhide HA) (unhide HS) _).mono ?_
      rintro e w1 ⟨rfl, d1⟩
      have D1 := hide d1
      clear d1
      go_wp2
      go_ret
      exact ⟨rfl, (unhide D1)⟩
    · obtain rfl : true = b := by rw [← h, decide_eq_false hd]; rfl
      have q : ((d : Int) != 1) = true := by simp; omega
      clear hs ea hz h hd
      go_enter Try.func19, Try.ntmps19
      go_wp2_with fail
      refine (rsp_is (unhide HZ) (unhide HA) (unhide HS) _).mono ?_
      rintro e w1 ⟨rfl, d1⟩
      have D1 := hide d1
      clear d1
      go_wp2
      go_ret
      exact ⟨rfl, (unhide D1)⟩

set_option maxHeartbeats 2000000 in
theorem rasg_is {s t : ByteArray} {a c : List UInt8} {b : Bool} (hz : Fit s) (ea : s.data.toList = a) (hy : Fit t) (ec : t.data.toList = c) (h : asg a c = b) (w : World) :
    Calls Try.prog 20 #[.string s, .string t] w fun e w' => e = .returned (.bool b) ∧ DN w w' := by
  have HA := hide ea
  have HZ := hide hz
  have HC := hide ec
  have HY := hide hy
  have q1 := beq_l ea ec
  have q2 := eqb s [110, 105, 108]
  have q3 := eqb t [77, 117, 116, 101, 120]
  have q4 := eqb t [87, 97, 105, 116, 71, 114, 111, 117, 112]
  rw [ea] at q2
  rw [ec] at q3 q4
  clear ea hz ec hy
  unfold asg at h
  cases hr : right c
  · rw [hr] at h
    have hb : false = b := h
    subst hb
    have HR := hide hr
    clear hr h q1 q2 q3 q4
    go_enter Try.func20, Try.ntmps20
    go_wp2_with fail
    refine (rright_is (unhide HY) (unhide HC) (unhide HR) _).mono ?_
    rintro e w1 ⟨rfl, d1⟩
    have D1 := hide d1
    clear d1
    go_wp2
    go_ret
    exact ⟨rfl, (unhide D1)⟩
  · rw [hr, Bool.true_and] at h
    have HR := hide hr
    have hn := hasNil_of hr
    clear hr
    by_cases e1 : a = c
    · rw [decide_eq_true e1] at q1 h
      have hb : true = b := h
      subst hb
      clear h e1 q2 q3 q4 hn
      go_enter Try.func20, Try.ntmps20
      go_wp2_with fail
      refine (rright_is (unhide HY) (unhide HC) (unhide HR) _).mono ?_
      rintro e w1 ⟨rfl, d1⟩
      have D1 := hide d1
      clear d1
      go_wp2
      go_ret
      exact ⟨rfl, (unhide D1)⟩
    · rw [decide_eq_false e1] at q1 h
      rw [Bool.false_or] at h
      have hw := narrows_of e1
      by_cases e2 : a = tNil
      · rw [if_pos e2] at h
        rw [show decide (a = [110, 105, 108]) = true from decide_eq_true e2] at q2
        rw [h] at hn
        cases hs : splt c with
        | none =>
          have HS := hide hs
          rw [hs] at hn
          replace hn : b = (false || decide (c = [77, 117, 116, 101, 120]) || decide (c = [87, 97, 105, 116, 71, 114, 111, 117, 112])) := hn
          rw [Bool.false_or] at hn
          by_cases g1 : c = [77, 117, 116, 101, 120]
          · rw [decide_eq_true g1] at q3 hn
            have hb : true = b := hn.symm
            subst hb
            clear h e1 e2 hs hn hw q4 g1
            go_enter Try.func20, Try.ntmps20
            go_wp2_with fail
            refine (rright_is (unhide HY) (unhide HC) (unhide HR) _).mono ?_
            rintro e w1 ⟨rfl, d1⟩
            have D1 := hide d1
            clear d1
            go_wp2_with fail
            refine (rsp_no (unhide HY) (unhide HC) (unhide HS) _).mono ?_
            rintro e w2 ⟨rfl, d2⟩
            have D2 := hide d2
            clear d2
            go_wp2
            go_ret
            exact ⟨rfl, ((unhide D1).trans (unhide D2))⟩
          · rw [decide_eq_false g1] at q3 hn
            rw [Bool.false_or] at hn
            rw [← hn] at q4
            clear h e1 e2 hs hn hw g1
            go_enter Try.func20, Try.ntmps20
            go_wp2_with fail
            refine (rright_is (unhide HY) (unhide HC) (unhide HR) _).mono ?_
            rintro e w1 ⟨rfl, d1⟩
            have D1 := hide d1
            clear d1
            go_wp2_with fail
            refine (rsp_no (unhide HY) (unhide HC) (unhide HS) _).mono ?_
            rintro e w2 ⟨rfl, d2⟩
            have D2 := hide d2
            clear d2
            go_wp2
            go_ret
            exact ⟨rfl, ((unhide D1).trans (unhide D2))⟩
        | some p =>
          obtain ⟨d, x⟩ := p
          have HS := hide hs
          rw [hs] at hn
          have hb : true = b := by rw [hn]; rfl
          subst hb
          clear h e1 e2 hs hn hw q3 q4
          go_enter Try.func20, Try.ntmps20
          go_wp2_with fail
          refine (rright_is (unhide HY) (unhide HC) (unhide HR) _).mono ?_
          rintro e w1 ⟨rfl, d1⟩
          have D1 := hide d1
          clear d1
          go_wp2_with fail
          refine (rsp_is (unhide HY) (unhide HC) (unhide HS) _).mono ?_
          rintro e w2 ⟨rfl, d2⟩
          have D2 := hide d2
          clear d2
          go_wp2
          go_ret
          exact ⟨rfl, ((unhide D1).trans (unhide D2))⟩
      · rw [if_neg e2] at h
        rw [show decide (a = [110, 105, 108]) = false from decide_eq_false e2] at q2
        rw [h] at hw
        clear hn q3 q4 h e1 e2
        cases hs : splt c with
        | none =>
          have HS := hide hs
          have hb : false = b := by
            rw [hw, hs]
            cases splt a <;> rfl
          subst hb
          cases ht : splt a with
          | none =>
            have HT := hide ht
            clear hs hw ht
            go_enter Try.func20, Try.ntmps20
            go_wp2_with fail
            refine (rright_is (unhide HY) (unhide HC) (unhide HR) _).mono ?_
            rintro e w1 ⟨rfl, d1⟩
            have D1 := hide d1
            clear d1
            go_wp2_with fail
            refine (rsp_no (unhide HY) (unhide HC) (unhide HS) _).mono ?_
            rintro e w2 ⟨rfl, d2⟩
            have D2 := hide d2
            clear d2
            go_wp2_with fail
            refine (rsp_no (unhide HZ) (unhide HA) (unhide HT) _).mono ?_
            rintro e w3 ⟨rfl, d3⟩
            have D3 := hide d3
            clear d3
            go_wp2
            go_ret
            exact ⟨rfl, (((unhide D1).trans (unhide D2)).trans (unhide D3))⟩
          | some p =>
            obtain ⟨k, f⟩ := p
            have HT := hide ht
            clear hs hw ht
            go_enter Try.func20, Try.ntmps20
            go_wp2_with fail
            refine (rright_is (unhide HY) (unhide HC) (unhide HR) _).mono ?_
            rintro e w1 ⟨rfl, d1⟩
            have D1 := hide d1
            clear d1
            go_wp2_with fail
            refine (rsp_no (unhide HY) (unhide HC) (unhide HS) _).mono ?_
            rintro e w2 ⟨rfl, d2⟩
            have D2 := hide d2
            clear d2
            go_wp2_with fail
            refine (rsp_is (unhide HZ) (unhide HA) (unhide HT) _).mono ?_
            rintro e w3 ⟨rfl, d3⟩
            have D3 := hide d3
            clear d3
            go_wp2
            go_ret
            exact ⟨rfl, (((unhide D1).trans (unhide D2)).trans (unhide D3))⟩
        | some p =>
          obtain ⟨d, x⟩ := p
          have HS := hide hs
          rw [hs] at hw
          clear hs
          cases ht : splt a with
          | none =>
            have HT := hide ht
            rw [ht] at hw
            have hb : false = b := hw.symm
            subst hb
            clear hw ht
            go_enter Try.func20, Try.ntmps20
            go_wp2_with fail
            refine (rright_is (unhide HY) (unhide HC) (unhide HR) _).mono ?_
            rintro e w1 ⟨rfl, d1⟩
            have D1 := hide d1
            clear d1
            go_wp2_with fail
            refine (rsp_is (unhide HY) (unhide HC) (unhide HS) _).mono ?_
            rintro e w2 ⟨rfl, d2⟩
            have D2 := hide d2
            clear d2
            go_wp2_with fail
            refine (rsp_no (unhide HZ) (unhide HA) (unhide HT) _).mono ?_
            rintro e w3 ⟨rfl, d3⟩
            have D3 := hide d3
            clear d3
            go_wp2
            go_ret
            exact ⟨rfl, (((unhide D1).trans (unhide D2)).trans (unhide D3))⟩
          | some p =>
            obtain ⟨k, f⟩ := p
            have HT := hide ht
            rw [ht] at hw
            replace hw : b = (decide (k = 0) && !decide (d = 0) && decide (x = f)) := hw
            clear ht
            by_cases k0 : k = 0
            · by_cases d0 : d = 0
              · have hb : false = b := by rw [hw, decide_eq_true d0]; simp
                subst hb
                subst k0
                subst d0
                clear hw
                go_enter Try.func20, Try.ntmps20
                go_wp2_with fail
                refine (rright_is (unhide HY) (unhide HC) (unhide HR) _).mono ?_
                rintro e w1 ⟨rfl, d1⟩
                have D1 := hide d1
                clear d1
                go_wp2_with fail
                refine (rsp_is (unhide HY) (unhide HC) (unhide HS) _).mono ?_
                rintro e w2 ⟨rfl, d2⟩
                have D2 := hide d2
                clear d2
                go_wp2_with fail
                refine (rsp_is (unhide HZ) (unhide HA) (unhide HT) _).mono ?_
                rintro e w3 ⟨rfl, d3⟩
                have D3 := hide d3
                clear d3
                go_wp2
                go_ret
                exact ⟨rfl, (((unhide D1).trans (unhide D2)).trans (unhide D3))⟩
              · have q5 : ((d : Int) != 0) = true := by simp; omega
                have q6 := beq_B x f
                have hb : decide (x = f) = b := by rw [hw, decide_eq_true k0, decide_eq_false d0]; rfl
                rw [hb] at q6
                subst k0
                clear hw hb d0
                go_enter Try.func20, Try.ntmps20
                go_wp2_with fail
                refine (rright_is (unhide HY) (unhide HC) (unhide HR) _).mono ?_
                rintro e w1 ⟨rfl, d1⟩
                have D1 := hide d1
                clear d1
                go_wp2_with fail
                refine (rsp_is (unhide HY) (unhide HC) (unhide HS) _).mono ?_
                rintro e w2 ⟨rfl, d2⟩
                have D2 := hide d2
                clear d2
                go_wp2_with fail
                refine (rsp_is (unhide HZ) (unhide HA) (unhide HT) _).mono ?_
                rintro e w3 ⟨rfl, d3⟩
                have D3 := hide d3
                clear d3
                go_wp2
                go_ret
                exact ⟨rfl, (((unhide D1).trans (unhide D2)).trans (unhide D3))⟩
            · have q5 : ((k : Int) == 0) = false := by simp; omega
              have hb : false = b := by rw [hw, decide_eq_false k0]; rfl
              subst hb
              clear hw k0
              go_enter Try.func20, Try.ntmps20
              go_wp2_with fail
              refine (rright_is (unhide HY) (unhide HC) (unhide HR) _).mono ?_
              rintro e w1 ⟨rfl, d1⟩
              have D1 := hide d1
              clear d1
              go_wp2_with fail
              refine (rsp_is (unhide HY) (unhide HC) (unhide HS) _).mono ?_
              rintro e w2 ⟨rfl, d2⟩
              have D2 := hide d2
              clear d2
              go_wp2_with fail
              refine (rsp_is (unhide HZ) (unhide HA) (unhide HT) _).mono ?_
              rintro e w3 ⟨rfl, d3⟩
              have D3 := hide d3
              clear d3
              go_wp2
              go_ret
              exact ⟨rfl, (((unhide D1).trans (unhide D2)).trans (unhide D3))⟩

set_option maxHeartbeats 1000000 in
theorem rcmps_is {s t : ByteArray} {a c : List UInt8} {b : Bool} (hz : Fit s) (ea : s.data.toList = a) (hy : Fit t) (ec : t.data.toList = c) (h : cmps a c = b) (w : World) :
    Calls Try.prog 21 #[.string s, .string t] w fun e w' => e = .returned (.bool b) ∧ DN w w' := by
  have HA := hide ea
  have HZ := hide hz
  have HC := hide ec
  have HY := hide hy
  clear ea hz ec hy
  unfold cmps at h
  obtain ⟨b1, h1⟩ : ∃ b1, asg a c = b1 := ⟨_, rfl⟩
  obtain ⟨b2, h2⟩ : ∃ b2, asg c a = b2 := ⟨_, rfl⟩
  rw [h1, h2] at h
  have H1 := hide h1
  have H2 := hide h2
  subst h
  clear h1 h2
  cases b1
  · skip
    go_enter Try.func21, Try.ntmps21
    go_wp2_with fail
    refine (rasg_is (unhide HZ) (unhide HA) (unhide HY) (unhide HC) (unhide H1) _).mono ?_
    rintro e w1 ⟨rfl, d1⟩
    have D1 := hide d1
    clear d1
    go_wp2_with fail
    refine (rasg_is (unhide HY) (unhide HC) (unhide HZ) (unhide HA) (unhide H2) _).mono ?_
    rintro e w2 ⟨rfl, d2⟩
    have D2 := hide d2
    clear d2
    go_wp2
    go_ret
    exact ⟨rfl, ((unhide D1).trans (unhide D2))⟩
  · skip
    go_enter Try.func21, Try.ntmps21
    go_wp2_with fail
    refine (rasg_is (unhide HZ) (unhide HA) (unhide HY) (unhide HC) (unhide H1) _).mono ?_
    rintro e w1 ⟨rfl, d1⟩
    have D1 := hide d1
    clear d1
    go_wp2_with fail
    refine (rasg_is (unhide HY) (unhide HC) (unhide HZ) (unhide HA) (unhide H2) _).mono ?_
    rintro e w2 ⟨rfl, d2⟩
    have D2 := hide d2
    clear d2
    go_wp2
    go_ret
    exact ⟨rfl, ((unhide D1).trans (unhide D2))⟩

end Go.Proofs.Ytkbgnbcphmkjkaa
