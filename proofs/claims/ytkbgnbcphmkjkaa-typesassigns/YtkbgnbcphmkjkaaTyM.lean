/- A type's text taken apart and measured: the program's. -/
import Derived.Test.YtkbgnbcphmkjkaaTyP
namespace Go.Proofs.Ytkbgnbcphmkjkaa
open Go.RowKit

theorem cp_is (s p X : ByteArray) (hb : hp p.data.toList s.data.toList = true) (hX : B (s.data.toList.drop p.size) = X) (w : World) :
    Calls Try.prog 32 #[.string s, .string p] w fun e w' => e = .returned (.tuple #[.string X, .bool true]) ∧ w' = w := by
  subst hX; exact cp_yes s p hb w
theorem cs_is (s p X : ByteArray) (hb : hs p.data.toList s.data.toList = true) (hz : s.size ≤ 9223372036854775807) (hX : B (s.data.toList.take (s.size - p.size)) = X) (w : World) :
    Calls Try.prog 35 #[.string s, .string p] w fun e w' => e = .returned (.tuple #[.string X, .bool true]) ∧ w' = w := by
  subst hX; exact cs_yes s p hb w hz

/-- a text that some memory bears -/
structure Fit (s : ByteArray) : Prop where
  le : s.size ≤ 9223372036854775807

theorem Fit.drop {s : ByteArray} (h : Fit s) (k : Nat) : Fit (B (s.data.toList.drop k)) := ⟨by
  have := h.le
  rw [B_size, List.length_drop, ← size_len]
  omega⟩

theorem xp_no {s p : ByteArray} {a b : List UInt8} (ea : s.data.toList = a) (eb : p.data.toList = b) (h : hp b a = false) (w : World) :
    Calls Try.prog 32 #[.string s, .string p] w fun e w' => e = .returned (.tuple #[.string s, .bool false]) ∧ w' = w := by
  subst ea eb; exact cp_no s p h w
theorem xp_is {s p X : ByteArray} {a b : List UInt8} {n : Nat} (ea : s.data.toList = a) (eb : p.data.toList = b) (h : hp b a = true) (hn : p.size = n) (hX : B (a.drop n) = X) (w : World) :
    Calls Try.prog 32 #[.string s, .string p] w fun e w' => e = .returned (.tuple #[.string X, .bool true]) ∧ w' = w := by
  subst ea eb hn; exact cp_is s p X h hX w
theorem xs_no {s p : ByteArray} {a b : List UInt8} (ea : s.data.toList = a) (eb : p.data.toList = b) (h : hs b a = false) (hz : Fit s) (w : World) :
    Calls Try.prog 35 #[.string s, .string p] w fun e w' => e = .returned (.tuple #[.string s, .bool false]) ∧ w' = w := by
  subst ea eb; exact cs_no s p h w hz.le
theorem xs_is {s p X : ByteArray} {a b : List UInt8} {n : Nat} (ea : s.data.toList = a) (eb : p.data.toList = b) (h : hs b a = true) (hz : Fit s) (hn : s.size - p.size = n) (hX : B (a.take n) = X) (w : World) :
    Calls Try.prog 35 #[.string s, .string p] w fun e w' => e = .returned (.tuple #[.string X, .bool true]) ∧ w' = w := by
  subst ea eb hn; exact cs_is s p X h hz.le hX w
theorem xh_is {s p : ByteArray} {a b : List UInt8} {c : Bool} (ea : s.data.toList = a) (eb : p.data.toList = b) (h : hp b a = c) (w : World) :
    Calls Try.prog 23 #[.string s, .string p] w fun e w' => e = .returned (.bool c) ∧ w' = w := by
  subst ea eb; exact shp_any s p c h w

theorem l40 : (⟨#[40]⟩ : ByteArray).data.toList = [40] := rfl
theorem l41 : (⟨#[41]⟩ : ByteArray).data.toList = [41] := rfl
theorem lar : (⟨#[60, 45]⟩ : ByteArray).data.toList = ar := rfl
theorem lpS : (⟨#[99, 104, 97, 110, 60, 45, 32]⟩ : ByteArray).data.toList = pS := rfl
theorem lpR : (⟨#[60, 45, 99, 104, 97, 110, 32]⟩ : ByteArray).data.toList = pR := rfl
theorem lpB : (⟨#[99, 104, 97, 110, 32]⟩ : ByteArray).data.toList = pB := rfl
theorem z40 : (⟨#[40]⟩ : ByteArray).size = 1 := rfl
theorem zpS : (⟨#[99, 104, 97, 110, 60, 45, 32]⟩ : ByteArray).size = 7 := rfl
theorem zpR : (⟨#[60, 45, 99, 104, 97, 110, 32]⟩ : ByteArray).size = 7 := rfl
theorem zpB : (⟨#[99, 104, 97, 110, 32]⟩ : ByteArray).size = 5 := rfl
theorem inn_is (l : List UInt8) {n : Nat} (h : n = (l.drop 1).length - 1) : B ((l.drop 1).take n) = B (inn l) := by rw [h]; rfl

/-- how a taking apart ends -/
def pEnd : Option (Nat × List UInt8) → Ending
  | some (d, e) => .returned (.tuple #[.int .i64 (d : Int), .string (B e), .bool true])
  | none => .returned (.tuple #[.int .i64 0, .string ⟨#[]⟩, .bool false])

set_option maxHeartbeats 800000 in
theorem peelB_any (s : ByteArray) (hz : Fit s) (w : World) :
    Calls Try.prog 33 #[.string s] w fun e w' => e = pEnd (peelB s.data.toList) ∧ w' = w := by
  obtain ⟨X, hX⟩ : ∃ X, B (s.data.toList.drop 1) = X := ⟨_, rfl⟩
  have hd : Fit X := hX ▸ hz.drop 1
  have HX := hide hX
  have HL := hide (show X.data.toList = s.data.toList.drop 1 by rw [← hX]; rfl)
  obtain ⟨Y, hY⟩ : ∃ Y, B (inn s.data.toList) = Y := ⟨_, rfl⟩
  have HY := hide hY
  have HM := hide (show Y.data.toList = inn s.data.toList by rw [← hY]; rfl)
  clear hX hY
  cases h1 : hp [40] s.data.toList
  · have H1 := hide h1
    cases h2 : hp ar s.data.toList
    · have H2 := hide h2
      have E := hide (show Ending.returned (.tuple #[.int .i64 0, .string s, .bool true]) = pEnd (peelB s.data.toList) by unfold peelB; rw [h1, h2]; rfl)
      clear h1 h2 hd hz
      go_enter Try.func33, Try.ntmps33
      go_wp2_with fail
      refine (xp_no rfl l40 (unhide H1) _).mono ?_
      rintro e w' ⟨rfl, rfl⟩
      go_wp2_with fail
      refine (xh_is rfl lar (unhide H2) _).mono ?_
      rintro e w' ⟨rfl, rfl⟩
      go_wp2
      go_ret3
      exact ⟨unhide E, rfl⟩
    · have H2 := hide h2
      have E := hide (show Ending.returned (.tuple #[.int .i64 0, .string ⟨#[]⟩, .bool false]) = pEnd (peelB s.data.toList) by unfold peelB; rw [h1, h2]; rfl)
      clear h1 h2 hd hz
      go_enter Try.func33, Try.ntmps33
      go_wp2_with fail
      refine (xp_no rfl l40 (unhide H1) _).mono ?_
      rintro e w' ⟨rfl, rfl⟩
      go_wp2_with fail
      refine (xh_is rfl lar (unhide H2) _).mono ?_
      rintro e w' ⟨rfl, rfl⟩
      go_wp2
      go_ret3
      exact ⟨unhide E, rfl⟩
  · have H1 := hide h1
    have HD := hide hd
    cases h2 : hs [41] (s.data.toList.drop 1)
    · have H2 := hide h2
      have E := hide (show Ending.returned (.tuple #[.int .i64 0, .string ⟨#[]⟩, .bool false]) = pEnd (peelB s.data.toList) by unfold peelB; rw [h1, h2]; rfl)
      clear h1 h2 hd hz
      go_enter Try.func33, Try.ntmps33
      go_wp2_with fail
      refine (xp_is rfl l40 (unhide H1) z40 (unhide HX) _).mono ?_
      rintro e w' ⟨rfl, rfl⟩
      go_wp2_with fail
      refine (xs_no (unhide HL) l41 (unhide H2) (unhide HD) _).mono ?_
      rintro e w' ⟨rfl, rfl⟩
      go_wp2
      go_ret3
      exact ⟨unhide E, rfl⟩
    · have H2 := hide h2
      have HI := hide ((inn_is s.data.toList (n := (s.data.toList.drop 1).length - 1) rfl).trans (unhide HY))
      have HN := hide (show X.size - (⟨#[41]⟩ : ByteArray).size = (s.data.toList.drop 1).length - 1 by rw [size_len, unhide HL, show (⟨#[41]⟩ : ByteArray).size = 1 from rfl])
      cases h3 : hp ar (inn s.data.toList)
      · have H3 := hide h3
        have E := hide (show Ending.returned (.tuple #[.int .i64 0, .string ⟨#[]⟩, .bool false]) = pEnd (peelB s.data.toList) by unfold peelB; rw [h1, h2, h3]; rfl)
        clear h1 h2 h3 hd hz
        go_enter Try.func33, Try.ntmps33
        go_wp2_with fail
        refine (xp_is rfl l40 (unhide H1) z40 (unhide HX) _).mono ?_
        rintro e w' ⟨rfl, rfl⟩
        go_wp2_with fail
        refine (xs_is (unhide HL) l41 (unhide H2) (unhide HD) (unhide HN) (unhide HI) _).mono ?_
        rintro e w' ⟨rfl, rfl⟩
        go_wp2_with fail
        refine (xh_is (unhide HM) lar (unhide H3) _).mono ?_
        rintro e w' ⟨rfl, rfl⟩
        go_wp2
        go_ret3
        exact ⟨unhide E, rfl⟩
      · have H3 := hide h3
        have E := hide (show Ending.returned (.tuple #[.int .i64 0, .string Y, .bool true]) = pEnd (peelB s.data.toList) by unfold peelB; rw [h1, h2, h3, ← unhide HY]; rfl)
        clear h1 h2 h3 hd hz
        go_enter Try.func33, Try.ntmps33
        go_wp2_with fail
        refine (xp_is rfl l40 (unhide H1) z40 (unhide HX) _).mono ?_
        rintro e w' ⟨rfl, rfl⟩
        go_wp2_with fail
        refine (xs_is (unhide HL) l41 (unhide H2) (unhide HD) (unhide HN) (unhide HI) _).mono ?_
        rintro e w' ⟨rfl, rfl⟩
        go_wp2_with fail
        refine (xh_is (unhide HM) lar (unhide H3) _).mono ?_
        rintro e w' ⟨rfl, rfl⟩
        go_wp2
        go_ret3
        exact ⟨unhide E, rfl⟩

theorem peelB_is {s : ByteArray} {a : List UInt8} (hz : Fit s) (w : World) (ea : s.data.toList = a) {d : Nat} {x : List UInt8} (h : peelB a = some (d, x)) :
    Calls Try.prog 33 #[.string s] w fun e w' => e = .returned (.tuple #[.int .i64 (d : Int), .string (B x), .bool true]) ∧ w' = w := by
  have := peelB_any s hz w
  rw [ea, h] at this
  exact this
theorem peelB_no {s : ByteArray} {a : List UInt8} (hz : Fit s) (w : World) (ea : s.data.toList = a) (h : peelB a = none) :
    Calls Try.prog 33 #[.string s] w fun e w' => e = .returned (.tuple #[.int .i64 0, .string ⟨#[]⟩, .bool false]) ∧ w' = w := by
  have := peelB_any s hz w
  rw [ea, h] at this
  exact this

set_option maxHeartbeats 800000 in
theorem peel_any (s : ByteArray) (hz : Fit s) (w : World) :
    Calls Try.prog 24 #[.string s] w fun e w' => e = pEnd (peel s.data.toList) ∧ w' = w := by
  obtain ⟨X, hX⟩ : ∃ X, B (s.data.toList.drop 5) = X := ⟨_, rfl⟩
  have hd : Fit X := hX ▸ hz.drop 5
  have HX := hide hX
  have HL := hide (show X.data.toList = s.data.toList.drop 5 by rw [← hX]; rfl)
  obtain ⟨Y, hY⟩ : ∃ Y, B (s.data.toList.drop 7) = Y := ⟨_, rfl⟩
  have HY := hide hY
  clear hX hY
  have HD := hide hd
  cases h1 : hp pS s.data.toList
  · have H1 := hide h1
    cases h2 : hp pR s.data.toList
    · have H2 := hide h2
      cases h3 : hp pB s.data.toList
      · have H3 := hide h3
        have E := hide (show Ending.returned (.tuple #[.int .i64 0, .string ⟨#[]⟩, .bool false]) = pEnd (peel s.data.toList) by unfold peel; rw [h1, h2, h3]; rfl)
        clear h1 h2 h3 hd hz
        go_enter Try.func24, Try.ntmps24
        go_wp2_with fail
        refine (xp_no rfl lpS (unhide H1) _).mono ?_
        rintro e w' ⟨rfl, rfl⟩
        go_wp2_with fail
        refine (xp_no rfl lpR (unhide H2) _).mono ?_
        rintro e w' ⟨rfl, rfl⟩
        go_wp2_with fail
        refine (xp_no rfl lpB (unhide H3) _).mono ?_
        rintro e w' ⟨rfl, rfl⟩
        go_wp2
        go_ret3
        exact ⟨unhide E, rfl⟩
      · have H3 := hide h3
        cases h4 : peelB (s.data.toList.drop 5) with
        | none =>
          have H4 := hide h4
          have E := hide (show Ending.returned (.tuple #[.int .i64 0, .string ⟨#[]⟩, .bool false]) = pEnd (peel s.data.toList) by unfold peel; rw [h1, h2, h3, if_neg (by simp), if_neg (by simp), if_pos rfl, h4]; rfl)
          clear h1 h2 h3 h4 hd hz
          go_enter Try.func24, Try.ntmps24
          go_wp2_with fail
          refine (xp_no rfl lpS (unhide H1) _).mono ?_
          rintro e w' ⟨rfl, rfl⟩
          go_wp2_with fail
          refine (xp_no rfl lpR (unhide H2) _).mono ?_
          rintro e w' ⟨rfl, rfl⟩
          go_wp2_with fail
          refine (xp_is rfl lpB (unhide H3) zpB (unhide HX) _).mono ?_
          rintro e w' ⟨rfl, rfl⟩
          go_wp2_with fail
          refine (peelB_no (unhide HD) _ (unhide HL) (unhide H4)).mono ?_
          rintro e w' ⟨rfl, rfl⟩
          go_wp2
          go_ret3
          exact ⟨unhide E, rfl⟩
        | some p =>
          obtain ⟨d, x⟩ := p
          have H4 := hide h4
          have E := hide (show Ending.returned (.tuple #[.int .i64 (d : Int), .string (B x), .bool true]) = pEnd (peel s.data.toList) by unfold peel; rw [h1, h2, h3, if_neg (by simp), if_neg (by simp), if_pos rfl, h4]; rfl)
          clear h1 h2 h3 h4 hd hz
          go_enter Try.func24, Try.ntmps24
          go_wp2_with fail
          refine (xp_no rfl lpS (unhide H1) _).mono ?_
          rintro e w' ⟨rfl, rfl⟩
          go_wp2_with fail
          refine (xp_no rfl lpR (unhide H2) _).mono ?_
          rintro e w' ⟨rfl, rfl⟩
          go_wp2_with fail
          refine (xp_is rfl lpB (unhide H3) zpB (unhide HX) _).mono ?_
          rintro e w' ⟨rfl, rfl⟩
          go_wp2_with fail
          refine (peelB_is (unhide HD) _ (unhide HL) (unhide H4)).mono ?_
          rintro e w' ⟨rfl, rfl⟩
          go_wp2
          go_ret3
          exact ⟨unhide E, rfl⟩
    · have H2 := hide h2
      have E := hide (show Ending.returned (.tuple #[.int .i64 2, .string Y, .bool true]) = pEnd (peel s.data.toList) by unfold peel; rw [h1, h2, ← unhide HY]; rfl)
      clear h1 h2 hd hz
      go_enter Try.func24, Try.ntmps24
      go_wp2_with fail
      refine (xp_no rfl lpS (unhide H1) _).mono ?_
      rintro e w' ⟨rfl, rfl⟩
      go_wp2_with fail
      refine (xp_is rfl lpR (unhide H2) zpR (unhide HY) _).mono ?_
      rintro e w' ⟨rfl, rfl⟩
      go_wp2
      go_ret3
      exact ⟨unhide E, rfl⟩
  · have H1 := hide h1
    have E := hide (show Ending.returned (.tuple #[.int .i64 1, .string Y, .bool true]) = pEnd (peel s.data.toList) by unfold peel; rw [h1, ← unhide HY]; rfl)
    clear h1 hd hz
    go_enter Try.func24, Try.ntmps24
    go_wp2_with fail
    refine (xp_is rfl lpS (unhide H1) zpS (unhide HY) _).mono ?_
    rintro e w' ⟨rfl, rfl⟩
    go_wp2
    go_ret3
    exact ⟨unhide E, rfl⟩

theorem peel_is {s : ByteArray} {a : List UInt8} (hz : Fit s) (w : World) (ea : s.data.toList = a) {d : Nat} {x : List UInt8} (h : peel a = some (d, x)) :
    Calls Try.prog 24 #[.string s] w fun e w' => e = .returned (.tuple #[.int .i64 (d : Int), .string (B x), .bool true]) ∧ w' = w := by
  have := peel_any s hz w
  rw [ea, h] at this
  exact this
theorem peel_no {s : ByteArray} {a : List UInt8} (hz : Fit s) (w : World) (ea : s.data.toList = a) (h : peel a = none) :
    Calls Try.prog 24 #[.string s] w fun e w' => e = .returned (.tuple #[.int .i64 0, .string ⟨#[]⟩, .bool false]) ∧ w' = w := by
  have := peel_any s hz w
  rw [ea, h] at this
  exact this

theorem isbase_is {s : ByteArray} {a : List UInt8} {b : Bool} (ea : s.data.toList = a) (h : base a = b) (w : World) :
    Calls Try.prog 30 #[.string s] w fun e w' => e = .returned (.bool b) ∧ w' = w := by
  subst ea; exact isbase_any s b h w

/-- how a measuring ends -/
def mEnd : Option Nat → Ending
  | some d => .returned (.tuple #[.int .i64 (d : Int), .bool true])
  | none => .returned (.tuple #[.int .i64 0, .bool false])

set_option maxHeartbeats 4000000 in
theorem measure_any (s : ByteArray) (hz : Fit s) (w : World) :
    Calls Try.prog 22 #[.string s] w fun e w' => e = mEnd (meas 41 s.data.toList) ∧ w' = w := by
  generalize hM : meas 41 s.data.toList = M
  have HM := hide hM
  clear hM
  have HZ := hide hz
  clear hz
  go_enter Try.func22, Try.ntmps22
  go_wp2
  go_loop [0, 8] (fun t i => ∃ (k : Nat) (l : List UInt8), k ≤ 41 ∧ i = .int .i64 (k : Int) ∧ t = .string (B l) ∧ l.length ≤ 9223372036854775807 ∧ M = (meas (41 - k) l).map (· + k)) (fun _ i => 41 - (intOf i).toNat)
  case atStart => exact ⟨0, s.data.toList, by omega, rfl, rfl, by rw [← size_len]; exact (unhide HZ).le, by rw [unhide HM]; cases M <;> rfl⟩
  case round =>
    obtain ⟨k, l, hk, rfl, rfl, hl, hm⟩ := hrel
    have hz : Fit (B l) := ⟨by rw [B_size]; exact hl⟩
    have HZ := hide hz
    clear hz
    by_cases hlt : k < 41
    · obtain ⟨j, hj⟩ : ∃ j, 41 - k = j + 1 := ⟨40 - k, by omega⟩
      rw [hj] at hm
      cases hb : base l
      · have HB := hide hb
        cases hp' : peel l with
        | none =>
          have HP := hide hp'
          rw [meas_none hb hp'] at hm
          have E := hide (show Ending.returned (.tuple #[.int .i64 0, .bool false]) = mEnd M by rw [hm]; rfl)
          clear hm hb hp' hj hl
          go_wp2_with (first | (go_at_call 30; refine (isbase_is (B_list l) (unhide HB) _).mono ?_; rintro e w' ⟨rfl, rfl⟩) | (go_at_call 24; refine (peel_no (unhide HZ) _ (B_list l) (unhide HP)).mono ?_; rintro e w' ⟨rfl, rfl⟩))
          go_ret2
          exact ⟨unhide E, rfl⟩
        | some p =>
          obtain ⟨d, x⟩ := p
          have HP := hide hp'
          rw [meas_some hb hp'] at hm
          have hx := peel_len hp'
          have E := hide (show x.length ≤ 9223372036854775807 ∧ M = (meas (41 - (k + 1)) x).map (· + (k + 1)) from ⟨by omega, by
            rw [hm, show 41 - (k + 1) = j by omega]
            cases meas j x with
            | none => rfl
            | some y => show some (y + 1 + k) = some (y + (k + 1)); rw [show y + 1 + k = y + (k + 1) by omega]⟩)
          clear hm hb hp' hj hl hx
          go_wp2_with (first | (go_at_call 30; refine (isbase_is (B_list l) (unhide HB) _).mono ?_; rintro e w' ⟨rfl, rfl⟩) | (go_at_call 24; refine (peel_is (unhide HZ) _ (B_list l) (unhide HP)).mono ?_; rintro e w' ⟨rfl, rfl⟩))
          go_round
          case rel => exact ⟨k + 1, x, by omega, by go_num, rfl, (unhide E).1, (unhide E).2⟩
          case measure => simp [intOf]; omega
      · have HB := hide hb
        rw [meas_base hb] at hm
        have E := hide (show Ending.returned (.tuple #[.int .i64 (k : Int), .bool true]) = mEnd M by rw [hm]; show _ = Ending.returned (.tuple #[.int .i64 ((0 + k : Nat) : Int), .bool true]); rw [Nat.zero_add])
        clear hm hb hj hl
        go_wp2_with (first | (go_at_call 30; refine (isbase_is (B_list l) (unhide HB) _).mono ?_; rintro e w' ⟨rfl, rfl⟩))
        go_ret2
        exact ⟨unhide E, rfl⟩
    · have e : k = 41 := by omega
      subst e
      have E := hide (show Ending.returned (.tuple #[.int .i64 0, .bool false]) = mEnd M by rw [hm]; rfl)
      clear hm hl
      go_wp2
      go_ret2
      exact ⟨unhide E, rfl⟩

end Go.Proofs.Ytkbgnbcphmkjkaa
