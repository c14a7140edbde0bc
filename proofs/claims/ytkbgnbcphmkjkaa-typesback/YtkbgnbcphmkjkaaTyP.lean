/- Texts that begin or end so; the base types: the program's small functions and the document's. -/
import Derived.Test.YtkbgnbcphmkjkaaTz
namespace Go.Proofs.Ytkbgnbcphmkjkaa
open Go.RowKit

/-- a text of these bytes -/
def B (l : List UInt8) : ByteArray := ⟨l.toArray⟩

theorem B_list (l : List UInt8) : (B l).data.toList = l := rfl
theorem B_of (s : ByteArray) : B s.data.toList = s := rfl
theorem B_size (l : List UInt8) : (B l).size = l.length := by
  show (B l).data.size = _
  rw [← Array.length_toList, B_list]
theorem size_len (s : ByteArray) : s.size = s.data.toList.length := by
  show s.data.size = _
  rw [Array.length_toList]
theorem ext_B (s : ByteArray) (k : Nat) : s.extract k s.size = B (s.data.toList.drop k) := by
  rw [← ext_list]; rfl

theorem eqb (t : ByteArray) (l : List UInt8) : (t.toList == l) = decide (t.data.toList = l) := by
  rw [Bool.eq_iff_iff, beq_iff_eq, decide_eq_true_eq, ByteArray.toList_eq]

theorem hp_raw (s p : ByteArray) : (decide (p.size ≤ s.size) && ((s.extract 0 p.size).toList == p.toList)) = hp p.data.toList s.data.toList := Lib.hasPrefix_raw s p

set_option maxHeartbeats 1000000 in
theorem lhp_any (s p : ByteArray) (b : Bool) (hb : hp p.data.toList s.data.toList = b) (w : World) :
    Calls Try.prog 31 #[.string s, .string p] w fun e w' => e = .returned (.bool b) ∧ w' = w := by
  have hr := hp_raw s p
  rw [hb] at hr
  by_cases h1 : p.size ≤ s.size
  · rw [decide_eq_true h1, Bool.true_and] at hr
    clear hb
    go_enter Try.func31, Try.ntmps31
    go_wp2
    go_ret
    exact ⟨rfl, rfl⟩
  · rw [decide_eq_false h1, Bool.false_and] at hr
    have E := hide hr
    clear hb hr
    go_enter Try.func31, Try.ntmps31
    go_wp2
    go_ret
    exact ⟨ret_bool (unhide E), rfl⟩

set_option maxHeartbeats 1000000 in
theorem begins_any (s p : ByteArray) (b : Bool) (hb : hp p.data.toList s.data.toList = b) (w : World) :
    Calls Try.prog 25 #[.string s, .string p] w fun e w' => e = .returned (.bool b) ∧ w' = w := by
  have hr := hp_raw s p
  rw [hb] at hr
  by_cases h1 : p.size ≤ s.size
  · rw [decide_eq_true h1, Bool.true_and] at hr
    clear hb
    go_enter Try.func25, Try.ntmps25
    go_wp2
    go_ret
    exact ⟨rfl, rfl⟩
  · rw [decide_eq_false h1, Bool.false_and] at hr
    have E := hide hr
    clear hb hr
    go_enter Try.func25, Try.ntmps25
    go_wp2
    go_ret
    exact ⟨ret_bool (unhide E), rfl⟩

set_option maxHeartbeats 1000000 in
theorem shp_any (s p : ByteArray) (b : Bool) (hb : hp p.data.toList s.data.toList = b) (w : World) :
    Calls Try.prog 23 #[.string s, .string p] w fun e w' => e = .returned (.bool b) ∧ w' = w := by
  go_enter Try.func23, Try.ntmps23
  go_wp2_with (go_at_call 31; refine (lhp_any _ _ b hb _).mono ?_; rintro e w' ⟨rfl, rfl⟩)
  go_ret
  exact ⟨rfl, rfl⟩

set_option maxHeartbeats 1000000 in
theorem lhs_any (s p : ByteArray) (b : Bool) (hb : hs p.data.toList s.data.toList = b) (w : World) (hz : s.size ≤ 9223372036854775807) :
    Calls Try.prog 37 #[.string s, .string p] w fun e w' => e = .returned (.bool b) ∧ w' = w := by
  have hr : (decide (p.size ≤ s.size) && ((s.extract (s.size - p.size) s.size).toList == p.toList)) = hs p.data.toList s.data.toList := Lib.hasSuffix_raw s p
  rw [hb] at hr
  have hlo : p.size ≤ s.size → ((s.size : Int) - (p.size : Int) + 9223372036854775808) % 18446744073709551616 - 9223372036854775808 = ((s.size - p.size : Nat) : Int) := fun _ => by omega
  by_cases h1 : p.size ≤ s.size
  · rw [decide_eq_true h1, Bool.true_and] at hr
    clear hb
    go_enter Try.func37, Try.ntmps37
    go_wp2
    go_ret
    exact ⟨rfl, rfl⟩
  · rw [decide_eq_false h1, Bool.false_and] at hr
    have E := hide hr
    clear hb hr
    go_enter Try.func37, Try.ntmps37
    go_wp2
    go_ret
    exact ⟨ret_bool (unhide E), rfl⟩

theorem hp_le {p l : List UInt8} (h : hp p l = true) : p.length ≤ l.length := by
  obtain ⟨r, rfl⟩ := (hp_iff _ _).1 h
  simp
theorem hs_le {p l : List UInt8} (h : hs p l = true) : p.length ≤ l.length := by
  obtain ⟨r, rfl⟩ := (hs_iff _ _).1 h
  simp

set_option maxHeartbeats 1000000 in
theorem lcp_yes (s p : ByteArray) (hb : hp p.data.toList s.data.toList = true) (w : World) :
    Calls Try.prog 34 #[.string s, .string p] w fun e w' => e = .returned (.tuple #[.string (B (s.data.toList.drop p.size)), .bool true]) ∧ w' = w := by
  have hle := hp_le hb
  rw [← size_len, ← size_len] at hle
  have HB := hide hb
  clear hb
  go_enter Try.func34, Try.ntmps34
  go_wp2_with (go_at_call 31; refine (lhp_any _ _ true (unhide HB) _).mono ?_; rintro e w' ⟨rfl, rfl⟩)
  go_ret2
  exact ⟨by rw [← ext_B]; rfl, rfl⟩

set_option maxHeartbeats 1000000 in
theorem lcp_no (s p : ByteArray) (hb : hp p.data.toList s.data.toList = false) (w : World) :
    Calls Try.prog 34 #[.string s, .string p] w fun e w' => e = .returned (.tuple #[.string s, .bool false]) ∧ w' = w := by
  have HB := hide hb
  clear hb
  go_enter Try.func34, Try.ntmps34
  go_wp2_with (go_at_call 31; refine (lhp_any _ _ false (unhide HB) _).mono ?_; rintro e w' ⟨rfl, rfl⟩)
  go_ret2
  exact ⟨rfl, rfl⟩

set_option maxHeartbeats 1000000 in
theorem lcs_yes (s p : ByteArray) (hb : hs p.data.toList s.data.toList = true) (w : World) (hz : s.size ≤ 9223372036854775807) :
    Calls Try.prog 36 #[.string s, .string p] w fun e w' => e = .returned (.tuple #[.string (B (s.data.toList.take (s.size - p.size))), .bool true]) ∧ w' = w := by
  have hle := hs_le hb
  rw [← size_len, ← size_len] at hle
  have hlo : ((s.size : Int) - (p.size : Int) + 9223372036854775808) % 18446744073709551616 - 9223372036854775808 = ((s.size - p.size : Nat) : Int) := by omega
  have HB := hide hb
  have E := hide (show s.extract 0 (s.size - p.size) = B (s.data.toList.take (s.size - p.size)) by
    rw [← B_of (s.extract 0 (s.size - p.size))]
    congr 1
    rw [ByteArray.data_extract, Array.toList_extract, List.extract_eq_take_drop]
    simp)
  clear hb
  go_enter Try.func36, Try.ntmps36
  go_wp2_with (go_at_call 37; refine (lhs_any _ _ true (unhide HB) _ hz).mono ?_; rintro e w' ⟨rfl, rfl⟩)
  go_ret2
  exact ⟨by rw [← unhide E]; rfl, rfl⟩

set_option maxHeartbeats 1000000 in
theorem lcs_no (s p : ByteArray) (hb : hs p.data.toList s.data.toList = false) (w : World) (hz : s.size ≤ 9223372036854775807) :
    Calls Try.prog 36 #[.string s, .string p] w fun e w' => e = .returned (.tuple #[.string s, .bool false]) ∧ w' = w := by
  have HB := hide hb
  clear hb
  go_enter Try.func36, Try.ntmps36
  go_wp2_with (go_at_call 37; refine (lhs_any _ _ false (unhide HB) _ hz).mono ?_; rintro e w' ⟨rfl, rfl⟩)
  go_ret2
  exact ⟨rfl, rfl⟩

set_option maxHeartbeats 1000000 in
theorem cp_yes (s p : ByteArray) (hb : hp p.data.toList s.data.toList = true) (w : World) :
    Calls Try.prog 32 #[.string s, .string p] w fun e w' => e = .returned (.tuple #[.string (B (s.data.toList.drop p.size)), .bool true]) ∧ w' = w := by
  go_enter Try.func32, Try.ntmps32
  go_wp2_with (go_at_call 34; refine (lcp_yes _ _ hb _).mono ?_; rintro e w' ⟨rfl, rfl⟩)
  go_ret2
  exact ⟨rfl, rfl⟩

set_option maxHeartbeats 1000000 in
theorem cp_no (s p : ByteArray) (hb : hp p.data.toList s.data.toList = false) (w : World) :
    Calls Try.prog 32 #[.string s, .string p] w fun e w' => e = .returned (.tuple #[.string s, .bool false]) ∧ w' = w := by
  go_enter Try.func32, Try.ntmps32
  go_wp2_with (go_at_call 34; refine (lcp_no _ _ hb _).mono ?_; rintro e w' ⟨rfl, rfl⟩)
  go_ret2
  exact ⟨rfl, rfl⟩

set_option maxHeartbeats 1000000 in
theorem cs_yes (s p : ByteArray) (hb : hs p.data.toList s.data.toList = true) (w : World) (hz : s.size ≤ 9223372036854775807) :
    Calls Try.prog 35 #[.string s, .string p] w fun e w' => e = .returned (.tuple #[.string (B (s.data.toList.take (s.size - p.size))), .bool true]) ∧ w' = w := by
  go_enter Try.func35, Try.ntmps35
  go_wp2_with (go_at_call 36; refine (lcs_yes _ _ hb _ hz).mono ?_; rintro e w' ⟨rfl, rfl⟩)
  go_ret2
  exact ⟨rfl, rfl⟩

set_option maxHeartbeats 1000000 in
theorem cs_no (s p : ByteArray) (hb : hs p.data.toList s.data.toList = false) (w : World) (hz : s.size ≤ 9223372036854775807) :
    Calls Try.prog 35 #[.string s, .string p] w fun e w' => e = .returned (.tuple #[.string s, .bool false]) ∧ w' = w := by
  go_enter Try.func35, Try.ntmps35
  go_wp2_with (go_at_call 36; refine (lcs_no _ _ hb _ hz).mono ?_; rintro e w' ⟨rfl, rfl⟩)
  go_ret2
  exact ⟨rfl, rfl⟩

set_option maxHeartbeats 1000000 in
theorem isbase_any (s : ByteArray) (b : Bool) (hb : base s.data.toList = b) (w : World) :
    Calls Try.prog 30 #[.string s] w fun e w' => e = .returned (.bool b) ∧ w' = w := by
  have q0 := eqb s [105, 110, 116]
  have q1 := eqb s [98, 111, 111, 108]
  have q2 := eqb s [77, 117, 116, 101, 120]
  have q3 := eqb s [87, 97, 105, 116, 71, 114, 111, 117, 112]
  unfold base tInt tBool tMutex tGroup at hb
  by_cases c0 : s.data.toList = [105, 110, 116]
  · have E := hide (show true = b by rw [← hb, decide_eq_true c0]; simp)
    rw [decide_eq_true c0] at q0
    clear hb c0 q1 q2 q3
    go_enter Try.func30, Try.ntmps30
    go_wp2
    go_ret
    exact ⟨ret_bool (unhide E), rfl⟩
  rw [decide_eq_false c0] at q0
  by_cases c1 : s.data.toList = [98, 111, 111, 108]
  · have E := hide (show true = b by rw [← hb, decide_eq_true c1]; simp)
    rw [decide_eq_true c1] at q1
    clear hb c1 q2 q3
    go_enter Try.func30, Try.ntmps30
    go_wp2
    go_ret
    exact ⟨ret_bool (unhide E), rfl⟩
  rw [decide_eq_false c1] at q1
  by_cases c2 : s.data.toList = [77, 117, 116, 101, 120]
  · have E := hide (show true = b by rw [← hb, decide_eq_true c2]; simp)
    rw [decide_eq_true c2] at q2
    clear hb c2 q3
    go_enter Try.func30, Try.ntmps30
    go_wp2
    go_ret
    exact ⟨ret_bool (unhide E), rfl⟩
  rw [decide_eq_false c2] at q2
  by_cases c3 : s.data.toList = [87, 97, 105, 116, 71, 114, 111, 117, 112]
  · have E := hide (show true = b by rw [← hb, decide_eq_true c3]; simp)
    rw [decide_eq_true c3] at q3
    clear hb c3
    go_enter Try.func30, Try.ntmps30
    go_wp2
    go_ret
    exact ⟨ret_bool (unhide E), rfl⟩
  rw [decide_eq_false c3] at q3
  have E := hide (show false = b by rw [← hb, decide_eq_false c0, decide_eq_false c1, decide_eq_false c2, decide_eq_false c3]; rfl)
  clear hb c0 c1 c2 c3
  go_enter Try.func30, Try.ntmps30
  go_wp2
  go_ret
  exact ⟨ret_bool (unhide E), rfl⟩

set_option maxHeartbeats 1000000 in
theorem plain_any (s : ByteArray) (b : Bool) (hb : base s.data.toList = b) (w : World) :
    Calls Try.prog 27 #[.string s] w fun e w' => e = .returned (.bool b) ∧ w' = w := by
  have q0 := eqb s [105, 110, 116]
  have q1 := eqb s [98, 111, 111, 108]
  have q2 := eqb s [77, 117, 116, 101, 120]
  have q3 := eqb s [87, 97, 105, 116, 71, 114, 111, 117, 112]
  unfold base tInt tBool tMutex tGroup at hb
  by_cases c0 : s.data.toList = [105, 110, 116]
  · have E := hide (show true = b by rw [← hb, decide_eq_true c0]; simp)
    rw [decide_eq_true c0] at q0
    clear hb c0 q1 q2 q3
    go_enter Try.func27, Try.ntmps27
    go_wp2
    go_ret
    exact ⟨ret_bool (unhide E), rfl⟩
  rw [decide_eq_false c0] at q0
  by_cases c1 : s.data.toList = [98, 111, 111, 108]
  · have E := hide (show true = b by rw [← hb, decide_eq_true c1]; simp)
    rw [decide_eq_true c1] at q1
    clear hb c1 q2 q3
    go_enter Try.func27, Try.ntmps27
    go_wp2
    go_ret
    exact ⟨ret_bool (unhide E), rfl⟩
  rw [decide_eq_false c1] at q1
  by_cases c2 : s.data.toList = [77, 117, 116, 101, 120]
  · have E := hide (show true = b by rw [← hb, decide_eq_true c2]; simp)
    rw [decide_eq_true c2] at q2
    clear hb c2 q3
    go_enter Try.func27, Try.ntmps27
    go_wp2
    go_ret
    exact ⟨ret_bool (unhide E), rfl⟩
  rw [decide_eq_false c2] at q2
  by_cases c3 : s.data.toList = [87, 97, 105, 116, 71, 114, 111, 117, 112]
  · have E := hide (show true = b by rw [← hb, decide_eq_true c3]; simp)
    rw [decide_eq_true c3] at q3
    clear hb c3
    go_enter Try.func27, Try.ntmps27
    go_wp2
    go_ret
    exact ⟨ret_bool (unhide E), rfl⟩
  rw [decide_eq_false c3] at q3
  have E := hide (show false = b by rw [← hb, decide_eq_false c0, decide_eq_false c1, decide_eq_false c2, decide_eq_false c3]; rfl)
  clear hb c0 c1 c2 c3
  go_enter Try.func27, Try.ntmps27
  go_wp2
  go_ret
  exact ⟨ret_bool (unhide E), rfl⟩

end Go.Proofs.Ytkbgnbcphmkjkaa
