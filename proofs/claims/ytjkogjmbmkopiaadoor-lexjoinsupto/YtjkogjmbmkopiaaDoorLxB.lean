/- The document's lexer: runs of letters and digits, comments. -/
import Derived.Test.YtjkogjmbmkopiaaDoorLxA
namespace Go.Proofs.YtjkogjmbmkopiaaDoor
open Go.RowKit

theorem runN_step {s : ByteArray} {k : Nat} (h : k < s.size) (hc : ld (by_ s k) = true) : runN (s.data.toList.drop k) = runN (s.data.toList.drop (k + 1)) + 1 := by
  rw [drop_by s k h, runN, if_pos hc]
theorem runN_stop {s : ByteArray} {k : Nat} (h : k < s.size) (hc : ld (by_ s k) = false) : runN (s.data.toList.drop k) = 0 := by
  rw [drop_by s k h, runN, hc, if_neg (by decide)]
theorem drop_end {s : ByteArray} {k : Nat} (h : ¬ k < s.size) : s.data.toList.drop k = [] := List.drop_of_length_le (by rw [← size_len]; omega)
theorem runN_end {s : ByteArray} {k : Nat} (h : ¬ k < s.size) : runN (s.data.toList.drop k) = 0 := by rw [drop_end h]; rfl

set_option maxHeartbeats 1000000 in
theorem run_any (s : ByteArray) (a : Nat) (w : World) (hs : s.size ≤ 281474976710656) (ha : a ≤ s.size) :
    Calls Tryd.prog 61 #[.string s, .int .i64 (a : Int)] w fun e w' => e = .returned (.int .i64 ((runN (s.data.toList.drop a) : Nat) : Int)) ∧ w' = w := by
  go_enter Tryd.func61, Tryd.ntmps61
  go_wp2
  go_loop [5] (fun n => ∃ k : Nat, a + k ≤ s.size ∧ n = .int .i64 k ∧ runN (s.data.toList.drop a) = k + runN (s.data.toList.drop (a + k))) (fun n => s.size - (intOf n).toNat)
  case atStart => exact ⟨0, by omega, rfl, by rw [Nat.add_zero, Nat.zero_add]⟩
  case round =>
    obtain ⟨k, hk, rfl, hr⟩ := hrel
    by_cases hlt : a + k < s.size
    · have hb := by_at s (a + k) hlt
      cases c : ld (by_ s (a + k))
      · have E := hide (show ((runN (s.data.toList.drop a) : Nat) : Int) = k by rw [hr, runN_stop hlt c]; rfl)
        have c' := c
        unfold ld at c'
        rw [Bool.or_eq_false_iff] at c'
        obtain ⟨c1, c2⟩ := c'
        clear hr c
        go_wp2_with (first | (go_at_call 34; refine (refletter_any _ _).mono ?_; rintro e w' ⟨rfl, rfl⟩) | (go_at_call 35; refine (refdigit_any _ _).mono ?_; rintro e w' ⟨rfl, rfl⟩))
        go_ret
        exact ⟨ret_int (unhide E).symm, rfl⟩
      · have HN := hide (show runN (s.data.toList.drop a) = k + 1 + runN (s.data.toList.drop (a + (k + 1))) by rw [hr, runN_step hlt c, ← Nat.add_assoc a k 1]; omega)
        have c' := c
        unfold ld at c'
        clear hr c
        cases c1 : letter (by_ s (a + k)).toNat
        · rw [c1, Bool.false_or] at c'
          go_wp2_with (first | (go_at_call 34; refine (refletter_any _ _).mono ?_; rintro e w' ⟨rfl, rfl⟩) | (go_at_call 35; refine (refdigit_any _ _).mono ?_; rintro e w' ⟨rfl, rfl⟩))
          go_round
          case rel => exact ⟨k + 1, by omega, by go_num, unhide HN⟩
          case measure => simp [intOf]; omega
        · clear c'
          go_wp2_with (first | (go_at_call 34; refine (refletter_any _ _).mono ?_; rintro e w' ⟨rfl, rfl⟩) | (go_at_call 35; refine (refdigit_any _ _).mono ?_; rintro e w' ⟨rfl, rfl⟩))
          go_round
          case rel => exact ⟨k + 1, by omega, by go_num, unhide HN⟩
          case measure => simp [intOf]; omega
    · have E := hide (show ((runN (s.data.toList.drop a) : Nat) : Int) = k by rw [hr, runN_end hlt]; rfl)
      clear hr
      go_wp2
      go_ret
      exact ⟨ret_int (unhide E).symm, rfl⟩

theorem cmt_at {s : ByteArray} {a : Nat} (h : a + 1 < s.size) : cmt (s.data.toList.drop a) = if (by_ s a).toNat = 47 ∧ (by_ s (a + 1)).toNat = 47 then upTo10 (s.data.toList.drop a) else 0 := by
  rw [drop_by s a (by omega), drop_by s (a + 1) h]
  rfl
theorem cmt_short {s : ByteArray} {a : Nat} (h : ¬ a + 1 < s.size) : cmt (s.data.toList.drop a) = 0 := by
  by_cases h1 : a < s.size
  · rw [drop_by s a h1, drop_end h]; rfl
  · rw [drop_end h1]; rfl

theorem up_step {s : ByteArray} {k : Nat} (h : k < s.size) (hc : ¬ (by_ s k).toNat = 10) : upTo10 (s.data.toList.drop k) = upTo10 (s.data.toList.drop (k + 1)) + 1 := by
  rw [drop_by s k h, upTo10, if_neg hc]
theorem up_stop {s : ByteArray} {k : Nat} (h : k < s.size) (hc : (by_ s k).toNat = 10) : upTo10 (s.data.toList.drop k) = 0 := by
  rw [drop_by s k h, upTo10, if_pos hc]
theorem up_end {s : ByteArray} {k : Nat} (h : ¬ k < s.size) : upTo10 (s.data.toList.drop k) = 0 := by rw [drop_end h]; rfl

set_option maxHeartbeats 1000000 in
theorem comment_any (s : ByteArray) (a : Nat) (w : World) (hs : s.size ≤ 281474976710656) (ha : a < s.size) :
    Calls Tryd.prog 20 #[.string s, .int .i64 (a : Int)] w fun e w' => e = .returned (.int .i64 ((cmt (s.data.toList.drop a) : Nat) : Int)) ∧ w' = w := by
  by_cases h1 : a + 1 < s.size
  · have b0 := by_at s a ha
    have b1 := by_at s (a + 1) h1
    have EC := hide (cmt_at h1)
    by_cases c0 : (by_ s a).toNat = 47
    · have q0 : (((by_ s a).toNat : Int) != 47) = false := by simp; omega
      by_cases c1 : (by_ s (a + 1)).toNat = 47
      · have q1 : (((by_ s (a + 1)).toNat : Int) != 47) = false := by simp; omega
        have EU := hide (show cmt (s.data.toList.drop a) = upTo10 (s.data.toList.drop a) by rw [unhide EC, if_pos ⟨c0, c1⟩])
        clear c0 c1 EC
        go_enter Tryd.func20, Tryd.ntmps20
        go_wp2
        clear b0 b1 q0 q1
        go_loop [5] (fun n => ∃ k : Nat, a + k ≤ s.size ∧ n = .int .i64 k ∧ upTo10 (s.data.toList.drop a) = k + upTo10 (s.data.toList.drop (a + k))) (fun n => s.size - (intOf n).toNat)
        case atStart => exact ⟨0, by omega, rfl, by rw [Nat.add_zero, Nat.zero_add]⟩
        case round =>
          obtain ⟨k, hk, rfl, hr⟩ := hrel
          by_cases hlt : a + k < s.size
          · have hb := by_at s (a + k) hlt
            by_cases c : (by_ s (a + k)).toNat = 10
            · have q : (((by_ s (a + k)).toNat : Int) != 10) = false := by simp; omega
              have E := hide (show ((cmt (s.data.toList.drop a) : Nat) : Int) = k by rw [unhide EU, hr, up_stop hlt c]; rfl)
              clear hr c
              go_wp2
              go_ret
              exact ⟨ret_int (unhide E).symm, rfl⟩
            · have q : (((by_ s (a + k)).toNat : Int) != 10) = true := by simp; omega
              have HN := hide (show upTo10 (s.data.toList.drop a) = k + 1 + upTo10 (s.data.toList.drop (a + (k + 1))) by rw [hr, up_step hlt c, ← Nat.add_assoc a k 1]; omega)
              clear hr c
              go_wp2
              go_round
              case rel => exact ⟨k + 1, by omega, by go_num, unhide HN⟩
              case measure => simp [intOf]; omega
          · have E := hide (show ((cmt (s.data.toList.drop a) : Nat) : Int) = k by rw [unhide EU, hr, up_end hlt]; rfl)
            clear hr
            go_wp2
            go_ret
            exact ⟨ret_int (unhide E).symm, rfl⟩
      · have q1 : (((by_ s (a + 1)).toNat : Int) != 47) = true := by simp; omega
        have E := hide (show ((cmt (s.data.toList.drop a) : Nat) : Int) = 0 by rw [unhide EC, if_neg (fun h => c1 h.2)]; rfl)
        clear c0 c1 EC
        go_enter Tryd.func20, Tryd.ntmps20
        go_wp2
        go_ret
        exact ⟨ret_int (unhide E).symm, rfl⟩
    · have q0 : (((by_ s a).toNat : Int) != 47) = true := by simp; omega
      have E := hide (show ((cmt (s.data.toList.drop a) : Nat) : Int) = 0 by rw [unhide EC, if_neg (fun h => c0 h.1)]; rfl)
      clear c0 EC
      go_enter Tryd.func20, Tryd.ntmps20
      go_wp2
      go_ret
      exact ⟨ret_int (unhide E).symm, rfl⟩
  · have E := hide (show ((cmt (s.data.toList.drop a) : Nat) : Int) = 0 by rw [cmt_short h1]; rfl)
    go_enter Tryd.func20, Tryd.ntmps20
    go_wp2
    go_ret
    exact ⟨ret_int (unhide E).symm, rfl⟩

end Go.Proofs.YtjkogjmbmkopiaaDoor
