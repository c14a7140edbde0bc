/- The document's Read. -/
import Derived.Test.YtifmkphdmfechaaRead
namespace Go.Proofs.Ytifmkphdmfechaa
open Go.RowKit
attribute [local go_sem] run_fb run_ff

theorem one_lt {x : Nat} (h : x < 18446744073709551616) : FM.one x < 18446744073709551616 := by
  unfold FM.one; split <;> omega

theorem one_self {x : Nat} (h : FM.one x = x) : FM.nan x = false ∨ x = 9221120237041090561 := by
  unfold FM.one at h
  cases hn : FM.nan x
  · exact Or.inl rfl
  · rw [hn, if_pos rfl] at h; exact Or.inr h.symm

theorem good_iff {s : ByteArray} (h1 : s.size = 16) (h2 : okd s 16) : good s = decide (FM.one (acc s 16) = acc s 16) := by
  unfold good
  rw [hex_of h1 h2, Bool.true_and, Bool.eq_iff_iff, decide_eq_true_eq]
  constructor
  · intro h
    unfold FM.one
    cases hn : FM.nan (acc s 16)
    · rfl
    · rw [hn] at h
      simp only [Bool.not_true, Bool.false_or, decide_eq_true_eq] at h
      rw [if_pos rfl]; exact h.symm
  · intro h
    rcases one_self h with h | h
    · rw [h]; rfl
    · rw [decide_eq_true h, Bool.or_true]

theorem acc16_lt (s : ByteArray) : acc s 16 < 18446744073709551616 := by
  have h := acc_lt s 16
  have e : (16 : Nat) ^ 16 = 18446744073709551616 := by decide
  omega

theorem text_eq_iff {s : ByteArray} (h1 : s.size = 16) (h2 : okd s 16) : (strOfNums (textL (FM.one (acc s 16))) = s) ↔ good s = true := by
  rw [good_iff h1 h2, decide_eq_true_eq]
  constructor
  · intro h
    have h3 := text_acc (FM.one (acc s 16)) (one_lt (acc16_lt s))
    rw [h] at h3
    exact h3.symm
  · intro h
    rw [h, text_of s h1 h2]

theorem bytes_beq (a b : ByteArray) : (a.toList == b.toList) = decide (a = b) := by
  rw [Bool.eq_iff_iff, beq_iff_eq, decide_eq_true_eq, ByteArray.toList_eq, ByteArray.toList_eq]
  exact ⟨WideShapes.bytes_inj, fun h => by rw [h]⟩

theorem text_beq {s : ByteArray} (h1 : s.size = 16) (h2 : okd s 16) : ((strOfNums (textL (FM.one (acc s 16)))).toList == s.toList) = good s := by
  rw [bytes_beq, Bool.eq_iff_iff, decide_eq_true_eq]
  exact text_eq_iff h1 h2

theorem ret_rread {s : ByteArray} {a : Nat} {c : Bool} (ha : a = rdv s) (hc : c = good s) :
    Ending.returned (.tuple #[.float .f64 a, .bool c]) = .returned (.tuple #[.float .f64 (rdv s), .bool (good s)]) := by rw [ha, hc]

theorem dvi_0 {n : Nat} (h1 : 48 ≤ n) (h2 : n ≤ 57) : dvi n = (n : Int) - 48 := by unfold dvi; rw [if_pos ⟨h1, h2⟩]
theorem dvi_a {n : Nat} (h1 : 97 ≤ n) (h2 : n ≤ 102) : dvi n = (n : Int) - 87 := by unfold dvi; rw [if_neg (by omega), if_pos ⟨h1, h2⟩]
theorem dvi_no {n : Nat} (h1 : ¬ (48 ≤ n ∧ n ≤ 57)) (h2 : ¬ (97 ≤ n ∧ n ≤ 102)) : dvi n = -1 := by unfold dvi; rw [if_neg h1, if_neg h2]

theorem okd_succ {s : ByteArray} {k : Nat} (hok : okd s k) (h : 0 ≤ dvi (bt s k)) : okd s (k + 1) := by
  intro j hj
  by_cases e : j = k
  · subst e; exact h
  · exact hok j (by omega)

set_option maxHeartbeats 1000000 in
theorem refread_any (s : ByteArray) (w : World) (hs : s.size ≤ maxLen) :
    Calls Try.prog 40 #[.string s] w fun e w' => e = .returned (.tuple #[.float .f64 (rdv s), .bool (good s)]) ∧ w' = w := by
  unfold maxLen at hs
  by_cases h16 : s.size = 16
  · have e1 : ((s.size : Int) != 16) = false := by simp [h16]
    have hz : 16 ≤ s.size := by omega
    have H16 := hide h16
    clear h16
    go_enter Try.func40, Try.ntmps40
    go_wp2
    go_loop [4, 5] (fun t i => ∃ k : Nat, k ≤ 16 ∧ i = .int .i64 k ∧ t = .int .u64 ((acc s k : Nat) : Int) ∧ okd s k) (fun _ i => 16 - (intOf i).toNat)
    case atStart => exact ⟨0, by omega, rfl, rfl, fun j hj => by omega⟩
    case round =>
      obtain ⟨k, hk, rfl, rfl, hok⟩ := hrel
      by_cases hlt : k < 16
      · have hks : k < s.size := by omega
        have hb := bt_at s k hks
        have hl := bt_lt s k
        have ha := acc_bound s k hlt
        by_cases c0 : 48 ≤ bt s k ∧ bt s k ≤ 57
        · obtain ⟨c1, c2⟩ := c0
          have hd := dvi_0 c1 c2
          have HA := hide (acc_step s k (by omega))
          have HO := hide (okd_succ hok (by omega))
          rw [hd] at HA
          clear hok hd
          have c3 : ¬ (97 : Int) ≤ (bt s k : Int) := by omega
          go_wp2
          go_round
          case rel => exact ⟨k + 1, by omega, by go_num, by rw [unhide HA]; go_num, unhide HO⟩
          case measure => simp [intOf]; omega
        · by_cases c1 : 97 ≤ bt s k ∧ bt s k ≤ 102
          · obtain ⟨c1, c2⟩ := c1
            have hd := dvi_a c1 c2
            have HA := hide (acc_step s k (by omega))
            have HO := hide (okd_succ hok (by omega))
            rw [hd] at HA
            clear hok hd c0
            go_wp2
            go_round
            case rel => exact ⟨k + 1, by omega, by go_num, by rw [unhide HA]; go_num, unhide HO⟩
            case measure => simp [intOf]; omega
          · have hd := dvi_no c0 c1
            have B := hide (bad_hex (hex_not (s := s) k hlt (by omega)))
            clear hok hd
            have c2 : bt s k < 48 ∨ (57 < bt s k ∧ bt s k < 97) ∨ 102 < bt s k := by omega
            clear c0 c1
            rcases c2 with c2 | ⟨c2, c3⟩ | c2
            all_goals
              go_wp2
              go_ret2
              exact ⟨ret_rread (rd_bad (unhide B)).1 (unhide B).symm, rfl⟩
      · have e : k = 16 := by omega
        subst e
        have HT := text_beq (unhide H16) hok
        have H64 := hide (one_lt (acc16_lt s))
        clear hok
        cases hg : good s
        · rw [hg] at HT
          have B := hide (rd_bad hg)
          have G := hide hg
          clear hg
          go_wp2_with (go_at_call 38; refine (reftext_any _ _ (unhide H64)).mono ?_; rintro e w' ⟨rfl, rfl⟩)
          go_ret2
          exact ⟨ret_rread (unhide B).1 (unhide G).symm, rfl⟩
        · rw [hg] at HT
          have B := hide (rd_good hg)
          have G := hide hg
          clear hg
          go_wp2_with (go_at_call 38; refine (reftext_any _ _ (unhide H64)).mono ?_; rintro e w' ⟨rfl, rfl⟩)
          go_ret2
          exact ⟨ret_rread (unhide B).1 (unhide G).symm, rfl⟩
  · have e1 : ((s.size : Int) != 16) = true := by simp; omega
    have B := hide (bad_hex (hex_size h16))
    clear h16
    go_enter Try.func40, Try.ntmps40
    go_wp2
    go_ret2
    exact ⟨ret_rread (rd_bad (unhide B)).1 (unhide B).symm, rfl⟩

end Go.Proofs.Ytifmkphdmfechaa
