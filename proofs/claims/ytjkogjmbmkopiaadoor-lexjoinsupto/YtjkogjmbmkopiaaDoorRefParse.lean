/- Parse, of the document. -/
import Derived.Test.YtjkogjmbmkopiaaDoorRefNum
namespace Go.Proofs.YtjkogjmbmkopiaaDoor
open Go.RowKit

/-- what the first k digits spell -/
def vk (d : ByteArray) (k : Nat) : Nat := dval 0 (d.data.toList.take k)

theorem vk_zero (d : ByteArray) : vk d 0 = 0 := by unfold vk; rw [List.take_zero, dval_nil]
theorem vk_step (d : ByteArray) (k : Nat) (h : k < d.size) : vk d (k + 1) = vk d k * 10 + ((by_ d k).toNat - 48) := by
  unfold vk
  rw [take_by d k h, dval_append, dval_cons, dval_nil]
theorem vk_all (d : ByteArray) : vk d d.size = dval 0 d.data.toList := by
  unfold vk
  rw [List.take_of_length_le (by rw [← size_len]; exact Nat.le_refl _)]
theorem vk_le (d : ByteArray) (k : Nat) : vk d k ≤ dval 0 d.data.toList := by
  unfold vk
  have e : dval 0 d.data.toList = dval (dval 0 (d.data.toList.take k)) (d.data.toList.drop k) := by rw [← dval_append, List.take_append_drop]
  rw [e]
  exact dval_ge _ _

def most7 : ByteArray := { data := #[57, 50, 50, 51, 51, 55, 50, 48, 51, 54, 56, 53, 52, 55, 55, 53, 56, 48, 55] }
def most8 : ByteArray := { data := #[57, 50, 50, 51, 51, 55, 50, 48, 51, 54, 56, 53, 52, 55, 55, 53, 56, 48, 56] }

theorem most7_plain : plainDigits most7.data.toList := ⟨⟨57, _, rfl, by decide⟩, by decide⟩
theorem most8_plain : plainDigits most8.data.toList := ⟨⟨57, _, rfl, by decide⟩, by decide⟩

theorem above7 {d : ByteArray} (hd : d.data.toList = [48] ∨ plainDigits d.data.toList) : abv d most7 = decide (9223372036854775807 < dval 0 d.data.toList) :=
  abv_val d most7 hd most7_plain rfl 9223372036854775807 (by decide +kernel) (by decide) (by decide)
theorem above8 {d : ByteArray} (hd : d.data.toList = [48] ∨ plainDigits d.data.toList) : abv d most8 = decide (9223372036854775808 < dval 0 d.data.toList) :=
  abv_val d most8 hd most8_plain rfl 9223372036854775808 (by decide +kernel) (by decide) (by decide)

theorem formed_dgs {s : ByteArray} (h : isForm s.data.toList = true) : (dgs s).data.toList = [48] ∨ plainDigits (dgs s).data.toList := by
  rw [dgs_list]
  rcases (isForm_iff _).1 h with h | h
  · left; rw [h]; rfl
  · exact Or.inr h

theorem formed_pos {s : ByteArray} (h : isForm s.data.toList = true) : 0 < s.size := by
  rcases Nat.eq_zero_or_pos s.size with h0 | h0
  · have e := empty_of h0
    subst e
    cases h
  · exact h0

theorem formed_dig {s : ByteArray} (h : isForm s.data.toList = true) (j : Nat) (hj : j < (dgs s).size) : 48 ≤ (by_ (dgs s) j).toNat ∧ (by_ (dgs s) j).toNat ≤ 57 := by
  have h1 := (formed_digits ((isForm_iff _).1 h)).2 (by_ (dgs s) j) (by rw [← dgs_list]; exact by_mem _ j hj)
  exact digs_iff.1 h1

theorem minus_pval {s : ByteArray} (h0 : 0 < s.size) (hm : (by_ s 0).toNat = 45) : pval s.data.toList = -(dval 0 (dgs s).data.toList : Int) ∧ lim s.data.toList = 9223372036854775808 := by
  unfold pval lim
  rw [minus_by h0, decide_eq_true hm, dgs_list]
  exact ⟨rfl, rfl⟩
theorem plain_pval {s : ByteArray} (h0 : 0 < s.size) (hm : ¬ (by_ s 0).toNat = 45) : pval s.data.toList = (dval 0 (dgs s).data.toList : Int) ∧ lim s.data.toList = 9223372036854775807 := by
  unfold pval lim
  rw [minus_by h0, decide_eq_false hm, dgs_list]
  exact ⟨rfl, rfl⟩

set_option maxHeartbeats 2000000 in
theorem refparse_any (s : ByteArray) (w : World) (hs : s.size ≤ 281474976710656) :
    Calls Tryd.prog 62 #[.string s] w fun e w' => e = .returned (.tuple #[.int .i64 (pv s.data.toList), .int .i64 (pe s.data.toList)]) ∧ w' = w := by
  cases hf : isForm s.data.toList
  · have E := hide (p_no hf)
    go_enter Tryd.func62, Tryd.ntmps62
    go_wp2_with (go_at_call 76; refine (refform_any s w hs).mono ?_; rintro e w' ⟨rfl, rfl⟩)
    go_ret2
    exact ⟨ret_p (unhide E), rfl⟩
  have h0 := formed_pos hf
  have b0 := by_at s 0 h0
  have hds : (dgs s).size ≤ 281474976710656 := by rw [dgs_size]; have := mag_len s.data.toList; rw [← size_len] at this; omega
  have HD := hide (fun j hj => formed_dig hf j hj)
  have HF := hide (formed_dgs hf)
  have PR := hide (fun hv => p_range hf hv)
  have PO := hide (fun hv => p_ok hf hv)
  rw [← dgs_list] at PR PO
  by_cases hm : (by_ s 0).toNat = 45
  · have qm : (((by_ s 0).toNat : Int) == 45) = true := by simp; omega
    have X := dgs_minus h0 hm
    obtain ⟨e1, e2⟩ := minus_pval h0 hm
    rw [e2] at PR PO
    rw [e1] at PO
    clear hm e1 e2
    generalize dgs s = d at *
    have hA := above8 (unhide HF)
    by_cases hv : dval 0 d.data.toList ≤ 9223372036854775808
    · rw [decide_eq_false (by omega)] at hA
      have E := hide (unhide PO hv)
      clear PR PO
      go_enter Tryd.func62, Tryd.ntmps62
      go_wp2_with fail
      refine (refform_any s w hs).mono ?_
      rintro e w' ⟨rfl, rfl⟩
      rw [hf]
      go_wp2_with fail
      refine (above_any d most8 w').mono ?_
      rintro e w1 ⟨rfl, rfl⟩
      rw [hA]
      go_wp2
      clear hA
      go_loop [9, 10] (fun n i => ∃ k : Nat, k ≤ d.size ∧ i = .int .i64 k ∧ n = .int .i64 (-((vk d k : Nat) : Int))) (fun _ i => d.size - (intOf i).toNat)
      case atStart => exact ⟨0, by omega, rfl, by rw [vk_zero]; rfl⟩
      case round =>
        obtain ⟨k, hk, rfl, rfl⟩ := hrel
        by_cases hlt : k < d.size
        · have hb := by_at d k hlt
          obtain ⟨hd1, hd2⟩ := unhide HD k hlt
          have hst := vk_step d k hlt
          have hle := vk_le d (k + 1)
          have HN := hide (show -((vk d (k + 1) : Nat) : Int) = 10 * (-((vk d k : Nat) : Int)) + -(((by_ d k).toNat : Int) - 48) by omega)
          have hbd : 10 * vk d k + ((by_ d k).toNat - 48) ≤ 9223372036854775808 := by omega
          clear hst hle
          generalize vk d k = v at *
          go_wp2
          go_round
          case rel => exact ⟨k + 1, by omega, by go_num, by rw [unhide HN]⟩
          case measure => simp [intOf]; omega
        · have e : k = d.size := by omega
          subst e
          have EV := hide (vk_all d)
          go_wp2
          go_ret2
          exact ⟨ret_p (by rw [unhide EV]; exact unhide E), rfl⟩
    · rw [decide_eq_true (by omega)] at hA
      have E := hide (unhide PR hv)
      clear PR PO
      go_enter Tryd.func62, Tryd.ntmps62
      go_wp2_with fail
      refine (refform_any s w hs).mono ?_
      rintro e w' ⟨rfl, rfl⟩
      rw [hf]
      go_wp2_with fail
      refine (above_any d most8 w').mono ?_
      rintro e w1 ⟨rfl, rfl⟩
      rw [hA]
      go_wp2
      go_ret2
      exact ⟨ret_p (unhide E), rfl⟩
  · have qm : (((by_ s 0).toNat : Int) == 45) = false := by simp; omega
    have X := dgs_plain h0 hm
    obtain ⟨e1, e2⟩ := plain_pval h0 hm
    rw [e2] at PR PO
    rw [e1] at PO
    clear hm e1 e2
    rw [← X] at PR PO HF HD
    clear X hds
    have hA := above7 (unhide HF)
    by_cases hv : dval 0 s.data.toList ≤ 9223372036854775807
    · rw [decide_eq_false (by omega)] at hA
      have E := hide (unhide PO hv)
      clear PR PO
      go_enter Tryd.func62, Tryd.ntmps62
      go_wp2_with fail
      refine (refform_any s w hs).mono ?_
      rintro e w' ⟨rfl, rfl⟩
      rw [hf]
      go_wp2_with fail
      refine (above_any s most7 w').mono ?_
      rintro e w1 ⟨rfl, rfl⟩
      rw [hA]
      go_wp2
      clear hA
      go_loop [9, 10] (fun n i => ∃ k : Nat, k ≤ s.size ∧ i = .int .i64 k ∧ n = .int .i64 (((vk s k : Nat) : Int))) (fun _ i => s.size - (intOf i).toNat)
      case atStart => exact ⟨0, by omega, rfl, by rw [vk_zero]; rfl⟩
      case round =>
        obtain ⟨k, hk, rfl, rfl⟩ := hrel
        by_cases hlt : k < s.size
        · have hb := by_at s k hlt
          obtain ⟨hd1, hd2⟩ := unhide HD k hlt
          have hst := vk_step s k hlt
          have hle := vk_le s (k + 1)
          have HN := hide (show ((vk s (k + 1) : Nat) : Int) = 10 * (((vk s k : Nat) : Int)) + (((by_ s k).toNat : Int) - 48) by omega)
          have hbd : 10 * vk s k + ((by_ s k).toNat - 48) ≤ 9223372036854775807 := by omega
          clear hst hle
          generalize vk s k = v at *
          go_wp2
          go_round
          case rel => exact ⟨k + 1, by omega, by go_num, by rw [unhide HN]⟩
          case measure => simp [intOf]; omega
        · have e : k = s.size := by omega
          subst e
          have EV := hide (vk_all s)
          go_wp2
          go_ret2
          exact ⟨ret_p (by rw [unhide EV]; exact unhide E), rfl⟩
    · rw [decide_eq_true (by omega)] at hA
      have E := hide (unhide PR hv)
      clear PR PO
      go_enter Tryd.func62, Tryd.ntmps62
      go_wp2_with fail
      refine (refform_any s w hs).mono ?_
      rintro e w' ⟨rfl, rfl⟩
      rw [hf]
      go_wp2_with fail
      refine (above_any s most7 w').mono ?_
      rintro e w1 ⟨rfl, rfl⟩
      rw [hA]
      go_wp2
      go_ret2
      exact ⟨ret_p (unhide E), rfl⟩

end Go.Proofs.YtjkogjmbmkopiaaDoor
