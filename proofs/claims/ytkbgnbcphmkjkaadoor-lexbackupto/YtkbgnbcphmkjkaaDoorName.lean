/- Name. -/
import Derived.Test.YtkbgnbcphmkjkaaDoorNm
namespace Go.Proofs.YtkbgnbcphmkjkaaDoor
open Go.RowKit

def isName (s : ByteArray) : Bool :=
  decide (0 < s.size) && decide (s.size ≤ 30) && letter (bt s 0) && ((List.range s.size).all fun j => letter (bt s j) || digit (bt s j)) && !isWord s

theorem isName_empty {s : ByteArray} (h : s.size = 0) : isName s = false := by unfold isName; simp [h]
theorem isName_long {s : ByteArray} (h : ¬ s.size ≤ 30) : isName s = false := by unfold isName; simp [h]
theorem isName_head {s : ByteArray} (h : letter (bt s 0) = false) : isName s = false := by unfold isName; simp [h]
theorem isName_bad {s : ByteArray} {k : Nat} (hk : k < s.size) (h1 : letter (bt s k) = false) (h2 : digit (bt s k) = false) : isName s = false := by
  have e : ((List.range s.size).all fun j => letter (bt s j) || digit (bt s j)) = false := by
    rw [List.all_eq_false]
    exact ⟨k, List.mem_range.2 hk, by simp [h1, h2]⟩
  unfold isName
  rw [e]
  simp
theorem isName_all {s : ByteArray} (h0 : 0 < s.size) (h1 : s.size ≤ 30) (h2 : letter (bt s 0) = true) (h3 : ∀ j, j < s.size → (letter (bt s j) || digit (bt s j)) = true) : isName s = !isWord s := by
  have e : ((List.range s.size).all fun j => letter (bt s j) || digit (bt s j)) = true := by
    rw [List.all_eq_true]
    intro j hj
    exact h3 j (List.mem_range.1 hj)
  unfold isName
  rw [e, decide_eq_true h0, decide_eq_true h1, h2]
  simp

set_option maxHeartbeats 1000000 in
theorem name_any (s : ByteArray) (w : World) (hs : s.size ≤ maxLen) :
    Calls Tryd.prog 16 #[.string s] w fun e w' => e = .returned (.bool (isName s)) ∧ Below w.heap.size w w' := by
  unfold maxLen at hs
  by_cases h0 : s.size = 0
  · have E := hide (isName_empty h0)
    have e := empty_of h0
    subst e
    clear hs h0
    go_enter Tryd.func16, Tryd.ntmps16
    go_wp2
    go_ret
    exact ⟨ret_bool (unhide E).symm, Below.refl _ _⟩
  have hq := ne_empty (s := s) (by omega)
  have hq2 : s.toList.isEmpty = false := by cases e : s.toList with | nil => exact absurd e hq | cons a l => rfl
  by_cases h1 : s.size ≤ 30
  · have hb0 := bt_at s 0 (by omega)
    have hq3 : decide (30 < (s.size : Int)) = false := decide_eq_false (by omega)
    cases h2 : letter (bt s 0)
    · have E := hide (isName_head h2)
      go_enter Tryd.func16, Tryd.ntmps16
      go_wp2_with (go_at_call 35; refine (letter_any _ _).mono ?_; rintro e w' ⟨rfl, rfl⟩)
      go_ret
      exact ⟨ret_bool (unhide E).symm, Below.refl _ _⟩
    · have HL := hide h2
      go_enter Tryd.func16, Tryd.ntmps16
      go_wp2_with (go_at_call 35; refine (letter_any _ _).mono ?_; rintro e w' ⟨rfl, rfl⟩)
      clear h2 hb0
      go_loop [19] (fun i => ∃ k : Nat, k ≤ s.size ∧ i = .int .i64 k ∧ ∀ j, j < k → (letter (bt s j) || digit (bt s j)) = true) (fun i => s.size - (intOf i).toNat)
      case atStart => exact ⟨0, by omega, rfl, fun j hj => by omega⟩
      case round =>
        obtain ⟨k, hk, rfl, hall⟩ := hrel
        by_cases hlt : k < s.size
        · have hb := bt_at s k hlt
          cases c1 : letter (bt s k)
          · cases c2 : digit (bt s k)
            · have E := hide (isName_bad hlt c1 c2)
              clear hall
              go_wp2_with (first | (go_at_call 35; refine (letter_any _ _).mono ?_; rintro e w' ⟨rfl, rfl⟩) | (go_at_call 36; refine (digit_any _ _).mono ?_; rintro e w' ⟨rfl, rfl⟩))
              go_ret
              exact ⟨ret_bool (unhide E).symm, Below.refl _ _⟩
            · have HN := hide (show ∀ j, j < k + 1 → (letter (bt s j) || digit (bt s j)) = true from fun j hj => if h : j = k then by rw [h, c2, Bool.or_true] else hall j (by omega))
              clear hall
              go_wp2_with (first | (go_at_call 35; refine (letter_any _ _).mono ?_; rintro e w' ⟨rfl, rfl⟩) | (go_at_call 36; refine (digit_any _ _).mono ?_; rintro e w' ⟨rfl, rfl⟩))
              go_round
              case rel => exact ⟨k + 1, by omega, by go_num, unhide HN⟩
              case measure => simp [intOf]; omega
          · have HN := hide (show ∀ j, j < k + 1 → (letter (bt s j) || digit (bt s j)) = true from fun j hj => if h : j = k then by rw [h, c1, Bool.true_or] else hall j (by omega))
            clear hall
            go_wp2_with (first | (go_at_call 35; refine (letter_any _ _).mono ?_; rintro e w' ⟨rfl, rfl⟩) | (go_at_call 36; refine (digit_any _ _).mono ?_; rintro e w' ⟨rfl, rfl⟩))
            go_round
            case rel => exact ⟨k + 1, by omega, by go_num, unhide HN⟩
            case measure => simp [intOf]; omega
        · have e : k = s.size := by omega
          subst e
          have E := hide (isName_all (by omega) h1 (unhide HL) hall)
          clear hall
          go_wp2_with (go_at_call 17; refine (word_any _ _).mono ?_; rintro e w' ⟨rfl, hw⟩)
          go_ret
          exact ⟨ret_bool (unhide E).symm, hw⟩
  · have E := hide (isName_long h1)
    go_enter Tryd.func16, Tryd.ntmps16
    go_wp2
    go_ret
    exact ⟨ret_bool (unhide E).symm, Below.refl _ _⟩

end Go.Proofs.YtkbgnbcphmkjkaaDoor
