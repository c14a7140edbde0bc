/- Form, above and Parse, of the document. -/
import Derived.Test.YtjkogjmbmkopiaaDoorForm
import Derived.Test.YtjkogjmbmkopiaaDoorCmp
namespace Go.Proofs.YtjkogjmbmkopiaaDoor
open Go.RowKit

set_option maxHeartbeats 1000000 in
theorem above_any (a b : ByteArray) (w : World) :
    Calls Tryd.prog 77 #[.string a, .string b] w fun e w' => e = .returned (.bool (abv a b)) ∧ w' = w := by
  unfold abv
  by_cases h : a.size = b.size
  · have q : ((a.size : Int) != (b.size : Int)) = false := by simp [h]
    rw [if_pos h]
    clear h
    go_enter Tryd.func77, Tryd.ntmps77
    go_wp2
    go_ret
    exact ⟨rfl, rfl⟩
  · have q : ((a.size : Int) != (b.size : Int)) = true := by simp; omega
    rw [if_neg h]
    go_enter Tryd.func77, Tryd.ntmps77
    go_wp2
    go_ret
    exact ⟨ret_bool (by simp), rfl⟩

theorem zero_dgs : dgs ⟨#[48]⟩ = ⟨#[48]⟩ := by decide

theorem r_none {s : ByteArray} (h0 : (dgs s).size = 0) : isForm s.data.toList = false := by
  refine form_none (fun h => ?_) h0
  rw [h, zero_dgs] at h0
  exact absurd h0 (by decide)
theorem r_nought {s : ByteArray} (hc : (by_ (dgs s) 0).toNat = 48) (h1 : 1 < s.size) : isForm s.data.toList = false := by
  refine form_nought (fun h => ?_) hc
  rw [h] at h1
  exact absurd h1 (by decide)
theorem r_bad {s : ByteArray} {k : Nat} (hk : k < (dgs s).size) (hc : digit (by_ (dgs s) k).toNat = false) : isForm s.data.toList = false := by
  refine form_bad (fun h => ?_) hk hc
  rw [h, zero_dgs] at hk hc
  have e : k = 0 := by
    have : (⟨#[48]⟩ : ByteArray).size = 1 := rfl
    omega
  subst e
  exact absurd hc (by decide)
theorem r_good {s : ByteArray} (h0 : 0 < (dgs s).size) (hc : ¬ (by_ (dgs s) 0).toNat = 48 ∨ s.size = 1) (hd : ∀ j, j < (dgs s).size → digit (by_ (dgs s) j).toNat = true) : isForm s.data.toList = true := by
  by_cases h : (by_ (dgs s) 0).toNat = 48
  · rcases hc with hc | hc
    · exact absurd h hc
    · apply isForm_yes
      left
      have e := list_first s (by omega)
      have e1 : s.data.toList.drop 1 = [] := List.length_eq_zero_iff.1 (by rw [List.length_drop, ← size_len]; omega)
      rw [e1] at e
      by_cases hm : (by_ s 0).toNat = 45
      · exfalso
        rw [dgs_size, e] at h0
        unfold mag at h0
        simp only at h0
        rw [if_pos hm] at h0
        simp at h0
      · have em : mag s.data.toList = [by_ s 0] := by rw [e]; unfold mag; simp only; rw [if_neg hm]
        have e3 : by_ (dgs s) 0 = by_ s 0 := by unfold by_; rw [dgs_list, em]; rfl
        rw [e3] at h
        rw [e, UInt8.toNat_inj.1 (h.trans (show 48 = (48 : UInt8).toNat from rfl))]
  · exact form_good h0 h hd

theorem dgs_minus {s : ByteArray} (h0 : 0 < s.size) (h : (by_ s 0).toNat = 45) : s.extract 1 s.size = dgs s := by
  apply WideShapes.bytes_inj
  rw [dgs_list, ByteArray.data_extract, Array.toList_extract, List.extract_eq_take_drop, List.take_of_length_le (by rw [List.length_drop, Array.length_toList]; exact Nat.le_refl _)]
  have e := list_first s h0
  rw [e]
  unfold mag
  simp only
  rw [if_pos h]
  simp

theorem dgs_plain {s : ByteArray} (h0 : 0 < s.size) (h : ¬ (by_ s 0).toNat = 45) : s = dgs s := by
  apply WideShapes.bytes_inj
  rw [dgs_list]
  have e := list_first s h0
  rw [e]
  unfold mag
  simp only
  rw [if_neg h]

theorem minus_by {s : ByteArray} (h0 : 0 < s.size) : minus s.data.toList = decide ((by_ s 0).toNat = 45) := by
  have e := list_first s h0
  rw [e]
  rfl

set_option maxHeartbeats 1000000 in
theorem refform_any (s : ByteArray) (w : World) (hs : s.size ≤ 281474976710656) :
    Calls Tryd.prog 76 #[.string s] w fun e w' => e = .returned (.bool (isForm s.data.toList)) ∧ w' = w := by
  by_cases h0 : s.size = 0
  · have e := empty_of h0
    subst e
    clear hs h0
    go_enter Tryd.func76, Tryd.ntmps76
    go_wp2
    go_ret
    exact ⟨rfl, rfl⟩
  have b0 := by_at s 0 (by omega)
  have hds : (dgs s).size ≤ 281474976710656 := by rw [dgs_size]; have := mag_len s.data.toList; rw [← size_len] at this; omega
  have FN := hide (fun h => r_none (s := s) h)
  have FO := hide (fun hc h1 => r_nought (s := s) hc h1)
  have FB := hide (fun k hk hc => r_bad (s := s) (k := k) hk hc)
  have FG := hide (fun h0 hc hd => r_good (s := s) h0 hc hd)
  by_cases hm : (by_ s 0).toNat = 45
  · have qm : (((by_ s 0).toNat : Int) == 45) = true := by simp; omega
    have X := dgs_minus (by omega) hm
    clear hm
    generalize dgs s = d at *
    by_cases h00 : d.size = 0
    · have E := hide (unhide FN h00)
      have e := empty_of h00
      subst e
      clear hds h00 FN FO FB FG
      go_enter Tryd.func76, Tryd.ntmps76
      go_wp2
      go_ret
      exact ⟨ret_bool (unhide E).symm, rfl⟩
    have hq := ne_empty (s := d) (by omega)
    have hq2 : d.toList.isEmpty = false := by cases e : d.toList with | nil => exact absurd e hq | cons a l => rfl
    have d0 := by_at d 0 (by omega)
    by_cases h1 : (by_ d 0).toNat = 48
    · have q1 : (((by_ d 0).toNat : Int) == 48) = true := by simp; omega
      by_cases h2 : 1 < s.size
      · have E := hide (unhide FO h1 h2)
        clear FN FO FB FG h1
        go_enter Tryd.func76, Tryd.ntmps76
        go_wp2
        go_ret
        exact ⟨ret_bool (unhide E).symm, rfl⟩
      · have FG1 := hide (unhide FG (by omega) (Or.inr (by omega)))
        clear FN FO FG h1
        go_enter Tryd.func76, Tryd.ntmps76
        go_wp2
        clear q1 d0 hq hq2
        go_loop [4] (fun i => ∃ k : Nat, k ≤ d.size ∧ i = .int .i64 k ∧ ∀ j, j < k → digit (by_ d j).toNat = true) (fun i => d.size - (intOf i).toNat)
        case atStart => exact ⟨0, by omega, rfl, fun j hj => by omega⟩
        case round =>
          obtain ⟨k, hk, rfl, hall⟩ := hrel
          by_cases hlt : k < d.size
          · have hb := by_at d k hlt
            cases c1 : digit (by_ d k).toNat
            · have E := hide (unhide FB k hlt c1)
              clear hall FB FG1
              go_wp2_with (go_at_call 35; refine (refdigit_any _ _).mono ?_; rintro e w' ⟨rfl, rfl⟩)
              go_ret
              exact ⟨ret_bool (unhide E).symm, rfl⟩
            · have HN := hide (show ∀ j, j < k + 1 → digit (by_ d j).toNat = true from fun j hj => if h : j = k then by rw [h, c1] else hall j (by omega))
              clear hall
              go_wp2_with (go_at_call 35; refine (refdigit_any _ _).mono ?_; rintro e w' ⟨rfl, rfl⟩)
              go_round
              case rel => exact ⟨k + 1, by omega, by go_num, unhide HN⟩
              case measure => simp [intOf]; omega
          · have e : k = d.size := by omega
            subst e
            have E := hide (unhide FG1 hall)
            clear hall FB FG1
            go_wp2
            go_ret
            exact ⟨ret_bool (unhide E).symm, rfl⟩
    · have q1 : (((by_ d 0).toNat : Int) == 48) = false := by simp; omega
      have FG1 := hide (unhide FG (by omega) (Or.inl h1))
      clear FN FO FG h1
      go_enter Tryd.func76, Tryd.ntmps76
      go_wp2
      clear q1 d0 hq hq2
      go_loop [4] (fun i => ∃ k : Nat, k ≤ d.size ∧ i = .int .i64 k ∧ ∀ j, j < k → digit (by_ d j).toNat = true) (fun i => d.size - (intOf i).toNat)
      case atStart => exact ⟨0, by omega, rfl, fun j hj => by omega⟩
      case round =>
        obtain ⟨k, hk, rfl, hall⟩ := hrel
        by_cases hlt : k < d.size
        · have hb := by_at d k hlt
          cases c1 : digit (by_ d k).toNat
          · have E := hide (unhide FB k hlt c1)
            clear hall FB FG1
            go_wp2_with (go_at_call 35; refine (refdigit_any _ _).mono ?_; rintro e w' ⟨rfl, rfl⟩)
            go_ret
            exact ⟨ret_bool (unhide E).symm, rfl⟩
          · have HN := hide (show ∀ j, j < k + 1 → digit (by_ d j).toNat = true from fun j hj => if h : j = k then by rw [h, c1] else hall j (by omega))
            clear hall
            go_wp2_with (go_at_call 35; refine (refdigit_any _ _).mono ?_; rintro e w' ⟨rfl, rfl⟩)
            go_round
            case rel => exact ⟨k + 1, by omega, by go_num, unhide HN⟩
            case measure => simp [intOf]; omega
        · have e : k = d.size := by omega
          subst e
          have E := hide (unhide FG1 hall)
          clear hall FB FG1
          go_wp2
          go_ret
          exact ⟨ret_bool (unhide E).symm, rfl⟩
  · have qm : (((by_ s 0).toNat : Int) == 45) = false := by simp; omega
    have X := dgs_plain (by omega) hm
    clear hm
    rw [← X] at FN FO FB FG
    clear X FN hds
    have hq := ne_empty (s := s) (by omega)
    have hq2 : s.toList.isEmpty = false := by cases e : s.toList with | nil => exact absurd e hq | cons a l => rfl
    by_cases h1 : (by_ s 0).toNat = 48
    · have q1 : (((by_ s 0).toNat : Int) == 48) = true := by simp; omega
      by_cases h2 : 1 < s.size
      · have E := hide (unhide FO h1 h2)
        clear FO FB FG h1
        go_enter Tryd.func76, Tryd.ntmps76
        go_wp2
        go_ret
        exact ⟨ret_bool (unhide E).symm, rfl⟩
      · have FG1 := hide (unhide FG (by omega) (Or.inr (by omega)))
        clear FO FG h1
        go_enter Tryd.func76, Tryd.ntmps76
        go_wp2
        clear q1 b0 hq hq2
        go_loop [4] (fun i => ∃ k : Nat, k ≤ s.size ∧ i = .int .i64 k ∧ ∀ j, j < k → digit (by_ s j).toNat = true) (fun i => s.size - (intOf i).toNat)
        case atStart => exact ⟨0, by omega, rfl, fun j hj => by omega⟩
        case round =>
          obtain ⟨k, hk, rfl, hall⟩ := hrel
          by_cases hlt : k < s.size
          · have hb := by_at s k hlt
            cases c1 : digit (by_ s k).toNat
            · have E := hide (unhide FB k hlt c1)
              clear hall FB FG1
              go_wp2_with (go_at_call 35; refine (refdigit_any _ _).mono ?_; rintro e w' ⟨rfl, rfl⟩)
              go_ret
              exact ⟨ret_bool (unhide E).symm, rfl⟩
            · have HN := hide (show ∀ j, j < k + 1 → digit (by_ s j).toNat = true from fun j hj => if h : j = k then by rw [h, c1] else hall j (by omega))
              clear hall
              go_wp2_with (go_at_call 35; refine (refdigit_any _ _).mono ?_; rintro e w' ⟨rfl, rfl⟩)
              go_round
              case rel => exact ⟨k + 1, by omega, by go_num, unhide HN⟩
              case measure => simp [intOf]; omega
          · have e : k = s.size := by omega
            subst e
            have E := hide (unhide FG1 hall)
            clear hall FB FG1
            go_wp2
            go_ret
            exact ⟨ret_bool (unhide E).symm, rfl⟩
    · have q1 : (((by_ s 0).toNat : Int) == 48) = false := by simp; omega
      have FG1 := hide (unhide FG (by omega) (Or.inl h1))
      clear FO FG h1
      go_enter Tryd.func76, Tryd.ntmps76
      go_wp2
      clear q1 b0 hq hq2
      go_loop [4] (fun i => ∃ k : Nat, k ≤ s.size ∧ i = .int .i64 k ∧ ∀ j, j < k → digit (by_ s j).toNat = true) (fun i => s.size - (intOf i).toNat)
      case atStart => exact ⟨0, by omega, rfl, fun j hj => by omega⟩
      case round =>
        obtain ⟨k, hk, rfl, hall⟩ := hrel
        by_cases hlt : k < s.size
        · have hb := by_at s k hlt
          cases c1 : digit (by_ s k).toNat
          · have E := hide (unhide FB k hlt c1)
            clear hall FB FG1
            go_wp2_with (go_at_call 35; refine (refdigit_any _ _).mono ?_; rintro e w' ⟨rfl, rfl⟩)
            go_ret
            exact ⟨ret_bool (unhide E).symm, rfl⟩
          · have HN := hide (show ∀ j, j < k + 1 → digit (by_ s j).toNat = true from fun j hj => if h : j = k then by rw [h, c1] else hall j (by omega))
            clear hall
            go_wp2_with (go_at_call 35; refine (refdigit_any _ _).mono ?_; rintro e w' ⟨rfl, rfl⟩)
            go_round
            case rel => exact ⟨k + 1, by omega, by go_num, unhide HN⟩
            case measure => simp [intOf]; omega
        · have e : k = s.size := by omega
          subst e
          have E := hide (unhide FG1 hall)
          clear hall FB FG1
          go_wp2
          go_ret
          exact ⟨ret_bool (unhide E).symm, rfl⟩

end Go.Proofs.YtjkogjmbmkopiaaDoor
