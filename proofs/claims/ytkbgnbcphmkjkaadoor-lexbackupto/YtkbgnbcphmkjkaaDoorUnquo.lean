/- Unquote, of the program and of the document. -/
import Derived.Test.YtkbgnbcphmkjkaaDoorUnq
namespace Go.Proofs.YtkbgnbcphmkjkaaDoor
open Go.RowKit

theorem mn_line {s : ByteArray} {k : Nat} (h : (by_ s k).toNat = 10) : mn (s.extract k s.size) = (0, 0) := by
  unfold mn
  rw [ext_by, Nat.add_zero, if_pos h]
theorem mn_one {s : ByteArray} {k : Nat} (h1 : ¬ (by_ s k).toNat = 10) (h2 : ¬ (by_ s k).toNat = 92) : mn (s.extract k s.size) = (by_ s k, 1) := by
  unfold mn
  rw [ext_by, Nat.add_zero, if_neg h1, if_pos h2]
theorem mn_cut {s : ByteArray} {k : Nat} (h : (by_ s k).toNat = 92) (hk : k < s.size) (hk1 : ¬ k + 1 < s.size) : mn (s.extract k s.size) = (0, 0) := by
  unfold mn
  rw [ext_by, Nat.add_zero, if_neg (by omega), if_neg (by omega), if_pos (by rw [ext_size s k (by omega)]; omega)]
theorem mn_esc {s : ByteArray} {k : Nat} {m : UInt8} (h : (by_ s k).toNat = 92) (hk1 : k + 1 < s.size) (hm : mean (by_ s (k + 1)) = some m) : mn (s.extract k s.size) = (m, 2) := by
  unfold mn
  rw [ext_by, Nat.add_zero, if_neg (by omega), if_neg (by omega), if_neg (by rw [ext_size s k (by omega)]; omega), ext_by, hm]
theorem mn_bad {s : ByteArray} {k : Nat} (h : (by_ s k).toNat = 92) (hk1 : k + 1 < s.size) (hm : mean (by_ s (k + 1)) = none) : mn (s.extract k s.size) = (0, 0) := by
  unfold mn
  rw [ext_by, Nat.add_zero, if_neg (by omega), if_neg (by omega), if_neg (by rw [ext_size s k (by omega)]; omega), ext_by, hm]

set_option maxHeartbeats 2000000 in
theorem unquote_any (s : ByteArray) (w : World) (hs : s.size ≤ 70368744177000) :
    Calls Tryd.prog 46 #[.string s] w fun e w' => e = Uend s ∧ Below w.heap.size w w' := by
  obtain ⟨i0, hi0, hz0, hz1, hz2⟩ := info_parts Tryd.infoB
  by_cases h0 : s.size = 0
  · have E := hide (unq_first (Or.inl h0))
    have e := empty_of h0
    subst e
    clear hs h0
    go_enter Tryd.func46, Tryd.ntmps46
    go_wp2
    go_ret3
    exact ⟨ret_none (unhide E), Below.refl _ _⟩
  have hq := ne_empty (s := s) (by omega)
  have hq2 : s.toList.isEmpty = false := by cases e : s.toList with | nil => exact absurd e hq | cons a l => rfl
  have b0 := by_at s 0 (by omega)
  by_cases h1 : (by_ s 0).toNat = 34
  · have q1 : (((by_ s 0).toNat : Int) != 34) = false := by simp; omega
    have HM := hide (mid_start (by omega) h1)
    clear h1
    go_enter Tryd.func46, Tryd.ntmps46
    go_wp2
    clear b0 q1 hq hq2
    go_loopw [5, 6] (fun v i wr => ∃ (k : Nat) (acc : List UInt8), 1 ≤ k ∧ k ≤ s.size ∧ i = .int .i64 k ∧ Own wr w.heap.size v acc ∧ Below w.heap.size w wr ∧ acc.length ≤ k ∧ Mid s k acc) (fun _ i _ => s.size - (intOf i).toNat)
    case atStart => exact ⟨1, [], by omega, by omega, rfl, Own.nil _ _, Below.refl _ _, by simp, unhide HM⟩
    case round =>
      obtain ⟨k, acc, hk1, hk, rfl, hO, hB, hal, hM⟩ := hrel
      have hsz := hB.size
      by_cases hlt : k < s.size
      · have hb := by_at s k hlt
        by_cases c1 : (by_ s k).toNat = 34
        · have p : (((by_ s k).toNat : Int) == 34) = true := by simp; omega
          have E := hide (mid_end hM hlt c1)
          have hcv := own_conv hO
          have HB := hide hB
          clear c1 hM hO hB HM
          go_wp2
          go_ret3
          exact ⟨ret_some (unhide E) (by omega), unhide HB⟩
        · have p1 : (((by_ s k).toNat : Int) == 34) = false := by simp; omega
          have HMk := hide hM
          have HO := hide hO
          have HB := hide hB
          clear hM hO hB HM
          have hm1 : acc.length + 1 ≤ maxLen := by unfold maxLen; omega
          by_cases c2 : (by_ s k).toNat = 10
          · have X := hide (mn_line c2)
            have E := hide (mid_line (unhide HMk) hlt c2)
            clear c1 c2 HMk HO
            go_wp2_with fail
            refine (meant_any _ _ (by rw [ext_size s k hk]; unfold maxLen; omega) (by rw [ext_size s k hk]; omega)).mono ?_
            rintro e w' ⟨rfl, rfl⟩
            rw [unhide X]
            go_wp2
            go_ret3
            exact ⟨ret_none (unhide E), unhide HB⟩
          by_cases c3 : (by_ s k).toNat = 92
          · by_cases hk2 : k + 1 < s.size
            · cases hm : mean (by_ s (k + 1)) with
              | none =>
                have X := hide (mn_bad c3 hk2 hm)
                have E := hide (mid_bad (unhide HMk) hk2 c3 hm)
                clear c1 c2 c3 HMk HO hm
                go_wp2_with fail
                refine (meant_any _ _ (by rw [ext_size s k hk]; unfold maxLen; omega) (by rw [ext_size s k hk]; omega)).mono ?_
                rintro e w' ⟨rfl, rfl⟩
                rw [unhide X]
                go_wp2
                go_ret3
                exact ⟨ret_none (unhide E), unhide HB⟩
              | some m =>
                have X := hide (mn_esc c3 hk2 hm)
                have N := hide (mid_esc (unhide HMk) hk2 c3 hm)
                clear c1 c2 c3 HMk hm
                go_wp2_with fail
                refine (meant_any _ _ (by rw [ext_size s k hk]; unfold maxLen; omega) (by rw [ext_size s k hk]; omega)).mono ?_
                rintro e w' ⟨rfl, rfl⟩
                rw [unhide X]
                go_wp2_with (first
                  | (at_builtin; refine wpList_append_own _ rfl _ _ 55 rfl w.heap.size 5 i0 (.int .u8 0) 1 1 Tryd.underlying55 hi0 hz0 hz1 hz2 rfl (by decide) _ _ _ rfl ((unhide HO).alloc _) ⟨w'.heap.size, 0, none⟩ 1 1 [.int .u8 (m.toNat : Int)] rfl rfl (one_new _ _ _) (by intro u hu; simp at hu; subst hu; rfl) hm1 (by omega) (by rw [World.size_alloc]; omega) ?_)
                  | fail)
                intro v' w5 hv hgrow _
                have HO5 := hide (Own.one hv)
                have HB5 := hide (((unhide HB).alloc hsz _).grown hgrow (by rw [World.size_alloc]; omega) (own_block (unhide HO)))
                clear hv hgrow HO HB
                go_wp2
                go_roundw
                case rel => exact ⟨k + 2, acc ++ [m], by omega, by omega, by go_num, unhide HO5, unhide HB5, by rw [List.length_append]; simp; omega, unhide N⟩
                case measure => simp [intOf]; omega
            · have X := hide (mn_cut c3 hlt hk2)
              have E := hide (mid_cut (unhide HMk) hlt c3 hk2)
              clear c1 c2 c3 HMk HO
              go_wp2_with fail
              refine (meant_any _ _ (by rw [ext_size s k hk]; unfold maxLen; omega) (by rw [ext_size s k hk]; omega)).mono ?_
              rintro e w' ⟨rfl, rfl⟩
              rw [unhide X]
              go_wp2
              go_ret3
              exact ⟨ret_none (unhide E), unhide HB⟩
          · have X := hide (mn_one c2 c3)
            have N := hide (mid_one (unhide HMk) hlt c1 c2 c3)
            clear c1 c2 c3 HMk
            go_wp2_with fail
            refine (meant_any _ _ (by rw [ext_size s k hk]; unfold maxLen; omega) (by rw [ext_size s k hk]; omega)).mono ?_
            rintro e w' ⟨rfl, rfl⟩
            rw [unhide X]
            go_wp2_with (first
              | (at_builtin; refine wpList_append_own _ rfl _ _ 55 rfl w.heap.size 5 i0 (.int .u8 0) 1 1 Tryd.underlying55 hi0 hz0 hz1 hz2 rfl (by decide) _ _ _ rfl ((unhide HO).alloc _) ⟨w'.heap.size, 0, none⟩ 1 1 [.int .u8 ((by_ s k).toNat : Int)] rfl rfl (one_new _ _ _) (by intro u hu; simp at hu; subst hu; rfl) hm1 (by omega) (by rw [World.size_alloc]; omega) ?_)
              | fail)
            intro v' w5 hv hgrow _
            have HO5 := hide (Own.one hv)
            have HB5 := hide (((unhide HB).alloc hsz _).grown hgrow (by rw [World.size_alloc]; omega) (own_block (unhide HO)))
            clear hv hgrow HO HB
            go_wp2
            go_roundw
            case rel => exact ⟨k + 1, acc ++ [(by_ s k)], by omega, by omega, by go_num, unhide HO5, unhide HB5, by rw [List.length_append]; simp; omega, unhide N⟩
            case measure => simp [intOf]; omega
      · have E := hide (mid_out hM hlt)
        have HB := hide hB
        clear hM hO hB HM
        go_wp2
        go_ret3
        exact ⟨ret_none (unhide E), unhide HB⟩
  · have q1 : (((by_ s 0).toNat : Int) != 34) = true := by simp; omega
    have E := hide (unq_first (Or.inr h1))
    clear h1
    go_enter Tryd.func46, Tryd.ntmps46
    go_wp2
    go_ret3
    exact ⟨ret_none (unhide E), Below.refl _ _⟩

end Go.Proofs.YtkbgnbcphmkjkaaDoor
