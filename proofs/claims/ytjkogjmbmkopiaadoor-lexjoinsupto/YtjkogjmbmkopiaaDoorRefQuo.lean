/- The document's Quote. -/
import Derived.Test.YtjkogjmbmkopiaaDoorOwn
namespace Go.Proofs.YtjkogjmbmkopiaaDoor
open Go.RowKit

set_option maxHeartbeats 2000000 in
theorem refquote_any (s : ByteArray) (w : World) (hs : s.size ≤ 70368744177000) :
    Calls Tryd.prog 59 #[.string s] w fun e w' => e = .returned (.string ⟨(quo s.data.toList).toArray⟩) ∧ Below w.heap.size w w' := by
  obtain ⟨i0, hi0, hz0, hz1, hz2⟩ := info_parts Tryd.infoB
  go_enter Tryd.func59, Tryd.ntmps59
  go_wp2
  go_loopw [3, 4] (fun v i wr => ∃ k : Nat, k ≤ s.size ∧ i = .int .i64 k ∧ Own wr w.heap.size v (qpre s k) ∧ Below w.heap.size w wr) (fun _ i _ => s.size - (intOf i).toNat)
  case atStart => exact ⟨0, by omega, rfl, own_start w, (Below.refl w.heap.size w).alloc (Nat.le_refl _) _⟩
  case round =>
    obtain ⟨k, hk, rfl, hO, hB⟩ := hrel
    have hsz := hB.size
    have hql := qpre_len s k
    have HO := hide hO
    have HB := hide hB
    clear hO hB
    have hm : (qpre s k).length + 2 ≤ maxLen := by unfold maxLen; omega
    by_cases hlt : k < s.size
    · have hb := by_at s k hlt
      have E := hide (qpre_step s k hlt)
      by_cases h1 : (by_ s k).toNat = 92
      · have hq : (((by_ s k).toNat : Int) == 92) = true := by simp; omega
        rw [esc_92 h1] at E
        clear h1
        go_wp2_with (first
          | (at_builtin; refine wpList_append_own _ rfl _ _ 63 rfl w.heap.size 5 i0 (.int .u8 0) 1 1 Tryd.underlying63 hi0 hz0 hz1 hz2 rfl (by decide) _ _ _ rfl ((unhide HO).alloc _) ⟨wr.heap.size, 0, none⟩ 2 2 [.int .u8 92, .int .u8 ((by_ s k).toNat : Int)] rfl rfl (two_new _ _ _ _) (by intro u hu; simp at hu; rcases hu with rfl | rfl <;> rfl) hm (by omega) (by rw [World.size_alloc]; omega) ?_)
          | fail)
        intro v' w5 hv hgrow _
        have HO5 : Hid (Own w5 w.heap.size v' (qpre s (k + 1))) := hide (by rw [unhide E]; exact Own.two hv)
        have HB5 := hide (((unhide HB).alloc hsz _).grown hgrow (by rw [World.size_alloc]; omega) (own_block (unhide HO)))
        clear hv hgrow HO HB
        go_wp2
        go_roundw
        case rel => exact ⟨k + 1, by omega, by go_num, unhide HO5, unhide HB5⟩
        case measure => simp [intOf]; omega
      have q1 : (((by_ s k).toNat : Int) == 92) = false := by simp; omega
      by_cases h2 : (by_ s k).toNat = 34
      · have hq : (((by_ s k).toNat : Int) == 34) = true := by simp; omega
        rw [esc_34 h2] at E
        clear h1 h2
        go_wp2_with (first
          | (at_builtin; refine wpList_append_own _ rfl _ _ 63 rfl w.heap.size 5 i0 (.int .u8 0) 1 1 Tryd.underlying63 hi0 hz0 hz1 hz2 rfl (by decide) _ _ _ rfl ((unhide HO).alloc _) ⟨wr.heap.size, 0, none⟩ 2 2 [.int .u8 92, .int .u8 ((by_ s k).toNat : Int)] rfl rfl (two_new _ _ _ _) (by intro u hu; simp at hu; rcases hu with rfl | rfl <;> rfl) hm (by omega) (by rw [World.size_alloc]; omega) ?_)
          | fail)
        intro v' w5 hv hgrow _
        have HO5 : Hid (Own w5 w.heap.size v' (qpre s (k + 1))) := hide (by rw [unhide E]; exact Own.two hv)
        have HB5 := hide (((unhide HB).alloc hsz _).grown hgrow (by rw [World.size_alloc]; omega) (own_block (unhide HO)))
        clear hv hgrow HO HB
        go_wp2
        go_roundw
        case rel => exact ⟨k + 1, by omega, by go_num, unhide HO5, unhide HB5⟩
        case measure => simp [intOf]; omega
      have q2 : (((by_ s k).toNat : Int) == 34) = false := by simp; omega
      by_cases h3 : (by_ s k).toNat = 10
      · have hq : (((by_ s k).toNat : Int) == 10) = true := by simp; omega
        rw [esc_10 h3] at E
        clear h1 h2 h3
        go_wp2_with (first
          | (at_builtin; refine wpList_append_own _ rfl _ _ 63 rfl w.heap.size 5 i0 (.int .u8 0) 1 1 Tryd.underlying63 hi0 hz0 hz1 hz2 rfl (by decide) _ _ _ rfl ((unhide HO).alloc _) ⟨wr.heap.size, 0, none⟩ 2 2 [.int .u8 92, .int .u8 110] rfl rfl (two_new _ _ _ _) (by intro u hu; simp at hu; rcases hu with rfl | rfl <;> rfl) hm (by omega) (by rw [World.size_alloc]; omega) ?_)
          | fail)
        intro v' w5 hv hgrow _
        have HO5 : Hid (Own w5 w.heap.size v' (qpre s (k + 1))) := hide (by rw [unhide E]; exact Own.two (c := 92) (d := 110) hv)
        have HB5 := hide (((unhide HB).alloc hsz _).grown hgrow (by rw [World.size_alloc]; omega) (own_block (unhide HO)))
        clear hv hgrow HO HB
        go_wp2
        go_roundw
        case rel => exact ⟨k + 1, by omega, by go_num, unhide HO5, unhide HB5⟩
        case measure => simp [intOf]; omega
      have q3 : (((by_ s k).toNat : Int) == 10) = false := by simp; omega
      by_cases h4 : (by_ s k).toNat = 9
      · have hq : (((by_ s k).toNat : Int) == 9) = true := by simp; omega
        rw [esc_9 h4] at E
        clear h1 h2 h3 h4
        go_wp2_with (first
          | (at_builtin; refine wpList_append_own _ rfl _ _ 63 rfl w.heap.size 5 i0 (.int .u8 0) 1 1 Tryd.underlying63 hi0 hz0 hz1 hz2 rfl (by decide) _ _ _ rfl ((unhide HO).alloc _) ⟨wr.heap.size, 0, none⟩ 2 2 [.int .u8 92, .int .u8 116] rfl rfl (two_new _ _ _ _) (by intro u hu; simp at hu; rcases hu with rfl | rfl <;> rfl) hm (by omega) (by rw [World.size_alloc]; omega) ?_)
          | fail)
        intro v' w5 hv hgrow _
        have HO5 : Hid (Own w5 w.heap.size v' (qpre s (k + 1))) := hide (by rw [unhide E]; exact Own.two (c := 92) (d := 116) hv)
        have HB5 := hide (((unhide HB).alloc hsz _).grown hgrow (by rw [World.size_alloc]; omega) (own_block (unhide HO)))
        clear hv hgrow HO HB
        go_wp2
        go_roundw
        case rel => exact ⟨k + 1, by omega, by go_num, unhide HO5, unhide HB5⟩
        case measure => simp [intOf]; omega
      · have q4 : (((by_ s k).toNat : Int) == 9) = false := by simp; omega
        rw [esc_no h1 h2 h3 h4] at E
        have hm1 : (qpre s k).length + 1 ≤ maxLen := by omega
        clear h1 h2 h3 h4
        go_wp2_with (first
          | (at_builtin; refine wpList_append_own _ rfl _ _ 63 rfl w.heap.size 5 i0 (.int .u8 0) 1 1 Tryd.underlying63 hi0 hz0 hz1 hz2 rfl (by decide) _ _ _ rfl ((unhide HO).alloc _) ⟨wr.heap.size, 0, none⟩ 1 1 [.int .u8 ((by_ s k).toNat : Int)] rfl rfl (one_new _ _ _) (by intro u hu; simp at hu; subst hu; rfl) hm1 (by omega) (by rw [World.size_alloc]; omega) ?_)
          | fail)
        intro v' w5 hv hgrow _
        have HO5 : Hid (Own w5 w.heap.size v' (qpre s (k + 1))) := hide (by rw [unhide E]; exact Own.one hv)
        have HB5 := hide (((unhide HB).alloc hsz _).grown hgrow (by rw [World.size_alloc]; omega) (own_block (unhide HO)))
        clear hv hgrow HO HB
        go_wp2
        go_roundw
        case rel => exact ⟨k + 1, by omega, by go_num, unhide HO5, unhide HB5⟩
        case measure => simp [intOf]; omega
    · have e : k = s.size := by omega
      subst e
      have hm1 : (qpre s s.size).length + 1 ≤ maxLen := by omega
      go_wp2_with (first
        | (at_builtin; refine wpList_append_own _ rfl _ _ 63 rfl w.heap.size 5 i0 (.int .u8 0) 1 1 Tryd.underlying63 hi0 hz0 hz1 hz2 rfl (by decide) _ _ _ rfl ((unhide HO).alloc _) ⟨wr.heap.size, 0, none⟩ 1 1 [.int .u8 34] rfl rfl (one_new _ _ _) (by intro u hu; simp at hu; subst hu; rfl) hm1 (by omega) (by rw [World.size_alloc]; omega) ?_)
        | fail)
      intro v' w5 hv hgrow _
      have hO5 : Own w5 w.heap.size v' (quo s.data.toList) := by rw [← qpre_end]; exact Own.one (c := 34) hv
      have hcv := own_conv hO5
      have HB5 := hide (((unhide HB).alloc hsz _).grown hgrow (by rw [World.size_alloc]; omega) (own_block (unhide HO)))
      clear hv hgrow HO HB hO5
      go_wp2
      go_ret
      exact ⟨rfl, unhide HB5⟩

end Go.Proofs.YtjkogjmbmkopiaaDoor
