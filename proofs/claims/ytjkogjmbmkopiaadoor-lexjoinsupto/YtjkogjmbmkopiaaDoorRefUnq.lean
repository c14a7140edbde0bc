/- The document's Unquote. -/
import Derived.Test.YtjkogjmbmkopiaaDoorUnq
namespace Go.Proofs.YtjkogjmbmkopiaaDoor
open Go.RowKit

def rmv (c : UInt8) : UInt8 × Bool := match mean c with | some m => (m, true) | none => (0, false)

theorem ret_rm {c m : UInt8} {b : Bool} (h : (m, b) = rmv c) : Ending.returned (.tuple #[.int .u8 (m.toNat : Int), .bool b]) = .returned (.tuple #[.int .u8 ((rmv c).1.toNat : Int), .bool (rmv c).2]) := by rw [← h]

set_option maxHeartbeats 1000000 in
theorem refmeant_any (c : UInt8) (w : World) :
    Calls Tryd.prog 60 #[.int .u8 (c.toNat : Int)] w fun e w' => e = .returned (.tuple #[.int .u8 ((rmv c).1.toNat : Int), .bool (rmv c).2]) ∧ w' = w := by
  by_cases c1 : c.toNat = 92
  · have E := hide (show (c, true) = rmv c by unfold rmv; rw [mean_92 c1])
    have p : ((c.toNat : Int) == 92) = true := by simp; omega
    clear c1
    go_enter Tryd.func60, Tryd.ntmps60
    go_wp2
    go_ret2
    exact ⟨ret_rm (unhide E), rfl⟩
  have p1 : ((c.toNat : Int) == 92) = false := by simp; omega
  by_cases c2 : c.toNat = 34
  · have E := hide (show (c, true) = rmv c by unfold rmv; rw [mean_34 c2])
    have p : ((c.toNat : Int) == 34) = true := by simp; omega
    clear c1 c2
    go_enter Tryd.func60, Tryd.ntmps60
    go_wp2
    go_ret2
    exact ⟨ret_rm (unhide E), rfl⟩
  have p2 : ((c.toNat : Int) == 34) = false := by simp; omega
  by_cases c3 : c.toNat = 110
  · have E := hide (show (10, true) = rmv c by unfold rmv; rw [mean_n c3])
    have p : ((c.toNat : Int) == 110) = true := by simp; omega
    clear c1 c2 c3
    go_enter Tryd.func60, Tryd.ntmps60
    go_wp2
    go_ret2
    exact ⟨ret_rm (unhide E), rfl⟩
  have p3 : ((c.toNat : Int) == 110) = false := by simp; omega
  by_cases c4 : c.toNat = 116
  · have E := hide (show (9, true) = rmv c by unfold rmv; rw [mean_t c4])
    have p : ((c.toNat : Int) == 116) = true := by simp; omega
    clear c1 c2 c3 c4
    go_enter Tryd.func60, Tryd.ntmps60
    go_wp2
    go_ret2
    exact ⟨ret_rm (unhide E), rfl⟩
  · have p4 : ((c.toNat : Int) == 116) = false := by simp; omega
    have E := hide (show (0, false) = rmv c by unfold rmv; rw [mean_no c1 c2 c3 c4])
    clear c1 c2 c3 c4
    go_enter Tryd.func60, Tryd.ntmps60
    go_wp2
    go_ret2
    exact ⟨ret_rm (unhide E), rfl⟩

set_option maxHeartbeats 2000000 in
theorem refunquote_any (s : ByteArray) (w : World) (hs : s.size ≤ 70368744177000) :
    Calls Tryd.prog 32 #[.string s] w fun e w' => e = Uend s ∧ Below w.heap.size w w' := by
  obtain ⟨i0, hi0, hz0, hz1, hz2⟩ := info_parts Tryd.infoB
  by_cases h0 : s.size = 0
  · have E := hide (unq_first (Or.inl h0))
    have e := empty_of h0
    subst e
    clear hs h0
    go_enter Tryd.func32, Tryd.ntmps32
    go_wp2
    go_ret3
    exact ⟨ret_none (unhide E), Below.refl _ _⟩
  have b0 := by_at s 0 (by omega)
  have hq0 : ((s.size : Int) == 0) = false := beq_false_of_ne (by omega)
  by_cases h1 : (by_ s 0).toNat = 34
  · have q1 : (((by_ s 0).toNat : Int) != 34) = false := by simp; omega
    have HM := hide (mid_start (by omega) h1)
    clear h1
    go_enter Tryd.func32, Tryd.ntmps32
    go_wp2
    clear b0 q1
    go_loopw [5, 6] (fun v i wr => ∃ (k : Nat) (acc : List UInt8), 1 ≤ k ∧ k ≤ s.size ∧ i = .int .i64 k ∧ Own wr w.heap.size v acc ∧ Below w.heap.size w wr ∧ acc.length ≤ k ∧ Mid s k acc) (fun _ i _ => s.size - (intOf i).toNat)
    case atStart => exact ⟨1, [], by omega, by omega, rfl, Own.nil _ _, Below.refl _ _, by simp, unhide HM⟩
    case round =>
      obtain ⟨k, acc, hk1, hk, rfl, hO, hB, hal, hM⟩ := hrel
      have hsz := hB.size
      by_cases hlt : k < s.size
      · have hb := by_at s k hlt
        by_cases c1 : (by_ s k).toNat = 34
        · have p : (((by_ s k).toNat : Int) == 34) = true := by simp; omega
          have E := hide (mid_end hM hlt c1)
          have hcv := own_conv hO
          have HB := hide hB
          clear c1 hM hO hB HM
          go_wp2
          go_ret3
          exact ⟨ret_some (unhide E) (by omega), unhide HB⟩
        · have p1 : (((by_ s k).toNat : Int) == 34) = false := by simp; omega
          have HMk := hide hM
          have HO := hide hO
          have HB := hide hB
          clear hM hO hB HM
          have hm1 : acc.length + 1 ≤ maxLen := by unfold maxLen; omega
          by_cases c2 : (by_ s k).toNat = 10
          · have p : (((by_ s k).toNat : Int) == 10) = true := by simp; omega
            have E := hide (mid_line (unhide HMk) hlt c2)
            clear c1 c2 HMk HO
            go_wp2
            go_ret3
            exact ⟨ret_none (unhide E), unhide HB⟩
          have p2 : (((by_ s k).toNat : Int) == 10) = false := by simp; omega
          by_cases c3 : (by_ s k).toNat = 92
          · have p3 : (((by_ s k).toNat : Int) == 92) = true := by simp; omega
            by_cases hk2 : k + 1 < s.size
            · have hb2 := by_at s (k + 1) hk2
              have pe : ((k : Int) + 1 == (s.size : Int)) = false := by simp; omega
              cases hm : mean (by_ s (k + 1)) with
              | none =>
                have X := hide (show rmv (by_ s (k + 1)) = (0, false) by unfold rmv; rw [hm])
                have E := hide (mid_bad (unhide HMk) hk2 c3 hm)
                clear c1 c2 c3 HMk HO hm
                go_wp2_with fail
                refine (refmeant_any (by_ s (k + 1)) _).mono ?_
                rintro e w' ⟨rfl, rfl⟩
                rw [unhide X]
                go_wp2
                go_ret3
                exact ⟨ret_none (unhide E), unhide HB⟩
              | some m =>
                have X := hide (show rmv (by_ s (k + 1)) = (m, true) by unfold rmv; rw [hm])
                have N := hide (mid_esc (unhide HMk) hk2 c3 hm)
                clear c1 c2 c3 HMk hm
                go_wp2_with fail
                refine (refmeant_any (by_ s (k + 1)) _).mono ?_
                rintro e w' ⟨rfl, rfl⟩
                rw [unhide X]
                go_wp2_with (first
                  | (at_builtin; refine wpList_append_own _ rfl _ _ 63 rfl w.heap.size 5 i0 (.int .u8 0) 1 1 Tryd.underlying63 hi0 hz0 hz1 hz2 rfl (by decide) _ _ _ rfl ((unhide HO).alloc _) ⟨w'.heap.size, 0, none⟩ 1 1 [.int .u8 (m.toNat : Int)] rfl rfl (one_new _ _ _) (by intro u hu; simp at hu; subst hu; rfl) hm1 (by omega) (by rw [World.size_alloc]; omega) ?_)
                  | fail)
                intro v' w5 hv hgrow _
                have HO5 := hide (Own.one hv)
                have HB5 := hide (((unhide HB).alloc hsz _).grown hgrow (by rw [World.size_alloc]; omega) (own_block (unhide HO)))
                clear hv hgrow HO HB
                go_wp2
                go_roundw
                case rel => exact ⟨k + 2, acc ++ [m], by omega, by omega, by go_num, unhide HO5, unhide HB5, by rw [List.length_append]; simp; omega, unhide N⟩
                case measure => simp [intOf]; omega
            · have E := hide (mid_cut (unhide HMk) hlt c3 hk2)
              have pe : ((k : Int) + 1 == (s.size : Int)) = true := by simp; omega
              clear c1 c2 c3 HMk HO
              go_wp2
              go_ret3
              exact ⟨ret_none (unhide E), unhide HB⟩
          · have p3 : (((by_ s k).toNat : Int) == 92) = false := by simp; omega
            have N := hide (mid_one (unhide HMk) hlt c1 c2 c3)
            clear c1 c2 c3 HMk
            go_wp2_with (first
              | (at_builtin; refine wpList_append_own _ rfl _ _ 63 rfl w.heap.size 5 i0 (.int .u8 0) 1 1 Tryd.underlying63 hi0 hz0 hz1 hz2 rfl (by decide) _ _ _ rfl ((unhide HO).alloc _) ⟨wr.heap.size, 0, none⟩ 1 1 [.int .u8 ((by_ s k).toNat : Int)] rfl rfl (one_new _ _ _) (by intro u hu; simp at hu; subst hu; rfl) hm1 (by omega) (by rw [World.size_alloc]; omega) ?_)
              | fail)
            intro v' w5 hv hgrow _
            have HO5 := hide (Own.one hv)
            have HB5 := hide (((unhide HB).alloc hsz _).grown hgrow (by rw [World.size_alloc]; omega) (own_block (unhide HO)))
            clear hv hgrow HO HB
            go_wp2
            go_roundw
            case rel => exact ⟨k + 1, acc ++ [by_ s k], by omega, by omega, by go_num, unhide HO5, unhide HB5, by rw [List.length_append]; simp; omega, unhide N⟩
            case measure => simp [intOf]; omega
      · have E := hide (mid_out hM hlt)
        have HB := hide hB
        clear hM hO hB HM
        go_wp2
        go_ret3
        exact ⟨ret_none (unhide E), unhide HB⟩
  · have q1 : (((by_ s 0).toNat : Int) != 34) = true := by simp; omega
    have E := hide (unq_first (Or.inr h1))
    clear h1
    go_enter Tryd.func32, Tryd.ntmps32
    go_wp2
    go_ret3
    exact ⟨ret_none (unhide E), Below.refl _ _⟩

end Go.Proofs.YtjkogjmbmkopiaaDoor
