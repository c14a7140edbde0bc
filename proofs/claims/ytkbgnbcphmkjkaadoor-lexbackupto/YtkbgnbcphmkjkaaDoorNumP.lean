/- Int and Parse, by the library's texts. -/
import Derived.Test.YtkbgnbcphmkjkaaDoorForm
import Derived.Test.YtkbgnbcphmkjkaaDoorLayN
import Derived.Lib.AppendIntMem
import Derived.Lib.AtoiErrMem
import Derived.WalkSmall
namespace Go.Proofs.YtkbgnbcphmkjkaaDoor
open Go.RowKit

/-- what the library's texts read of its variables -/
structure Vars (w : World) : Prop where
  tab : Lib.TabIs Tryd.prog w "internal/strconv.uint64pow10" .u64 Lib.pow10Tab
  rng : ∃ tp p, w.var? Tryd.prog "strconv.ErrRange" = some #[.iface tp p]

theorem gTab : ∃ g, Tryd.prog.globalNamed "internal/strconv.uint64pow10" = some g := Option.isSome_iff_exists.1 (by kernel_rfl)
theorem gRng : ∃ g, Tryd.prog.globalNamed "strconv.ErrRange" = some g := Option.isSome_iff_exists.1 (by kernel_rfl)

theorem var_lt {w : World} {n : String} {g : Nat} {cs : Array Value} (hg : Tryd.prog.globalNamed n = some g) (h : w.var? Tryd.prog n = some cs) (h0 : 0 < cs.size) : g < w.heap.size := by
  have h1 := World.var?_cell hg h 0
  rw [Array.getElem?_eq_getElem h0] at h1
  rcases Nat.lt_or_ge g w.heap.size with h2 | h2
  · exact h2
  · simp [World.cell?, Array.getElem?_eq_none h2] at h1

theorem Vars.below {w w' : World} (h : Vars w) (hb : Below w.heap.size w w') : Vars w' := by
  obtain ⟨g, hg⟩ := gTab
  obtain ⟨g', hg'⟩ := gRng
  obtain ⟨tp, p, hr⟩ := h.rng
  exact ⟨var?_below hb hg (var_lt hg h.tab (by decide)) h.tab, tp, p, var?_below hb hg' (var_lt hg' hr (Nat.zero_lt_one)) hr⟩

theorem fi_any (n : Int) (h0 : -9223372036854775808 ≤ n) (h1 : n ≤ 9223372036854775807) (w : World) (h : Vars w) :
    Calls Tryd.prog 38 #[.int .i64 n, .int .i64 10] w fun e w' => e = .returned (.string ⟨(Lib.itoa n).toArray⟩) ∧ Below w.heap.size w w' :=
  (Any.strconv_FormatInt_10 layFI n h0 h1 w h.tab).mono (by
    rintro e w' ⟨rfl, k, os, rfl⟩
    exact ⟨rfl, Lib.below_grow _ w (Nat.le_refl _) k os⟩)

theorem pi_ok (s : ByteArray) (hs : s.size ≤ 281474976710656) (v : Int) (h : Lib.parseIntB 64 s.data.toList = .ok v) (w : World) :
    Calls Tryd.prog 51 #[.string s, .int .i64 10, .int .i64 64] w fun e w' => e = .returned (.tuple #[.int .i64 v, .nilIface]) ∧ Below w.heap.size w w' :=
  (Any.strconv_ParseInt_10_at64_ok layPI s (by omega) v h w).mono (by
    rintro e w' ⟨rfl, rfl | ⟨t, rfl⟩⟩
    · exact ⟨rfl, Below.refl _ _⟩
    · exact ⟨rfl, Lib.bytesWorld_below _ _ _⟩)

theorem pi_range (s : ByteArray) (hs : s.size ≤ 281474976710656) (h : Lib.parseIntB 64 s.data.toList = .range) (w : World) (hV : Vars w) :
    Calls Tryd.prog 51 #[.string s, .int .i64 10, .int .i64 64] w fun e w' => (∃ (v : Int) (t : TypeId) (x : Value), e = .returned (.tuple #[.int .i64 v, .iface t x])) ∧ Below w.heap.size w w' := by
  obtain ⟨tp, p, hr⟩ := hV.rng
  exact (Any.strconv_ParseInt_10_at64_range_var layPI s hs h tp p w hr).mono (by
    rintro e w' ⟨N, rfl, _, _, hb⟩
    exact ⟨⟨_, _, _, rfl⟩, hb⟩)

theorem tp_any (s p : ByteArray) (w : World) :
    Calls Tryd.prog 57 #[.string s, .string p] w fun e w' => e = .returned (.string ⟨(Lib.trimPrefix s.data.toList p.data.toList).toArray⟩) ∧ w' = w :=
  Any.strings_TrimPrefix layTP s p w

set_option maxHeartbeats 1000000 in
theorem int_any (n : Int) (h0 : -9223372036854775808 ≤ n) (h1 : n ≤ 9223372036854775807) (w : World) (h : Vars w) :
    Calls Tryd.prog 18 #[.int .i64 n] w fun e w' => e = .returned (.string ⟨(Lib.itoa n).toArray⟩) ∧ Below w.heap.size w w' := by
  have HV := hide h
  clear h
  go_enter Tryd.func18, Tryd.ntmps18
  go_wp2_with fail
  refine (fi_any n h0 h1 w (unhide HV)).mono ?_
  rintro e w1 ⟨rfl, b1⟩
  have HB := hide b1
  clear b1
  go_wp2
  go_ret
  exact ⟨rfl, unhide HB⟩

set_option maxHeartbeats 1000000 in
theorem form_any (s : ByteArray) (w : World) (hs : s.size ≤ 281474976710656) :
    Calls Tryd.prog 50 #[.string s] w fun e w' => e = .returned (.bool (isForm s.data.toList)) ∧ w' = w := by
  by_cases hz : s = ⟨#[48]⟩
  · have E := hide (form_zero hz)
    subst hz
    go_enter Tryd.func50, Tryd.ntmps50
    go_wp2
    go_ret
    exact ⟨ret_bool (unhide E).symm, rfl⟩
  have q0 : (s.toList == [48]) = false := beq_false_of_ne (by rw [ByteArray.toList_eq]; exact not_zero hz)
  have TM := hide (show (⟨(Lib.trimPrefix s.data.toList (⟨#[45]⟩ : ByteArray).data.toList).toArray⟩ : ByteArray) = dgs s by unfold dgs; rw [← trim_mag])
  have hds : (dgs s).size ≤ 281474976710656 := by rw [dgs_size]; have := mag_len s.data.toList; rw [← size_len] at this; omega
  have HZ := hide hz
  clear hz
  go_enter Tryd.func50, Tryd.ntmps50
  go_wp2_with fail
  refine (tp_any s _ w).mono ?_
  rintro e w' ⟨rfl, rfl⟩
  rw [unhide TM]
  have FN := hide (fun h => form_none (s := s) (unhide HZ) h)
  have FO := hide (fun hc => form_nought (s := s) (unhide HZ) hc)
  have FB := hide (fun k hk hc => form_bad (s := s) (unhide HZ) (k := k) hk hc)
  have FG := hide (fun h0 hc hd => form_good (s := s) h0 hc hd)
  clear q0 HZ TM
  generalize dgs s = d at *
  by_cases h0 : d.size = 0
  · have E := hide (unhide FN h0)
    have e := empty_of h0
    subst e
    clear hds h0 FN FO FB FG
    go_wp2
    go_ret
    exact ⟨ret_bool (unhide E).symm, rfl⟩
  have hq := ne_empty (s := d) (by omega)
  have hq2 : d.toList.isEmpty = false := by cases e : d.toList with | nil => exact absurd e hq | cons a l => rfl
  have b0 := by_at d 0 (by omega)
  by_cases h1 : (by_ d 0).toNat = 48
  · have q1 : (((by_ d 0).toNat : Int) == 48) = true := by simp; omega
    have E := hide (unhide FO h1)
    clear FN FO FB FG h1
    go_wp2
    go_ret
    exact ⟨ret_bool (unhide E).symm, rfl⟩
  · have q1 : (((by_ d 0).toNat : Int) == 48) = false := by simp; omega
    have FG1 := hide (unhide FG (by omega) h1)
    clear FN FO FG h1
    go_wp2
    clear q1 b0 hq hq2
    go_loop [18] (fun i => ∃ k : Nat, k ≤ d.size ∧ i = .int .i64 k ∧ ∀ j, j < k → digit (by_ d j).toNat = true) (fun i => d.size - (intOf i).toNat)
    case atStart => exact ⟨0, by omega, rfl, fun j hj => by omega⟩
    case round =>
      obtain ⟨k, hk, rfl, hall⟩ := hrel
      by_cases hlt : k < d.size
      · have hb := by_at d k hlt
        cases c1 : digit (by_ d k).toNat
        · have E := hide (unhide FB k hlt c1)
          clear hall FB FG1
          go_wp2_with (go_at_call 36; refine (digit_any _ _).mono ?_; rintro e w' ⟨rfl, rfl⟩)
          go_ret
          exact ⟨ret_bool (unhide E).symm, rfl⟩
        · have HN := hide (show ∀ j, j < k + 1 → digit (by_ d j).toNat = true from fun j hj => if h : j = k then by rw [h, c1] else hall j (by omega))
          clear hall
          go_wp2_with (go_at_call 36; refine (digit_any _ _).mono ?_; rintro e w' ⟨rfl, rfl⟩)
          go_round
          case rel => exact ⟨k + 1, by omega, by go_num, unhide HN⟩
          case measure => simp [intOf]; omega
      · have e : k = d.size := by omega
        subst e
        have E := hide (unhide FG1 hall)
        clear hall FB FG1
        go_wp2
        go_ret
        exact ⟨ret_bool (unhide E).symm, rfl⟩

end Go.Proofs.YtkbgnbcphmkjkaaDoor
