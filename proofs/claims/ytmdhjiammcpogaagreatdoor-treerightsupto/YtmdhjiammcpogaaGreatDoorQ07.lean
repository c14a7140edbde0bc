import Derived.Lib.Strings
import Derived.Test.YtmdhjiammcpogaaGreatDoorQ01
namespace Go.Proofs.YtmdhjiammcpogaaGreatDoor
set_option maxRecDepth 100000
set_option maxHeartbeats 16000000
section
open Go.RowKit
variable {d : Nat} {x : List UInt8}
def hp (p l : List UInt8) : Bool := Lib.hasPrefix l p
def hs (p l : List UInt8) : Bool := Lib.hasSuffix l p
def pS : List UInt8 := [99, 104, 97, 110, 60, 45, 32]
def pR : List UInt8 := [60, 45, 99, 104, 97, 110, 32]
def pB : List UInt8 := [99, 104, 97, 110, 32]
def ar : List UInt8 := [60, 45]
def tInt : List UInt8 := [105, 110, 116]
def tBool : List UInt8 := [98, 111, 111, 108]
def tMutex : List UInt8 := [77, 117, 116, 101, 120]
def tGroup : List UInt8 := [87, 97, 105, 116, 71, 114, 111, 117, 112]
def base (l : List UInt8) : Bool := decide (l = tInt) || decide (l = tBool) || decide (l = tMutex) || decide (l = tGroup)
def inn (e : List UInt8) : List UInt8 := (e.drop 1).take ((e.drop 1).length - 1)
def peelB (e : List UInt8) : Option (Nat × List UInt8) :=
 if hp [40] e then (if hs [41] (e.drop 1) then (if hp ar (inn e) then some (0, inn e) else none) else none)
 else if hp ar e then none else some (0, e)
def peel (l : List UInt8) : Option (Nat × List UInt8) :=
 if hp pS l then some (1, l.drop 7) else if hp pR l then some (2, l.drop 7) else if hp pB l then peelB (l.drop 5) else none
def meas : Nat -> List UInt8 -> Option Nat
 | 0, _ => none
 | n + 1, l => if base l then some 0 else match peel l with | none => none | some (_, e) => (meas n e).map (· + 1)
def right (l : List UInt8) : Bool := (meas 41 l).isSome
def depth (l : List UInt8) : Nat := (meas 41 l).getD 0
def mk (d : Nat) (l : List UInt8) : List UInt8 := if d = 1 then pS ++ l else if d = 2 then pR ++ l else if hp ar l then pB ++ [40] ++ l ++ [41] else pB ++ l
theorem hp_iff (p l : List UInt8) : hp p l = true ↔ ∃ r, l = p ++ r := by
 unfold hp Lib.hasPrefix
 rw [List.isPrefixOf_iff_prefix]
 constructor
 ·rintro ⟨r, h⟩; exact ⟨r, h.symm⟩
 ·rintro ⟨r, h⟩; exact ⟨r, h.symm⟩
theorem hs_iff (p l : List UInt8) : hs p l = true ↔ ∃ r, l = r ++ p := by
 unfold hs Lib.hasSuffix
 rw [List.isSuffixOf_iff_suffix]
 constructor
 ·rintro ⟨r, h⟩; exact ⟨r, h.symm⟩
 ·rintro ⟨r, h⟩; exact ⟨r, h.symm⟩
theorem hp_cons (a b : UInt8) (p l : List UInt8) : hp (a :: p) (b :: l) = (a == b && hp p l) := by
 unfold hp Lib.hasPrefix; rfl
theorem hp_nil (l : List UInt8) : hp [] l = true := by unfold hp Lib.hasPrefix; cases l <;> rfl
theorem peelB_some {e : List UInt8} (h : peelB e = some (d, x)) : d = 0 /\ ((hp ar x = true /\ e = [40] ++ x ++ [41]) ∨ (hp ar x = false /\ x = e)) := by
 unfold peelB at h
 split at h
 ·rename_i h1
  split at h
  ·rename_i h2
   split at h
   ·rename_i h3
    cases h
    obtain ⟨r, rfl⟩ := (hp_iff _ _).1 h1
    obtain ⟨q, hq⟩ := (hs_iff _ _).1 h2
    have hq' : r = q ++ [41] := hq
    subst hq'
    have hi : inn ([40] ++ (q ++ [41])) = q := by simp [inn]
    rw [hi] at h3 |-
    exact ⟨rfl, Or.inl ⟨h3, by simp⟩⟩
   ·cases h
  ·cases h
 ·split at h
  ·cases h
  ·rename_i h2
   cases h
   exact ⟨rfl, Or.inr ⟨by simpa using h2, rfl⟩⟩
theorem drop_app {p l : List UInt8} (h : hp p l = true) : l = p ++ l.drop p.length := by
 obtain ⟨r, rfl⟩ := (hp_iff _ _).1 h
 simp
theorem peel_mk {l : List UInt8} {e : List UInt8} (h : peel l = some (d, e)) : l = mk d e /\ d <= 2 := by
 unfold peel at h
 split at h
 ·rename_i h1
  cases h
  exact ⟨by unfold mk; rw [if_pos rfl]; exact drop_app h1, by omega⟩
 split at h
 ·rename_i h1
  cases h
  exact ⟨by unfold mk; rw [if_neg (by omega), if_pos rfl]; exact drop_app h1, by omega⟩
 split at h
 ·rename_i h1
  obtain ⟨rfl, h2 | h2⟩ := peelB_some h
  ·refine ⟨?_, by omega⟩
   unfold mk
   rw [if_neg (by omega), if_neg (by omega), if_pos h2.1]
   have := drop_app h1
   rw [show pB.length = 5 from rfl, h2.2] at this
   rw [this]; simp
  ·refine ⟨?_, by omega⟩
   unfold mk
   rw [if_neg (by omega), if_neg (by omega), if_neg (by rw [h2.1]; simp), h2.2]
   exact drop_app h1
 ·cases h
theorem mk_len (d : Nat) (e : List UInt8) : e.length < (mk d e).length := by
 unfold mk
 repeat' split
 all_goals (simp [pS, pR, pB]; try omega)
theorem peel_len {l : List UInt8} {e : List UInt8} (h : peel l = some (d, e)) : e.length < l.length := by
 rw [(peel_mk h).1]; exact mk_len d e
theorem brack (r : List UInt8) : base (40 :: r) = false /\ peel (40 :: r) = none := by
 constructor
 ·simp [base, tInt, tBool, tMutex, tGroup]
 ·simp [peel, pS, pR, pB, hp_cons]
theorem meas_lt : ∀ {n : Nat} {l : List UInt8} {k : Nat}, meas n l = some k -> k < n
 | 0, _, _, h => by simp [meas] at h
 | n + 1, l, k, h => by
  unfold meas at h
  split at h
  ·cases h; omega
  ·split at h
   ·cases h
   ·rename_i e _
    cases hm : meas n e with
    | none => rw [hm] at h; cases h
    | some j =>
     rw [hm] at h
     have := meas_lt hm
     have h' : j + 1 = k := Option.some.inj h
     omega
theorem right_meas {l : List UInt8} (h : right l = true) : ∃ k, meas 41 l = some k /\ depth l = k /\ k <= 40 := by
 unfold right at h
 cases hm : meas 41 l with
 | none => rw [hm] at h; cases h
 | some k => exact ⟨k, rfl, by unfold depth; rw [hm]; rfl, by have := meas_lt hm; omega⟩
theorem right_not {l : List UInt8} (h : right l = false) : meas 41 l = none /\ depth l = 0 := by
 unfold right at h
 cases hm : meas 41 l with
 | none => exact ⟨rfl, by unfold depth; rw [hm]; rfl⟩
 | some k => rw [hm] at h; cases h
end
section
open Go.RowKit
variable {d n : Nat}
def rsplit (l : List UInt8) : Nat × List UInt8 × Bool :=
 if hp pB l then (if 2 <= (l.drop 5).length /\ hp [40] (l.drop 5) = true /\ hs [41] (l.drop 5) = true then (0, inn (l.drop 5), hp ar (inn (l.drop 5))) else (0, l.drop 5, !hp ar (l.drop 5)))
 else if hp pS l then (1, l.drop 7, true) else if hp pR l then (2, l.drop 7, true) else (0, [], false)
theorem pB_pS {l : List UInt8} (h : hp pB l = true) : hp pS l = false /\ hp pR l = false := by
 obtain ⟨r, rfl⟩ := (hp_iff _ _).1 h
 exact ⟨by simp [pS, pB, hp_cons], by simp [pR, pB, hp_cons]⟩
theorem hp40 {e : List UInt8} (h : hp [40] e = true) : e = 40 :: e.drop 1 := drop_app h
theorem hs_drop {e : List UInt8} (h : hp [40] e = true) : (hs [41] (e.drop 1) = true) ↔ (2 <= e.length /\ hs [41] e = true) := by
 obtain ⟨r, rfl⟩ := (hp_iff _ _).1 h
 rw [hs_iff, hs_iff]
 constructor
 ·rintro ⟨q, hq⟩
  have hq' : r = q ++ [41] := hq
  subst hq'
  exact ⟨by simp, [40] ++ q, by simp⟩
 ·rintro ⟨h2, q, hq⟩
  cases q with
  | nil => simp at hq
  | cons a q =>
   have : r = q ++ [41] := by simpa using (List.cons.inj hq).2
   exact ⟨q, this⟩
theorem rsplit_some {l : List UInt8} {e : List UInt8} (h : peel l = some (d, e)) : rsplit l = (d, e, true) := by
 unfold peel at h
 split at h
 ·rename_i h1
  cases h
  unfold rsplit
  rw [if_neg (fun hc => by rw [(pB_pS hc).1] at h1; cases h1), if_pos h1]
 split at h
 ·rename_i h0 h1
  cases h
  unfold rsplit
  rw [if_neg (fun hc => by rw [(pB_pS hc).2] at h1; cases h1), if_neg h0, if_pos h1]
 split at h
 ·rename_i h1
  unfold rsplit
  rw [if_pos h1]
  unfold peelB at h
  split at h
  ·rename_i h2
   split at h
   ·rename_i h3
    obtain ⟨q1, q2⟩ := (hs_drop h2).1 h3
    split at h
    ·rename_i h4
     cases h
     rw [if_pos ⟨q1, h2, q2⟩, h4]
    ·cases h
   ·cases h
  ·rename_i h2
   split at h
   ·cases h
   ·rename_i h3
    cases h
    rw [if_neg (fun hc => h2 hc.2.1)]
    simp at h3
    rw [h3]
    rfl
 ·cases h
theorem rsplit_none {l : List UInt8} (h : peel l = none) (ho : (rsplit l).2.2 = true) : ∃ r, (rsplit l).2.1 = 40 :: r := by
 unfold peel at h
 split at h
 ·cases h
 split at h
 ·cases h
 rename_i h0 h1
 split at h
 ·rename_i h2
  unfold rsplit at ho |-
  rw [if_pos h2] at ho |-
  unfold peelB at h
  split at h
  ·rename_i h3
   split at h
   ·rename_i h4
    obtain ⟨q1, q2⟩ := (hs_drop h3).1 h4
    rw [if_pos ⟨q1, h3, q2⟩] at ho |-
    rw [if_pos ho] at h
    cases h
   ·rename_i h4
    rw [if_neg (fun hc => h4 ((hs_drop h3).2 ⟨hc.1, hc.2.2⟩))]
    exact ⟨_, hp40 h3⟩
  ·rename_i h3
   split at h
   ·rename_i h4
    rw [if_neg (fun hc => h3 hc.2.1), h4] at ho
    cases ho
   ·cases h
 ·rename_i h2
  unfold rsplit at ho
  rw [if_neg h2, if_neg h0, if_neg h1] at ho
  cases ho
theorem meas_brack (n : Nat) (r : List UInt8) : meas n (40 :: r) = none := by
 cases n with
 | zero => rfl
 | succ n =>
  unfold meas
  rw [if_neg (by rw [(brack r).1]; simp), (brack r).2]
theorem meas_base {l : List UInt8} (h : base l = true) : meas (n + 1) l = some 0 := by
 unfold meas; rw [if_pos h]
theorem meas_none {l : List UInt8} (h : base l = false) (hp : peel l = none) : meas (n + 1) l = none := by
 unfold meas; rw [if_neg (by rw [h]; simp), hp]
theorem meas_some {l : List UInt8} {e : List UInt8} (h : base l = false) (hp : peel l = some (d, e)) : meas (n + 1) l = (meas n e).map (· + 1) := by
 conv => lhs; unfold meas
 rw [if_neg (by rw [h]; simp), hp]
theorem right_step {l : List UInt8} (h : base l = false) : (meas (n + 1) l).isSome = ((rsplit l).2.2 && (meas n (rsplit l).2.1).isSome) := by
 cases hp : peel l with
 | some p =>
  obtain ⟨d, e⟩ := p
  rw [meas_some h hp, rsplit_some hp]
  simp
 | none =>
  rw [meas_none h hp]
  cases ho : (rsplit l).2.2 with
  | false => rfl
  | true =>
   obtain ⟨r, hr⟩ := rsplit_none hp ho
   rw [hr, meas_brack]
   rfl
end
section
open Go.RowKit
def B (l : List UInt8) : ByteArray := ⟨l.toArray⟩
theorem B_list (l : List UInt8) : (B l).data.toList = l := rfl
theorem B_of (s : ByteArray) : B s.data.toList = s := rfl
theorem B_size (l : List UInt8) : (B l).size = l.length := by
 show (B l).data.size = _
 rw [<- Array.length_toList, B_list]
theorem size_lt (s : ByteArray) : s.size = s.data.toList.length := by
 show s.data.size = _
 rw [Array.length_toList]
theorem ext_B (s : ByteArray) (k : Nat) : s.extract k s.size = B (s.data.toList.drop k) := by
 rw [<- ext_list]; rfl
theorem eqb (t : ByteArray) (l : List UInt8) : (t.toList == l) = decide (t.data.toList = l) := by
 rw [Bool.eq_iff_iff, beq_iff_eq, decide_eq_true_eq, ByteArray.toList_eq]
theorem hp_raw (s p : ByteArray) : (decide (p.size <= s.size) && ((s.extract 0 p.size).toList == p.toList)) = hp p.data.toList s.data.toList := Lib.hasPrefix_raw s p
theorem lhp_any (s p : ByteArray) (b : Bool) (hb : hp p.data.toList s.data.toList = b) (w : World) :
 Calls Tryz.prog 156 #[.string s, .string p] w fun e w' => e = .returned (.bool b) /\ w' = w := by
 have hr := hp_raw s p
 rw [hb] at hr
 by_cases h1 : p.size <= s.size
 ·rw [decide_eq_true h1, Bool.true_and] at hr
  clear hb
  go_enter Tryz.func156, Tryz.ntmps156
  go_wp2
  go_ret
  exact ⟨rfl, rfl⟩
 ·rw [decide_eq_false h1, Bool.false_and] at hr
  have E := zz hr
  clear hb hr
  go_enter Tryz.func156, Tryz.ntmps156
  go_wp2
  go_ret
  exact ⟨zb E.out, rfl⟩
theorem begins_any (s p : ByteArray) (b : Bool) (hb : hp p.data.toList s.data.toList = b) (w : World) :
 Calls Tryz.prog 99 #[.string s, .string p] w fun e w' => e = .returned (.bool b) /\ w' = w := by
 have hr := hp_raw s p
 rw [hb] at hr
 by_cases h1 : p.size <= s.size
 ·rw [decide_eq_true h1, Bool.true_and] at hr
  clear hb
  go_enter Tryz.func99, Tryz.ntmps99
  go_wp2
  go_ret
  exact ⟨rfl, rfl⟩
 ·rw [decide_eq_false h1, Bool.false_and] at hr
  have E := zz hr
  clear hb hr
  go_enter Tryz.func99, Tryz.ntmps99
  go_wp2
  go_ret
  exact ⟨zb E.out, rfl⟩
theorem shp_any (s p : ByteArray) (b : Bool) (hb : hp p.data.toList s.data.toList = b) (w : World) :
 Calls Tryz.prog 150 #[.string s, .string p] w fun e w' => e = .returned (.bool b) /\ w' = w := by
 go_enter Tryz.func150, Tryz.ntmps150
 go_wp2_with (go_at_call 156; refine (lhp_any _ _ b hb _).mono ?_; rintro e w' ⟨rfl, rfl⟩)
 go_ret
 exact ⟨rfl, rfl⟩
theorem lhs_any (s p : ByteArray) (b : Bool) (hb : hs p.data.toList s.data.toList = b) (w : World) (hz : s.size <= 9223372036854775807) :
 Calls Tryz.prog 159 #[.string s, .string p] w fun e w' => e = .returned (.bool b) /\ w' = w := by
 have hr : (decide (p.size <= s.size) && ((s.extract (s.size - p.size) s.size).toList == p.toList)) = hs p.data.toList s.data.toList := Lib.hasSuffix_raw s p
 rw [hb] at hr
 have hlo : p.size <= s.size -> ((s.size : Int) - (p.size : Int) + 9223372036854775808) % 18446744073709551616 - 9223372036854775808 = ((s.size - p.size : Nat) : Int) := fun _ => by omega
 by_cases h1 : p.size <= s.size
 ·rw [decide_eq_true h1, Bool.true_and] at hr
  clear hb
  go_enter Tryz.func159, Tryz.ntmps159
  go_wp2
  go_ret
  exact ⟨rfl, rfl⟩
 ·rw [decide_eq_false h1, Bool.false_and] at hr
  have E := zz hr
  clear hb hr
  go_enter Tryz.func159, Tryz.ntmps159
  go_wp2
  go_ret
  exact ⟨zb E.out, rfl⟩
theorem hp_le {p l : List UInt8} (h : hp p l = true) : p.length <= l.length := by
 obtain ⟨r, rfl⟩ := (hp_iff _ _).1 h
 simp
theorem hs_le {p l : List UInt8} (h : hs p l = true) : p.length <= l.length := by
 obtain ⟨r, rfl⟩ := (hs_iff _ _).1 h
 simp
theorem lcp_yes (s p : ByteArray) (hb : hp p.data.toList s.data.toList = true) (w : World) :
 Calls Tryz.prog 148 #[.string s, .string p] w fun e w' => e = .returned (.tuple #[.string (B (s.data.toList.drop p.size)), .bool true]) /\ w' = w := by
 have hle := hp_le hb
 rw [<- size_lt, <- size_lt] at hle
 have HB := zz hb
 clear hb
 go_enter Tryz.func148, Tryz.ntmps148
 go_wp2_with (go_at_call 156; refine (lhp_any _ _ true HB.out _).mono ?_; rintro e w' ⟨rfl, rfl⟩)
 go_ret2
 exact ⟨by rw [<- ext_B]; rfl, rfl⟩
theorem lcp_no (s p : ByteArray) (hb : hp p.data.toList s.data.toList = false) (w : World) :
 Calls Tryz.prog 148 #[.string s, .string p] w fun e w' => e = .returned (.tuple #[.string s, .bool false]) /\ w' = w := by
 have HB := zz hb
 clear hb
 go_enter Tryz.func148, Tryz.ntmps148
 go_wp2_with (go_at_call 156; refine (lhp_any _ _ false HB.out _).mono ?_; rintro e w' ⟨rfl, rfl⟩)
 go_ret2
 exact ⟨rfl, rfl⟩
theorem lcs_yes (s p : ByteArray) (hb : hs p.data.toList s.data.toList = true) (w : World) (hz : s.size <= 9223372036854775807) :
 Calls Tryz.prog 157 #[.string s, .string p] w fun e w' => e = .returned (.tuple #[.string (B (s.data.toList.take (s.size - p.size))), .bool true]) /\ w' = w := by
 have hle := hs_le hb
 rw [<- size_lt, <- size_lt] at hle
 have hlo : ((s.size : Int) - (p.size : Int) + 9223372036854775808) % 18446744073709551616 - 9223372036854775808 = ((s.size - p.size : Nat) : Int) := by omega
 have HB := zz hb
 have E := zz (show s.extract 0 (s.size - p.size) = B (s.data.toList.take (s.size - p.size)) by
  rw [<- B_of (s.extract 0 (s.size - p.size))]
  congr 1
  rw [ByteArray.data_extract, Array.toList_extract, List.extract_eq_take_drop]
  simp)
 clear hb
 go_enter Tryz.func157, Tryz.ntmps157
 go_wp2_with (go_at_call 159; refine (lhs_any _ _ true HB.out _ hz).mono ?_; rintro e w' ⟨rfl, rfl⟩)
 go_ret2
 exact ⟨by rw [<- E.out]; rfl, rfl⟩
theorem lcs_no (s p : ByteArray) (hb : hs p.data.toList s.data.toList = false) (w : World) (hz : s.size <= 9223372036854775807) :
 Calls Tryz.prog 157 #[.string s, .string p] w fun e w' => e = .returned (.tuple #[.string s, .bool false]) /\ w' = w := by
 have HB := zz hb
 clear hb
 go_enter Tryz.func157, Tryz.ntmps157
 go_wp2_with (go_at_call 159; refine (lhs_any _ _ false HB.out _ hz).mono ?_; rintro e w' ⟨rfl, rfl⟩)
 go_ret2
 exact ⟨rfl, rfl⟩
theorem cp_yes (s p : ByteArray) (hb : hp p.data.toList s.data.toList = true) (w : World) :
 Calls Tryz.prog 132 #[.string s, .string p] w fun e w' => e = .returned (.tuple #[.string (B (s.data.toList.drop p.size)), .bool true]) /\ w' = w := by
 go_enter Tryz.func132, Tryz.ntmps132
 go_wp2_with (go_at_call 148; refine (lcp_yes _ _ hb _).mono ?_; rintro e w' ⟨rfl, rfl⟩)
 go_ret2
 exact ⟨rfl, rfl⟩
theorem cp_no (s p : ByteArray) (hb : hp p.data.toList s.data.toList = false) (w : World) :
 Calls Tryz.prog 132 #[.string s, .string p] w fun e w' => e = .returned (.tuple #[.string s, .bool false]) /\ w' = w := by
 go_enter Tryz.func132, Tryz.ntmps132
 go_wp2_with (go_at_call 148; refine (lcp_no _ _ hb _).mono ?_; rintro e w' ⟨rfl, rfl⟩)
 go_ret2
 exact ⟨rfl, rfl⟩
theorem cs_yes (s p : ByteArray) (hb : hs p.data.toList s.data.toList = true) (w : World) (hz : s.size <= 9223372036854775807) :
 Calls Tryz.prog 149 #[.string s, .string p] w fun e w' => e = .returned (.tuple #[.string (B (s.data.toList.take (s.size - p.size))), .bool true]) /\ w' = w := by
 go_enter Tryz.func149, Tryz.ntmps149
 go_wp2_with (go_at_call 157; refine (lcs_yes _ _ hb _ hz).mono ?_; rintro e w' ⟨rfl, rfl⟩)
 go_ret2
 exact ⟨rfl, rfl⟩
theorem cs_no (s p : ByteArray) (hb : hs p.data.toList s.data.toList = false) (w : World) (hz : s.size <= 9223372036854775807) :
 Calls Tryz.prog 149 #[.string s, .string p] w fun e w' => e = .returned (.tuple #[.string s, .bool false]) /\ w' = w := by
 go_enter Tryz.func149, Tryz.ntmps149
 go_wp2_with (go_at_call 157; refine (lcs_no _ _ hb _ hz).mono ?_; rintro e w' ⟨rfl, rfl⟩)
 go_ret2
 exact ⟨rfl, rfl⟩
theorem isbase_any (s : ByteArray) (b : Bool) (hb : base s.data.toList = b) (w : World) :
 Calls Tryz.prog 108 #[.string s] w fun e w' => e = .returned (.bool b) /\ w' = w := by
 have q0 := eqb s [105, 110, 116]
 have q1 := eqb s [98, 111, 111, 108]
 have q2 := eqb s [77, 117, 116, 101, 120]
 have q3 := eqb s [87, 97, 105, 116, 71, 114, 111, 117, 112]
 unfold base tInt tBool tMutex tGroup at hb
 by_cases c0 : s.data.toList = [105, 110, 116]
 ·have E := zz (show true = b by rw [<- hb, decide_eq_true c0]; simp)
  rw [decide_eq_true c0] at q0
  clear hb c0 q1 q2 q3
  go_enter Tryz.func108, Tryz.ntmps108
  go_wp2
  go_ret
  exact ⟨zb E.out, rfl⟩
 rw [decide_eq_false c0] at q0
 by_cases c1 : s.data.toList = [98, 111, 111, 108]
 ·have E := zz (show true = b by rw [<- hb, decide_eq_true c1]; simp)
  rw [decide_eq_true c1] at q1
  clear hb c1 q2 q3
  go_enter Tryz.func108, Tryz.ntmps108
  go_wp2
  go_ret
  exact ⟨zb E.out, rfl⟩
 rw [decide_eq_false c1] at q1
 by_cases c2 : s.data.toList = [77, 117, 116, 101, 120]
 ·have E := zz (show true = b by rw [<- hb, decide_eq_true c2]; simp)
  rw [decide_eq_true c2] at q2
  clear hb c2 q3
  go_enter Tryz.func108, Tryz.ntmps108
  go_wp2
  go_ret
  exact ⟨zb E.out, rfl⟩
 rw [decide_eq_false c2] at q2
 by_cases c3 : s.data.toList = [87, 97, 105, 116, 71, 114, 111, 117, 112]
 ·have E := zz (show true = b by rw [<- hb, decide_eq_true c3]; simp)
  rw [decide_eq_true c3] at q3
  clear hb c3
  go_enter Tryz.func108, Tryz.ntmps108
  go_wp2
  go_ret
  exact ⟨zb E.out, rfl⟩
 rw [decide_eq_false c3] at q3
 have E := zz (show false = b by rw [<- hb, decide_eq_false c0, decide_eq_false c1, decide_eq_false c2, decide_eq_false c3]; rfl)
 clear hb c0 c1 c2 c3
 go_enter Tryz.func108, Tryz.ntmps108
 go_wp2
 go_ret
 exact ⟨zb E.out, rfl⟩
theorem plain_any (s : ByteArray) (b : Bool) (hb : base s.data.toList = b) (w : World) :
 Calls Tryz.prog 74 #[.string s] w fun e w' => e = .returned (.bool b) /\ w' = w := by
 have q0 := eqb s [105, 110, 116]
 have q1 := eqb s [98, 111, 111, 108]
 have q2 := eqb s [77, 117, 116, 101, 120]
 have q3 := eqb s [87, 97, 105, 116, 71, 114, 111, 117, 112]
 unfold base tInt tBool tMutex tGroup at hb
 by_cases c0 : s.data.toList = [105, 110, 116]
 ·have E := zz (show true = b by rw [<- hb, decide_eq_true c0]; simp)
  rw [decide_eq_true c0] at q0
  clear hb c0 q1 q2 q3
  go_enter Tryz.func74, Tryz.ntmps74
  go_wp2
  go_ret
  exact ⟨zb E.out, rfl⟩
 rw [decide_eq_false c0] at q0
 by_cases c1 : s.data.toList = [98, 111, 111, 108]
 ·have E := zz (show true = b by rw [<- hb, decide_eq_true c1]; simp)
  rw [decide_eq_true c1] at q1
  clear hb c1 q2 q3
  go_enter Tryz.func74, Tryz.ntmps74
  go_wp2
  go_ret
  exact ⟨zb E.out, rfl⟩
 rw [decide_eq_false c1] at q1
 by_cases c2 : s.data.toList = [77, 117, 116, 101, 120]
 ·have E := zz (show true = b by rw [<- hb, decide_eq_true c2]; simp)
  rw [decide_eq_true c2] at q2
  clear hb c2 q3
  go_enter Tryz.func74, Tryz.ntmps74
  go_wp2
  go_ret
  exact ⟨zb E.out, rfl⟩
 rw [decide_eq_false c2] at q2
 by_cases c3 : s.data.toList = [87, 97, 105, 116, 71, 114, 111, 117, 112]
 ·have E := zz (show true = b by rw [<- hb, decide_eq_true c3]; simp)
  rw [decide_eq_true c3] at q3
  clear hb c3
  go_enter Tryz.func74, Tryz.ntmps74
  go_wp2
  go_ret
  exact ⟨zb E.out, rfl⟩
 rw [decide_eq_false c3] at q3
 have E := zz (show false = b by rw [<- hb, decide_eq_false c0, decide_eq_false c1, decide_eq_false c2, decide_eq_false c3]; rfl)
 clear hb c0 c1 c2 c3
 go_enter Tryz.func74, Tryz.ntmps74
 go_wp2
 go_ret
 exact ⟨zb E.out, rfl⟩
end
section
open Go.RowKit
variable {b : Bool} {d n : Nat} {s : ByteArray} {x : List UInt8}
theorem cp_is (s p X : ByteArray) (hb : hp p.data.toList s.data.toList = true) (hX : B (s.data.toList.drop p.size) = X) (w : World) :
 Calls Tryz.prog 132 #[.string s, .string p] w fun e w' => e = .returned (.tuple #[.string X, .bool true]) /\ w' = w := by
 subst hX; exact cp_yes s p hb w
theorem cs_is (s p X : ByteArray) (hb : hs p.data.toList s.data.toList = true) (hz : s.size <= 9223372036854775807) (hX : B (s.data.toList.take (s.size - p.size)) = X) (w : World) :
 Calls Tryz.prog 149 #[.string s, .string p] w fun e w' => e = .returned (.tuple #[.string X, .bool true]) /\ w' = w := by
 subst hX; exact cs_yes s p hb w hz
structure Fit (s : ByteArray) : Prop where
 le : s.size <= 9223372036854775807
theorem Fit.drop (h : Fit s) (k : Nat) : Fit (B (s.data.toList.drop k)) := ⟨by
 have := h.le
 rw [B_size, List.length_drop, <- size_lt]
 omega⟩
theorem xp_no {p : ByteArray} {a b : List UInt8} (ea : s.data.toList = a) (eb : p.data.toList = b) (h : hp b a = false) (w : World) :
 Calls Tryz.prog 132 #[.string s, .string p] w fun e w' => e = .returned (.tuple #[.string s, .bool false]) /\ w' = w := by
 subst ea eb; exact cp_no s p h w
theorem xp_is {p X : ByteArray} {a b : List UInt8} (ea : s.data.toList = a) (eb : p.data.toList = b) (h : hp b a = true) (hn : p.size = n) (hX : B (a.drop n) = X) (w : World) :
 Calls Tryz.prog 132 #[.string s, .string p] w fun e w' => e = .returned (.tuple #[.string X, .bool true]) /\ w' = w := by
 subst ea eb hn; exact cp_is s p X h hX w
theorem xs_no {p : ByteArray} {a b : List UInt8} (ea : s.data.toList = a) (eb : p.data.toList = b) (h : hs b a = false) (hz : Fit s) (w : World) :
 Calls Tryz.prog 149 #[.string s, .string p] w fun e w' => e = .returned (.tuple #[.string s, .bool false]) /\ w' = w := by
 subst ea eb; exact cs_no s p h w hz.le
theorem xs_is {p X : ByteArray} {a b : List UInt8} (ea : s.data.toList = a) (eb : p.data.toList = b) (h : hs b a = true) (hz : Fit s) (hn : s.size - p.size = n) (hX : B (a.take n) = X) (w : World) :
 Calls Tryz.prog 149 #[.string s, .string p] w fun e w' => e = .returned (.tuple #[.string X, .bool true]) /\ w' = w := by
 subst ea eb hn; exact cs_is s p X h hz.le hX w
theorem xh_is {p : ByteArray} {a b : List UInt8} {c : Bool} (ea : s.data.toList = a) (eb : p.data.toList = b) (h : hp b a = c) (w : World) :
 Calls Tryz.prog 150 #[.string s, .string p] w fun e w' => e = .returned (.bool c) /\ w' = w := by
 subst ea eb; exact shp_any s p c h w
theorem l40 : (⟨#[40]⟩ : ByteArray).data.toList = [40] := rfl
theorem l41 : (⟨#[41]⟩ : ByteArray).data.toList = [41] := rfl
theorem lar : (⟨#[60, 45]⟩ : ByteArray).data.toList = ar := rfl
theorem lpS : (⟨#[99, 104, 97, 110, 60, 45, 32]⟩ : ByteArray).data.toList = pS := rfl
theorem lpR : (⟨#[60, 45, 99, 104, 97, 110, 32]⟩ : ByteArray).data.toList = pR := rfl
theorem lpB : (⟨#[99, 104, 97, 110, 32]⟩ : ByteArray).data.toList = pB := rfl
theorem z40 : (⟨#[40]⟩ : ByteArray).size = 1 := rfl
theorem zpS : (⟨#[99, 104, 97, 110, 60, 45, 32]⟩ : ByteArray).size = 7 := rfl
theorem zpR : (⟨#[60, 45, 99, 104, 97, 110, 32]⟩ : ByteArray).size = 7 := rfl
theorem zpB : (⟨#[99, 104, 97, 110, 32]⟩ : ByteArray).size = 5 := rfl
theorem inn_is (l : List UInt8) (h : n = (l.drop 1).length - 1) : B ((l.drop 1).take n) = B (inn l) := by rw [h]; rfl
def pEnd : Option (Nat × List UInt8) -> Ending
 | some (d, e) => .returned (.tuple #[.int .i64 (d : Int), .string (B e), .bool true])
 | none => .returned (.tuple #[.int .i64 0, .string ⟨#[]⟩, .bool false])
theorem peelB_any (s : ByteArray) (hz : Fit s) (w : World) :
 Calls Tryz.prog 133 #[.string s] w fun e w' => e = pEnd (peelB s.data.toList) /\ w' = w := by
 obtain ⟨X, hX⟩ : ∃ X, B (s.data.toList.drop 1) = X := ⟨_, rfl⟩
 have hd : Fit X := hX ▸ hz.drop 1
 have HX := zz hX
 have HL := zz (show X.data.toList = s.data.toList.drop 1 by rw [<- hX]; rfl)
 obtain ⟨Y, hY⟩ : ∃ Y, B (inn s.data.toList) = Y := ⟨_, rfl⟩
 have HY := zz hY
 have HM := zz (show Y.data.toList = inn s.data.toList by rw [<- hY]; rfl)
 clear hX hY
 cases h1 : hp [40] s.data.toList
 ·have H1 := zz h1
  cases h2 : hp ar s.data.toList
  ·have H2 := zz h2
   have E := zz (show Ending.returned (.tuple #[.int .i64 0, .string s, .bool true]) = pEnd (peelB s.data.toList) by unfold peelB; rw [h1, h2]; rfl)
   clear h1 h2 hd hz
   go_enter Tryz.func133, Tryz.ntmps133
   go_wp2_with fail
   refine (xp_no rfl l40 H1.out _).mono ?_
   rintro e w' ⟨rfl, rfl⟩
   go_wp2_with fail
   refine (xh_is rfl lar H2.out _).mono ?_
   rintro e w' ⟨rfl, rfl⟩
   go_wp2
   go_ret3
   exact ⟨E.out, rfl⟩
  ·have H2 := zz h2
   have E := zz (show Ending.returned (.tuple #[.int .i64 0, .string ⟨#[]⟩, .bool false]) = pEnd (peelB s.data.toList) by unfold peelB; rw [h1, h2]; rfl)
   clear h1 h2 hd hz
   go_enter Tryz.func133, Tryz.ntmps133
   go_wp2_with fail
   refine (xp_no rfl l40 H1.out _).mono ?_
   rintro e w' ⟨rfl, rfl⟩
   go_wp2_with fail
   refine (xh_is rfl lar H2.out _).mono ?_
   rintro e w' ⟨rfl, rfl⟩
   go_wp2
   go_ret3
   exact ⟨E.out, rfl⟩
 ·have H1 := zz h1
  have HD := zz hd
  cases h2 : hs [41] (s.data.toList.drop 1)
  ·have H2 := zz h2
   have E := zz (show Ending.returned (.tuple #[.int .i64 0, .string ⟨#[]⟩, .bool false]) = pEnd (peelB s.data.toList) by unfold peelB; rw [h1, h2]; rfl)
   clear h1 h2 hd hz
   go_enter Tryz.func133, Tryz.ntmps133
   go_wp2_with fail
   refine (xp_is rfl l40 H1.out z40 HX.out _).mono ?_
   rintro e w' ⟨rfl, rfl⟩
   go_wp2_with fail
   refine (xs_no HL.out l41 H2.out HD.out _).mono ?_
   rintro e w' ⟨rfl, rfl⟩
   go_wp2
   go_ret3
   exact ⟨E.out, rfl⟩
  ·have H2 := zz h2
   have HI := zz ((inn_is s.data.toList (n := (s.data.toList.drop 1).length - 1) rfl).trans HY.out)
   have HN := zz (show X.size - (⟨#[41]⟩ : ByteArray).size = (s.data.toList.drop 1).length - 1 by rw [size_lt, HL.out, show (⟨#[41]⟩ : ByteArray).size = 1 from rfl])
   cases h3 : hp ar (inn s.data.toList)
   ·have H3 := zz h3
    have E := zz (show Ending.returned (.tuple #[.int .i64 0, .string ⟨#[]⟩, .bool false]) = pEnd (peelB s.data.toList) by unfold peelB; rw [h1, h2, h3]; rfl)
    clear h1 h2 h3 hd hz
    go_enter Tryz.func133, Tryz.ntmps133
    go_wp2_with fail
    refine (xp_is rfl l40 H1.out z40 HX.out _).mono ?_
    rintro e w' ⟨rfl, rfl⟩
    go_wp2_with fail
    refine (xs_is HL.out l41 H2.out HD.out HN.out HI.out _).mono ?_
    rintro e w' ⟨rfl, rfl⟩
    go_wp2_with fail
    refine (xh_is HM.out lar H3.out _).mono ?_
    rintro e w' ⟨rfl, rfl⟩
    go_wp2
    go_ret3
    exact ⟨E.out, rfl⟩
   ·have H3 := zz h3
    have E := zz (show Ending.returned (.tuple #[.int .i64 0, .string Y, .bool true]) = pEnd (peelB s.data.toList) by unfold peelB; rw [h1, h2, h3, <- HY.out]; rfl)
    clear h1 h2 h3 hd hz
    go_enter Tryz.func133, Tryz.ntmps133
    go_wp2_with fail
    refine (xp_is rfl l40 H1.out z40 HX.out _).mono ?_
    rintro e w' ⟨rfl, rfl⟩
    go_wp2_with fail
    refine (xs_is HL.out l41 H2.out HD.out HN.out HI.out _).mono ?_
    rintro e w' ⟨rfl, rfl⟩
    go_wp2_with fail
    refine (xh_is HM.out lar H3.out _).mono ?_
    rintro e w' ⟨rfl, rfl⟩
    go_wp2
    go_ret3
    exact ⟨E.out, rfl⟩
theorem peelB_is {a : List UInt8} (hz : Fit s) (w : World) (ea : s.data.toList = a) (h : peelB a = some (d, x)) :
 Calls Tryz.prog 133 #[.string s] w fun e w' => e = .returned (.tuple #[.int .i64 (d : Int), .string (B x), .bool true]) /\ w' = w := by
 have := peelB_any s hz w
 rw [ea, h] at this
 exact this
theorem peelB_no {a : List UInt8} (hz : Fit s) (w : World) (ea : s.data.toList = a) (h : peelB a = none) :
 Calls Tryz.prog 133 #[.string s] w fun e w' => e = .returned (.tuple #[.int .i64 0, .string ⟨#[]⟩, .bool false]) /\ w' = w := by
 have := peelB_any s hz w
 rw [ea, h] at this
 exact this
theorem peel_any (s : ByteArray) (hz : Fit s) (w : World) :
 Calls Tryz.prog 109 #[.string s] w fun e w' => e = pEnd (peel s.data.toList) /\ w' = w := by
 obtain ⟨X, hX⟩ : ∃ X, B (s.data.toList.drop 5) = X := ⟨_, rfl⟩
 have hd : Fit X := hX ▸ hz.drop 5
 have HX := zz hX
 have HL := zz (show X.data.toList = s.data.toList.drop 5 by rw [<- hX]; rfl)
 obtain ⟨Y, hY⟩ : ∃ Y, B (s.data.toList.drop 7) = Y := ⟨_, rfl⟩
 have HY := zz hY
 clear hX hY
 have HD := zz hd
 cases h1 : hp pS s.data.toList
 ·have H1 := zz h1
  cases h2 : hp pR s.data.toList
  ·have H2 := zz h2
   cases h3 : hp pB s.data.toList
   ·have H3 := zz h3
    have E := zz (show Ending.returned (.tuple #[.int .i64 0, .string ⟨#[]⟩, .bool false]) = pEnd (peel s.data.toList) by unfold peel; rw [h1, h2, h3]; rfl)
    clear h1 h2 h3 hd hz
    go_enter Tryz.func109, Tryz.ntmps109
    go_wp2_with fail
    refine (xp_no rfl lpS H1.out _).mono ?_
    rintro e w' ⟨rfl, rfl⟩
    go_wp2_with fail
    refine (xp_no rfl lpR H2.out _).mono ?_
    rintro e w' ⟨rfl, rfl⟩
    go_wp2_with fail
    refine (xp_no rfl lpB H3.out _).mono ?_
    rintro e w' ⟨rfl, rfl⟩
    go_wp2
    go_ret3
    exact ⟨E.out, rfl⟩
   ·have H3 := zz h3
    cases h4 : peelB (s.data.toList.drop 5) with
    | none =>
     have H4 := zz h4
     have E := zz (show Ending.returned (.tuple #[.int .i64 0, .string ⟨#[]⟩, .bool false]) = pEnd (peel s.data.toList) by unfold peel; rw [h1, h2, h3, if_neg (by simp), if_neg (by simp), if_pos rfl, h4]; rfl)
     clear h1 h2 h3 h4 hd hz
     go_enter Tryz.func109, Tryz.ntmps109
     go_wp2_with fail
     refine (xp_no rfl lpS H1.out _).mono ?_
     rintro e w' ⟨rfl, rfl⟩
     go_wp2_with fail
     refine (xp_no rfl lpR H2.out _).mono ?_
     rintro e w' ⟨rfl, rfl⟩
     go_wp2_with fail
     refine (xp_is rfl lpB H3.out zpB HX.out _).mono ?_
     rintro e w' ⟨rfl, rfl⟩
     go_wp2_with fail
     refine (peelB_no HD.out _ HL.out H4.out).mono ?_
     rintro e w' ⟨rfl, rfl⟩
     go_wp2
     go_ret3
     exact ⟨E.out, rfl⟩
    | some p =>
     obtain ⟨d, x⟩ := p
     have H4 := zz h4
     have E := zz (show Ending.returned (.tuple #[.int .i64 (d : Int), .string (B x), .bool true]) = pEnd (peel s.data.toList) by unfold peel; rw [h1, h2, h3, if_neg (by simp), if_neg (by simp), if_pos rfl, h4]; rfl)
     clear h1 h2 h3 h4 hd hz
     go_enter Tryz.func109, Tryz.ntmps109
     go_wp2_with fail
     refine (xp_no rfl lpS H1.out _).mono ?_
     rintro e w' ⟨rfl, rfl⟩
     go_wp2_with fail
     refine (xp_no rfl lpR H2.out _).mono ?_
     rintro e w' ⟨rfl, rfl⟩
     go_wp2_with fail
     refine (xp_is rfl lpB H3.out zpB HX.out _).mono ?_
     rintro e w' ⟨rfl, rfl⟩
     go_wp2_with fail
     refine (peelB_is HD.out _ HL.out H4.out).mono ?_
     rintro e w' ⟨rfl, rfl⟩
     go_wp2
     go_ret3
     exact ⟨E.out, rfl⟩
  ·have H2 := zz h2
   have E := zz (show Ending.returned (.tuple #[.int .i64 2, .string Y, .bool true]) = pEnd (peel s.data.toList) by unfold peel; rw [h1, h2, <- HY.out]; rfl)
   clear h1 h2 hd hz
   go_enter Tryz.func109, Tryz.ntmps109
   go_wp2_with fail
   refine (xp_no rfl lpS H1.out _).mono ?_
   rintro e w' ⟨rfl, rfl⟩
   go_wp2_with fail
   refine (xp_is rfl lpR H2.out zpR HY.out _).mono ?_
   rintro e w' ⟨rfl, rfl⟩
   go_wp2
   go_ret3
   exact ⟨E.out, rfl⟩
 ·have H1 := zz h1
  have E := zz (show Ending.returned (.tuple #[.int .i64 1, .string Y, .bool true]) = pEnd (peel s.data.toList) by unfold peel; rw [h1, <- HY.out]; rfl)
  clear h1 hd hz
  go_enter Tryz.func109, Tryz.ntmps109
  go_wp2_with fail
  refine (xp_is rfl lpS H1.out zpS HY.out _).mono ?_
  rintro e w' ⟨rfl, rfl⟩
  go_wp2
  go_ret3
  exact ⟨E.out, rfl⟩
theorem peel_is {a : List UInt8} (hz : Fit s) (w : World) (ea : s.data.toList = a) (h : peel a = some (d, x)) :
 Calls Tryz.prog 109 #[.string s] w fun e w' => e = .returned (.tuple #[.int .i64 (d : Int), .string (B x), .bool true]) /\ w' = w := by
 have := peel_any s hz w
 rw [ea, h] at this
 exact this
theorem peel_no {a : List UInt8} (hz : Fit s) (w : World) (ea : s.data.toList = a) (h : peel a = none) :
 Calls Tryz.prog 109 #[.string s] w fun e w' => e = .returned (.tuple #[.int .i64 0, .string ⟨#[]⟩, .bool false]) /\ w' = w := by
 have := peel_any s hz w
 rw [ea, h] at this
 exact this
theorem isbase_is {a : List UInt8} (ea : s.data.toList = a) (h : base a = b) (w : World) :
 Calls Tryz.prog 108 #[.string s] w fun e w' => e = .returned (.bool b) /\ w' = w := by
 subst ea; exact isbase_any s b h w
def mEnd : Option Nat -> Ending
 | some d => .returned (.tuple #[.int .i64 (d : Int), .bool true])
 | none => .returned (.tuple #[.int .i64 0, .bool false])
theorem measure_any (s : ByteArray) (hz : Fit s) (w : World) :
 Calls Tryz.prog 80 #[.string s] w fun e w' => e = mEnd (meas 41 s.data.toList) /\ w' = w := by
 generalize hM : meas 41 s.data.toList = M
 have HM := zz hM
 clear hM
 have HZ := zz hz
 clear hz
 go_enter Tryz.func80, Tryz.ntmps80
 go_wp2
 go_loop [0, 8] (fun t i => ∃ (k : Nat) (l : List UInt8), k <= 41 /\ i = .int .i64 (k : Int) /\ t = .string (B l) /\ l.length <= 9223372036854775807 /\ M = (meas (41 - k) l).map (· + k)) (fun _ i => 41 - (intOf i).toNat)
 case atStart => exact ⟨0, s.data.toList, by omega, rfl, rfl, by rw [<- size_lt]; exact HZ.out.le, by rw [HM.out]; cases M <;> rfl⟩
 case round =>
  obtain ⟨k, l, hk, rfl, rfl, hl, hm⟩ := hrel
  have hz : Fit (B l) := ⟨by rw [B_size]; exact hl⟩
  have HZ := zz hz
  clear hz
  by_cases hlt : k < 41
  ·obtain ⟨j, hj⟩ : ∃ j, 41 - k = j + 1 := ⟨40 - k, by omega⟩
   rw [hj] at hm
   cases hb : base l
   ·have HB := zz hb
    cases hp' : peel l with
    | none =>
     have HP := zz hp'
     rw [meas_none hb hp'] at hm
     have E := zz (show Ending.returned (.tuple #[.int .i64 0, .bool false]) = mEnd M by rw [hm]; rfl)
     clear hm hb hp' hj hl
     go_wp2_with (first | (go_at_call 108; refine (isbase_is (B_list l) HB.out _).mono ?_; rintro e w' ⟨rfl, rfl⟩) | (go_at_call 109; refine (peel_no HZ.out _ (B_list l) HP.out).mono ?_; rintro e w' ⟨rfl, rfl⟩))
     go_ret2
     exact ⟨E.out, rfl⟩
    | some p =>
     obtain ⟨d, x⟩ := p
     have HP := zz hp'
     rw [meas_some hb hp'] at hm
     have hx := peel_len hp'
     have E := zz (show x.length <= 9223372036854775807 /\ M = (meas (41 - (k + 1)) x).map (· + (k + 1)) from ⟨by omega, by
      rw [hm, show 41 - (k + 1) = j by omega]
      cases meas j x with
      | none => rfl
      | some y => show some (y + 1 + k) = some (y + (k + 1)); rw [show y + 1 + k = y + (k + 1) by omega]⟩)
     clear hm hb hp' hj hl hx
     go_wp2_with (first | (go_at_call 108; refine (isbase_is (B_list l) HB.out _).mono ?_; rintro e w' ⟨rfl, rfl⟩) | (go_at_call 109; refine (peel_is HZ.out _ (B_list l) HP.out).mono ?_; rintro e w' ⟨rfl, rfl⟩))
     go_round
     case rel => exact ⟨k + 1, x, by omega, by go_num, rfl, E.out.1, E.out.2⟩
     case measure => simp [intOf]; omega
   ·have HB := zz hb
    rw [meas_base hb] at hm
    have E := zz (show Ending.returned (.tuple #[.int .i64 (k : Int), .bool true]) = mEnd M by rw [hm]; show _ = Ending.returned (.tuple #[.int .i64 ((0 + k : Nat) : Int), .bool true]); rw [Nat.zero_add])
    clear hm hb hj hl
    go_wp2_with (first | (go_at_call 108; refine (isbase_is (B_list l) HB.out _).mono ?_; rintro e w' ⟨rfl, rfl⟩))
    go_ret2
    exact ⟨E.out, rfl⟩
  ·have e : k = 41 := by omega
   subst e
   have E := zz (show Ending.returned (.tuple #[.int .i64 0, .bool false]) = mEnd M by rw [hm]; rfl)
   clear hm hl
   go_wp2
   go_ret2
   exact ⟨E.out, rfl⟩
end
section
open Go.RowKit
variable {b : Bool} {s : ByteArray}
theorem measure_is {a : List UInt8} {k : Nat} (hz : Fit s) (ea : s.data.toList = a) (h : meas 41 a = some k) (w : World) :
 Calls Tryz.prog 80 #[.string s] w fun e w' => e = .returned (.tuple #[.int .i64 (k : Int), .bool true]) /\ w' = w := by
 have := measure_any s hz w
 rw [ea, h] at this
 exact this
theorem measure_no {a : List UInt8} (hz : Fit s) (ea : s.data.toList = a) (h : meas 41 a = none) (w : World) :
 Calls Tryz.prog 80 #[.string s] w fun e w' => e = .returned (.tuple #[.int .i64 0, .bool false]) /\ w' = w := by
 have := measure_any s hz w
 rw [ea, h] at this
 exact this
theorem right_is {a : List UInt8} (hz : Fit s) (ea : s.data.toList = a) (h : right a = b) (w : World) :
 Calls Tryz.prog 48 #[.string s] w fun e w' => e = .returned (.bool b) /\ w' = w := by
 cases b
 ·have H := zz (right_not h).1
  have HA := zz ea
  have HZ := zz hz
  clear h hz ea
  go_enter Tryz.func48, Tryz.ntmps48
  go_wp2_with fail
  refine (measure_no HZ.out HA.out H.out _).mono ?_
  rintro e w' ⟨rfl, rfl⟩
  go_wp2
  go_ret
  exact ⟨rfl, rfl⟩
 ·obtain ⟨k, h1, _, _⟩ := right_meas h
  have H := zz h1
  have HA := zz ea
  have HZ := zz hz
  clear h hz ea h1
  go_enter Tryz.func48, Tryz.ntmps48
  go_wp2_with fail
  refine (measure_is HZ.out HA.out H.out _).mono ?_
  rintro e w' ⟨rfl, rfl⟩
  go_wp2
  go_ret
  exact ⟨rfl, rfl⟩
end
section
open Go.RowKit
variable {b : Bool} {d : Nat} {s : ByteArray} {x : List UInt8}
theorem begins_is {p : ByteArray} {a b : List UInt8} {c : Bool} (ea : s.data.toList = a) (eb : p.data.toList = b) (h : hp b a = c) (w : World) :
 Calls Tryz.prog 99 #[.string s, .string p] w fun e w' => e = .returned (.bool c) /\ w' = w := by
 subst ea eb; exact begins_any s p c h w
theorem plain_is {a : List UInt8} (ea : s.data.toList = a) (h : base a = b) (w : World) :
 Calls Tryz.prog 74 #[.string s] w fun e w' => e = .returned (.bool b) /\ w' = w := by
 subst ea; exact plain_any s b h w
theorem hp40_bt {X : ByteArray} (h : 1 <= X.size) : hp [40] X.data.toList = decide (bt X 0 = 40) := by
 have e := drop_by X 0 (by omega)
 rw [List.drop_zero] at e
 rw [e, hp_cons, hp_nil, Bool.and_true]
 unfold bt by_
 rw [Bool.eq_iff_iff, beq_iff_eq, decide_eq_true_eq]
 constructor
 ·intro h; rw [<- h]; rfl
 ·intro h; exact UInt8.toNat_inj.1 h.symm
theorem hs41_bt {X : ByteArray} (h : 1 <= X.size) : hs [41] X.data.toList = decide (bt X (X.size - 1) = 41) := by
 have e := take_by X (X.size - 1) (by omega)
 have e2 : X.size - 1 + 1 = X.data.toList.length := by rw [<- size_lt]; omega
 rw [e2, List.take_length] at e
 rw [Bool.eq_iff_iff, hs_iff, decide_eq_true_eq]
 constructor
 ·rintro ⟨r, hr⟩
  rw [hr] at e
  have := (List.append_inj' e rfl).2
  have h1 : (41 : UInt8) = by_ X (X.size - 1) := (List.cons.inj this).1
  show (by_ X (X.size - 1)).toNat = 41
  rw [<- h1]; rfl
 ·intro hb
  have h1 : by_ X (X.size - 1) = 41 := UInt8.toNat_inj.1 hb
  rw [h1] at e
  exact ⟨_, e⟩
theorem inn_ext (X : ByteArray) : X.extract 1 (X.size - 1) = B (inn X.data.toList) := by
 rw [<- B_of (X.extract 1 (X.size - 1))]
 have e : (X.extract 1 (X.size - 1)).data.toList = inn X.data.toList := by
  rw [ByteArray.data_extract, Array.toList_extract, List.extract_eq_take_drop]
  unfold inn
  rw [List.length_drop, <- size_lt]
 rw [e]
def rEnd (p : Nat × List UInt8 × Bool) : Ending := .returned (.tuple #[.int .i64 (p.1 : Int), .string (B p.2.1), .bool p.2.2])
theorem rsplit_any (s : ByteArray) (hz : Fit s) (w : World) :
 Calls Tryz.prog 75 #[.string s] w fun e w' => e = rEnd (rsplit s.data.toList) /\ ∃ q, w' = w.drewN q := by
 have hf := hz.le
 cases h1 : hp pB s.data.toList
 ·have H1 := zz h1
  cases h2 : hp pS s.data.toList
  ·have H2 := zz h2
   cases h3 : hp pR s.data.toList
   ·have H3 := zz h3
    have E := zz (show Ending.returned (.tuple #[.int .i64 0, .string ⟨#[]⟩, .bool false]) = rEnd (rsplit s.data.toList) by unfold rsplit; rw [h1, h2, h3]; rfl)
    clear h1 h2 h3 hz
    go_enter Tryz.func75, Tryz.ntmps75
    go_wp2_with fail
    refine (begins_is rfl lpB H1.out _).mono ?_
    rintro e w' ⟨rfl, rfl⟩
    go_wp2_with fail
    refine (begins_is rfl lpS H2.out _).mono ?_
    rintro e w' ⟨rfl, rfl⟩
    go_wp2_with fail
    refine (begins_is rfl lpR H3.out _).mono ?_
    rintro e w' ⟨rfl, rfl⟩
    go_wp2
    go_ret3
    exact ⟨E.out, 0, rfl⟩
   ·have H3 := zz h3
    have hle := hp_le h3
    rw [<- size_lt] at hle
    have hle : 7 <= s.size := hle
    obtain ⟨X, hX⟩ : ∃ X, s.extract 7 s.size = X := ⟨_, rfl⟩
    have E := zz (show Ending.returned (.tuple #[.int .i64 2, .string X, .bool true]) = rEnd (rsplit s.data.toList) by unfold rsplit; rw [h1, h2, h3, <- hX, ext_B]; rfl)
    clear h1 h2 h3 hz
    go_enter Tryz.func75, Tryz.ntmps75
    go_wp2_with fail
    refine (begins_is rfl lpB H1.out _).mono ?_
    rintro e w' ⟨rfl, rfl⟩
    go_wp2_with fail
    refine (begins_is rfl lpS H2.out _).mono ?_
    rintro e w' ⟨rfl, rfl⟩
    go_wp2_with fail
    refine (begins_is rfl lpR H3.out _).mono ?_
    rintro e w' ⟨rfl, rfl⟩
    go_wp2
    go_quiet (fail)
    go_wp2
    go_ret3
    exact ⟨E.out, _, rfl⟩
  ·have H2 := zz h2
   have hle := hp_le h2
   rw [<- size_lt] at hle
   have hle : 7 <= s.size := hle
   obtain ⟨X, hX⟩ : ∃ X, s.extract 7 s.size = X := ⟨_, rfl⟩
   obtain ⟨b3, h3⟩ : ∃ b3, hp pR s.data.toList = b3 := ⟨_, rfl⟩
   have H3 := zz h3
   have E := zz (show Ending.returned (.tuple #[.int .i64 1, .string X, .bool true]) = rEnd (rsplit s.data.toList) by unfold rsplit; rw [h1, h2, <- hX, ext_B]; rfl)
   clear h1 h2 h3 hz
   go_enter Tryz.func75, Tryz.ntmps75
   go_wp2_with fail
   refine (begins_is rfl lpB H1.out _).mono ?_
   rintro e w' ⟨rfl, rfl⟩
   go_wp2_with fail
   refine (begins_is rfl lpS H2.out _).mono ?_
   rintro e w' ⟨rfl, rfl⟩
   go_wp2_with fail
   refine (begins_is rfl lpR H3.out _).mono ?_
   rintro e w' ⟨rfl, rfl⟩
   go_wp2
   go_quiet (fail)
   go_wp2
   go_ret3
   exact ⟨E.out, _, rfl⟩
 ·have H1 := zz h1
  have H2 := zz (pB_pS h1).1
  have H3 := zz (pB_pS h1).2
  have hle := hp_le h1
  rw [<- size_lt] at hle
  have hle : 5 <= s.size := hle
  obtain ⟨X, hX⟩ : ∃ X, s.extract 5 s.size = X := ⟨_, rfl⟩
  have hl : X.data.toList = s.data.toList.drop 5 := by rw [<- hX, ext_list]
  have hxs : X.size = s.size - 5 := by rw [<- hX, ext_size _ _ hle]
  have hlo : ((X.size : Int) - 1 + 9223372036854775808) % 18446744073709551616 - 9223372036854775808 = ((X.size : Int) - 1) := by omega
  have HF := zz (show rsplit s.data.toList = if 2 <= X.data.toList.length /\ hp [40] X.data.toList = true /\ hs [41] X.data.toList = true then (0, inn X.data.toList, hp ar (inn X.data.toList)) else (0, X.data.toList, !hp ar X.data.toList) by
   rw [hl]; unfold rsplit; rw [if_pos h1])
  have HX := zz (size_lt X)
  have hxb : X.size <= 9223372036854775807 := by omega
  clear h1 hz hl hxs
  obtain ⟨b0, hb0⟩ : ∃ b0, hp ar X.data.toList = b0 := ⟨_, rfl⟩
  have HB0 := zz hb0
  by_cases g1 : 2 <= X.size
  ·have i0 := bt_at X 0 (by omega)
   by_cases g2 : bt X 0 = 40
   ·have i1 := bt_at X (X.size - 1) (by omega)
    have hn : ((X.size : Int) - 1).toNat = X.size - 1 := by omega
    by_cases g3 : bt X (X.size - 1) = 41
    ·obtain ⟨Y, hY⟩ : ∃ Y, X.extract 1 (X.size - 1) = Y := ⟨_, rfl⟩
     have hl' : Y.data.toList = inn X.data.toList := by rw [<- hY, inn_ext]; rfl
     have HL := zz hl'
     obtain ⟨b1, hb1⟩ : ∃ b1, hp ar (inn X.data.toList) = b1 := ⟨_, rfl⟩
     have HB1 := zz hb1
     have E := zz (show Ending.returned (.tuple #[.int .i64 0, .string Y, .bool b1]) = rEnd (rsplit s.data.toList) by
      rw [HF.out, if_pos ⟨by rw [<- size_lt]; exact g1, by rw [hp40_bt (by omega)]; exact decide_eq_true g2, by rw [hs41_bt (by omega)]; exact decide_eq_true g3⟩, hb1, <- hl']; rfl)
     clear hl' hb1 hb0 HF
     rw [g2] at i0
     rw [g3] at i1
     clear g2 g3
     go_enter Tryz.func75, Tryz.ntmps75
     go_wp2_with fail
     refine (begins_is rfl lpB H1.out _).mono ?_
     rintro e w' ⟨rfl, rfl⟩
     go_wp2_with fail
     refine (begins_is rfl lpS H2.out _).mono ?_
     rintro e w' ⟨rfl, rfl⟩
     go_wp2_with fail
     refine (begins_is rfl lpR H3.out _).mono ?_
     rintro e w' ⟨rfl, rfl⟩
     go_wp2_with fail
     refine (begins_is HL.out lar HB1.out _).mono ?_
     rintro e w' ⟨rfl, rfl⟩
     go_wp2
     go_ret3
     exact ⟨E.out, 0, rfl⟩
    ·have q3 : ((bt X (X.size - 1) : Int) == 41) = false := by simp; omega
     have E := zz (show Ending.returned (.tuple #[.int .i64 0, .string X, .bool (!b0)]) = rEnd (rsplit s.data.toList) by
      rw [HF.out, if_neg (fun hc => by rw [hs41_bt (by omega), decide_eq_false g3] at hc; exact absurd hc.2.2 (by simp)), hb0]; rfl)
     clear hb0 HF
     rw [g2] at i0
     clear g2 g3
     go_enter Tryz.func75, Tryz.ntmps75
     go_wp2_with fail
     refine (begins_is rfl lpB H1.out _).mono ?_
     rintro e w' ⟨rfl, rfl⟩
     go_wp2_with fail
     refine (begins_is rfl lpS H2.out _).mono ?_
     rintro e w' ⟨rfl, rfl⟩
     go_wp2_with fail
     refine (begins_is rfl lpR H3.out _).mono ?_
     rintro e w' ⟨rfl, rfl⟩
     go_wp2_with fail
     refine (begins_is rfl lar HB0.out _).mono ?_
     rintro e w' ⟨rfl, rfl⟩
     go_wp2
     go_ret3
     exact ⟨E.out, 0, rfl⟩
   ·have q2 : ((bt X 0 : Int) == 40) = false := by simp; omega
    have E := zz (show Ending.returned (.tuple #[.int .i64 0, .string X, .bool (!b0)]) = rEnd (rsplit s.data.toList) by
     rw [HF.out, if_neg (fun hc => by rw [hp40_bt (by omega), decide_eq_false g2] at hc; exact absurd hc.2.1 (by simp)), hb0]; rfl)
    clear hb0 HF
    clear g2
    go_enter Tryz.func75, Tryz.ntmps75
    go_wp2_with fail
    refine (begins_is rfl lpB H1.out _).mono ?_
    rintro e w' ⟨rfl, rfl⟩
    go_wp2_with fail
    refine (begins_is rfl lpS H2.out _).mono ?_
    rintro e w' ⟨rfl, rfl⟩
    go_wp2_with fail
    refine (begins_is rfl lpR H3.out _).mono ?_
    rintro e w' ⟨rfl, rfl⟩
    go_wp2_with fail
    refine (begins_is rfl lar HB0.out _).mono ?_
    rintro e w' ⟨rfl, rfl⟩
    go_wp2
    go_ret3
    exact ⟨E.out, 0, rfl⟩
  ·skip
   have E := zz (show Ending.returned (.tuple #[.int .i64 0, .string X, .bool (!b0)]) = rEnd (rsplit s.data.toList) by
    rw [HF.out, if_neg (fun hc => g1 (by rw [size_lt]; exact hc.1)), hb0]; rfl)
   clear hb0 HF
   have q1 : decide (2 <= (X.size : Int)) = false := decide_eq_false (by omega)
   go_enter Tryz.func75, Tryz.ntmps75
   go_wp2_with fail
   refine (begins_is rfl lpB H1.out _).mono ?_
   rintro e w' ⟨rfl, rfl⟩
   go_wp2_with fail
   refine (begins_is rfl lpS H2.out _).mono ?_
   rintro e w' ⟨rfl, rfl⟩
   go_wp2_with fail
   refine (begins_is rfl lpR H3.out _).mono ?_
   rintro e w' ⟨rfl, rfl⟩
   go_wp2_with fail
   refine (begins_is rfl lar HB0.out _).mono ?_
   rintro e w' ⟨rfl, rfl⟩
   go_wp2
   go_ret3
   exact ⟨E.out, 0, rfl⟩
theorem rsplit_is {a : List UInt8} (hz : Fit s) (ea : s.data.toList = a) (h : rsplit a = (d, x, b)) (w : World) :
 Calls Tryz.prog 75 #[.string s] w fun e w' => e = .returned (.tuple #[.int .i64 (d : Int), .string (B x), .bool b]) /\ ∃ q, w' = w.drewN q := by
 have := rsplit_any s hz w
 rw [ea, h] at this
 exact this
end
section
open Go.RowKit
variable {b : Bool} {s : ByteArray}
def DN (w w' : World) : Prop := ∃ q, w' = w.drewN q
theorem DN.refl (w : World) : DN w w := ⟨0, rfl⟩
theorem DN.trans {a b c : World} (h : DN a b) (h' : DN b c) : DN a c := by
 obtain ⟨q, rfl⟩ := h
 obtain ⟨r, rfl⟩ := h'
 exact ⟨_, by rw [World.drewN_drewN]⟩
theorem DN.below {a b : World} (h : DN a b) : Below a.heap.size a b := by
 obtain ⟨q, rfl⟩ := h
 exact below_drewN a q
theorem rsplit_len (l : List UInt8) : (rsplit l).2.1.length <= l.length := by
 unfold rsplit
 repeat' split
 all_goals simp [inn]
 all_goals try omega
theorem rright_is {a : List UInt8} (hz : Fit s) (ea : s.data.toList = a) (h : right a = b) (w : World) :
 Calls Tryz.prog 40 #[.string s] w fun e w' => e = .returned (.bool b) /\ DN w w' := by
 have HM := zz (show (meas 41 a).isSome = b from h)
 have HZ := zz hz
 have HA := zz ea
 clear h hz ea
 go_enter Tryz.func40, Tryz.ntmps40
 go_wp2
 go_loopw [0, 3] (fun t i wr => ∃ (k : Nat) (l : List UInt8), k <= 41 /\ i = .int .i64 (k : Int) /\ t = .string (B l) /\ l.length <= 9223372036854775807 /\ b = (meas (41 - k) l).isSome /\ DN w wr) (fun _ i _ => 41 - (intOf i).toNat)
 case atStart => exact ⟨0, s.data.toList, by omega, rfl, rfl, by rw [<- size_lt]; exact HZ.out.le, by rw [HA.out]; exact HM.out.symm, DN.refl _⟩
 case round =>
  obtain ⟨k, l, hk, rfl, rfl, hl, hm, hw⟩ := hrel
  have hz : Fit (B l) := ⟨by rw [B_size]; exact hl⟩
  have HZ := zz hz
  have HW := zz hw
  clear hz hw
  by_cases hlt : k < 41
  ·have hkq : decide ((k : Int) <= 40) = true := decide_eq_true (by omega)
   obtain ⟨j, hj⟩ : ∃ j, 41 - k = j + 1 := ⟨40 - k, by omega⟩
   rw [hj] at hm
   cases hb : base l
   ·have HB := zz hb
    obtain ⟨d, x, b', hr⟩ : ∃ d x b', rsplit l = (d, x, b') := ⟨_, _, _, rfl⟩
    have hs := right_step (n := j) hb
    have hxl := rsplit_len l
    rw [hr] at hs hxl
    have hs : (meas (j + 1) l).isSome = (b' && (meas j x).isSome) := hs
    have hxl : x.length <= l.length := hxl
    have HR := zz hr
    cases b'
    ·have E := zz (show false = b by rw [hm, hs]; rfl)
     clear hm hb hj hl hs hr hxl
     go_wp2_with fail
     refine (plain_is (B_list l) HB.out _).mono ?_
     rintro e w' ⟨rfl, rfl⟩
     go_wp2_with fail
     refine (rsplit_is HZ.out (B_list l) HR.out _).mono ?_
     rintro e w1 ⟨rfl, d1⟩
     have D1 := zz d1
     clear d1
     go_wp2
     go_ret
     exact ⟨zb E.out, HW.out.trans D1.out⟩
    ·have E := zz (show x.length <= 9223372036854775807 /\ b = (meas (41 - (k + 1)) x).isSome from ⟨by omega, by rw [hm, hs, show 41 - (k + 1) = j by omega]; rfl⟩)
     clear hm hb hj hl hs hr hxl
     go_wp2_with fail
     refine (plain_is (B_list l) HB.out _).mono ?_
     rintro e w' ⟨rfl, rfl⟩
     go_wp2_with fail
     refine (rsplit_is HZ.out (B_list l) HR.out _).mono ?_
     rintro e w1 ⟨rfl, d1⟩
     have D1 := zz d1
     clear d1
     go_wp2
     go_roundw
     case rel => exact ⟨k + 1, x, by omega, by go_num, rfl, E.out.1, E.out.2, HW.out.trans D1.out⟩
     case measure => simp [intOf]; omega
   ·have HB := zz hb
    rw [meas_base hb] at hm
    have E := zz (show true = b by rw [hm]; rfl)
    clear hm hb hj hl
    go_wp2_with fail
    refine (plain_is (B_list l) HB.out _).mono ?_
    rintro e w' ⟨rfl, rfl⟩
    go_wp2
    go_ret
    exact ⟨zb E.out, HW.out⟩
  ·have e : k = 41 := by omega
   subst e
   have E := zz (show false = b by rw [hm]; rfl)
   clear hm hl
   go_wp2
   go_ret
   exact ⟨zb E.out, HW.out⟩
end
end Go.Proofs.YtmdhjiammcpogaaGreatDoor
