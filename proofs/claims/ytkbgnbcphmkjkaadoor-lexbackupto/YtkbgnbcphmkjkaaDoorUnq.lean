/- Unquote. -/
import Derived.Test.YtkbgnbcphmkjkaaDoorOwn
namespace Go.Proofs.YtkbgnbcphmkjkaaDoor
open Go.RowKit

theorem mean_92 {c : UInt8} (h : c.toNat = 92) : mean c = some c := by unfold mean; rw [if_pos h]
theorem mean_34 {c : UInt8} (h : c.toNat = 34) : mean c = some c := by unfold mean; rw [if_neg (by omega), if_pos h]
theorem mean_n {c : UInt8} (h : c.toNat = 110) : mean c = some 10 := by unfold mean; rw [if_neg (by omega), if_neg (by omega), if_pos h]
theorem mean_t {c : UInt8} (h : c.toNat = 116) : mean c = some 9 := by unfold mean; rw [if_neg (by omega), if_neg (by omega), if_neg (by omega), if_pos h]
theorem mean_no {c : UInt8} (h1 : ¬ c.toNat = 92) (h2 : ¬ c.toNat = 34) (h3 : ¬ c.toNat = 110) (h4 : ¬ c.toNat = 116) : mean c = none := by unfold mean; rw [if_neg h1, if_neg h2, if_neg h3, if_neg h4]

/-- the byte that a text's beginning stands for, and how many do so -/
def mn (x : ByteArray) : UInt8 × Nat :=
  if (by_ x 0).toNat = 10 then (0, 0) else if ¬ (by_ x 0).toNat = 92 then (by_ x 0, 1) else if x.size = 1 then (0, 0) else
    match mean (by_ x 1) with
    | some m => (m, 2)
    | none => (0, 0)

theorem ret_mn {x : ByteArray} {c : UInt8} {n : Nat} (h : (c, n) = mn x) : Ending.returned (.tuple #[.int .u8 (c.toNat : Int), .int .i64 (n : Int)]) = .returned (.tuple #[.int .u8 ((mn x).1.toNat : Int), .int .i64 ((mn x).2 : Int)]) := by rw [← h]

set_option maxHeartbeats 1000000 in
theorem meant_any (x : ByteArray) (w : World) (hs : x.size ≤ maxLen) (h0 : 0 < x.size) :
    Calls Tryd.prog 52 #[.string x] w fun e w' => e = .returned (.tuple #[.int .u8 ((mn x).1.toNat : Int), .int .i64 ((mn x).2 : Int)]) ∧ w' = w := by
  unfold maxLen at hs
  have b0 := by_at x 0 h0
  by_cases h1 : (by_ x 0).toNat = 10
  · have E := hide (show (0, 0) = mn x by unfold mn; rw [if_pos h1])
    have q : (((by_ x 0).toNat : Int) == 10) = true := by simp; omega
    clear h1
    go_enter Tryd.func52, Tryd.ntmps52
    go_wp2
    go_ret2
    exact ⟨ret_mn (unhide E), rfl⟩
  have q1 : (((by_ x 0).toNat : Int) == 10) = false := by simp; omega
  by_cases h2 : (by_ x 0).toNat = 92
  · have q2 : (((by_ x 0).toNat : Int) != 92) = false := by simp; omega
    by_cases h3 : x.size = 1
    · have E := hide (show (0, 0) = mn x by unfold mn; rw [if_neg h1, if_neg (by omega), if_pos h3])
      have q3 : ((x.size : Int) == 1) = true := by simp; omega
      clear h1 h2 h3
      go_enter Tryd.func52, Tryd.ntmps52
      go_wp2
      go_ret2
      exact ⟨ret_mn (unhide E), rfl⟩
    · have q3 : ((x.size : Int) == 1) = false := by simp; omega
      have h1s : 1 < x.size := by omega
      have b1 := by_at x 1 h1s
      have U := hide (show mn x = match mean (by_ x 1) with | some m => (m, 2) | none => (0, 0) by unfold mn; rw [if_neg h1, if_neg (by omega), if_neg h3])
      clear h1 h2 h3
      by_cases c1 : (by_ x 1).toNat = 92
      · have E := hide (show (by_ x 1, 2) = mn x by rw [unhide U, mean_92 c1])
        have p : (((by_ x 1).toNat : Int) == 92) = true := by simp; omega
        clear c1
        go_enter Tryd.func52, Tryd.ntmps52
        go_wp2
        go_ret2
        exact ⟨ret_mn (unhide E), rfl⟩
      have p1 : (((by_ x 1).toNat : Int) == 92) = false := by simp; omega
      by_cases c2 : (by_ x 1).toNat = 34
      · have E := hide (show (by_ x 1, 2) = mn x by rw [unhide U, mean_34 c2])
        have p : (((by_ x 1).toNat : Int) == 34) = true := by simp; omega
        clear c1 c2
        go_enter Tryd.func52, Tryd.ntmps52
        go_wp2
        go_ret2
        exact ⟨ret_mn (unhide E), rfl⟩
      have p2 : (((by_ x 1).toNat : Int) == 34) = false := by simp; omega
      by_cases c3 : (by_ x 1).toNat = 110
      · have E := hide (show (10, 2) = mn x by rw [unhide U, mean_n c3])
        have p : (((by_ x 1).toNat : Int) == 110) = true := by simp; omega
        clear c1 c2 c3
        go_enter Tryd.func52, Tryd.ntmps52
        go_wp2
        go_ret2
        exact ⟨ret_mn (unhide E), rfl⟩
      have p3 : (((by_ x 1).toNat : Int) == 110) = false := by simp; omega
      by_cases c4 : (by_ x 1).toNat = 116
      · have E := hide (show (9, 2) = mn x by rw [unhide U, mean_t c4])
        have p : (((by_ x 1).toNat : Int) == 116) = true := by simp; omega
        clear c1 c2 c3 c4
        go_enter Tryd.func52, Tryd.ntmps52
        go_wp2
        go_ret2
        exact ⟨ret_mn (unhide E), rfl⟩
      · have p4 : (((by_ x 1).toNat : Int) == 116) = false := by simp; omega
        have E := hide (show (0, 0) = mn x by rw [unhide U, mean_no c1 c2 c3 c4])
        clear c1 c2 c3 c4
        go_enter Tryd.func52, Tryd.ntmps52
        go_wp2
        go_ret2
        exact ⟨ret_mn (unhide E), rfl⟩
  · have q2 : (((by_ x 0).toNat : Int) != 92) = true := by simp; omega
    have E := hide (show (by_ x 0, 1) = mn x by unfold mn; rw [if_neg h1, if_pos h2])
    clear h1 h2
    go_enter Tryd.func52, Tryd.ntmps52
    go_wp2
    go_ret2
    exact ⟨ret_mn (unhide E), rfl⟩

/-- what Unquote answers -/
def ut (s : ByteArray) : ByteArray := match unquote s.data.toList with | some p => ⟨p.1.toArray⟩ | none => ⟨#[]⟩
def uk (s : ByteArray) : Nat := match unquote s.data.toList with | some p => p.2 | none => 0
def ue (s : ByteArray) : Int := match unquote s.data.toList with | some _ => 0 | none => 21

theorem u_some {s : ByteArray} {t : List UInt8} {k : Nat} (h : unquote s.data.toList = some (t, k)) : ut s = ⟨t.toArray⟩ ∧ uk s = k ∧ ue s = 0 := by unfold ut uk ue; rw [h]; exact ⟨rfl, rfl, rfl⟩
theorem u_none {s : ByteArray} (h : unquote s.data.toList = none) : ut s = ⟨#[]⟩ ∧ uk s = 0 ∧ ue s = 21 := by unfold ut uk ue; rw [h]; exact ⟨rfl, rfl, rfl⟩

def Uend (s : ByteArray) : Ending := .returned (.tuple #[.string (ut s), .int .i64 (uk s : Int), .int .i64 (ue s)])

theorem ret_some {s : ByteArray} {t : List UInt8} {k : Nat} {z : Int} (h : unquote s.data.toList = some (t, k)) (hz : z = (k : Int)) : Ending.returned (.tuple #[.string ⟨t.toArray⟩, .int .i64 z, .int .i64 0]) = Uend s := by
  obtain ⟨h1, h2, h3⟩ := u_some h
  unfold Uend
  rw [h1, h2, h3, hz]
theorem ret_none {s : ByteArray} (h : unquote s.data.toList = none) : Ending.returned (.tuple #[.string ⟨#[]⟩, .int .i64 0, .int .i64 21]) = Uend s := by
  obtain ⟨h1, h2, h3⟩ := u_none h
  unfold Uend
  rw [h1, h2, h3]
  rfl

/-- where the reader stands: k bytes are read, they stand for these -/
def Mid (s : ByteArray) (k : Nat) (acc : List UInt8) : Prop := unquote s.data.toList = (unq (s.data.toList.drop k)).map fun p => (acc ++ p.1, k + p.2)

theorem mid_start {s : ByteArray} (h0 : 0 < s.size) (h : (by_ s 0).toNat = 34) : Mid s 1 [] := by
  unfold Mid unquote
  have e := drop_by s 0 h0
  rw [List.drop_zero] at e
  rw [e]
  simp only
  rw [if_pos h]
  simp only [List.drop_succ_cons, List.drop_zero, List.nil_append]
  congr 1
  funext p
  rw [Nat.add_comm]

theorem unq_first {s : ByteArray} (h : s.size = 0 ∨ ¬ (by_ s 0).toNat = 34) : unquote s.data.toList = none := by
  unfold unquote
  by_cases h0 : 0 < s.size
  · have e := drop_by s 0 h0
    rw [List.drop_zero] at e
    rw [e]
    rcases h with h | h
    · omega
    · simp only; rw [if_neg h]
  · have e : s.data.toList = [] := List.length_eq_zero_iff.1 (by rw [Array.length_toList]; exact Nat.le_zero.1 (Nat.not_lt.1 h0))
    rw [e]

theorem mid_end {s : ByteArray} {k : Nat} {acc : List UInt8} (h : Mid s k acc) (hk : k < s.size) (hc : (by_ s k).toNat = 34) : unquote s.data.toList = some (acc, k + 1) := by
  rw [h, drop_by s k hk, unq_end hc]
  simp
theorem mid_out {s : ByteArray} {k : Nat} {acc : List UInt8} (h : Mid s k acc) (hk : ¬ k < s.size) : unquote s.data.toList = none := by
  rw [h, List.drop_of_length_le (by rw [Array.length_toList]; exact Nat.not_lt.1 hk), unq_nil]
  rfl
theorem mid_line {s : ByteArray} {k : Nat} {acc : List UInt8} (h : Mid s k acc) (hk : k < s.size) (hc : (by_ s k).toNat = 10) : unquote s.data.toList = none := by
  rw [h, drop_by s k hk, unq_line hc]
  rfl
theorem mid_one {s : ByteArray} {k : Nat} {acc : List UInt8} (h : Mid s k acc) (hk : k < s.size) (h1 : ¬ (by_ s k).toNat = 34) (h2 : ¬ (by_ s k).toNat = 10) (h3 : ¬ (by_ s k).toNat = 92) : Mid s (k + 1) (acc ++ [by_ s k]) := by
  unfold Mid
  rw [h, drop_by s k hk, unq_one h1 h2 h3, Option.map_map]
  congr 1
  funext p
  simp
  omega
theorem mid_cut {s : ByteArray} {k : Nat} {acc : List UInt8} (h : Mid s k acc) (hk : k < s.size) (hc : (by_ s k).toNat = 92) (hk1 : ¬ k + 1 < s.size) : unquote s.data.toList = none := by
  rw [h, drop_by s k hk, List.drop_of_length_le (by rw [Array.length_toList]; exact Nat.not_lt.1 hk1), unq_cut hc]
  rfl
theorem mid_bad {s : ByteArray} {k : Nat} {acc : List UInt8} (h : Mid s k acc) (hk1 : k + 1 < s.size) (hc : (by_ s k).toNat = 92) (hd : mean (by_ s (k + 1)) = none) : unquote s.data.toList = none := by
  rw [h, drop_by s k (by omega), drop_by s (k + 1) hk1, unq_bad hc hd]
  rfl
theorem mid_esc {s : ByteArray} {k : Nat} {acc : List UInt8} {m : UInt8} (h : Mid s k acc) (hk1 : k + 1 < s.size) (hc : (by_ s k).toNat = 92) (hd : mean (by_ s (k + 1)) = some m) : Mid s (k + 2) (acc ++ [m]) := by
  unfold Mid
  rw [h, drop_by s k (by omega), drop_by s (k + 1) hk1, unq_esc hc hd, Option.map_map]
  congr 1
  funext p
  simp
  omega

end Go.Proofs.YtkbgnbcphmkjkaaDoor
