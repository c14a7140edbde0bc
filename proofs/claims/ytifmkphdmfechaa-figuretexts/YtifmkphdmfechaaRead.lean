/- Read, of the program and of the document; the document's Text. -/
import Derived.Test.YtifmkphdmfechaaText
namespace Go.Proofs.Ytifmkphdmfechaa
open Go.RowKit

theorem run_ib (s : ByteArray) (c : Int) (w : World) : (callFunc 73 #[.string s, .int .u8 c]).run Try.prog w = .ok (.value (.int .i64 (firstIdx s c.toNat.toUInt8))) w := by
  rw [run_callFunc_extern (e := Extern.BytealgIndexByte.indexByte) Try.func73 (by kernel_rfl) (by kernel_rfl) (by kernel_rfl) (by kernel_rfl) _ w, run_indexByte_string]
  rfl

attribute [local go_sem] run_fb run_ff run_ib

set_option maxHeartbeats 400000 in
theorem ib_any (n : Nat) (w : World) (hn : n < 256) :
    Calls Try.prog 55 #[.string { data := #[48, 49, 50, 51, 52, 53, 54, 55, 56, 57, 97, 98, 99, 100, 101, 102] }, .int .u8 (n : Int)] w fun e w' => e = .returned (.int .i64 (dvi n)) ∧ w' = w := by
  have E := hide (first_hex n hn)
  clear hn
  go_enter Try.func55, Try.ntmps55
  go_wp2
  go_ret
  exact ⟨ret_int (unhide E), rfl⟩

/-- has a text sixteen digits? -/
def hex (s : ByteArray) : Bool := decide (s.size = 16) && (List.range 16).all fun j => decide (0 ≤ dvi (bt s j))

theorem hex_okd {s : ByteArray} (h : hex s = true) : s.size = 16 ∧ okd s 16 := by
  unfold hex at h
  simp only [Bool.and_eq_true, decide_eq_true_eq, List.all_eq_true, List.mem_range] at h
  exact h

theorem hex_of {s : ByteArray} (h1 : s.size = 16) (h2 : okd s 16) : hex s = true := by
  unfold hex
  simp only [Bool.and_eq_true, decide_eq_true_eq, List.all_eq_true, List.mem_range]
  exact ⟨h1, h2⟩

theorem hex_not {s : ByteArray} (k : Nat) (hk : k < 16) (h : dvi (bt s k) < 0) : hex s = false := by
  cases e : hex s
  · rfl
  · have := (hex_okd e).2 k hk; omega

theorem hex_size {s : ByteArray} (h : s.size ≠ 16) : hex s = false := by
  cases e : hex s
  · rfl
  · exact absurd (hex_okd e).1 h

/-- is a text the text of a number? -/
def good (s : ByteArray) : Bool := hex s && (!(FM.nan (acc s 16)) || decide (acc s 16 = 9221120237041090561))

/-- what Read answers -/
def rdv (s : ByteArray) : Nat := if good s then acc s 16 else 0

def rde (s : ByteArray) : Int := if good s then 0 else 11

theorem ret_read {s : ByteArray} {a : Nat} {c : Int} (ha : a = rdv s) (hc : c = rde s) :
    Ending.returned (.tuple #[.float .f64 a, .int .i64 c]) = .returned (.tuple #[.float .f64 (rdv s), .int .i64 (rde s)]) := by rw [ha, hc]

theorem rd_bad {s : ByteArray} (h : good s = false) : 0 = rdv s ∧ 11 = rde s := by unfold rdv rde; rw [h]; exact ⟨rfl, rfl⟩
theorem rd_good {s : ByteArray} (h : good s = true) : acc s 16 = rdv s ∧ 0 = rde s := by unfold rdv rde; rw [h]; exact ⟨rfl, rfl⟩
theorem bad_hex {s : ByteArray} (h : hex s = false) : good s = false := by unfold good; rw [h]; rfl

theorem acc_step (s : ByteArray) (k : Nat) (h : 0 ≤ dvi (bt s k)) : ((acc s (k + 1) : Nat) : Int) = (acc s k : Int) * 16 + dvi (bt s k) := by
  rw [acc]; omega

theorem acc_bound (s : ByteArray) (k : Nat) (h : k < 16) : acc s k ≤ 1152921504606846975 := by
  have h1 := acc_lt s k
  have h2 : (16 : Nat) ^ k ≤ 16 ^ 15 := Nat.pow_le_pow_right (by omega) (by omega)
  omega

set_option maxHeartbeats 1000000 in
theorem read_any (s : ByteArray) (w : World) (hs : s.size ≤ maxLen) :
    Calls Try.prog 39 #[.string s] w fun e w' => e = .returned (.tuple #[.float .f64 (rdv s), .int .i64 (rde s)]) ∧ w' = w := by
  unfold maxLen at hs
  by_cases h16 : s.size = 16
  · have e1 : ((s.size : Int) != 16) = false := by simp [h16]
    have hz : 16 ≤ s.size := by omega
    have H16 := hide h16
    clear h16
    go_enter Try.func39, Try.ntmps39
    go_wp2
    go_loop [4, 11] (fun t i => ∃ k : Nat, k ≤ 16 ∧ i = .int .i64 k ∧ t = .int .u64 ((acc s k : Nat) : Int) ∧ okd s k) (fun _ i => 16 - (intOf i).toNat)
    case atStart => exact ⟨0, by omega, rfl, rfl, fun j hj => by omega⟩
    case round =>
      obtain ⟨k, hk, rfl, rfl, hok⟩ := hrel
      by_cases hlt : k < 16
      · have hks : k < s.size := by omega
        have hb := hide (bt_at s k hks)
        have hl := bt_lt s k
        have hd := dvi_range (bt s k)
        have ha := acc_bound s k hlt
        by_cases hneg : dvi (bt s k) < 0
        · have B := hide (rd_bad (bad_hex (hex_not k hlt hneg)))
          clear hok
          go_wp2_with fail
          rw [unhide hb]
          refine (ib_any _ _ hl).mono ?_
          rintro e w' ⟨rfl, rfl⟩
          go_wp2
          go_ret2
          exact ⟨ret_read (unhide B).1 (unhide B).2, rfl⟩
        · have HA := hide (acc_step s k (by omega))
          have HO : Hid (okd s (k + 1)) := by
            show okd s (k + 1)
            intro j hj
            by_cases e : j = k
            · subst e; omega
            · exact hok j (by omega)
          clear hok
          go_wp2_with fail
          rw [unhide hb]
          refine (ib_any _ _ hl).mono ?_
          rintro e w' ⟨rfl, rfl⟩
          go_wp2
          go_round
          case rel => exact ⟨k + 1, by omega, by go_num, by rw [unhide HA], unhide HO⟩
          case measure => simp [intOf]; omega
      · have e : k = 16 := by omega
        subst e
        have HH := hex_of (unhide H16) hok
        clear hok
        cases hn : FM.nan (acc s 16)
        · have B := hide (rd_good (s := s) (by unfold good; rw [HH, hn]; rfl))
          clear HH
          go_wp2_with (go_at_call 42; refine (isnan_any _ _).mono ?_; rintro e w' ⟨rfl, rfl⟩)
          go_ret2
          exact ⟨ret_read (unhide B).1 (unhide B).2, rfl⟩
        · cases hq : (((acc s 16 : Nat) : Int) != 9221120237041090561)
          · have B := hide (rd_good (s := s) (by unfold good; rw [HH, hn, decide_eq_true (by simp at hq; omega)]; rfl))
            clear HH
            go_wp2_with (go_at_call 42; refine (isnan_any _ _).mono ?_; rintro e w' ⟨rfl, rfl⟩)
            go_ret2
            exact ⟨ret_read (unhide B).1 (unhide B).2, rfl⟩
          · have B := hide (rd_bad (s := s) (by unfold good; rw [HH, hn, decide_eq_false (by simp at hq; omega)]; rfl))
            clear HH
            go_wp2_with (go_at_call 42; refine (isnan_any _ _).mono ?_; rintro e w' ⟨rfl, rfl⟩)
            go_ret2
            exact ⟨ret_read (unhide B).1 (unhide B).2, rfl⟩
  · have e1 : ((s.size : Int) != 16) = true := by simp; omega
    have B := hide (rd_bad (bad_hex (hex_size h16)))
    clear h16
    go_enter Try.func39, Try.ntmps39
    go_wp2
    go_ret2
    exact ⟨ret_read (unhide B).1 (unhide B).2, rfl⟩

/-- the document's text, digit by digit -/
def tl (y : Nat) : Nat → List UInt8
  | 0 => []
  | k + 1 => UInt8.ofNat (hexd (y / 16 ^ k % 16)).toNat :: tl y k

theorem tl_text (y : Nat) : ({ data := (tl y 16).toArray } : ByteArray) = strOfNums (textL y) := by
  have e : (strOfNums (textL y)).data.toList = tl y 16 := by
    rw [strOfNums_data]
    simp [textL, tl, List.range, List.range.loop]
  calc ({ data := (tl y 16).toArray } : ByteArray) = ⟨(strOfNums (textL y)).data.toList.toArray⟩ := by rw [e]
    _ = strOfNums (textL y) := by simp

theorem tl_len (y k : Nat) : (tl y k).length = k := by
  induction k with
  | zero => rfl
  | succ k ih => rw [tl, List.length_cons, ih]

theorem hex_cut (n : Nat) (h : n < 16) (l : List UInt8) :
    (({ data := #[48, 49, 50, 51, 52, 53, 54, 55, 56, 57, 97, 98, 99, 100, 101, 102] } : ByteArray).extract n (n + 1) ++ ({ data := l.toArray } : ByteArray)) = ({ data := (UInt8.ofNat (hexd n).toNat :: l).toArray } : ByteArray) := by
  have key : ∀ m : Fin 16, ({ data := #[48, 49, 50, 51, 52, 53, 54, 55, 56, 57, 97, 98, 99, 100, 101, 102] } : ByteArray).extract m.val (m.val + 1) = ({ data := #[UInt8.ofNat (hexd m.val).toNat] } : ByteArray) := by decide +kernel
  rw [key ⟨n, h⟩]
  ext1
  simp [ByteArray.data_append]

set_option maxHeartbeats 1000000 in
theorem reftext_any (x : Nat) (w : World) (hx : FM.one x < 18446744073709551616) :
    Calls Try.prog 38 #[.float .f64 x] w fun e w' => e = .returned (.string (strOfNums (textL (FM.one x)))) ∧ w' = w := by
  go_enter Try.func38, Try.ntmps38
  go_wp2_with (go_at_call 12; refine (refone_any _ _).mono ?_; rintro e w' ⟨rfl, rfl⟩)
  go_loop [3, 4, 5] (fun t s i => ∃ k : Nat, k ≤ 16 ∧ i = .int .i64 k ∧ t = .int .u64 ((FM.one x / 16 ^ k : Nat) : Int) ∧ s = .string { data := (tl (FM.one x) k).toArray }) (fun _ _ i => 16 - (intOf i).toNat)
  case atStart => exact ⟨0, by omega, rfl, by simp, rfl⟩
  case round =>
    obtain ⟨k, hk, rfl, rfl, rfl⟩ := hrel
    by_cases hlt : k < 16
    · have HY := hide (show FM.one x / 16 ^ (k + 1) = FM.one x / 16 ^ k / 16 by rw [Nat.pow_succ, Nat.div_div_eq_div_mul])
      have HT := hide ((hex_cut _ (Nat.mod_lt _ (by omega)) _).trans (show _ = ({ data := (tl (FM.one x) (k + 1)).toArray } : ByteArray) from rfl))
      have hy : FM.one x / 16 ^ k ≤ FM.one x := Nat.div_le_self _ _
      have hl : (tl (FM.one x) k).length ≤ 16 := by rw [tl_len]; omega
      generalize FM.one x / 16 ^ k = y at *
      go_wp2
      go_round
      case rel => exact ⟨k + 1, by omega, by go_num, by rw [unhide HY]; go_num, congrArg Value.string (unhide HT)⟩
      case measure => simp [intOf]; omega
    · have e : k = 16 := by omega
      subst e
      have E := hide (tl_text (FM.one x))
      go_wp2
      go_ret
      exact ⟨congrArg (fun z => Ending.returned (.string z)) (unhide E), rfl⟩

end Go.Proofs.Ytifmkphdmfechaa
