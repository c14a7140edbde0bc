/- foremost, Least, Most: what they answer of any list in memory. -/
import Derived.Test.YtifmkphdmfechabLists
namespace Go.Proofs.Ytifmkphdmfechab
open Go.RowKit

/-- foremost's answer behind the first k places -/
def fore (zs : Nat → Nat) (side : Int) : Nat → Nat × Int
  | 0 => (9221120237041090561, -1)
  | k + 1 => if FM.cls (zs k) == 7 then fore zs side k
    else if (fore zs side k).2 < 0 then (zs k, (k : Int))
    else if ord (zs k) (fore zs side k).1 == side then (zs k, (k : Int)) else fore zs side k

theorem fore_lo (zs : Nat → Nat) (side : Int) (k : Nat) : -1 ≤ (fore zs side k).2 ∧ (fore zs side k).2 < k := by
  induction k with
  | zero => simp [fore]
  | succ k ih =>
    unfold fore
    split
    · omega
    · split
      · simp only; omega
      · split
        · simp only; omega
        · omega

theorem ret_two {a b : Nat} {p q : Int} (h : a = b) (h' : p = q) : Ending.returned (.tuple #[.float .f64 a, .int .i64 p]) = .returned (.tuple #[.float .f64 b, .int .i64 q]) := by rw [h, h']

theorem fore_nan {zs : Nat → Nat} {side : Int} {k : Nat} (h7 : (FM.cls (zs k) == 7) = true) : fore zs side (k + 1) = fore zs side k := by
  rw [fore, if_pos h7]
theorem fore_first {zs : Nat → Nat} {side : Int} {k : Nat} (h7 : (FM.cls (zs k) == 7) = false) (hp : (fore zs side k).2 < 0) : fore zs side (k + 1) = (zs k, (k : Int)) := by
  rw [fore, h7, if_neg Bool.false_ne_true, if_pos hp]
theorem fore_side {zs : Nat → Nat} {side : Int} {k : Nat} (h7 : (FM.cls (zs k) == 7) = false) (ho : (ord (zs k) (fore zs side k).1 == side) = true) : fore zs side (k + 1) = (zs k, (k : Int)) := by
  rw [fore, h7, if_neg Bool.false_ne_true, if_pos ho]; split <;> rfl
theorem fore_else {zs : Nat → Nat} {side : Int} {k : Nat} (h7 : (FM.cls (zs k) == 7) = false) (hp : ¬ (fore zs side k).2 < 0) (ho : (ord (zs k) (fore zs side k).1 == side) = false) : fore zs side (k + 1) = fore zs side k := by
  rw [fore, h7, if_neg Bool.false_ne_true, if_neg hp, ho, if_neg Bool.false_ne_true]

set_option maxHeartbeats 1000000 in
theorem foremost_any {a : Option Addr} {n cap : Nat} {zs : Nat → Nat} {side : Int} {w : World} (hR : Row w a n zs) (hn : n ≤ 281474976710656) :
    Calls Try.prog 21 #[.slice a n cap, .int .i64 side] w fun e w' =>
      e = .returned (.tuple #[.float .f64 (fore zs side n).1, .int .i64 (fore zs side n).2]) ∧ w' = w := by
  have HC := hide hR
  clear hR
  go_enter Try.func21, Try.ntmps21
  go_wp2_with (go_at_call 33; refine (thenan_any _).mono ?_; rintro e w' ⟨rfl, rfl⟩)
  go_loop [6, 7, 12] (fun f p i => ∃ k : Nat, k ≤ n ∧ i = .int .i64 k ∧ f = .float .f64 (fore zs side k).1 ∧ p = .int .i64 (fore zs side k).2) (fun _ _ i => n - (intOf i).toNat)
  case atStart => exact ⟨0, Nat.zero_le _, rfl, rfl, rfl⟩
  case round =>
    obtain ⟨k, hk, rfl, rfl, rfl⟩ := hrel
    by_cases hlt : k < n
    · obtain ⟨b, off, rfl, hb, hc⟩ := (unhide HC).at (by omega)
      have hck := hc k hlt
      clear hb
      have lo := fore_lo zs side k
      clear hc
      cases h7 : (FM.cls (zs k) == 7)
      · by_cases hp : (fore zs side k).2 < 0
        · have FS := hide (fore_first h7 hp)
          go_wp2_with (go_at_call 15; refine (class_any _ _).mono ?_; rintro e w' ⟨rfl, rfl⟩)
          go_round
          case rel => exact ⟨k + 1, by omega, by go_num, by rw [unhide FS], by rw [unhide FS]⟩
          case measure => simp [intOf]; omega
        · cases ho : (ord (zs k) (fore zs side k).1 == side)
          · have FS := hide (fore_else h7 hp ho)
            go_wp2_with (first | (go_at_call 15; refine (class_any _ _).mono ?_; rintro e w' ⟨rfl, rfl⟩) | (go_at_call 7; refine (order_any _ _ _).mono ?_; rintro e w' ⟨rfl, rfl⟩))
            go_round
            case rel => exact ⟨k + 1, by omega, by go_num, by rw [unhide FS], by rw [unhide FS]⟩
            case measure => simp [intOf]; omega
          · have FS := hide (fore_side h7 ho)
            go_wp2_with (first | (go_at_call 15; refine (class_any _ _).mono ?_; rintro e w' ⟨rfl, rfl⟩) | (go_at_call 7; refine (order_any _ _ _).mono ?_; rintro e w' ⟨rfl, rfl⟩))
            go_round
            case rel => exact ⟨k + 1, by omega, by go_num, by rw [unhide FS], by rw [unhide FS]⟩
            case measure => simp [intOf]; omega
      · have FS := hide (fore_nan (side := side) h7)
        go_wp2_with (go_at_call 15; refine (class_any _ _).mono ?_; rintro e w' ⟨rfl, rfl⟩)
        go_round
        case rel => exact ⟨k + 1, by omega, by go_num, by rw [unhide FS], by rw [unhide FS]⟩
        case measure => simp [intOf]; omega
    · have e : k = n := by omega
      subst e
      go_wp2
      go_ret2
      exact ⟨ret_two rfl rfl, rfl⟩

set_option maxHeartbeats 400000 in
theorem least_any {a : Option Addr} {n cap : Nat} {zs : Nat → Nat} {w : World} (hR : Row w a n zs) (hn : n ≤ 281474976710656) :
    Calls Try.prog 9 #[.slice a n cap] w fun e w' =>
      e = .returned (.tuple #[.float .f64 (fore zs (-1) n).1, .int .i64 (fore zs (-1) n).2]) ∧ w' = w := by
  have HC := hide hR
  clear hR
  go_enter Try.func9, Try.ntmps9
  go_wp2_with (go_at_call 21; refine (foremost_any (unhide HC) hn).mono ?_; rintro e w' ⟨rfl, rfl⟩)
  go_ret2
  exact ⟨ret_two rfl rfl, rfl⟩

set_option maxHeartbeats 400000 in
theorem most_any {a : Option Addr} {n cap : Nat} {zs : Nat → Nat} {w : World} (hR : Row w a n zs) (hn : n ≤ 281474976710656) :
    Calls Try.prog 10 #[.slice a n cap] w fun e w' =>
      e = .returned (.tuple #[.float .f64 (fore zs 1 n).1, .int .i64 (fore zs 1 n).2]) ∧ w' = w := by
  have HC := hide hR
  clear hR
  go_enter Try.func10, Try.ntmps10
  go_wp2_with (go_at_call 21; refine (foremost_any (unhide HC) hn).mono ?_; rintro e w' ⟨rfl, rfl⟩)
  go_ret2
  exact ⟨ret_two rfl rfl, rfl⟩

end Go.Proofs.Ytifmkphdmfechab
