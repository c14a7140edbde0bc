/- Layer 12: a number's own text; the landed ring of texts, each call in one word. -/
import Derived.Test.YtfheeifllpnjaaaRd
import Derived.Test.YtfheeifllpnjaaaRcs
namespace Go.Proofs.Ytfheeifllpnjaaa
open Go.RowKit

def digs : ByteArray := ⟨#[48, 49, 50, 51, 52, 53, 54, 55, 56, 57]⟩
def dg (d : Nat) : ByteArray := digs.extract d (d + 1)
theorem dg_size {d : Nat} (h : d < 10) : (dg d).size = 1 := by
  unfold dg
  rw [ByteArray.size_extract]
  have : digs.size = 10 := rfl
  omega
def txs : Nat → ByteArray → Nat → ByteArray
  | 0, s, _ => s
  | k + 1, s, n => txs k (s ++ dg (n % 10)) (n / 10)
def tx4 (n : Nat) : ByteArray := txs 4 ⟨#[]⟩ n

set_option maxRecDepth 100000 in
set_option maxHeartbeats 2000000 in
theorem text_is (w : World) (n : Nat) (hn : n ≤ 10000) : Calls Try.prog 21 #[.int .i64 (n : Int)] w fun e w' => e = .returned (.string (tx4 n)) ∧ w' = w := by
  obtain ⟨X, hX⟩ : ∃ X, tx4 n = X := ⟨_, rfl⟩
  have HX := hide hX
  rw [hX]
  clear hX
  go_enter Try.func21, Try.ntmps21
  go_wp2
  go_loopw [0, 3, 4] (fun nv sv iv wr => ∃ (k m : Nat) (s : ByteArray), k ≤ 4 ∧ m ≤ 10000 ∧ s.size = k ∧ nv = .int .i64 (m : Int) ∧ sv = .string s ∧ iv = .int .i64 (k : Int) ∧ Hid (txs (4 - k) s m = X) ∧ wr = w) (fun _ _ iv _ => 4 - (intOf iv).toNat)
  case atStart => exact ⟨0, n, ⟨#[]⟩, Nat.zero_le _, hn, rfl, rfl, rfl, rfl, hide HX.out, rfl⟩
  case round =>
    obtain ⟨k, m, s, hk, hm, hs, rfl, rfl, rfl, HE, rfl⟩ := hrel
    by_cases hlt : k < 4
    · have q1 : decide ((k : Int) < 4) = true := decide_eq_true (by omega)
      have HE2 := hide (show txs (4 - (k + 1)) (s ++ dg (m % 10)) (m / 10) = X by
        have := HE.out
        rw [show 4 - k = (4 - (k + 1)) + 1 by omega] at this
        exact this)
      obtain ⟨d, hd⟩ : ∃ d, m % 10 = d := ⟨_, rfl⟩
      obtain ⟨r, hr⟩ : ∃ r, m / 10 = r := ⟨_, rfl⟩
      have hd10 : d < 10 := by omega
      have e1 : (m : Int).tmod 10 = (d : Int) := by rw [Int.tmod_eq_emod_of_nonneg (by omega)]; omega
      have e2 : (m : Int).tdiv 10 = (r : Int) := by rw [Int.tdiv_eq_ediv_of_nonneg (by omega)]; omega
      have hr1 : r ≤ 10000 := by omega
      rw [hd, hr] at HE2
      have hsz := dg_size hd10
      have hsb : ¬ 9223372036854775807 < s.size + (min (d + 1) 10 - d) := by omega
      have hs2 : (s ++ dg d).size = k + 1 := by rw [ByteArray.size_append, hs, hsz]
      have HS2 := hide hs2
      clear hd hr hs hs2 hsz HE
      go_wp2
      go_roundw
      case rel => exact ⟨k + 1, r, _, by omega, hr1, HS2.out, rfl, rfl, by go_num, HE2, trivial⟩
      case measure => simp [intOf]; omega
    · have q1 : decide ((k : Int) < 4) = false := decide_eq_false (by omega)
      obtain rfl : k = 4 := by omega
      go_wp2
      go_ret
      exact ⟨by rw [← HE.out]; rfl, rfl⟩

end Go.Proofs.Ytfheeifllpnjaaa
