/- Sixteen digits and the number that they stand for: there and back; no program in it. -/
import Derived.Laws.BytesArg
import Derived.Laws.Externs
namespace Go.Proofs.Ytifmkphdmfechab

/-- a digit's byte -/
def hexd (n : Nat) : Int := if n < 10 then 48 + n else 87 + n

/-- the digits -/
def textL (y : Nat) : List Int := (List.range 16).map fun j => hexd (y / 16 ^ (15 - j) % 16)

/-- what a byte stands for; -1: no digit -/
def dvi (n : Nat) : Int := if 48 ≤ n ∧ n ≤ 57 then (n : Int) - 48 else if 97 ≤ n ∧ n ≤ 102 then (n : Int) - 87 else -1

/-- the byte at a place of a string -/
def bt (s : ByteArray) (k : Nat) : Nat := (s.data.toList.getD k 0).toNat

theorem bt_at (s : ByteArray) (k : Nat) (h : k < s.size) : s[k].toNat = bt s k := by
  unfold bt
  have h' : k < s.data.toList.length := by simpa using h
  rw [List.getD_eq_getElem?_getD, List.getElem?_eq_getElem h']
  rfl

theorem bt_lt (s : ByteArray) (k : Nat) : bt s k < 256 := UInt8.toNat_lt _

/-- the number that the first k digits stand for -/
def acc (s : ByteArray) : Nat → Nat
  | 0 => 0
  | k + 1 => 16 * acc s k + (dvi (bt s k)).toNat

theorem dvi_range (n : Nat) : -1 ≤ dvi n ∧ dvi n < 16 := by
  unfold dvi
  split
  · omega
  · split <;> omega

theorem acc_lt (s : ByteArray) (k : Nat) : acc s k < 16 ^ k := by
  induction k with
  | zero => simp [acc]
  | succ k ih =>
    have h := (dvi_range (bt s k)).2
    rw [acc, Nat.pow_succ]
    omega

/-- all of the first k are digits -/
def okd (s : ByteArray) (k : Nat) : Prop := ∀ j, j < k → 0 ≤ dvi (bt s j)

theorem hexd_dvi (n : Nat) (h : n < 16) : dvi (hexd n).toNat = n := by
  unfold hexd dvi
  split <;> (repeat' split) <;> omega

theorem dvi_hexd (n : Nat) (h : 0 ≤ dvi n) : hexd (dvi n).toNat = n := by
  by_cases h1 : 48 ≤ n ∧ n ≤ 57
  · have e : dvi n = (n : Int) - 48 := by unfold dvi; rw [if_pos h1]
    rw [e]; unfold hexd; rw [if_pos (by omega)]; omega
  · by_cases h2 : 97 ≤ n ∧ n ≤ 102
    · have e : dvi n = (n : Int) - 87 := by unfold dvi; rw [if_neg h1, if_pos h2]
      rw [e]; unfold hexd; rw [if_neg (by omega)]; omega
    · have e : dvi n = -1 := by unfold dvi; rw [if_neg h1, if_neg h2]
      omega

theorem hexd_range (n : Nat) (h : n < 16) : 48 ≤ hexd n ∧ hexd n ≤ 102 := by
  unfold hexd; split <;> omega

/-- the digits of what was accumulated are the digits -/
theorem acc_div (s : ByteArray) (k i : Nat) : acc s (k + i) / 16 ^ i = acc s k := by
  induction i with
  | zero => simp
  | succ i ih =>
    rw [← Nat.add_assoc, acc, Nat.pow_succ, Nat.mul_comm (16 ^ i), ← Nat.div_div_eq_div_mul]
    have h := dvi_range (bt s (k + i))
    rw [show (16 * acc s (k + i) + (dvi (bt s (k + i))).toNat) / 16 = acc s (k + i) by omega]
    exact ih

theorem acc_digit (s : ByteArray) (j : Nat) (h : j < 16) : acc s 16 / 16 ^ (15 - j) % 16 = (dvi (bt s j)).toNat := by
  have e : 16 = (j + 1) + (15 - j) := by omega
  have h1 := acc_div s (j + 1) (15 - j)
  rw [← e] at h1
  rw [h1, acc]
  have := dvi_range (bt s j)
  omega

theorem strOfNums_bt (l : List Int) (k : Nat) (h : k < l.length) (hr : 0 ≤ l.getD k 0 ∧ l.getD k 0 < 256) : bt (strOfNums l) k = (l.getD k 0).toNat := by
  unfold bt
  rw [strOfNums_data, List.getD_eq_getElem?_getD, List.getElem?_map, List.getElem?_eq_getElem h]
  rw [List.getD_eq_getElem?_getD, List.getElem?_eq_getElem h] at hr ⊢
  simp only [Option.map_some, Option.getD_some] at *
  rw [UInt8.toNat_ofNat_of_lt']
  show _ < 256
  omega

theorem textL_len (y : Nat) : (textL y).length = 16 := by simp [textL]
theorem textL_at (y j : Nat) (h : j < 16) : (textL y).getD j 0 = hexd (y / 16 ^ (15 - j) % 16) := by
  unfold textL
  rw [List.getD_eq_getElem?_getD, List.getElem?_map, List.getElem?_range h]
  rfl

theorem text_size (y : Nat) : (strOfNums (textL y)).size = 16 := by rw [strOfNums_size, textL_len]

theorem text_bt (y j : Nat) (h : j < 16) : bt (strOfNums (textL y)) j = (hexd (y / 16 ^ (15 - j) % 16)).toNat := by
  have hr := hexd_range (y / 16 ^ (15 - j) % 16) (Nat.mod_lt _ (by omega))
  rw [strOfNums_bt _ _ (by rw [textL_len]; exact h) (by rw [textL_at y j h]; omega), textL_at y j h]

theorem text_dvi (y j : Nat) (h : j < 16) : dvi (bt (strOfNums (textL y)) j) = ((y / 16 ^ (15 - j) % 16 : Nat) : Int) := by
  rw [text_bt y j h, hexd_dvi _ (Nat.mod_lt _ (by omega))]

theorem text_okd (y : Nat) : okd (strOfNums (textL y)) 16 := by
  intro j hj; rw [text_dvi y j hj]; omega

/-- (A) what was written is read -/
theorem text_acc (y : Nat) (hy : y < 18446744073709551616) : acc (strOfNums (textL y)) 16 = y := by
  have key : ∀ k, k ≤ 16 → acc (strOfNums (textL y)) k = y / 16 ^ (16 - k) := by
    intro k
    induction k with
    | zero => intro _; rw [acc, Nat.sub_zero, Nat.div_eq_of_lt (by omega)]
    | succ k ih =>
      intro hk
      rw [acc, ih (by omega), text_dvi y k (by omega), Int.toNat_natCast, show 16 - k = (15 - k) + 1 by omega, show 16 - (k + 1) = 15 - k by omega, Nat.pow_succ, ← Nat.div_div_eq_div_mul]
      omega
  have h := key 16 (Nat.le_refl _)
  rw [Nat.sub_self, Nat.pow_zero, Nat.div_one] at h
  exact h

/-- (B) sixteen digits are the text of their number -/
theorem text_of (s : ByteArray) (h : s.size = 16) (hd : okd s 16) : strOfNums (textL (acc s 16)) = s := by
  have e : (strOfNums (textL (acc s 16))).data.toList = s.data.toList := by
    apply List.ext_getElem
    · have h1 := text_size (acc s 16)
      simp only [ByteArray.size] at h1 h
      simp only [Array.length_toList]; omega
    · intro k h1 h2
      have hk : k < 16 := by simp only [ByteArray.size] at h; simp only [Array.length_toList] at h2; omega
      have a := text_bt (acc s 16) k hk
      rw [acc_digit s k hk, dvi_hexd _ (hd k hk)] at a
      unfold bt at a
      rw [List.getD_eq_getElem?_getD, List.getElem?_eq_getElem h1, List.getD_eq_getElem?_getD, List.getElem?_eq_getElem h2] at a
      simp only [Option.getD_some] at a
      exact UInt8.toNat_inj.1 (by simpa using a)
  calc strOfNums (textL (acc s 16)) = ⟨(strOfNums (textL (acc s 16))).data.toList.toArray⟩ := by simp
    _ = ⟨s.data.toList.toArray⟩ := by rw [e]
    _ = s := by simp

/-- where IndexByte finds a byte among the digits -/
theorem first_hex (n : Nat) (h : n < 256) : firstIdx { data := #[48, 49, 50, 51, 52, 53, 54, 55, 56, 57, 97, 98, 99, 100, 101, 102] } ((n : Int).toNat.toUInt8) = dvi n := by
  have key : ∀ m : Fin 256, firstIdx { data := #[48, 49, 50, 51, 52, 53, 54, 55, 56, 57, 97, 98, 99, 100, 101, 102] } ((m.val : Int).toNat.toUInt8) = dvi m.val := by decide +kernel
  exact key ⟨n, h⟩

end Go.Proofs.Ytifmkphdmfechab
