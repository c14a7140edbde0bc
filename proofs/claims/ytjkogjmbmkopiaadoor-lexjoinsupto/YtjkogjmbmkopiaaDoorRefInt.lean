/- Int, of the document. -/
import Derived.Test.YtjkogjmbmkopiaaDoorRefParse
import Derived.Lib.ItoaLen
namespace Go.Proofs.YtjkogjmbmkopiaaDoor
open Go.RowKit

/-- what is told so far: the last digits l, and what is left -/
def Rest (N m : Nat) (l : List UInt8) : Prop := (m = 0 ∧ l = Lib.decDigits N) ∨ (1 ≤ m ∧ Lib.decDigits m ++ l = Lib.decDigits N)

theorem rest_start {N : Nat} (h : 1 ≤ N) : Rest N N [] := Or.inr ⟨h, List.append_nil _⟩
theorem rest_end {N : Nat} {l : List UInt8} (h : Rest N 0 l) : l = Lib.decDigits N := by
  rcases h with ⟨_, h⟩ | ⟨h, _⟩
  · exact h
  · omega
theorem rest_len {N m : Nat} {l : List UInt8} (h : Rest N m l) : l.length ≤ (Lib.decDigits N).length := by
  rcases h with ⟨_, h⟩ | ⟨_, h⟩
  · rw [h]; exact Nat.le_refl _
  · rw [← h, List.length_append]; omega
theorem rest_step {N m : Nat} {l : List UInt8} (h : Rest N m l) (hm : 1 ≤ m) : Rest N (m / 10) (UInt8.ofNat (48 + m % 10) :: l) := by
  rcases h with ⟨h, _⟩ | ⟨_, h⟩
  · omega
  · rw [Lib.decDigits] at h
    by_cases h10 : m < 10
    · rw [dif_pos h10] at h
      left
      refine ⟨by omega, ?_⟩
      rw [show m % 10 = m from by omega]
      exact h
    · rw [dif_neg h10] at h
      right
      refine ⟨by omega, ?_⟩
      rw [← h, List.append_assoc]
      rfl

theorem dec_len (n : Int) (h0 : -9223372036854775808 ≤ n) (h1 : n ≤ 9223372036854775807) : (Lib.decDigits n.natAbs).length ≤ 21 := by
  have h := Lib.itoa_length_le n h0 h1
  unfold Lib.itoa at h
  by_cases hn : n < 0
  · rw [if_pos hn, List.length_cons] at h; omega
  · rw [if_neg hn, show n.toNat = n.natAbs from by omega] at h; exact h

theorem conv_one (w : World) (m : Nat) : (convert 63 9 (.slice (some ⟨w.heap.size, 0, none⟩) 1 1)).run Tryd.prog (w.alloc (.cells #[.int .u8 (48 + (m : Int) % 10)] 5)) = .ok (.string ⟨#[UInt8.ofNat (48 + m % 10)]⟩) (w.alloc (.cells #[.int .u8 (48 + (m : Int) % 10)] 5)) := by
  refine run_convert_bytes_back _ 63 9 5 ⟨w.heap.size, 0, none⟩ 1 [UInt8.ofNat (48 + m % 10)] Tryd.underlying63 Tryd.underlying5 Tryd.underlying9 ?_
  intro j hj
  have e : j = 0 := by simp at hj; omega
  subst e
  simp only [List.getElem_cons_zero]
  rw [toNat_digit (m % 10) (by omega)]
  simp [Addr.add]

theorem conv_zero (w : World) : (convert 63 9 (.slice (some ⟨w.heap.size, 0, none⟩) 1 1)).run Tryd.prog (w.alloc (.cells #[.int .u8 48] 5)) = .ok (.string ⟨#[48]⟩) (w.alloc (.cells #[.int .u8 48] 5)) :=
  conv_one w 0

theorem cat_one (c : UInt8) (l : List UInt8) : (⟨#[c]⟩ : ByteArray) ++ (⟨l.toArray⟩ : ByteArray) = ⟨(c :: l).toArray⟩ := by
  ext1
  simp [ByteArray.data_append]

theorem cat_dig (m : Nat) (l : List UInt8) : Value.string ((⟨#[48 + UInt8.ofNat (m % 10)]⟩ : ByteArray) ++ (⟨l.toArray⟩ : ByteArray)) = Value.string ⟨(UInt8.ofNat (48 + m % 10) :: l).toArray⟩ := by
  rw [← cat_one, UInt8.ofNat_add]
  rfl
theorem cat_zero (m : Nat) (h : m % 10 = 0) (l : List UInt8) : Value.string ((⟨#[48]⟩ : ByteArray) ++ (⟨l.toArray⟩ : ByteArray)) = Value.string ⟨(UInt8.ofNat (48 + m % 10) :: l).toArray⟩ := by
  rw [← cat_one, h]
  rfl

set_option maxRecDepth 100000 in
set_option maxHeartbeats 1000000 in
theorem refint_pos (N : Nat) (hN : 1 ≤ N) (h1 : N ≤ 9223372036854775807) (w : World) :
    Calls Tryd.prog 31 #[.int .i64 ((N : Int))] w fun e w' => e = .returned (.string ⟨(Lib.itoa ((N : Int))).toArray⟩) ∧ Below w.heap.size w w' := by
  have hl := dec_len ((N : Int)) (by omega) (by omega)
  rw [Int.natAbs_natCast] at hl
  have q0 : (((N : Int)) == 0) = false := beq_false_of_ne (by omega)
  have qn : decide (((N : Int)) < 0) = false := decide_eq_false (by omega)
  have HS := hide (rest_start hN)
  go_enter Tryd.func31, Tryd.ntmps31
  go_wp2
  go_loopw [0, 4] (fun n o wr => ∃ (m : Nat) (l : List UInt8), n = .int .i64 ((m : Int)) ∧ m ≤ N ∧ o = .string ⟨l.toArray⟩ ∧ Rest N m l ∧ Below w.heap.size w wr) (fun n _ _ => (intOf n).natAbs)
  case atStart => exact ⟨N, [], rfl, Nat.le_refl _, rfl, unhide HS, Below.refl _ _⟩
  case round =>
    obtain ⟨m, l, rfl, hmN, rfl, hR, hB⟩ := hrel
    have hll := rest_len hR
    by_cases hm : m = 0
    · have EI : Hid ((⟨l.toArray⟩ : ByteArray) = ⟨(Lib.itoa ((N : Int))).toArray⟩) := hide (by subst hm; rw [Lib.itoa_nonneg, rest_end hR])
      have qm : (((m : Int)) != 0) = false := by rw [hm]; rfl
      have HB := hide hB
      clear hR hB HS hm
      go_wp2
      go_ret
      exact ⟨congrArg (fun z => Ending.returned (.string z)) (unhide EI), unhide HB⟩
    · have qm : (((m : Int)) != 0) = true := by simp; omega
      have N1 := hide (rest_step hR (by omega))
      have hcv := conv_one wr m
      have CT := hide (cat_dig m l)
      have HB := hide (hB.alloc hB.size (.cells #[.int .u8 (48 + (m : Int) % 10)] 5))
      clear hR hB HS
      go_wp2
      go_roundw
      case rel => exact ⟨m / 10, _, by go_num, by omega, unhide CT, unhide N1, unhide HB⟩
      case measure => simp [intOf]; omega

set_option maxRecDepth 100000 in
set_option maxHeartbeats 1000000 in
theorem refint_neg (N : Nat) (hN : 1 ≤ N) (h1 : N ≤ 9223372036854775808) (w : World) :
    Calls Tryd.prog 31 #[.int .i64 (-(N : Int))] w fun e w' => e = .returned (.string ⟨(Lib.itoa (-(N : Int))).toArray⟩) ∧ Below w.heap.size w w' := by
  have hl := dec_len (-(N : Int)) (by omega) (by omega)
  rw [Int.natAbs_neg, Int.natAbs_natCast] at hl
  have q0 : ((-(N : Int)) == 0) = false := beq_false_of_ne (by omega)
  have qn : decide ((-(N : Int)) < 0) = true := decide_eq_true (by omega)
  have HS := hide (rest_start hN)
  go_enter Tryd.func31, Tryd.ntmps31
  go_wp2
  go_loopw [0, 4] (fun n o wr => ∃ (m : Nat) (l : List UInt8), n = .int .i64 (-(m : Int)) ∧ m ≤ N ∧ o = .string ⟨l.toArray⟩ ∧ Rest N m l ∧ Below w.heap.size w wr) (fun n _ _ => (intOf n).natAbs)
  case atStart => exact ⟨N, [], rfl, Nat.le_refl _, rfl, unhide HS, Below.refl _ _⟩
  case round =>
    obtain ⟨m, l, rfl, hmN, rfl, hR, hB⟩ := hrel
    have hll := rest_len hR
    by_cases hm : m = 0
    · have EI : Hid ((⟨#[45]⟩ : ByteArray) ++ (⟨l.toArray⟩ : ByteArray) = ⟨(Lib.itoa (-(N : Int))).toArray⟩) := hide (by subst hm; rw [Lib.itoa_neg N hN, rest_end hR, cat_one])
      have qm : ((-(m : Int)) != 0) = false := by rw [hm]; rfl
      have HB := hide hB
      clear hR hB HS hm
      go_wp2
      go_ret
      exact ⟨congrArg (fun z => Ending.returned (.string z)) (unhide EI), unhide HB⟩
    · have qm : ((-(m : Int)) != 0) = true := by simp; omega
      have N1 := hide (rest_step hR (by omega))
      have hcv := conv_one wr m
      have CT := hide (cat_dig m l)
      have HB := hide (hB.alloc hB.size (.cells #[.int .u8 (48 + (m : Int) % 10)] 5))
      clear hR hB HS
      have ht : Int.tmod (-(m : Int)) 10 = -((m : Int) % 10) := by rw [Int.neg_tmod, Int.tmod_eq_emod_of_nonneg (by omega)]
      have hd : Int.tdiv (-(m : Int)) 10 = -((m : Int) / 10) := by rw [Int.neg_tdiv, Int.tdiv_eq_ediv_of_nonneg (by omega)]
      by_cases hx : m % 10 = 0
      · have hx2 : (m : Int) % 10 = 0 := by omega
        have hcv0 := conv_zero wr
        have CZ := hide (cat_zero m hx l)
        have HB0 : Hid (Below w.heap.size w (wr.alloc (.cells #[.int .u8 48] 5))) := by rw [hx2] at HB; exact HB
        clear hcv HB
        go_wp2
        go_roundw
        case rel => exact ⟨m / 10, _, by go_num, by omega, unhide CZ, unhide N1, unhide HB0⟩
        case measure => simp [intOf]; omega
      · have hx2 : 0 < (m : Int) % 10 := by omega
        go_wp2
        go_roundw
        case rel => exact ⟨m / 10, _, by go_num, by omega, unhide CT, unhide N1, unhide HB⟩
        case measure => simp [intOf]; omega

set_option maxRecDepth 100000 in
set_option maxHeartbeats 1000000 in
theorem refint_any (n : Int) (h0 : -9223372036854775808 ≤ n) (h1 : n ≤ 9223372036854775807) (w : World) :
    Calls Tryd.prog 31 #[.int .i64 n] w fun e w' => e = .returned (.string ⟨(Lib.itoa n).toArray⟩) ∧ Below w.heap.size w w' := by
  rcases Int.lt_trichotomy n 0 with h | h | h
  · obtain ⟨N, rfl⟩ : ∃ N : Nat, n = -(N : Int) := ⟨n.natAbs, by omega⟩
    exact refint_neg N (by omega) (by omega) w
  · subst h
    have E : Hid ((⟨#[48]⟩ : ByteArray) = ⟨(Lib.itoa 0).toArray⟩) := hide (by rw [show Lib.itoa 0 = Lib.decDigits 0 from Lib.itoa_nonneg 0, dec_zero])
    clear h0 h1
    go_enter Tryd.func31, Tryd.ntmps31
    go_wp2
    go_ret
    exact ⟨congrArg (fun z => Ending.returned (.string z)) (unhide E), Below.refl _ _⟩
  · obtain ⟨N, rfl⟩ : ∃ N : Nat, n = (N : Int) := ⟨n.natAbs, by omega⟩
    exact refint_pos N (by omega) (by omega) w

end Go.Proofs.YtjkogjmbmkopiaaDoor
