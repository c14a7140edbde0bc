/- The reader: what is read off bytes. -/
import Derived.Test.YtgheaieghoekhaaDoorEf
import Derived.Laws.IdiomStrings
namespace Go.Proofs.YtgheaieghoekhaaDoor
open Go.RowKit

/-- block R holds what is left -/
def Rd (R : Nat) (l : List UInt8) (w : World) : Prop := ∃ s : ByteArray, s.data.toList = l ∧ w.heap[R]? = some (.cells #[.string s] 67 (0, 0))

theorem Rd.lt {R : Nat} {l : List UInt8} {w : World} (h : Rd R l w) : R < w.heap.size := by
  obtain ⟨s, _, h⟩ := h
  exact (Array.getElem?_eq_some_iff.1 h).1
theorem Rd.below {R : Nat} {l : List UInt8} {w w' : World} (h : Rd R l w) (hb : Below w.heap.size w w') : Rd R l w' := by
  have hl := h.lt
  obtain ⟨s, h1, h2⟩ := h
  exact ⟨s, h1, (hb.block R hl).trans h2⟩

theorem size_list (s : ByteArray) : s.size = s.data.toList.length := by rw [Array.length_toList]; rfl

set_option maxHeartbeats 1000000 in
theorem need_ok (v : Value) (w : World) : Calls Tryd.prog 23 #[v, .bool true] w fun e w' => e = .returned (.tuple #[]) ∧ w' = w := by
  go_enter Tryd.func23, Tryd.ntmps23
  go_wp2
  go_end0
  exact ⟨rfl, rfl⟩

/-- giving up -/
abbrev gaveUp : Ending := .panicked [{ v := .iface 88 (.agg #[]), recovered := false }]

set_option maxHeartbeats 1000000 in
theorem need_no (v : Value) (w : World) : Calls Tryd.prog 23 #[v, .bool false] w fun e w' => e = gaveUp ∧ w' = w := by
  go_enter Tryd.func23, Tryd.ntmps23
  go_wp2
  exact ⟨rfl, rfl, rfl⟩

set_option maxHeartbeats 1000000 in
theorem bytes_is {R : Nat} {l : List UInt8} {w : World} (h : Rd R l w) (n : Nat) {n' : Int} (en : n' = (n : Int)) (hn : n ≤ l.length) :
    Calls Tryd.prog 36 #[.pointer (some ⟨R, 0, none⟩), .int .i64 n'] w fun e w' => (∃ t : ByteArray, t.data.toList = l.take n ∧ e = .returned (.string t)) ∧ Rd R (l.drop n) w' ∧ Keep R w w' := by
  subst en
  obtain ⟨s, h1, h2⟩ := h
  have c0 : w.cell? ⟨R, 0, none⟩ = some (.string s) := by rw [Lib.cell_of_heap h2]; rfl
  have f0 : w.frozen? ⟨R, 0, none⟩ = false := Lib.frozen_of_heap h2 0
  have hs : s.size = l.length := by rw [size_list, h1]
  have hn2 : n ≤ s.size := by omega
  have q : decide ((n : Int) ≤ (s.size : Int)) = true := by simp; omega
  have H2 := hide h2
  have H1 := hide h1
  have HS := hide hs
  clear h1 h2 hs
  go_enter Tryd.func36, Tryd.ntmps36
  go_wp2_with (go_at_call 23; refine (need_ok _ _).mono ?_; rintro e w' ⟨rfl, rfl⟩)
  go_ret
  refine ⟨⟨_, ?_, rfl⟩, ⟨s.extract n s.size, ?_, ?_⟩, (Keep.of_below (Below.refl _ _)).set _ _⟩
  · rw [ByteArray.data_extract, Array.toList_extract, List.extract_eq_take_drop, List.drop_zero, Nat.sub_zero, unhide H1]
  · rw [ext_list, unhide H1]
  · have h2 := unhide H2
    simp [World.setCell, Array.getElem?_modify, h2]

/-- the number that these bytes are, the highest one first -/
def bval (l : List UInt8) : Nat := l.foldl (fun n b => n * 256 + b.toNat) 0

theorem bval_snoc (l : List UInt8) (b : UInt8) : bval (l ++ [b]) = bval l * 256 + b.toNat := by unfold bval; rw [List.foldl_append]; rfl

theorem bval_from (l : List UInt8) : ∀ n, l.foldl (fun n b => n * 256 + b.toNat) n < (n + 1) * 256 ^ l.length := by
  induction l with
  | nil => intro n; simp
  | cons b l ih =>
    intro n
    have h := ih (n * 256 + b.toNat)
    have hb := b.toNat_lt
    rw [List.foldl_cons, List.length_cons, Nat.pow_succ']
    refine Nat.lt_of_lt_of_le h ?_
    rw [← Nat.mul_assoc]
    exact Nat.mul_le_mul_right _ (by omega)
theorem bval_lt (l : List UInt8) : bval l < 256 ^ l.length := by
  have := bval_from l 0
  unfold bval
  simpa using this

theorem or_raw (x y : Int) : bits .or .i64 x y = IntKind.i64.wrap ((BitVec.ofInt 64 x ||| BitVec.ofInt 64 y).toNat : Int) := rfl
theorem wrap_eq (x : Int) : IntKind.i64.wrap x = wrap64 x := by rw [IntKind.wrap_i64]; unfold wrap64; rfl

theorem or64 (m b : Nat) (hm : m * 256 < 18446744073709551616) (hb : b < 256) : bits .or .i64 (wrap64 (wrap64 (m : Int) * 256)) (wrap64 (b : Int)) = wrap64 ((m * 256 + b : Nat) : Int) := by
  rw [or_raw, BitVec.toNat_or, BitVec.toNat_ofInt, BitVec.toNat_ofInt]
  have e1 : (wrap64 (wrap64 (m : Int) * 256) % ((2 ^ 64 : Nat) : Int)).toNat = 2 ^ 8 * m := by unfold wrap64; omega
  have e2 : (wrap64 (b : Int) % ((2 ^ 64 : Nat) : Int)).toNat = b := by unfold wrap64; omega
  rw [e1, e2, ← Nat.two_pow_add_eq_or_of_lt (by simpa using hb), wrap_eq, show 2 ^ 8 * m + b = m * 256 + b by omega]

theorem vint64 {a b : Int} (h : a = b) : Value.int .i64 a = Value.int .i64 b := by rw [h]

set_option maxHeartbeats 2000000 in
theorem number_is {R : Nat} {l : List UInt8} {w : World} (h : Rd R l w) (n : Nat) {n' : Int} (en : n' = (n : Int)) (hn : n ≤ l.length) (hn8 : n ≤ 8) :
    Calls Tryd.prog 37 #[.pointer (some ⟨R, 0, none⟩), .int .i64 n'] w fun e w' => e = .returned (.int .i64 (wrap64 (bval (l.take n)))) ∧ Rd R (l.drop n) w' ∧ Keep R w w' := by
  subst en
  have hcv := fun w s => run_bytes_of_string (P := Tryd.prog) w 9 73 5 s Tryd.underlying9 Tryd.underlying73 Tryd.underlying5
  have H := hide h
  clear h
  go_enter Tryd.func37, Tryd.ntmps37
  go_wp2_with fail
  refine (bytes_is (unhide H) n rfl hn).mono ?_
  rintro e w1 ⟨⟨t, ht, rfl⟩, hR1, hK1⟩
  have hts : t.size = n := by rw [size_list, ht, List.length_take]; omega
  have HT := hide ht
  have HR1 := hide hR1
  have HK1 := hide hK1
  have HTS := hide hts
  clear ht hR1 hK1 H hts
  go_wp2
  obtain ⟨cp, hcp⟩ : ∃ c, c = grownCap w1 t.size 0 5 := ⟨_, rfl⟩
  rw [← hcp]
  obtain ⟨W, hW⟩ : ∃ W, W = (w1.alloc (.cells (bytesRow t cp) 5 ((bytesRow t cp).size, (bytesRow t cp).size + 1))).drew := ⟨_, rfl⟩
  rw [← hW]
  have hc : ∀ k, (h : k < t.size) → W.cell? ⟨w1.heap.size, k, none⟩ = some (.int .u8 (t[k].toNat : Int)) := by
    intro k hk
    have hbk : W.heap[w1.heap.size]? = some (.cells (bytesRow t cp) 5 ((bytesRow t cp).size, (bytesRow t cp).size + 1)) := by rw [hW]; exact heap_new w1 _
    have hk' : k < t.data.size := hk
    simp only [World.cell?, hbk, bytesRow]
    rw [Array.getElem?_append_left (by simpa using hk'), Array.getElem?_map, Array.getElem?_eq_getElem hk']
    rfl
  have hbW : Below w1.heap.size w1 W := by rw [hW]; exact ((Below.refl _ _).alloc (Nat.le_refl _) _).drew
  have HBW := hide hbW
  have HC := hide hc
  clear hcv hcp hW hc hbW
  go_loop [5, 13] (fun v i => ∃ k : Nat, k ≤ t.size ∧ i = .int .i64 k ∧ v = .int .i64 (wrap64 (bval (t.data.toList.take k)))) (fun _ i => t.size - (intOf i).toNat)
  case atStart => exact ⟨0, Nat.zero_le _, rfl, by simp [bval, wrap64]⟩
  case round =>
    obtain ⟨k, hk, rfl, rfl⟩ := hrel
    by_cases hlt : k < t.size
    · have c1 := unhide HC k hlt
      have hts := take_by t k hlt
      have hkn : t.size ≤ 8 := by have := unhide HTS; omega
      have hbv := bval_lt (t.data.toList.take k)
      have hpk : (256 : Nat) ^ (t.data.toList.take k).length ≤ 256 ^ 7 := Nat.pow_le_pow_right (by decide) (Nat.le_trans (List.length_take_le _ _) (by omega))
      have ho := or64 (bval (t.data.toList.take k)) t[k].toNat (by omega) (UInt8.toNat_lt _)
      have HO := hide (ho.trans (show _ = wrap64 ((bval (t.data.toList.take (k + 1)) : Nat) : Int) by rw [hts, bval_snoc, ← by_at t k hlt]))
      clear hts ho hbv hpk
      go_wp2
      go_round
      case rel => exact ⟨k + 1, by omega, by go_num, vint64 (unhide HO)⟩
      case measure => simp [intOf]; omega
    · have e : k = t.size := by omega
      subst e
      go_wp2
      go_ret
      refine ⟨?_, (unhide HR1).below (unhide HBW), (unhide HK1).trans (Keep.of_below (unhide HBW))⟩
      rw [List.take_of_length_le (by rw [← size_list]; exact Nat.le_refl _), unhide HT]
      rfl

end Go.Proofs.YtgheaieghoekhaaDoor
