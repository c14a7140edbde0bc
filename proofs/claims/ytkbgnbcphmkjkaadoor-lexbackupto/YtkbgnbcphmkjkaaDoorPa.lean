/- The program's lexer: letters, digits, signs, what calls for a semicolon. -/
import Derived.Test.YtkbgnbcphmkjkaaDoorLxC
namespace Go.Proofs.YtkbgnbcphmkjkaaDoor
open Go.RowKit

set_option maxHeartbeats 1000000 in
theorem lexletter_any (n : Nat) (w : World) :
    Calls Tryd.prog 27 #[.int .u8 (n : Int)] w fun e w' => e = .returned (.bool (letter n)) ∧ w' = w := by
  by_cases h1 : n < 65
  · have E := hide (show false = letter n by unfold letter; simp; omega)
    go_enter Tryd.func27, Tryd.ntmps27
    go_wp2
    go_ret
    exact ⟨ret_bool (Eq.trans (by first | rfl | (simp; done) | (simp; omega)) (unhide E)), rfl⟩
  by_cases h2 : n ≤ 90
  · have E := hide (show true = letter n by unfold letter; simp; omega)
    go_enter Tryd.func27, Tryd.ntmps27
    go_wp2
    go_ret
    exact ⟨ret_bool (Eq.trans (by first | rfl | (simp; done) | (simp; omega)) (unhide E)), rfl⟩
  by_cases h3 : n < 97
  · by_cases h4 : n = 95
    · subst h4
      go_enter Tryd.func27, Tryd.ntmps27
      go_wp2
      go_ret
      exact ⟨rfl, rfl⟩
    · have E := hide (show false = letter n by unfold letter; simp; omega)
      have h5 : ((n : Int) == 95) = false := by simp; omega
      clear h4
      go_enter Tryd.func27, Tryd.ntmps27
      go_wp2
      go_ret
      exact ⟨ret_bool (Eq.trans (by first | rfl | (simp; done) | (simp; omega)) (unhide E)), rfl⟩
  by_cases h4 : n ≤ 122
  · have E := hide (show true = letter n by unfold letter; simp; omega)
    go_enter Tryd.func27, Tryd.ntmps27
    go_wp2
    go_ret
    exact ⟨ret_bool (Eq.trans (by first | rfl | (simp; done) | (simp; omega)) (unhide E)), rfl⟩
  · have E := hide (show false = letter n by unfold letter; simp; omega)
    have h5 : ((n : Int) == 95) = false := by simp; omega
    go_enter Tryd.func27, Tryd.ntmps27
    go_wp2
    go_ret
    exact ⟨ret_bool (Eq.trans (by first | rfl | (simp; done) | (simp; omega)) (unhide E)), rfl⟩

set_option maxHeartbeats 1000000 in
theorem lexdigit_any (n : Nat) (w : World) :
    Calls Tryd.prog 29 #[.int .u8 (n : Int)] w fun e w' => e = .returned (.bool (digit n)) ∧ w' = w := by
  by_cases h1 : n < 48
  · have E := hide (show false = digit n by unfold digit; simp; omega)
    go_enter Tryd.func29, Tryd.ntmps29
    go_wp2
    go_ret
    exact ⟨ret_bool (Eq.trans (by first | rfl | (simp; done) | (simp; omega)) (unhide E)), rfl⟩
  by_cases h2 : n ≤ 57
  · have E := hide (show true = digit n by unfold digit; simp; omega)
    go_enter Tryd.func29, Tryd.ntmps29
    go_wp2
    go_ret
    exact ⟨ret_bool (Eq.trans (by first | rfl | (simp; done) | (simp; omega)) (unhide E)), rfl⟩
  · have E := hide (show false = digit n by unfold digit; simp; omega)
    go_enter Tryd.func29, Tryd.ntmps29
    go_wp2
    go_ret
    exact ⟨ret_bool (Eq.trans (by first | rfl | (simp; done) | (simp; omega)) (unhide E)), rfl⟩

set_option maxHeartbeats 1000000 in
theorem lexsigns_any (w : World) :
    Calls Tryd.prog 9 #[] w fun e w' => e = .returned (.slice (some ⟨w.heap.size, 0, none⟩) 27 27) ∧ w' = w.alloc (.cells (strCs sgl) 9) := by
  go_enter Tryd.func9, Tryd.ntmps9
  go_wp2
  go_ret
  exact ⟨rfl, rfl⟩

theorem eqb (t : ByteArray) (l : List UInt8) : (t.toList == l) = decide (t.data.toList = l) := by
  rw [ByteArray.toList_eq, Bool.eq_iff_iff, beq_iff_eq, decide_eq_true_eq]

/-- does a text begin so? -/
def pfx (p s : List UInt8) : Bool := p.isPrefixOf s

/-- the kind of a sign -/
def sgk (l : List UInt8) : Int := if l = [59] then 6 else 5

set_option maxHeartbeats 1000000 in
theorem signkind_any (s : ByteArray) (w : World) :
    Calls Tryd.prog 21 #[.string s] w fun e w' => e = .returned (.int .i64 (sgk s.data.toList)) ∧ w' = w := by
  have q := eqb s [59]
  by_cases h : s.data.toList = [59]
  · rw [decide_eq_true h] at q
    have E := hide (show 6 = sgk s.data.toList by unfold sgk; rw [if_pos h])
    clear h
    go_enter Tryd.func21, Tryd.ntmps21
    go_wp2
    go_ret
    exact ⟨ret_int (unhide E), rfl⟩
  · rw [decide_eq_false h] at q
    have E := hide (show 5 = sgk s.data.toList by unfold sgk; rw [if_neg h])
    clear h
    go_enter Tryd.func21, Tryd.ntmps21
    go_wp2
    go_ret
    exact ⟨ret_int (unhide E), rfl⟩

set_option maxHeartbeats 1000000 in
theorem semi_word (t : ByteArray) (n a l : Int) (w : World) :
    Calls Tryd.prog 33 #[tokV 2 t n a l] w fun e w' => e = .returned (.bool (callsK 2 t.data.toList)) ∧ Below w.heap.size w w' := by
  unfold tokV
  have ek : callsK 2 t.data.toList = has callW t.data.toList := rfl
  have q0 := eqb t [98, 114, 101, 97, 107]
  by_cases h0 : t.data.toList = [98, 114, 101, 97, 107]
  · rw [decide_eq_true h0] at q0
    have E := hide (show true = callsK 2 t.data.toList by rw [h0]; decide)
    clear ek h0
    go_enter Tryd.func33, Tryd.ntmps33
    go_wp2
    go_ret
    exact ⟨ret_bool (unhide E), (Below.refl w.heap.size w).alloc (Nat.le_refl _) _⟩
  rw [decide_eq_false h0] at q0
  have q1 := eqb t [99, 111, 110, 116, 105, 110, 117, 101]
  by_cases h1 : t.data.toList = [99, 111, 110, 116, 105, 110, 117, 101]
  · rw [decide_eq_true h1] at q1
    have E := hide (show true = callsK 2 t.data.toList by rw [h1]; decide)
    clear ek h0 h1
    go_enter Tryd.func33, Tryd.ntmps33
    go_wp2
    go_ret
    exact ⟨ret_bool (unhide E), (Below.refl w.heap.size w).alloc (Nat.le_refl _) _⟩
  rw [decide_eq_false h1] at q1
  have q2 := eqb t [114, 101, 116, 117, 114, 110]
  by_cases h2 : t.data.toList = [114, 101, 116, 117, 114, 110]
  · rw [decide_eq_true h2] at q2
    have E := hide (show true = callsK 2 t.data.toList by rw [h2]; decide)
    clear ek h0 h1 h2
    go_enter Tryd.func33, Tryd.ntmps33
    go_wp2
    go_ret
    exact ⟨ret_bool (unhide E), (Below.refl w.heap.size w).alloc (Nat.le_refl _) _⟩
  rw [decide_eq_false h2] at q2
  have q3 := eqb t [105, 110, 116]
  by_cases h3 : t.data.toList = [105, 110, 116]
  · rw [decide_eq_true h3] at q3
    have E := hide (show true = callsK 2 t.data.toList by rw [h3]; decide)
    clear ek h0 h1 h2 h3
    go_enter Tryd.func33, Tryd.ntmps33
    go_wp2
    go_ret
    exact ⟨ret_bool (unhide E), (Below.refl w.heap.size w).alloc (Nat.le_refl _) _⟩
  rw [decide_eq_false h3] at q3
  have q4 := eqb t [98, 111, 111, 108]
  by_cases h4 : t.data.toList = [98, 111, 111, 108]
  · rw [decide_eq_true h4] at q4
    have E := hide (show true = callsK 2 t.data.toList by rw [h4]; decide)
    clear ek h0 h1 h2 h3 h4
    go_enter Tryd.func33, Tryd.ntmps33
    go_wp2
    go_ret
    exact ⟨ret_bool (unhide E), (Below.refl w.heap.size w).alloc (Nat.le_refl _) _⟩
  rw [decide_eq_false h4] at q4
  have q5 := eqb t [77, 117, 116, 101, 120]
  by_cases h5 : t.data.toList = [77, 117, 116, 101, 120]
  · rw [decide_eq_true h5] at q5
    have E := hide (show true = callsK 2 t.data.toList by rw [h5]; decide)
    clear ek h0 h1 h2 h3 h4 h5
    go_enter Tryd.func33, Tryd.ntmps33
    go_wp2
    go_ret
    exact ⟨ret_bool (unhide E), (Below.refl w.heap.size w).alloc (Nat.le_refl _) _⟩
  rw [decide_eq_false h5] at q5
  have q6 := eqb t [87, 97, 105, 116, 71, 114, 111, 117, 112]
  by_cases h6 : t.data.toList = [87, 97, 105, 116, 71, 114, 111, 117, 112]
  · rw [decide_eq_true h6] at q6
    have E := hide (show true = callsK 2 t.data.toList by rw [h6]; decide)
    clear ek h0 h1 h2 h3 h4 h5 h6
    go_enter Tryd.func33, Tryd.ntmps33
    go_wp2
    go_ret
    exact ⟨ret_bool (unhide E), (Below.refl w.heap.size w).alloc (Nat.le_refl _) _⟩
  rw [decide_eq_false h6] at q6
  have q7 := eqb t [116, 114, 117, 101]
  by_cases h7 : t.data.toList = [116, 114, 117, 101]
  · rw [decide_eq_true h7] at q7
    have E := hide (show true = callsK 2 t.data.toList by rw [h7]; decide)
    clear ek h0 h1 h2 h3 h4 h5 h6 h7
    go_enter Tryd.func33, Tryd.ntmps33
    go_wp2
    go_ret
    exact ⟨ret_bool (unhide E), (Below.refl w.heap.size w).alloc (Nat.le_refl _) _⟩
  rw [decide_eq_false h7] at q7
  have q8 := eqb t [102, 97, 108, 115, 101]
  by_cases h8 : t.data.toList = [102, 97, 108, 115, 101]
  · rw [decide_eq_true h8] at q8
    have E := hide (show true = callsK 2 t.data.toList by rw [h8]; decide)
    clear ek h0 h1 h2 h3 h4 h5 h6 h7 h8
    go_enter Tryd.func33, Tryd.ntmps33
    go_wp2
    go_ret
    exact ⟨ret_bool (unhide E), (Below.refl w.heap.size w).alloc (Nat.le_refl _) _⟩
  rw [decide_eq_false h8] at q8
  have q9 := eqb t [110, 105, 108]
  by_cases h9 : t.data.toList = [110, 105, 108]
  · rw [decide_eq_true h9] at q9
    have E := hide (show true = callsK 2 t.data.toList by rw [h9]; decide)
    clear ek h0 h1 h2 h3 h4 h5 h6 h7 h8 h9
    go_enter Tryd.func33, Tryd.ntmps33
    go_wp2
    go_ret
    exact ⟨ret_bool (unhide E), (Below.refl w.heap.size w).alloc (Nat.le_refl _) _⟩
  rw [decide_eq_false h9] at q9
  have E := hide (show false = callsK 2 t.data.toList by
    rw [ek]
    unfold has callW
    simp [h0, h1, h2, h3, h4, h5, h6, h7, h8, h9])
  clear ek h0 h1 h2 h3 h4 h5 h6 h7 h8 h9
  go_enter Tryd.func33, Tryd.ntmps33
  go_wp2
  go_ret
  exact ⟨ret_bool (unhide E), (Below.refl w.heap.size w).alloc (Nat.le_refl _) _⟩

set_option maxHeartbeats 1000000 in
theorem semi_sign (t : ByteArray) (n a l : Int) (w : World) :
    Calls Tryd.prog 33 #[tokV 5 t n a l] w fun e w' => e = .returned (.bool (callsK 5 t.data.toList)) ∧ Below w.heap.size w w' := by
  unfold tokV
  have ek : callsK 5 t.data.toList = has callS t.data.toList := rfl
  have q0 := eqb t [41]
  by_cases h0 : t.data.toList = [41]
  · rw [decide_eq_true h0] at q0
    have E := hide (show true = callsK 5 t.data.toList by rw [h0]; decide)
    clear ek h0
    go_enter Tryd.func33, Tryd.ntmps33
    go_wp2
    go_ret
    exact ⟨ret_bool (unhide E), (Below.refl w.heap.size w).alloc (Nat.le_refl _) _⟩
  rw [decide_eq_false h0] at q0
  have q1 := eqb t [125]
  by_cases h1 : t.data.toList = [125]
  · rw [decide_eq_true h1] at q1
    have E := hide (show true = callsK 5 t.data.toList by rw [h1]; decide)
    clear ek h0 h1
    go_enter Tryd.func33, Tryd.ntmps33
    go_wp2
    go_ret
    exact ⟨ret_bool (unhide E), (Below.refl w.heap.size w).alloc (Nat.le_refl _) _⟩
  rw [decide_eq_false h1] at q1
  have q2 := eqb t [43, 43]
  by_cases h2 : t.data.toList = [43, 43]
  · rw [decide_eq_true h2] at q2
    have E := hide (show true = callsK 5 t.data.toList by rw [h2]; decide)
    clear ek h0 h1 h2
    go_enter Tryd.func33, Tryd.ntmps33
    go_wp2
    go_ret
    exact ⟨ret_bool (unhide E), (Below.refl w.heap.size w).alloc (Nat.le_refl _) _⟩
  rw [decide_eq_false h2] at q2
  have q3 := eqb t [45, 45]
  by_cases h3 : t.data.toList = [45, 45]
  · rw [decide_eq_true h3] at q3
    have E := hide (show true = callsK 5 t.data.toList by rw [h3]; decide)
    clear ek h0 h1 h2 h3
    go_enter Tryd.func33, Tryd.ntmps33
    go_wp2
    go_ret
    exact ⟨ret_bool (unhide E), (Below.refl w.heap.size w).alloc (Nat.le_refl _) _⟩
  rw [decide_eq_false h3] at q3
  have E := hide (show false = callsK 5 t.data.toList by
    rw [ek]
    unfold has callS
    simp [h0, h1, h2, h3])
  clear ek h0 h1 h2 h3
  go_enter Tryd.func33, Tryd.ntmps33
  go_wp2
  go_ret
  exact ⟨ret_bool (unhide E), (Below.refl w.heap.size w).alloc (Nat.le_refl _) _⟩

set_option maxHeartbeats 1000000 in
theorem semi_any (k : Int) (t : ByteArray) (n a l : Int) (w : World) :
    Calls Tryd.prog 33 #[tokV k t n a l] w fun e w' => e = .returned (.bool (callsK k t.data.toList)) ∧ Below w.heap.size w w' := by
  by_cases h2 : k = 2
  · subst h2; exact semi_word t n a l w
  by_cases h5 : k = 5
  · subst h5; exact semi_sign t n a l w
  unfold tokV
  by_cases h1 : k = 1
  · subst h1
    have E := hide (show true = callsK 1 t.data.toList from rfl)
    go_enter Tryd.func33, Tryd.ntmps33
    go_wp2
    go_ret
    exact ⟨ret_bool (unhide E), (Below.refl w.heap.size w).alloc (Nat.le_refl _) _⟩
  by_cases h3 : k = 3
  · subst h3
    have E := hide (show true = callsK 3 t.data.toList from rfl)
    go_enter Tryd.func33, Tryd.ntmps33
    go_wp2
    go_ret
    exact ⟨ret_bool (unhide E), (Below.refl w.heap.size w).alloc (Nat.le_refl _) _⟩
  by_cases h4 : k = 4
  · subst h4
    have E := hide (show true = callsK 4 t.data.toList from rfl)
    go_enter Tryd.func33, Tryd.ntmps33
    go_wp2
    go_ret
    exact ⟨ret_bool (unhide E), (Below.refl w.heap.size w).alloc (Nat.le_refl _) _⟩
  have E := hide (show false = callsK k t.data.toList by unfold callsK; rw [if_neg (by omega), if_neg h2, if_neg h5])
  have q1 : (k == 1) = false := beq_false_of_ne h1
  have q2 : (k == 2) = false := beq_false_of_ne h2
  have q3 : (k == 3) = false := beq_false_of_ne h3
  have q4 : (k == 4) = false := beq_false_of_ne h4
  have q5 : (k == 5) = false := beq_false_of_ne h5
  clear h1 h2 h3 h4 h5
  go_enter Tryd.func33, Tryd.ntmps33
  go_wp2
  go_ret
  exact ⟨ret_bool (unhide E), (Below.refl w.heap.size w).alloc (Nat.le_refl _) _⟩

set_option maxHeartbeats 1000000 in
theorem sliteprefix_any (s p : ByteArray) (w : World) :
    Calls Tryd.prog 44 #[.string s, .string p] w fun e w' => e = .returned (.bool (pfx p.data.toList s.data.toList)) ∧ w' = w := by
  by_cases h : p.size ≤ s.size
  · have q := bytes_beq (s.extract 0 p.size) p
    have E := hide (show decide (s.extract 0 p.size = p) = pfx p.data.toList s.data.toList by
      unfold pfx
      rw [Bool.eq_iff_iff, decide_eq_true_eq, List.isPrefixOf_iff_prefix, List.prefix_iff_eq_take]
      have e1 : (s.extract 0 p.size).data.toList = s.data.toList.take p.data.toList.length := by
        rw [ByteArray.data_extract, Array.toList_extract, List.extract_eq_take_drop, ← size_len]
        simp
      rw [← e1]
      constructor
      · intro e; rw [e]
      · intro e; exact (WideShapes.bytes_inj e).symm)
    rw [unhide E] at q
    go_enter Tryd.func44, Tryd.ntmps44
    go_wp2
    go_ret
    exact ⟨rfl, rfl⟩
  · have E := hide (show false = pfx p.data.toList s.data.toList by
      symm
      unfold pfx
      rw [Bool.eq_false_iff]
      intro e
      have := (List.isPrefixOf_iff_prefix.1 e).length_le
      rw [← size_len, ← size_len] at this
      exact h this)
    go_enter Tryd.func44, Tryd.ntmps44
    go_wp2
    go_ret
    exact ⟨ret_bool (unhide E), rfl⟩

set_option maxHeartbeats 1000000 in
theorem hasprefix_any (s p : ByteArray) (w : World) :
    Calls Tryd.prog 25 #[.string s, .string p] w fun e w' => e = .returned (.bool (pfx p.data.toList s.data.toList)) ∧ w' = w := by
  go_enter Tryd.func25, Tryd.ntmps25
  go_wp2_with fail
  refine (sliteprefix_any s p _).mono ?_
  rintro e w1 ⟨rfl, rfl⟩
  go_wp2
  go_ret
  exact ⟨rfl, rfl⟩

end Go.Proofs.YtkbgnbcphmkjkaaDoor
