/- The document's Join: a token as it is written. -/
import Derived.Test.YtjkogjmbmkopiaaDoorPw
import Derived.Test.YtjkogjmbmkopiaaDoorRefQuo
import Derived.Test.YtjkogjmbmkopiaaDoorRefInt
namespace Go.Proofs.YtjkogjmbmkopiaaDoor
open Go.RowKit

def rEnd (k : Int) (t : List UInt8) (n : Int) (last : Bool) : Ending := .returned (.tuple #[.string ⟨(wtx k t n).toArray⟩, .bool (if k = 0 then last else wok k t n)])

set_option maxRecDepth 100000 in
set_option maxHeartbeats 8000000 in
theorem rw_end (X : ByteArray) (n a l : Int) (last : Bool) (w : World) (hs : X.size ≤ 70368744177000) (_hn0 : -9223372036854775808 ≤ n) (_hn1 : n ≤ 9223372036854775807) (k : Int) (h0 : k = 0) :
    Calls Tryd.prog 30 #[tokV k X n a l, .bool last] w fun e w' => e = rEnd k X.data.toList n last ∧ Below w.heap.size w w' := by
  have E := hide (show Ending.returned (.tuple #[.string ⟨#[]⟩, .bool last]) = rEnd k X.data.toList n last by subst h0; rfl)
  have hb1 := (Below.refl w.heap.size w).alloc (Nat.le_refl _) (.cells #[.int .i64 k, .string X, .int .i64 n, .int .i64 a, .int .i64 l] 42)
  have HT1 := hide (MapKept.heap_alloc w (.cells #[.int .i64 k, .string X, .int .i64 n, .int .i64 a, .int .i64 l] 42)).1
  have hz1 : (w.alloc (.cells #[.int .i64 k, .string X, .int .i64 n, .int .i64 a, .int .i64 l] 42)).heap.size = w.heap.size + 1 := World.size_alloc ..
  have HB1 := hide hb1
  clear hb1
  unfold tokV
  have q0 : (k == 0) = true := by rw [h0]; rfl
  clear h0
  have hm : X.size ≤ maxLen := by unfold maxLen; omega
  go_enter Tryd.func30, Tryd.ntmps30
  go_wp2
  go_ret2
  exact ⟨unhide E, unhide HB1⟩

set_option maxRecDepth 100000 in
set_option maxHeartbeats 8000000 in
theorem rw_name (X : ByteArray) (n a l : Int) (last : Bool) (w : World) (hs : X.size ≤ 70368744177000) (_hn0 : -9223372036854775808 ≤ n) (_hn1 : n ≤ 9223372036854775807) (k : Int) (h1 : k = 1) :
    Calls Tryd.prog 30 #[tokV k X n a l, .bool last] w fun e w' => e = rEnd k X.data.toList n last ∧ Below w.heap.size w w' := by
  have E := hide (show Ending.returned (.tuple #[.string X, .bool (isName X)]) = rEnd k X.data.toList n last by subst h1; rfl)
  have h0 : ¬ k = 0 := by omega
  have hb1 := (Below.refl w.heap.size w).alloc (Nat.le_refl _) (.cells #[.int .i64 k, .string X, .int .i64 n, .int .i64 a, .int .i64 l] 42)
  have HT1 := hide (MapKept.heap_alloc w (.cells #[.int .i64 k, .string X, .int .i64 n, .int .i64 a, .int .i64 l] 42)).1
  have hz1 : (w.alloc (.cells #[.int .i64 k, .string X, .int .i64 n, .int .i64 a, .int .i64 l] 42)).heap.size = w.heap.size + 1 := World.size_alloc ..
  have HB1 := hide hb1
  clear hb1
  unfold tokV
  have q0 : (k == 0) = false := beq_false_of_ne h0
  have q1 : (k == 1) = true := by rw [h1]; rfl
  clear h0 h1
  have hm : X.size ≤ maxLen := by unfold maxLen; omega
  go_enter Tryd.func30, Tryd.ntmps30
  go_wp2_with fail
  refine (refname_any X _ hm).mono ?_
  rintro e w2 ⟨rfl, b2⟩
  have e2 := (b2.block w.heap.size (by omega)).trans (unhide HT1)
  have s0 : w2.cell? ⟨w.heap.size, 0, none⟩ = some (.int .i64 k) := by simp [World.cell?, e2]
  have s1 : w2.cell? ⟨w.heap.size, 1, none⟩ = some (.string X) := by simp [World.cell?, e2]
  have s2 : w2.cell? ⟨w.heap.size, 2, none⟩ = some (.int .i64 n) := by simp [World.cell?, e2]
  have HB2 := hide ((unhide HB1).trans (b2.mono (unhide HB1).size))
  clear b2 e2
  go_wp2
  go_ret2
  exact ⟨unhide E, unhide HB2⟩

set_option maxRecDepth 100000 in
set_option maxHeartbeats 8000000 in
theorem rw_word (X : ByteArray) (n a l : Int) (last : Bool) (w : World) (hs : X.size ≤ 70368744177000) (_hn0 : -9223372036854775808 ≤ n) (_hn1 : n ≤ 9223372036854775807) (k : Int) (h2 : k = 2) :
    Calls Tryd.prog 30 #[tokV k X n a l, .bool last] w fun e w' => e = rEnd k X.data.toList n last ∧ Below w.heap.size w w' := by
  have E := hide (show Ending.returned (.tuple #[.string X, .bool (isWord X)]) = rEnd k X.data.toList n last by subst h2; rfl)
  have h0 : ¬ k = 0 := by omega
  have h1 : ¬ k = 1 := by omega
  have hb1 := (Below.refl w.heap.size w).alloc (Nat.le_refl _) (.cells #[.int .i64 k, .string X, .int .i64 n, .int .i64 a, .int .i64 l] 42)
  have HT1 := hide (MapKept.heap_alloc w (.cells #[.int .i64 k, .string X, .int .i64 n, .int .i64 a, .int .i64 l] 42)).1
  have hz1 : (w.alloc (.cells #[.int .i64 k, .string X, .int .i64 n, .int .i64 a, .int .i64 l] 42)).heap.size = w.heap.size + 1 := World.size_alloc ..
  have HB1 := hide hb1
  clear hb1
  unfold tokV
  have q0 : (k == 0) = false := beq_false_of_ne h0
  have q1 : (k == 1) = false := beq_false_of_ne h1
  have q2 : (k == 2) = true := by rw [h2]; rfl
  clear h0 h1 h2
  have hm : X.size ≤ maxLen := by unfold maxLen; omega
  go_enter Tryd.func30, Tryd.ntmps30
  go_wp2_with fail
  refine (refword_any X _).mono ?_
  rintro e w2 ⟨rfl, b2⟩
  have e2 := (b2.block w.heap.size (by omega)).trans (unhide HT1)
  have s0 : w2.cell? ⟨w.heap.size, 0, none⟩ = some (.int .i64 k) := by simp [World.cell?, e2]
  have s1 : w2.cell? ⟨w.heap.size, 1, none⟩ = some (.string X) := by simp [World.cell?, e2]
  have s2 : w2.cell? ⟨w.heap.size, 2, none⟩ = some (.int .i64 n) := by simp [World.cell?, e2]
  have HB2 := hide ((unhide HB1).trans (b2.mono (unhide HB1).size))
  clear b2 e2
  go_wp2
  go_ret2
  exact ⟨unhide E, unhide HB2⟩

set_option maxRecDepth 100000 in
set_option maxHeartbeats 8000000 in
theorem rw_text (X : ByteArray) (n a l : Int) (last : Bool) (w : World) (hs : X.size ≤ 70368744177000) (_hn0 : -9223372036854775808 ≤ n) (_hn1 : n ≤ 9223372036854775807) (k : Int) (h4 : k = 4) :
    Calls Tryd.prog 30 #[tokV k X n a l, .bool last] w fun e w' => e = rEnd k X.data.toList n last ∧ Below w.heap.size w w' := by
  have E := hide (show Ending.returned (.tuple #[.string ⟨(quo X.data.toList).toArray⟩, .bool true]) = rEnd k X.data.toList n last by subst h4; rfl)
  have h0 : ¬ k = 0 := by omega
  have h1 : ¬ k = 1 := by omega
  have h2 : ¬ k = 2 := by omega
  have h3 : ¬ k = 3 := by omega
  have hb1 := (Below.refl w.heap.size w).alloc (Nat.le_refl _) (.cells #[.int .i64 k, .string X, .int .i64 n, .int .i64 a, .int .i64 l] 42)
  have HT1 := hide (MapKept.heap_alloc w (.cells #[.int .i64 k, .string X, .int .i64 n, .int .i64 a, .int .i64 l] 42)).1
  have hz1 : (w.alloc (.cells #[.int .i64 k, .string X, .int .i64 n, .int .i64 a, .int .i64 l] 42)).heap.size = w.heap.size + 1 := World.size_alloc ..
  have HB1 := hide hb1
  clear hb1
  unfold tokV
  have q0 : (k == 0) = false := beq_false_of_ne h0
  have q1 : (k == 1) = false := beq_false_of_ne h1
  have q2 : (k == 2) = false := beq_false_of_ne h2
  have q3 : (k == 3) = false := beq_false_of_ne h3
  have q4 : (k == 4) = true := by rw [h4]; rfl
  clear h0 h1 h2 h3 h4
  have hm : X.size ≤ maxLen := by unfold maxLen; omega
  go_enter Tryd.func30, Tryd.ntmps30
  go_wp2_with fail
  refine (refquote_any X _ hs).mono ?_
  rintro e w2 ⟨rfl, b2⟩
  have e2 := (b2.block w.heap.size (by omega)).trans (unhide HT1)
  have s0 : w2.cell? ⟨w.heap.size, 0, none⟩ = some (.int .i64 k) := by simp [World.cell?, e2]
  have s1 : w2.cell? ⟨w.heap.size, 1, none⟩ = some (.string X) := by simp [World.cell?, e2]
  have s2 : w2.cell? ⟨w.heap.size, 2, none⟩ = some (.int .i64 n) := by simp [World.cell?, e2]
  have HB2 := hide ((unhide HB1).trans (b2.mono (unhide HB1).size))
  clear b2 e2
  go_wp2
  go_ret2
  exact ⟨unhide E, unhide HB2⟩

set_option maxRecDepth 100000 in
set_option maxHeartbeats 8000000 in
theorem rw_int (X : ByteArray) (n a l : Int) (last : Bool) (w : World) (hs : X.size ≤ 70368744177000) (hn0 : -9223372036854775808 ≤ n) (hn1 : n ≤ 9223372036854775807) (k : Int) (h3 : k = 3) :
    Calls Tryd.prog 30 #[tokV k X n a l, .bool last] w fun e w' => e = rEnd k X.data.toList n last ∧ Below w.heap.size w w' := by
  have E := hide (show Ending.returned (.tuple #[.string ⟨(Lib.itoa n).toArray⟩, .bool (decide (0 ≤ n))]) = rEnd k X.data.toList n last by subst h3; rfl)
  have h0 : ¬ k = 0 := by omega
  have h1 : ¬ k = 1 := by omega
  have h2 : ¬ k = 2 := by omega
  have hb1 := (Below.refl w.heap.size w).alloc (Nat.le_refl _) (.cells #[.int .i64 k, .string X, .int .i64 n, .int .i64 a, .int .i64 l] 42)
  have HT1 := hide (MapKept.heap_alloc w (.cells #[.int .i64 k, .string X, .int .i64 n, .int .i64 a, .int .i64 l] 42)).1
  have hz1 : (w.alloc (.cells #[.int .i64 k, .string X, .int .i64 n, .int .i64 a, .int .i64 l] 42)).heap.size = w.heap.size + 1 := World.size_alloc ..
  have HB1 := hide hb1
  clear hb1
  unfold tokV
  have q0 : (k == 0) = false := beq_false_of_ne h0
  have q1 : (k == 1) = false := beq_false_of_ne h1
  have q2 : (k == 2) = false := beq_false_of_ne h2
  have q3 : (k == 3) = true := by rw [h3]; rfl
  clear h0 h1 h2 h3
  have hm : X.size ≤ maxLen := by unfold maxLen; omega
  go_enter Tryd.func30, Tryd.ntmps30
  go_wp2
  generalize w.alloc (.cells #[.int .i64 k, .string X, .int .i64 n, .int .i64 a, .int .i64 l] 42) = w1 at *
  have t0 : w1.cell? ⟨w.heap.size, 0, none⟩ = some (.int .i64 k) := by simp [World.cell?, unhide HT1]
  have t1 : w1.cell? ⟨w.heap.size, 1, none⟩ = some (.string X) := by simp [World.cell?, unhide HT1]
  have t2 : w1.cell? ⟨w.heap.size, 2, none⟩ = some (.int .i64 n) := by simp [World.cell?, unhide HT1]
  have hzd : w1.drew.heap.size = w.heap.size + 1 := hz1
  have hd : ∀ m, m ≤ w.heap.size → m < w1.drew.heap.size := fun m h => by have : w1.drew.heap.size = w1.heap.size := rfl; omega
  go_region_with (go_at_call 31; refine (refint_any n hn0 hn1 _).mono ?_; rintro e w2 ⟨rfl, b2⟩; have e2 := (b2.block w.heap.size (hd _ (Nat.le_refl _))).trans (unhide HT1); have s0 : w2.cell? ⟨w.heap.size, 0, none⟩ = some (.int .i64 k) := (by simp [World.cell?, e2]); have s1 : w2.cell? ⟨w.heap.size, 1, none⟩ = some (.string X) := (by simp [World.cell?, e2]); have s2 : w2.cell? ⟨w.heap.size, 2, none⟩ = some (.int .i64 n) := (by simp [World.cell?, e2]); have HB2 := hide ((below_drewJ (unhide HB1)).trans (b2.mono (below_drewJ (unhide HB1)).size)))
  all_goals
    go_wp2
    go_ret2
    exact ⟨unhide E, unhide HB2⟩

set_option maxRecDepth 100000 in
set_option maxHeartbeats 8000000 in
theorem rw_semi (X : ByteArray) (n a l : Int) (last : Bool) (w : World) (hs : X.size ≤ 70368744177000) (_hn0 : -9223372036854775808 ≤ n) (_hn1 : n ≤ 9223372036854775807) (k : Int) (h6 : k = 6) :
    Calls Tryd.prog 30 #[tokV k X n a l, .bool last] w fun e w' => e = rEnd k X.data.toList n last ∧ Below w.heap.size w w' := by
  have E := hide (show Ending.returned (.tuple #[.string ⟨#[59]⟩, .bool (decide (X.data.toList = [59]) || decide (X.data.toList = [10]))]) = rEnd k X.data.toList n last by subst h6; rfl)
  have h0 : ¬ k = 0 := by omega
  have h1 : ¬ k = 1 := by omega
  have h2 : ¬ k = 2 := by omega
  have h3 : ¬ k = 3 := by omega
  have h4 : ¬ k = 4 := by omega
  have h5 : ¬ k = 5 := by omega
  have hb1 := (Below.refl w.heap.size w).alloc (Nat.le_refl _) (.cells #[.int .i64 k, .string X, .int .i64 n, .int .i64 a, .int .i64 l] 42)
  have HT1 := hide (MapKept.heap_alloc w (.cells #[.int .i64 k, .string X, .int .i64 n, .int .i64 a, .int .i64 l] 42)).1
  have hz1 : (w.alloc (.cells #[.int .i64 k, .string X, .int .i64 n, .int .i64 a, .int .i64 l] 42)).heap.size = w.heap.size + 1 := World.size_alloc ..
  have HB1 := hide hb1
  clear hb1
  unfold tokV
  have q0 : (k == 0) = false := beq_false_of_ne h0
  have q1 : (k == 1) = false := beq_false_of_ne h1
  have q2 : (k == 2) = false := beq_false_of_ne h2
  have q3 : (k == 3) = false := beq_false_of_ne h3
  have q4 : (k == 4) = false := beq_false_of_ne h4
  have q5 : (k == 5) = false := beq_false_of_ne h5
  have q6 : (k == 6) = true := by rw [h6]; rfl
  clear h0 h1 h2 h3 h4 h5 h6
  have hm : X.size ≤ maxLen := by unfold maxLen; omega
  have x1 := eqb X [59]
  have x2 := eqb X [10]
  by_cases y1 : X.data.toList = [59]
  · rw [decide_eq_true y1] at x1
    rw [decide_eq_true y1, Bool.true_or] at E
    clear y1 x2
    go_enter Tryd.func30, Tryd.ntmps30
    go_wp2
    generalize w.alloc (.cells #[.int .i64 k, .string X, .int .i64 n, .int .i64 a, .int .i64 l] 42) = w1 at *
    have t0 : w1.cell? ⟨w.heap.size, 0, none⟩ = some (.int .i64 k) := by simp [World.cell?, unhide HT1]
    have t1 : w1.cell? ⟨w.heap.size, 1, none⟩ = some (.string X) := by simp [World.cell?, unhide HT1]
    have t2 : w1.cell? ⟨w.heap.size, 2, none⟩ = some (.int .i64 n) := by simp [World.cell?, unhide HT1]
    go_quiet (fail)
    have HB2 := hide (below_dn (unhide HB1) nq)
    go_wp2
    go_ret2
    exact ⟨unhide E, unhide HB2⟩
  rw [decide_eq_false y1] at x1
  rw [decide_eq_false y1, Bool.false_or] at E
  by_cases y2 : X.data.toList = [10]
  · rw [decide_eq_true y2] at x2
    rw [decide_eq_true y2] at E
    clear y1 y2
    go_enter Tryd.func30, Tryd.ntmps30
    go_wp2
    generalize w.alloc (.cells #[.int .i64 k, .string X, .int .i64 n, .int .i64 a, .int .i64 l] 42) = w1 at *
    have t0 : w1.cell? ⟨w.heap.size, 0, none⟩ = some (.int .i64 k) := by simp [World.cell?, unhide HT1]
    have t1 : w1.cell? ⟨w.heap.size, 1, none⟩ = some (.string X) := by simp [World.cell?, unhide HT1]
    have t2 : w1.cell? ⟨w.heap.size, 2, none⟩ = some (.int .i64 n) := by simp [World.cell?, unhide HT1]
    go_quiet (fail)
    have HB2 := hide (below_dn (unhide HB1) nq)
    go_wp2
    go_ret2
    exact ⟨unhide E, unhide HB2⟩
  · rw [decide_eq_false y2] at x2
    rw [decide_eq_false y2] at E
    clear y1 y2
    go_enter Tryd.func30, Tryd.ntmps30
    go_wp2
    generalize w.alloc (.cells #[.int .i64 k, .string X, .int .i64 n, .int .i64 a, .int .i64 l] 42) = w1 at *
    have t0 : w1.cell? ⟨w.heap.size, 0, none⟩ = some (.int .i64 k) := by simp [World.cell?, unhide HT1]
    have t1 : w1.cell? ⟨w.heap.size, 1, none⟩ = some (.string X) := by simp [World.cell?, unhide HT1]
    have t2 : w1.cell? ⟨w.heap.size, 2, none⟩ = some (.int .i64 n) := by simp [World.cell?, unhide HT1]
    go_quiet (fail)
    have HB2 := hide (below_dn (unhide HB1) nq)
    go_wp2
    go_ret2
    exact ⟨unhide E, unhide HB2⟩

end Go.Proofs.YtjkogjmbmkopiaaDoor
