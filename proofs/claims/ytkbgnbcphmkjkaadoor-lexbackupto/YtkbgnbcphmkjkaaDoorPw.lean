/- The program's Join: a token as it is written. -/
import Derived.Test.YtkbgnbcphmkjkaaDoorLxF
import Derived.Test.YtkbgnbcphmkjkaaDoorPa
import Derived.Test.YtkbgnbcphmkjkaaDoorName
import Derived.Test.YtkbgnbcphmkjkaaDoorQuo
import Derived.Test.YtkbgnbcphmkjkaaDoorTb
import Derived.Deep.RegionWith
namespace Go.Proofs.YtkbgnbcphmkjkaaDoor
open Go.RowKit

theorem below_drewJ {B : Nat} {a w : World} (h : Below B a w) : Below B a w.drew := ⟨h.os, h.tape, h.output, h.size, h.block⟩

set_option maxHeartbeats 1000000 in
theorem sindex_any (s : ByteArray) {B n : Nat} {w : World} {xs : List (List UInt8)} (h : StrsAt w B xs) (hn : xs.length = n) (hm : n ≤ 1000) :
    Calls Tryd.prog 41 #[.slice (some ⟨B, 0, none⟩) n n, .string s] w fun e w' =>
      (∃ i : Int, e = .returned (.int .i64 i) ∧ decide (0 ≤ i) = has xs s.data.toList) ∧ w' = w := by
  have HC := hide h
  have HN := hide hn
  clear h hn
  go_enter Tryd.func41, Tryd.ntmps41
  go_wp2
  go_loop [8] (fun i => ∃ k : Nat, k ≤ n ∧ i = .int .i64 k ∧ ∀ j, j < k → ¬ xs.getD j [] = s.data.toList) (fun i => n - (intOf i).toNat)
  case atStart => exact ⟨0, by omega, rfl, fun j hj => by omega⟩
  case round =>
    obtain ⟨k, hk, rfl, hno⟩ := hrel
    by_cases hlt : k < n
    · have hc := (unhide HC).cell k (by rw [unhide HN]; exact hlt)
      have hq : (s.toList == (sx xs k).toList) = decide (xs.getD k [] = s.data.toList) := by rw [← sx_beq]; exact Bool.beq_comm
      by_cases e : xs.getD k [] = s.data.toList
      · rw [decide_eq_true e] at hq
        have E := hide (contains_hit (by rw [unhide HN]; exact hlt) e)
        clear hno e
        go_wp2
        go_ret
        exact ⟨⟨k, rfl, by rw [unhide E]; exact decide_eq_true (Int.natCast_nonneg k)⟩, rfl⟩
      · rw [decide_eq_false e] at hq
        have HX := hide (show ∀ j, j < k + 1 → ¬ xs.getD j [] = s.data.toList from fun j hj => if h : j = k then h ▸ e else hno j (by omega))
        clear hno e
        go_wp2
        go_round
        case rel => exact ⟨k + 1, by omega, by go_num, unhide HX⟩
        case measure => simp [intOf]; omega
    · have e : k = n := by omega
      subst e
      have E := hide (contains_none (by rw [unhide HN]; exact hno))
      clear hno
      go_wp2
      go_ret
      exact ⟨⟨-1, rfl, by rw [unhide E]; rfl⟩, rfl⟩

set_option maxHeartbeats 1000000 in
theorem scontains_any (s : ByteArray) {B n : Nat} {w : World} {xs : List (List UInt8)} (h : StrsAt w B xs) (hn : xs.length = n) (hm : n ≤ 1000) :
    Calls Tryd.prog 20 #[.slice (some ⟨B, 0, none⟩) n n, .string s] w fun e w' => e = .returned (.bool (has xs s.data.toList)) ∧ w' = w := by
  have HC := hide h
  clear h
  go_enter Tryd.func20, Tryd.ntmps20
  go_wp2_with fail
  refine (sindex_any s (unhide HC) hn hm).mono ?_
  rintro e w' ⟨⟨i, rfl, hi⟩, rfl⟩
  have HI := hide hi
  clear hi
  go_wp2
  go_ret
  exact ⟨ret_bool (unhide HI), rfl⟩

/-- a token as it is written, and whether it is one -/
def wtx (k : Int) (t : List UInt8) (n : Int) : List UInt8 := if k = 1 ∨ k = 2 ∨ k = 5 then t else if k = 3 then Lib.itoa n else if k = 4 then quo t else if k = 6 then [59] else []
def wok (k : Int) (t : List UInt8) (n : Int) : Bool :=
  if k = 0 ∨ k = 4 then true else if k = 1 then isName ⟨t.toArray⟩ else if k = 2 then isWord ⟨t.toArray⟩ else if k = 3 then decide (0 ≤ n) else if k = 5 then has sgl t && !decide (t = [59]) else if k = 6 then decide (t = [59]) || decide (t = [10]) else false

def wEnd (k : Int) (t : List UInt8) (n : Int) : Ending := .returned (.tuple #[.string ⟨(wtx k t n).toArray⟩, .bool (wok k t n)])

set_option maxHeartbeats 4000000 in
theorem write_name (X : ByteArray) (n a l : Int) (w : World) (hs : X.size ≤ 70368744177000) (hV : Tab w) (k : Int) (h1 : k = 1) :
    Calls Tryd.prog 7 #[tokV k X n a l] w fun e w' => e = wEnd k X.data.toList n ∧ Below w.heap.size w w' := by
  have E := hide (show Ending.returned (.tuple #[.string X, .bool (isName X)]) = wEnd k X.data.toList n by subst h1; rfl)
  have h0 : ¬ k = 0 := by omega
  have hb1 := (Below.refl w.heap.size w).alloc (Nat.le_refl _) (.cells #[.int .i64 k, .string X, .int .i64 n, .int .i64 a, .int .i64 l] 28)
  have HT1 := hide (MapKept.heap_alloc w (.cells #[.int .i64 k, .string X, .int .i64 n, .int .i64 a, .int .i64 l] 28)).1
  have HV1 := hide (hV.below hb1)
  have hz1 : (w.alloc (.cells #[.int .i64 k, .string X, .int .i64 n, .int .i64 a, .int .i64 l] 28)).heap.size = w.heap.size + 1 := World.size_alloc ..
  have HB1 := hide hb1
  clear hb1 hV
  unfold tokV
  have q0 : (k == 0) = false := beq_false_of_ne h0
  have q1 : (k == 1) = true := by rw [h1]; rfl
  clear h0 h1
  have hm : X.size ≤ maxLen := by unfold maxLen; omega
  go_enter Tryd.func7, Tryd.ntmps7
  go_wp2
  generalize w.alloc (.cells #[.int .i64 k, .string X, .int .i64 n, .int .i64 a, .int .i64 l] 28) = w1 at *
  have t0 : w1.cell? ⟨w.heap.size, 0, none⟩ = some (.int .i64 k) := by simp [World.cell?, unhide HT1]
  have t1 : w1.cell? ⟨w.heap.size, 1, none⟩ = some (.string X) := by simp [World.cell?, unhide HT1]
  have t2 : w1.cell? ⟨w.heap.size, 2, none⟩ = some (.int .i64 n) := by simp [World.cell?, unhide HT1]
  have hd : ∀ m, m ≤ w.heap.size → m < w1.drew.heap.size := fun m h => by have : w1.drew.heap.size = w1.heap.size := rfl; omega
  go_region_with (go_at_call 16; refine (name_any X _ hm).mono ?_; rintro e w2 ⟨rfl, b2⟩; have e2 := (b2.block w.heap.size (hd _ (Nat.le_refl _))).trans (unhide HT1); have s0 : w2.cell? ⟨w.heap.size, 0, none⟩ = some (.int .i64 k) := (by simp [World.cell?, e2]); have s1 : w2.cell? ⟨w.heap.size, 1, none⟩ = some (.string X) := (by simp [World.cell?, e2]); have s2 : w2.cell? ⟨w.heap.size, 2, none⟩ = some (.int .i64 n) := (by simp [World.cell?, e2]); have HB2 := hide ((below_drewJ (unhide HB1)).trans (b2.mono (below_drewJ (unhide HB1)).size)))
  all_goals
    go_wp2
    go_ret2
    exact ⟨unhide E, unhide HB2⟩

set_option maxRecDepth 100000 in
set_option maxHeartbeats 8000000 in
theorem write_word (X : ByteArray) (n a l : Int) (w : World) (hs : X.size ≤ 70368744177000) (_hn0 : -9223372036854775808 ≤ n) (_hn1 : n ≤ 9223372036854775807) (hV : Tab w) (k : Int) (h2 : k = 2) :
    Calls Tryd.prog 7 #[tokV k X n a l] w fun e w' => e = wEnd k X.data.toList n ∧ Below w.heap.size w w' := by
  have E := hide (show Ending.returned (.tuple #[.string X, .bool (isWord X)]) = wEnd k X.data.toList n by subst h2; rfl)
  have h0 : ¬ k = 0 := by omega
  have h1 : ¬ k = 1 := by omega
  have hb1 := (Below.refl w.heap.size w).alloc (Nat.le_refl _) (.cells #[.int .i64 k, .string X, .int .i64 n, .int .i64 a, .int .i64 l] 28)
  have HT1 := hide (MapKept.heap_alloc w (.cells #[.int .i64 k, .string X, .int .i64 n, .int .i64 a, .int .i64 l] 28)).1
  have HV1 := hide (hV.below hb1)
  have hz1 : (w.alloc (.cells #[.int .i64 k, .string X, .int .i64 n, .int .i64 a, .int .i64 l] 28)).heap.size = w.heap.size + 1 := World.size_alloc ..
  have HB1 := hide hb1
  clear hb1 hV
  unfold tokV
  have q0 : (k == 0) = false := beq_false_of_ne h0
  have q1 : (k == 1) = false := beq_false_of_ne h1
  have q2 : (k == 2) = true := by rw [h2]; rfl
  clear h0 h1 h2
  have hm : X.size ≤ maxLen := by unfold maxLen; omega
  go_enter Tryd.func7, Tryd.ntmps7
  go_wp2
  generalize w.alloc (.cells #[.int .i64 k, .string X, .int .i64 n, .int .i64 a, .int .i64 l] 28) = w1 at *
  have t0 : w1.cell? ⟨w.heap.size, 0, none⟩ = some (.int .i64 k) := by simp [World.cell?, unhide HT1]
  have t1 : w1.cell? ⟨w.heap.size, 1, none⟩ = some (.string X) := by simp [World.cell?, unhide HT1]
  have t2 : w1.cell? ⟨w.heap.size, 2, none⟩ = some (.int .i64 n) := by simp [World.cell?, unhide HT1]
  have hzd : w1.drew.heap.size = w.heap.size + 1 := hz1
  have hd : ∀ m, m ≤ w.heap.size → m < w1.drew.heap.size := fun m h => by have : w1.drew.heap.size = w1.heap.size := rfl; omega
  go_region_with (go_at_call 17; refine (word_any X _).mono ?_; rintro e w2 ⟨rfl, b2⟩; have e2 := (b2.block w.heap.size (hd _ (Nat.le_refl _))).trans (unhide HT1); have s0 : w2.cell? ⟨w.heap.size, 0, none⟩ = some (.int .i64 k) := (by simp [World.cell?, e2]); have s1 : w2.cell? ⟨w.heap.size, 1, none⟩ = some (.string X) := (by simp [World.cell?, e2]); have s2 : w2.cell? ⟨w.heap.size, 2, none⟩ = some (.int .i64 n) := (by simp [World.cell?, e2]); have HB2 := hide ((below_drewJ (unhide HB1)).trans (b2.mono (below_drewJ (unhide HB1)).size)))
  all_goals
    go_wp2
    go_ret2
    exact ⟨unhide E, unhide HB2⟩

set_option maxRecDepth 100000 in
set_option maxHeartbeats 8000000 in
theorem write_int (X : ByteArray) (n a l : Int) (w : World) (hs : X.size ≤ 70368744177000) (hn0 : -9223372036854775808 ≤ n) (hn1 : n ≤ 9223372036854775807) (hV : Tab w) (k : Int) (h3 : k = 3) :
    Calls Tryd.prog 7 #[tokV k X n a l] w fun e w' => e = wEnd k X.data.toList n ∧ Below w.heap.size w w' := by
  have E := hide (show Ending.returned (.tuple #[.string ⟨(Lib.itoa n).toArray⟩, .bool (decide (0 ≤ n))]) = wEnd k X.data.toList n by subst h3; rfl)
  have h0 : ¬ k = 0 := by omega
  have h1 : ¬ k = 1 := by omega
  have h2 : ¬ k = 2 := by omega
  have hb1 := (Below.refl w.heap.size w).alloc (Nat.le_refl _) (.cells #[.int .i64 k, .string X, .int .i64 n, .int .i64 a, .int .i64 l] 28)
  have HT1 := hide (MapKept.heap_alloc w (.cells #[.int .i64 k, .string X, .int .i64 n, .int .i64 a, .int .i64 l] 28)).1
  have HV1 := hide (hV.below hb1)
  have hz1 : (w.alloc (.cells #[.int .i64 k, .string X, .int .i64 n, .int .i64 a, .int .i64 l] 28)).heap.size = w.heap.size + 1 := World.size_alloc ..
  have HB1 := hide hb1
  clear hb1 hV
  unfold tokV
  have q0 : (k == 0) = false := beq_false_of_ne h0
  have q1 : (k == 1) = false := beq_false_of_ne h1
  have q2 : (k == 2) = false := beq_false_of_ne h2
  have q3 : (k == 3) = true := by rw [h3]; rfl
  clear h0 h1 h2 h3
  have hm : X.size ≤ maxLen := by unfold maxLen; omega
  go_enter Tryd.func7, Tryd.ntmps7
  go_wp2
  generalize w.alloc (.cells #[.int .i64 k, .string X, .int .i64 n, .int .i64 a, .int .i64 l] 28) = w1 at *
  have t0 : w1.cell? ⟨w.heap.size, 0, none⟩ = some (.int .i64 k) := by simp [World.cell?, unhide HT1]
  have t1 : w1.cell? ⟨w.heap.size, 1, none⟩ = some (.string X) := by simp [World.cell?, unhide HT1]
  have t2 : w1.cell? ⟨w.heap.size, 2, none⟩ = some (.int .i64 n) := by simp [World.cell?, unhide HT1]
  have hzd : w1.drew.heap.size = w.heap.size + 1 := hz1
  have hd : ∀ m, m ≤ w.heap.size → m < w1.drew.heap.size := fun m h => by have : w1.drew.heap.size = w1.heap.size := rfl; omega
  have HV2 := hide (show Tab w1.drew from (unhide HV1).below (below_drewJ (Below.refl _ _)))
  go_region_with (go_at_call 18; refine (int_tab n hn0 hn1 _ (unhide HV2)).mono ?_; rintro e w2 ⟨rfl, b2⟩; have e2 := (b2.block w.heap.size (hd _ (Nat.le_refl _))).trans (unhide HT1); have s0 : w2.cell? ⟨w.heap.size, 0, none⟩ = some (.int .i64 k) := (by simp [World.cell?, e2]); have s1 : w2.cell? ⟨w.heap.size, 1, none⟩ = some (.string X) := (by simp [World.cell?, e2]); have s2 : w2.cell? ⟨w.heap.size, 2, none⟩ = some (.int .i64 n) := (by simp [World.cell?, e2]); have HB2 := hide ((below_drewJ (unhide HB1)).trans (b2.mono (below_drewJ (unhide HB1)).size)))
  all_goals
    go_wp2
    go_ret2
    exact ⟨unhide E, unhide HB2⟩

set_option maxRecDepth 100000 in
set_option maxHeartbeats 8000000 in
theorem write_text (X : ByteArray) (n a l : Int) (w : World) (hs : X.size ≤ 70368744177000) (_hn0 : -9223372036854775808 ≤ n) (_hn1 : n ≤ 9223372036854775807) (hV : Tab w) (k : Int) (h4 : k = 4) :
    Calls Tryd.prog 7 #[tokV k X n a l] w fun e w' => e = wEnd k X.data.toList n ∧ Below w.heap.size w w' := by
  have E := hide (show Ending.returned (.tuple #[.string ⟨(quo X.data.toList).toArray⟩, .bool true]) = wEnd k X.data.toList n by subst h4; rfl)
  have h0 : ¬ k = 0 := by omega
  have h1 : ¬ k = 1 := by omega
  have h2 : ¬ k = 2 := by omega
  have h3 : ¬ k = 3 := by omega
  have hb1 := (Below.refl w.heap.size w).alloc (Nat.le_refl _) (.cells #[.int .i64 k, .string X, .int .i64 n, .int .i64 a, .int .i64 l] 28)
  have HT1 := hide (MapKept.heap_alloc w (.cells #[.int .i64 k, .string X, .int .i64 n, .int .i64 a, .int .i64 l] 28)).1
  have HV1 := hide (hV.below hb1)
  have hz1 : (w.alloc (.cells #[.int .i64 k, .string X, .int .i64 n, .int .i64 a, .int .i64 l] 28)).heap.size = w.heap.size + 1 := World.size_alloc ..
  have HB1 := hide hb1
  clear hb1 hV
  unfold tokV
  have q0 : (k == 0) = false := beq_false_of_ne h0
  have q1 : (k == 1) = false := beq_false_of_ne h1
  have q2 : (k == 2) = false := beq_false_of_ne h2
  have q3 : (k == 3) = false := beq_false_of_ne h3
  have q4 : (k == 4) = true := by rw [h4]; rfl
  clear h0 h1 h2 h3 h4
  have hm : X.size ≤ maxLen := by unfold maxLen; omega
  go_enter Tryd.func7, Tryd.ntmps7
  go_wp2_with fail
  refine (quote_any X _ hs).mono ?_
  rintro e w2 ⟨rfl, b2⟩
  have HB2 := hide ((unhide HB1).trans (b2.mono (unhide HB1).size))
  clear b2
  go_wp2
  go_ret2
  exact ⟨unhide E, unhide HB2⟩

set_option maxRecDepth 100000 in
set_option maxHeartbeats 8000000 in
theorem write_end (X : ByteArray) (n a l : Int) (w : World) (hs : X.size ≤ 70368744177000) (_hn0 : -9223372036854775808 ≤ n) (_hn1 : n ≤ 9223372036854775807) (hV : Tab w) (k : Int) (h0 : k = 0) :
    Calls Tryd.prog 7 #[tokV k X n a l] w fun e w' => e = wEnd k X.data.toList n ∧ Below w.heap.size w w' := by
  have E := hide (show Ending.returned (.tuple #[.string ⟨#[]⟩, .bool true]) = wEnd k X.data.toList n by subst h0; rfl)
  have hb1 := (Below.refl w.heap.size w).alloc (Nat.le_refl _) (.cells #[.int .i64 k, .string X, .int .i64 n, .int .i64 a, .int .i64 l] 28)
  have HT1 := hide (MapKept.heap_alloc w (.cells #[.int .i64 k, .string X, .int .i64 n, .int .i64 a, .int .i64 l] 28)).1
  have HV1 := hide (hV.below hb1)
  have hz1 : (w.alloc (.cells #[.int .i64 k, .string X, .int .i64 n, .int .i64 a, .int .i64 l] 28)).heap.size = w.heap.size + 1 := World.size_alloc ..
  have HB1 := hide hb1
  clear hb1 hV
  unfold tokV
  have q0 : (k == 0) = true := by rw [h0]; rfl
  clear h0
  have hm : X.size ≤ maxLen := by unfold maxLen; omega
  go_enter Tryd.func7, Tryd.ntmps7
  go_wp2
  go_ret2
  exact ⟨unhide E, unhide HB1⟩

end Go.Proofs.YtkbgnbcphmkjkaaDoor
