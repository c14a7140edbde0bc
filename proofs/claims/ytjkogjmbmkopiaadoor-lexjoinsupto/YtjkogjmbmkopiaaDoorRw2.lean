/- The document's Join: a sign as it is written; any token. -/
import Derived.Test.YtjkogjmbmkopiaaDoorRw
import Derived.Test.YtjkogjmbmkopiaaDoorPv0
namespace Go.Proofs.YtjkogjmbmkopiaaDoor
open Go.RowKit

set_option maxRecDepth 100000 in
set_option maxHeartbeats 8000000 in
theorem rw_sign (X : ByteArray) (n a l : Int) (last : Bool) (w : World) (hs : X.size ≤ 70368744177000) (_hn0 : -9223372036854775808 ≤ n) (_hn1 : n ≤ 9223372036854775807) (k : Int) (h5 : k = 5) :
    Calls Tryd.prog 30 #[tokV k X n a l, .bool last] w fun e w' => e = rEnd k X.data.toList n last ∧ Below w.heap.size w w' := by
  have E := hide (show Ending.returned (.tuple #[.string X, .bool (has sgl X.data.toList && !decide (X.data.toList = [59]))]) = rEnd k X.data.toList n last by subst h5; rfl)
  have h0 : ¬ k = 0 := by omega
  have h1 : ¬ k = 1 := by omega
  have h2 : ¬ k = 2 := by omega
  have h3 : ¬ k = 3 := by omega
  have h4 : ¬ k = 4 := by omega
  have hb1 := (Below.refl w.heap.size w).alloc (Nat.le_refl _) (.cells #[.int .i64 k, .string X, .int .i64 n, .int .i64 a, .int .i64 l] 42)
  have HT1 := hide (MapKept.heap_alloc w (.cells #[.int .i64 k, .string X, .int .i64 n, .int .i64 a, .int .i64 l] 42)).1
  have hz1 : (w.alloc (.cells #[.int .i64 k, .string X, .int .i64 n, .int .i64 a, .int .i64 l] 42)).heap.size = w.heap.size + 1 := World.size_alloc ..
  have HB1 := hide hb1
  clear hb1
  unfold tokV
  have q0 : (k == 0) = false := beq_false_of_ne h0
  have q1 : (k == 1) = false := beq_false_of_ne h1
  have q2 : (k == 2) = false := beq_false_of_ne h2
  have q3 : (k == 3) = false := beq_false_of_ne h3
  have q4 : (k == 4) = false := beq_false_of_ne h4
  have q5 : (k == 5) = true := by rw [h5]; rfl
  clear h0 h1 h2 h3 h4 h5
  have hm : X.size ≤ maxLen := by unfold maxLen; omega
  have x1 := eqb X [59]
  cases qh : has sgl X.data.toList
  · rw [qh, Bool.false_and] at E
    go_enter Tryd.func30, Tryd.ntmps30
    go_wp2
    generalize w.alloc (.cells #[.int .i64 k, .string X, .int .i64 n, .int .i64 a, .int .i64 l] 42) = w1 at *
    have t0 : w1.cell? ⟨w.heap.size, 0, none⟩ = some (.int .i64 k) := by simp [World.cell?, unhide HT1]
    have t1 : w1.cell? ⟨w.heap.size, 1, none⟩ = some (.string X) := by simp [World.cell?, unhide HT1]
    have t2 : w1.cell? ⟨w.heap.size, 2, none⟩ = some (.int .i64 n) := by simp [World.cell?, unhide HT1]
    have hzd : w1.drew.heap.size = w.heap.size + 1 := hz1
    have hd : ∀ m, m ≤ w.heap.size → m < w1.drew.heap.size := fun m h => by have : w1.drew.heap.size = w1.heap.size := rfl; omega
    go_region_with (first | (go_at_call 16; refine (refsigns_any _).mono ?_; rintro e w2 ⟨rfl, e2⟩; have HA2 := hide (strs_newC e2 hzd); have b2 : Below w1.drew.heap.size w1.drew w2 := e2 ▸ (Below.refl w1.drew.heap.size w1.drew).alloc (Nat.le_refl _) _; clear e2; have e2 := (b2.block w.heap.size (hd _ (Nat.le_refl _))).trans (unhide HT1); have s0 : w2.cell? ⟨w.heap.size, 0, none⟩ = some (.int .i64 k) := (by simp [World.cell?, e2]); have s1 : w2.cell? ⟨w.heap.size, 1, none⟩ = some (.string X) := (by simp [World.cell?, e2]); have HB2 := hide ((below_drewJ (unhide HB1)).trans (b2.mono (below_drewJ (unhide HB1)).size)); have HT2 := hide e2; clear b2 e2) | (go_at_call 33; refine (one_any X (unhide HA2) rfl (by decide)).mono ?_; rintro e w3 ⟨rfl, rfl⟩))
    all_goals
      go_wp2
      go_quiet (fail)
      have HB3 := hide (below_dn (unhide HB2) nq)
      go_wp2
      go_ret2
      exact ⟨unhide E, unhide HB3⟩
  · rw [qh, Bool.true_and] at E
    by_cases h9 : X.data.toList = [59]
    · rw [decide_eq_true h9] at x1 E
      clear h9
      go_enter Tryd.func30, Tryd.ntmps30
      go_wp2
      generalize w.alloc (.cells #[.int .i64 k, .string X, .int .i64 n, .int .i64 a, .int .i64 l] 42) = w1 at *
      have t0 : w1.cell? ⟨w.heap.size, 0, none⟩ = some (.int .i64 k) := by simp [World.cell?, unhide HT1]
      have t1 : w1.cell? ⟨w.heap.size, 1, none⟩ = some (.string X) := by simp [World.cell?, unhide HT1]
      have t2 : w1.cell? ⟨w.heap.size, 2, none⟩ = some (.int .i64 n) := by simp [World.cell?, unhide HT1]
      have hzd : w1.drew.heap.size = w.heap.size + 1 := hz1
      have hd : ∀ m, m ≤ w.heap.size → m < w1.drew.heap.size := fun m h => by have : w1.drew.heap.size = w1.heap.size := rfl; omega
      go_region_with (first | (go_at_call 16; refine (refsigns_any _).mono ?_; rintro e w2 ⟨rfl, e2⟩; have HA2 := hide (strs_newC e2 hzd); have b2 : Below w1.drew.heap.size w1.drew w2 := e2 ▸ (Below.refl w1.drew.heap.size w1.drew).alloc (Nat.le_refl _) _; clear e2; have e2 := (b2.block w.heap.size (hd _ (Nat.le_refl _))).trans (unhide HT1); have s0 : w2.cell? ⟨w.heap.size, 0, none⟩ = some (.int .i64 k) := (by simp [World.cell?, e2]); have s1 : w2.cell? ⟨w.heap.size, 1, none⟩ = some (.string X) := (by simp [World.cell?, e2]); have HB2 := hide ((below_drewJ (unhide HB1)).trans (b2.mono (below_drewJ (unhide HB1)).size)); have HT2 := hide e2; clear b2 e2) | (go_at_call 33; refine (one_any X (unhide HA2) rfl (by decide)).mono ?_; rintro e w3 ⟨rfl, rfl⟩))
      all_goals
        go_wp2
        go_quiet (fail)
        have HB3 := hide (below_dn (unhide HB2) nq)
        go_wp2
        go_ret2
        exact ⟨unhide E, unhide HB3⟩
    · rw [decide_eq_false h9] at x1 E
      clear h9
      go_enter Tryd.func30, Tryd.ntmps30
      go_wp2
      generalize w.alloc (.cells #[.int .i64 k, .string X, .int .i64 n, .int .i64 a, .int .i64 l] 42) = w1 at *
      have t0 : w1.cell? ⟨w.heap.size, 0, none⟩ = some (.int .i64 k) := by simp [World.cell?, unhide HT1]
      have t1 : w1.cell? ⟨w.heap.size, 1, none⟩ = some (.string X) := by simp [World.cell?, unhide HT1]
      have t2 : w1.cell? ⟨w.heap.size, 2, none⟩ = some (.int .i64 n) := by simp [World.cell?, unhide HT1]
      have hzd : w1.drew.heap.size = w.heap.size + 1 := hz1
      have hd : ∀ m, m ≤ w.heap.size → m < w1.drew.heap.size := fun m h => by have : w1.drew.heap.size = w1.heap.size := rfl; omega
      go_region_with (first | (go_at_call 16; refine (refsigns_any _).mono ?_; rintro e w2 ⟨rfl, e2⟩; have HA2 := hide (strs_newC e2 hzd); have b2 : Below w1.drew.heap.size w1.drew w2 := e2 ▸ (Below.refl w1.drew.heap.size w1.drew).alloc (Nat.le_refl _) _; clear e2; have e2 := (b2.block w.heap.size (hd _ (Nat.le_refl _))).trans (unhide HT1); have s0 : w2.cell? ⟨w.heap.size, 0, none⟩ = some (.int .i64 k) := (by simp [World.cell?, e2]); have s1 : w2.cell? ⟨w.heap.size, 1, none⟩ = some (.string X) := (by simp [World.cell?, e2]); have HB2 := hide ((below_drewJ (unhide HB1)).trans (b2.mono (below_drewJ (unhide HB1)).size)); have HT2 := hide e2; clear b2 e2) | (go_at_call 33; refine (one_any X (unhide HA2) rfl (by decide)).mono ?_; rintro e w3 ⟨rfl, rfl⟩))
      all_goals
        go_wp2
        go_quiet (fail)
        have HB3 := hide (below_dn (unhide HB2) nq)
        go_wp2
        go_ret2
        exact ⟨unhide E, unhide HB3⟩

theorem rw_none {k : Int} {t : List UInt8} {n : Int} {last : Bool} (h0 : ¬ k = 0) (h1 : ¬ k = 1) (h2 : ¬ k = 2) (h3 : ¬ k = 3) (h4 : ¬ k = 4) (h5 : ¬ k = 5) (h6 : ¬ k = 6) : Ending.returned (.tuple #[.string ⟨#[]⟩, .bool false]) = rEnd k t n last := by
  unfold rEnd wtx wok
  rw [if_neg (by omega), if_neg h3, if_neg h4, if_neg h6, if_neg h0, if_neg (by omega), if_neg h1, if_neg h2, if_neg h3, if_neg h5, if_neg h6]

set_option maxHeartbeats 4000000 in
theorem written_any (k : Int) (X : ByteArray) (n a l : Int) (last : Bool) (w : World) (hs : X.size ≤ 70368744177000) (hn0 : -9223372036854775808 ≤ n) (hn1 : n ≤ 9223372036854775807) :
    Calls Tryd.prog 30 #[tokV k X n a l, .bool last] w fun e w' => e = rEnd k X.data.toList n last ∧ Below w.heap.size w w' := by
  by_cases h0 : k = 0
  · exact rw_end X n a l last w hs hn0 hn1 k h0
  by_cases h1 : k = 1
  · exact rw_name X n a l last w hs hn0 hn1 k h1
  by_cases h2 : k = 2
  · exact rw_word X n a l last w hs hn0 hn1 k h2
  by_cases h3 : k = 3
  · exact rw_int X n a l last w hs hn0 hn1 k h3
  by_cases h4 : k = 4
  · exact rw_text X n a l last w hs hn0 hn1 k h4
  by_cases h5 : k = 5
  · exact rw_sign X n a l last w hs hn0 hn1 k h5
  by_cases h6 : k = 6
  · exact rw_semi X n a l last w hs hn0 hn1 k h6
  have E := hide (rw_none (t := X.data.toList) (n := n) (last := last) h0 h1 h2 h3 h4 h5 h6)
  unfold tokV
  have q0 : (k == 0) = false := beq_false_of_ne h0
  have q1 : (k == 1) = false := beq_false_of_ne h1
  have q2 : (k == 2) = false := beq_false_of_ne h2
  have q3 : (k == 3) = false := beq_false_of_ne h3
  have q4 : (k == 4) = false := beq_false_of_ne h4
  have q5 : (k == 5) = false := beq_false_of_ne h5
  have q6 : (k == 6) = false := beq_false_of_ne h6
  clear h0 h1 h2 h3 h4 h5 h6
  go_enter Tryd.func30, Tryd.ntmps30
  go_wp2
  go_ret2
  exact ⟨unhide E, (Below.refl w.heap.size w).alloc (Nat.le_refl _) _⟩

end Go.Proofs.YtjkogjmbmkopiaaDoor
