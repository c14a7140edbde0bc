/- The program's Join: a sign as it is written. -/
import Derived.Test.YtkbgnbcphmkjkaaDoorPv0
namespace Go.Proofs.YtkbgnbcphmkjkaaDoor
open Go.RowKit

set_option maxRecDepth 100000 in
set_option maxHeartbeats 8000000 in
theorem wsign_no (X : ByteArray) (n a l : Int) (w : World) (hs : X.size ≤ 70368744177000) (_hn0 : -9223372036854775808 ≤ n) (_hn1 : n ≤ 9223372036854775807) (hV : Tab w) (k : Int) (h5 : k = 5) (qh : has sgl X.data.toList = false) :
    Calls Tryd.prog 7 #[tokV k X n a l] w fun e w' => e = wEnd k X.data.toList n ∧ Below w.heap.size w w' := by
  have E := hide (show Ending.returned (.tuple #[.string X, .bool false]) = wEnd k X.data.toList n by
    subst h5
    show _ = Ending.returned (.tuple #[.string X, .bool (has sgl X.data.toList && !decide (X.data.toList = [59]))])
    rw [qh, Bool.false_and])
  have h0 : ¬ k = 0 := by omega
  have h1 : ¬ k = 1 := by omega
  have h2 : ¬ k = 2 := by omega
  have h3 : ¬ k = 3 := by omega
  have h4 : ¬ k = 4 := by omega
  have hb1 := (Below.refl w.heap.size w).alloc (Nat.le_refl _) (.cells #[.int .i64 k, .string X, .int .i64 n, .int .i64 a, .int .i64 l] 28)
  have HT1 := hide (MapKept.heap_alloc w (.cells #[.int .i64 k, .string X, .int .i64 n, .int .i64 a, .int .i64 l] 28)).1
  have HV1 := hide (hV.below hb1)
  have hz1 : (w.alloc (.cells #[.int .i64 k, .string X, .int .i64 n, .int .i64 a, .int .i64 l] 28)).heap.size = w.heap.size + 1 := World.size_alloc ..
  have HB1 := hide hb1
  clear hb1 hV
  unfold tokV
  have q0 : (k == 0) = false := beq_false_of_ne h0
  have q1 : (k == 1) = false := beq_false_of_ne h1
  have q2 : (k == 2) = false := beq_false_of_ne h2
  have q3 : (k == 3) = false := beq_false_of_ne h3
  have q4 : (k == 4) = false := beq_false_of_ne h4
  have q5 : (k == 5) = true := by rw [h5]; rfl
  clear h0 h1 h2 h3 h4 h5
  have hm : X.size ≤ maxLen := by unfold maxLen; omega
  have q9 : sgk X.data.toList = sgk X.data.toList := rfl
  go_enter Tryd.func7, Tryd.ntmps7
  go_wp2
  generalize w.alloc (.cells #[.int .i64 k, .string X, .int .i64 n, .int .i64 a, .int .i64 l] 28) = w1 at *
  have t0 : w1.cell? ⟨w.heap.size, 0, none⟩ = some (.int .i64 k) := by simp [World.cell?, unhide HT1]
  have t1 : w1.cell? ⟨w.heap.size, 1, none⟩ = some (.string X) := by simp [World.cell?, unhide HT1]
  have t2 : w1.cell? ⟨w.heap.size, 2, none⟩ = some (.int .i64 n) := by simp [World.cell?, unhide HT1]
  have hzd : w1.drew.heap.size = w.heap.size + 1 := hz1
  have hd : ∀ m, m ≤ w.heap.size → m < w1.drew.heap.size := fun m h => by have : w1.drew.heap.size = w1.heap.size := rfl; omega
  first
    | (go_region_with (first | (go_at_call 9; refine (lexsigns_any _).mono ?_; rintro e w2 ⟨rfl, e2⟩; have HA2 := hide (strs_newC e2 hzd); have b2 : Below w1.drew.heap.size w1.drew w2 := e2 ▸ (Below.refl w1.drew.heap.size w1.drew).alloc (Nat.le_refl _) _; clear e2; have e2 := (b2.block w.heap.size (hd _ (Nat.le_refl _))).trans (unhide HT1); have s1 : w2.cell? ⟨w.heap.size, 1, none⟩ = some (.string X) := (by simp [World.cell?, e2]); have HB2 := hide ((below_drewJ (unhide HB1)).trans (b2.mono (below_drewJ (unhide HB1)).size)); clear b2 e2) | (go_at_call 20; refine (scontains_is (unhide HA2) rfl (by decide) qh).mono ?_; rintro e w3 ⟨rfl, rfl⟩) | (go_at_call 21; refine (signkind_is q9 _).mono ?_; rintro e w4 ⟨rfl, rfl⟩)))
    | fail
  all_goals
    go_wp2
    go_ret2
    exact ⟨unhide E, unhide HB2⟩

end Go.Proofs.YtkbgnbcphmkjkaaDoor
