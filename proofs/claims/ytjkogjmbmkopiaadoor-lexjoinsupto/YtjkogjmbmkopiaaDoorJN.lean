/- The law of Join at an empty list. -/
import Derived.Test.YtjkogjmbmkopiaaDoorJW
namespace Go.Proofs.YtjkogjmbmkopiaaDoor
open Go.RowKit

set_option maxRecDepth 100000 in
set_option maxHeartbeats 4000000 in
theorem refjoin_empty (a : Option Addr) (cap : Nat) (w : World) : Calls Tryd.prog 14 #[.slice a 0 cap] w fun e w' => e = jEnd [] ∧ Below w.heap.size w w' := by
  have hcv := own_conv (Own.nil w 0)
  have E := hide (show Ending.returned (.tuple #[.string ⟨#[]⟩, .int .i64 0]) = jEnd [] from rfl)
  go_enter Tryd.func14, Tryd.ntmps14
  go_wp2
  go_loop [4, 5] (fun v i => v = .slice none 0 0 ∧ i = .int .i64 0) (fun _ _ => 0)
  case atStart => exact ⟨rfl, rfl⟩
  case round =>
    obtain ⟨rfl, rfl⟩ := hrel
    go_wp2
    go_ret2
    exact ⟨unhide E, Below.refl _ _⟩

set_option maxHeartbeats 1000000 in
theorem same_empty (a b : Option Addr) (c d : Nat) (w : World) : Calls Tryd.prog 11 #[.slice a 0 c, .slice b 0 d] w fun e w' => e = .returned (.bool true) ∧ ∃ m, w' = w.drewN m := by
  go_enter Tryd.func11, Tryd.ntmps11
  go_wp2
  go_loop [5] (fun i => i = .int .i64 0) (fun _ => 0)
  case atStart => rfl
  case round =>
    subst hrel
    go_wp2
    go_ret
    exact ⟨rfl, 0, rfl⟩

set_option maxRecDepth 100000 in
set_option maxHeartbeats 16000000 in
theorem joins_none (cap : Nat) (w : World) (hV : Tab w) :
    Calls Tryd.prog 4 #[.slice none 0 cap] w fun e w' => e = .returned (.bool true) ∧ Below w.heap.size w w' := by
  have HV := hide hV
  have HB1 := hide ((Below.refl w.heap.size w).alloc (Nat.le_refl _) (.cells #[] 42))
  clear hV
  go_enter Tryd.func4, Tryd.ntmps4
  go_wp2_with fail
  generalize w.alloc (.cells #[] 42) = w1 at *
  have HO1 := hide (show RRow w1 w.heap.size 0 [] from ⟨fun h => absurd h (by decide), fun i hi => absurd hi (Nat.not_lt_zero i)⟩)
  have HV1 := hide ((unhide HV).below (unhide HB1))
  have hs1 := (unhide HB1).size
  go_wp2_with fail
  refine (lexjoin_any (l := []) (cap := 0) lexwrite_ok (unhide HO1) ⟨by decide, fun x hx => by cases hx⟩ (unhide HV1)).mono ?_
  rintro e w2 ⟨rfl, b2⟩
  have HB2 := hide ((unhide HB1).trans (b2.mono hs1))
  clear b2 HB1 HO1 HV1
  have EJ : jEnd [] = Ending.returned (.tuple #[.string ⟨#[]⟩, .int .i64 0]) := rfl
  rw [EJ]
  go_wp2_with fail
  refine (refjoin_empty none cap _).mono ?_
  rintro e w3 ⟨rfl, b3⟩
  have HB3 := hide ((unhide HB2).trans (b3.mono (unhide HB2).size))
  clear b3 HB2
  rw [EJ]
  go_wp2_with fail
  refine (same_empty _ _ _ _ _).mono ?_
  rintro e w4 ⟨rfl, m4, rfl⟩
  have HB := hide (below_dn (unhide HB3) m4)
  generalize w3.drewN m4 = s0 at *
  clear HB3 EJ
  go_wp2_with fail
  refine (lexsigns_any _).mono ?_
  rintro e s1 ⟨rfl, e1⟩
  have HB1 := hide (show Below w.heap.size w s1 by rw [e1]; exact (unhide HB).alloc (unhide HB).size _)
  have HSR := hide (show s1.rowIs s0.heap.size 9 27 (fun j => .string (sx sgl j)) by rw [e1]; exact signs_row s0)
  have hs1 := (unhide HB1).size
  have hs0 : w.heap.size ≤ s0.heap.size := (unhide HB).size
  clear e1 HB
  go_wp2
  go_loopw [10] (fun i wr => ∃ k : Nat, k ≤ 27 ∧ i = .int .i64 (k : Int) ∧ Below w.heap.size w wr ∧ ∃ f, wr.rowIs s0.heap.size 9 27 f) (fun i _ => 27 - (intOf i).toNat)
  case atStart => exact ⟨0, by omega, rfl, unhide HB1, _, unhide HSR⟩
  case round =>
    obtain ⟨k, hk, rfl, hB, f, hrow⟩ := hrel
    have HB2 := hide hB
    have HR2 := hide hrow
    by_cases hlt : k < 27
    · have c := hrow.cell hlt
      have fz := fun i => hrow.frozen i
      clear hB hrow
      go_wp2
      go_roundw
      case rel => exact ⟨k + 1, by omega, by go_num, (unhide HB2).setCell hs0 _, _, (unhide HR2).set k _⟩
      case measure => simp [intOf]; omega
    · clear hB hrow
      obtain ⟨wq, rfl⟩ : ∃ q, q = wr := ⟨_, rfl⟩
      go_wp2_with fail
      refine (lexsigns_any _).mono ?_
      rintro e s3 ⟨rfl, e3⟩
      have HB3 := hide (show Below w.heap.size w s3 by rw [e3]; exact (unhide HB2).alloc (unhide HB2).size _)
      have HA3 := hide (show StrsAt s3 wq.heap.size sgl by rw [e3]; exact strsAt_new wq 9 sgl)
      have hz3 : wq.heap.size < s3.heap.size := by rw [e3, World.size_alloc]; omega
      clear e3
      go_wp2_with fail
      refine (refsigns_any _).mono ?_
      rintro e s4 ⟨rfl, e4⟩
      have HB4 := hide (show Below w.heap.size w s4 by rw [e4]; exact (unhide HB3).alloc (unhide HB3).size _)
      have HA4 := hide (show StrsAt s4 s3.heap.size sgl by rw [e4]; exact strsAt_new s3 9 sgl)
      have HA5 := hide (show StrsAt s4 wq.heap.size sgl by rw [e4]; exact (unhide HA3).below hz3 ((Below.refl _ _).alloc (Nat.le_refl _) _))
      clear e4
      go_wp2
      go_loopw [13] (fun i wr => ∃ k m : Nat, k ≤ 27 ∧ i = .int .i64 (k : Int) ∧ wr = s4.drewN m) (fun i _ => 27 - (intOf i).toNat)
      case atStart => exact ⟨0, 0, by omega, rfl, rfl⟩
      case round =>
        obtain ⟨j, m, hj, rfl, hw⟩ := hrel
        by_cases hlt2 : j < 27
        · have x1 : wr.cell? ⟨wq.heap.size, j, none⟩ = some (.string (sx sgl j)) := by rw [hw]; exact (unhide HA5).cell j hlt2
          have x2 : wr.cell? ⟨s3.heap.size, j, none⟩ = some (.string (sx sgl j)) := by rw [hw]; exact (unhide HA4).cell j hlt2
          have HW := hide hw
          clear hw
          go_wp2
          go_quiet (fail)
          go_wp2
          go_roundw
          case rel => exact ⟨j + 1, m + nq, by omega, by go_num, by rw [unhide HW, World.drewN_drewN]⟩
          case measure => simp [intOf]; omega
        · have HBf := hide (show Below w.heap.size w wr by rw [hw]; exact below_dn (unhide HB4) m)
          clear hw
          go_wp2
          go_ret
          exact ⟨rfl, unhide HBf⟩

set_option maxRecDepth 100000 in
set_option maxHeartbeats 16000000 in
theorem joins_zero (x : Addr) (cap : Nat) (w : World) (hV : Tab w) :
    Calls Tryd.prog 4 #[.slice (some x) 0 cap] w fun e w' => e = .returned (.bool true) ∧ Below w.heap.size w w' := by
  obtain ⟨i0, hi0, hz0, hz1, hz2⟩ := info_parts Tryd.infoT
  have HV := hide hV
  have HB0 := hide ((Below.refl w.heap.size w).alloc (Nat.le_refl _) (.cells #[] 42))
  clear hV
  go_enter Tryd.func4, Tryd.ntmps4
  go_wp2_with (first | (at_builtin; refine wpList_append_own _ rfl _ _ 22 rfl w.heap.size 42 i0 zeroTok 5 48 Tryd.underlying22 hi0 hz0 hz1 hz2 rfl (by decide) _ _ _ rfl (own_empty w) x 0 cap [] rfl rfl (fun j u h => by cases h) (fun u h => by cases h) (by decide) (by decide) (by rw [World.size_alloc]; omega) ?_) | fail)
  intro v' w1 hv hgrow hnn
  obtain ⟨g, cp, rfl, hg, hrow⟩ := own_rrow' (l := []) hv hnn
  have HB1 := hide ((unhide HB0).grown hgrow (by rw [World.size_alloc]; omega) (fun j e => by cases e; exact Nat.le_refl _))
  clear hv hgrow hnn hrow HB0 hg
  have HO1 := hide (show RRow w1 g 0 [] from ⟨fun h => absurd h (by decide), fun i hi => absurd hi (Nat.not_lt_zero i)⟩)
  have HV1 := hide ((unhide HV).below (unhide HB1))
  have hs1 := (unhide HB1).size
  go_wp2_with fail
  refine (lexjoin_any (l := []) (cap := cp) lexwrite_ok (unhide HO1) ⟨by decide, fun x hx => by cases hx⟩ (unhide HV1)).mono ?_
  rintro e w2 ⟨rfl, b2⟩
  have HB2 := hide ((unhide HB1).trans (b2.mono hs1))
  clear b2 HB1 HO1 HV1
  have EJ : jEnd [] = Ending.returned (.tuple #[.string ⟨#[]⟩, .int .i64 0]) := rfl
  rw [EJ]
  go_wp2_with fail
  refine (refjoin_empty (some x) cap _).mono ?_
  rintro e w3 ⟨rfl, b3⟩
  have HB3 := hide ((unhide HB2).trans (b3.mono (unhide HB2).size))
  clear b3 HB2
  rw [EJ]
  go_wp2_with fail
  refine (same_empty _ _ _ _ _).mono ?_
  rintro e w4 ⟨rfl, m4, rfl⟩
  have HB := hide (below_dn (unhide HB3) m4)
  generalize w3.drewN m4 = s0 at *
  clear HB3 EJ
  go_wp2_with fail
  refine (lexsigns_any _).mono ?_
  rintro e s1 ⟨rfl, e1⟩
  have HB1 := hide (show Below w.heap.size w s1 by rw [e1]; exact (unhide HB).alloc (unhide HB).size _)
  have HSR := hide (show s1.rowIs s0.heap.size 9 27 (fun j => .string (sx sgl j)) by rw [e1]; exact signs_row s0)
  have hs1 := (unhide HB1).size
  have hs0 : w.heap.size ≤ s0.heap.size := (unhide HB).size
  clear e1 HB
  go_wp2
  go_loopw [10] (fun i wr => ∃ k : Nat, k ≤ 27 ∧ i = .int .i64 (k : Int) ∧ Below w.heap.size w wr ∧ ∃ f, wr.rowIs s0.heap.size 9 27 f) (fun i _ => 27 - (intOf i).toNat)
  case atStart => exact ⟨0, by omega, rfl, unhide HB1, _, unhide HSR⟩
  case round =>
    obtain ⟨k, hk, rfl, hB, f, hrow⟩ := hrel
    have HB2 := hide hB
    have HR2 := hide hrow
    by_cases hlt : k < 27
    · have c := hrow.cell hlt
      have fz := fun i => hrow.frozen i
      clear hB hrow
      go_wp2
      go_roundw
      case rel => exact ⟨k + 1, by omega, by go_num, (unhide HB2).setCell hs0 _, _, (unhide HR2).set k _⟩
      case measure => simp [intOf]; omega
    · clear hB hrow
      obtain ⟨wq, rfl⟩ : ∃ q, q = wr := ⟨_, rfl⟩
      go_wp2_with fail
      refine (lexsigns_any _).mono ?_
      rintro e s3 ⟨rfl, e3⟩
      have HB3 := hide (show Below w.heap.size w s3 by rw [e3]; exact (unhide HB2).alloc (unhide HB2).size _)
      have HA3 := hide (show StrsAt s3 wq.heap.size sgl by rw [e3]; exact strsAt_new wq 9 sgl)
      have hz3 : wq.heap.size < s3.heap.size := by rw [e3, World.size_alloc]; omega
      clear e3
      go_wp2_with fail
      refine (refsigns_any _).mono ?_
      rintro e s4 ⟨rfl, e4⟩
      have HB4 := hide (show Below w.heap.size w s4 by rw [e4]; exact (unhide HB3).alloc (unhide HB3).size _)
      have HA4 := hide (show StrsAt s4 s3.heap.size sgl by rw [e4]; exact strsAt_new s3 9 sgl)
      have HA5 := hide (show StrsAt s4 wq.heap.size sgl by rw [e4]; exact (unhide HA3).below hz3 ((Below.refl _ _).alloc (Nat.le_refl _) _))
      clear e4
      go_wp2
      go_loopw [13] (fun i wr => ∃ k m : Nat, k ≤ 27 ∧ i = .int .i64 (k : Int) ∧ wr = s4.drewN m) (fun i _ => 27 - (intOf i).toNat)
      case atStart => exact ⟨0, 0, by omega, rfl, rfl⟩
      case round =>
        obtain ⟨j, m, hj, rfl, hw⟩ := hrel
        by_cases hlt2 : j < 27
        · have x1 : wr.cell? ⟨wq.heap.size, j, none⟩ = some (.string (sx sgl j)) := by rw [hw]; exact (unhide HA5).cell j hlt2
          have x2 : wr.cell? ⟨s3.heap.size, j, none⟩ = some (.string (sx sgl j)) := by rw [hw]; exact (unhide HA4).cell j hlt2
          have HW := hide hw
          clear hw
          go_wp2
          go_quiet (fail)
          go_wp2
          go_roundw
          case rel => exact ⟨j + 1, m + nq, by omega, by go_num, by rw [unhide HW, World.drewN_drewN]⟩
          case measure => simp [intOf]; omega
        · have HBf := hide (show Below w.heap.size w wr by rw [hw]; exact below_dn (unhide HB4) m)
          clear hw
          go_wp2
          go_ret
          exact ⟨rfl, unhide HBf⟩

theorem joins_any {w : World} {a : Option Addr} {len cap : Nat} (hV : Tab w) (h : len = 0 ∨ ∃ b off, ∃ l : List RT, a = some ⟨b, off, none⟩ ∧ l.length = len ∧ RRow w b off l ∧ RFit l) :
    Calls Tryd.prog 4 #[.slice a len cap] w fun e w' => e = .returned (.bool true) ∧ Below w.heap.size w w' := by
  rcases h with rfl | ⟨b, off, l, rfl, rfl, hr, hf⟩
  · cases a with
    | none => exact joins_none cap w hV
    | some x => exact joins_zero x cap w hV
  · exact joins_walk hr hf hV

end Go.Proofs.YtjkogjmbmkopiaaDoor
