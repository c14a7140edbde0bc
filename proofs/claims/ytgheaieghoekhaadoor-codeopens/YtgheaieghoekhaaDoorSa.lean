/- Same of a program and the same program. -/
import Derived.Test.YtgheaieghoekhaaDoorCl
namespace Go.Proofs.YtgheaieghoekhaaDoor
open Go.RowKit

set_option maxHeartbeats 4000000 in
theorem samef_is {N : Nat} {w : World} (f : Fu) {va vb : Value} (ha : Lst N 4 (InAt w) va f.cd) (hb : Lst N 4 (InAt w) vb f.cd) (hN : N ≤ w.heap.size) :
    Calls Tryd.prog 27 #[fv f va, fv f vb] w fun e w' => e = .returned (.bool true) ∧ Below w.heap.size w w' := by
  obtain ⟨b1, o1, ⟨a1, c1, rfl, hc1, hm1, hs1⟩, hl1⟩ := ha
  obtain ⟨b2, o2, ⟨a2, c2, rfl, hc2, hm2, hs2⟩, hl2⟩ := hb
  have q1 : (f.nm.toList != f.nm.toList) = false := by simp
  have q2 : (f.pa != f.pa) = false := by simp
  have q3 : (f.sl != f.sl) = false := by simp
  have q4 : (f.rs != f.rs) = false := by simp
  go_enter Tryd.func27, Tryd.ntmps27
  go_wp2
  go_loopw [5] (fun i wr => ∃ k : Nat, k ≤ f.cd.length ∧ i = .int .i64 k ∧ ∃ m, wr = ((w.alloc (.cells #[.string f.nm, .int .i64 f.pa, .int .i64 f.sl, .bool f.rs, .slice a1 f.cd.length c1] 51)).alloc (.cells #[.string f.nm, .int .i64 f.pa, .int .i64 f.sl, .bool f.rs, .slice a2 f.cd.length c2] 51)).drewN m) (fun i _ => f.cd.length - (intOf i).toNat)
  case atStart => exact ⟨0, Nat.zero_le _, rfl, 0, rfl⟩
  case round =>
    obtain ⟨k, hk, rfl, m, rfl⟩ := hrel
    by_cases hlt : k < f.cd.length
    · obtain ⟨rfl, hb1⟩ := hs1 (by omega)
      obtain ⟨rfl, hb2⟩ := hs2 (by omega)
      have hb1' : b1 < w.heap.size := by omega
      have hb2' : b2 < w.heap.size := by omega
      obtain ⟨g1, g2, g3, g4⟩ := hl1 k hlt
      obtain ⟨k1, k2, k3, k4⟩ := hl2 k hlt
      generalize f.cd[k] = x at *
      clear hl1 hl2 hs1 hs2 q1 q2 q3 q4
      go_wp2
      go_quiet (fail)
      go_wp2
      go_roundw
      case rel => exact ⟨k + 1, by omega, by go_num, _, rfl⟩
      case measure => simp [intOf]; omega
    · clear q1 q2 q3 q4
      go_wp2
      go_ret
      exact ⟨rfl, bdr (below2 _ _ _) _⟩

set_option maxRecDepth 100000 in
set_option maxHeartbeats 8000000 in
theorem same_is {N : Nat} {w : World} {v1 v2 v3 u1 u2 u3 : Value} {p : Pg} (ha : PgAt N w v1 v2 v3 p) (hb : PgAt N w u1 u2 u3 p) (hN : N ≤ w.heap.size) :
    Calls Tryd.prog 11 #[pv v1 v2 v3 p.mn, pv u1 u2 u3 p.mn] w fun e w' => e = .returned (.bool true) ∧ Below w.heap.size w w' := by
  obtain ⟨⟨b1, o1, ⟨a1, c1, rfl, hc1, hm1, hs1⟩, hl1⟩, ⟨b2, o2, ⟨a2, c2, rfl, hc2, hm2, hs2⟩, hl2⟩, ⟨b3, o3, ⟨a3, c3, rfl, hc3, hm3, hs3⟩, hl3⟩⟩ := ha
  obtain ⟨⟨f1, g1, ⟨d1, e1, rfl, hd1, -, ht1⟩, hk1⟩, ⟨f2, g2, ⟨d2, e2, rfl, hd2, -, ht2⟩, hk2⟩, ⟨f3, g3, ⟨d3, e3, rfl, hd3, -, ht3⟩, hk3⟩⟩ := hb
  have q1 : (p.mn != p.mn) = false := by simp
  obtain ⟨W, hW⟩ : ∃ W, W = (w.alloc (.cells #[.slice a1 p.fs.length c1, .slice a2 p.ps.length c2, .slice a3 p.ar.length c3, .int .i64 p.mn] 26)).alloc (.cells #[.slice d1 p.fs.length e1, .slice d2 p.ps.length e2, .slice d3 p.ar.length e3, .int .i64 p.mn] 26) := ⟨_, rfl⟩
  have hb0 : Below w.heap.size w W := by rw [hW]; exact below2 w _ _
  have hsW : W.heap.size = w.heap.size + 2 := by rw [hW]; simp
  have n0 : W.heap[w.heap.size]? = some (.cells #[.slice a1 p.fs.length c1, .slice a2 p.ps.length c2, .slice a3 p.ar.length c3, .int .i64 p.mn] 26 (0, 0)) := by rw [hW, Below.heap_alloc _ _ _ (by simp)]; exact (MapKept.heap_alloc w _).1
  have n1 : W.heap[w.heap.size + 1]? = some (.cells #[.slice d1 p.fs.length e1, .slice d2 p.ps.length e2, .slice d3 p.ar.length e3, .int .i64 p.mn] 26 (0, 0)) := by
    have := (MapKept.heap_alloc (w.alloc (.cells #[.slice a1 p.fs.length c1, .slice a2 p.ps.length c2, .slice a3 p.ar.length c3, .int .i64 p.mn] 26)) (.cells #[.slice d1 p.fs.length e1, .slice d2 p.ps.length e2, .slice d3 p.ar.length e3, .int .i64 p.mn] 26)).1
    rw [World.size_alloc] at this
    rw [hW]
    exact this
  have HB0 := hide hb0
  have H1 := hide hl1
  have H2 := hide hl2
  have H3 := hide hl3
  have K1 := hide hk1
  have K2 := hide hk2
  have K3 := hide hk3
  have S1 := hide hs1
  have S2 := hide hs2
  have S3 := hide hs3
  have T1 := hide ht1
  have T2 := hide ht2
  have T3 := hide ht3
  have N0 := hide n0
  have N1 := hide n1
  have HW := hide hW
  clear hl1 hl2 hl3 hk1 hk2 hk3 hs1 hs2 hs3 ht1 ht2 ht3 hb0 n0 n1 hW
  go_enter Tryd.func11, Tryd.ntmps11
  go_wp2
  rw [← unhide HW]
  go_loopw [5] (fun i wr => ∃ k : Nat, k ≤ p.fs.length ∧ i = .int .i64 k ∧ Below W.heap.size W wr) (fun i _ => p.fs.length - (intOf i).toNat)
  case atStart => exact ⟨0, Nat.zero_le _, rfl, Below.refl _ _⟩
  case round =>
    obtain ⟨k, hk, rfl, hB⟩ := hrel
    have hsz := hB.size
    have m0 := (hB.block w.heap.size (by omega)).trans (unhide N0)
    have m1 := (hB.block (w.heap.size + 1) (by omega)).trans (unhide N1)
    have x0 : wr.cell? ⟨w.heap.size, 0, none⟩ = some (.slice a1 p.fs.length c1) := by simp [World.cell?, m0]
    have x1 : wr.cell? ⟨w.heap.size, 1, none⟩ = some (.slice a2 p.ps.length c2) := by simp [World.cell?, m0]
    have z0 : wr.cell? ⟨w.heap.size + 1, 0, none⟩ = some (.slice d1 p.fs.length e1) := by simp [World.cell?, m1]
    by_cases hlt : k < p.fs.length
    · obtain ⟨rfl, hb1⟩ := unhide S1 (by omega)
      obtain ⟨rfl, hf1⟩ := unhide T1 (by omega)
      have hBN : Below N w wr := ((unhide HB0).mono hN).trans (hB.mono (by omega))
      obtain ⟨v, r1, r2, r3, r4, r5, r6⟩ := FuAt.below hBN hb1 (unhide H1 k hlt)
      obtain ⟨u, t1, t2, t3, t4, t5, t6⟩ := FuAt.below hBN hf1 (unhide K1 k hlt)
      generalize p.fs[k] = x at *
      have R6 := hide r6
      have T6 := hide t6
      obtain ⟨ya, yb, ⟨yc, yd, rfl, -⟩, -⟩ := r6
      obtain ⟨za, zb, ⟨zc, zd, rfl, -⟩, -⟩ := t6
      have HB := hide hB
      clear hB hBN m0 m1 x1 q1
      go_wp2
      go_region_with (first | (go_at_call 27; refine (samef_is x (code_below (Below.refl _ _).drew (unhide R6)) (code_below (Below.refl _ _).drew (unhide T6)) (show N ≤ wr.drew.heap.size by show N ≤ wr.heap.size; omega)).mono ?_; rintro e w8 ⟨rfl, hB8⟩; have HB8 := hide hB8; clear hB8))
      all_goals
        go_wp2
        go_roundw
        case rel => exact ⟨k + 1, by omega, by go_num, (unhide HB).trans (((Below.refl _ _).drew.trans (unhide HB8)).mono hsz)⟩
        case measure => simp [intOf]; omega
    · have m0' := m0
      have HB := hide hB
      obtain ⟨wq, rfl⟩ : ∃ x, x = wr := ⟨_, rfl⟩
      clear hB m0 m1 m0' x1 z0 q1
      go_wp2
      clear x0
      go_loopw [7] (fun i wr => ∃ k : Nat, k ≤ p.ps.length ∧ i = .int .i64 k ∧ Below W.heap.size W wr) (fun i _ => p.ps.length - (intOf i).toNat)
      case atStart => exact ⟨0, Nat.zero_le _, rfl, unhide HB⟩
      case round =>
        obtain ⟨k, hk, rfl, hB⟩ := hrel
        have hsz := hB.size
        have m0 := (hB.block w.heap.size (by omega)).trans (unhide N0)
        have m1 := (hB.block (w.heap.size + 1) (by omega)).trans (unhide N1)
        have x1 : wr.cell? ⟨w.heap.size, 1, none⟩ = some (.slice a2 p.ps.length c2) := by simp [World.cell?, m0]
        have z1 : wr.cell? ⟨w.heap.size + 1, 1, none⟩ = some (.slice d2 p.ps.length e2) := by simp [World.cell?, m1]
        by_cases hlt : k < p.ps.length
        · obtain ⟨rfl, hb2⟩ := unhide S2 (by omega)
          obtain ⟨rfl, hf2⟩ := unhide T2 (by omega)
          have hBN : Below N w wr := ((unhide HB0).mono hN).trans (hB.mono (by omega))
          obtain ⟨v, r1, ya, yb, ⟨yc, yd, rfl, yl, ym, ys⟩, yk⟩ := PrAt.below hBN hb2 (unhide H2 k hlt)
          obtain ⟨u, t1, za, zb, ⟨zc, zd, rfl, zl, zm, zs⟩, zk⟩ := PrAt.below hBN hf2 (unhide K2 k hlt)
          rw [Nat.mul_one] at r1 t1
          generalize p.ps[k] = x at *
          have HB := hide hB
          have YK := hide yk
          have ZK := hide zk
          have YS := hide ys
          have ZS := hide zs
          clear hB hBN m0 m1 yk zk ys zs
          obtain ⟨wp, rfl⟩ : ∃ x, x = wr := ⟨_, rfl⟩
          go_wp2
          go_quiet (fail)
          go_wp2
          go_loopw [8] (fun i wr => ∃ j : Nat, j ≤ x.length ∧ i = .int .i64 j ∧ ∃ m, wr = wp.drewN m) (fun i _ => x.length - (intOf i).toNat)
          case atStart => exact ⟨0, Nat.zero_le _, rfl, _, rfl⟩
          case round =>
            obtain ⟨j, hj, rfl, m, rfl⟩ := hrel
            by_cases hlt2 : j < x.length
            · obtain ⟨rfl, hya⟩ := unhide YS (by omega)
              obtain ⟨rfl, hza⟩ := unhide ZS (by omega)
              obtain ⟨i1, i2⟩ := unhide YK j hlt2
              obtain ⟨j1, j2⟩ := unhide ZK j hlt2
              generalize x[j] = y at *
              go_wp2
              go_quiet (fail)
              go_wp2
              go_roundw
              case rel => exact ⟨j + 1, by omega, by go_num, _, rfl⟩
              case measure => simp [intOf]; omega
            · go_wp2
              go_roundw
              case rel => exact ⟨k + 1, by omega, by go_num, bdr (unhide HB) _⟩
              case measure => simp [intOf]; omega
        · have HB := hide hB
          obtain ⟨wp, rfl⟩ : ∃ x, x = wr := ⟨_, rfl⟩
          clear hB m0 m1 z1
          go_wp2
          clear x1
          go_loopw [9] (fun i wr => ∃ k : Nat, k ≤ p.ar.length ∧ i = .int .i64 k ∧ Below W.heap.size W wr) (fun i _ => p.ar.length - (intOf i).toNat)
          case atStart => exact ⟨0, Nat.zero_le _, rfl, unhide HB⟩
          case round =>
            obtain ⟨k, hk, rfl, hB⟩ := hrel
            have hsz := hB.size
            have m0 := (hB.block w.heap.size (by omega)).trans (unhide N0)
            have m1 := (hB.block (w.heap.size + 1) (by omega)).trans (unhide N1)
            have x1 : wr.cell? ⟨w.heap.size, 2, none⟩ = some (.slice a3 p.ar.length c3) := by simp [World.cell?, m0]
            have z1 : wr.cell? ⟨w.heap.size + 1, 2, none⟩ = some (.slice d3 p.ar.length e3) := by simp [World.cell?, m1]
            by_cases hlt : k < p.ar.length
            · obtain ⟨rfl, hb2⟩ := unhide S3 (by omega)
              obtain ⟨rfl, hf2⟩ := unhide T3 (by omega)
              have hBN : Below N w wr := ((unhide HB0).mono hN).trans (hB.mono (by omega))
              obtain ⟨v, r1, ya, yb, ⟨yc, yd, rfl, yl, ym, ys⟩, yk⟩ := ArAt.below hBN hb2 (unhide H3 k hlt)
              obtain ⟨u, t1, za, zb, ⟨zc, zd, rfl, zl, zm, zs⟩, zk⟩ := ArAt.below hBN hf2 (unhide K3 k hlt)
              rw [Nat.mul_one] at r1 t1
              generalize p.ar[k] = x at *
              have HB := hide hB
              have YK := hide yk
              have ZK := hide zk
              have YS := hide ys
              have ZS := hide zs
              clear hB hBN m0 m1 yk zk ys zs
              obtain ⟨ws, rfl⟩ : ∃ x, x = wr := ⟨_, rfl⟩
              go_wp2
              go_quiet (fail)
              go_wp2
              go_loopw [10] (fun i wr => ∃ j : Nat, j ≤ x.length ∧ i = .int .i64 j ∧ ∃ m, wr = ws.drewN m) (fun i _ => x.length - (intOf i).toNat)
              case atStart => exact ⟨0, Nat.zero_le _, rfl, _, rfl⟩
              case round =>
                obtain ⟨j, hj, rfl, m, rfl⟩ := hrel
                by_cases hlt2 : j < x.length
                · obtain ⟨rfl, hya⟩ := unhide YS (by omega)
                  obtain ⟨rfl, hza⟩ := unhide ZS (by omega)
                  have i1 := unhide YK j hlt2
                  have j1 := unhide ZK j hlt2
                  unfold BoAt at i1 j1
                  rw [Nat.mul_one] at i1 j1
                  generalize x[j] = y at *
                  have qy : (y != y) = false := by simp
                  go_wp2
                  go_quiet (fail)
                  go_wp2
                  go_roundw
                  case rel => exact ⟨j + 1, by omega, by go_num, _, rfl⟩
                  case measure => simp [intOf]; omega
                · go_wp2
                  go_roundw
                  case rel => exact ⟨k + 1, by omega, by go_num, bdr (unhide HB) _⟩
                  case measure => simp [intOf]; omega
            · have HB := hide hB
              clear hB m0 m1
              go_wp2
              go_ret
              exact ⟨rfl, (unhide HB0).trans ((unhide HB).mono (by omega))⟩

end Go.Proofs.YtgheaieghoekhaaDoor
