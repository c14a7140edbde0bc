/- squares and Fair of the program. -/
import Derived.Test.YtifmkphdmfechabShares
namespace Go.Proofs.Ytifmkphdmfechab
open Go.RowKit
attribute [local go_sem] run_store_float

set_option maxHeartbeats 1000000 in
theorem squares_any {a : Option Addr} {n cap : Nat} {zs : Nat → Nat} {w : World} (hR : Row w a n zs) (hn : n ≤ 17592186044416) :
    Calls Try.prog 24 #[.slice a n cap] w fun e w' => e = .returned (.slice (some ⟨w.heap.size, 0, none⟩) n n) ∧ Fill w' w.heap.size n n (fun i v => FM.one v = FM.fmul (zs i) (zs i)) ∧ Below w.heap.size w w' := by
  have HR := hide hR
  have hmk := fun w => mk_floats n w (by omega)
  clear hR
  go_enter Try.func24, Try.ntmps24
  go_wp2
  clear hmk
  go_loopw [10] (fun i wr => ∃ k : Nat, k ≤ n ∧ i = .int .i64 k ∧ Fill wr w.heap.size n k (fun i v => FM.one v = FM.fmul (zs i) (zs i)) ∧ Below w.heap.size w wr) (fun i _ => n - (intOf i).toNat)
  case atStart => exact ⟨0, by omega, rfl, Fill.start w n _, (Below.refl _ _).alloc (Nat.le_refl _) _⟩
  case round =>
    obtain ⟨k, hk, rfl, hF, hB⟩ := hrel
    by_cases hlt : k < n
    · obtain ⟨b, off, rfl, hb, hc⟩ := (unhide HR).at (by omega)
      have hck : wr.cell? ⟨b, off + k, none⟩ = some (.float .f64 (zs k)) := (hB.cell (p := ⟨b, off + k, none⟩) hb).trans (hc k hlt)
      obtain ⟨u, hu⟩ := hF.todo k hlt
      have hfz := hF.froz k
      have HF := hide hF
      have HB := hide hB
      clear hc hb hF hB
      cases h : Ieee.double.mul (zs k) (zs k) with
      | some r =>
        have hq := fun t w => run_mul_some t _ _ _ w h
        have E : Hid (FM.one r = FM.fmul (zs k) (zs k)) := by show _ = FM.can _; rw [h]; rfl
        clear h
        go_wp2
        go_region
        all_goals go_wp2
        go_roundw
        case rel => exact ⟨k + 1, by omega, by go_num, ((unhide HF).step hlt (unhide E)).drewN 1, ((unhide HB).setCell (p := ⟨w.heap.size, k, none⟩) (Nat.le_refl _) _).drew⟩
        case measure => simp [intOf]; omega
      | none =>
        have hq := fun t w => run_mul_none t _ _ w h
        have E : Hid (∀ W, FM.one (nd (zs k) (zs k) W) = FM.fmul (zs k) (zs k)) := by show ∀ W, _ = FM.can _; intro W; rw [h, one_nd]; rfl
        clear h
        go_wp2
        go_region
        all_goals go_wp2
        go_roundw
        case rel => exact ⟨k + 1, by omega, by go_num, ((unhide HF).step hlt (unhide E _)).drewN 2, ((unhide HB).setCell (p := ⟨w.heap.size, k, none⟩) (Nat.le_refl _) _).drew.drew⟩
        case measure => simp [intOf]; omega
    · have e : k = n := by omega
      subst e
      have HF := hide hF
      have HB := hide hB
      clear hF hB
      go_wp2
      go_ret
      exact ⟨rfl, unhide HF, unhide HB⟩

/-- a product, whatever the tape says; the world behind it -/
def mv (x y : Nat) (w : World) : Nat × World := match Ieee.double.mul x y with
  | some r => (r, w)
  | none => (nd x y w, w.drew)

def dv (x y : Nat) (w : World) : Nat × World := match Ieee.double.div x y with
  | some r => (r, w)
  | none => (nd x y w, w.drew)

theorem mv_run (t : TypeId) (x y : Nat) (w : World) : (binOp .mul t (.float .f64 x) (.float .f64 y)).run Try.prog w = .ok (.float .f64 (mv x y w).1) (mv x y w).2 := by
  unfold mv
  cases h : Ieee.double.mul x y with
  | some r => exact run_mul_some t x y r w h
  | none => exact run_mul_none t x y w h

theorem mv_one (x y : Nat) (w : World) : FM.one (mv x y w).1 = FM.fmul x y := by
  unfold mv FM.fmul
  cases h : Ieee.double.mul x y with
  | some r => rfl
  | none => exact one_nd x y w

theorem mv_drew (x y : Nat) (w : World) : ∃ m, (mv x y w).2 = w.drewN m := by
  unfold mv
  cases h : Ieee.double.mul x y with
  | some r => exact ⟨0, rfl⟩
  | none => exact ⟨1, rfl⟩

theorem dv_run (t : TypeId) (x y : Nat) (w : World) : (binOp .quo t (.float .f64 x) (.float .f64 y)).run Try.prog w = .ok (.float .f64 (dv x y w).1) (dv x y w).2 := by
  unfold dv
  cases h : Ieee.double.div x y with
  | some r => exact run_quo_some t x y r w h
  | none => exact run_quo_none t x y w h

theorem dv_one (x y : Nat) (w : World) : FM.one (dv x y w).1 = FM.fdiv x y := by
  unfold dv FM.fdiv
  cases h : Ieee.double.div x y with
  | some r => rfl
  | none => exact one_nd x y w

theorem dv_drew (x y : Nat) (w : World) : ∃ m, (dv x y w).2 = w.drewN m := by
  unfold dv
  cases h : Ieee.double.div x y with
  | some r => exact ⟨0, rfl⟩
  | none => exact ⟨1, rfl⟩

attribute [local go_sem] mv_run dv_run

/-- what Fair answers -/
def fairv (zs : Nat → Nat) (n : Nat) : Nat := FM.fdiv (FM.fmul (FM.fsum zs n) (FM.fsum zs n)) (FM.fmul (floatOfInt .f64 n) (FM.fsum (fun i => FM.fmul (zs i) (zs i)) n))

theorem fair_of {zs ys : Nat → Nat} {n r1 r2 : Nat} (hy : ∀ i, i < n → FM.one (ys i) = FM.fmul (zs i) (zs i)) (h1 : FM.one r1 = FM.fmul (FM.fsum zs n) (FM.fsum zs n)) (h2 : FM.one r2 = FM.fmul (floatOfInt .f64 n) (FM.fsum ys n)) :
    FM.fdiv r1 r2 = fairv zs n := by
  have e : FM.fsum ys n = FM.fsum (fun i => FM.fmul (zs i) (zs i)) n := FM.fsum_same n fun i hi => by rw [hy i hi]; exact (FM.one_can _).symm
  rw [e] at h2
  unfold fairv FM.fdiv
  refine FM.blind_div.same ?_ ?_
  · rw [h1]; exact (FM.one_can _).symm
  · rw [h2]; exact (FM.one_can _).symm

theorem below_in {w w2 : World} {m0 m1 : Nat} (h : Below ((w.drewN m0).drewN m1).heap.size ((w.drewN m0).drewN m1) w2) (k : Nat) : Below w.heap.size w (w2.drewN k) := ⟨h.os, h.tape, h.output, h.size, h.block⟩

set_option maxHeartbeats 1000000 in
theorem fair_any {a : Option Addr} {n cap : Nat} {zs : Nat → Nat} {w : World} (hR : Row w a n zs) (hn : n ≤ 17592186044416) :
    Calls Try.prog 12 #[.slice a n cap] w fun e w' => e = .returned (.float .f64 (fairv zs n)) ∧ Below w.heap.size w w' := by
  have HR := hide hR
  clear hR
  go_enter Try.func12, Try.ntmps12
  go_wp2_with fail
  refine (sum_any (unhide HR) hn).mono ?_
  rintro e w1 ⟨rfl, m0, rfl⟩
  go_wp2_with fail
  obtain ⟨m1, hm1⟩ := mv_drew (FM.fsum zs n) (FM.fsum zs n) (w.drewN m0)
  have H1 := hide (mv_one (FM.fsum zs n) (FM.fsum zs n) (w.drewN m0))
  generalize mv (FM.fsum zs n) (FM.fsum zs n) (w.drewN m0) = R1 at *
  obtain ⟨r1, W1⟩ := R1
  simp only at hm1 H1 ⊢
  subst hm1
  refine (squares_any ((unhide HR).drewN _ |>.drewN _) hn).mono ?_
  rintro e w2 ⟨rfl, hF, hB⟩
  obtain ⟨ys, hys, hy⟩ := hF.row
  have HB := hide hB
  have HY := hide hy
  have HYS := hide hys
  clear hF hB hy hys
  go_wp2_with fail
  refine (sum_any (unhide HYS) hn).mono ?_
  rintro e w3 ⟨rfl, m3, rfl⟩
  go_wp2_with fail
  obtain ⟨m4, hm4⟩ := mv_drew (floatOfInt .f64 n) (FM.fsum ys n) (w2.drewN m3)
  have H2 := hide (mv_one (floatOfInt .f64 n) (FM.fsum ys n) (w2.drewN m3))
  generalize mv (floatOfInt .f64 n) (FM.fsum ys n) (w2.drewN m3) = R2 at *
  obtain ⟨r2, W2⟩ := R2
  simp only at hm4 H2 ⊢
  subst hm4
  obtain ⟨m5, hm5⟩ := dv_drew r1 r2 ((w2.drewN m3).drewN m4)
  have H3 := hide ((dv_one r1 r2 ((w2.drewN m3).drewN m4)).trans (fair_of (unhide HY) (unhide H1) (unhide H2)))
  generalize dv r1 r2 ((w2.drewN m3).drewN m4) = R3 at *
  obtain ⟨r3, W3⟩ := R3
  simp only at hm5 H3 ⊢
  subst hm5
  refine (one_any _ _).mono ?_
  rintro e w4 ⟨rfl, rfl⟩
  go_wp2
  go_ret
  exact ⟨ret_float (unhide H3), below_in (unhide HB) _⟩

end Go.Proofs.Ytifmkphdmfechab
