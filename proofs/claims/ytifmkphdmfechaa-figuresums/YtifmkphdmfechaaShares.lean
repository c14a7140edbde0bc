/- Mean, Share, squares, Fair of the program. -/
import Derived.Test.YtifmkphdmfechaaSums
import Derived.Test.YtifmkphdmfechaaKeep
import Derived.Deep.Slices
namespace Go.Proofs.Ytifmkphdmfechaa
open Go.RowKit
attribute [local go_sem] run_store_float

theorem quo_is (x y : Nat) : quo x y = FM.fdiv x y := rfl

set_option maxHeartbeats 400000 in
theorem mean_any {a : Option Addr} {n cap : Nat} {zs : Nat → Nat} {w : World} (hR : Row w a n zs) (hn : n ≤ 17592186044416) :
    Calls Try.prog 33 #[.slice a n cap] w fun e w' => e = .returned (.float .f64 (quo (FM.fsum zs n) (floatOfInt .f64 n))) ∧ ∃ m, w' = w.drewN m := by
  have HR := hide hR
  clear hR
  cases h : Ieee.double.div (FM.fsum zs n) (floatOfInt .f64 n) with
  | some r =>
    have hq := fun t w => run_quo_some t _ _ _ w h
    have E : Hid (quo (FM.fsum zs n) (floatOfInt .f64 n) = FM.one r) := by show quo _ _ = _; unfold quo; rw [h]
    clear h
    go_enter Try.func33, Try.ntmps33
    go_wp2_with fail
    refine (sum_any (unhide HR) hn).mono ?_
    rintro e w1 ⟨rfl, m, rfl⟩
    go_wp2_with (go_at_call 11; refine (one_any _ _).mono ?_; rintro e w' ⟨rfl, rfl⟩)
    go_ret
    exact ⟨ret_float (unhide E).symm, m, rfl⟩
  | none =>
    have hq := fun t w => run_quo_none t _ _ w h
    have E : Hid (quo (FM.fsum zs n) (floatOfInt .f64 n) = 9221120237041090561) := by show quo _ _ = _; unfold quo; rw [h]
    clear h
    go_enter Try.func33, Try.ntmps33
    go_wp2_with fail
    refine (sum_any (unhide HR) hn).mono ?_
    rintro e w1 ⟨rfl, m, rfl⟩
    go_wp2_with (go_at_call 11; refine (one_any _ _).mono ?_; rintro e w' ⟨rfl, rfl⟩)
    go_ret
    exact ⟨ret_float (by rw [unhide E, one_nd]), m + 1, rfl⟩

/-- a list that is being made in block B: k of n places are filled -/
structure Fill (w : World) (B n k : Nat) (p : Nat → Nat → Prop) : Prop where
  done : ∀ i, i < k → ∃ v, w.cell? ⟨B, i, none⟩ = some (.float .f64 v) ∧ p i v
  todo : ∀ i, i < n → ∃ v, w.cell? ⟨B, i, none⟩ = some v
  froz : ∀ i, w.frozen? ⟨B, i, none⟩ = false
  lt : B < w.heap.size
  blk : Blk w B n 22

theorem mcF_size (n : Nat) : (mcF n).size = n := size_madeCells _ _

theorem Fill.start (w : World) (n : Nat) (p : Nat → Nat → Prop) : Fill (w.alloc (.cells (mcF n) 22)) w.heap.size n 0 p :=
  ⟨fun i hi => by omega, fun i hi => ⟨_, mcF_cell w n i hi⟩, fun i => World.frozen?_alloc_new _ _ _ _, by simp, by have h := Blk.new w (mcF n) 22; rw [mcF_size] at h; exact h⟩

theorem Fill.drewN {w : World} {B n k : Nat} {p : Nat → Nat → Prop} (h : Fill w B n k p) (m : Nat) : Fill (w.drewN m) B n k p := ⟨h.done, h.todo, h.froz, h.lt, h.blk⟩

theorem Fill.step {w : World} {B n k : Nat} {p : Nat → Nat → Prop} (h : Fill w B n k p) (hk : k < n) {v : Nat} (hv : p k v) : Fill (w.setCell ⟨B, k, none⟩ (.float .f64 v)) B n (k + 1) p := by
  obtain ⟨u, hu⟩ := h.todo k hk
  have hne : ∀ i, i ≠ k → (⟨B, k, none⟩ : Addr) ≠ ⟨B, i, none⟩ := fun i hi e => hi (by injection e with _ e _; exact e.symm)
  refine ⟨fun i hi => ?_, fun i hi => ?_, fun i => by rw [World.frozen?_setCell]; exact h.froz i, by rw [World.size_setCell]; exact h.lt, h.blk.set _ _⟩
  · by_cases e : i = k
    · subst e; exact ⟨v, World.cell?_setCell_same _ _ _ hu, hv⟩
    · rw [World.cell?_setCell_other _ _ _ _ (hne i e)]; exact h.done i (by omega)
  · by_cases e : i = k
    · subst e; exact ⟨_, World.cell?_setCell_same _ _ _ hu⟩
    · rw [World.cell?_setCell_other _ _ _ _ (hne i e)]; exact h.todo i hi

theorem Fill.row {w : World} {B n : Nat} {p : Nat → Nat → Prop} (h : Fill w B n n p) : ∃ ys, Row w (some ⟨B, 0, none⟩) n ys ∧ ∀ i, i < n → p i (ys i) := by
  obtain ⟨ys, hy⟩ := Deep.choose_lt (α := Nat) (p := fun i v => w.cell? ⟨B, i, none⟩ = some (.float .f64 v) ∧ p i v) h.done
  exact ⟨ys, Or.inr ⟨B, 0, rfl, h.lt, fun i hi => by rw [Nat.zero_add]; exact (hy i hi).1⟩, fun i hi => (hy i hi).2⟩

set_option maxHeartbeats 1000000 in
theorem share_any {a : Option Addr} {n cap : Nat} {zs : Nat → Nat} {w : World} (hR : Row w a n zs) (hn : n ≤ 17592186044416) :
    Calls Try.prog 29 #[.slice a n cap] w fun e w' => e = .returned (.slice (some ⟨w.heap.size, 0, none⟩) n n) ∧ Fill w' w.heap.size n n (fun i v => v = quo (zs i) (FM.fsum zs n)) ∧ Below w.heap.size w w' := by
  have HR := hide hR
  have hmk := fun w => mk_floats n w (by omega)
  clear hR
  go_enter Try.func29, Try.ntmps29
  go_wp2_with fail
  refine (sum_any (unhide HR) hn).mono ?_
  rintro e w1 ⟨rfl, m0, rfl⟩
  go_wp2
  clear hmk
  go_loopw [13] (fun i wr => ∃ k : Nat, k ≤ n ∧ i = .int .i64 k ∧ Fill wr w.heap.size n k (fun i v => v = quo (zs i) (FM.fsum zs n)) ∧ Below w.heap.size w wr) (fun i _ => n - (intOf i).toNat)
  case atStart => exact ⟨0, by omega, rfl, Fill.start (w.drewN m0) n _, ⟨rfl, rfl, rfl, by simp [World.alloc], fun k hk => Below.heap_alloc _ _ _ hk⟩⟩
  case round =>
    obtain ⟨k, hk, rfl, hF, hB⟩ := hrel
    by_cases hlt : k < n
    · obtain ⟨b, off, rfl, hb, hc⟩ := (unhide HR).at (by omega)
      have hck : wr.cell? ⟨b, off + k, none⟩ = some (.float .f64 (zs k)) := (hB.cell (p := ⟨b, off + k, none⟩) hb).trans (hc k hlt)
      obtain ⟨u, hu⟩ := hF.todo k hlt
      have hfz := hF.froz k
      have HF := hide hF
      have HB := hide hB
      clear hc hb hF hB
      cases h : Ieee.double.div (zs k) (FM.fsum zs n) with
      | some r =>
        have hq := fun t w => run_quo_some t _ _ _ w h
        have E : Hid (FM.one r = quo (zs k) (FM.fsum zs n)) := by show _ = quo _ _; unfold quo; rw [h]
        clear h
        go_wp2_with (go_at_call 11; refine (one_any _ _).mono ?_; rintro e w' ⟨rfl, rfl⟩)
        go_roundw
        case rel => exact ⟨k + 1, by omega, by go_num, (unhide HF).step hlt (unhide E), (unhide HB).setCell (p := ⟨w.heap.size, k, none⟩) (Nat.le_refl _) _⟩
        case measure => simp [intOf]; omega
      | none =>
        have hq := fun t w => run_quo_none t _ _ w h
        have E : Hid (∀ W, FM.one (nd (zs k) (FM.fsum zs n) W) = quo (zs k) (FM.fsum zs n)) := by show ∀ W, _ = quo _ _; intro W; unfold quo; rw [h, one_nd]
        clear h
        go_wp2_with (go_at_call 11; refine (one_any _ _).mono ?_; rintro e w' ⟨rfl, rfl⟩)
        go_roundw
        case rel => exact ⟨k + 1, by omega, by go_num, ((unhide HF).drewN 1).step hlt (unhide E _), (unhide HB).drew.setCell (p := ⟨w.heap.size, k, none⟩) (Nat.le_refl _) _⟩
        case measure => simp [intOf]; omega
    · have e : k = n := by omega
      subst e
      have HF := hide hF
      have HB := hide hB
      clear hF hB
      go_wp2
      go_ret
      exact ⟨rfl, unhide HF, unhide HB⟩

end Go.Proofs.Ytifmkphdmfechaa
