/- Mean, Share, squares, Fair of the program. -/
import Derived.Test.YtifmkphdmfechabSums
import Derived.Test.YtifmkphdmfechabKeep
import Derived.Deep.Slices
namespace Go.Proofs.Ytifmkphdmfechab
open Go.RowKit
attribute [local go_sem] run_store_float

theorem quo_is (x y : Nat) : quo x y = FM.fdiv x y := rfl

/-- a list that is being made in block B: k of n places are filled -/
structure Fill (w : World) (B n k : Nat) (p : Nat → Nat → Prop) : Prop where
  done : ∀ i, i < k → ∃ v, w.cell? ⟨B, i, none⟩ = some (.float .f64 v) ∧ p i v
  todo : ∀ i, i < n → ∃ v, w.cell? ⟨B, i, none⟩ = some v
  froz : ∀ i, w.frozen? ⟨B, i, none⟩ = false
  lt : B < w.heap.size
  blk : Blk w B n 22

theorem mcF_size (n : Nat) : (mcF n).size = n := size_madeCells _ _

theorem Fill.start (w : World) (n : Nat) (p : Nat → Nat → Prop) : Fill (w.alloc (.cells (mcF n) 22)) w.heap.size n 0 p :=
  ⟨fun i hi => by omega, fun i hi => ⟨_, mcF_cell w n i hi⟩, fun i => World.frozen?_alloc_new _ _ _ _, by simp, by have h := Blk.new w (mcF n) 22; rw [mcF_size] at h; exact h⟩

theorem Fill.drewN {w : World} {B n k : Nat} {p : Nat → Nat → Prop} (h : Fill w B n k p) (m : Nat) : Fill (w.drewN m) B n k p := ⟨h.done, h.todo, h.froz, h.lt, h.blk⟩

theorem Fill.step {w : World} {B n k : Nat} {p : Nat → Nat → Prop} (h : Fill w B n k p) (hk : k < n) {v : Nat} (hv : p k v) : Fill (w.setCell ⟨B, k, none⟩ (.float .f64 v)) B n (k + 1) p := by
  obtain ⟨u, hu⟩ := h.todo k hk
  have hne : ∀ i, i ≠ k → (⟨B, k, none⟩ : Addr) ≠ ⟨B, i, none⟩ := fun i hi e => hi (by injection e with _ e _; exact e.symm)
  refine ⟨fun i hi => ?_, fun i hi => ?_, fun i => by rw [World.frozen?_setCell]; exact h.froz i, by rw [World.size_setCell]; exact h.lt, h.blk.set _ _⟩
  · by_cases e : i = k
    · subst e; exact ⟨v, World.cell?_setCell_same _ _ _ hu, hv⟩
    · rw [World.cell?_setCell_other _ _ _ _ (hne i e)]; exact h.done i (by omega)
  · by_cases e : i = k
    · subst e; exact ⟨_, World.cell?_setCell_same _ _ _ hu⟩
    · rw [World.cell?_setCell_other _ _ _ _ (hne i e)]; exact h.todo i hi

theorem Fill.row {w : World} {B n : Nat} {p : Nat → Nat → Prop} (h : Fill w B n n p) : ∃ ys, Row w (some ⟨B, 0, none⟩) n ys ∧ ∀ i, i < n → p i (ys i) := by
  obtain ⟨ys, hy⟩ := Deep.choose_lt (α := Nat) (p := fun i v => w.cell? ⟨B, i, none⟩ = some (.float .f64 v) ∧ p i v) h.done
  exact ⟨ys, Or.inr ⟨B, 0, rfl, h.lt, fun i hi => by rw [Nat.zero_add]; exact (hy i hi).1⟩, fun i hi => (hy i hi).2⟩

end Go.Proofs.Ytifmkphdmfechab
