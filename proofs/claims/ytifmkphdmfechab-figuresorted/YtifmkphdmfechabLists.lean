/- A list of floats in memory; the statements' own copy of it, and that it still stands. -/
import Derived.Test.YtifmkphdmfechabBasic2
import Derived.Laws.IdiomCopy
namespace Go.Proofs.Ytifmkphdmfechab
open Go.RowKit

theorem run_store_float (P : Program) (w : World) (a : Addr) (m : Mode) (k : FloatKind) (b : Nat) : (store a (.float k b) m).run P w = stored P w a (.float k b) m := run_store P w a _ m rfl

attribute [local go_sem] run_store_float

/-- the first n places of a slice hold the words zs -/
def Row (w : World) (a : Option Addr) (n : Nat) (zs : Nat → Nat) : Prop :=
  n = 0 ∨ ∃ b off, a = some ⟨b, off, none⟩ ∧ b < w.heap.size ∧ ∀ i, i < n → w.cell? ⟨b, off + i, none⟩ = some (.float .f64 (zs i))

theorem Row.at {w : World} {a : Option Addr} {n : Nat} {zs : Nat → Nat} (h : Row w a n zs) (hn : 0 < n) :
    ∃ b off, a = some ⟨b, off, none⟩ ∧ b < w.heap.size ∧ ∀ i, i < n → w.cell? ⟨b, off + i, none⟩ = some (.float .f64 (zs i)) := by
  rcases h with h | h
  · omega
  · exact h

theorem Row.below {w w' : World} {a : Option Addr} {n : Nat} {zs : Nat → Nat} (h : Row w a n zs) (hb : Below w.heap.size w w') : Row w' a n zs := by
  rcases h with h | ⟨b, off, h1, h2, h3⟩
  · exact Or.inl h
  · exact Or.inr ⟨b, off, h1, Nat.lt_of_lt_of_le h2 hb.size, fun i hi => (hb.cell (p := ⟨b, off + i, none⟩) h2).trans (h3 i hi)⟩

theorem Row.drewN {w : World} {a : Option Addr} {n : Nat} {zs : Nat → Nat} (h : Row w a n zs) (m : Nat) : Row (w.drewN m) a n zs := h

theorem Row.same {w : World} {a : Option Addr} {n : Nat} {zs ys : Nat → Nat} (h : Row w a n zs) (e : ∀ i, i < n → zs i = ys i) : Row w a n ys := by
  rcases h with h | ⟨b, off, h1, h2, h3⟩
  · exact Or.inl h
  · exact Or.inr ⟨b, off, h1, h2, fun i hi => by rw [h3 i hi, e i hi]⟩

theorem Try.infoF : (Try.prog.info? 22).map (fun i => (i.zero, i.size, i.bytes)) = some (some (.float .f64 0), 1, 8) := by kernel_rfl
theorem Try.sizeF : (Try.prog.info? 22).map (fun i => i.size) = some 1 := by kernel_rfl

/-- n new cells of 0 -/
def mcF (n : Nat) : Array Value := madeCells (Value.float .f64 0).cells n

theorem mk_floats (n : Nat) (w : World) (hn : n ≤ 35184372088832) : (Instr.makeSlice 26 (.int .i64 (n : Int)) (.int .i64 (n : Int))).run Try.prog w = .ok (.slice (some ⟨w.heap.size, 0, none⟩) n n) (w.alloc (.cells (mcF n) 22)) := by
  obtain ⟨i, hi, hz0, hz1, hz2⟩ := info_parts Try.infoF
  have h := run_make (P := Try.prog) w 26 22 i (.float .f64 0) Try.underlying26 hi hz0 .i64 .i64 (n : Int) (n : Int) (by omega) (by omega) (by rw [hz2]; omega) (by omega)
  rw [hz1, Nat.mul_one, Int.toNat_natCast] at h
  exact h

theorem mcF_cell (w : World) (n j : Nat) (h : j < n) : (w.alloc (.cells (mcF n) 22)).cell? ⟨w.heap.size, j, none⟩ = some (.float .f64 0) := by
  rw [World.cell?_alloc_new]
  simp [mcF, madeCells, Value.cells, h, Nat.mod_one]

theorem below_setCells {B b : Nat} {w0 : World} (hB : B ≤ b) : ∀ (vs : List Value) (o : Nat) (w : World), Below B w0 w → Below B w0 (w.setCells b o vs)
  | [], _, _, h => h
  | v :: vs, o, w, h => below_setCells hB vs (o + 1) (w.setCell ⟨b, o, none⟩ v) (h.setCell (p := ⟨b, o, none⟩) hB v)

theorem size_setCells (b : Nat) : ∀ (vs : List Value) (o : Nat) (w : World), (w.setCells b o vs).heap.size = w.heap.size
  | [], _, _ => rfl
  | v :: vs, o, w => (size_setCells b vs (o + 1) (w.setCell ⟨b, o, none⟩ v)).trans (World.size_setCell _ _ _)

theorem own_copy {w : World} {a : Option Addr} {n cap : Nat} {zs : Nat → Nat} (hR : Row w a n zs) :
    ∃ W2, (∀ ty, (Builtin.copy_ #[26, 26] ty #[.slice (some ⟨w.heap.size, 0, none⟩) (n + 2) (n + 2), .slice a n cap]).run Try.prog (w.alloc (.cells (mcF (n + 2)) 22)) = .ok (goInt n) W2) ∧
      (∀ i, i < n → W2.cell? ⟨w.heap.size, i, none⟩ = some (.float .f64 (zs i))) ∧ W2.cell? ⟨w.heap.size, n, none⟩ = some (.float .f64 0) ∧ W2.cell? ⟨w.heap.size, n + 1, none⟩ = some (.float .f64 0) ∧
      (∀ i, W2.frozen? ⟨w.heap.size, i, none⟩ = false) ∧ Below w.heap.size w W2 ∧ W2.heap.size = w.heap.size + 1 := by
  by_cases h0 : n = 0
  · subst h0
    refine ⟨w.alloc (.cells (mcF (0 + 2)) 22), fun ty => ?_, fun i hi => by omega, mcF_cell w 2 0 (by omega), mcF_cell w 2 1 (by omega), fun i => World.frozen?_alloc_new _ _ _ _, (Below.refl _ _).alloc (Nat.le_refl _) _, by simp⟩
    exact run_copy_none _ 26 26 ty 22 _ _ _ _ _ _ Try.underlying26 Try.sizeF (by simp)
  · obtain ⟨b, off, rfl, hb, hc⟩ := hR.at (by omega)
    have hlen : ((List.range n).map fun i => Value.float .f64 (zs i)).length = n := by simp
    have hcells : ∀ j, j < n + 2 → (w.alloc (.cells (mcF (n + 2)) 22)).cell? ⟨w.heap.size, 0 + j, none⟩ = some (.float .f64 0) := fun j hj => by rw [Nat.zero_add]; exact mcF_cell w (n + 2) j hj
    have hin : ∀ i (hi : i < n), ((w.alloc (.cells (mcF (n + 2)) 22)).setCells w.heap.size 0 ((List.range n).map fun i => Value.float .f64 (zs i))).cell? ⟨w.heap.size, i, none⟩ = some (.float .f64 (zs i)) := by
      intro i hi
      have h := World.cell?_setCells_in w.heap.size ((List.range n).map fun i => Value.float .f64 (zs i)) 0 (w.alloc (.cells (mcF (n + 2)) 22)) (fun j hj => by rw [hcells j (by omega)]; rfl) i (by omega)
      rw [Nat.zero_add] at h
      rw [h]; simp
    refine ⟨(w.alloc (.cells (mcF (n + 2)) 22)).setCells w.heap.size 0 ((List.range n).map fun i => Value.float .f64 (zs i)), fun ty => ?_, hin, ?_, ?_, fun i => ?_, ?_, ?_⟩
    · have h := run_copy_cells (P := Try.prog) (w.alloc (.cells (mcF (n + 2)) 22)) 26 26 ty 22 w.heap.size 0 (n + 2) (n + 2) ⟨b, off, none⟩ n cap ((List.range n).map fun i => Value.float .f64 (zs i))
        Try.underlying26 Try.sizeF (by rw [hlen]; exact (Nat.min_eq_left (by omega)).symm)
        (fun j v hj => by
          have hj' : j < n := by
            rcases Nat.lt_or_ge j n with h | h
            · exact h
            · rw [List.getElem?_eq_none (by omega)] at hj; cases hj
          have hv : v = .float .f64 (zs j) := by
            rw [List.getElem?_map, List.getElem?_range hj'] at hj
            simpa using hj.symm
          subst hv
          have hplain : (⟨b, off, none⟩ : Addr).add j = ⟨b, off + j, none⟩ := by unfold Addr.add; split <;> simp_all
          rw [hplain, World.cell?_alloc_lt _ _ _ hb]
          exact hc j hj')
        (fun j hj => by rw [hcells j (by omega)]; rfl) (fun j _ => World.frozen?_alloc_new _ _ _ _) (by intro v hv; simp only [List.mem_map] at hv; obtain ⟨_, _, rfl⟩ := hv; rfl)
      rw [hlen] at h
      exact h
    · rw [World.cell?_setCells_out _ _ _ _ _ (fun _ _ => by right; simp)]
      exact mcF_cell w (n + 2) n (by omega)
    · rw [World.cell?_setCells_out _ _ _ _ _ (fun _ _ => by right; simp)]
      exact mcF_cell w (n + 2) (n + 1) (by omega)
    · rw [World.frozen?_setCells]; exact World.frozen?_alloc_new _ _ _ _
    · exact below_setCells (Nat.le_refl _) _ _ _ ((Below.refl _ _).alloc (Nat.le_refl _) _)
    · rw [size_setCells]; simp

/-- the copy stands in block B: the list, and the marks behind it -/
structure Mine (w' : World) (B n : Nat) (zs : Nat → Nat) : Prop where
  cell : ∀ i, i < n → w'.cell? ⟨B, i, none⟩ = some (.float .f64 (zs i))
  m77 : w'.cell? ⟨B, n, none⟩ = some (.float .f64 4635118810238550016)
  m78 : w'.cell? ⟨B, n + 1, none⟩ = some (.float .f64 4635189178982727680)
  lt : B < w'.heap.size

theorem Mine.below {w w' : World} {B n : Nat} {zs : Nat → Nat} (h : Mine w B n zs) (hb : Below w.heap.size w w') : Mine w' B n zs :=
  ⟨fun i hi => (hb.cell (p := ⟨B, i, none⟩) h.lt).trans (h.cell i hi), (hb.cell (p := ⟨B, n, none⟩) h.lt).trans h.m77, (hb.cell (p := ⟨B, n + 1, none⟩) h.lt).trans h.m78, Nat.lt_of_lt_of_le h.lt hb.size⟩

theorem Mine.drewN {w : World} {B n : Nat} {zs : Nat → Nat} (h : Mine w B n zs) (m : Nat) : Mine (w.drewN m) B n zs := ⟨h.cell, h.m77, h.m78, h.lt⟩

theorem Mine.row {w : World} {B n : Nat} {zs : Nat → Nat} (h : Mine w B n zs) : Row w (some ⟨B, 0, none⟩) n zs :=
  Or.inr ⟨B, 0, rfl, h.lt, fun i hi => by rw [Nat.zero_add]; exact h.cell i hi⟩

theorem own_end {w W2 : World} {n : Nat} {zs : Nat → Nat}
    (h1 : ∀ i, i < n → W2.cell? ⟨w.heap.size, i, none⟩ = some (.float .f64 (zs i))) (h2 : W2.cell? ⟨w.heap.size, n, none⟩ = some (.float .f64 0)) (h3 : W2.cell? ⟨w.heap.size, n + 1, none⟩ = some (.float .f64 0))
    (h6 : W2.heap.size = w.heap.size + 1) :
    Mine ((W2.setCell ⟨w.heap.size, n, none⟩ (.float .f64 4635118810238550016)).setCell ⟨w.heap.size, n + 1, none⟩ (.float .f64 4635189178982727680)) w.heap.size n zs := by
  have hne : ∀ i j, i ≠ j → (⟨w.heap.size, i, none⟩ : Addr) ≠ ⟨w.heap.size, j, none⟩ := fun i j h e => h (by injection e)
  refine ⟨fun i hi => ?_, ?_, ?_, ?_⟩
  · rw [World.cell?_setCell_other _ _ _ _ (hne _ _ (by omega)), World.cell?_setCell_other _ _ _ _ (hne _ _ (by omega))]; exact h1 i hi
  · rw [World.cell?_setCell_other _ _ _ _ (hne _ _ (by omega)), World.cell?_setCell_same _ _ _ h2]
  · rw [World.cell?_setCell_same (u := .float .f64 0) _ _ _ (by rw [World.cell?_setCell_other _ _ _ _ (hne _ _ (by omega))]; exact h3)]
  · rw [World.size_setCell, World.size_setCell, h6]; omega

theorem f77 : (FloatKind.f64.format.order 4635118810238550016 4635118810238550016 == some Ordering.eq) = true := by decide +kernel
theorem f78 : (FloatKind.f64.format.order 4635189178982727680 4635189178982727680 == some Ordering.eq) = true := by decide +kernel

end Go.Proofs.Ytifmkphdmfechab
