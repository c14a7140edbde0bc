/- Layer 12: the landed ring of int's: how it lies; its calls. -/
import Derived.Test.YtfheeifllpnjaaaRa
import Derived.Test.YtfheeifllpnjaaaRt
namespace Go.Proofs.Ytfheeifllpnjaaa
open Go.RowKit

def vfI (x : Int) : Value := Value.int .i64 x

/-- the ring lies in block p, its places in block g -/
structure RgI (w : World) (B : Nat) (F : Nat → Prop) (p : Nat) (xs : List Int) (n g f : Nat) (pl : List Int) : Prop where
  box : w.heap[p]? = some (.cells #[.slice (some ⟨g, 0, none⟩) n n, .int .i64 (f : Int), .int .i64 (xs.length : Int)] 60 (0, 0))
  row : w.heap[g]? = some (.cells (pl.map vfI).toArray 3 (0, 0))
  lies : Lies xs pl n f
  lo : B ≤ p
  lg : B ≤ g
  n1 : n ≤ 100
  foot : ∀ x, F x ↔ x = p ∨ x = g

section
variable {w w' : World} {B : Nat} {F : Nat → Prop} {p : Nat} {xs : List Int} {n g f : Nat} {pl : List Int}

theorem RgI.ne (h : RgI w B F p xs n g f pl) : g ≠ p := fun e => by
  have h1 := h.box
  rw [← e, h.row] at h1
  injection h1 with h1
  injection h1 with _ h1 _
  exact absurd h1 (by decide)
theorem RgI.cells (h : RgI w B F p xs n g f pl) : w.cell? ⟨p, 0, none⟩ = some (.slice (some ⟨g, 0, none⟩) n n) ∧ w.cell? ⟨p, 1, none⟩ = some (.int .i64 (f : Int)) ∧ w.cell? ⟨p, 2, none⟩ = some (.int .i64 (xs.length : Int)) := by
  simp [Lib.cell_of_heap h.box]
theorem RgI.fz (h : RgI w B F p xs n g f pl) (o : Nat) : w.frozen? ⟨p, o, none⟩ = false ∧ w.frozen? ⟨g, o, none⟩ = false :=
  ⟨by simp [World.frozen?, h.box], by simp [World.frozen?, h.row]⟩
theorem RgI.cell (h : RgI w B F p xs n g f pl) {i : Nat} {x : Int} (hi : pl[i]? = some x) : w.cell? ⟨g, i, none⟩ = some (vfI x) := by
  simp [Lib.cell_of_heap h.row, hi]
theorem RgI.lt_p (h : RgI w B F p xs n g f pl) : p < w.heap.size := (Array.getElem?_eq_some_iff.1 h.box).1
theorem RgI.lt_g (h : RgI w B F p xs n g f pl) : g < w.heap.size := (Array.getElem?_eq_some_iff.1 h.row).1
theorem RgI.ch {Q : Nat → Prop} (h : RgI w B F p xs n g f pl) (hc : Ch Q w w') (hq : ∀ x, F x → ¬ Q x) : RgI w' B F p xs n g f pl :=
  ⟨hc.box h.box (hq _ ((h.foot p).2 (Or.inl rfl))), hc.box h.row (hq _ ((h.foot g).2 (Or.inr rfl))), h.lies, h.lo, h.lg, h.n1, h.foot⟩
theorem RgI.below (h : RgI w B F p xs n g f pl) (hb : Below w.heap.size w w') : RgI w' B F p xs n g f pl := h.ch (Ch.of_below (Q := fun _ => False) hb) (fun _ _ h => h)

theorem info_I : (Try.prog.info? 3).map (fun i => (i.zero, i.size, i.bytes)) = some (some (Value.int .i64 0), 1, 8) := by kernel_rfl

theorem makeI (w : World) (n : Nat) (h2 : n ≤ 100) : ∃ w', (Instr.makeSlice 29 (.int .i64 (n : Int)) (.int .i64 (n : Int))).run Try.prog w = .ok (.slice (some ⟨w.heap.size, 0, none⟩) n n) w' ∧ w'.heap[w.heap.size]? = some (.cells ((List.replicate n (0 : Int)).map vfI).toArray 3 (0, 0)) ∧ Below w.heap.size w w' := by
  obtain ⟨i0, hi0, hz0, hz1, hz2⟩ := nf_open info_I
  obtain ⟨w', h, hr, hg⟩ := run_makeSlice_full w w.heap.size 29 3 i0 _ 1 Try.underlying29 hi0 hz0 hz1 .i64 .i64 n (by omega) (by rw [hz2]; omega) (by unfold maxLen; omega) (Nat.le_refl _)
  refine ⟨w', h, ?_, ⟨hg.os, hg.tape, hg.output, hg.size, fun b hb => hg.block b hb (by simp)⟩⟩
  obtain ⟨-, ⟨h1, -⟩ | ⟨g', cap, cur, h1, h2, h3, h4, h5, h6, h7⟩⟩ := hr
  · cases h1
  · cases h1
    rw [h3]
    have e : cur.toList = (List.replicate n (0 : Int)).map vfI := by
      rw [List.take_of_length_le (by rw [Array.length_toList]; omega)] at h7
      rw [h7]
      apply List.ext_getElem
      · simp [size_madeCells]
      · intro i hi1 hi2
        have ec : (Value.int .i64 0).cells = #[Value.int .i64 0] := rfl
        unfold madeCells
        simp [vfI, ec, Nat.mod_one]
    rw [← e, Array.toArray_toList]

theorem new_noI (w : World) (m : Int) (hm : (decide (0 ≤ m) && decide (m ≤ 100)) = false) : Calls Try.prog 8 #[.int .i64 m] w fun e w' => e = .returned (.tuple #[.pointer none, .int .i64 1]) ∧ Below w.heap.size w w' := by
  by_cases h1 : 0 ≤ m
  · have h2 : ¬ m ≤ 100 := fun h => by simp [h1, h] at hm
    have q1 : decide (m < 0) = false := decide_eq_false (by omega)
    have q2 : decide (100 < m) = true := decide_eq_true (by omega)
    clear hm
    go_enter Try.func8, Try.ntmps8
    go_wp2
    go_ret2
    exact ⟨rfl, Below.refl _ _⟩
  · have q1 : decide (m < 0) = true := decide_eq_true (by omega)
    clear hm
    go_enter Try.func8, Try.ntmps8
    go_wp2
    go_ret2
    exact ⟨rfl, Below.refl _ _⟩

theorem new_isI (w : World) (m : Int) (n : Nat) (hm : m = n) (h2 : n ≤ 100) : Calls Try.prog 8 #[.int .i64 m] w fun e w' => ∃ p g F, e = .returned (.tuple #[.pointer (some ⟨p, 0, none⟩), .int .i64 0]) ∧ RgI w' w.heap.size F p [] n g 0 (List.replicate n 0) ∧ Below w.heap.size w w' := by
  subst hm
  have q1 : decide ((n : Int) < 0) = false := decide_eq_false (by omega)
  have q2 : decide (100 < (n : Int)) = false := decide_eq_false (by omega)
  obtain ⟨w1, hmk, hrow, hb⟩ := makeI w n h2
  have HR := hide hrow
  have HB := hide hb
  clear hrow hb
  go_enter Try.func8, Try.ntmps8
  go_wp2
  go_ret2
  refine ⟨w1.heap.size, w.heap.size, fun x => x = w1.heap.size ∨ x = w.heap.size, rfl, ⟨?_, ?_, Lies.new _ n, HB.out.size, Nat.le_refl _, h2, fun x => Iff.rfl⟩, HB.out.trans ((below1 _ _).mono HB.out.size)⟩
  · exact heap_new _ _
  · exact (Ch.alloc (Q := fun _ => False) _ _).box HR.out (fun h => h)

theorem len_isI (h : RgI w B F p xs n g f pl) : Calls Try.prog 16 #[.pointer (some ⟨p, 0, none⟩)] w fun e w' => e = .returned (.int .i64 (xs.length : Int)) ∧ w' = w := by
  obtain ⟨-, -, c2⟩ := h.cells
  go_enter Try.func16, Try.ntmps16
  go_wp2
  go_ret
  exact ⟨rfl, rfl⟩

theorem cap_isI (h : RgI w B F p xs n g f pl) : Calls Try.prog 18 #[.pointer (some ⟨p, 0, none⟩)] w fun e w' => e = .returned (.int .i64 (n : Int)) ∧ w' = w := by
  obtain ⟨c0, -, -⟩ := h.cells
  go_enter Try.func18, Try.ntmps18
  go_wp2
  go_ret
  exact ⟨rfl, rfl⟩

theorem place_isI (h : w.cell? ⟨p, 0, none⟩ = some (.slice (some ⟨g, 0, none⟩) n n)) (h1 : w.cell? ⟨p, 1, none⟩ = some (.int .i64 (f : Int))) (hf : f ≤ 100) (hn : n ≤ 100) (i q : Nat) (hi : i ≤ 100) (hq : plc n f i = q) : Calls Try.prog 25 #[.pointer (some ⟨p, 0, none⟩), .int .i64 (i : Int)] w fun e w' => e = .returned (.int .i64 (q : Int)) ∧ w' = w := by
  subst hq
  have e1 : IntKind.i64.wrap ((f : Int) + (i : Int)) = (f : Int) + (i : Int) := by rw [IntKind.wrap_i64]; omega
  unfold plc
  by_cases hb : n ≤ f + i
  · have q1 : decide ((n : Int) ≤ (f : Int) + (i : Int)) = true := decide_eq_true (by omega)
    have e2 : IntKind.i64.wrap ((f : Int) + (i : Int) - (n : Int)) = (f : Int) + (i : Int) - (n : Int) := by rw [IntKind.wrap_i64]; omega
    rw [if_pos hb]
    have HB := hide hb
    clear hb
    go_enter Try.func25, Try.ntmps25
    go_wp2
    go_ret
    exact ⟨ret_int (by have := HB.out; omega), rfl⟩
  · have q1 : decide ((n : Int) ≤ (f : Int) + (i : Int)) = false := decide_eq_false (by omega)
    rw [if_neg hb]
    have HB := hide hb
    clear hb
    go_enter Try.func25, Try.ntmps25
    go_wp2
    go_ret
    exact ⟨ret_int (by have := HB.out; omega), rfl⟩

end
end Go.Proofs.Ytfheeifllpnjaaa
