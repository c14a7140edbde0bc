/- Layer 12: the landed ring of string's: how it lies; its calls. -/
import Derived.Test.YtfheeifllpnjaaaRa
import Derived.Test.YtfheeifllpnjaaaRt
namespace Go.Proofs.Ytfheeifllpnjaaa
open Go.RowKit

def vfS (x : ByteArray) : Value := Value.string x

/-- the ring lies in block p, its places in block g -/
structure RgS (w : World) (B : Nat) (F : Nat → Prop) (p : Nat) (xs : List ByteArray) (n g f : Nat) (pl : List ByteArray) : Prop where
  box : w.heap[p]? = some (.cells #[.slice (some ⟨g, 0, none⟩) n n, .int .i64 (f : Int), .int .i64 (xs.length : Int)] 64 (0, 0))
  row : w.heap[g]? = some (.cells (pl.map vfS).toArray 9 (0, 0))
  lies : Lies xs pl n f
  lo : B ≤ p
  lg : B ≤ g
  n1 : n ≤ 100
  foot : ∀ x, F x ↔ x = p ∨ x = g

section
variable {w w' : World} {B : Nat} {F : Nat → Prop} {p : Nat} {xs : List ByteArray} {n g f : Nat} {pl : List ByteArray}

theorem RgS.ne (h : RgS w B F p xs n g f pl) : g ≠ p := fun e => by
  have h1 := h.box
  rw [← e, h.row] at h1
  injection h1 with h1
  injection h1 with _ h1 _
  exact absurd h1 (by decide)
theorem RgS.cells (h : RgS w B F p xs n g f pl) : w.cell? ⟨p, 0, none⟩ = some (.slice (some ⟨g, 0, none⟩) n n) ∧ w.cell? ⟨p, 1, none⟩ = some (.int .i64 (f : Int)) ∧ w.cell? ⟨p, 2, none⟩ = some (.int .i64 (xs.length : Int)) := by
  simp [Lib.cell_of_heap h.box]
theorem RgS.fz (h : RgS w B F p xs n g f pl) (o : Nat) : w.frozen? ⟨p, o, none⟩ = false ∧ w.frozen? ⟨g, o, none⟩ = false :=
  ⟨by simp [World.frozen?, h.box], by simp [World.frozen?, h.row]⟩
theorem RgS.cell (h : RgS w B F p xs n g f pl) {i : Nat} {x : ByteArray} (hi : pl[i]? = some x) : w.cell? ⟨g, i, none⟩ = some (vfS x) := by
  simp [Lib.cell_of_heap h.row, hi]
theorem RgS.lt_p (h : RgS w B F p xs n g f pl) : p < w.heap.size := (Array.getElem?_eq_some_iff.1 h.box).1
theorem RgS.lt_g (h : RgS w B F p xs n g f pl) : g < w.heap.size := (Array.getElem?_eq_some_iff.1 h.row).1
theorem RgS.ch {Q : Nat → Prop} (h : RgS w B F p xs n g f pl) (hc : Ch Q w w') (hq : ∀ x, F x → ¬ Q x) : RgS w' B F p xs n g f pl :=
  ⟨hc.box h.box (hq _ ((h.foot p).2 (Or.inl rfl))), hc.box h.row (hq _ ((h.foot g).2 (Or.inr rfl))), h.lies, h.lo, h.lg, h.n1, h.foot⟩
theorem RgS.below (h : RgS w B F p xs n g f pl) (hb : Below w.heap.size w w') : RgS w' B F p xs n g f pl := h.ch (Ch.of_below (Q := fun _ => False) hb) (fun _ _ h => h)

theorem info_S : (Try.prog.info? 9).map (fun i => (i.zero, i.size, i.bytes)) = some (some (Value.string ⟨#[]⟩), 1, 16) := by kernel_rfl

theorem makeS (w : World) (n : Nat) (h2 : n ≤ 100) : ∃ w', (Instr.makeSlice 62 (.int .i64 (n : Int)) (.int .i64 (n : Int))).run Try.prog w = .ok (.slice (some ⟨w.heap.size, 0, none⟩) n n) w' ∧ w'.heap[w.heap.size]? = some (.cells ((List.replicate n (⟨#[]⟩ : ByteArray)).map vfS).toArray 9 (0, 0)) ∧ Below w.heap.size w w' := by
  obtain ⟨i0, hi0, hz0, hz1, hz2⟩ := nf_open info_S
  obtain ⟨w', h, hr, hg⟩ := run_makeSlice_full w w.heap.size 62 9 i0 _ 1 Try.underlying62 hi0 hz0 hz1 .i64 .i64 n (by omega) (by rw [hz2]; omega) (by unfold maxLen; omega) (Nat.le_refl _)
  refine ⟨w', h, ?_, ⟨hg.os, hg.tape, hg.output, hg.size, fun b hb => hg.block b hb (by simp)⟩⟩
  obtain ⟨-, ⟨h1, -⟩ | ⟨g', cap, cur, h1, h2, h3, h4, h5, h6, h7⟩⟩ := hr
  · cases h1
  · cases h1
    rw [h3]
    have e : cur.toList = (List.replicate n (⟨#[]⟩ : ByteArray)).map vfS := by
      rw [List.take_of_length_le (by rw [Array.length_toList]; omega)] at h7
      rw [h7]
      apply List.ext_getElem
      · simp [size_madeCells]
      · intro i hi1 hi2
        have ec : (Value.string ⟨#[]⟩).cells = #[Value.string ⟨#[]⟩] := rfl
        unfold madeCells
        simp [vfS, ec, Nat.mod_one]
    rw [← e, Array.toArray_toList]

theorem new_noS (w : World) (m : Int) (hm : (decide (0 ≤ m) && decide (m ≤ 100)) = false) : Calls Try.prog 19 #[.int .i64 m] w fun e w' => e = .returned (.tuple #[.pointer none, .int .i64 1]) ∧ Below w.heap.size w w' := by
  by_cases h1 : 0 ≤ m
  · have h2 : ¬ m ≤ 100 := fun h => by simp [h1, h] at hm
    have q1 : decide (m < 0) = false := decide_eq_false (by omega)
    have q2 : decide (100 < m) = true := decide_eq_true (by omega)
    clear hm
    go_enter Try.func19, Try.ntmps19
    go_wp2
    go_ret2
    exact ⟨rfl, Below.refl _ _⟩
  · have q1 : decide (m < 0) = true := decide_eq_true (by omega)
    clear hm
    go_enter Try.func19, Try.ntmps19
    go_wp2
    go_ret2
    exact ⟨rfl, Below.refl _ _⟩

theorem new_isS (w : World) (m : Int) (n : Nat) (hm : m = n) (h2 : n ≤ 100) : Calls Try.prog 19 #[.int .i64 m] w fun e w' => ∃ p g F, e = .returned (.tuple #[.pointer (some ⟨p, 0, none⟩), .int .i64 0]) ∧ RgS w' w.heap.size F p [] n g 0 (List.replicate n ⟨#[]⟩) ∧ Below w.heap.size w w' := by
  subst hm
  have q1 : decide ((n : Int) < 0) = false := decide_eq_false (by omega)
  have q2 : decide (100 < (n : Int)) = false := decide_eq_false (by omega)
  obtain ⟨w1, hmk, hrow, hb⟩ := makeS w n h2
  have HR := hide hrow
  have HB := hide hb
  clear hrow hb
  go_enter Try.func19, Try.ntmps19
  go_wp2
  go_ret2
  refine ⟨w1.heap.size, w.heap.size, fun x => x = w1.heap.size ∨ x = w.heap.size, rfl, ⟨?_, ?_, Lies.new _ n, HB.out.size, Nat.le_refl _, h2, fun x => Iff.rfl⟩, HB.out.trans ((below1 _ _).mono HB.out.size)⟩
  · exact heap_new _ _
  · exact (Ch.alloc (Q := fun _ => False) _ _).box HR.out (fun h => h)

theorem len_isS (h : RgS w B F p xs n g f pl) : Calls Try.prog 23 #[.pointer (some ⟨p, 0, none⟩)] w fun e w' => e = .returned (.int .i64 (xs.length : Int)) ∧ w' = w := by
  obtain ⟨-, -, c2⟩ := h.cells
  go_enter Try.func23, Try.ntmps23
  go_wp2
  go_ret
  exact ⟨rfl, rfl⟩

theorem place_isS (h : w.cell? ⟨p, 0, none⟩ = some (.slice (some ⟨g, 0, none⟩) n n)) (h1 : w.cell? ⟨p, 1, none⟩ = some (.int .i64 (f : Int))) (hf : f ≤ 100) (hn : n ≤ 100) (i q : Nat) (hi : i ≤ 100) (hq : plc n f i = q) : Calls Try.prog 26 #[.pointer (some ⟨p, 0, none⟩), .int .i64 (i : Int)] w fun e w' => e = .returned (.int .i64 (q : Int)) ∧ w' = w := by
  subst hq
  have e1 : IntKind.i64.wrap ((f : Int) + (i : Int)) = (f : Int) + (i : Int) := by rw [IntKind.wrap_i64]; omega
  unfold plc
  by_cases hb : n ≤ f + i
  · have q1 : decide ((n : Int) ≤ (f : Int) + (i : Int)) = true := decide_eq_true (by omega)
    have e2 : IntKind.i64.wrap ((f : Int) + (i : Int) - (n : Int)) = (f : Int) + (i : Int) - (n : Int) := by rw [IntKind.wrap_i64]; omega
    rw [if_pos hb]
    have HB := hide hb
    clear hb
    go_enter Try.func26, Try.ntmps26
    go_wp2
    go_ret
    exact ⟨ret_int (by have := HB.out; omega), rfl⟩
  · have q1 : decide ((n : Int) ≤ (f : Int) + (i : Int)) = false := decide_eq_false (by omega)
    rw [if_neg hb]
    have HB := hide hb
    clear hb
    go_enter Try.func26, Try.ntmps26
    go_wp2
    go_ret
    exact ⟨ret_int (by have := HB.out; omega), rfl⟩

end
end Go.Proofs.Ytfheeifllpnjaaa
