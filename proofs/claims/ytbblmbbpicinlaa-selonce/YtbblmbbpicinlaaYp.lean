/- Layer 14: how the things of a ring lie in its places, on lists alone. Layer 14: the landed ring of values: how it lies; its calls that change nothing. Layer 14: the landed ring of values: Put, Take. Layer 14: the landed channels: how they lie. -/
import Derived.Test.YtbblmbbpicinlaaHzc
namespace Go.Proofs.Ytbblmbbpicinlaa
open Go.RowKit

/-- where the thing with i others ahead of it lies -/
def plc (n f i : Nat) : Nat := if n ≤ f + i then f + i - n else f + i

theorem plc_lt {n f i : Nat} (hf : f < n) (hi : i < n) : plc n f i < n := by
  unfold plc
  split <;> omega
theorem plc_inj {n f i j : Nat} (hi : i < n) (hj : j < n) (h : plc n f i = plc n f j) : i = j := by
  unfold plc at h
  split at h <;> split at h <;> omega
theorem plc_one {n f i : Nat} (hf : f < n) (hi : i + 1 < n) : plc n (plc n f 1) i = plc n f (i + 1) := by
  unfold plc
  split <;> split <;> (try split) <;> omega
theorem plc_zero {n f : Nat} (hf : f < n) : plc n f 0 = f := by
  unfold plc
  rw [if_neg (by omega)]
  rfl

structure Lies {α : Type} (xs pl : List α) (n f : Nat) : Prop where
  len : pl.length = n
  cnt : xs.length ≤ n
  fst : f < n ∨ (f = 0 ∧ n = 0)
  at_ : ∀ i (h : i < xs.length), pl[plc n f i]? = some xs[i]

section
variable {α : Type} {xs pl : List α} {n f : Nat}

theorem Lies.f_lt (h : Lies xs pl n f) (h0 : 0 < n) : f < n := h.fst.elim id (fun e => by omega)
theorem Lies.f_le (h : Lies xs pl n f) : f ≤ n := h.fst.elim (fun e => by omega) (fun e => by omega)
theorem Lies.new (z : α) (n : Nat) : Lies [] (List.replicate n z) n 0 := ⟨List.length_replicate, Nat.zero_le _, by omega, fun i h => absurd h (Nat.not_lt_zero _)⟩
theorem Lies.put (h : Lies xs pl n f) (hn : xs.length < n) (x : α) : Lies (xs ++ [x]) (pl.set (plc n f xs.length) x) n f := by
  have hf := h.f_lt (by omega)
  refine ⟨by rw [List.length_set]; exact h.len, by rw [List.length_append, List.length_singleton]; omega, h.fst, fun i hi => ?_⟩
  rw [List.length_append, List.length_singleton] at hi
  by_cases hix : i < xs.length
  · rw [List.getElem?_set_ne (fun e => by have := plc_inj hn (by omega) e; omega), h.at_ i hix, List.getElem_append_left hix]
  · obtain rfl : i = xs.length := by omega
    rw [List.getElem?_set_self (by rw [h.len]; exact plc_lt hf hn)]
    simp
theorem Lies.take {a : α} (h : Lies (a :: xs) pl n f) (z : α) : Lies xs (pl.set f z) n (plc n f 1) ∧ pl[f]? = some a := by
  have hc := h.cnt
  rw [List.length_cons] at hc
  have hf := h.f_lt (by omega)
  refine ⟨⟨by rw [List.length_set]; exact h.len, by omega, ?_, fun i hi => ?_⟩, ?_⟩
  · rcases Nat.lt_or_ge 1 n with h1 | h1
    · exact Or.inl (plc_lt hf h1)
    · left
      unfold plc
      split <;> omega
  · have := h.at_ (i + 1) (by rw [List.length_cons]; omega)
    rw [plc_one hf (by omega), List.getElem?_set_ne (fun e => ?_), this]
    · rfl
    · have := plc_inj (n := n) (f := f) (i := 0) (j := i + 1) (by omega) (by omega) (by rw [plc_zero hf]; exact e)
      omega
  · have := h.at_ 0 (by rw [List.length_cons]; omega)
    rw [plc_zero hf] at this
    exact this
theorem Lies.get (h : Lies xs pl n f) {i : Nat} (hi : i < xs.length) : pl[plc n f i]? = some xs[i] := h.at_ i hi
/-- what lies from the first place on, and what lies round the end -/
theorem Lies.held (h : Lies xs pl n f) : (pl.drop f).take xs.length ++ pl.take (xs.length - (n - f)) = xs := by
  have hc := h.cnt
  have hl := h.len
  have hfl := h.f_le
  refine List.ext_getElem? fun i => ?_
  by_cases hi : i < xs.length
  · have hf := h.f_lt (by omega)
    rw [List.getElem?_eq_getElem hi, ← h.at_ i hi]
    unfold plc
    have l1 : ((pl.drop f).take xs.length).length = min xs.length (n - f) := by rw [List.length_take, List.length_drop, hl]
    by_cases hb : n ≤ f + i
    · rw [if_pos hb, List.getElem?_append_right (by rw [l1]; omega), l1, List.getElem?_take_of_lt (by omega)]
      congr 1
      omega
    · rw [if_neg hb, List.getElem?_append_left (by rw [l1]; omega), List.getElem?_take_of_lt hi, List.getElem?_drop]
  · rw [List.getElem?_eq_none (l := xs) (by omega), List.getElem?_eq_none]
    rw [List.length_append, List.length_take, List.length_take, List.length_drop, hl]
    omega

end
end Go.Proofs.Ytbblmbbpicinlaa

namespace Go.Proofs.Ytbblmbbpicinlaa
open Go.RowKit

/-- a value -/
structure Va where
  n : Int
  s : Int
  g : Int
def zVa : Va := ⟨0, 0, 0⟩
def vaF (x : Va) : List Value := [.int .i64 x.n, .int .u32 x.s, .int .u32 x.g]
theorem vaF_len (x : Va) : (vaF x).length = 3 := rfl
abbrev vaV (x : Va) : Value := .agg #[.int .i64 x.n, .int .u32 x.s, .int .u32 x.g]
theorem vaF_one (x : Va) : ∀ v ∈ vaF x, v.oneCell' = true := by
  intro u hu
  simp only [vaF, List.mem_cons, List.not_mem_nil, or_false] at hu
  rcases hu with rfl | rfl | rfl <;> rfl

theorem flat_len {α : Type} (f : α → List Value) (K : Nat) (hK : ∀ x, (f x).length = K) (l : List α) : (l.flatMap f).length = l.length * K := by
  induction l with
  | nil => simp
  | cons x l ih => rw [List.flatMap_cons, List.length_append, ih, hK, List.length_cons, Nat.add_mul]; omega

/-- the ring lies in block p, its places in block g -/
structure RgV (w : World) (p g : Nat) (xs : List Va) (n f : Nat) (pl : List Va) : Prop where
  box : w.heap[p]? = some (.cells #[.slice (some ⟨g, 0, none⟩) n n, .int .i64 (f : Int), .int .i64 (xs.length : Int)] 204 (0, 0))
  row : w.heap[g]? = some (.cells (pl.flatMap vaF).toArray 46 (0, 0))
  lies : Lies xs pl n f
  n1 : n ≤ 100

section
variable {w w' : World} {p g : Nat} {xs : List Va} {n f : Nat} {pl : List Va}

theorem RgV.ne (h : RgV w p g xs n f pl) : g ≠ p := fun e => by
  have h1 := h.box
  rw [← e, h.row] at h1
  injection h1 with h1
  injection h1 with _ h1 _
  exact absurd h1 (by decide)
theorem RgV.cells (h : RgV w p g xs n f pl) : w.cell? ⟨p, 0, none⟩ = some (.slice (some ⟨g, 0, none⟩) n n) ∧ w.cell? ⟨p, 1, none⟩ = some (.int .i64 (f : Int)) ∧ w.cell? ⟨p, 2, none⟩ = some (.int .i64 (xs.length : Int)) := by
  simp [Lib.cell_of_heap h.box]
theorem RgV.fz (h : RgV w p g xs n f pl) (o : Nat) : w.frozen? ⟨p, o, none⟩ = false ∧ w.frozen? ⟨g, o, none⟩ = false :=
  ⟨by simp [World.frozen?, h.box], by simp [World.frozen?, h.row]⟩
theorem RgV.cell (h : RgV w p g xs n f pl) {i : Nat} {x : Va} (hi : pl[i]? = some x) : w.cell? ⟨g, i * 3, none⟩ = some (.int .i64 x.n) ∧ w.cell? ⟨g, i * 3 + 1, none⟩ = some (.int .u32 x.s) ∧ w.cell? ⟨g, i * 3 + 2, none⟩ = some (.int .u32 x.g) := by
  obtain ⟨hl, hx⟩ := List.getElem?_eq_some_iff.1 hi
  have e := Lib.cell_of_heap h.row
  have c : ∀ j u, j < 3 → (vaF x)[j]? = some u → w.cell? ⟨g, i * 3 + j, none⟩ = some u := fun j u hj hu => by
    have := flat_get vaF 3 vaF_len pl i j hl hj
    rw [hx, hu] at this
    simp [e, this]
  exact ⟨c 0 _ (by decide) rfl, c 1 _ (by decide) rfl, c 2 _ (by decide) rfl⟩
theorem RgV.lt_p (h : RgV w p g xs n f pl) : p < w.heap.size := (Array.getElem?_eq_some_iff.1 h.box).1
theorem RgV.lt_g (h : RgV w p g xs n f pl) : g < w.heap.size := (Array.getElem?_eq_some_iff.1 h.row).1
theorem RgV.ch {Q : Nat → Prop} (h : RgV w p g xs n f pl) (hc : Ch Q w w') (hp : ¬ Q p) (hg : ¬ Q g) : RgV w' p g xs n f pl := ⟨hc.box h.box hp, hc.box h.row hg, h.lies, h.n1⟩
theorem RgV.quiet (h : RgV w p g xs n f pl) (hc : Ch (fun _ => False) w w') : RgV w' p g xs n f pl := h.ch hc (fun h => h) (fun h => h)

theorem info_va : (Try.prog.info? 46).map (fun i => (i.zero, i.size, i.bytes)) = some (some (vaV zVa), 3, 16) := by kernel_rfl

theorem makeV (w : World) (n : Nat) (h2 : n ≤ 100) : ∃ w', (Instr.makeSlice 166 (.int .i64 (n : Int)) (.int .i64 (n : Int))).run Try.prog w = .ok (.slice (some ⟨w.heap.size, 0, none⟩) n n) w' ∧ w'.heap[w.heap.size]? = some (.cells ((List.replicate n zVa).flatMap vaF).toArray 46 (0, 0)) ∧ Below w.heap.size w w' := by
  obtain ⟨i0, hi0, hz0, hz1, hz2⟩ := nf_open info_va
  obtain ⟨w', h, hr, hg⟩ := run_makeSlice_full w w.heap.size 166 46 i0 _ 3 Try.underlying166 hi0 hz0 hz1 .i64 .i64 n (by omega) (by rw [hz2]; omega) (by unfold maxLen; omega) (Nat.le_refl _)
  refine ⟨w', h, ?_, ⟨hg.os, hg.tape, hg.output, hg.size, fun b hb => hg.block b hb (by simp)⟩⟩
  obtain ⟨-, ⟨h1, -⟩ | ⟨g', cap, cur, h1, h2, h3, h4, h5, h6, h7⟩⟩ := hr
  · cases h1
  · cases h1
    rw [h3]
    rw [List.take_of_length_le (by rw [Array.length_toList]; omega)] at h7
    have e : (List.replicate n zVa).flatMap vaF = cur.toList := by
      rw [h7]
      apply List.ext_getElem
      · rw [flat_len vaF 3 vaF_len, List.length_replicate, Array.length_toList, size_madeCells]
      · intro m h1 h2
        rw [flat_len vaF 3 vaF_len, List.length_replicate] at h1
        have hd : m / 3 < n := (Nat.div_lt_iff_lt_mul (by decide)).2 h1
        have hm : m % 3 < 3 := Nat.mod_lt _ (by decide)
        have e : m = m / 3 * 3 + m % 3 := by rw [Nat.mul_comm]; exact (Nat.div_add_mod m 3).symm
        have key := flat_get vaF 3 vaF_len (List.replicate n zVa) (m / 3) (m % 3) (by rw [List.length_replicate]; exact hd) hm
        rw [← e, List.getElem_replicate] at key
        apply Option.some.inj
        rw [← List.getElem?_eq_getElem, key, Array.getElem_toList]
        unfold madeCells
        have ec : (vaV zVa).cells = #[.int .i64 0, .int .u32 0, .int .u32 0] := rfl
        simp only [ec, Array.getElem_map, Array.getElem_range]
        have h3 : m % 3 = 0 ∨ m % 3 = 1 ∨ m % 3 = 2 := by omega
        rcases h3 with h3 | h3 | h3 <;> simp [h3, vaF, zVa]
    rw [e, Array.toArray_toList]

theorem newV_no (w : World) (m : Int) (hm : (decide (0 ≤ m) && decide (m ≤ 100)) = false) : Calls Try.prog 60 #[.int .i64 m] w fun e w' => e = .returned (.tuple #[.pointer none, .int .i64 1]) ∧ Below w.heap.size w w' := by
  by_cases h1 : 0 ≤ m
  · have h2 : ¬ m ≤ 100 := fun h => by simp [h1, h] at hm
    have q1 : decide (m < 0) = false := decide_eq_false (by omega)
    have q2 : decide (100 < m) = true := decide_eq_true (by omega)
    clear hm
    go_enter Try.func60, Try.ntmps60
    go_wp2
    go_ret2
    exact ⟨rfl, Below.refl _ _⟩
  · have q1 : decide (m < 0) = true := decide_eq_true (by omega)
    clear hm
    go_enter Try.func60, Try.ntmps60
    go_wp2
    go_ret2
    exact ⟨rfl, Below.refl _ _⟩

theorem newV_is (w : World) (m : Int) (n : Nat) (hm : m = n) (h2 : n ≤ 100) : Calls Try.prog 60 #[.int .i64 m] w fun e w' => ∃ p g, e = .returned (.tuple #[.pointer (some ⟨p, 0, none⟩), .int .i64 0]) ∧ RgV w' p g [] n 0 (List.replicate n zVa) ∧ w.heap.size ≤ p ∧ w.heap.size ≤ g ∧ Below w.heap.size w w' := by
  subst hm
  have q1 : decide ((n : Int) < 0) = false := decide_eq_false (by omega)
  have q2 : decide (100 < (n : Int)) = false := decide_eq_false (by omega)
  obtain ⟨w1, hmk, hrow, hb⟩ := makeV w n h2
  have HR := hide hrow
  have HB := hide hb
  clear hrow hb
  go_enter Try.func60, Try.ntmps60
  go_wp2
  go_ret2
  refine ⟨w1.heap.size, w.heap.size, rfl, ⟨?_, ?_, Lies.new _ n, h2⟩, HB.out.size, Nat.le_refl _, HB.out.trans ((below1 _ _).mono HB.out.size)⟩
  · exact heap_new _ _
  · exact (Ch.alloc (Q := fun _ => False) _ _).box HR.out (fun h => h)

theorem lenV_is (h : RgV w p g xs n f pl) : Calls Try.prog 72 #[.pointer (some ⟨p, 0, none⟩)] w fun e w' => e = .returned (.int .i64 (xs.length : Int)) ∧ w' = w := by
  obtain ⟨-, -, c2⟩ := h.cells
  go_enter Try.func72, Try.ntmps72
  go_wp2
  go_ret
  exact ⟨rfl, rfl⟩
theorem capV_is (h : RgV w p g xs n f pl) : Calls Try.prog 73 #[.pointer (some ⟨p, 0, none⟩)] w fun e w' => e = .returned (.int .i64 (n : Int)) ∧ w' = w := by
  obtain ⟨c0, -, -⟩ := h.cells
  go_enter Try.func73, Try.ntmps73
  go_wp2
  go_ret
  exact ⟨rfl, rfl⟩

theorem placeV_is (h : w.cell? ⟨p, 0, none⟩ = some (.slice (some ⟨g, 0, none⟩) n n)) (h1 : w.cell? ⟨p, 1, none⟩ = some (.int .i64 (f : Int))) (hf : f ≤ 100) (hn : n ≤ 100) (i q : Nat) (hi : i ≤ 100) (hq : plc n f i = q) : Calls Try.prog 117 #[.pointer (some ⟨p, 0, none⟩), .int .i64 (i : Int)] w fun e w' => e = .returned (.int .i64 (q : Int)) ∧ w' = w := by
  subst hq
  have e1 : IntKind.i64.wrap ((f : Int) + (i : Int)) = (f : Int) + (i : Int) := by rw [IntKind.wrap_i64]; omega
  unfold plc
  by_cases hb : n ≤ f + i
  · have q1 : decide ((n : Int) ≤ (f : Int) + (i : Int)) = true := decide_eq_true (by omega)
    have e2 : IntKind.i64.wrap ((f : Int) + (i : Int) - (n : Int)) = (f : Int) + (i : Int) - (n : Int) := by rw [IntKind.wrap_i64]; omega
    rw [if_pos hb]
    have HB := hide hb
    clear hb
    go_enter Try.func117, Try.ntmps117
    go_wp2
    go_ret
    exact ⟨ret_int (by have := HB.out; omega), rfl⟩
  · have q1 : decide ((n : Int) ≤ (f : Int) + (i : Int)) = false := decide_eq_false (by omega)
    rw [if_neg hb]
    have HB := hide hb
    clear hb
    go_enter Try.func117, Try.ntmps117
    go_wp2
    go_ret
    exact ⟨ret_int (by have := HB.out; omega), rfl⟩
end
end Go.Proofs.Ytbblmbbpicinlaa

namespace Go.Proofs.Ytbblmbbpicinlaa
open Go.RowKit

abbrev cp0 : Oper := { dst := some 17, op := Op.move (Operand.tmp 0), type := 140, pos := "ring.go:33", after := #[], guard := none }
abbrev cp1 : Oper := { dst := some 18, op := Op.nilCheck (Operand.tmp 17), type := 0, pos := "ring.go:33", after := #[{ on := 0, ground := Ground.data }], guard := none }
abbrev cp2 : Oper := { dst := some 19, op := Op.fieldAddr 204 (Operand.tmp 18) 0, type := 0, pos := "ring.go:33", after := #[{ on := 1, ground := Ground.data }], guard := none }
abbrev cp3 : Oper := { dst := some 20, op := Op.load 166 (Operand.tmp 19), type := 166, pos := "ring.go:33", after := #[{ on := 2, ground := Ground.data }], guard := none }
abbrev cp4 : Oper := { dst := some 21, op := Op.move (Operand.tmp 0), type := 140, pos := "ring.go:33", after := #[], guard := none }
abbrev cp5 : Oper := { dst := some 22, op := Op.move (Operand.tmp 0), type := 140, pos := "ring.go:33", after := #[], guard := none }
abbrev cp6 : Oper := { dst := some 23, op := Op.nilCheck (Operand.tmp 22), type := 0, pos := "ring.go:33", after := #[{ on := 5, ground := Ground.data }], guard := none }
abbrev cp7 : Oper := { dst := some 24, op := Op.fieldAddr 204 (Operand.tmp 23) 2, type := 0, pos := "ring.go:33", after := #[{ on := 6, ground := Ground.data }], guard := none }
abbrev cp8 : Oper := { dst := some 25, op := Op.load 3 (Operand.tmp 24), type := 3, pos := "ring.go:33", after := #[{ on := 7, ground := Ground.data }], guard := none }
abbrev cp9 : Oper := { dst := some 26, op := Op.call { callee := Callee.value (Operand.func 117), args := #[Operand.tmp 21, Operand.tmp 25], argTypes := #[140, 3] }, type := 3, pos := "ring.go:33", after := #[{ on := 4, ground := Ground.data }, { on := 8, ground := Ground.data }], guard := none }
abbrev cp10 : Oper := { dst := some 27, op := Op.load 46 (Operand.tmp 3), type := 46, pos := "ring.go:33", after := #[], guard := none }
abbrev cp11 : Oper := { dst := some 28, op := Op.indexAddr 166 (Operand.tmp 20) (Operand.tmp 26), type := 0, pos := "ring.go:33", after := #[{ on := 3, ground := Ground.data }, { on := 9, ground := Ground.data }, { on := 0, ground := Ground.phase }, { on := 1, ground := Ground.phase }, { on := 2, ground := Ground.phase }, { on := 3, ground := Ground.phase }, { on := 4, ground := Ground.phase }, { on := 5, ground := Ground.phase }, { on := 6, ground := Ground.phase }, { on := 7, ground := Ground.phase }, { on := 8, ground := Ground.phase }, { on := 9, ground := Ground.phase }, { on := 10, ground := Ground.phase }], guard := none }
abbrev cp12 : Oper := { dst := none, op := Op.store 46 (Operand.tmp 28) (Operand.tmp 27), type := 0, pos := "ring.go:33", after := #[{ on := 11, ground := Ground.data }, { on := 10, ground := Ground.data }, { on := 9, ground := Ground.chain }, { on := 0, ground := Ground.phase }, { on := 1, ground := Ground.phase }, { on := 2, ground := Ground.phase }, { on := 3, ground := Ground.phase }, { on := 4, ground := Ground.phase }, { on := 5, ground := Ground.phase }, { on := 6, ground := Ground.phase }, { on := 7, ground := Ground.phase }, { on := 8, ground := Ground.phase }, { on := 9, ground := Ground.phase }, { on := 10, ground := Ground.phase }], guard := none }
abbrev ct0 : Oper := { dst := some 15, op := Op.move (Operand.tmp 0), type := 140, pos := "ring.go:47", after := #[], guard := none }
abbrev ct1 : Oper := { dst := some 16, op := Op.nilCheck (Operand.tmp 15), type := 0, pos := "ring.go:47", after := #[{ on := 0, ground := Ground.data }], guard := none }
abbrev ct2 : Oper := { dst := some 17, op := Op.fieldAddr 204 (Operand.tmp 16) 0, type := 0, pos := "ring.go:47", after := #[{ on := 1, ground := Ground.data }], guard := none }
abbrev ct3 : Oper := { dst := some 18, op := Op.load 166 (Operand.tmp 17), type := 166, pos := "ring.go:47", after := #[{ on := 2, ground := Ground.data }], guard := none }
abbrev ct4 : Oper := { dst := some 19, op := Op.move (Operand.tmp 0), type := 140, pos := "ring.go:47", after := #[], guard := none }
abbrev ct5 : Oper := { dst := some 20, op := Op.nilCheck (Operand.tmp 19), type := 0, pos := "ring.go:47", after := #[{ on := 4, ground := Ground.data }], guard := none }
abbrev ct6 : Oper := { dst := some 21, op := Op.fieldAddr 204 (Operand.tmp 20) 1, type := 0, pos := "ring.go:47", after := #[{ on := 5, ground := Ground.data }], guard := none }
abbrev ct7 : Oper := { dst := some 22, op := Op.load 3 (Operand.tmp 21), type := 3, pos := "ring.go:47", after := #[{ on := 6, ground := Ground.data }], guard := none }
abbrev ct8 : Oper := { dst := some 23, op := Op.indexAddr 166 (Operand.tmp 18) (Operand.tmp 22), type := 0, pos := "ring.go:47", after := #[{ on := 3, ground := Ground.data }, { on := 7, ground := Ground.data }], guard := none }
abbrev ct9 : Oper := { dst := some 24, op := Op.load 46 (Operand.tmp 23), type := 46, pos := "ring.go:47", after := #[{ on := 8, ground := Ground.data }], guard := none }
abbrev ct10 : Oper := { dst := some 5, op := Op.alloc 46, type := 0, pos := "ring.go:47", after := #[], guard := none }
abbrev ct11 : Oper := { dst := none, op := Op.store 46 (Operand.tmp 5) (Operand.tmp 24), type := 0, pos := "ring.go:47", after := #[{ on := 10, ground := Ground.data }, { on := 9, ground := Ground.data }, { on := 0, ground := Ground.phase }, { on := 1, ground := Ground.phase }, { on := 2, ground := Ground.phase }, { on := 3, ground := Ground.phase }, { on := 4, ground := Ground.phase }, { on := 5, ground := Ground.phase }, { on := 6, ground := Ground.phase }, { on := 7, ground := Ground.phase }, { on := 8, ground := Ground.phase }, { on := 9, ground := Ground.phase }, { on := 10, ground := Ground.phase }], guard := none }
abbrev cu0 : Oper := { dst := some 25, op := Op.move (Operand.tmp 0), type := 140, pos := "ring.go:49", after := #[], guard := none }
abbrev cu1 : Oper := { dst := some 26, op := Op.nilCheck (Operand.tmp 25), type := 0, pos := "ring.go:49", after := #[{ on := 0, ground := Ground.data }], guard := none }
abbrev cu2 : Oper := { dst := some 27, op := Op.fieldAddr 204 (Operand.tmp 26) 0, type := 0, pos := "ring.go:49", after := #[{ on := 1, ground := Ground.data }], guard := none }
abbrev cu3 : Oper := { dst := some 28, op := Op.load 166 (Operand.tmp 27), type := 166, pos := "ring.go:49", after := #[{ on := 2, ground := Ground.data }], guard := none }
abbrev cu4 : Oper := { dst := some 29, op := Op.move (Operand.tmp 0), type := 140, pos := "ring.go:49", after := #[], guard := none }
abbrev cu5 : Oper := { dst := some 30, op := Op.nilCheck (Operand.tmp 29), type := 0, pos := "ring.go:49", after := #[{ on := 4, ground := Ground.data }], guard := none }
abbrev cu6 : Oper := { dst := some 31, op := Op.fieldAddr 204 (Operand.tmp 30) 1, type := 0, pos := "ring.go:49", after := #[{ on := 5, ground := Ground.data }], guard := none }
abbrev cu7 : Oper := { dst := some 32, op := Op.load 3 (Operand.tmp 31), type := 3, pos := "ring.go:49", after := #[{ on := 6, ground := Ground.data }], guard := none }
abbrev cu8 : Oper := { dst := some 33, op := Op.load 46 (Operand.tmp 4), type := 46, pos := "ring.go:49", after := #[], guard := none }
abbrev cu9 : Oper := { dst := some 34, op := Op.indexAddr 166 (Operand.tmp 28) (Operand.tmp 32), type := 0, pos := "ring.go:49", after := #[{ on := 3, ground := Ground.data }, { on := 7, ground := Ground.data }, { on := 0, ground := Ground.phase }, { on := 1, ground := Ground.phase }, { on := 2, ground := Ground.phase }, { on := 3, ground := Ground.phase }, { on := 4, ground := Ground.phase }, { on := 5, ground := Ground.phase }, { on := 6, ground := Ground.phase }, { on := 7, ground := Ground.phase }, { on := 8, ground := Ground.phase }], guard := none }
abbrev cu10 : Oper := { dst := none, op := Op.store 46 (Operand.tmp 34) (Operand.tmp 33), type := 0, pos := "ring.go:49", after := #[{ on := 9, ground := Ground.data }, { on := 8, ground := Ground.data }, { on := 0, ground := Ground.phase }, { on := 1, ground := Ground.phase }, { on := 2, ground := Ground.phase }, { on := 3, ground := Ground.phase }, { on := 4, ground := Ground.phase }, { on := 5, ground := Ground.phase }, { on := 6, ground := Ground.phase }, { on := 7, ground := Ground.phase }, { on := 8, ground := Ground.phase }], guard := none }

theorem rowV_set {w : World} {g k : Nat} {pl : List Va} (h : w.heap[g]? = some (.cells (pl.flatMap vaF).toArray 46 (0, 0))) (hk : k < pl.length) (x : Va) : (((w.setCell ⟨g, k * 3, none⟩ (.int .i64 x.n)).setCell ⟨g, k * 3 + 1, none⟩ (.int .u32 x.s)).setCell ⟨g, k * 3 + 2, none⟩ (.int .u32 x.g)).heap[g]? = some (.cells ((pl.set k x).flatMap vaF).toArray 46 (0, 0)) := by
  rw [heap_set (heap_set (heap_set h _ _) _ _) _ _]
  have e1 := flat_set vaF 3 vaF_len 0 (.int .i64 x.n) (by decide) pl k hk ⟨x.n, pl[k].s, pl[k].g⟩ rfl
  have e2 := flat_set vaF 3 vaF_len 1 (.int .u32 x.s) (by decide) (pl.set k ⟨x.n, pl[k].s, pl[k].g⟩) k (by rw [List.length_set]; exact hk) ⟨x.n, x.s, pl[k].g⟩ (by rw [List.getElem_set_self]; rfl)
  have e3 := flat_set vaF 3 vaF_len 2 (.int .u32 x.g) (by decide) ((pl.set k ⟨x.n, pl[k].s, pl[k].g⟩).set k ⟨x.n, x.s, pl[k].g⟩) k (by rw [List.length_set, List.length_set]; exact hk) x (by rw [List.getElem_set_self]; rfl)
  simp only [List.set_set] at e2 e3
  rw [e3, e2, e1]
  simp

section
variable {w w' : World} {p g : Nat} {xs : List Va} {n f : Nat} {pl : List Va}

set_option maxRecDepth 100000 in
set_option maxHeartbeats 2000000 in
theorem putV_full (h : RgV w p g xs n f pl) (x : Va) (hn : xs.length = n) : Calls Try.prog 105 #[.pointer (some ⟨p, 0, none⟩), vaV x] w fun e w' => e = .returned (.int .i64 121) ∧ Below w.heap.size w w' := by
  obtain ⟨w1, hw1⟩ : ∃ w1, w.alloc (.cells #[.int .i64 x.n, .int .u32 x.s, .int .u32 x.g] 46) = w1 := ⟨_, rfl⟩
  have hb1 : Below w.heap.size w w1 := by rw [← hw1]; exact below1 _ _
  obtain ⟨c0, -, c2⟩ := (h.quiet (Ch.of_below hb1)).cells
  have q : ((xs.length : Int) == (n : Int)) = true := by simp [hn]
  have HB := hide hb1
  clear hn hb1
  go_enter Try.func105, Try.ntmps105
  go_wp2
  go_quiet (fail)
  go_wp2
  go_ret
  exact ⟨rfl, HB.out.trans (below_dr _ _ _)⟩

set_option maxRecDepth 100000 in
set_option maxHeartbeats 2000000 in
theorem putV_ok (h : RgV w p g xs n f pl) (x : Va) (hn : xs.length < n) : Calls Try.prog 105 #[.pointer (some ⟨p, 0, none⟩), vaV x] w fun e w' => e = .returned (.int .i64 0) ∧ RgV w' p g (xs ++ [x]) n f (pl.set (plc n f xs.length) x) ∧ Ch (fun y => y = p ∨ y = g) w w' := by
  obtain ⟨w1, hw1⟩ : ∃ w1, w.alloc (.cells #[.int .i64 x.n, .int .u32 x.s, .int .u32 x.g] 46) = w1 := ⟨_, rfl⟩
  have hb1 : Below w.heap.size w w1 := by rw [← hw1]; exact below1 _ _
  have hx1 : w1.heap[w.heap.size]? = some (.cells #[.int .i64 x.n, .int .u32 x.s, .int .u32 x.g] 46 (0, 0)) := by rw [← hw1]; exact heap_new _ _
  have hgl := h.lt_g
  have C1 := hide (Ch.of_below (Q := fun _ => False) hb1)
  replace h := h.quiet C1.out
  obtain ⟨c0, -, c2⟩ := h.cells
  have q : ((xs.length : Int) == (n : Int)) = false := by simp; omega
  have hn1 := h.n1
  have hf := h.lies.f_lt (by omega)
  obtain ⟨k, hk⟩ : ∃ k, plc n f xs.length = k := ⟨_, rfl⟩
  have hkn : k < n := by rw [← hk]; exact plc_lt hf hn
  have hx1l : xs.length ≤ 100 := by omega
  have HK := hide hk
  have HN := hide hn
  have HX1 := hide hx1
  have HGL := hide hgl
  have H := hide h
  clear hk hn h hb1 hx1 hgl
  go_enter Try.func105, Try.ntmps105
  go_wp2
  go_quiet (fail)
  go_wp2_with fail
  clear c0 c2 hw1
  refine wp_reg (fun y => y = g) (R := fun W => RgV W p g xs n f pl ∧ Ch (fun _ => False) w1 W) (by kernel_rfl) ⟨H.out.quiet ((Ch.drewN w1 _).trans (Ch.drew _) (fun _ _ h => h)), (Ch.drewN w1 _).trans (Ch.drew _) (fun _ _ h => h)⟩ ?_
  rintro V ⟨hv, hcv⟩ zk
  have HV := hide hv
  have HC := hide hcv
  have hnp : ¬ p = g := fun e => hv.ne e.symm
  have HG := hide (fun wq (zq : Ch (fun y => y = g) V wq) => have e := Lib.cell_of_heap (zq.box HV.out.box hnp); have e2 := Lib.cell_of_heap (zq.box (HC.out.box HX1.out (fun h => h)) (fun e => by have := HGL.out; omega)); show wq.cell? ⟨p, 0, none⟩ = some (.slice (some ⟨g, 0, none⟩) n n) ∧ wq.cell? ⟨p, 2, none⟩ = some (.int .i64 (xs.length : Int)) ∧ wq.cell? ⟨w.heap.size, 0, none⟩ = some (.int .i64 x.n) ∧ wq.cell? ⟨w.heap.size, 1, none⟩ = some (.int .u32 x.s) ∧ wq.cell? ⟨w.heap.size, 2, none⟩ = some (.int .u32 x.g) from ⟨by simp [e], by simp [e], by simp [e2], by simp [e2], by simp [e2]⟩)
  clear hv hcv
  apply tk 0 cp0 rfl (by kernel_rfl) (fun _ _ _ h => h) zk
  · intro wq zq
    go_simp
    try rfl
  go_frame
  apply tk 1 cp1 rfl (by kernel_rfl) (fun _ _ _ h => h) zk
  · intro wq zq
    go_simp
    try rfl
  go_frame
  apply tk 2 cp2 rfl (by kernel_rfl) (fun _ _ _ h => h) zk
  · intro wq zq
    go_simp
    try rfl
  go_frame
  apply tk 3 cp3 rfl (by kernel_rfl) (fun _ _ _ h => h) zk
  · intro wq zq
    obtain ⟨s1, s2, s3, s4, s5⟩ := HG.out _ zq
    go_simp
    try rfl
  go_frame
  apply tk 4 cp4 rfl (by kernel_rfl) (fun _ _ _ h => h) zk
  · intro wq zq
    go_simp
    try rfl
  go_frame
  apply tk 5 cp5 rfl (by kernel_rfl) (fun _ _ _ h => h) zk
  · intro wq zq
    go_simp
    try rfl
  go_frame
  apply tk 6 cp6 rfl (by kernel_rfl) (fun _ _ _ h => h) zk
  · intro wq zq
    go_simp
    try rfl
  go_frame
  apply tk 7 cp7 rfl (by kernel_rfl) (fun _ _ _ h => h) zk
  · intro wq zq
    go_simp
    try rfl
  go_frame
  apply tk 8 cp8 rfl (by kernel_rfl) (fun _ _ _ h => h) zk
  · intro wq zq
    obtain ⟨s1, s2, s3, s4, s5⟩ := HG.out _ zq
    go_simp
    try rfl
  go_frame
  apply tk 10 cp10 rfl (by kernel_rfl) (fun _ _ _ h => h) zk
  · intro wq zq
    obtain ⟨s1, s2, s3, s4, s5⟩ := HG.out _ zq
    go_simp
    try rfl
  go_frame
  obtain ⟨b0, b1, b2⟩ := HV.out.cells
  refine rd 9 cp9 rfl (by kernel_rfl) fun K hK => ?_
  go_simp
  refine (placeV_is b0 b1 (by omega) hn1 xs.length k hx1l HK.out).mono ?_
  rintro e V ⟨rfl, rfl⟩
  clear b0 b1 b2
  go_wp2_with fail
  refine hK.out _ _ ?_ (fun zk => ?_)
  · exact Ch.refl _ _
  clear hK K
  try go_frame
  apply tk 11 cp11 rfl (by kernel_rfl) (fun _ _ _ h => h) zk
  · intro wq zq
    go_simp
    try rfl
  go_frame
  have hkl : k < pl.length := by rw [HV.out.lies.len]; exact hkn
  obtain ⟨b0, b1, b2⟩ := HV.out.cell (List.getElem?_eq_getElem hkl)
  have fz := fun o => (HV.out.fz o).2
  have HS := hide (rowV_set HV.out.row hkl x)
  have HSC := hide (((Ch.set (Q := fun y => y = g) V rfl (k * 3) (.int .i64 x.n)).trans (Ch.set (Q := fun y => y = g) _ rfl (k * 3 + 1) (.int .u32 x.s)) (fun _ _ h => h)).trans (Ch.set (Q := fun y => y = g) _ rfl (k * 3 + 2) (.int .u32 x.g)) (fun _ _ h => h))
  refine Go.Proofs.Ytbblmbbpicinlaa.rd 12 cp12 rfl (by kernel_rfl) fun K hK => ?_
  go_simp
  refine genK (R := fun W => W.heap[p]? = some (.cells #[.slice (some ⟨g, 0, none⟩) n n, .int .i64 (f : Int), .int .i64 (xs.length : Int)] 204 (0, 0)) ∧ W.heap[g]? = some (.cells ((pl.set k x).flatMap vaF).toArray 46 (0, 0)) ∧ Ch (fun y => y = g) V W) ⟨HSC.out.box HV.out.box hnp, HS.out, HSC.out⟩ ?_
  rintro W2 ⟨hb, hr, hc⟩
  clear zk
  refine hK.out _ _ ?_ (fun zk => ?_)
  · exact hc
  clear hK K
  try go_frame
  refine wpAnyH_done (by kernel_rfl) ?_ _
  have HB := hide hb
  have HR := hide hr
  have HC2 := hide hc
  have c2 : W2.cell? ⟨p, 2, none⟩ = some (.int .i64 (xs.length : Int)) := by simp [Lib.cell_of_heap hb]
  have fp : ∀ o, W2.frozen? ⟨p, o, none⟩ = false := by simp [World.frozen?, hb]
  have e1 : IntKind.i64.wrap ((xs.length : Int) + 1) = ((xs.length + 1 : Nat) : Int) := by rw [IntKind.wrap_i64]; omega
  clear b0 b1 b2 fz hb hr hc hkl
  go_wp2_with fail
  go_ret
  refine ⟨rfl, ⟨?_, ?_, ?_, hn1⟩, ?_⟩
  · rw [heap_set HB.out 2 _, List.length_append, List.length_singleton]
    rfl
  · rw [HK.out]
    exact (Ch.set (Q := fun y => y = p) _ rfl _ _).box HR.out HV.out.ne
  · exact HV.out.lies.put HN.out x
  · exact (((C1.out.trans HC.out (fun _ _ h => h)).mono (Q' := fun y => y = p ∨ y = g) (fun _ _ h => h.elim)).trans HC2.out (fun y _ e => Or.inr e)).trans (Ch.set (Q := fun y => y = p) _ rfl _ _) (fun y _ e => Or.inl e)

theorem res_takeV (tm : Array Value) (A : Nat) (Z : World) (x : Va) (c : Int) (h2 : tm[2]?.getD undef = .pointer (some ⟨A, 0, none⟩)) (h3 : tm[3]?.getD undef = .int .i64 c) (c0 : Z.cell? ⟨A, 0, none⟩ = some (.int .i64 x.n)) (c1 : Z.cell? ⟨A, 1, none⟩ = some (.int .u32 x.s)) (c2 : Z.cell? ⟨A, 2, none⟩ = some (.int .u32 x.g)) :
    (results Try.f101 tm).run Try.prog Z = .ok (.tuple #[vaV x, .int .i64 c]) Z := by
  simp [results, Try.f101, h2, h3, go_sem, c0, c1, c2]
theorem boxV_set {w : World} {A : Nat} {a b c : Value} (hn : w.heap[A]? = some (.cells #[a, b, c] 46 (0, 0))) (x : Va) : (((w.setCell ⟨A, 0, none⟩ (.int .i64 x.n)).setCell ⟨A, 1, none⟩ (.int .u32 x.s)).setCell ⟨A, 2, none⟩ (.int .u32 x.g)).heap[A]? = some (.cells #[.int .i64 x.n, .int .u32 x.s, .int .u32 x.g] 46 (0, 0)) ∧ Ch (fun y => y = A) w (((w.setCell ⟨A, 0, none⟩ (.int .i64 x.n)).setCell ⟨A, 1, none⟩ (.int .u32 x.s)).setCell ⟨A, 2, none⟩ (.int .u32 x.g)) ∧ (w.cell? ⟨A, 0, none⟩ = some a ∧ w.cell? ⟨A, 1, none⟩ = some b ∧ w.cell? ⟨A, 2, none⟩ = some c) ∧ ∀ o, w.frozen? ⟨A, o, none⟩ = false :=
  ⟨by rw [heap_set (heap_set (heap_set hn 0 _) 1 _) 2 _]; rfl, ((Ch.set (Q := fun y => y = A) w rfl 0 _).trans (Ch.set (Q := fun y => y = A) _ rfl 1 _) (fun _ _ h => h)).trans (Ch.set (Q := fun y => y = A) _ rfl 2 _) (fun _ _ h => h), ⟨by simp [Lib.cell_of_heap hn], by simp [Lib.cell_of_heap hn], by simp [Lib.cell_of_heap hn]⟩, fun o => by simp [World.frozen?, hn]⟩

abbrev zCs : Obj := .cells #[.int .i64 0, .int .u32 0, .int .u32 0] 46

set_option maxRecDepth 100000 in
set_option maxHeartbeats 4000000 in
theorem takeV_ok {x : Va} (h : RgV w p g (x :: xs) n f pl) : Calls Try.prog 101 #[.pointer (some ⟨p, 0, none⟩)] w fun e w' => e = .returned (.tuple #[vaV x, .int .i64 0]) ∧ RgV w' p g xs n (plc n f 1) (pl.set f zVa) ∧ Ch (fun y => y = p ∨ y = g) w w' := by
  obtain ⟨w1, hw1⟩ : ∃ w1, w.alloc (.cells #[.int .i64 0, .int .u32 0, .int .u32 0] 46) = w1 := ⟨_, rfl⟩
  have hb1 : Below w.heap.size w w1 := by rw [← hw1]; exact below1 _ _
  have hz1 : w1.heap.size = w.heap.size + 1 := by rw [← hw1, World.size_alloc]
  have hn0 : w1.heap[w.heap.size]? = some (.cells #[.int .i64 0, .int .u32 0, .int .u32 0] 46 (0, 0)) := by rw [← hw1]; exact heap_new _ _
  obtain ⟨w2, hw2⟩ : ∃ w2, w1.alloc (.cells #[.int .i64 0, .int .u32 0, .int .u32 0] 46) = w2 := ⟨_, rfl⟩
  have c12 : Ch (fun _ => False) w1 w2 := by rw [← hw2]; exact Ch.alloc _ _
  have hn1' : w2.heap[w1.heap.size]? = some (.cells #[.int .i64 0, .int .u32 0, .int .u32 0] 46 (0, 0)) := by rw [← hw2]; exact heap_new _ _
  have hn02 := c12.box hn0 (fun h => h)
  have C2 := hide ((Ch.of_below (Q := fun _ => False) hb1).trans c12 (fun _ _ h => h))
  have hpl := h.lt_p
  have hgl := h.lt_g
  replace h := h.quiet C2.out
  obtain ⟨c0, c1, c2⟩ := h.cells
  obtain ⟨hl, hx⟩ := h.lies.take zVa
  have hc := h.lies.cnt
  have hn1 := h.n1
  rw [List.length_cons] at hc c2
  have hf := h.lies.f_lt (by omega)
  have q : (((xs.length + 1 : Nat) : Int) == 0) = false := by simp; omega
  have hfn : (f : Int) < (n : Int) := by omega
  have HX := hide hx
  have hf1 : f ≤ 100 := by omega
  have HL := hide hl
  have H := hide h
  have HN0 := hide hn02
  have HN1 := hide hn1'
  have HZ := hide (And.intro hz1 (And.intro hpl hgl))
  have hnp : ¬ p = g := fun e => h.ne e.symm
  obtain ⟨k, hk⟩ : ∃ k, plc n f 1 = k := ⟨_, rfl⟩
  have HK := hide hk
  have e1 : IntKind.i64.wrap (((xs.length + 1 : Nat) : Int) - 1) = (xs.length : Int) := by rw [IntKind.wrap_i64]; omega
  clear hl hx h hk hn0 hn02 hn1' hpl hgl hb1 c12 hz1
  go_enter Try.func101, Try.ntmps101
  go_wp2_with fail
  clear c0 c1 c2
  refine wp_reg (fun _ => False) (R := fun W => RgV W p g (x :: xs) n f pl ∧ Ch (fun _ => False) w2 W) (by kernel_rfl) ⟨H.out.quiet (Ch.drew _), Ch.drew _⟩ ?_
  rintro V ⟨hv, hcv⟩ zk
  clear hw1 hw2
  have HV := hide hv
  have HC := hide hcv
  have HG := hide (fun wq (zq : Ch (fun _ => False) V wq) => have hq := HV.out.quiet zq; show (wq.cell? ⟨p, 0, none⟩ = some (.slice (some ⟨g, 0, none⟩) n n) ∧ wq.cell? ⟨p, 1, none⟩ = some (.int .i64 (f : Int))) ∧ wq.cell? ⟨g, f * 3, none⟩ = some (.int .i64 x.n) ∧ wq.cell? ⟨g, f * 3 + 1, none⟩ = some (.int .u32 x.s) ∧ wq.cell? ⟨g, f * 3 + 2, none⟩ = some (.int .u32 x.g) from ⟨⟨hq.cells.1, hq.cells.2.1⟩, hq.cell HX.out⟩)
  clear hv hcv
  apply tk 0 ct0 rfl (by kernel_rfl) (fun _ _ _ h => h) zk
  · intro wq zq
    go_simp
    try rfl
  go_frame
  apply tk 1 ct1 rfl (by kernel_rfl) (fun _ _ _ h => h) zk
  · intro wq zq
    go_simp
    try rfl
  go_frame
  apply tk 2 ct2 rfl (by kernel_rfl) (fun _ _ _ h => h) zk
  · intro wq zq
    go_simp
    try rfl
  go_frame
  apply tk 3 ct3 rfl (by kernel_rfl) (fun _ _ _ h => h) zk
  · intro wq zq
    obtain ⟨⟨s1, s2⟩, s3, s4, s5⟩ := HG.out _ zq
    go_simp
    try rfl
  go_frame
  apply tk 4 ct4 rfl (by kernel_rfl) (fun _ _ _ h => h) zk
  · intro wq zq
    go_simp
    try rfl
  go_frame
  apply tk 5 ct5 rfl (by kernel_rfl) (fun _ _ _ h => h) zk
  · intro wq zq
    go_simp
    try rfl
  go_frame
  apply tk 6 ct6 rfl (by kernel_rfl) (fun _ _ _ h => h) zk
  · intro wq zq
    go_simp
    try rfl
  go_frame
  apply tk 7 ct7 rfl (by kernel_rfl) (fun _ _ _ h => h) zk
  · intro wq zq
    obtain ⟨⟨s1, s2⟩, s3, s4, s5⟩ := HG.out _ zq
    go_simp
    try rfl
  go_frame
  apply tk 8 ct8 rfl (by kernel_rfl) (fun _ _ _ h => h) zk
  · intro wq zq
    go_simp
    try rfl
  go_frame
  apply tk 9 ct9 rfl (by kernel_rfl) (fun _ _ _ h => h) zk
  · intro wq zq
    obtain ⟨⟨s1, s2⟩, s3, s4, s5⟩ := HG.out _ zq
    go_simp
    try rfl
  go_frame
  refine Go.Proofs.Ytbblmbbpicinlaa.rd 10 ct10 rfl (by kernel_rfl) fun K hK => ?_
  go_simp
  have hn := heap_new V (.cells #[.int .i64 0, .int .u32 0, .int .u32 0] 46)
  have hcA := Ch.alloc (Q := fun _ => False) V (.cells #[.int .i64 0, .int .u32 0, .int .u32 0] 46)
  refine hK.out _ _ ?_ (fun zk => ?_)
  · exact hcA
  clear hK K
  try go_frame
  generalize V.alloc (.cells #[.int .i64 0, .int .u32 0, .int .u32 0] 46) = V1 at hn hcA zk ⊢
  obtain ⟨b1, b2, ⟨b3, b4, b5⟩, fz⟩ := boxV_set hn x
  have B1 := hide b1
  have B2 := hide (hcA.trans b2 (fun y hy e => by omega))
  clear b1 b2
  refine Go.Proofs.Ytbblmbbpicinlaa.rd 11 ct11 rfl (by kernel_rfl) fun K hK => ?_
  go_simp
  refine genK (R := fun W => RgV W p g (x :: xs) n f pl ∧ Ch (fun _ => False) w2 W ∧ W.heap[V.heap.size]? = some (.cells #[.int .i64 x.n, .int .u32 x.s, .int .u32 x.g] 46 (0, 0)) ∧ Ch (fun _ => False) V W) ⟨HV.out.quiet B2.out, HC.out.trans B2.out (fun _ _ h => h), B1.out, B2.out⟩ ?_
  rintro W3 ⟨hr3, hc3, hb3, hv3⟩
  clear zk
  refine hK.out _ _ ?_ (fun zk => ?_)
  · exact hv3
  clear hK K
  try go_frame
  refine wpAnyH_done (by kernel_rfl) ?_ _
  have H3 := hide hr3
  have C3 := hide hc3
  have X3 := hide hb3
  have hz3 := HC.out.size
  have HZ3 := hide hz3
  clear hr3 hc3 hb3 hv3 hn hcA b3 b4 b5 fz hz3
  go_wp2_with fail
  refine wp_reg (fun y => y = g) (R := fun W => RgV W p g (x :: xs) n f pl ∧ Ch (fun _ => False) W3 W) (by kernel_rfl) ⟨H3.out.quiet (Ch.drew _), Ch.drew _⟩ ?_
  rintro V4 ⟨hv, hcv⟩ zk
  have HV4 := hide hv
  have HC4 := hide hcv
  have N1 := hide (C3.out.box HN1.out (fun h => h))
  have HG4 := hide (fun wq (zq : Ch (fun y => y = g) V4 wq) => have e := Lib.cell_of_heap (zq.box HV4.out.box hnp); have e2 := Lib.cell_of_heap (zq.box (HC4.out.box N1.out (fun h => h)) (fun e => by have := HZ.out; omega)); show (wq.cell? ⟨p, 0, none⟩ = some (.slice (some ⟨g, 0, none⟩) n n) ∧ wq.cell? ⟨p, 1, none⟩ = some (.int .i64 (f : Int))) ∧ wq.cell? ⟨w1.heap.size, 0, none⟩ = some (.int .i64 0) ∧ wq.cell? ⟨w1.heap.size, 1, none⟩ = some (.int .u32 0) ∧ wq.cell? ⟨w1.heap.size, 2, none⟩ = some (.int .u32 0) from ⟨⟨by simp [e], by simp [e]⟩, by simp [e2], by simp [e2], by simp [e2]⟩)
  clear hv hcv
  apply tk 0 cu0 rfl (by kernel_rfl) (fun _ _ _ h => h) zk
  · intro wq zq
    go_simp
    try rfl
  go_frame
  apply tk 1 cu1 rfl (by kernel_rfl) (fun _ _ _ h => h) zk
  · intro wq zq
    go_simp
    try rfl
  go_frame
  apply tk 2 cu2 rfl (by kernel_rfl) (fun _ _ _ h => h) zk
  · intro wq zq
    go_simp
    try rfl
  go_frame
  apply tk 3 cu3 rfl (by kernel_rfl) (fun _ _ _ h => h) zk
  · intro wq zq
    obtain ⟨⟨s1, s2⟩, s3, s4, s5⟩ := HG4.out _ zq
    go_simp
    try rfl
  go_frame
  apply tk 4 cu4 rfl (by kernel_rfl) (fun _ _ _ h => h) zk
  · intro wq zq
    go_simp
    try rfl
  go_frame
  apply tk 5 cu5 rfl (by kernel_rfl) (fun _ _ _ h => h) zk
  · intro wq zq
    go_simp
    try rfl
  go_frame
  apply tk 6 cu6 rfl (by kernel_rfl) (fun _ _ _ h => h) zk
  · intro wq zq
    go_simp
    try rfl
  go_frame
  apply tk 7 cu7 rfl (by kernel_rfl) (fun _ _ _ h => h) zk
  · intro wq zq
    obtain ⟨⟨s1, s2⟩, s3, s4, s5⟩ := HG4.out _ zq
    go_simp
    try rfl
  go_frame
  apply tk 8 cu8 rfl (by kernel_rfl) (fun _ _ _ h => h) zk
  · intro wq zq
    obtain ⟨⟨s1, s2⟩, s3, s4, s5⟩ := HG4.out _ zq
    go_simp
    try rfl
  go_frame
  apply tk 9 cu9 rfl (by kernel_rfl) (fun _ _ _ h => h) zk
  · intro wq zq
    go_simp
    try rfl
  go_frame
  have hkl : f < pl.length := by rw [HV4.out.lies.len]; omega
  obtain ⟨b0, b1, b2⟩ := HV4.out.cell HX.out
  have fz := fun o => (HV4.out.fz o).2
  have HS := hide (rowV_set HV4.out.row hkl zVa)
  have HSC := hide (((Ch.set (Q := fun y => y = g) V4 rfl (f * 3) (.int .i64 0)).trans (Ch.set (Q := fun y => y = g) _ rfl (f * 3 + 1) (.int .u32 0)) (fun _ _ h => h)).trans (Ch.set (Q := fun y => y = g) _ rfl (f * 3 + 2) (.int .u32 0)) (fun _ _ h => h))
  refine Go.Proofs.Ytbblmbbpicinlaa.rd 10 cu10 rfl (by kernel_rfl) fun K hK => ?_
  go_simp
  refine genK (R := fun W => W.heap[p]? = some (.cells #[.slice (some ⟨g, 0, none⟩) n n, .int .i64 (f : Int), .int .i64 ((xs.length + 1 : Nat) : Int)] 204 (0, 0)) ∧ W.heap[g]? = some (.cells ((pl.set f zVa).flatMap vaF).toArray 46 (0, 0)) ∧ Ch (fun y => y = g) V4 W) ⟨HSC.out.box HV4.out.box hnp, HS.out, HSC.out⟩ ?_
  rintro W5 ⟨hb, hr, hc5⟩
  clear zk
  refine hK.out _ _ ?_ (fun zk => ?_)
  · exact hc5
  clear hK K
  try go_frame
  refine wpAnyH_done (by kernel_rfl) ?_ _
  have HB := hide hb
  have HR := hide hr
  have HC5 := hide hc5
  have C5 := hide (C3.out.trans HC4.out (fun _ _ h => h))
  have ngs : ¬ w.heap.size = g := fun e => by have := HZ.out; omega
  have n0 := hc5.box (C5.out.box HN0.out (fun h => h)) ngs
  have nx := hc5.box (HC4.out.box X3.out (fun h => h)) (fun e => by have h1 := HZ.out; have h2 := HZ3.out; have h3 := C2.out.size; omega)
  have N0 := hide n0
  have c0 : W5.cell? ⟨p, 0, none⟩ = some (.slice (some ⟨g, 0, none⟩) n n) := by simp [Lib.cell_of_heap hb]
  have c1 : W5.cell? ⟨p, 1, none⟩ = some (.int .i64 (f : Int)) := by simp [Lib.cell_of_heap hb]
  have c2 : W5.cell? ⟨p, 2, none⟩ = some (.int .i64 ((xs.length + 1 : Nat) : Int)) := by simp [Lib.cell_of_heap hb]
  have fp : ∀ o, W5.frozen? ⟨p, o, none⟩ = false := by simp [World.frozen?, hb]
  have ps : ¬ p = w.heap.size := fun e => by have := HZ.out; omega
  have pv : ¬ V.heap.size = p := fun e => by have h1 := HZ.out; have h2 := HZ3.out; have h3 := C2.out.size; omega
  have HW6 := hide (fun a b => show ((W5.setCell ⟨p, 1, none⟩ a).setCell ⟨p, 2, none⟩ b).heap[w.heap.size]? = some (.cells #[.int .i64 0, .int .u32 0, .int .u32 0] 46 (0, 0)) ∧ ((W5.setCell ⟨p, 1, none⟩ a).setCell ⟨p, 2, none⟩ b).heap[V.heap.size]? = some (.cells #[.int .i64 x.n, .int .u32 x.s, .int .u32 x.g] 46 (0, 0)) ∧ Ch (fun y => y = p) W5 ((W5.setCell ⟨p, 1, none⟩ a).setCell ⟨p, 2, none⟩ b) from by
    have cc := (Ch.set (Q := fun y => y = p) W5 rfl 1 a).trans (Ch.set (Q := fun y => y = p) _ rfl 2 b) (fun _ _ h => h)
    exact ⟨cc.box n0 (fun e => ps e.symm), cc.box nx pv, cc⟩)
  have z0 := fun a b => (boxV_set (HW6.out a b).2.1 x).2.2.1.1
  have z1 := fun a b => (boxV_set (HW6.out a b).2.1 x).2.2.1.2.1
  have z2 := fun a b => (boxV_set (HW6.out a b).2.1 x).2.2.1.2.2
  have z3 := fun a b => (boxV_set (HW6.out a b).1 x).2.2.1.1
  have z4 := fun a b => (boxV_set (HW6.out a b).1 x).2.2.1.2.1
  have z5 := fun a b => (boxV_set (HW6.out a b).1 x).2.2.1.2.2
  have z6 := fun a b => (boxV_set (HW6.out a b).1 x).2.2.2
  clear b0 b1 b2 fz hb hr hc5 n0 nx hkl
  go_wp2_with (go_at_call 117; refine (placeV_is c0 c1 hf1 hn1 1 k (by decide) HK.out).mono ?_; rintro e W5 ⟨rfl, rfl⟩)
  have HF := hide (boxV_set (HW6.out (.int .i64 (k : Int)) (.int .i64 (xs.length : Int))).1 x)
  refine bodyPost_ret (v := .tuple #[vaV x, .int .i64 0]) (res_takeV _ w.heap.size _ x 0 rfl rfl ?_ ?_ ?_) rfl ⟨rfl, ⟨?_, ?_, ?_, hn1⟩, ?_⟩
  · exact (boxV_set HF.out.1 x).2.2.1.1
  · exact (boxV_set HF.out.1 x).2.2.1.2.1
  · exact (boxV_set HF.out.1 x).2.2.1.2.2
  · rw [HK.out]
    exact HF.out.2.1.box ((heap_set (heap_set HB.out 1 _) 2 _).trans (by rfl)) ps
  · exact HF.out.2.1.box ((HW6.out _ _).2.2.box HR.out HV4.out.ne) (fun e => ngs e.symm)
  · rw [HK.out]
    exact HK.out ▸ HL.out
  · have d1 := (C2.out.trans C5.out (fun _ _ h => h)).mono (Q' := fun y => y = p ∨ y = g) (fun _ _ h => h.elim)
    have d2 := d1.trans HC5.out (fun _ _ e => Or.inr e)
    have d3 := d2.trans (HW6.out (.int .i64 (k : Int)) (.int .i64 (xs.length : Int))).2.2 (fun _ _ e => Or.inl e)
    exact d3.trans HF.out.2.1 (fun y hy e => by omega)

set_option maxRecDepth 100000 in
set_option maxHeartbeats 2000000 in
theorem takeV_no (h : RgV w p g [] n f pl) : Calls Try.prog 101 #[.pointer (some ⟨p, 0, none⟩)] w fun e w' => e = .returned (.tuple #[vaV zVa, .int .i64 122]) ∧ Below w.heap.size w w' := by
  obtain ⟨w1, hw1⟩ : ∃ w1, w.alloc (.cells #[.int .i64 0, .int .u32 0, .int .u32 0] 46) = w1 := ⟨_, rfl⟩
  have hb1 : Below w.heap.size w w1 := by rw [← hw1]; exact below1 _ _
  have hn0 : w1.heap[w.heap.size]? = some (.cells #[.int .i64 0, .int .u32 0, .int .u32 0] 46 (0, 0)) := by rw [← hw1]; exact heap_new _ _
  obtain ⟨w2, hw2⟩ : ∃ w2, w1.alloc (.cells #[.int .i64 0, .int .u32 0, .int .u32 0] 46) = w2 := ⟨_, rfl⟩
  have c12 : Ch (fun _ => False) w1 w2 := by rw [← hw2]; exact Ch.alloc _ _
  have hn1' : w2.heap[w1.heap.size]? = some (.cells #[.int .i64 0, .int .u32 0, .int .u32 0] 46 (0, 0)) := by rw [← hw2]; exact heap_new _ _
  have hn02 := c12.box hn0 (fun h => h)
  have HC2 := hide ((Ch.of_below (Q := fun _ => False) hb1).trans c12 (fun _ _ h => h))
  obtain ⟨-, -, c2⟩ := (h.quiet HC2.out).cells
  have c2 : w2.cell? ⟨p, 2, none⟩ = some (.int .i64 0) := c2
  obtain ⟨-, -, ⟨z0, z1, z2⟩, -⟩ := boxV_set hn1' zVa
  obtain ⟨b1, b2, ⟨z3, z4, z5⟩, z6⟩ := boxV_set hn02 zVa
  have HF := hide (And.intro b1 b2)
  clear hn0 hn02 hn1' hb1 c12 b1 b2
  go_enter Try.func101, Try.ntmps101
  go_wp2
  refine bodyPost_ret (v := .tuple #[vaV zVa, .int .i64 122]) (res_takeV _ w.heap.size _ zVa 122 rfl rfl ?_ ?_ ?_) rfl ⟨rfl, ?_⟩
  · exact (boxV_set HF.out.1 zVa).2.2.1.1
  · exact (boxV_set HF.out.1 zVa).2.2.1.2.1
  · exact (boxV_set HF.out.1 zVa).2.2.1.2.2
  · exact (HC2.out.trans HF.out.2 (fun y hy e => by omega)).below (Nat.le_refl _) (fun _ _ h => h)
end
end Go.Proofs.Ytbblmbbpicinlaa

namespace Go.Proofs.Ytbblmbbpicinlaa
open Go.RowKit

abbrev Hnd := Int × Int
abbrev hkV (x : Hnd) : Value := hvW x.1 x.2
set_option maxRecDepth 100000 in
theorem ktH (w : World) : KT 43 hkV w :=
  ⟨fun x y _ _ => by
    refine (eq_hand w 9998 x.1 x.2 y.1 y.2).trans ?_
    congr 1
    rw [Bool.eq_iff_iff]
    obtain ⟨a, b⟩ := x
    obtain ⟨a', b'⟩ := y
    simp, fun em x => by unfold hkV; kernel_rfl, fun x es => run_findKey_eq w (by kernel_rfl) _ _, fun x => by simp [Instr.sameBits]⟩

/-- a channel: its handle, its block, its ring's blocks, what it holds, whether it is closed -/
structure Cn where
  h : Hnd
  cb : Nat
  rp : Nat
  rg : Nat
  n : Nat
  f : Nat
  pl : List Va
  xs : List Va
  cl : Bool

def Cn.mine (c : Cn) (y : Nat) : Prop := y = c.cb ∨ y = c.rp ∨ y = c.rg
structure ChAt (w : World) (bp : Nat) (c : Cn) : Prop where
  box : w.heap[c.cb]? = some (.cells #[.pointer (some ⟨bp, 0, none⟩), .int .u32 c.h.1, .int .u32 c.h.2, .pointer (some ⟨c.rp, 0, none⟩), .bool c.cl] 147 (0, 0))
  ring : RgV w c.rp c.rg c.xs c.n c.f c.pl
theorem ChAt.ch {Q : Nat → Prop} {w w' : World} {bp : Nat} {c : Cn} (h : ChAt w bp c) (hc : Ch Q w w') (hq : ∀ y, c.mine y → ¬ Q y) : ChAt w' bp c :=
  ⟨hc.box h.box (hq _ (.inl rfl)), h.ring.ch hc (hq _ (.inr (.inl rfl))) (hq _ (.inr (.inr rfl)))⟩
theorem ChAt.lt {w : World} {bp : Nat} {c : Cn} (h : ChAt w bp c) : ∀ y, c.mine y → y < w.heap.size := by
  rintro y (rfl | rfl | rfl)
  · exact (Array.getElem?_eq_some_iff.1 h.box).1
  · exact h.ring.lt_p
  · exact h.ring.lt_g
theorem ChAt.cells {w : World} {bp : Nat} {c : Cn} (h : ChAt w bp c) : w.cell? ⟨c.cb, 0, none⟩ = some (.pointer (some ⟨bp, 0, none⟩)) ∧ w.cell? ⟨c.cb, 1, none⟩ = some (.int .u32 c.h.1) ∧ w.cell? ⟨c.cb, 2, none⟩ = some (.int .u32 c.h.2) ∧ w.cell? ⟨c.cb, 3, none⟩ = some (.pointer (some ⟨c.rp, 0, none⟩)) ∧ w.cell? ⟨c.cb, 4, none⟩ = some (.bool c.cl) := by simp [Lib.cell_of_heap h.box]

/-- the channel with a handle -/
def fnc (cs : List Cn) (h : Hnd) : Option Cn := cs.find? fun c => decide (c.h = h)
theorem fnc_some {cs : List Cn} {h : Hnd} {c : Cn} (e : fnc cs h = some c) : c ∈ cs ∧ c.h = h := ⟨List.mem_of_find?_eq_some e, by have := List.find?_some e; simpa using this⟩

/-- the channels lie in block c, their map in block M; the book in the blocks of F -/
structure CI (w : World) (B c bp M : Nat) (F : Nat → Prop) (l : List Wt) (cs : List Cn) : Prop where
  box : w.heap[c]? = some (.cells #[.pointer (some ⟨bp, 0, none⟩), .map (some M)] 127 (0, 0))
  mp : MapF hkV w M (fun h => (fnc cs h).map fun x => .pointer (some ⟨x.cb, 0, none⟩)) cs.length
  bk : PTb w B F bp l
  ch : ∀ x ∈ cs, ChAt w bp x
  ap : cs.Pairwise fun a b => ∀ y, a.mine y → ¬ b.mine y
  nd : cs.Pairwise fun a b => a.h ≠ b.h
  far : ∀ y, F y → y ≠ c ∧ y ≠ M ∧ ∀ x ∈ cs, ¬ x.mine y
  lo : B ≤ c ∧ B ≤ M ∧ ∀ x ∈ cs, ∀ y, x.mine y → B ≤ y
  low : B ≤ w.heap.size

section
variable {w w' : World} {B c bp M : Nat} {F F' : Nat → Prop} {l l' : List Wt} {cs : List Cn}

theorem CI.cells (h : CI w B c bp M F l cs) : w.cell? ⟨c, 0, none⟩ = some (.pointer (some ⟨bp, 0, none⟩)) ∧ w.cell? ⟨c, 1, none⟩ = some (.map (some M)) := by simp [Lib.cell_of_heap h.box]
theorem CI.ne (h : CI w B c bp M F l cs) : c ≠ M := MapF.ne_cells h.mp h.box
/-- each channel's blocks are neither the channels' own nor the map -/
theorem CI.sep (h : CI w B c bp M F l cs) : ∀ x ∈ cs, ∀ y, x.mine y → y ≠ c ∧ y ≠ M := by
  intro x hx y hy
  have hc := h.ch x hx
  have ne : ∀ {b : Nat} {cs' : Array Value} {T : TypeId} {r : Nat × Nat}, w.heap[b]? = some (.cells cs' T r) → T ≠ 127 → b ≠ c ∧ b ≠ M := fun {b cs' T r} hb hT => ⟨fun e => by
    rw [e, h.box] at hb
    injection hb with hb
    injection hb with _ h2 _
    exact hT h2.symm, MapF.ne_cells h.mp hb⟩
  rcases hy with rfl | rfl | rfl
  · exact ne hc.box (by decide)
  · exact ne hc.ring.box (by decide)
  · exact ne hc.ring.row (by decide)
theorem CI.quiet (h : CI w B c bp M F l cs) (hc : Ch (fun _ => False) w w') : CI w' B c bp M F l cs :=
  ⟨hc.box h.box (fun h => h), h.mp.ch hc (fun h => h), face.ch h.bk hc (fun _ _ h => h), fun x hx => (h.ch x hx).ch hc (fun _ _ h => h), h.ap, h.nd, h.far, h.lo, Nat.le_trans h.low hc.size⟩
/-- the book has gone on -/
theorem CI.book (h : CI w B c bp M F l cs) (hb : PTb w' B F' bp l') (hc : Ch F w w') (hd : ∀ y, F' y → F y ∨ w.heap.size ≤ y) : CI w' B c bp M F' l' cs := by
  refine ⟨hc.box h.box (fun e => (h.far _ e).1 rfl), h.mp.ch hc (fun e => (h.far _ e).2.1 rfl), hb, fun x hx => (h.ch x hx).ch hc (fun y hy e => (h.far y e).2.2 x hx hy), h.ap, h.nd, fun y hy => ?_, h.lo, Nat.le_trans h.low hc.size⟩
  rcases hd y hy with e | e
  · exact h.far y e
  · refine ⟨fun e2 => ?_, fun e2 => ?_, fun x hx hm => ?_⟩
    · have := (Array.getElem?_eq_some_iff.1 h.box).1
      omega
    · have := h.mp.lt
      omega
    · have := (h.ch x hx).lt y hm
      omega
/-- a channel has gone on -/
theorem CI.upd (h : CI w B c bp M F l cs) {i : Nat} (hi : i < cs.length) {x : Cn} (hx : ChAt w' bp x) (e : x.h = cs[i].h ∧ x.cb = cs[i].cb ∧ x.rp = cs[i].rp ∧ x.rg = cs[i].rg) (hc : Ch cs[i].mine w w') : CI w' B c bp M F l (cs.set i x) := by
  have hm : ∀ y, x.mine y ↔ cs[i].mine y := fun y => by unfold Cn.mine; rw [e.2.1, e.2.2.1, e.2.2.2]
  have hin : cs[i] ∈ cs := List.getElem_mem hi
  have hsep := h.sep _ hin
  have hfn : ∀ k, (fnc (cs.set i x) k).map (fun z => Value.pointer (some ⟨z.cb, 0, none⟩)) = (fnc cs k).map fun z => Value.pointer (some ⟨z.cb, 0, none⟩) := fun k => by
    unfold fnc
    clear h hx hc hm hin hsep
    induction cs generalizing i with
    | nil => exact absurd hi (Nat.not_lt_zero _)
    | cons a cs ih =>
      cases i with
      | zero =>
        rw [List.set_cons_zero, List.find?_cons, List.find?_cons, e.1, List.getElem_cons_zero]
        cases decide (a.h = k) with
        | true => simp only [Option.map_some]; rw [e.2.1]; rfl
        | false => rfl
      | succ i =>
        rw [List.set_cons_succ, List.find?_cons, List.find?_cons]
        cases decide (a.h = k) with
        | true => rfl
        | false => exact ih (by simpa using hi) e
  have hother : ∀ j (hj : j < cs.length), j ≠ i → ∀ y, cs[j].mine y → ¬ cs[i].mine y := fun j hj hji y hy hy2 => by
    rcases Nat.lt_or_gt_of_ne hji with hlt | hlt
    · exact List.pairwise_iff_getElem.1 h.ap j i hj hi hlt y hy hy2
    · exact List.pairwise_iff_getElem.1 h.ap i j hi hj hlt y hy2 hy
  have hmem : ∀ z ∈ cs.set i x, z = x ∨ ∃ j, ∃ hj : j < cs.length, j ≠ i ∧ z = cs[j] := fun z hz => by
    obtain ⟨j, hj, rfl⟩ := List.getElem_of_mem hz
    rw [List.length_set] at hj
    by_cases hji : j = i
    · subst hji
      exact .inl (by rw [List.getElem_set_self])
    · exact .inr ⟨j, hj, hji, by rw [List.getElem_set_ne (fun e => hji e.symm)]⟩
  refine ⟨hc.box h.box (fun e => (hsep _ e).1 rfl), ?_, face.ch h.bk hc (fun y hy e => (h.far y hy).2.2 _ hin e), fun z hz => ?_, ?_, ?_, fun y hy => ⟨(h.far y hy).1, (h.far y hy).2.1, fun z hz hm2 => ?_⟩, ⟨h.lo.1, h.lo.2.1, fun z hz y hy => ?_⟩, Nat.le_trans h.low hc.size⟩
  · have := h.mp.ch hc (fun e => (hsep _ e).2 rfl)
    rw [List.length_set, show (fun k => (fnc (cs.set i x) k).map fun z => Value.pointer (some ⟨z.cb, 0, none⟩)) = fun k => (fnc cs k).map fun z => Value.pointer (some ⟨z.cb, 0, none⟩) from funext hfn]
    exact this
  · rcases hmem z hz with rfl | ⟨j, hj, hji, rfl⟩
    · exact hx
    · exact (h.ch _ (List.getElem_mem hj)).ch hc (hother j hj hji)
  · rw [List.pairwise_iff_getElem]
    intro a b ha hb hab y hy hy2
    rw [List.length_set] at ha hb
    rw [List.getElem_set] at hy hy2
    have key := List.pairwise_iff_getElem.1 h.ap a b ha hb hab y
    split at hy <;> split at hy2
    · omega
    · subst_vars; exact key ((hm y).1 hy) hy2
    · subst_vars; exact key hy ((hm y).1 hy2)
    · exact key hy hy2
  · rw [List.pairwise_iff_getElem]
    intro a b ha hb hab
    rw [List.length_set] at ha hb
    rw [List.getElem_set, List.getElem_set]
    have key := List.pairwise_iff_getElem.1 h.nd a b ha hb hab
    split <;> split
    · omega
    · subst_vars; rw [e.1]; exact key
    · subst_vars; rw [e.1]; exact key
    · exact key
  · rcases hmem z hz with rfl | ⟨j, hj, hji, rfl⟩
    · exact (h.far y hy).2.2 _ hin ((hm y).1 hm2)
    · exact (h.far y hy).2.2 _ (List.getElem_mem hj) hm2
  · rcases hmem z hz with rfl | ⟨j, hj, hji, rfl⟩
    · exact h.lo.2.2 _ hin y ((hm y).1 hy)
    · exact h.lo.2.2 _ (List.getElem_mem hj) y hy
end

abbrev ca0 : Oper := { dst := some 7, op := Op.move (Operand.tmp 0), type := 26, pos := "chans.go:145", after := #[], guard := none }
abbrev ca1 : Oper := { dst := some 8, op := Op.nilCheck (Operand.tmp 7), type := 0, pos := "chans.go:145", after := #[{ on := 0, ground := Ground.data }], guard := none }
abbrev ca2 : Oper := { dst := some 9, op := Op.fieldAddr 127 (Operand.tmp 8) 1, type := 0, pos := "chans.go:145", after := #[{ on := 1, ground := Ground.data }], guard := none }
abbrev ca3 : Oper := { dst := some 10, op := Op.load 125 (Operand.tmp 9), type := 125, pos := "chans.go:145", after := #[{ on := 2, ground := Ground.data }], guard := none }
abbrev ca4 : Oper := { dst := some 11, op := Op.load 43 (Operand.tmp 3), type := 43, pos := "chans.go:145", after := #[], guard := none }
abbrev ca5 : Oper := { dst := some 12, op := Op.lookup 125 (Operand.tmp 10) (Operand.tmp 11) false, type := 143, pos := "chans.go:145", after := #[{ on := 3, ground := Ground.data }, { on := 4, ground := Ground.data }], guard := none }
abbrev ca6 : Oper := { dst := some 4, op := Op.assign (Operand.tmp 12), type := 143, pos := "chans.go:145", after := #[{ on := 5, ground := Ground.data }, { on := 0, ground := Ground.phase }, { on := 1, ground := Ground.phase }, { on := 2, ground := Ground.phase }, { on := 3, ground := Ground.phase }, { on := 4, ground := Ground.phase }, { on := 5, ground := Ground.phase }], guard := none }
theorem zeroCh (w : World) : (zeroValue 143).run Try.prog w = .ok (.pointer none) w := by kernel_rfl
theorem isNone_is (w : World) (s g : Int) : Calls Try.prog 59 #[hvW s g] w fun e w' => e = .returned (.bool (decide (s = 0) && decide (g = 0))) ∧ Below w.heap.size w w' := by
  by_cases es : s = 0
  · have qs : (s == 0) = true := by simpa using es
    rw [decide_eq_true es]
    by_cases eg : g = 0
    · have qg : (g == 0) = true := by simpa using eg
      rw [decide_eq_true eg]
      clear es eg
      go_enter Try.func59, Try.ntmps59
      go_wp2
      go_ret
      exact ⟨rfl, below1 _ _⟩
    · have qg : (g == 0) = false := by simpa using eg
      rw [decide_eq_false eg]
      clear es eg
      go_enter Try.func59, Try.ntmps59
      go_wp2
      go_ret
      exact ⟨rfl, below1 _ _⟩
  · have qs : (s == 0) = false := by simpa using es
    rw [decide_eq_false es, Bool.false_and]
    clear es
    go_enter Try.func59, Try.ntmps59
    go_wp2
    go_ret
    exact ⟨rfl, below1 _ _⟩

theorem val_lookH {o : Oper} {a : Act} {w : World} {M n : Nat} {f : Hnd → Option Value} {x : Hnd} (m y : Operand) (hop : o.op = Op.lookup 125 m y false) (hm : a.eval m = .map (some M)) (hy : a.eval y = hkV x) (h : MapF hkV w M f n) : (execOp a.eval o).run Try.prog w = .ok (.value ((f x).getD (.pointer none))) w := by
  have := h.look (x := x) (ktH w) Try.underlying125 (zeroCh w)
  simp [execOp, hop, hm, hy, this, Result.andThen]
/-- the value of a channel that may be there -/
def cpV (o : Option Cn) : Value := (o.map fun x => Value.pointer (some ⟨x.cb, 0, none⟩)).getD (.pointer none)
set_option maxRecDepth 100000 in
theorem at_cis {w : World} {B c bp M : Nat} {F : Nat → Prop} {l : List Wt} {cs : List Cn} (h : CI w B c bp M F l cs) (x : Hnd) : Calls Try.prog 65 #[.pointer (some ⟨c, 0, none⟩), hkV x] w fun e w' => e = .returned (cpV (fnc cs x)) ∧ Below w.heap.size w w' := by
  obtain ⟨w1, hw1⟩ : ∃ w1, w.alloc (.cells #[.int .u32 x.1, .int .u32 x.2] 43) = w1 := ⟨_, rfl⟩
  have hb1 : Below w.heap.size w w1 := by rw [← hw1]; exact below1 _ _
  have hn : w1.heap[w.heap.size]? = some (.cells #[.int .u32 x.1, .int .u32 x.2] 43 (0, 0)) := by rw [← hw1]; exact heap_new _ _
  have h1 := h.quiet (Ch.of_below hb1)
  obtain ⟨c0, c1⟩ := h1.cells
  have n0 : w1.cell? ⟨w.heap.size, 0, none⟩ = some (.int .u32 x.1) := by simp [Lib.cell_of_heap hn]
  have n1 : w1.cell? ⟨w.heap.size, 1, none⟩ = some (.int .u32 x.2) := by simp [Lib.cell_of_heap hn]
  have HMP := hide h1.mp
  have HN := hide (And.intro h1.box hn)
  have HB := hide hb1
  clear h h1 hn hb1
  go_enter Try.func65, Try.ntmps65
  go_wp2
  clear c0 c1 n0 n1 hw1
  refine wp_reg (fun _ => False) (R := fun V => Ch (fun _ => False) w1 V) (by kernel_rfl) (Ch.drew _) (fun V cV zk => ?_)
  have CV := hide cV
  clear cV
  have HX := hide (fun wq (kq : Ch (fun _ => False) V wq) => show wq.cell? ⟨c, 1, none⟩ = some (.map (some M)) ∧ wq.cell? ⟨w.heap.size, 0, none⟩ = some (.int .u32 x.1) ∧ wq.cell? ⟨w.heap.size, 1, none⟩ = some (.int .u32 x.2) from by
    have e1 := Lib.cell_of_heap ((CV.out.trans kq (fun _ _ h => h)).box HN.out.1 (fun h => h))
    have e2 := Lib.cell_of_heap ((CV.out.trans kq (fun _ _ h => h)).box HN.out.2 (fun h => h))
    exact ⟨by simp [e1], by simp [e2], by simp [e2]⟩)
  apply tk 0 ca0 rfl (by kernel_rfl) (fun _ _ _ h => h) zk
  · intro wq zq
    go_simp
    try rfl
  go_frame
  apply tk 1 ca1 rfl (by kernel_rfl) (fun _ _ _ h => h) zk
  · intro wq zq
    go_simp
    try rfl
  go_frame
  apply tk 2 ca2 rfl (by kernel_rfl) (fun _ _ _ h => h) zk
  · intro wq zq
    go_simp
    try rfl
  go_frame
  apply tk 3 ca3 rfl (by kernel_rfl) (fun _ _ _ h => h) zk
  · intro wq zq
    obtain ⟨s1, s2, s3⟩ := HX.out _ zq
    go_simp
    try rfl
  go_frame
  apply tk 4 ca4 rfl (by kernel_rfl) (fun _ _ _ h => h) zk
  · intro wq zq
    obtain ⟨s1, s2, s3⟩ := HX.out _ zq
    go_simp
    try rfl
  go_frame
  apply tk 5 ca5 rfl (by kernel_rfl) (fun _ _ _ h => h) zk
  · intro wq zq
    exact val_lookH (x := x) (.tmp 10) (.tmp 11) rfl rfl rfl (HMP.out.ch (CV.out.trans zq (fun _ _ h => h)) (fun h => h))
  go_frame
  apply tk 6 ca6 rfl (by kernel_rfl) (fun _ _ _ h => h) zk
  · intro wq zq
    go_simp
    try rfl
  go_frame
  refine wpAnyH_done (by kernel_rfl) ?_ _
  go_wp2
  go_ret
  exact ⟨rfl, HB.out.trans (CV.out.below HB.out.size (fun _ _ h => h))⟩

end Go.Proofs.Ytbblmbbpicinlaa
