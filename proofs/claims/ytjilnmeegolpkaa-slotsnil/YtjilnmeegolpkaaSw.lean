/- Layer 10: the law's 'all'. -/
import Derived.Test.YtjilnmeegolpkaaSx
import Derived.Test.YtjilnmeegolpkaaTk
namespace Go.Proofs.Ytjilnmeegolpkaa
open Go.RowKit Go.Shelf

attribute [local go_sem] Oper.semAt_some

abbrev oa0 : Oper := { dst := some 31, op := Op.load 4 (Operand.tmp 8), type := 4, pos := "law.go:115", after := #[], guard := none }
abbrev oa1 : Oper := { dst := some 32, op := Op.move (Operand.tmp 31), type := 4, pos := "law.go:115", after := #[{ on := 0, ground := Ground.data }], guard := none }
abbrev oa2 : Oper := { dst := some 33, op := Op.load 3 (Operand.tmp 7), type := 3, pos := "law.go:115", after := #[{ on := 1, ground := Ground.guard }], guard := some (1, true) }
abbrev oa3 : Oper := { dst := some 34, op := Op.load 43 (Operand.tmp 5), type := 43, pos := "law.go:115", after := #[{ on := 1, ground := Ground.guard }], guard := some (1, true) }
abbrev oa4 : Oper := { dst := some 35, op := Op.call { callee := Callee.builtin Builtin.len, args := #[Operand.tmp 34], argTypes := #[43] }, type := 3, pos := "law.go:115", after := #[{ on := 3, ground := Ground.data }, { on := 1, ground := Ground.guard }], guard := some (1, true) }
abbrev oa5 : Oper := { dst := some 36, op := Op.binOp BinOp.lss 3 (Operand.tmp 33) (Operand.tmp 35) 3, type := 4, pos := "law.go:115", after := #[{ on := 2, ground := Ground.data }, { on := 4, ground := Ground.data }, { on := 1, ground := Ground.guard }], guard := some (1, true) }
abbrev oa6 : Oper := { dst := some 37, op := Op.pick (Operand.tmp 32) (Operand.tmp 36) (Operand.const (Value.bool false)), type := 4, pos := "law.go:115", after := #[{ on := 1, ground := Ground.data }, { on := 5, ground := Ground.data }], guard := none }
abbrev oa7 : Oper := { dst := some 38, op := Op.move (Operand.tmp 37), type := 4, pos := "law.go:115", after := #[{ on := 6, ground := Ground.data }, { on := 1, ground := Ground.chain }], guard := none }
abbrev oa8 : Oper := { dst := some 39, op := Op.load 39 (Operand.tmp 9), type := 39, pos := "law.go:115", after := #[{ on := 7, ground := Ground.guard }], guard := some (7, true) }
abbrev oa9 : Oper := { dst := some 40, op := Op.load 43 (Operand.tmp 5), type := 43, pos := "law.go:115", after := #[{ on := 7, ground := Ground.guard }], guard := some (7, true) }
abbrev oa10 : Oper := { dst := some 41, op := Op.load 3 (Operand.tmp 7), type := 3, pos := "law.go:115", after := #[{ on := 7, ground := Ground.guard }], guard := some (7, true) }
abbrev oa11 : Oper := { dst := some 42, op := Op.indexAddr 43 (Operand.tmp 40) (Operand.tmp 41), type := 0, pos := "law.go:115", after := #[{ on := 9, ground := Ground.data }, { on := 10, ground := Ground.data }, { on := 7, ground := Ground.guard }], guard := some (7, true) }
abbrev oa12 : Oper := { dst := some 43, op := Op.fieldAddr 84 (Operand.tmp 42) 0, type := 0, pos := "law.go:115", after := #[{ on := 11, ground := Ground.data }, { on := 7, ground := Ground.guard }], guard := some (7, true) }
abbrev oa13 : Oper := { dst := some 44, op := Op.load 39 (Operand.tmp 43), type := 39, pos := "law.go:115", after := #[{ on := 12, ground := Ground.data }, { on := 7, ground := Ground.guard }], guard := some (7, true) }
abbrev oa14 : Oper := { dst := some 45, op := Op.binOp BinOp.eql 39 (Operand.tmp 39) (Operand.tmp 44) 39, type := 4, pos := "law.go:115", after := #[{ on := 8, ground := Ground.data }, { on := 13, ground := Ground.data }, { on := 7, ground := Ground.guard }], guard := some (7, true) }
abbrev oa15 : Oper := { dst := some 46, op := Op.pick (Operand.tmp 38) (Operand.tmp 45) (Operand.const (Value.bool false)), type := 4, pos := "law.go:115", after := #[{ on := 7, ground := Ground.data }, { on := 14, ground := Ground.data }], guard := none }
abbrev oa16 : Oper := { dst := some 47, op := Op.move (Operand.tmp 46), type := 4, pos := "law.go:115", after := #[{ on := 15, ground := Ground.data }, { on := 7, ground := Ground.chain }], guard := none }
abbrev oa17 : Oper := { dst := some 48, op := Op.move (Operand.tmp 10), type := 3, pos := "law.go:115", after := #[{ on := 16, ground := Ground.guard }], guard := some (16, true) }
abbrev oa18 : Oper := { dst := some 49, op := Op.load 43 (Operand.tmp 5), type := 43, pos := "law.go:115", after := #[{ on := 16, ground := Ground.guard }], guard := some (16, true) }
abbrev oa19 : Oper := { dst := some 50, op := Op.load 3 (Operand.tmp 7), type := 3, pos := "law.go:115", after := #[{ on := 16, ground := Ground.guard }], guard := some (16, true) }
abbrev oa20 : Oper := { dst := some 51, op := Op.indexAddr 43 (Operand.tmp 49) (Operand.tmp 50), type := 0, pos := "law.go:115", after := #[{ on := 18, ground := Ground.data }, { on := 19, ground := Ground.data }, { on := 16, ground := Ground.guard }], guard := some (16, true) }
abbrev oa21 : Oper := { dst := some 52, op := Op.fieldAddr 84 (Operand.tmp 51) 1, type := 0, pos := "law.go:115", after := #[{ on := 20, ground := Ground.data }, { on := 16, ground := Ground.guard }], guard := some (16, true) }
abbrev oa22 : Oper := { dst := some 53, op := Op.load 3 (Operand.tmp 52), type := 3, pos := "law.go:115", after := #[{ on := 21, ground := Ground.data }, { on := 16, ground := Ground.guard }], guard := some (16, true) }
abbrev oa23 : Oper := { dst := some 54, op := Op.binOp BinOp.eql 3 (Operand.tmp 48) (Operand.tmp 53) 3, type := 4, pos := "law.go:115", after := #[{ on := 17, ground := Ground.data }, { on := 22, ground := Ground.data }, { on := 16, ground := Ground.guard }], guard := some (16, true) }
abbrev oa24 : Oper := { dst := some 55, op := Op.pick (Operand.tmp 47) (Operand.tmp 54) (Operand.const (Value.bool false)), type := 4, pos := "law.go:115", after := #[{ on := 16, ground := Ground.data }, { on := 23, ground := Ground.data }], guard := none }
abbrev oa25 : Oper := { dst := none, op := Op.store 4 (Operand.tmp 8) (Operand.tmp 55), type := 0, pos := "law.go:115", after := #[{ on := 24, ground := Ground.data }, { on := 16, ground := Ground.chain }, { on := 0, ground := Ground.phase }, { on := 1, ground := Ground.phase }, { on := 2, ground := Ground.phase }, { on := 3, ground := Ground.phase }, { on := 4, ground := Ground.phase }, { on := 5, ground := Ground.phase }, { on := 6, ground := Ground.phase }, { on := 7, ground := Ground.phase }, { on := 8, ground := Ground.phase }, { on := 9, ground := Ground.phase }, { on := 10, ground := Ground.phase }, { on := 11, ground := Ground.phase }, { on := 12, ground := Ground.phase }, { on := 13, ground := Ground.phase }, { on := 14, ground := Ground.phase }, { on := 15, ground := Ground.phase }, { on := 16, ground := Ground.phase }, { on := 17, ground := Ground.phase }, { on := 18, ground := Ground.phase }, { on := 19, ground := Ground.phase }, { on := 20, ground := Ground.phase }, { on := 21, ground := Ground.phase }, { on := 22, ground := Ground.phase }, { on := 23, ground := Ground.phase }, { on := 24, ground := Ground.phase }], guard := none }
abbrev ob0 : Oper := { dst := some 73, op := Op.load 4 (Operand.tmp 8), type := 4, pos := "law.go:126", after := #[], guard := none }
abbrev ob1 : Oper := { dst := some 74, op := Op.move (Operand.tmp 73), type := 4, pos := "law.go:126", after := #[{ on := 0, ground := Ground.data }], guard := none }
abbrev ob2 : Oper := { dst := some 75, op := Op.load 3 (Operand.tmp 11), type := 3, pos := "law.go:126", after := #[{ on := 1, ground := Ground.guard }], guard := some (1, true) }
abbrev ob3 : Oper := { dst := some 76, op := Op.load 43 (Operand.tmp 5), type := 43, pos := "law.go:126", after := #[{ on := 1, ground := Ground.guard }], guard := some (1, true) }
abbrev ob4 : Oper := { dst := some 77, op := Op.call { callee := Callee.builtin Builtin.len, args := #[Operand.tmp 76], argTypes := #[43] }, type := 3, pos := "law.go:126", after := #[{ on := 3, ground := Ground.data }, { on := 1, ground := Ground.guard }], guard := some (1, true) }
abbrev ob5 : Oper := { dst := some 78, op := Op.binOp BinOp.lss 3 (Operand.tmp 75) (Operand.tmp 77) 3, type := 4, pos := "law.go:126", after := #[{ on := 2, ground := Ground.data }, { on := 4, ground := Ground.data }, { on := 1, ground := Ground.guard }], guard := some (1, true) }
abbrev ob6 : Oper := { dst := some 79, op := Op.pick (Operand.tmp 74) (Operand.tmp 78) (Operand.const (Value.bool false)), type := 4, pos := "law.go:126", after := #[{ on := 1, ground := Ground.data }, { on := 5, ground := Ground.data }], guard := none }
abbrev ob7 : Oper := { dst := some 80, op := Op.move (Operand.tmp 79), type := 4, pos := "law.go:126", after := #[{ on := 6, ground := Ground.data }, { on := 1, ground := Ground.chain }], guard := none }
abbrev ob8 : Oper := { dst := some 81, op := Op.load 39 (Operand.tmp 12), type := 39, pos := "law.go:126", after := #[{ on := 7, ground := Ground.guard }], guard := some (7, true) }
abbrev ob9 : Oper := { dst := some 82, op := Op.load 43 (Operand.tmp 5), type := 43, pos := "law.go:126", after := #[{ on := 7, ground := Ground.guard }], guard := some (7, true) }
abbrev ob10 : Oper := { dst := some 83, op := Op.load 3 (Operand.tmp 11), type := 3, pos := "law.go:126", after := #[{ on := 7, ground := Ground.guard }], guard := some (7, true) }
abbrev ob11 : Oper := { dst := some 84, op := Op.indexAddr 43 (Operand.tmp 82) (Operand.tmp 83), type := 0, pos := "law.go:126", after := #[{ on := 9, ground := Ground.data }, { on := 10, ground := Ground.data }, { on := 7, ground := Ground.guard }], guard := some (7, true) }
abbrev ob12 : Oper := { dst := some 85, op := Op.fieldAddr 84 (Operand.tmp 84) 0, type := 0, pos := "law.go:126", after := #[{ on := 11, ground := Ground.data }, { on := 7, ground := Ground.guard }], guard := some (7, true) }
abbrev ob13 : Oper := { dst := some 86, op := Op.load 39 (Operand.tmp 85), type := 39, pos := "law.go:126", after := #[{ on := 12, ground := Ground.data }, { on := 7, ground := Ground.guard }], guard := some (7, true) }
abbrev ob14 : Oper := { dst := some 87, op := Op.binOp BinOp.eql 39 (Operand.tmp 81) (Operand.tmp 86) 39, type := 4, pos := "law.go:126", after := #[{ on := 8, ground := Ground.data }, { on := 13, ground := Ground.data }, { on := 7, ground := Ground.guard }], guard := some (7, true) }
abbrev ob15 : Oper := { dst := some 88, op := Op.pick (Operand.tmp 80) (Operand.tmp 87) (Operand.const (Value.bool false)), type := 4, pos := "law.go:126", after := #[{ on := 7, ground := Ground.data }, { on := 14, ground := Ground.data }], guard := none }
abbrev ob16 : Oper := { dst := none, op := Op.store 4 (Operand.tmp 8) (Operand.tmp 88), type := 0, pos := "law.go:126", after := #[{ on := 15, ground := Ground.data }, { on := 7, ground := Ground.chain }, { on := 0, ground := Ground.phase }, { on := 1, ground := Ground.phase }, { on := 2, ground := Ground.phase }, { on := 3, ground := Ground.phase }, { on := 4, ground := Ground.phase }, { on := 5, ground := Ground.phase }, { on := 6, ground := Ground.phase }, { on := 7, ground := Ground.phase }, { on := 8, ground := Ground.phase }, { on := 9, ground := Ground.phase }, { on := 10, ground := Ground.phase }, { on := 11, ground := Ground.phase }, { on := 12, ground := Ground.phase }, { on := 13, ground := Ground.phase }, { on := 14, ground := Ground.phase }, { on := 15, ground := Ground.phase }], guard := none }
abbrev oc0 : Oper := { dst := some 98, op := Op.load 4 (Operand.tmp 8), type := 4, pos := "law.go:130", after := #[], guard := none }
abbrev oc1 : Oper := { dst := some 99, op := Op.move (Operand.tmp 98), type := 4, pos := "law.go:130", after := #[{ on := 0, ground := Ground.data }], guard := none }
abbrev oc2 : Oper := { dst := some 100, op := Op.load 3 (Operand.tmp 13), type := 3, pos := "law.go:130", after := #[{ on := 1, ground := Ground.guard }], guard := some (1, true) }
abbrev oc3 : Oper := { dst := some 101, op := Op.load 43 (Operand.tmp 5), type := 43, pos := "law.go:130", after := #[{ on := 1, ground := Ground.guard }], guard := some (1, true) }
abbrev oc4 : Oper := { dst := some 102, op := Op.call { callee := Callee.builtin Builtin.len, args := #[Operand.tmp 101], argTypes := #[43] }, type := 3, pos := "law.go:130", after := #[{ on := 3, ground := Ground.data }, { on := 1, ground := Ground.guard }], guard := some (1, true) }
abbrev oc5 : Oper := { dst := some 103, op := Op.binOp BinOp.lss 3 (Operand.tmp 100) (Operand.tmp 102) 3, type := 4, pos := "law.go:130", after := #[{ on := 2, ground := Ground.data }, { on := 4, ground := Ground.data }, { on := 1, ground := Ground.guard }], guard := some (1, true) }
abbrev oc6 : Oper := { dst := some 104, op := Op.pick (Operand.tmp 99) (Operand.tmp 103) (Operand.const (Value.bool false)), type := 4, pos := "law.go:130", after := #[{ on := 1, ground := Ground.data }, { on := 5, ground := Ground.data }], guard := none }
abbrev oc7 : Oper := { dst := some 105, op := Op.move (Operand.tmp 104), type := 4, pos := "law.go:130", after := #[{ on := 6, ground := Ground.data }, { on := 1, ground := Ground.chain }], guard := none }
abbrev oc8 : Oper := { dst := some 106, op := Op.load 39 (Operand.tmp 14), type := 39, pos := "law.go:130", after := #[{ on := 7, ground := Ground.guard }], guard := some (7, true) }
abbrev oc9 : Oper := { dst := some 107, op := Op.load 43 (Operand.tmp 5), type := 43, pos := "law.go:130", after := #[{ on := 7, ground := Ground.guard }], guard := some (7, true) }
abbrev oc10 : Oper := { dst := some 108, op := Op.load 3 (Operand.tmp 13), type := 3, pos := "law.go:130", after := #[{ on := 7, ground := Ground.guard }], guard := some (7, true) }
abbrev oc11 : Oper := { dst := some 109, op := Op.indexAddr 43 (Operand.tmp 107) (Operand.tmp 108), type := 0, pos := "law.go:130", after := #[{ on := 9, ground := Ground.data }, { on := 10, ground := Ground.data }, { on := 7, ground := Ground.guard }], guard := some (7, true) }
abbrev oc12 : Oper := { dst := some 110, op := Op.fieldAddr 84 (Operand.tmp 109) 0, type := 0, pos := "law.go:130", after := #[{ on := 11, ground := Ground.data }, { on := 7, ground := Ground.guard }], guard := some (7, true) }
abbrev oc13 : Oper := { dst := some 111, op := Op.load 39 (Operand.tmp 110), type := 39, pos := "law.go:130", after := #[{ on := 12, ground := Ground.data }, { on := 7, ground := Ground.guard }], guard := some (7, true) }
abbrev oc14 : Oper := { dst := some 112, op := Op.binOp BinOp.eql 39 (Operand.tmp 106) (Operand.tmp 111) 39, type := 4, pos := "law.go:130", after := #[{ on := 8, ground := Ground.data }, { on := 13, ground := Ground.data }, { on := 7, ground := Ground.guard }], guard := some (7, true) }
abbrev oc15 : Oper := { dst := some 113, op := Op.pick (Operand.tmp 105) (Operand.tmp 112) (Operand.const (Value.bool false)), type := 4, pos := "law.go:130", after := #[{ on := 7, ground := Ground.data }, { on := 14, ground := Ground.data }], guard := none }
abbrev oc16 : Oper := { dst := some 114, op := Op.move (Operand.tmp 113), type := 4, pos := "law.go:130", after := #[{ on := 15, ground := Ground.data }, { on := 7, ground := Ground.chain }], guard := none }
abbrev oc17 : Oper := { dst := some 115, op := Op.move (Operand.tmp 15), type := 3, pos := "law.go:130", after := #[{ on := 16, ground := Ground.guard }], guard := some (16, true) }
abbrev oc18 : Oper := { dst := some 116, op := Op.load 43 (Operand.tmp 5), type := 43, pos := "law.go:130", after := #[{ on := 16, ground := Ground.guard }], guard := some (16, true) }
abbrev oc19 : Oper := { dst := some 117, op := Op.load 3 (Operand.tmp 13), type := 3, pos := "law.go:130", after := #[{ on := 16, ground := Ground.guard }], guard := some (16, true) }
abbrev oc20 : Oper := { dst := some 118, op := Op.indexAddr 43 (Operand.tmp 116) (Operand.tmp 117), type := 0, pos := "law.go:130", after := #[{ on := 18, ground := Ground.data }, { on := 19, ground := Ground.data }, { on := 16, ground := Ground.guard }], guard := some (16, true) }
abbrev oc21 : Oper := { dst := some 119, op := Op.fieldAddr 84 (Operand.tmp 118) 1, type := 0, pos := "law.go:130", after := #[{ on := 20, ground := Ground.data }, { on := 16, ground := Ground.guard }], guard := some (16, true) }
abbrev oc22 : Oper := { dst := some 120, op := Op.load 3 (Operand.tmp 119), type := 3, pos := "law.go:130", after := #[{ on := 21, ground := Ground.data }, { on := 16, ground := Ground.guard }], guard := some (16, true) }
abbrev oc23 : Oper := { dst := some 121, op := Op.binOp BinOp.eql 3 (Operand.tmp 115) (Operand.tmp 120) 3, type := 4, pos := "law.go:130", after := #[{ on := 17, ground := Ground.data }, { on := 22, ground := Ground.data }, { on := 16, ground := Ground.guard }], guard := some (16, true) }
abbrev oc24 : Oper := { dst := some 122, op := Op.pick (Operand.tmp 114) (Operand.tmp 121) (Operand.const (Value.bool false)), type := 4, pos := "law.go:130", after := #[{ on := 16, ground := Ground.data }, { on := 23, ground := Ground.data }], guard := none }
abbrev oc25 : Oper := { dst := none, op := Op.store 4 (Operand.tmp 8) (Operand.tmp 122), type := 0, pos := "law.go:130", after := #[{ on := 24, ground := Ground.data }, { on := 16, ground := Ground.chain }, { on := 0, ground := Ground.phase }, { on := 1, ground := Ground.phase }, { on := 2, ground := Ground.phase }, { on := 3, ground := Ground.phase }, { on := 4, ground := Ground.phase }, { on := 5, ground := Ground.phase }, { on := 6, ground := Ground.phase }, { on := 7, ground := Ground.phase }, { on := 8, ground := Ground.phase }, { on := 9, ground := Ground.phase }, { on := 10, ground := Ground.phase }, { on := 11, ground := Ground.phase }, { on := 12, ground := Ground.phase }, { on := 13, ground := Ground.phase }, { on := 14, ground := Ground.phase }, { on := 15, ground := Ground.phase }, { on := 16, ground := Ground.phase }, { on := 17, ground := Ground.phase }, { on := 18, ground := Ground.phase }, { on := 19, ground := Ground.phase }, { on := 20, ground := Ground.phase }, { on := 21, ground := Ground.phase }, { on := 22, ground := Ground.phase }, { on := 23, ground := Ground.phase }, { on := 24, ground := Ground.phase }], guard := none }

variable {PT : World → Nat → (Nat → Prop) → Nat → List Th → Nat → Prop} {Sq : World → Nat → (Nat → Prop) → Nat → Array Value → Nat → Prop} (I : Face PT Sq)
include I

set_option maxRecDepth 100000 in
set_option maxHeartbeats 4000000 in
theorem all_is {w : World} {B p b C : Nat} {F : Nat → Prop} {l : List Th} {M : Nat} {v tv : Value} (hP : PT w B F p l M) (hD : DT w B b v l M) (hl' : l.length ≤ 100000) (hC : w.heap[C]? = some (.cells #[.pointer (some ⟨p, 0, none⟩), .pointer (some ⟨b, 0, none⟩), tv] 35 (0, 0))) (early : Int) :
    Calls Try.prog 15 #[.pointer (some ⟨C, 0, none⟩), .int .i64 early] w fun e w' => e = .returned (.bool true) ∧ Below w.heap.size w w' := by
  refine (callsIn_wide (n := 20)).1 ?_
  refine callsIn_of_wp_marks Try.func15 rfl trivial ?_ rfl
  simp only [Try.ntmps15, List.size_toArray, List.length_cons, List.length_nil, Nat.reduceAdd, Nat.reduceSub, Array.replicate_succ, Array.replicate_zero, List.push_toArray, List.append_toArray, List.nil_append, List.cons_append]
  obtain ⟨W1, hW1⟩ : ∃ W1, (w.alloc (.cells #[.pointer (some ⟨C, 0, none⟩)] 32)).alloc (.cells #[.int .i64 early] 3) = W1 := ⟨_, rfl⟩
  have hB1 : Below w.heap.size w W1 := by rw [← hW1]; exact (below1 _ _).trans ((below1 _ _).mono (by simp))
  have hs1 : W1.heap.size = w.heap.size + 2 := by rw [← hW1]; simp
  have bP1 : Boxed W1 w.heap.size 32 (.pointer (some ⟨C, 0, none⟩)) := by rw [← hW1]; exact (Boxed.new w _ _).alloc _
  have bE1 : Boxed W1 (w.heap.size + 1) 3 (.int .i64 early) := by rw [← hW1]; have := Boxed.new (w.alloc (.cells #[.pointer (some ⟨C, 0, none⟩)] 32)) 3 (.int .i64 early); rwa [World.size_alloc] at this
  have hClt : C < w.heap.size := (Array.getElem?_eq_some_iff.1 hC).1
  have hC1 : W1.heap[C]? = _ := (hB1.block C hClt).trans hC
  have hP1 := I.ch hP (Ch.of_below (Q := fun _ => False) hB1) (fun _ _ h => h)
  have hD1 := hD.below hB1
  have c0 : W1.cell? ⟨C, 0, none⟩ = some (.pointer (some ⟨p, 0, none⟩)) := by simp [Lib.cell_of_heap hC1]
  have c1 : W1.cell? ⟨C, 1, none⟩ = some (.pointer (some ⟨b, 0, none⟩)) := by simp [Lib.cell_of_heap hC1]
  have cP := bP1.cell
  gi_wp2_with (rw [hW1])
  refine ⟨trivial, (callsIn_wide.2 (rtold_is hD1 hl')).mono ?_⟩
  rintro e w2 ⟨v2, rfl, hr2, hB2⟩
  obtain ⟨a2, c2, rfl, hc2, hm2⟩ := hr2.form
  obtain ⟨W3, hW3⟩ : ∃ W3, w2.alloc (.cells #[.slice a2 (lvs l).length c2] 43) = W3 := ⟨_, rfl⟩
  have hB3 : Below W1.heap.size W1 W3 := by rw [← hW3]; exact hB2.alloc hB2.size _
  have bL3 : Boxed W3 w2.heap.size 43 (.slice a2 (lvs l).length c2) := by rw [← hW3]; exact Boxed.new w2 _ _
  have hr3 : ThRow W3 W1.heap.size (.slice a2 (lvs l).length c2) (lvs l) := by rw [← hW3]; exact World.ownsRow.alloc hr2 _
  have bP3 : Boxed W3 w.heap.size 32 (.pointer (some ⟨C, 0, none⟩)) := (hB3.block _ bP1.lt).trans bP1
  have bE3 : Boxed W3 (w.heap.size + 1) 3 (.int .i64 early) := (hB3.block _ bE1.lt).trans bE1
  have hC3 := (hB3.block C (by omega)).trans hC1
  have hP3 := I.ch hP1 (Ch.of_below (Q := fun _ => False) hB3) (fun _ _ h => h)
  have hs2 := hB2.size
  have d0 : W3.cell? ⟨C, 0, none⟩ = some (.pointer (some ⟨p, 0, none⟩)) := by simp [Lib.cell_of_heap hC3]
  have dP := bP3.cell
  clear c0 c1 cP hr2
  gi_wp2_with (rw [hW3])
  refine ⟨trivial, (callsIn_wide.2 (I.all hP3)).mono ?_⟩
  rintro e w4 ⟨gf, lb, G, rfl, hS4, hB4⟩
  clear d0 dP
  have qS := seq_some gf lb
  obtain ⟨W5, hW5⟩ : ∃ W5, (w4.alloc (.cells #[.int .i64 0] 3)).alloc (.cells #[.bool true] 4) = W5 := ⟨_, rfl⟩
  have hB5 : Below W3.heap.size W3 W5 := by rw [← hW5]; exact (hB4.alloc hB4.size _).alloc (by have := hB4.size; simp; omega) _
  have hs4 := hB4.size
  have hs3 : W3.heap.size = w2.heap.size + 1 := by rw [← hW3]; simp
  have hs5 : W5.heap.size = w4.heap.size + 2 := by rw [← hW5]; simp
  have bN5 : Boxed W5 w4.heap.size 3 (.int .i64 0) := by rw [← hW5]; exact (Boxed.new w4 _ _).alloc _
  have bO5 : Boxed W5 (w4.heap.size + 1) 4 (.bool true) := by rw [← hW5]; have := Boxed.new (w4.alloc (.cells #[.int .i64 0] 3)) 4 (.bool true); rwa [World.size_alloc] at this
  have bP5 : Boxed W5 w.heap.size 32 (.pointer (some ⟨C, 0, none⟩)) := (hB5.block _ bP3.lt).trans bP3
  have bE5 : Boxed W5 (w.heap.size + 1) 3 (.int .i64 early) := (hB5.block _ bE3.lt).trans bE3
  have bL5 : Boxed W5 w2.heap.size 43 (.slice a2 (lvs l).length c2) := (hB5.block _ bL3.lt).trans bL3
  have hC5 := (hB5.block C (by omega)).trans hC3
  have hP5 := I.ch hP3 (Ch.of_below (Q := fun _ => False) hB5) (fun _ _ h => h)
  have hr5 : ThRow W5 W1.heap.size (.slice a2 (lvs l).length c2) (lvs l) := hr3.ch (Ch.of_below (Q := fun _ => False) hB5) (fun _ _ h => h)
  have hS5 : Sq W5 W3.heap.size G gf lb p := by rw [← hW5]; exact I.sch hS4 ((Ch.alloc (Q := fun _ => False) _ _).trans (Ch.alloc (Q := fun _ => False) _ _) (fun _ _ h => h)) (fun _ _ h => h)
  have hB05 : Below w.heap.size w W5 := hB1.trans ((hB3.mono (by omega)).trans (hB5.mono (by omega)))
  gi_wp2
  have hne : w4.heap.size ≠ w4.heap.size + 1 := by omega
  rename_i K1 hK1
  have cont : ∀ (D : Nat) (n0 : Int) (W : World), (n0 = ((lvs l).length : Int) ∨ n0 = early) → Boxed W w4.heap.size 3 (.int .i64 n0) → Boxed W (w4.heap.size + 1) 4 (.bool true) → Ch (fun x => x = w4.heap.size ∨ x = w4.heap.size + 1) W5 W → W5.heap.size ≤ D → W.heap[D]? = some (.deferred (some [])) →
      K1 { tmps := #[.pointer (some ⟨C, 0, none⟩), .int .i64 early, .pointer (some ⟨w.heap.size, 0, none⟩), .pointer (some ⟨w.heap.size + 1, 0, none⟩), .bool false, .pointer (some ⟨w2.heap.size, 0, none⟩), .func (.func gf) #[] lb, .pointer (some ⟨w4.heap.size, 0, none⟩), .pointer (some ⟨w4.heap.size + 1, 0, none⟩), undef, undef, undef, undef, undef, undef, undef, .pointer (some ⟨C, 0, none⟩), .pointer (some ⟨C, 0, none⟩), .pointer (some ⟨C, 1, none⟩), .pointer (some ⟨b, 0, none⟩), .slice a2 (lvs l).length c2, .pointer (some ⟨C, 0, none⟩), .pointer (some ⟨C, 0, none⟩), .pointer (some ⟨C, 0, none⟩), .pointer (some ⟨p, 0, none⟩), .func (.func gf) #[] lb, .func (.func gf) #[] lb, .bool false, .func (.func gf) #[] lb, undef, undef, undef, undef, undef, undef, undef, undef, undef, undef, undef, undef, undef, undef, undef, undef, undef, undef, undef, undef, undef, undef, undef, undef, undef, undef, undef, undef, undef, undef, undef, undef, undef, undef, undef, undef, undef, undef, undef, undef, undef, undef, undef, undef, undef, undef, undef, undef, undef, undef, undef, undef, undef, undef, undef, undef, undef, undef, undef, undef, undef, undef, undef, undef, undef, undef, undef, undef, undef, undef, undef, undef, undef, undef, undef, undef, undef, undef, undef, undef, undef, undef, undef, undef, undef, undef, undef, undef, undef, undef, undef, undef, undef, undef, undef, undef, undef, undef, undef, undef, undef, undef, undef, undef, undef, undef, undef, undef, undef, undef, undef, undef, undef, undef, undef, undef], defers := [{ target := .collected D, args := #[] }] } W := by
    intro D n0 W hn b1 b2 hc hD hK
    refine hK1 _ _ ?_
    clear hK1
    dsimp only
    have bE7 : Boxed W (w.heap.size + 1) 3 (.int .i64 early) := hc.box bE5 (by omega)
    have bL7 : Boxed W w2.heap.size 43 (.slice a2 (lvs l).length c2) := hc.box bL5 (by omega)
    have bP7 : Boxed W w.heap.size 32 (.pointer (some ⟨C, 0, none⟩)) := hc.box bP5 (by omega)
    have hC7 := hc.box hC5 (by omega)
    have hF := I.foot hP
    have hG := I.sfoot hS4
    have hP7 := I.ch hP5 hc (fun x hx e => by have := hF x hx; omega)
    have hS7 := I.sch hS5 hc (fun x hx e => by have := hG x hx; omega)
    have hr7 : ThRow W W1.heap.size (.slice a2 (lvs l).length c2) (lvs l) := hr5.ch hc (fun g hg e => by rcases e with e | e <;> subst e; exact own_box hr5 bN5 (by decide) hg; exact own_box hr5 bO5 (by decide) hg)
    have hlen : (lvs l).length ≤ 100000 := Nat.le_trans (lvs_le l) hl'
    have hW7 := hc.size
    refine wpIn_seq ?_
    refine wpIn_mono (Q := Exit.then (fun a' W' => ∃ (q : Bool) (u1 u2 u3 : Value), a' = { tmps := #[.pointer (some ⟨C, 0, none⟩), .int .i64 early, .pointer (some ⟨w.heap.size, 0, none⟩), .pointer (some ⟨w.heap.size + 1, 0, none⟩), .bool false, .pointer (some ⟨w2.heap.size, 0, none⟩), .func (.func gf) #[] lb, .pointer (some ⟨w4.heap.size, 0, none⟩), .pointer (some ⟨w4.heap.size + 1, 0, none⟩), undef, undef, undef, undef, undef, undef, undef, .pointer (some ⟨C, 0, none⟩), .pointer (some ⟨C, 0, none⟩), .pointer (some ⟨C, 1, none⟩), .pointer (some ⟨b, 0, none⟩), .slice a2 (lvs l).length c2, .pointer (some ⟨C, 0, none⟩), .pointer (some ⟨C, 0, none⟩), .pointer (some ⟨C, 0, none⟩), .pointer (some ⟨p, 0, none⟩), .func (.func gf) #[] lb, .func (.func gf) #[] lb, .bool false, .func (.func gf) #[] lb, undef, undef, undef, undef, undef, undef, undef, undef, undef, undef, undef, undef, undef, undef, undef, undef, undef, undef, undef, undef, undef, undef, undef, undef, undef, undef, undef, undef, undef, undef, undef, undef, .int .i64 n0, .slice a2 (lvs l).length c2, .int .i64 ((lvs l).length : Int), .bool q, .bool q, u1, u2, u3, .bool false, undef, undef, undef, undef, undef, undef, undef, undef, undef, undef, undef, undef, undef, undef, undef, undef, undef, undef, undef, undef, undef, undef, undef, undef, undef, undef, undef, undef, undef, undef, undef, undef, undef, undef, undef, undef, undef, undef, undef, undef, undef, undef, undef, undef, undef, undef, undef, undef, undef, undef, undef, undef, undef, undef, undef, undef, undef, undef, undef, undef, undef, undef, undef, undef, undef, undef, undef, undef, undef, undef, undef, undef, undef, undef, undef], defers := [{ target := .collected D, args := #[] }] } ∧ W' = W) (fun _ _ _ => False)) ?_ ?_
    · have kN := b1.cell
      have kL := bL7.cell
      have kE := bE7.cell
      by_cases hnl : n0 = ((lvs l).length : Int)
      · clear hn
        subst hnl
        gi_wp2
        exact ⟨_, _, _, _, rfl, by first | trivial | rfl⟩
      · obtain rfl := hn.resolve_left hnl
        have q1 : (n0 == ((lvs l).length : Int)) = false := by simpa using hnl
        have q2 : (n0 != ((lvs l).length : Int)) = true := by simpa using hnl
        clear hn hnl
        gi_wp2
        exact ⟨_, _, _, _, rfl, by first | trivial | rfl⟩
    intro e a' W' h
    cases e with
    | normal => ?_
    | _ => exact h.elim
    obtain ⟨q, u1, u2, u3, rfl, rfl⟩ := h
    dsimp only [Exit.then]
    obtain ⟨W8, hW8⟩ : ∃ W8, W'.alloc (.cells #[.int .i64 0] 3) = W8 := ⟨_, rfl⟩
    have hc8 : Ch (fun _ => False) W' W8 := by rw [← hW8]; exact Ch.alloc _ _
    have hs8 : W8.heap.size = W'.heap.size + 1 := by rw [← hW8]; simp
    have bM8 : Boxed W8 W'.heap.size 3 (.int .i64 0) := by rw [← hW8]; exact Boxed.new _ _ _
    have bO8 : Boxed W8 (w4.heap.size + 1) 4 (.bool true) := hc8.box b2 (fun h => h)
    have bL8 : Boxed W8 w2.heap.size 43 (.slice a2 (lvs l).length c2) := hc8.box bL7 (fun h => h)
    have bP8 : Boxed W8 w.heap.size 32 (.pointer (some ⟨C, 0, none⟩)) := hc8.box bP7 (fun h => h)
    have hC8 := hc8.box hC7 (fun h => h)
    have hP8 := I.ch hP7 hc8 (fun _ _ h => h)
    have hS8 := I.sch hS7 hc8 (fun _ _ h => h)
    have hr8 := hr7.ch hc8 (fun _ _ h => h)
    have hK8 := hc8.box hK (fun h => h)
    have hD8 : D < W'.heap.size := (Array.getElem?_eq_some_iff.1 hK).1
    have hO8 : w4.heap.size + 1 < W'.heap.size := b2.lt
    have hB8 : Below w.heap.size w W8 := hB05.trans ((hc.below (N := w.heap.size) (by omega) (fun x hx e => by omega)).trans (hc8.below (N := w.heap.size) (by omega) (fun _ _ h => h)))
    have HW8 := hide hW8
    clear hW8
    gi_wp2
    rename_i K2 hK2
    rw [HW8.out]
    refine range_is (by decide) (gf := gf) (lb := lb) rfl (I.enters hS8) (I.stops 19 (by decide) hP8 hS8) (fun h k => h.trans k) (fun W l o o' _ h hc _ => Kc.put W l o o' h hc) (fun i h => by simp)
      (fun i V => (Boxed V W'.heap.size 3 (.int .i64 (i : Int)) ∧ Boxed V (w4.heap.size + 1) 4 (.bool true)) ∧ Ch (fun x => x = W'.heap.size ∨ x = w4.heap.size + 1) W8 V)
      (fun _ _ _ => False)
      (OwnFrom.and (OwnFrom.and (Own.from (boxed_own _ _ _) _) (Own.from (boxed_own _ _ _) _)) (ownFrom_ch (Nat.le_refl _)))
      (fun _ _ _ _ _ h _ _ => h)
      ⟨⟨bM8, bO8⟩, Ch.refl _ _⟩
      (fun i a' V => ∃ z : Th, (lvs l)[i]? = some z ∧ ∃ Bx, W8.heap.size ≤ Bx ∧ V.heap[Bx]? = some (.cells #[.int .u32 z.s, .int .u32 z.g] 39 (0, 0)) ∧ a' = { tmps := #[.pointer (some ⟨C, 0, none⟩), .int .i64 early, .pointer (some ⟨w.heap.size, 0, none⟩), .pointer (some ⟨w.heap.size + 1, 0, none⟩), .bool false, .pointer (some ⟨w2.heap.size, 0, none⟩), .func (.func gf) #[] lb, .pointer (some ⟨w4.heap.size, 0, none⟩), .pointer (some ⟨w4.heap.size + 1, 0, none⟩), undef, undef, .pointer (some ⟨W'.heap.size, 0, none⟩), .pointer (some ⟨Bx, 0, none⟩), undef, undef, undef, .pointer (some ⟨C, 0, none⟩), .pointer (some ⟨C, 0, none⟩), .pointer (some ⟨C, 1, none⟩), .pointer (some ⟨b, 0, none⟩), .slice a2 (lvs l).length c2, .pointer (some ⟨C, 0, none⟩), .pointer (some ⟨C, 0, none⟩), .pointer (some ⟨C, 0, none⟩), .pointer (some ⟨p, 0, none⟩), .func (.func gf) #[] lb, .func (.func gf) #[] lb, .bool false, .func (.func gf) #[] lb, undef, undef, undef, undef, undef, undef, undef, undef, undef, undef, undef, undef, undef, undef, undef, undef, undef, undef, undef, undef, undef, undef, undef, undef, undef, undef, undef, undef, undef, undef, undef, undef, .int .i64 n0, .slice a2 (lvs l).length c2, .int .i64 ((lvs l).length : Int), .bool q, .bool q, u1, u2, u3, .bool false, .func (.func gf) #[] lb, hv z.s z.g, .int .i64 z.x, undef, undef, undef, undef, undef, undef, undef, undef, undef, undef, undef, undef, undef, undef, undef, undef, undef, undef, undef, undef, undef, undef, undef, undef, undef, undef, undef, undef, undef, undef, undef, undef, undef, undef, undef, undef, undef, undef, undef, undef, undef, undef, undef, undef, undef, undef, undef, undef, undef, undef, undef, undef, undef, undef, undef, undef, undef, undef, undef, undef, undef, undef, undef, undef, undef, undef, undef, undef, undef, undef, undef, undef], defers := [] })
      (fun x a' _ X Y row hs hg hr => by
        obtain ⟨z, hz, Bx, h1, h2, h3⟩ := hs
        exact ⟨z, hz, Bx, h1, (hg.block Bx (Array.getElem?_eq_some_iff.1 h2).1 (fun e => by obtain ⟨_, o, ho, hc⟩ := hr Bx e.symm; rw [h2] at ho; cases ho; cases hc)).trans h2, h3⟩)
      ?assign2 ?body2 ?done2 ?stop2
    case assign2 =>
      rintro lp i hi V K ⟨⟨b3, b4⟩, hvv⟩ hK
      have hi' : i < (lvs l).length := by simpa using hi
      obtain ⟨z, hz⟩ : ∃ z, (lvs l)[i] = z := ⟨_, rfl⟩
      rw [List.getElem_map, hz]
      gi_wp2
      exact hK _ _ (keeps_of_ch (Ch.alloc (Q := fun _ => False) _ _) (fun _ h => h.elim)) (Kc.of_ch (Ch.alloc (Q := fun _ => False) _ _) (fun _ h => h.elim)) ⟨⟨b3.alloc _, b4.alloc _⟩, hvv.trans (Ch.alloc (Q := fun _ => False) _ _) (fun _ _ h => h.elim)⟩ ⟨z, by rw [List.getElem?_eq_getElem hi', hz], V.heap.size, hvv.size, heap_new _ _, rfl⟩
    case body2 =>
      clear hK2
      rintro lp i hi a' V hl ⟨r, hr⟩ ⟨⟨b3, b4⟩, hvv⟩ ⟨z, hz, Bx, hBx, bX, rfl⟩
      have hlt : i < (lvs l).length := by simpa using hi
      obtain rfl : (lvs l)[i] = z := by rw [List.getElem?_eq_getElem hlt] at hz; exact Option.some.inj hz
      have bL : Boxed V w2.heap.size 43 (.slice a2 (lvs l).length c2) := hvv.box bL8 (by omega)
      have hrV : ThRow V W1.heap.size (.slice a2 (lvs l).length c2) (lvs l) := hr8.ch hvv (fun g hg e => by rcases e with e | e <;> subst e; exact own_box hr8 bM8 (by decide) hg; exact own_box hr8 bO8 (by decide) hg)
      obtain ⟨gr, cr, cur, hsl, hcr, hBr, hgr, hgc, hcs, hcell⟩ := hrV.at thF_len (by omega)
      cases hsl
      have y0 : V.cell? ⟨gr, i * 4, none⟩ = _ := hcell i hlt 0 (.int .u32 (lvs l)[i].s) rfl
      have y1 := hcell i hlt 1 (.int .u32 (lvs l)[i].g) rfl
      clear hz
      generalize (lvs l)[i] = x at y0 y1 bX ⊢
      have k1 := b3.cell
      have k2 := b4.cell
      have f2 := b4.frozen
      have kL := bL.cell
      have x0 : V.cell? ⟨Bx, 0, none⟩ = some (.int .u32 x.s) := by simp [Lib.cell_of_heap bX]
      have x1 : V.cell? ⟨Bx, 1, none⟩ = some (.int .u32 x.g) := by simp [Lib.cell_of_heap bX]
      have hV8 := hvv.size
      have hgO : gr ≠ w4.heap.size + 1 := fun e => own_box hr8 bO8 (by decide) (by rw [← e]; rfl)
      have HN := hide (fun wq (h : Ch (fun x => x = w4.heap.size + 1) V wq) => (h.cell (b := W'.heap.size) (by omega) (by omega) 0).trans k1)
      have HL := hide (fun wq (h : Ch (fun x => x = w4.heap.size + 1) V wq) => (h.cell (b := w2.heap.size) (by omega) (by omega) 0).trans kL)
      have HX := hide (fun wq (h : Ch (fun x => x = w4.heap.size + 1) V wq) => And.intro ((h.cell (b := Bx) (Array.getElem?_eq_some_iff.1 bX).1 (by omega) 0).trans x0) ((h.cell (b := Bx) (Array.getElem?_eq_some_iff.1 bX).1 (by omega) 1).trans x1))
      have HR := hide (fun wq (h : Ch (fun x => x = w4.heap.size + 1) V wq) => And.intro ((h.cell (b := gr) hgr hgO _).trans y0) ((h.cell (b := gr) hgr hgO _).trans y1))
      clear hcell k1 kL x0 x1 y0 y1
      have hlt' : (i : Int) < ((lvs l).length : Int) := by omega
      gi_wp2
      refine region_round (S := Ch (fun x => x = w4.heap.size + 1) V) (by kernel_rfl) (by kernel_rfl) ?_ (Ch.drew V) (fun zk => ?_)
      · rintro ⟨_, _, h⟩
        exact h
      refine rd 0 ob0 rfl (by kernel_rfl) fun K hK => ?_
      go_simp
      refine hK.out _ _ ?_ (fun zk => ?_)
      · exact zk
      clear hK K
      try go_frame
      refine rd 1 ob1 rfl (by kernel_rfl) fun K hK => ?_
      go_simp
      refine hK.out _ _ ?_ (fun zk => ?_)
      · exact zk
      clear hK K
      try go_frame
      apply tk 2 ob2 rfl (by kernel_rfl) (fun _ _ _ h => h) zk
      · intro wq zq
        have s1 := HN.out _ zq
        go_simp
        try rfl
      go_frame
      apply tk 3 ob3 rfl (by kernel_rfl) (fun _ _ _ h => h) zk
      · intro wq zq
        have s2 := HL.out _ zq
        go_simp
        try rfl
      go_frame
      apply tk 4 ob4 rfl (by kernel_rfl) (fun _ _ _ h => h) zk
      · intro wq zq
        go_simp
        try rfl
      go_frame
      apply tk 5 ob5 rfl (by kernel_rfl) (fun _ _ _ h => h) zk
      · intro wq zq
        go_simp
        try rfl
      go_frame
      apply tk 6 ob6 rfl (by kernel_rfl) (fun _ _ _ h => h) zk
      · intro wq zq
        go_simp
        try rfl
      go_frame
      apply tk 7 ob7 rfl (by kernel_rfl) (fun _ _ _ h => h) zk
      · intro wq zq
        go_simp
        try rfl
      go_frame
      apply tk 8 ob8 rfl (by kernel_rfl) (fun _ _ _ h => h) zk
      · intro wq zq
        obtain ⟨s3, s4⟩ := HX.out _ zq
        go_simp
        try rfl
      go_frame
      apply tk 9 ob9 rfl (by kernel_rfl) (fun _ _ _ h => h) zk
      · intro wq zq
        have s2 := HL.out _ zq
        go_simp
        try rfl
      go_frame
      apply tk 10 ob10 rfl (by kernel_rfl) (fun _ _ _ h => h) zk
      · intro wq zq
        have s1 := HN.out _ zq
        go_simp
        try rfl
      go_frame
      apply tk 11 ob11 rfl (by kernel_rfl) (fun _ _ _ h => h) zk
      · intro wq zq
        go_simp
        try rfl
      go_frame
      apply tk 12 ob12 rfl (by kernel_rfl) (fun _ _ _ h => h) zk
      · intro wq zq
        go_simp
        try rfl
      go_frame
      apply tk 13 ob13 rfl (by kernel_rfl) (fun _ _ _ h => h) zk
      · intro wq zq
        obtain ⟨s5, s6⟩ := HR.out _ zq
        go_simp
        try rfl
      go_frame
      apply tk 14 ob14 rfl (by kernel_rfl) (fun _ _ _ h => h) zk
      · intro wq zq
        go_simp
        try rfl
      go_frame
      apply tk 15 ob15 rfl (by kernel_rfl) (fun _ _ _ h => h) zk
      · intro wq zq
        go_simp
        try rfl
      go_frame
      refine rd 16 ob16 rfl (by kernel_rfl) fun K hK => ?_
      go_simp
      refine hK.out _ _ ?_ (fun zk => ?_)
      · exact zk.trans (Ch.set (Q := fun x => x = w4.heap.size + 1) _ rfl _ _) (fun _ _ h => h)
      clear hK K
      try go_frame
      refine wpAnyH_done (by kernel_rfl) ?_ _
      clear HN HL HX HR f2 k2
      obtain ⟨V1, hV1⟩ : ∃ V1, V1 = (V.setCell ⟨w4.heap.size + 1, 0, none⟩ (.bool true)).drew := ⟨_, rfl⟩
      have h1 : Ch (fun x => x = W'.heap.size ∨ x = w4.heap.size + 1) V V1 := by rw [hV1]; exact (Ch.set (Q := fun x => x = W'.heap.size ∨ x = w4.heap.size + 1) V (Or.inr rfl) 0 (.bool true)).trans (Ch.drew (Q := fun _ => False) _) (fun _ _ h => h.elim)
      have m1 : Boxed V1 W'.heap.size 3 (.int .i64 (i : Int)) := by rw [hV1]; exact b3.other (by omega) _
      have o1 : Boxed V1 (w4.heap.size + 1) 4 (.bool true) := by rw [hV1]; exact b4.set _
      rw [← hV1]
      clear hV1 zk
      obtain ⟨V2, hV2⟩ : ∃ V2, (V1.setCell ⟨W'.heap.size, 0, none⟩ (.int .i64 ((i : Int) + 1))).alloc (.cells #[.int .i64 0] 3) = V2 := ⟨_, rfl⟩
      have h2 : Ch (fun x => x = W'.heap.size ∨ x = w4.heap.size + 1) V V2 := by rw [← hV2]; exact h1.trans ((Ch.set (Q := fun x => x = W'.heap.size ∨ x = w4.heap.size + 1) V1 (Or.inl rfl) 0 (.int .i64 ((i : Int) + 1))).trans (Ch.alloc (Q := fun _ => False) _ _) (fun _ _ h => h.elim)) (fun _ _ h => h)
      have hs2' : V2.heap.size = V1.heap.size + 1 := by rw [← hV2]; simp
      have hs1' := h1.size
      have m2 : Boxed V2 W'.heap.size 3 (.int .i64 ((i : Int) + 1)) := by rw [← hV2]; exact (m1.set _).alloc _
      have o2 : Boxed V2 (w4.heap.size + 1) 4 (.bool true) := by rw [← hV2]; exact (o1.other (by omega) _).alloc _
      have n2 : Boxed V2 V1.heap.size 3 (.int .i64 0) := by rw [← hV2]; have := Boxed.new (V1.setCell ⟨W'.heap.size, 0, none⟩ (.int .i64 ((i : Int) + 1))) 3 (.int .i64 0); rwa [size_set] at this
      have h82 := hvv.trans h2 (fun _ _ h => h)
      have bP2 : Boxed V2 w.heap.size 32 (.pointer (some ⟨C, 0, none⟩)) := h82.box bP8 (by omega)
      have hC2 := h82.box hC8 (by omega)
      have hP2 := I.ch hP8 h82 (fun x hx e => by have := hF x hx; omega)
      have g1 := m1.cell
      have g1f := m1.frozen
      have h3 : Ch (fun x => x = W'.heap.size ∨ x = w4.heap.size + 1) W8 (V1.setCell ⟨W'.heap.size, 0, none⟩ (.int .i64 ((i : Int) + 1))) := (hvv.trans h1 (fun _ _ h => h)).trans (Ch.set (Q := fun x => x = W'.heap.size ∨ x = w4.heap.size + 1) V1 (Or.inl rfl) 0 (.int .i64 ((i : Int) + 1))) (fun _ _ h => h)
      have dP : ∀ o, ((V1.setCell ⟨W'.heap.size, 0, none⟩ (.int .i64 ((i : Int) + 1))).alloc o).cell? ⟨w.heap.size, 0, none⟩ = some (.pointer (some ⟨C, 0, none⟩)) := fun o => Boxed.cell (t := 32) ((h3.trans (Ch.alloc (Q := fun _ => False) _ o) (fun _ _ h => h.elim)).box bP8 (by omega))
      have d0 : ∀ o, ((V1.setCell ⟨W'.heap.size, 0, none⟩ (.int .i64 ((i : Int) + 1))).alloc o).cell? ⟨C, 0, none⟩ = some (.pointer (some ⟨p, 0, none⟩)) := fun o => by simp [Lib.cell_of_heap ((h3.trans (Ch.alloc (Q := fun _ => False) _ o) (fun _ _ h => h.elim)).box hC8 (by omega))]
      have HV2 := hide hV2
      clear hV2 h3
      gi_wp2
      rw [HV2.out]
      clear dP d0 g1 g1f
      refine ⟨trivial, (CallsIn.inRound lp (callsIn_wide.2 (I.all hP2))).mono ?_⟩
      rintro e V3 ⟨gf', lb', G', rfl, hS3, hB3'⟩
      have m3 : Boxed V3 W'.heap.size 3 (.int .i64 ((i : Int) + 1)) := (hB3'.block _ m2.lt).trans m2
      have o3 : Boxed V3 (w4.heap.size + 1) 4 (.bool true) := (hB3'.block _ o2.lt).trans o2
      have n3 : Boxed V3 V1.heap.size 3 (.int .i64 0) := (hB3'.block _ n2.lt).trans n2
      have h23 : Ch (fun x => x = W'.heap.size ∨ x = w4.heap.size + 1) V V3 := h2.trans (Ch.of_below (Q := fun _ => False) hB3') (fun _ _ h => h.elim)
      have h83 := hvv.trans h23 (fun _ _ h => h)
      have hP3' := I.ch hP8 h83 (fun x hx e => by have := hF x hx; omega)
      have bL3' : Boxed V3 w2.heap.size 43 (.slice (some ⟨gr, 0, none⟩) (lvs l).length c2) := h83.box bL8 (by omega)
      have hr3' : ThRow V3 W1.heap.size (.slice (some ⟨gr, 0, none⟩) (lvs l).length c2) (lvs l) := hr8.ch h83 (fun g hg e => by rcases e with e | e <;> subst e; exact own_box hr8 bM8 (by decide) hg; exact own_box hr8 bO8 (by decide) hg)
      have hlr : lp < V.heap.size := (Array.getElem?_eq_some_iff.1 hr).1
      have hr' : V3.heap[lp]? = some (.loop r) := h23.box hr (by omega)
      have hs3' := hB3'.size
      gi_wp2
      rename_i K3 hK3
      have FIN3 : ∀ U, Ch (fun x => x = V1.heap.size ∨ x = w4.heap.size + 1) V3 U → Boxed U (w4.heap.size + 1) 4 (.bool true) → KeepsFrom W8.heap.size V (U.setCell ⟨w4.heap.size + 1, 0, none⟩ (.bool true)) ∧ Kc W8.heap.size V (U.setCell ⟨w4.heap.size + 1, 0, none⟩ (.bool true)) ∧
          (Boxed (U.setCell ⟨w4.heap.size + 1, 0, none⟩ (.bool true)) W'.heap.size 3 (.int .i64 ((i + 1 : Nat) : Int)) ∧ Boxed (U.setCell ⟨w4.heap.size + 1, 0, none⟩ (.bool true)) (w4.heap.size + 1) 4 (.bool true)) ∧ Ch (fun x => x = W'.heap.size ∨ x = w4.heap.size + 1) W8 (U.setCell ⟨w4.heap.size + 1, 0, none⟩ (.bool true)) := by
        intro U hu bu
        have hu' := hu.trans (Ch.set (Q := fun x => x = V1.heap.size ∨ x = w4.heap.size + 1) U (Or.inr rfl) 0 (.bool true)) (fun _ _ h => h)
        have h6 : Ch (fun x => x = W'.heap.size ∨ x = w4.heap.size + 1) V (U.setCell ⟨w4.heap.size + 1, 0, none⟩ (.bool true)) := h23.trans hu' (fun x hx h => by omega)
        exact ⟨keeps_of_ch h6 (fun y hy => by omega), Kc.of_ch h6 (fun y hy => by omega), ⟨hu'.box m3 (by omega), bu.set _⟩, hvv.trans h6 (fun _ _ h => h)⟩
      replace FIN3 := hide FIN3
      refine range_in hr' (by decide) (gf := gf') (lb := lb') rfl (I.enters hS3) (I.stops 17 (by decide) hP3' hS3) (fun h k => h.trans k) (fun W l o o' _ h hc _ => Kc.put W l o o' h hc) (fun i h => by simp)
        (fun k U => (Boxed U V1.heap.size 3 (.int .i64 (k : Int)) ∧ Boxed U (w4.heap.size + 1) 4 (.bool true)) ∧ Ch (fun x => x = V1.heap.size ∨ x = w4.heap.size + 1) V3 U)
        (fun c k U => (c = .exit 4 ∧ (2 : Int) < (i : Int) + 1) ∧ (Boxed U V1.heap.size 3 (.int .i64 (k : Int)) ∧ Boxed U (w4.heap.size + 1) 4 (.bool true)) ∧ Ch (fun x => x = V1.heap.size ∨ x = w4.heap.size + 1) V3 U)
        (OwnFrom.and (OwnFrom.and (Own.from (boxed_own _ _ _) _) (Own.from (boxed_own _ _ _) _)) (ownFrom_ch (Nat.le_refl _)))
        (fun c => OwnFrom.and (ownFrom_pure _ _) (OwnFrom.and (OwnFrom.and (Own.from (boxed_own _ _ _) _) (Own.from (boxed_own _ _ _) _)) (ownFrom_ch (Nat.le_refl _))))
        ⟨⟨n3, o3⟩, Ch.refl _ _⟩
        (fun k a' U => ∃ y : Th, (lvs l)[k]? = some y ∧ ∃ By, V3.heap.size ≤ By ∧ U.heap[By]? = some (.cells #[.int .u32 y.s, .int .u32 y.g] 39 (0, 0)) ∧ ∃ v73 v74 v75 v76 v77 v78 v79 v80 v81 v82 v83 v84 v85 v86 v87 v88 v89 v90 v91 v92 v93 v94 v95 : Value, a' = { tmps := #[.pointer (some ⟨C, 0, none⟩), .int .i64 early, .pointer (some ⟨w.heap.size, 0, none⟩), .pointer (some ⟨w.heap.size + 1, 0, none⟩), .bool false, .pointer (some ⟨w2.heap.size, 0, none⟩), .func (.func gf) #[] lb, .pointer (some ⟨w4.heap.size, 0, none⟩), .pointer (some ⟨w4.heap.size + 1, 0, none⟩), undef, undef, .pointer (some ⟨W'.heap.size, 0, none⟩), .pointer (some ⟨Bx, 0, none⟩), .pointer (some ⟨V1.heap.size, 0, none⟩), .pointer (some ⟨By, 0, none⟩), .int .i64 y.x, .pointer (some ⟨C, 0, none⟩), .pointer (some ⟨C, 0, none⟩), .pointer (some ⟨C, 1, none⟩), .pointer (some ⟨b, 0, none⟩), .slice (some ⟨gr, 0, none⟩) (lvs l).length c2, .pointer (some ⟨C, 0, none⟩), .pointer (some ⟨C, 0, none⟩), .pointer (some ⟨C, 0, none⟩), .pointer (some ⟨p, 0, none⟩), .func (.func gf) #[] lb, .func (.func gf) #[] lb, .bool false, .func (.func gf) #[] lb, undef, undef, undef, undef, undef, undef, undef, undef, undef, undef, undef, undef, undef, undef, undef, undef, undef, undef, undef, undef, undef, undef, undef, undef, undef, undef, undef, undef, undef, undef, undef, undef, .int .i64 n0, .slice (some ⟨gr, 0, none⟩) (lvs l).length c2, .int .i64 ((lvs l).length : Int), .bool q, .bool q, u1, u2, u3, .bool false, .func (.func gf) #[] lb, hv x.s x.g, .int .i64 x.x, v73, v74, v75, v76, v77, v78, v79, v80, v81, v82, v83, v84, v85, v86, v87, v88, v89, v90, v91, v92, v93, v94, v95, hv y.s y.g, .int .i64 y.x, undef, undef, undef, undef, undef, undef, undef, undef, undef, undef, undef, undef, undef, undef, undef, undef, undef, undef, undef, undef, undef, undef, undef, undef, undef, undef, undef, undef, undef, undef, undef, undef, undef, undef, undef, undef, undef, undef, undef, undef, undef, undef, undef, undef, undef, undef, undef], defers := [] })
        (fun x a' _ X Y row hs hg hr => by
          obtain ⟨z, hz, Bx, h1, h2, h3⟩ := hs
          exact ⟨z, hz, Bx, h1, (hg.block Bx (Array.getElem?_eq_some_iff.1 h2).1 (fun e => by obtain ⟨_, o, ho, hc⟩ := hr Bx e.symm; rw [h2] at ho; cases ho; cases hc)).trans h2, h3⟩)
        ?assign3 ?body3 ?done3 ?stop3
      case assign3 =>
        clear hK3
        rintro lq k hk U K ⟨⟨b5, b6⟩, hu⟩ hK
        have hk' : k < (lvs l).length := by simpa using hk
        obtain ⟨y, hy⟩ : ∃ y, (lvs l)[k] = y := ⟨_, rfl⟩
        rw [List.getElem_map, hy]
        gi_wp2
        exact hK _ _ (keeps_of_ch (Ch.alloc (Q := fun _ => False) _ _) (fun _ h => h.elim)) (Kc.of_ch (Ch.alloc (Q := fun _ => False) _ _) (fun _ h => h.elim)) ⟨⟨b5.alloc _, b6.alloc _⟩, hu.trans (Ch.alloc (Q := fun _ => False) _ _) (fun _ _ h => h.elim)⟩ ⟨y, by rw [List.getElem?_eq_getElem hk', hy], U.heap.size, hu.size, heap_new _ _, _, _, _, _, _, _, _, _, _, _, _, _, _, _, _, _, _, _, _, _, _, _, _,  rfl⟩
      case body3 =>
        clear hK3
        rintro lq k hk a' U hlq ⟨rq, hrq⟩ ⟨⟨b5, b6⟩, hu⟩ ⟨z, hz, By, hBy, bY, v73, v74, v75, v76, v77, v78, v79, v80, v81, v82, v83, v84, v85, v86, v87, v88, v89, v90, v91, v92, v93, v94, v95, rfl⟩
        have hkt : k < (lvs l).length := by simpa using hk
        obtain rfl : (lvs l)[k] = z := by rw [List.getElem?_eq_getElem hkt] at hz; exact Option.some.inj hz
        have bL : Boxed U w2.heap.size 43 (.slice (some ⟨gr, 0, none⟩) (lvs l).length c2) := hu.box bL3' (by omega)
        have bM : Boxed U W'.heap.size 3 (.int .i64 ((i : Int) + 1)) := hu.box m3 (by omega)
        have hrU : ThRow U W1.heap.size (.slice (some ⟨gr, 0, none⟩) (lvs l).length c2) (lvs l) := hr3'.ch hu (fun g hg e => by rcases e with e | e <;> subst e; exact own_box hr3' n3 (by decide) hg; exact own_box hr3' o3 (by decide) hg)
        obtain ⟨gr', cr', cur', hsl, hcr', hBr', hgr', hgc', hcs', hcell⟩ := hrU.at thF_len (by omega)
        cases hsl
        have y0 : U.cell? ⟨gr, k * 4, none⟩ = _ := hcell k hkt 0 (.int .u32 (lvs l)[k].s) rfl
        have y1 := hcell k hkt 1 (.int .u32 (lvs l)[k].g) rfl
        have y2 := hcell k hkt 2 (.int .i64 (lvs l)[k].x) rfl
        clear hz
        generalize (lvs l)[k] = y at y0 y1 y2 bY ⊢
        have k1 := b5.cell
        have k2 := b6.cell
        have f2 := b6.frozen
        have kL := bL.cell
        have x0 : U.cell? ⟨By, 0, none⟩ = some (.int .u32 y.s) := by simp [Lib.cell_of_heap bY]
        have x1 : U.cell? ⟨By, 1, none⟩ = some (.int .u32 y.g) := by simp [Lib.cell_of_heap bY]
        have hU3 := hu.size
        have HN := hide (fun wq (h : Ch (fun x => x = w4.heap.size + 1) U wq) => (h.cell (b := V1.heap.size) (by omega) (by omega) 0).trans k1)
        have HL := hide (fun wq (h : Ch (fun x => x = w4.heap.size + 1) U wq) => (h.cell (b := w2.heap.size) (by omega) (by omega) 0).trans kL)
        have HX := hide (fun wq (h : Ch (fun x => x = w4.heap.size + 1) U wq) => And.intro ((h.cell (b := By) (Array.getElem?_eq_some_iff.1 bY).1 (by omega) 0).trans x0) ((h.cell (b := By) (Array.getElem?_eq_some_iff.1 bY).1 (by omega) 1).trans x1))
        have HR := hide (fun wq (h : Ch (fun x => x = w4.heap.size + 1) U wq) => And.intro ((h.cell (b := gr) hgr' hgO _).trans y0) (And.intro ((h.cell (b := gr) hgr' hgO _).trans y1) ((h.cell (b := gr) hgr' hgO _).trans y2)))
        clear hcell k1 kL x0 x1 y0 y1 y2
        have hkt' : (k : Int) < ((lvs l).length : Int) := by omega
        gi_wp2
        refine region_round (S := Ch (fun x => x = w4.heap.size + 1) U) (by kernel_rfl) (by kernel_rfl) ?_ (Ch.drew U) (fun zk => ?_)
        · rintro ⟨_, _, h⟩
          exact h
        refine rd 0 oc0 rfl (by kernel_rfl) fun K hK => ?_
        go_simp
        refine hK.out _ _ ?_ (fun zk => ?_)
        · exact zk
        clear hK K
        try go_frame
        refine rd 1 oc1 rfl (by kernel_rfl) fun K hK => ?_
        go_simp
        refine hK.out _ _ ?_ (fun zk => ?_)
        · exact zk
        clear hK K
        try go_frame
        apply tk 2 oc2 rfl (by kernel_rfl) (fun _ _ _ h => h) zk
        · intro wq zq
          have s1 := HN.out _ zq
          go_simp
          try rfl
        go_frame
        apply tk 3 oc3 rfl (by kernel_rfl) (fun _ _ _ h => h) zk
        · intro wq zq
          have s2 := HL.out _ zq
          go_simp
          try rfl
        go_frame
        apply tk 4 oc4 rfl (by kernel_rfl) (fun _ _ _ h => h) zk
        · intro wq zq
          go_simp
          try rfl
        go_frame
        apply tk 5 oc5 rfl (by kernel_rfl) (fun _ _ _ h => h) zk
        · intro wq zq
          go_simp
          try rfl
        go_frame
        apply tk 6 oc6 rfl (by kernel_rfl) (fun _ _ _ h => h) zk
        · intro wq zq
          go_simp
          try rfl
        go_frame
        apply tk 7 oc7 rfl (by kernel_rfl) (fun _ _ _ h => h) zk
        · intro wq zq
          go_simp
          try rfl
        go_frame
        apply tk 8 oc8 rfl (by kernel_rfl) (fun _ _ _ h => h) zk
        · intro wq zq
          obtain ⟨s3, s4⟩ := HX.out _ zq
          go_simp
          try rfl
        go_frame
        apply tk 9 oc9 rfl (by kernel_rfl) (fun _ _ _ h => h) zk
        · intro wq zq
          have s2 := HL.out _ zq
          go_simp
          try rfl
        go_frame
        apply tk 10 oc10 rfl (by kernel_rfl) (fun _ _ _ h => h) zk
        · intro wq zq
          have s1 := HN.out _ zq
          go_simp
          try rfl
        go_frame
        apply tk 11 oc11 rfl (by kernel_rfl) (fun _ _ _ h => h) zk
        · intro wq zq
          go_simp
          try rfl
        go_frame
        apply tk 12 oc12 rfl (by kernel_rfl) (fun _ _ _ h => h) zk
        · intro wq zq
          go_simp
          try rfl
        go_frame
        apply tk 13 oc13 rfl (by kernel_rfl) (fun _ _ _ h => h) zk
        · intro wq zq
          obtain ⟨s5, s6, s7⟩ := HR.out _ zq
          go_simp
          try rfl
        go_frame
        apply tk 14 oc14 rfl (by kernel_rfl) (fun _ _ _ h => h) zk
        · intro wq zq
          go_simp
          try rfl
        go_frame
        apply tk 15 oc15 rfl (by kernel_rfl) (fun _ _ _ h => h) zk
        · intro wq zq
          go_simp
          try rfl
        go_frame
        apply tk 16 oc16 rfl (by kernel_rfl) (fun _ _ _ h => h) zk
        · intro wq zq
          go_simp
          try rfl
        go_frame
        apply tk 17 oc17 rfl (by kernel_rfl) (fun _ _ _ h => h) zk
        · intro wq zq
          go_simp
          try rfl
        go_frame
        apply tk 18 oc18 rfl (by kernel_rfl) (fun _ _ _ h => h) zk
        · intro wq zq
          have s2 := HL.out _ zq
          go_simp
          try rfl
        go_frame
        apply tk 19 oc19 rfl (by kernel_rfl) (fun _ _ _ h => h) zk
        · intro wq zq
          have s1 := HN.out _ zq
          go_simp
          try rfl
        go_frame
        apply tk 20 oc20 rfl (by kernel_rfl) (fun _ _ _ h => h) zk
        · intro wq zq
          go_simp
          try rfl
        go_frame
        apply tk 21 oc21 rfl (by kernel_rfl) (fun _ _ _ h => h) zk
        · intro wq zq
          go_simp
          try rfl
        go_frame
        apply tk 22 oc22 rfl (by kernel_rfl) (fun _ _ _ h => h) zk
        · intro wq zq
          obtain ⟨s5, s6, s7⟩ := HR.out _ zq
          go_simp
          try rfl
        go_frame
        apply tk 23 oc23 rfl (by kernel_rfl) (fun _ _ _ h => h) zk
        · intro wq zq
          go_simp
          try rfl
        go_frame
        apply tk 24 oc24 rfl (by kernel_rfl) (fun _ _ _ h => h) zk
        · intro wq zq
          go_simp
          try rfl
        go_frame
        refine rd 25 oc25 rfl (by kernel_rfl) fun K hK => ?_
        go_simp
        refine hK.out _ _ ?_ (fun zk => ?_)
        · exact zk.trans (Ch.set (Q := fun x => x = w4.heap.size + 1) _ rfl _ _) (fun _ _ h => h)
        clear hK K
        try go_frame
        refine wpAnyH_done (by kernel_rfl) ?_ _
        clear HN HL HX HR f2 k2
        obtain ⟨U1, hU1⟩ : ∃ U1, U1 = (U.setCell ⟨w4.heap.size + 1, 0, none⟩ (.bool true)).drew := ⟨_, rfl⟩
        have h5 : Ch (fun x => x = V1.heap.size ∨ x = w4.heap.size + 1) U U1 := by rw [hU1]; exact (Ch.set (Q := fun x => x = V1.heap.size ∨ x = w4.heap.size + 1) U (Or.inr rfl) 0 (.bool true)).trans (Ch.drew (Q := fun _ => False) _) (fun _ _ h => h.elim)
        have n6 : Boxed U1 V1.heap.size 3 (.int .i64 (k : Int)) := by rw [hU1]; exact b5.other (by omega) _
        have o6 : Boxed U1 (w4.heap.size + 1) 4 (.bool true) := by rw [hU1]; exact b6.set _
        rw [← hU1]
        clear hU1 zk
        have g1 := n6.cell
        have g1f := n6.frozen
        have hcs := Ch.set (Q := fun x => x = V1.heap.size ∨ x = w4.heap.size + 1) U1 (Or.inl rfl) 0 (.int .i64 ((k : Int) + 1))
        have h6 := h5.trans hcs (fun _ _ h => h)
        have g3 : (U1.setCell ⟨V1.heap.size, 0, none⟩ (.int .i64 ((k : Int) + 1))).cell? ⟨W'.heap.size, 0, none⟩ = some (.int .i64 ((i : Int) + 1)) := Boxed.cell (t := 3) (h6.box bM (by omega))
        have FIN := hide (show KeepsFrom V3.heap.size U (U1.setCell ⟨V1.heap.size, 0, none⟩ (.int .i64 ((k : Int) + 1))) ∧ Kc V3.heap.size U (U1.setCell ⟨V1.heap.size, 0, none⟩ (.int .i64 ((k : Int) + 1))) ∧ (Boxed (U1.setCell ⟨V1.heap.size, 0, none⟩ (.int .i64 ((k : Int) + 1))) V1.heap.size 3 (.int .i64 ((k + 1 : Nat) : Int)) ∧ Boxed (U1.setCell ⟨V1.heap.size, 0, none⟩ (.int .i64 ((k : Int) + 1))) (w4.heap.size + 1) 4 (.bool true)) ∧ Ch (fun x => x = V1.heap.size ∨ x = w4.heap.size + 1) V3 (U1.setCell ⟨V1.heap.size, 0, none⟩ (.int .i64 ((k : Int) + 1))) from
          ⟨keeps_of_ch h6 (fun y hy => by omega), Kc.of_ch h6 (fun y hy => by omega), ⟨n6.set _, o6.other (by omega) _⟩, hu.trans h6 (fun _ _ h => h)⟩)
        by_cases he : (2 : Int) < (i : Int) + 1
        · have he' : decide ((2 : Int) < (i : Int) + 1) = true := by simpa using he
          gi_wp2
          exact ⟨FIN.out.1, ⟨rfl, he⟩, FIN.out.2.2⟩
        · have he' : decide ((2 : Int) < (i : Int) + 1) = false := by simpa using he
          gi_wp2
          exact FIN.out
      case done3 =>
        rintro U ⟨⟨b5, b6⟩, hu⟩
        rw [List.length_map] at b5
        have bL : Boxed U w2.heap.size 43 (.slice (some ⟨gr, 0, none⟩) (lvs l).length c2) := hu.box bL3' (by omega)
        have k1 := b5.cell
        have k2 := b6.cell
        have f2 := b6.frozen
        have kL := bL.cell
        refine hK3 _ _ ?_
        gi_wp2
        exact FIN3.out U hu b6
      case stop3 =>
        rintro c k U hk ⟨⟨rfl, he⟩, ⟨b5, b6⟩, hu⟩
        have bL : Boxed U w2.heap.size 43 (.slice (some ⟨gr, 0, none⟩) (lvs l).length c2) := hu.box bL3' (by omega)
        have bM : Boxed U W'.heap.size 3 (.int .i64 ((i : Int) + 1)) := hu.box m3 (by omega)
        have k1 := b5.cell
        have k2 := b6.cell
        have f2 := b6.frozen
        have kL := bL.cell
        have kM := bM.cell
        have he' : decide ((2 : Int) < (i : Int) + 1) = true := by simpa using he
        by_cases hkl : (k : Int) = ((lvs l).length : Int)
        · have q1 : ((k : Int) == ((lvs l).length : Int)) = true := by simpa using hkl
          gi_wp2
          exact FIN3.out U hu b6
        · have q1 : ((k : Int) == ((lvs l).length : Int)) = false := by simpa using hkl
          gi_wp2
          exact FIN3.out U hu b6
    case done2 =>
      rintro D2 V hD2 ⟨⟨b3, b4⟩, hvv⟩ hK'
      rw [List.length_map] at b3
      have bL : Boxed V w2.heap.size 43 (.slice a2 (lvs l).length c2) := hvv.box bL8 (by omega)
      have k1 := b3.cell
      have k2 := b4.cell
      have kL := bL.cell
      refine hK2 _ _ ?_
      gi_wp2
      have hKD : V.heap[D]? = some (.deferred (some [])) := hvv.box hK8 (by omega)
      have hKD' : (V.putObj D2 (.deferred none)).heap[D]? = some (.deferred (some [])) := (World.putObj_heap_other (by omega)).trans hKD
      refine ⟨by simp, .inl ⟨_, _, rfl, run_takeDeferred hK', by simp, .inl ⟨_, _, rfl, run_takeDeferred hKD', ?_⟩⟩⟩
      exact ⟨_, results_tmp rfl _ _ _, rfl, hB8.trans ((hvv.below (N := w.heap.size) (by omega) (fun x hx e => by omega)).trans ((belowK_b (w := w) (Nat.le_refl _) V D2 _ _ (by omega) hK' rfl rfl).trans (belowK_b (w := w) (Nat.le_refl _) _ D _ _ (by omega) hKD' rfl rfl)))⟩
    case stop2 =>
      rintro D c i W hD hp h hK
      exact h.elim
  refine range_is (by decide) (gf := gf) (lb := lb) rfl (I.enters hS5) (I.stops 19 (by decide) hP5 hS5) (fun h k => h.trans k) (fun W l o o' _ h hc _ => Kc.put W l o o' h hc) (fun i h => by simp)
    (fun i W => (Boxed W w4.heap.size 3 (.int .i64 (i : Int)) ∧ Boxed W (w4.heap.size + 1) 4 (.bool true)) ∧ Ch (fun x => x = w4.heap.size ∨ x = w4.heap.size + 1) W5 W)
    (fun c i W => (c = .exit 0 ∧ (i : Int) = early) ∧ (Boxed W w4.heap.size 3 (.int .i64 (i : Int)) ∧ Boxed W (w4.heap.size + 1) 4 (.bool true)) ∧ Ch (fun x => x = w4.heap.size ∨ x = w4.heap.size + 1) W5 W)
    (OwnFrom.and (OwnFrom.and (Own.from (boxed_own _ _ _) _) (Own.from (boxed_own _ _ _) _)) (ownFrom_ch (Nat.le_refl _)))
    (fun c => OwnFrom.and (ownFrom_pure _ _) (OwnFrom.and (OwnFrom.and (Own.from (boxed_own _ _ _) _) (Own.from (boxed_own _ _ _) _)) (ownFrom_ch (Nat.le_refl _))))
    ⟨⟨bN5, bO5⟩, Ch.refl _ _⟩
    (fun i a' W => ∃ z : Th, (lvs l)[i]? = some z ∧ ∃ Bx, W5.heap.size ≤ Bx ∧ W.heap[Bx]? = some (.cells #[.int .u32 z.s, .int .u32 z.g] 39 (0, 0)) ∧ a' = { tmps := #[.pointer (some ⟨C, 0, none⟩), .int .i64 early, .pointer (some ⟨w.heap.size, 0, none⟩), .pointer (some ⟨w.heap.size + 1, 0, none⟩), .bool false, .pointer (some ⟨w2.heap.size, 0, none⟩), .func (.func gf) #[] lb, .pointer (some ⟨w4.heap.size, 0, none⟩), .pointer (some ⟨w4.heap.size + 1, 0, none⟩), .pointer (some ⟨Bx, 0, none⟩), .int .i64 z.x, undef, undef, undef, undef, undef, .pointer (some ⟨C, 0, none⟩), .pointer (some ⟨C, 0, none⟩), .pointer (some ⟨C, 1, none⟩), .pointer (some ⟨b, 0, none⟩), .slice a2 (lvs l).length c2, .pointer (some ⟨C, 0, none⟩), .pointer (some ⟨C, 0, none⟩), .pointer (some ⟨C, 0, none⟩), .pointer (some ⟨p, 0, none⟩), .func (.func gf) #[] lb, .func (.func gf) #[] lb, .bool false, .func (.func gf) #[] lb, hv z.s z.g, .int .i64 z.x, undef, undef, undef, undef, undef, undef, undef, undef, undef, undef, undef, undef, undef, undef, undef, undef, undef, undef, undef, undef, undef, undef, undef, undef, undef, undef, undef, undef, undef, undef, undef, undef, undef, undef, undef, undef, undef, undef, undef, undef, undef, undef, undef, undef, undef, undef, undef, undef, undef, undef, undef, undef, undef, undef, undef, undef, undef, undef, undef, undef, undef, undef, undef, undef, undef, undef, undef, undef, undef, undef, undef, undef, undef, undef, undef, undef, undef, undef, undef, undef, undef, undef, undef, undef, undef, undef, undef, undef, undef, undef, undef, undef, undef, undef, undef, undef, undef, undef, undef, undef, undef, undef, undef, undef, undef, undef, undef, undef, undef, undef, undef, undef, undef, undef], defers := [] })
    (fun x a' _ X Y row hs hg hr => by
      obtain ⟨z, hz, Bx, h1, h2, h3⟩ := hs
      exact ⟨z, hz, Bx, h1, (hg.block Bx (Array.getElem?_eq_some_iff.1 h2).1 (fun e => by obtain ⟨_, o, ho, hc⟩ := hr Bx e.symm; rw [h2] at ho; cases ho; cases hc)).trans h2, h3⟩)
    ?assign ?body ?done ?stop
  case assign =>
    rintro lp i hi W K ⟨⟨b1, b2⟩, hc⟩ hK
    have hi' : i < (lvs l).length := by simpa using hi
    obtain ⟨z, hz⟩ : ∃ z, (lvs l)[i] = z := ⟨_, rfl⟩
    rw [List.getElem_map, hz]
    gi_wp2
    exact hK _ _ (keeps_of_ch (Ch.alloc (Q := fun _ => False) _ _) (fun _ h => h.elim)) (Kc.of_ch (Ch.alloc (Q := fun _ => False) _ _) (fun _ h => h.elim)) ⟨⟨b1.alloc _, b2.alloc _⟩, hc.trans (Ch.alloc (Q := fun _ => False) _ _) (fun _ _ h => h.elim)⟩ ⟨z, by rw [List.getElem?_eq_getElem hi', hz], W.heap.size, hc.size, heap_new _ _, rfl⟩
  case body =>
    rintro lp i hi a' W hl ⟨r, hr⟩ ⟨⟨b1, b2⟩, hc⟩ ⟨z, hz, Bx, hBx, bX, rfl⟩
    have hlt : i < (lvs l).length := by simpa using hi
    obtain rfl : (lvs l)[i] = z := by rw [List.getElem?_eq_getElem hlt] at hz; exact Option.some.inj hz
    have bE : Boxed W (w.heap.size + 1) 3 (.int .i64 early) := hc.box bE5 (by omega)
    have bL : Boxed W w2.heap.size 43 (.slice a2 (lvs l).length c2) := hc.box bL5 (by omega)
    have hrw : ThRow W W1.heap.size (.slice a2 (lvs l).length c2) (lvs l) := hr5.ch hc (fun g hg e => by rcases e with e | e <;> subst e; exact own_box hr5 bN5 (by decide) hg; exact own_box hr5 bO5 (by decide) hg)
    obtain ⟨gr, cr, cur, hv, hcr, hBr, hgr, hgc, hcs, hcell⟩ := hrw.at thF_len (by omega)
    cases hv
    have y0 : W.cell? ⟨gr, i * 4, none⟩ = _ := hcell i hlt 0 (.int .u32 (lvs l)[i].s) rfl
    have y1 := hcell i hlt 1 (.int .u32 (lvs l)[i].g) rfl
    have y2 := hcell i hlt 2 (.int .i64 (lvs l)[i].x) rfl
    clear hz
    generalize (lvs l)[i] = x at y0 y1 y2 bX ⊢
    have k1 := b1.cell
    have k2 := b2.cell
    have f2 := b2.frozen
    have kL := bL.cell
    have x0 : W.cell? ⟨Bx, 0, none⟩ = some (.int .u32 x.s) := by simp [Lib.cell_of_heap bX]
    have x1 : W.cell? ⟨Bx, 1, none⟩ = some (.int .u32 x.g) := by simp [Lib.cell_of_heap bX]
    have hlen : (lvs l).length ≤ 100000 := Nat.le_trans (lvs_le l) hl'
    have hW5 := hc.size
    have hgO : gr ≠ w4.heap.size + 1 := fun e => own_box hr5 bO5 (by decide) (by rw [← e]; rfl)
    have HN := hide (fun wq (h : Ch (fun x => x = w4.heap.size + 1) W wq) => (h.cell (b := w4.heap.size) (by omega) hne 0).trans k1)
    have HL := hide (fun wq (h : Ch (fun x => x = w4.heap.size + 1) W wq) => (h.cell (b := w2.heap.size) (by omega) (by omega) 0).trans kL)
    have HX := hide (fun wq (h : Ch (fun x => x = w4.heap.size + 1) W wq) => And.intro ((h.cell (b := Bx) (Array.getElem?_eq_some_iff.1 bX).1 (by omega) 0).trans x0) ((h.cell (b := Bx) (Array.getElem?_eq_some_iff.1 bX).1 (by omega) 1).trans x1))
    have HR := hide (fun wq (h : Ch (fun x => x = w4.heap.size + 1) W wq) => And.intro ((h.cell (b := gr) hgr hgO _).trans y0) (And.intro ((h.cell (b := gr) hgr hgO _).trans y1) ((h.cell (b := gr) hgr hgO _).trans y2)))
    have hsz : w4.heap.size + 1 < W.heap.size := b2.lt
    clear hcell k1 kL x0 x1 y0 y1 y2
    have hlt' : (i : Int) < ((lvs l).length : Int) := by omega
    gi_wp2
    refine region_round (S := Ch (fun x => x = w4.heap.size + 1) W) (by kernel_rfl) (by kernel_rfl) ?_ (Ch.drew W) (fun zk => ?_)
    · rintro ⟨_, _, h⟩
      exact h
    refine rd 0 oa0 rfl (by kernel_rfl) fun K hK => ?_
    go_simp
    refine hK.out _ _ ?_ (fun zk => ?_)
    · exact zk
    clear hK K
    try go_frame
    refine rd 1 oa1 rfl (by kernel_rfl) fun K hK => ?_
    go_simp
    refine hK.out _ _ ?_ (fun zk => ?_)
    · exact zk
    clear hK K
    try go_frame
    apply tk 2 oa2 rfl (by kernel_rfl) (fun _ _ _ h => h) zk
    · intro wq zq
      have s1 := HN.out _ zq
      go_simp
      try rfl
    go_frame
    apply tk 3 oa3 rfl (by kernel_rfl) (fun _ _ _ h => h) zk
    · intro wq zq
      have s2 := HL.out _ zq
      go_simp
      try rfl
    go_frame
    apply tk 4 oa4 rfl (by kernel_rfl) (fun _ _ _ h => h) zk
    · intro wq zq
      go_simp
      try rfl
    go_frame
    apply tk 5 oa5 rfl (by kernel_rfl) (fun _ _ _ h => h) zk
    · intro wq zq
      go_simp
      try rfl
    go_frame
    apply tk 6 oa6 rfl (by kernel_rfl) (fun _ _ _ h => h) zk
    · intro wq zq
      go_simp
      try rfl
    go_frame
    apply tk 7 oa7 rfl (by kernel_rfl) (fun _ _ _ h => h) zk
    · intro wq zq
      go_simp
      try rfl
    go_frame
    apply tk 8 oa8 rfl (by kernel_rfl) (fun _ _ _ h => h) zk
    · intro wq zq
      obtain ⟨s3, s4⟩ := HX.out _ zq
      go_simp
      try rfl
    go_frame
    apply tk 9 oa9 rfl (by kernel_rfl) (fun _ _ _ h => h) zk
    · intro wq zq
      have s2 := HL.out _ zq
      go_simp
      try rfl
    go_frame
    apply tk 10 oa10 rfl (by kernel_rfl) (fun _ _ _ h => h) zk
    · intro wq zq
      have s1 := HN.out _ zq
      go_simp
      try rfl
    go_frame
    apply tk 11 oa11 rfl (by kernel_rfl) (fun _ _ _ h => h) zk
    · intro wq zq
      go_simp
      try rfl
    go_frame
    apply tk 12 oa12 rfl (by kernel_rfl) (fun _ _ _ h => h) zk
    · intro wq zq
      go_simp
      try rfl
    go_frame
    apply tk 13 oa13 rfl (by kernel_rfl) (fun _ _ _ h => h) zk
    · intro wq zq
      obtain ⟨s5, s6, s7⟩ := HR.out _ zq
      go_simp
      try rfl
    go_frame
    apply tk 14 oa14 rfl (by kernel_rfl) (fun _ _ _ h => h) zk
    · intro wq zq
      go_simp
      try rfl
    go_frame
    apply tk 15 oa15 rfl (by kernel_rfl) (fun _ _ _ h => h) zk
    · intro wq zq
      go_simp
      try rfl
    go_frame
    apply tk 16 oa16 rfl (by kernel_rfl) (fun _ _ _ h => h) zk
    · intro wq zq
      go_simp
      try rfl
    go_frame
    apply tk 17 oa17 rfl (by kernel_rfl) (fun _ _ _ h => h) zk
    · intro wq zq
      go_simp
      try rfl
    go_frame
    apply tk 18 oa18 rfl (by kernel_rfl) (fun _ _ _ h => h) zk
    · intro wq zq
      have s2 := HL.out _ zq
      go_simp
      try rfl
    go_frame
    apply tk 19 oa19 rfl (by kernel_rfl) (fun _ _ _ h => h) zk
    · intro wq zq
      have s1 := HN.out _ zq
      go_simp
      try rfl
    go_frame
    apply tk 20 oa20 rfl (by kernel_rfl) (fun _ _ _ h => h) zk
    · intro wq zq
      go_simp
      try rfl
    go_frame
    apply tk 21 oa21 rfl (by kernel_rfl) (fun _ _ _ h => h) zk
    · intro wq zq
      go_simp
      try rfl
    go_frame
    apply tk 22 oa22 rfl (by kernel_rfl) (fun _ _ _ h => h) zk
    · intro wq zq
      obtain ⟨s5, s6, s7⟩ := HR.out _ zq
      go_simp
      try rfl
    go_frame
    apply tk 23 oa23 rfl (by kernel_rfl) (fun _ _ _ h => h) zk
    · intro wq zq
      go_simp
      try rfl
    go_frame
    apply tk 24 oa24 rfl (by kernel_rfl) (fun _ _ _ h => h) zk
    · intro wq zq
      go_simp
      try rfl
    go_frame
    refine rd 25 oa25 rfl (by kernel_rfl) fun K hK => ?_
    go_simp
    refine hK.out _ _ ?_ (fun zk => ?_)
    · exact zk.trans (Ch.set (Q := fun x => x = w4.heap.size + 1) _ rfl _ _) (fun _ _ h => h)
    clear hK K
    try go_frame
    refine wpAnyH_done (by kernel_rfl) ?_ _
    obtain ⟨W6, hW6⟩ : ∃ W6, W6 = (W.setCell ⟨w4.heap.size + 1, 0, none⟩ (.bool true)).drew := ⟨_, rfl⟩
    have h5 : Ch (fun x => x = w4.heap.size ∨ x = w4.heap.size + 1) W W6 := by rw [hW6]; exact (Ch.set (Q := fun x => x = w4.heap.size ∨ x = w4.heap.size + 1) W (Or.inr rfl) 0 (.bool true)).trans (Ch.drew (Q := fun _ => False) _) (fun _ _ h => h.elim)
    have n6 : Boxed W6 w4.heap.size 3 (.int .i64 (i : Int)) := by rw [hW6]; exact b1.other hne _
    have o6 : Boxed W6 (w4.heap.size + 1) 4 (.bool true) := by rw [hW6]; exact b2.set _
    have e6 : Boxed W6 (w.heap.size + 1) 3 (.int .i64 early) := h5.box bE (by omega)
    rw [← hW6]
    clear hW6 zk
    have g1 := n6.cell
    have g1f := n6.frozen
    have g3 := e6.cell
    have FIN : ∀ W7, W7 = W6.setCell ⟨w4.heap.size, 0, none⟩ (.int .i64 ((i : Int) + 1)) →
        KeepsFrom W5.heap.size W W7 ∧ Kc W5.heap.size W W7 ∧ (Boxed W7 w4.heap.size 3 (.int .i64 ((i + 1 : Nat) : Int)) ∧ Boxed W7 (w4.heap.size + 1) 4 (.bool true)) ∧ Ch (fun x => x = w4.heap.size ∨ x = w4.heap.size + 1) W5 W7 := by
      rintro W7 rfl
      have hcs := Ch.set (Q := fun x => x = w4.heap.size ∨ x = w4.heap.size + 1) W6 (Or.inl rfl) 0 (.int .i64 ((i : Int) + 1))
      have h6 := h5.trans hcs (fun _ _ h => h)
      exact ⟨keeps_of_ch h6 (fun y hy => by omega), Kc.of_ch h6 (fun y hy => by omega), ⟨n6.set _, o6.other (by omega) _⟩, hc.trans h6 (fun _ _ h => h)⟩
    replace FIN := hide FIN
    by_cases he : (i : Int) + 1 = early
    · have he' : ((i : Int) + 1 == early) = true := by simpa using he
      have HE := hide he
      clear he
      gi_wp2
      obtain ⟨q1, q2, q3⟩ := FIN.out _ rfl
      exact ⟨q1, ⟨rfl, by simpa using HE.out⟩, q3⟩
    · have he' : ((i : Int) + 1 == early) = false := by simpa using he
      clear he
      gi_wp2
      exact FIN.out _ rfl
  case done =>
    rintro D W hD ⟨⟨b1, b2⟩, hc⟩ hK
    rw [List.length_map] at b1
    exact cont D _ W (Or.inl rfl) b1 b2 hc hD hK
  case stop =>
    rintro D c i W hD hp ⟨⟨rfl, he⟩, ⟨b1, b2⟩, hc⟩ hK
    gi_wp2
    exact cont D _ W (Or.inr he) b1 b2 hc hD hK

end Go.Proofs.Ytjilnmeegolpkaa
