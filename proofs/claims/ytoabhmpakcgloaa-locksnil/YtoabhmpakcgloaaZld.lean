/- LocksNil for every two handles and every number: on no locks each call with an error answers ErrArg, every other one its zero value. There are no conditions. Layer 16: the law's awake. Layer 16: the calls on no locks. Layer 16: two empty answers are alike. Layer 16: the law on no locks, walked. Layer 14: arguments that came in: rows, handles, values. -/
import Derived.Test.YtoabhmpakcgloaaZlc
import Derived.Test.YtoabhmpakcgloaaXa
import Derived.ProofKit
import Derived.OpenShut
import Derived.ShutString
import Derived.JoinedCond
import Derived.Deep.DeepHandedRow
import Derived.Deep.SlicePairs
import Derived.Carry
import Derived.ChangeOld
import Derived.Below
namespace Go.Proofs.Ytoabhmpakcgloaa
open Go.RowKit

abbrev kaw0 : Oper := { dst := some 77, op := Op.move (Operand.tmp 13), type := 4, pos := "law.go:39", after := #[], guard := none }
abbrev kaw1 : Oper := { dst := some 78, op := Op.move (Operand.tmp 77), type := 4, pos := "law.go:39", after := #[{ on := 0, ground := Ground.data }], guard := none }
abbrev kaw2 : Oper := { dst := some 79, op := Op.fieldAddr 46 (Operand.tmp 5) 0, type := 0, pos := "law.go:39", after := #[{ on := 1, ground := Ground.guard }], guard := some (1, true) }
abbrev kaw3 : Oper := { dst := some 80, op := Op.load 41 (Operand.tmp 79), type := 41, pos := "law.go:39", after := #[{ on := 2, ground := Ground.data }, { on := 1, ground := Ground.guard }], guard := some (1, true) }
abbrev kaw4 : Oper := { dst := some 81, op := Op.binOp BinOp.eql 41 (Operand.tmp 80) (Operand.const (Value.int IntKind.i64 0)) 41, type := 4, pos := "law.go:39", after := #[{ on := 3, ground := Ground.data }, { on := 1, ground := Ground.guard }], guard := some (1, true) }
abbrev kaw5 : Oper := { dst := some 82, op := Op.pick (Operand.tmp 78) (Operand.tmp 81) (Operand.const (Value.bool false)), type := 4, pos := "law.go:39", after := #[{ on := 1, ground := Ground.data }, { on := 4, ground := Ground.data }], guard := none }
abbrev kaw6 : Oper := { dst := some 83, op := Op.move (Operand.tmp 82), type := 4, pos := "law.go:39", after := #[{ on := 5, ground := Ground.data }, { on := 1, ground := Ground.chain }], guard := none }
abbrev kaw7 : Oper := { dst := some 84, op := Op.fieldAddr 46 (Operand.tmp 7) 0, type := 0, pos := "law.go:39", after := #[{ on := 6, ground := Ground.guard }], guard := some (6, true) }
abbrev kaw8 : Oper := { dst := some 85, op := Op.load 41 (Operand.tmp 84), type := 41, pos := "law.go:39", after := #[{ on := 7, ground := Ground.data }, { on := 6, ground := Ground.guard }], guard := some (6, true) }
abbrev kaw9 : Oper := { dst := some 86, op := Op.binOp BinOp.eql 41 (Operand.tmp 85) (Operand.const (Value.int IntKind.i64 1)) 41, type := 4, pos := "law.go:39", after := #[{ on := 8, ground := Ground.data }, { on := 6, ground := Ground.guard }], guard := some (6, true) }
abbrev kaw10 : Oper := { dst := some 87, op := Op.pick (Operand.tmp 83) (Operand.tmp 86) (Operand.const (Value.bool false)), type := 4, pos := "law.go:39", after := #[{ on := 6, ground := Ground.data }, { on := 9, ground := Ground.data }], guard := none }
abbrev kaw11 : Oper := { dst := some 88, op := Op.move (Operand.tmp 87), type := 4, pos := "law.go:39", after := #[{ on := 10, ground := Ground.data }, { on := 6, ground := Ground.chain }], guard := none }
abbrev kaw12 : Oper := { dst := some 89, op := Op.fieldAddr 46 (Operand.tmp 9) 0, type := 0, pos := "law.go:39", after := #[{ on := 11, ground := Ground.guard }], guard := some (11, true) }
abbrev kaw13 : Oper := { dst := some 90, op := Op.load 41 (Operand.tmp 89), type := 41, pos := "law.go:39", after := #[{ on := 12, ground := Ground.data }, { on := 11, ground := Ground.guard }], guard := some (11, true) }
abbrev kaw14 : Oper := { dst := some 91, op := Op.binOp BinOp.eql 41 (Operand.tmp 90) (Operand.const (Value.int IntKind.i64 0)) 41, type := 4, pos := "law.go:39", after := #[{ on := 13, ground := Ground.data }, { on := 11, ground := Ground.guard }], guard := some (11, true) }
abbrev kaw15 : Oper := { dst := some 92, op := Op.pick (Operand.tmp 88) (Operand.tmp 91) (Operand.const (Value.bool false)), type := 4, pos := "law.go:39", after := #[{ on := 11, ground := Ground.data }, { on := 14, ground := Ground.data }], guard := none }
abbrev kaw16 : Oper := { dst := some 93, op := Op.move (Operand.tmp 92), type := 4, pos := "law.go:39", after := #[{ on := 15, ground := Ground.data }, { on := 11, ground := Ground.chain }], guard := none }
abbrev kaw17 : Oper := { dst := some 94, op := Op.fieldAddr 46 (Operand.tmp 9) 3, type := 0, pos := "law.go:39", after := #[{ on := 16, ground := Ground.guard }], guard := some (16, true) }
abbrev kaw18 : Oper := { dst := some 95, op := Op.load 44 (Operand.tmp 94), type := 44, pos := "law.go:39", after := #[{ on := 17, ground := Ground.data }, { on := 16, ground := Ground.guard }], guard := some (16, true) }
abbrev kaw19 : Oper := { dst := some 96, op := Op.call { callee := Callee.builtin Builtin.len, args := #[Operand.tmp 95], argTypes := #[44] }, type := 3, pos := "law.go:39", after := #[{ on := 18, ground := Ground.data }, { on := 16, ground := Ground.guard }], guard := some (16, true) }
abbrev kaw20 : Oper := { dst := some 97, op := Op.binOp BinOp.eql 3 (Operand.tmp 96) (Operand.const (Value.int IntKind.i64 1)) 3, type := 4, pos := "law.go:39", after := #[{ on := 19, ground := Ground.data }, { on := 16, ground := Ground.guard }], guard := some (16, true) }
abbrev kaw21 : Oper := { dst := some 98, op := Op.pick (Operand.tmp 93) (Operand.tmp 97) (Operand.const (Value.bool false)), type := 4, pos := "law.go:39", after := #[{ on := 16, ground := Ground.data }, { on := 20, ground := Ground.data }], guard := none }
abbrev kaw22 : Oper := { dst := some 99, op := Op.move (Operand.tmp 98), type := 4, pos := "law.go:39", after := #[{ on := 21, ground := Ground.data }, { on := 16, ground := Ground.chain }], guard := none }
abbrev kaw23 : Oper := { dst := some 100, op := Op.fieldAddr 46 (Operand.tmp 9) 3, type := 0, pos := "law.go:39", after := #[{ on := 22, ground := Ground.guard }], guard := some (22, true) }
abbrev kaw24 : Oper := { dst := some 101, op := Op.load 44 (Operand.tmp 100), type := 44, pos := "law.go:39", after := #[{ on := 23, ground := Ground.data }, { on := 22, ground := Ground.guard }], guard := some (22, true) }
abbrev kaw25 : Oper := { dst := some 102, op := Op.indexAddr 44 (Operand.tmp 101) (Operand.const (Value.int IntKind.i64 0)), type := 0, pos := "law.go:39", after := #[{ on := 24, ground := Ground.data }, { on := 22, ground := Ground.guard }], guard := some (22, true) }
abbrev kaw26 : Oper := { dst := some 103, op := Op.fieldAddr 53 (Operand.tmp 102) 0, type := 0, pos := "law.go:39", after := #[{ on := 25, ground := Ground.data }, { on := 22, ground := Ground.guard }], guard := some (22, true) }
abbrev kaw27 : Oper := { dst := some 104, op := Op.load 35 (Operand.tmp 103), type := 35, pos := "law.go:39", after := #[{ on := 26, ground := Ground.data }, { on := 22, ground := Ground.guard }], guard := some (22, true) }
abbrev kaw28 : Oper := { dst := some 105, op := Op.call { callee := Callee.value (Operand.func 10), args := #[Operand.const (Value.int IntKind.i64 6)], argTypes := #[3] }, type := 35, pos := "law.go:39", after := #[{ on := 22, ground := Ground.chain }, { on := 22, ground := Ground.guard }], guard := some (22, true) }
abbrev kaw29 : Oper := { dst := some 106, op := Op.binOp BinOp.eql 35 (Operand.tmp 104) (Operand.tmp 105) 35, type := 4, pos := "law.go:39", after := #[{ on := 27, ground := Ground.data }, { on := 28, ground := Ground.data }, { on := 22, ground := Ground.guard }], guard := some (22, true) }
abbrev kaw30 : Oper := { dst := some 107, op := Op.pick (Operand.tmp 99) (Operand.tmp 106) (Operand.const (Value.bool false)), type := 4, pos := "law.go:39", after := #[{ on := 22, ground := Ground.data }, { on := 29, ground := Ground.data }], guard := none }
abbrev kaw31 : Oper := { dst := some 108, op := Op.move (Operand.tmp 107), type := 4, pos := "law.go:39", after := #[{ on := 30, ground := Ground.data }, { on := 28, ground := Ground.chain }], guard := none }
abbrev kaw32 : Oper := { dst := some 109, op := Op.load 35 (Operand.tmp 11), type := 35, pos := "law.go:39", after := #[{ on := 31, ground := Ground.guard }], guard := some (31, true) }
abbrev kaw33 : Oper := { dst := some 110, op := Op.call { callee := Callee.value (Operand.func 10), args := #[Operand.const (Value.int IntKind.i64 6)], argTypes := #[3] }, type := 35, pos := "law.go:39", after := #[{ on := 31, ground := Ground.chain }, { on := 31, ground := Ground.guard }], guard := some (31, true) }
abbrev kaw34 : Oper := { dst := some 111, op := Op.binOp BinOp.eql 35 (Operand.tmp 109) (Operand.tmp 110) 35, type := 4, pos := "law.go:39", after := #[{ on := 32, ground := Ground.data }, { on := 33, ground := Ground.data }, { on := 31, ground := Ground.guard }], guard := some (31, true) }
abbrev kaw35 : Oper := { dst := some 112, op := Op.pick (Operand.tmp 108) (Operand.tmp 111) (Operand.const (Value.bool false)), type := 4, pos := "law.go:39", after := #[{ on := 31, ground := Ground.data }, { on := 34, ground := Ground.data }], guard := none }
abbrev kaw36 : Oper := { dst := some 113, op := Op.move (Operand.tmp 112), type := 4, pos := "law.go:39", after := #[{ on := 35, ground := Ground.data }, { on := 33, ground := Ground.chain }], guard := none }
abbrev kaw37 : Oper := { dst := some 114, op := Op.move (Operand.tmp 1), type := 24, pos := "law.go:39", after := #[{ on := 36, ground := Ground.guard }], guard := some (36, true) }
abbrev kaw38 : Oper := { dst := some 115, op := Op.call { callee := Callee.value (Operand.func 19), args := #[Operand.tmp 114], argTypes := #[24] }, type := 3, pos := "law.go:39", after := #[{ on := 37, ground := Ground.data }, { on := 36, ground := Ground.chain }, { on := 36, ground := Ground.guard }], guard := some (36, true) }
abbrev kaw39 : Oper := { dst := some 116, op := Op.binOp BinOp.eql 3 (Operand.tmp 115) (Operand.const (Value.int IntKind.i64 0)) 3, type := 4, pos := "law.go:39", after := #[{ on := 38, ground := Ground.data }, { on := 36, ground := Ground.guard }], guard := some (36, true) }
abbrev kaw40 : Oper := { dst := some 117, op := Op.pick (Operand.tmp 113) (Operand.tmp 116) (Operand.const (Value.bool false)), type := 4, pos := "law.go:39", after := #[{ on := 36, ground := Ground.data }, { on := 39, ground := Ground.data }], guard := none }
abbrev kaw41 : Oper := { dst := some 0, op := Op.assign (Operand.tmp 117), type := 4, pos := "law.go:39", after := #[{ on := 40, ground := Ground.data }, { on := 38, ground := Ground.chain }, { on := 0, ground := Ground.phase }, { on := 1, ground := Ground.phase }, { on := 2, ground := Ground.phase }, { on := 3, ground := Ground.phase }, { on := 4, ground := Ground.phase }, { on := 5, ground := Ground.phase }, { on := 6, ground := Ground.phase }, { on := 7, ground := Ground.phase }, { on := 8, ground := Ground.phase }, { on := 9, ground := Ground.phase }, { on := 10, ground := Ground.phase }, { on := 11, ground := Ground.phase }, { on := 12, ground := Ground.phase }, { on := 13, ground := Ground.phase }, { on := 14, ground := Ground.phase }, { on := 15, ground := Ground.phase }, { on := 16, ground := Ground.phase }, { on := 17, ground := Ground.phase }, { on := 18, ground := Ground.phase }, { on := 19, ground := Ground.phase }, { on := 20, ground := Ground.phase }, { on := 21, ground := Ground.phase }, { on := 22, ground := Ground.phase }, { on := 23, ground := Ground.phase }, { on := 24, ground := Ground.phase }, { on := 25, ground := Ground.phase }, { on := 26, ground := Ground.phase }, { on := 27, ground := Ground.phase }, { on := 28, ground := Ground.phase }, { on := 29, ground := Ground.phase }, { on := 30, ground := Ground.phase }, { on := 31, ground := Ground.phase }, { on := 32, ground := Ground.phase }, { on := 33, ground := Ground.phase }, { on := 34, ground := Ground.phase }, { on := 35, ground := Ground.phase }, { on := 36, ground := Ground.phase }, { on := 37, ground := Ground.phase }, { on := 38, ground := Ground.phase }, { on := 39, ground := Ground.phase }, { on := 40, ground := Ground.phase }], guard := none }

theorem res_hdl (tm : Array Value) (A : Nat) (Z : World) (a b : Int) (h2 : tm[2]?.getD undef = .pointer (some ⟨A, 0, none⟩)) (hb : Z.heap[A]? = some (.cells #[.int .u32 a, .int .u32 b] 35 (0, 0))) :
    (results Try.f10 tm).run Try.prog Z = .ok (hvW a b) Z := by
  have e := Lib.cell_of_heap hb
  simp [results, Try.f10, h2, go_sem, e]
theorem lhandle_is (w : World) {n : Int} (h0 : 0 ≤ n) (h1 : n < 4294967296) : Calls Try.prog 10 #[.int .i64 n] w fun e w' => e = .returned (hvW n 1) ∧ Below w.heap.size w w' := by
  have hw : IntKind.u32.wrap n = n := by rw [show IntKind.u32.wrap n = n % 4294967296 from rfl]; omega
  go_enter Try.func10, Try.ntmps10
  go_wp2
  refine bodyPost_ret (v := hvW n 1) (res_hdl _ w.heap.size _ n 1 rfl (heap_new w _)) rfl ⟨rfl, below1 _ _⟩
theorem us_n {n : Int} (h : 0 ≤ n) (h1 : n ≤ 100) : UsW n := ⟨h, by omega⟩
theorem wp_thenC {P : Program} {c : Code} {K : Act → World → Prop} {Q : Exit → Act → World → Prop} {a : Act} {w : World} (h : c.wp P (Exit.then K (fun _ _ _ => False)) a w) : c.wp P (Exit.then K Q) a w :=
  Code.wp_mono (fun e a w h => by cases e <;> first | exact h | exact (h : False).elim) h

def aL : List Wt := putW [] 1 1 3 6 1 0 0 0 0
theorem aw_make : ([] : List Lk) ++ [frL (1, 1) 2] = [⟨(1, 1), true, (0, 0), 0⟩] := rfl
theorem aw_lock1 : askK [] ([] ++ [frL (1, 1) 2]) (5, 1) (1, 1) 2 = (0, 0, [], [⟨(1, 1), true, (5, 1), 0⟩]) := by rfl
theorem aw_lock2 : askK [] [⟨(1, 1), true, (5, 1), 0⟩] (6, 1) (1, 1) 2 = (1, 0, aL, [⟨(1, 1), true, (5, 1), 0⟩]) := by rfl
theorem aw_unlock : unlK aL [⟨(1, 1), true, (5, 1), 0⟩] (1, 1) = (0, 0, [⟨6, 1, 0, zVa, false, 0⟩], leaW aL 6 1, [⟨(1, 1), true, (6, 1), 0⟩]) := by rfl
theorem aw_holder : hdL (fnl [⟨(1, 1), true, (6, 1), 0⟩] (1, 1)) = (6, 1) := by rfl
theorem aw_left : cntW (leaW aL 6 1) = 0 := by rfl
theorem aw_ok : WtOk aL := by
  intro t ht
  unfold aL at ht
  rw [show putW [] 1 1 3 6 1 0 0 0 0 = [⟨⟨1, 1, 6, 1, 1, 1, 3, 0, 0, 0, 0⟩, false⟩] from rfl] at ht
  rw [List.mem_singleton.1 ht]
  exact ⟨us_n (by decide) (by decide), us_n (by decide) (by decide), by constructor <;> decide, by constructor <;> decide, us_n (by decide) (by decide), us_n (by decide) (by decide)⟩

set_option maxRecDepth 100000 in
set_option maxHeartbeats 16000000 in
theorem awake16_is (w : World) : Calls Try.prog 6 #[] w fun e w' => e = .returned (.bool true) ∧ Below w.heap.size w w' := by
  go_enter Try.func6, Try.ntmps6
  have HB := hide (Below.refl w.heap.size w)
  go_wp2_with fail
  refine (face.new w).mono ?_
  rintro e w1 ⟨bp, F, rfl, hp1, hb⟩
  have hcc := Ch.of_below (Q := fun _ => False) hb
  replace HB := hide (HB.out.trans (hcc.below HB.out.size (fun _ _ h => h)))
  clear hcc
  clear hb
  go_wp2_with fail
  refine (lw_new hp1 HB.out.size).mono ?_
  rintro e w2 ⟨c, G0, rfl, hl, hb⟩
  clear hp1
  have HL := hide hl
  clear hl
  have hcc := Ch.of_below (Q := fun _ => False) hb
  replace HB := hide (HB.out.trans (hcc.below HB.out.size (fun _ _ h => h)))
  clear hcc
  clear hb
  go_wp2_with fail
  refine (lhandle_is w2 (n := 1) (by decide) (by decide)).mono ?_
  rintro e w3 ⟨rfl, hb⟩
  have hcc := Ch.of_below (Q := fun _ => False) hb
  replace HL := hide (HL.out.quiet hcc)
  replace HB := hide (HB.out.trans (hcc.below HB.out.size (fun _ _ h => h)))
  clear hcc
  clear hb
  go_wp2_with fail
  refine (lw_make HL.out (x := (1, 1)) rfl (k := 2) (by decide) rfl).mono ?_
  rintro e w4 ⟨rfl, G4, hl, hcc, hd⟩
  replace HB := hide (HB.out.trans (hcc.below HB.out.size (fun y hy e => by have := (HL.out.foot e).1; omega)))
  replace HL := hide hl
  clear hl hcc hd
  go_wp2_with fail
  refine (lhandle_is w4 (n := 5) (by decide) (by decide)).mono ?_
  rintro e w5 ⟨rfl, hb⟩
  have hcc := Ch.of_below (Q := fun _ => False) hb
  replace HL := hide (HL.out.quiet hcc)
  replace HB := hide (HB.out.trans (hcc.below HB.out.size (fun _ _ h => h)))
  clear hcc
  clear hb
  go_wp2_with fail
  refine (lhandle_is w5 (n := 1) (by decide) (by decide)).mono ?_
  rintro e w6 ⟨rfl, hb⟩
  have hcc := Ch.of_below (Q := fun _ => False) hb
  replace HL := hide (HL.out.quiet hcc)
  replace HB := hide (HB.out.trans (hcc.below HB.out.size (fun _ _ h => h)))
  clear hcc
  clear hb
  go_wp2_with fail
  refine (lw_lock HL.out (by decide) (g := (5, 1)) (x := (1, 1)) (us_n (by decide) (by decide)) (us_n (by decide) (by decide)) (us_n (by decide) (by decide)) (us_n (by decide) (by decide)) ).mono ?_
  rintro e w7 ⟨rfl, G7, hl, hcc, hd⟩
  replace HB := hide (HB.out.trans (hcc.below HB.out.size (fun y hy e => by have := (HL.out.foot e).1; omega)))
  rw [aw_lock1] at hl
  replace HL := hide hl
  clear hl hcc hd
  rw [aw_lock1]
  go_wp2_with fail
  have hnn := heap_new w7 (.cells #[.int .i64 0, .int .i64 zVa.n, .int .u32 zVa.s, .int .u32 zVa.g, .bool false, .slice none 0 0] 46)
  have hca := Ch.alloc (Q := fun _ => False) w7 (.cells #[.int .i64 0, .int .i64 zVa.n, .int .u32 zVa.s, .int .u32 zVa.g, .bool false, .slice none 0 0] 46)
  generalize w7.alloc (.cells #[.int .i64 0, .int .i64 zVa.n, .int .u32 zVa.s, .int .u32 zVa.g, .bool false, .slice none 0 0] 46) = w8 at hnn hca ⊢
  have X5 := hide hnn
  clear hnn
  have hcc := hca
  replace HL := hide (HL.out.quiet hcc)
  replace HB := hide (HB.out.trans (hcc.below HB.out.size (fun _ _ h => h)))
  clear hcc
  clear hca
  refine (lhandle_is w8 (n := 6) (by decide) (by decide)).mono ?_
  rintro e w9 ⟨rfl, hb⟩
  have hcc := Ch.of_below (Q := fun _ => False) hb
  replace X5 := hide (hcc.box X5.out (fun h => h))
  replace HL := hide (HL.out.quiet hcc)
  replace HB := hide (HB.out.trans (hcc.below HB.out.size (fun _ _ h => h)))
  clear hcc
  clear hb
  go_wp2_with fail
  refine (lhandle_is w9 (n := 1) (by decide) (by decide)).mono ?_
  rintro e w10 ⟨rfl, hb⟩
  have hcc := Ch.of_below (Q := fun _ => False) hb
  replace X5 := hide (hcc.box X5.out (fun h => h))
  replace HL := hide (HL.out.quiet hcc)
  replace HB := hide (HB.out.trans (hcc.below HB.out.size (fun _ _ h => h)))
  clear hcc
  clear hb
  go_wp2_with fail
  refine (lw_lock HL.out (by decide) (g := (6, 1)) (x := (1, 1)) (us_n (by decide) (by decide)) (us_n (by decide) (by decide)) (us_n (by decide) (by decide)) (us_n (by decide) (by decide)) ).mono ?_
  rintro e w11 ⟨rfl, G11, hl, hcc, hd⟩
  replace X5 := hide (hcc.box X5.out (HL.out.nbox X5.out (by decide) (by decide) (by decide) (by decide) (by decide)))
  replace HB := hide (HB.out.trans (hcc.below HB.out.size (fun y hy e => by have := (HL.out.foot e).1; omega)))
  rw [aw_lock2] at hl
  replace HL := hide hl
  clear hl hcc hd
  rw [aw_lock2]
  go_wp2_with fail
  have hnn := heap_new w11 (.cells #[.int .i64 1, .int .i64 zVa.n, .int .u32 zVa.s, .int .u32 zVa.g, .bool false, .slice none 0 0] 46)
  have hca := Ch.alloc (Q := fun _ => False) w11 (.cells #[.int .i64 1, .int .i64 zVa.n, .int .u32 zVa.s, .int .u32 zVa.g, .bool false, .slice none 0 0] 46)
  generalize w11.alloc (.cells #[.int .i64 1, .int .i64 zVa.n, .int .u32 zVa.s, .int .u32 zVa.g, .bool false, .slice none 0 0] 46) = w12 at hnn hca ⊢
  have X7 := hide hnn
  clear hnn
  have hcc := hca
  replace X5 := hide (hcc.box X5.out (fun h => h))
  replace HL := hide (HL.out.quiet hcc)
  replace HB := hide (HB.out.trans (hcc.below HB.out.size (fun _ _ h => h)))
  clear hcc
  clear hca
  refine (lhandle_is w12 (n := 1) (by decide) (by decide)).mono ?_
  rintro e w13 ⟨rfl, hb⟩
  have hcc := Ch.of_below (Q := fun _ => False) hb
  replace X5 := hide (hcc.box X5.out (fun h => h))
  replace X7 := hide (hcc.box X7.out (fun h => h))
  replace HL := hide (HL.out.quiet hcc)
  replace HB := hide (HB.out.trans (hcc.below HB.out.size (fun _ _ h => h)))
  clear hcc
  clear hb
  go_wp2_with fail
  refine (lw_unlock HL.out (by decide) aw_ok (x := (1, 1)) (us_n (by decide) (by decide)) (us_n (by decide) (by decide)) ).mono ?_
  rintro e w14 ⟨sv, rfl, hr, G14, hl, hcc, hd⟩
  replace X5 := hide (hcc.box X5.out (HL.out.nbox X5.out (by decide) (by decide) (by decide) (by decide) (by decide)))
  replace X7 := hide (hcc.box X7.out (HL.out.nbox X7.out (by decide) (by decide) (by decide) (by decide) (by decide)))
  replace HB := hide (HB.out.trans (hcc.below HB.out.size (fun y hy e => by have := (HL.out.foot e).1; omega)))
  rw [aw_unlock] at hl hr
  obtain ⟨nb, cc, cur, rfl, -, -, -, hnb, -, hcell⟩ := hr.at wkL_len (by decide)
  have HK := hide (show cur[0]? = some (.int .u32 6) ∧ cur[1]? = some (.int .u32 1) from ⟨by rw [← Lib.cell_of_heap hnb 0]; exact hcell 0 (by decide) 0 _ rfl, by rw [← Lib.cell_of_heap hnb 1]; exact hcell 0 (by decide) 1 _ rfl⟩)
  have NB := hide hnb
  clear hr hnb hcell
  replace HL := hide hl
  clear hl hcc hd
  rw [aw_unlock]
  go_wp2_with fail
  have hnn := heap_new w14 (.cells #[.int .i64 0, .int .i64 zVa.n, .int .u32 zVa.s, .int .u32 zVa.g, .bool false, .slice (some ⟨nb, 0, none⟩) 1 cc] 46)
  have hca := Ch.alloc (Q := fun _ => False) w14 (.cells #[.int .i64 0, .int .i64 zVa.n, .int .u32 zVa.s, .int .u32 zVa.g, .bool false, .slice (some ⟨nb, 0, none⟩) 1 cc] 46)
  generalize w14.alloc (.cells #[.int .i64 0, .int .i64 zVa.n, .int .u32 zVa.s, .int .u32 zVa.g, .bool false, .slice (some ⟨nb, 0, none⟩) 1 cc] 46) = w15 at hnn hca ⊢
  have X9 := hide hnn
  clear hnn
  have hcc := hca
  replace X5 := hide (hcc.box X5.out (fun h => h))
  replace X7 := hide (hcc.box X7.out (fun h => h))
  replace NB := hide (hcc.box NB.out (fun h => h))
  replace HL := hide (HL.out.quiet hcc)
  replace HB := hide (HB.out.trans (hcc.below HB.out.size (fun _ _ h => h)))
  clear hcc
  clear hca
  refine (lhandle_is w15 (n := 1) (by decide) (by decide)).mono ?_
  rintro e w16 ⟨rfl, hb⟩
  have hcc := Ch.of_below (Q := fun _ => False) hb
  replace X5 := hide (hcc.box X5.out (fun h => h))
  replace X7 := hide (hcc.box X7.out (fun h => h))
  replace NB := hide (hcc.box NB.out (fun h => h))
  replace X9 := hide (hcc.box X9.out (fun h => h))
  replace HL := hide (HL.out.quiet hcc)
  replace HB := hide (HB.out.trans (hcc.below HB.out.size (fun _ _ h => h)))
  clear hcc
  clear hb
  go_wp2_with fail
  refine (lw_holder HL.out (1, 1)).mono ?_
  rintro e w17 ⟨rfl, hb⟩
  have hcc := Ch.of_below (Q := fun _ => False) hb
  replace X5 := hide (hcc.box X5.out (fun h => h))
  replace X7 := hide (hcc.box X7.out (fun h => h))
  replace NB := hide (hcc.box NB.out (fun h => h))
  replace X9 := hide (hcc.box X9.out (fun h => h))
  replace HL := hide (HL.out.quiet hcc)
  replace HB := hide (HB.out.trans (hcc.below HB.out.size (fun _ _ h => h)))
  clear hcc
  clear hb
  rw [aw_holder, show isMuL (fnl _ ((1, 1) : Hnd)) = true from rfl]
  go_wp2
  have hnn := heap_new w17 (.cells #[.int .u32 6, .int .u32 1] 35)
  have hca := Ch.alloc (Q := fun _ => False) w17 (.cells #[.int .u32 6, .int .u32 1] 35)
  generalize w17.alloc (.cells #[.int .u32 6, .int .u32 1] 35) = w18 at hnn hca ⊢
  have XB := hide hnn
  clear hnn
  have hcc := hca
  replace X5 := hide (hcc.box X5.out (fun h => h))
  replace X7 := hide (hcc.box X7.out (fun h => h))
  replace NB := hide (hcc.box NB.out (fun h => h))
  replace X9 := hide (hcc.box X9.out (fun h => h))
  replace HL := hide (HL.out.quiet hcc)
  replace HB := hide (HB.out.trans (hcc.below HB.out.size (fun _ _ h => h)))
  clear hcc
  clear hca
  obtain ⟨Fb, hpb, -⟩ := HL.out.bk
  have HBK := hide (fun V (cV : Ch (fun _ => False) w18 V) => face.ch hpb cV (fun _ _ h => h))
  clear hpb
  refine wp_reg (fun _ => False) (R := fun V => Ch (fun _ => False) w18 V) (by kernel_rfl) (Ch.drew _) (fun V cV zk => ?_)
  have CV := hide cV
  clear cV
  have HX := hide (fun wq (kq : Ch (fun _ => False) V wq) => show wq.cell? ⟨w7.heap.size, 0, none⟩ = some (.int .i64 0) ∧ wq.cell? ⟨w11.heap.size, 0, none⟩ = some (.int .i64 1) ∧ (wq.cell? ⟨w14.heap.size, 0, none⟩ = some (.int .i64 0) ∧ wq.cell? ⟨w14.heap.size, 5, none⟩ = some (.slice (some ⟨nb, 0, none⟩) 1 cc)) ∧ (wq.cell? ⟨nb, 0, none⟩ = some (.int .u32 6) ∧ wq.cell? ⟨nb, 1, none⟩ = some (.int .u32 1)) ∧ wq.cell? ⟨w17.heap.size, 0, none⟩ = some (.int .u32 6) ∧ wq.cell? ⟨w17.heap.size, 1, none⟩ = some (.int .u32 1) from by
    have cc := CV.out.trans kq (fun _ _ h => h)
    have e1 := Lib.cell_of_heap (cc.box X5.out (fun h => h))
    have e2 := Lib.cell_of_heap (cc.box X7.out (fun h => h))
    have e3 := Lib.cell_of_heap (cc.box X9.out (fun h => h))
    have e4 := Lib.cell_of_heap (cc.box NB.out (fun h => h))
    have e5 := Lib.cell_of_heap (cc.box XB.out (fun h => h))
    obtain ⟨k0, k1⟩ := HK.out
    exact ⟨by simp [e1], by simp [e2], ⟨by simp [e3], by simp [e3]⟩, ⟨by rw [e4]; exact k0, by rw [e4]; exact k1⟩, by simp [e5], by simp [e5]⟩)
  apply tk 0 kaw0 rfl (by kernel_rfl) (fun _ _ _ h => h) zk
  · intro wq zq
    go_simp
    try rfl
  go_frame
  apply tk 1 kaw1 rfl (by kernel_rfl) (fun _ _ _ h => h) zk
  · intro wq zq
    go_simp
    try rfl
  go_frame
  apply tk 2 kaw2 rfl (by kernel_rfl) (fun _ _ _ h => h) zk
  · intro wq zq
    go_simp
    try rfl
  go_frame
  apply tk 3 kaw3 rfl (by kernel_rfl) (fun _ _ _ h => h) zk
  · intro wq zq
    obtain ⟨s0, s1, ⟨s2, s3⟩, ⟨s4, s5⟩, s6, s7⟩ := HX.out _ zq
    go_simp
    try rfl
  go_frame
  apply tk 4 kaw4 rfl (by kernel_rfl) (fun _ _ _ h => h) zk
  · intro wq zq
    go_simp
    try rfl
  go_frame
  apply tk 5 kaw5 rfl (by kernel_rfl) (fun _ _ _ h => h) zk
  · intro wq zq
    go_simp
    try rfl
  go_frame
  apply tk 6 kaw6 rfl (by kernel_rfl) (fun _ _ _ h => h) zk
  · intro wq zq
    go_simp
    try rfl
  go_frame
  apply tk 7 kaw7 rfl (by kernel_rfl) (fun _ _ _ h => h) zk
  · intro wq zq
    go_simp
    try rfl
  go_frame
  apply tk 8 kaw8 rfl (by kernel_rfl) (fun _ _ _ h => h) zk
  · intro wq zq
    obtain ⟨s0, s1, ⟨s2, s3⟩, ⟨s4, s5⟩, s6, s7⟩ := HX.out _ zq
    go_simp
    try rfl
  go_frame
  apply tk 9 kaw9 rfl (by kernel_rfl) (fun _ _ _ h => h) zk
  · intro wq zq
    go_simp
    try rfl
  go_frame
  apply tk 10 kaw10 rfl (by kernel_rfl) (fun _ _ _ h => h) zk
  · intro wq zq
    go_simp
    try rfl
  go_frame
  apply tk 11 kaw11 rfl (by kernel_rfl) (fun _ _ _ h => h) zk
  · intro wq zq
    go_simp
    try rfl
  go_frame
  apply tk 12 kaw12 rfl (by kernel_rfl) (fun _ _ _ h => h) zk
  · intro wq zq
    go_simp
    try rfl
  go_frame
  apply tk 13 kaw13 rfl (by kernel_rfl) (fun _ _ _ h => h) zk
  · intro wq zq
    obtain ⟨s0, s1, ⟨s2, s3⟩, ⟨s4, s5⟩, s6, s7⟩ := HX.out _ zq
    go_simp
    try rfl
  go_frame
  apply tk 14 kaw14 rfl (by kernel_rfl) (fun _ _ _ h => h) zk
  · intro wq zq
    go_simp
    try rfl
  go_frame
  apply tk 15 kaw15 rfl (by kernel_rfl) (fun _ _ _ h => h) zk
  · intro wq zq
    go_simp
    try rfl
  go_frame
  apply tk 16 kaw16 rfl (by kernel_rfl) (fun _ _ _ h => h) zk
  · intro wq zq
    go_simp
    try rfl
  go_frame
  apply tk 17 kaw17 rfl (by kernel_rfl) (fun _ _ _ h => h) zk
  · intro wq zq
    go_simp
    try rfl
  go_frame
  apply tk 18 kaw18 rfl (by kernel_rfl) (fun _ _ _ h => h) zk
  · intro wq zq
    obtain ⟨s0, s1, ⟨s2, s3⟩, ⟨s4, s5⟩, s6, s7⟩ := HX.out _ zq
    go_simp
    try rfl
  go_frame
  apply tk 19 kaw19 rfl (by kernel_rfl) (fun _ _ _ h => h) zk
  · intro wq zq
    go_simp
    try rfl
  go_frame
  apply tk 20 kaw20 rfl (by kernel_rfl) (fun _ _ _ h => h) zk
  · intro wq zq
    go_simp
    try rfl
  go_frame
  apply tk 21 kaw21 rfl (by kernel_rfl) (fun _ _ _ h => h) zk
  · intro wq zq
    go_simp
    try rfl
  go_frame
  apply tk 22 kaw22 rfl (by kernel_rfl) (fun _ _ _ h => h) zk
  · intro wq zq
    go_simp
    try rfl
  go_frame
  apply tk 23 kaw23 rfl (by kernel_rfl) (fun _ _ _ h => h) zk
  · intro wq zq
    go_simp
    try rfl
  go_frame
  apply tk 24 kaw24 rfl (by kernel_rfl) (fun _ _ _ h => h) zk
  · intro wq zq
    obtain ⟨s0, s1, ⟨s2, s3⟩, ⟨s4, s5⟩, s6, s7⟩ := HX.out _ zq
    go_simp
    try rfl
  go_frame
  apply tk 25 kaw25 rfl (by kernel_rfl) (fun _ _ _ h => h) zk
  · intro wq zq
    go_simp
    try rfl
  go_frame
  apply tk 26 kaw26 rfl (by kernel_rfl) (fun _ _ _ h => h) zk
  · intro wq zq
    go_simp
    try rfl
  go_frame
  apply tk 27 kaw27 rfl (by kernel_rfl) (fun _ _ _ h => h) zk
  · intro wq zq
    obtain ⟨s0, s1, ⟨s2, s3⟩, ⟨s4, s5⟩, s6, s7⟩ := HX.out _ zq
    go_simp
    try rfl
  go_frame
  refine Go.Proofs.Ytoabhmpakcgloaa.rd 28 kaw28 rfl (by kernel_rfl) fun K hK => ?_
  go_simp
  refine (lhandle_is V (n := 6) (by decide) (by decide)).mono ?_
  rintro e v0 ⟨rfl, hba⟩
  have Cv0 := hide ((CV.out).trans (Ch.of_below hba) (fun _ _ h => h))
  have Zv0 := hide (zk.trans (Ch.of_below (Q := fun _ => False) hba) (fun _ _ h => h))
  clear hba
  go_wp2_with fail
  refine hK.out _ _ ?_ (fun zk => ?_)
  · exact Zv0.out
  clear hK K
  try go_frame
  apply tk 29 kaw29 rfl (by kernel_rfl) (fun _ _ _ h => h) zk
  · intro wq zq
    go_simp
    try rfl
  go_frame
  apply tk 30 kaw30 rfl (by kernel_rfl) (fun _ _ _ h => h) zk
  · intro wq zq
    go_simp
    try rfl
  go_frame
  apply tk 31 kaw31 rfl (by kernel_rfl) (fun _ _ _ h => h) zk
  · intro wq zq
    go_simp
    try rfl
  go_frame
  apply tk 32 kaw32 rfl (by kernel_rfl) (fun _ _ _ h => h) zk
  · intro wq zq
    obtain ⟨s0, s1, ⟨s2, s3⟩, ⟨s4, s5⟩, s6, s7⟩ := HX.out _ zq
    go_simp
    try rfl
  go_frame
  refine Go.Proofs.Ytoabhmpakcgloaa.rd 33 kaw33 rfl (by kernel_rfl) fun K hK => ?_
  go_simp
  refine (lhandle_is v0 (n := 6) (by decide) (by decide)).mono ?_
  rintro e v1 ⟨rfl, hba⟩
  have Cv1 := hide ((Cv0.out).trans (Ch.of_below hba) (fun _ _ h => h))
  have Zv1 := hide (zk.trans (Ch.of_below (Q := fun _ => False) hba) (fun _ _ h => h))
  clear hba
  go_wp2_with fail
  refine hK.out _ _ ?_ (fun zk => ?_)
  · exact Zv1.out
  clear hK K
  try go_frame
  apply tk 34 kaw34 rfl (by kernel_rfl) (fun _ _ _ h => h) zk
  · intro wq zq
    go_simp
    try rfl
  go_frame
  apply tk 35 kaw35 rfl (by kernel_rfl) (fun _ _ _ h => h) zk
  · intro wq zq
    go_simp
    try rfl
  go_frame
  apply tk 36 kaw36 rfl (by kernel_rfl) (fun _ _ _ h => h) zk
  · intro wq zq
    go_simp
    try rfl
  go_frame
  apply tk 37 kaw37 rfl (by kernel_rfl) (fun _ _ _ h => h) zk
  · intro wq zq
    go_simp
    try rfl
  go_frame
  refine Go.Proofs.Ytoabhmpakcgloaa.rd 38 kaw38 rfl (by kernel_rfl) fun K hK => ?_
  go_simp
  refine (face.count (HBK.out v1 (Cv1.out)) (by decide)).mono ?_
  rintro e v2 ⟨rfl, hba⟩
  have Cv2 := hide ((Cv1.out).trans (Ch.of_below hba) (fun _ _ h => h))
  have Zv2 := hide (zk.trans (Ch.of_below (Q := fun _ => False) hba) (fun _ _ h => h))
  clear hba
  rw [aw_left]
  go_wp2_with fail
  refine hK.out _ _ ?_ (fun zk => ?_)
  · exact Zv2.out
  clear hK K
  try go_frame
  apply tk 39 kaw39 rfl (by kernel_rfl) (fun _ _ _ h => h) zk
  · intro wq zq
    go_simp
    try rfl
  go_frame
  apply tk 40 kaw40 rfl (by kernel_rfl) (fun _ _ _ h => h) zk
  · intro wq zq
    go_simp
    try rfl
  go_frame
  apply tk 41 kaw41 rfl (by kernel_rfl) (fun _ _ _ h => h) zk
  · intro wq zq
    go_simp
    try rfl
  go_frame
  refine wpAnyH_done (by kernel_rfl) ?_ _
  go_wp2
  go_ret
  exact ⟨rfl, HB.out.trans ((Cv2.out).below HB.out.size (fun _ _ h => h))⟩

end Go.Proofs.Ytoabhmpakcgloaa

namespace Go.Proofs.Ytoabhmpakcgloaa
open Go.RowKit

theorem ask_none (w : World) (g x : Hnd) (k : Int) : Calls Try.prog 27 #[.pointer none, hkV g, hkV x, .int .i64 k] w fun e w' => e = .returned (.tuple #[didV 0 zVa false (.slice none 0 0), .int .i64 1]) ∧ Below w.heap.size w w' := by
  obtain ⟨w1, hw1⟩ : ∃ z, w.alloc (.cells #[.int .u32 g.1, .int .u32 g.2] 35) = z := ⟨_, rfl⟩
  have hc1 : Ch (fun _ => False) w w1 := by rw [← hw1]; exact Ch.alloc _ _
  have hz1 : w1.heap.size = w.heap.size + 1 := by rw [← hw1, World.size_alloc]
  have hn1 : w1.heap[w.heap.size]? = some (.cells #[.int .u32 g.1, .int .u32 g.2] 35 (0, 0)) := by rw [← hw1]; exact heap_new _ _
  obtain ⟨w2, hw2⟩ : ∃ z, w1.alloc (.cells #[.int .u32 x.1, .int .u32 x.2] 35) = z := ⟨_, rfl⟩
  have hc2 : Ch (fun _ => False) w1 w2 := by rw [← hw2]; exact Ch.alloc _ _
  have hz2 : w2.heap.size = w1.heap.size + 1 := by rw [← hw2, World.size_alloc]
  have hn2 : w2.heap[w1.heap.size]? = some (.cells #[.int .u32 x.1, .int .u32 x.2] 35 (0, 0)) := by rw [← hw2]; exact heap_new _ _
  replace hn1 := hc2.box hn1 (fun h => h)
  obtain ⟨w3, hw3⟩ : ∃ z, w2.alloc (.cells #[.int .i64 0, .int .i64 0, .int .u32 0, .int .u32 0, .bool false, .slice none 0 0] 46) = z := ⟨_, rfl⟩
  have hc3 : Ch (fun _ => False) w2 w3 := by rw [← hw3]; exact Ch.alloc _ _
  have hz3 : w3.heap.size = w2.heap.size + 1 := by rw [← hw3, World.size_alloc]
  have hn3 : w3.heap[w2.heap.size]? = some (.cells #[.int .i64 0, .int .i64 0, .int .u32 0, .int .u32 0, .bool false, .slice none 0 0] 46 (0, 0)) := by rw [← hw3]; exact heap_new _ _
  replace hn1 := hc3.box hn1 (fun h => h)
  replace hn2 := hc3.box hn2 (fun h => h)
  have CB := hide ((hc1.trans hc2 (fun _ _ h => h)).trans hc3 (fun _ _ h => h))
  have HZ := hide (And.intro hz1 hz2)
  have HNS := hide hn3
  have g0 : w3.cell? ⟨w.heap.size, 0, none⟩ = some (.int .u32 g.1) := by simp [Lib.cell_of_heap hn1]
  have g1 : w3.cell? ⟨w.heap.size, 1, none⟩ = some (.int .u32 g.2) := by simp [Lib.cell_of_heap hn1]
  have x0 : w3.cell? ⟨w1.heap.size, 0, none⟩ = some (.int .u32 x.1) := by simp [Lib.cell_of_heap hn2]
  have x1 : w3.cell? ⟨w1.heap.size, 1, none⟩ = some (.int .u32 x.2) := by simp [Lib.cell_of_heap hn2]
  clear hc1 hz1 hn1 hc2 hz2 hn2 hc3 hz3
  have nV := HNS.out
  have d0 : w3.cell? ⟨w2.heap.size, 0, none⟩ = some (.int .i64 0) := by simp [Lib.cell_of_heap nV]
  have d1 : w3.cell? ⟨w2.heap.size, 1, none⟩ = some (.int .i64 0) := by simp [Lib.cell_of_heap nV]
  have d2 : w3.cell? ⟨w2.heap.size, 2, none⟩ = some (.int .u32 0) := by simp [Lib.cell_of_heap nV]
  have d3 : w3.cell? ⟨w2.heap.size, 3, none⟩ = some (.int .u32 0) := by simp [Lib.cell_of_heap nV]
  have d4 : w3.cell? ⟨w2.heap.size, 4, none⟩ = some (.bool false) := by simp [Lib.cell_of_heap nV]
  have d5 : w3.cell? ⟨w2.heap.size, 5, none⟩ = some (.slice none 0 0) := by simp [Lib.cell_of_heap nV]
  have df : ∀ j, w3.frozen? ⟨w2.heap.size, j, none⟩ = false := frz nV
  have HS := hide (did_set nV (.int .i64 0) (.int .i64 0) (.int .u32 0) (.int .u32 0) (.bool false) (.slice none 0 0))
  clear nV hn3
  go_enter Try.func27, Try.ntmps27
  go_wp2
  refine bodyPost_ret (v := .tuple #[didV 0 zVa false (.slice none 0 0), .int .i64 1]) (res_ask _ w2.heap.size _ 0 0 0 0 false _ 1 rfl rfl HS.out.1) rfl ⟨rfl, ?_⟩
  have hz := HZ.out
  exact (CB.out.trans HS.out.2 (fun y hy e => by omega)).below (Nat.le_refl _) (fun _ _ h => h)

theorem lock_none (w : World) (g x : Hnd) : Calls Try.prog 12 #[.pointer none, hkV g, hkV x] w fun e w' => e = .returned (.tuple #[didV 0 zVa false (.slice none 0 0), .int .i64 1]) ∧ Below w.heap.size w w' := by
  obtain ⟨w1, hw1⟩ : ∃ z, w.alloc (.cells #[.int .u32 g.1, .int .u32 g.2] 35) = z := ⟨_, rfl⟩
  have hc1 : Ch (fun _ => False) w w1 := by rw [← hw1]; exact Ch.alloc _ _
  have hz1 : w1.heap.size = w.heap.size + 1 := by rw [← hw1, World.size_alloc]
  have hn1 : w1.heap[w.heap.size]? = some (.cells #[.int .u32 g.1, .int .u32 g.2] 35 (0, 0)) := by rw [← hw1]; exact heap_new _ _
  obtain ⟨w2, hw2⟩ : ∃ z, w1.alloc (.cells #[.int .u32 x.1, .int .u32 x.2] 35) = z := ⟨_, rfl⟩
  have hc2 : Ch (fun _ => False) w1 w2 := by rw [← hw2]; exact Ch.alloc _ _
  have hz2 : w2.heap.size = w1.heap.size + 1 := by rw [← hw2, World.size_alloc]
  have hn2 : w2.heap[w1.heap.size]? = some (.cells #[.int .u32 x.1, .int .u32 x.2] 35 (0, 0)) := by rw [← hw2]; exact heap_new _ _
  replace hn1 := hc2.box hn1 (fun h => h)
  obtain ⟨w3, hw3⟩ : ∃ z, w2.alloc (.cells #[.int .i64 0, .int .i64 0, .int .u32 0, .int .u32 0, .bool false, .slice none 0 0] 46) = z := ⟨_, rfl⟩
  have hc3 : Ch (fun _ => False) w2 w3 := by rw [← hw3]; exact Ch.alloc _ _
  have hz3 : w3.heap.size = w2.heap.size + 1 := by rw [← hw3, World.size_alloc]
  have hn3 : w3.heap[w2.heap.size]? = some (.cells #[.int .i64 0, .int .i64 0, .int .u32 0, .int .u32 0, .bool false, .slice none 0 0] 46 (0, 0)) := by rw [← hw3]; exact heap_new _ _
  replace hn1 := hc3.box hn1 (fun h => h)
  replace hn2 := hc3.box hn2 (fun h => h)
  have CB := hide ((hc1.trans hc2 (fun _ _ h => h)).trans hc3 (fun _ _ h => h))
  have HZ := hide (And.intro hz1 hz2)
  have HNS := hide hn3
  have g0 : w3.cell? ⟨w.heap.size, 0, none⟩ = some (.int .u32 g.1) := by simp [Lib.cell_of_heap hn1]
  have g1 : w3.cell? ⟨w.heap.size, 1, none⟩ = some (.int .u32 g.2) := by simp [Lib.cell_of_heap hn1]
  have x0 : w3.cell? ⟨w1.heap.size, 0, none⟩ = some (.int .u32 x.1) := by simp [Lib.cell_of_heap hn2]
  have x1 : w3.cell? ⟨w1.heap.size, 1, none⟩ = some (.int .u32 x.2) := by simp [Lib.cell_of_heap hn2]
  clear hc1 hz1 hn1 hc2 hz2 hn2 hc3 hz3
  have HASK := hide (ask_none w3 g x 2)
  clear hn3
  go_enter Try.func12, Try.ntmps12
  go_wp2_with fail
  clear hw1 hw2 hw3 g0 g1 x0 x1
  refine HASK.out.mono ?_
  rintro e w4 ⟨rfl, hb4⟩
  have C4 := hide (Ch.of_below (Q := fun _ => False) hb4)
  have nV := C4.out.box HNS.out (fun h => h)
  have d0 : w4.cell? ⟨w2.heap.size, 0, none⟩ = some (.int .i64 0) := by simp [Lib.cell_of_heap nV]
  have d1 : w4.cell? ⟨w2.heap.size, 1, none⟩ = some (.int .i64 0) := by simp [Lib.cell_of_heap nV]
  have d2 : w4.cell? ⟨w2.heap.size, 2, none⟩ = some (.int .u32 0) := by simp [Lib.cell_of_heap nV]
  have d3 : w4.cell? ⟨w2.heap.size, 3, none⟩ = some (.int .u32 0) := by simp [Lib.cell_of_heap nV]
  have d4 : w4.cell? ⟨w2.heap.size, 4, none⟩ = some (.bool false) := by simp [Lib.cell_of_heap nV]
  have d5 : w4.cell? ⟨w2.heap.size, 5, none⟩ = some (.slice none 0 0) := by simp [Lib.cell_of_heap nV]
  have df : ∀ j, w4.frozen? ⟨w2.heap.size, j, none⟩ = false := frz nV
  have HS := hide (did_set nV (.int .i64 0) (.int .i64 0) (.int .u32 0) (.int .u32 0) (.bool false) (.slice none 0 0))
  clear nV hb4
  go_wp2_with fail
  refine bodyPost_ret (v := .tuple #[didV 0 zVa false (.slice none 0 0), .int .i64 1]) (res_lock _ w2.heap.size _ 0 0 0 0 false _ 1 rfl rfl HS.out.1) rfl ⟨rfl, ?_⟩
  have hz := HZ.out
  exact ((CB.out.trans C4.out (fun _ _ h => h)).trans HS.out.2 (fun y hy e => by omega)).below (Nat.le_refl _) (fun _ _ h => h)

theorem wait_none (w : World) (g x : Hnd) : Calls Try.prog 16 #[.pointer none, hkV g, hkV x] w fun e w' => e = .returned (.tuple #[didV 0 zVa false (.slice none 0 0), .int .i64 1]) ∧ Below w.heap.size w w' := by
  obtain ⟨w1, hw1⟩ : ∃ z, w.alloc (.cells #[.int .u32 g.1, .int .u32 g.2] 35) = z := ⟨_, rfl⟩
  have hc1 : Ch (fun _ => False) w w1 := by rw [← hw1]; exact Ch.alloc _ _
  have hz1 : w1.heap.size = w.heap.size + 1 := by rw [← hw1, World.size_alloc]
  have hn1 : w1.heap[w.heap.size]? = some (.cells #[.int .u32 g.1, .int .u32 g.2] 35 (0, 0)) := by rw [← hw1]; exact heap_new _ _
  obtain ⟨w2, hw2⟩ : ∃ z, w1.alloc (.cells #[.int .u32 x.1, .int .u32 x.2] 35) = z := ⟨_, rfl⟩
  have hc2 : Ch (fun _ => False) w1 w2 := by rw [← hw2]; exact Ch.alloc _ _
  have hz2 : w2.heap.size = w1.heap.size + 1 := by rw [← hw2, World.size_alloc]
  have hn2 : w2.heap[w1.heap.size]? = some (.cells #[.int .u32 x.1, .int .u32 x.2] 35 (0, 0)) := by rw [← hw2]; exact heap_new _ _
  replace hn1 := hc2.box hn1 (fun h => h)
  obtain ⟨w3, hw3⟩ : ∃ z, w2.alloc (.cells #[.int .i64 0, .int .i64 0, .int .u32 0, .int .u32 0, .bool false, .slice none 0 0] 46) = z := ⟨_, rfl⟩
  have hc3 : Ch (fun _ => False) w2 w3 := by rw [← hw3]; exact Ch.alloc _ _
  have hz3 : w3.heap.size = w2.heap.size + 1 := by rw [← hw3, World.size_alloc]
  have hn3 : w3.heap[w2.heap.size]? = some (.cells #[.int .i64 0, .int .i64 0, .int .u32 0, .int .u32 0, .bool false, .slice none 0 0] 46 (0, 0)) := by rw [← hw3]; exact heap_new _ _
  replace hn1 := hc3.box hn1 (fun h => h)
  replace hn2 := hc3.box hn2 (fun h => h)
  have CB := hide ((hc1.trans hc2 (fun _ _ h => h)).trans hc3 (fun _ _ h => h))
  have HZ := hide (And.intro hz1 hz2)
  have HNS := hide hn3
  have g0 : w3.cell? ⟨w.heap.size, 0, none⟩ = some (.int .u32 g.1) := by simp [Lib.cell_of_heap hn1]
  have g1 : w3.cell? ⟨w.heap.size, 1, none⟩ = some (.int .u32 g.2) := by simp [Lib.cell_of_heap hn1]
  have x0 : w3.cell? ⟨w1.heap.size, 0, none⟩ = some (.int .u32 x.1) := by simp [Lib.cell_of_heap hn2]
  have x1 : w3.cell? ⟨w1.heap.size, 1, none⟩ = some (.int .u32 x.2) := by simp [Lib.cell_of_heap hn2]
  clear hc1 hz1 hn1 hc2 hz2 hn2 hc3 hz3
  have HASK := hide (ask_none w3 g x 3)
  clear hn3
  go_enter Try.func16, Try.ntmps16
  go_wp2_with fail
  clear hw1 hw2 hw3 g0 g1 x0 x1
  refine HASK.out.mono ?_
  rintro e w4 ⟨rfl, hb4⟩
  have C4 := hide (Ch.of_below (Q := fun _ => False) hb4)
  have nV := C4.out.box HNS.out (fun h => h)
  have d0 : w4.cell? ⟨w2.heap.size, 0, none⟩ = some (.int .i64 0) := by simp [Lib.cell_of_heap nV]
  have d1 : w4.cell? ⟨w2.heap.size, 1, none⟩ = some (.int .i64 0) := by simp [Lib.cell_of_heap nV]
  have d2 : w4.cell? ⟨w2.heap.size, 2, none⟩ = some (.int .u32 0) := by simp [Lib.cell_of_heap nV]
  have d3 : w4.cell? ⟨w2.heap.size, 3, none⟩ = some (.int .u32 0) := by simp [Lib.cell_of_heap nV]
  have d4 : w4.cell? ⟨w2.heap.size, 4, none⟩ = some (.bool false) := by simp [Lib.cell_of_heap nV]
  have d5 : w4.cell? ⟨w2.heap.size, 5, none⟩ = some (.slice none 0 0) := by simp [Lib.cell_of_heap nV]
  have df : ∀ j, w4.frozen? ⟨w2.heap.size, j, none⟩ = false := frz nV
  have HS := hide (did_set nV (.int .i64 0) (.int .i64 0) (.int .u32 0) (.int .u32 0) (.bool false) (.slice none 0 0))
  clear nV hb4
  go_wp2_with fail
  refine bodyPost_ret (v := .tuple #[didV 0 zVa false (.slice none 0 0), .int .i64 1]) (res_wait _ w2.heap.size _ 0 0 0 0 false _ 1 rfl rfl HS.out.1) rfl ⟨rfl, ?_⟩
  have hz := HZ.out
  exact ((CB.out.trans C4.out (fun _ _ h => h)).trans HS.out.2 (fun y hy e => by omega)).below (Nat.le_refl _) (fun _ _ h => h)

theorem unlock_none (w : World) (x : Hnd) : Calls Try.prog 13 #[.pointer none, hkV x] w fun e w' => e = .returned (.tuple #[didV 0 zVa false (.slice none 0 0), .int .i64 1]) ∧ Below w.heap.size w w' := by
  obtain ⟨w1, hw1⟩ : ∃ z, w.alloc (.cells #[.int .u32 x.1, .int .u32 x.2] 35) = z := ⟨_, rfl⟩
  have hc1 : Ch (fun _ => False) w w1 := by rw [← hw1]; exact Ch.alloc _ _
  have hz1 : w1.heap.size = w.heap.size + 1 := by rw [← hw1, World.size_alloc]
  have hn1 : w1.heap[w.heap.size]? = some (.cells #[.int .u32 x.1, .int .u32 x.2] 35 (0, 0)) := by rw [← hw1]; exact heap_new _ _
  obtain ⟨w2, hw2⟩ : ∃ z, w1.alloc (.cells #[.int .i64 0, .int .i64 0, .int .u32 0, .int .u32 0, .bool false, .slice none 0 0] 46) = z := ⟨_, rfl⟩
  have hc2 : Ch (fun _ => False) w1 w2 := by rw [← hw2]; exact Ch.alloc _ _
  have hz2 : w2.heap.size = w1.heap.size + 1 := by rw [← hw2, World.size_alloc]
  have hn2 : w2.heap[w1.heap.size]? = some (.cells #[.int .i64 0, .int .i64 0, .int .u32 0, .int .u32 0, .bool false, .slice none 0 0] 46 (0, 0)) := by rw [← hw2]; exact heap_new _ _
  replace hn1 := hc2.box hn1 (fun h => h)
  have CB := hide (hc1.trans hc2 (fun _ _ h => h))
  have HZ := hide hz1
  have HNS := hide hn2
  have x0 : w2.cell? ⟨w.heap.size, 0, none⟩ = some (.int .u32 x.1) := by simp [Lib.cell_of_heap hn1]
  have x1 : w2.cell? ⟨w.heap.size, 1, none⟩ = some (.int .u32 x.2) := by simp [Lib.cell_of_heap hn1]
  clear hc1 hz1 hn1 hc2 hz2 hn2
  go_enter Try.func13, Try.ntmps13
  go_wp2_with fail
  clear hw1 hw2 x0 x1
  refine (refuse_none w2 x 2).mono ?_
  rintro e w4 ⟨rfl, hb4⟩
  have C4 := hide (Ch.of_below (Q := fun _ => False) hb4)
  have nV := C4.out.box HNS.out (fun h => h)
  have d0 : w4.cell? ⟨w1.heap.size, 0, none⟩ = some (.int .i64 0) := by simp [Lib.cell_of_heap nV]
  have d1 : w4.cell? ⟨w1.heap.size, 1, none⟩ = some (.int .i64 0) := by simp [Lib.cell_of_heap nV]
  have d2 : w4.cell? ⟨w1.heap.size, 2, none⟩ = some (.int .u32 0) := by simp [Lib.cell_of_heap nV]
  have d3 : w4.cell? ⟨w1.heap.size, 3, none⟩ = some (.int .u32 0) := by simp [Lib.cell_of_heap nV]
  have d4 : w4.cell? ⟨w1.heap.size, 4, none⟩ = some (.bool false) := by simp [Lib.cell_of_heap nV]
  have d5 : w4.cell? ⟨w1.heap.size, 5, none⟩ = some (.slice none 0 0) := by simp [Lib.cell_of_heap nV]
  have df : ∀ j, w4.frozen? ⟨w1.heap.size, j, none⟩ = false := frz nV
  have HS := hide (did_set nV (.int .i64 0) (.int .i64 0) (.int .u32 0) (.int .u32 0) (.bool false) (.slice none 0 0))
  clear nV hb4
  go_wp2_with fail
  refine bodyPost_ret (v := .tuple #[didV 0 zVa false (.slice none 0 0), .int .i64 1]) (res_unlock _ w1.heap.size _ 0 0 0 0 false _ 1 rfl rfl HS.out.1) rfl ⟨rfl, ?_⟩
  have hz := HZ.out
  exact ((CB.out.trans C4.out (fun _ _ h => h)).trans HS.out.2 (fun y hy e => by omega)).below (Nat.le_refl _) (fun _ _ h => h)

theorem add_none (w : World) (x : Hnd) (n : Int) : Calls Try.prog 17 #[.pointer none, hkV x, .int .i64 n] w fun e w' => e = .returned (.tuple #[didV 0 zVa false (.slice none 0 0), .int .i64 1]) ∧ Below w.heap.size w w' := by
  obtain ⟨w1, hw1⟩ : ∃ z, w.alloc (.cells #[.int .u32 x.1, .int .u32 x.2] 35) = z := ⟨_, rfl⟩
  have hc1 : Ch (fun _ => False) w w1 := by rw [← hw1]; exact Ch.alloc _ _
  have hz1 : w1.heap.size = w.heap.size + 1 := by rw [← hw1, World.size_alloc]
  have hn1 : w1.heap[w.heap.size]? = some (.cells #[.int .u32 x.1, .int .u32 x.2] 35 (0, 0)) := by rw [← hw1]; exact heap_new _ _
  obtain ⟨w2, hw2⟩ : ∃ z, w1.alloc (.cells #[.int .i64 0, .int .i64 0, .int .u32 0, .int .u32 0, .bool false, .slice none 0 0] 46) = z := ⟨_, rfl⟩
  have hc2 : Ch (fun _ => False) w1 w2 := by rw [← hw2]; exact Ch.alloc _ _
  have hz2 : w2.heap.size = w1.heap.size + 1 := by rw [← hw2, World.size_alloc]
  have hn2 : w2.heap[w1.heap.size]? = some (.cells #[.int .i64 0, .int .i64 0, .int .u32 0, .int .u32 0, .bool false, .slice none 0 0] 46 (0, 0)) := by rw [← hw2]; exact heap_new _ _
  replace hn1 := hc2.box hn1 (fun h => h)
  have CB := hide (hc1.trans hc2 (fun _ _ h => h))
  have HZ := hide hz1
  have HNS := hide hn2
  have x0 : w2.cell? ⟨w.heap.size, 0, none⟩ = some (.int .u32 x.1) := by simp [Lib.cell_of_heap hn1]
  have x1 : w2.cell? ⟨w.heap.size, 1, none⟩ = some (.int .u32 x.2) := by simp [Lib.cell_of_heap hn1]
  clear hc1 hz1 hn1 hc2 hz2 hn2
  go_enter Try.func17, Try.ntmps17
  go_wp2_with fail
  clear hw1 hw2 x0 x1
  refine (refuse_none w2 x 3).mono ?_
  rintro e w4 ⟨rfl, hb4⟩
  have C4 := hide (Ch.of_below (Q := fun _ => False) hb4)
  have nV := C4.out.box HNS.out (fun h => h)
  have d0 : w4.cell? ⟨w1.heap.size, 0, none⟩ = some (.int .i64 0) := by simp [Lib.cell_of_heap nV]
  have d1 : w4.cell? ⟨w1.heap.size, 1, none⟩ = some (.int .i64 0) := by simp [Lib.cell_of_heap nV]
  have d2 : w4.cell? ⟨w1.heap.size, 2, none⟩ = some (.int .u32 0) := by simp [Lib.cell_of_heap nV]
  have d3 : w4.cell? ⟨w1.heap.size, 3, none⟩ = some (.int .u32 0) := by simp [Lib.cell_of_heap nV]
  have d4 : w4.cell? ⟨w1.heap.size, 4, none⟩ = some (.bool false) := by simp [Lib.cell_of_heap nV]
  have d5 : w4.cell? ⟨w1.heap.size, 5, none⟩ = some (.slice none 0 0) := by simp [Lib.cell_of_heap nV]
  have df : ∀ j, w4.frozen? ⟨w1.heap.size, j, none⟩ = false := frz nV
  have HS := hide (did_set nV (.int .i64 0) (.int .i64 0) (.int .u32 0) (.int .u32 0) (.bool false) (.slice none 0 0))
  clear nV hb4
  go_wp2_with fail
  refine bodyPost_ret (v := .tuple #[didV 0 zVa false (.slice none 0 0), .int .i64 1]) (res_add _ w1.heap.size _ 0 0 0 0 false _ 1 rfl rfl HS.out.1) rfl ⟨rfl, ?_⟩
  have hz := HZ.out
  exact ((CB.out.trans C4.out (fun _ _ h => h)).trans HS.out.2 (fun y hy e => by omega)).below (Nat.le_refl _) (fun _ _ h => h)

theorem holder_none (w : World) (x : Hnd) : Calls Try.prog 14 #[.pointer none, hkV x] w fun e w' => e = .returned (.tuple #[hvW 0 0, .int .i64 1]) ∧ Below w.heap.size w w' := by
  obtain ⟨w1, hw1⟩ : ∃ z, w.alloc (.cells #[.int .u32 x.1, .int .u32 x.2] 35) = z := ⟨_, rfl⟩
  have hc1 : Ch (fun _ => False) w w1 := by rw [← hw1]; exact Ch.alloc _ _
  have hz1 : w1.heap.size = w.heap.size + 1 := by rw [← hw1, World.size_alloc]
  have hn1 : w1.heap[w.heap.size]? = some (.cells #[.int .u32 x.1, .int .u32 x.2] 35 (0, 0)) := by rw [← hw1]; exact heap_new _ _
  obtain ⟨w2, hw2⟩ : ∃ z, w1.alloc (.cells #[.int .u32 0, .int .u32 0] 35) = z := ⟨_, rfl⟩
  have hc2 : Ch (fun _ => False) w1 w2 := by rw [← hw2]; exact Ch.alloc _ _
  have hz2 : w2.heap.size = w1.heap.size + 1 := by rw [← hw2, World.size_alloc]
  have hn2 : w2.heap[w1.heap.size]? = some (.cells #[.int .u32 0, .int .u32 0] 35 (0, 0)) := by rw [← hw2]; exact heap_new _ _
  have CB := hide (hc1.trans hc2 (fun _ _ h => h))
  have HZ := hide hz1
  have NV := hide hn2
  have d0 : w2.cell? ⟨w1.heap.size, 0, none⟩ = some (.int .u32 0) := by simp [Lib.cell_of_heap hn2]
  have d1 : w2.cell? ⟨w1.heap.size, 1, none⟩ = some (.int .u32 0) := by simp [Lib.cell_of_heap hn2]
  have df : ∀ j, w2.frozen? ⟨w1.heap.size, j, none⟩ = false := frz hn2
  clear hc1 hz1 hn1 hc2 hz2 hn2
  have hbx : ((w2.setCell ⟨w1.heap.size, 0, none⟩ (.int .u32 0)).setCell ⟨w1.heap.size, 1, none⟩ (.int .u32 0)).heap[w1.heap.size]? = some (.cells #[.int .u32 0, .int .u32 0] 35 (0, 0)) := heap_set (heap_set NV.out 0 _) 1 _
  go_enter Try.func14, Try.ntmps14
  go_wp2
  refine bodyPost_ret (v := .tuple #[hvW 0 0, .int .i64 1]) (res_holder _ w1.heap.size _ 0 0 1 rfl rfl hbx) rfl ⟨rfl, ?_⟩
  have hz := HZ.out
  exact ((CB.out.trans (Ch.set (Q := fun y => y = w1.heap.size) _ rfl 0 _) (fun y hy e => by omega)).trans (Ch.set (Q := fun y => y = w1.heap.size) _ rfl 1 _) (fun y hy e => by omega)).below (Nat.le_refl _) (fun _ _ h => h)

theorem counter_none (w : World) (x : Hnd) : Calls Try.prog 18 #[.pointer none, hkV x] w fun e w' => e = .returned (.tuple #[.int .i64 0, .int .i64 1]) ∧ Below w.heap.size w w' := by
  go_enter Try.func18, Try.ntmps18
  go_wp2
  go_ret2
  exact ⟨rfl, below1 _ _⟩

theorem drop_none (w : World) (x : Hnd) : Calls Try.prog 20 #[.pointer none, hkV x] w fun e w' => e = .returned (.int .i64 1) ∧ Below w.heap.size w w' := by
  go_enter Try.func20, Try.ntmps20
  go_wp2
  go_ret
  exact ⟨rfl, below1 _ _⟩

theorem make_none (w : World) (x : Hnd) : Calls Try.prog 9 #[.pointer none, hkV x, .int .i64 2] w fun e w' => e = .returned (.int .i64 1) ∧ Below w.heap.size w w' := by
  obtain ⟨w1, hw1⟩ : ∃ z, w.alloc (.cells #[.int .u32 x.1, .int .u32 x.2] 35) = z := ⟨_, rfl⟩
  have hc1 : Ch (fun _ => False) w w1 := by rw [← hw1]; exact Ch.alloc _ _
  have hz1 : w1.heap.size = w.heap.size + 1 := by rw [← hw1, World.size_alloc]
  have hn1 : w1.heap[w.heap.size]? = some (.cells #[.int .u32 x.1, .int .u32 x.2] 35 (0, 0)) := by rw [← hw1]; exact heap_new _ _
  have CB := hide hc1
  have q1 := nil_m
  have q0 := eg_m
  clear hc1 hz1 hn1
  go_enter Try.func9, Try.ntmps9
  go_wp2_with fail
  refine (fresh_m w1).mono ?_
  rintro e w2 ⟨rfl, ht, hb2, -⟩
  have C2 := hide (CB.out.trans (Ch.of_below (Q := fun _ => False) hb2) (fun _ _ h => h))
  clear ht hb2 hw1
  go_wp2
  go_ret
  exact ⟨rfl, C2.out.below (Nat.le_refl _) (fun _ _ h => h)⟩

theorem kind_none (w : World) (x : Hnd) : Calls Try.prog 22 #[.pointer none, hkV x] w fun e w' => e = .returned (.int .i64 0) ∧ Below w.heap.size w w' := by
  obtain ⟨w1, hw1⟩ : ∃ z, w.alloc (.cells #[.int .u32 x.1, .int .u32 x.2] 35) = z := ⟨_, rfl⟩
  have hc1 : Ch (fun _ => False) w w1 := by rw [← hw1]; exact Ch.alloc _ _
  have hz1 : w1.heap.size = w.heap.size + 1 := by rw [← hw1, World.size_alloc]
  have hn1 : w1.heap[w.heap.size]? = some (.cells #[.int .u32 x.1, .int .u32 x.2] 35 (0, 0)) := by rw [← hw1]; exact heap_new _ _
  have CB := hide hc1
  have n0 : w1.cell? ⟨w.heap.size, 0, none⟩ = some (.int .u32 x.1) := by simp [Lib.cell_of_heap hn1]
  have n1 : w1.cell? ⟨w.heap.size, 1, none⟩ = some (.int .u32 x.2) := by simp [Lib.cell_of_heap hn1]
  clear hc1 hz1 hn1
  go_enter Try.func22, Try.ntmps22
  go_wp2_with fail
  refine (at_none w1 x).mono ?_
  rintro e w2 ⟨rfl, hb2⟩
  have C2 := hide (CB.out.trans (Ch.of_below (Q := fun _ => False) hb2) (fun _ _ h => h))
  clear hb2 hw1 n0 n1
  go_wp2_with fail
  refine (kindOf_is w2 none).mono ?_
  rintro e w3 ⟨rfl, hb3⟩
  have C3 := hide (C2.out.trans (Ch.of_below (Q := fun _ => False) hb3) (fun _ _ h => h))
  clear hb3
  go_wp2
  go_ret
  exact ⟨rfl, C3.out.below (Nat.le_refl _) (fun _ _ h => h)⟩

theorem count_none (w : World) : Calls Try.prog 23 #[.pointer none] w fun e w' => e = .returned (.int .i64 0) ∧ Below w.heap.size w w' := by
  go_enter Try.func23, Try.ntmps23
  go_wp2
  go_ret
  exact ⟨rfl, Below.refl _ _⟩

end Go.Proofs.Ytoabhmpakcgloaa

namespace Go.Proofs.Ytoabhmpakcgloaa
open Go.RowKit

set_option maxRecDepth 100000 in
set_option maxHeartbeats 8000000 in
theorem same_zero (w : World) : Calls Try.prog 21 #[.agg #[.int .i64 0, .int .i64 0, .int .u32 0, .int .u32 0, .bool false, .slice none 0 0], .agg #[.int .i64 0, .int .i64 0, .int .u32 0, .int .u32 0, .bool false, .slice none 0 0]] w fun e w' => e = .returned (.bool true) ∧ Below w.heap.size w w' := by
  obtain ⟨w1, hw1⟩ : ∃ w1, (w.alloc (.cells #[.int .i64 0, .int .i64 0, .int .u32 0, .int .u32 0, .bool false, .slice none 0 0] 46)).alloc (.cells #[.int .i64 0, .int .i64 0, .int .u32 0, .int .u32 0, .bool false, .slice none 0 0] 46) = w1 := ⟨_, rfl⟩
  have hB1 : Below w.heap.size w w1 := by rw [← hw1]; exact (below1 _ _).trans ((below1 _ _).mono (by simp))
  have hn0 : w1.heap[w.heap.size]? = some (.cells #[.int .i64 0, .int .i64 0, .int .u32 0, .int .u32 0, .bool false, .slice none 0 0] 46 (0, 0)) := by
    rw [← hw1]
    exact (Ch.alloc (Q := fun _ => False) _ _).box (heap_new _ _) (fun h => h)
  have hn1 : w1.heap[w.heap.size + 1]? = some (.cells #[.int .i64 0, .int .i64 0, .int .u32 0, .int .u32 0, .bool false, .slice none 0 0] 46 (0, 0)) := by
    rw [← hw1]
    have := heap_new (w.alloc (.cells #[.int .i64 0, .int .i64 0, .int .u32 0, .int .u32 0, .bool false, .slice none 0 0] 46)) (.cells #[.int .i64 0, .int .i64 0, .int .u32 0, .int .u32 0, .bool false, .slice none 0 0] 46)
    rwa [World.size_alloc] at this
  have x00 : w1.cell? ⟨w.heap.size, 0, none⟩ = some (.int .i64 0) := by simp [Lib.cell_of_heap hn0]
  have x01 : w1.cell? ⟨w.heap.size, 1, none⟩ = some (.int .i64 0) := by simp [Lib.cell_of_heap hn0]
  have x02 : w1.cell? ⟨w.heap.size, 2, none⟩ = some (.int .u32 0) := by simp [Lib.cell_of_heap hn0]
  have x03 : w1.cell? ⟨w.heap.size, 3, none⟩ = some (.int .u32 0) := by simp [Lib.cell_of_heap hn0]
  have x04 : w1.cell? ⟨w.heap.size, 4, none⟩ = some (.bool false) := by simp [Lib.cell_of_heap hn0]
  have x05 : w1.cell? ⟨w.heap.size, 5, none⟩ = some (.slice none 0 0) := by simp [Lib.cell_of_heap hn0]
  have x10 : w1.cell? ⟨w.heap.size + 1, 0, none⟩ = some (.int .i64 0) := by simp [Lib.cell_of_heap hn1]
  have x11 : w1.cell? ⟨w.heap.size + 1, 1, none⟩ = some (.int .i64 0) := by simp [Lib.cell_of_heap hn1]
  have x12 : w1.cell? ⟨w.heap.size + 1, 2, none⟩ = some (.int .u32 0) := by simp [Lib.cell_of_heap hn1]
  have x13 : w1.cell? ⟨w.heap.size + 1, 3, none⟩ = some (.int .u32 0) := by simp [Lib.cell_of_heap hn1]
  have x14 : w1.cell? ⟨w.heap.size + 1, 4, none⟩ = some (.bool false) := by simp [Lib.cell_of_heap hn1]
  have x15 : w1.cell? ⟨w.heap.size + 1, 5, none⟩ = some (.slice none 0 0) := by simp [Lib.cell_of_heap hn1]
  have HB := hide hB1
  clear hB1 hn0 hn1
  go_enter Try.func21, Try.ntmps21
  go_wp2
  clear hw1
  go_loopw [5] (fun iv wr => iv = .int .i64 0 ∧ wr = w1) (fun _ _ => 0)
  case atStart => exact ⟨rfl, rfl⟩
  case round =>
    obtain ⟨rfl, rfl⟩ := hrel
    go_wp2
    go_ret
    exact ⟨rfl, HB.out⟩

end Go.Proofs.Ytoabhmpakcgloaa

namespace Go.Proofs.Ytoabhmpakcgloaa
open Go.RowKit

set_option maxRecDepth 100000 in
set_option maxHeartbeats 8000000 in
theorem nil_is (w : World) (g h : Hnd) (n : Int) : Calls Try.prog 5 #[hkV g, hkV h, .int .i64 n] w fun e w' => e = .returned (.bool true) ∧ Below w.heap.size w w' := by
  obtain ⟨w1, hw1⟩ : ∃ z, w.alloc (.cells #[.int .u32 g.1, .int .u32 g.2] 35) = z := ⟨_, rfl⟩
  have hc1 : Ch (fun _ => False) w w1 := by rw [← hw1]; exact Ch.alloc _ _
  have hz1 : w1.heap.size = w.heap.size + 1 := by rw [← hw1, World.size_alloc]
  have hn1 : w1.heap[w.heap.size]? = some (.cells #[.int .u32 g.1, .int .u32 g.2] 35 (0, 0)) := by rw [← hw1]; exact heap_new _ _
  obtain ⟨w2, hw2⟩ : ∃ z, w1.alloc (.cells #[.int .u32 h.1, .int .u32 h.2] 35) = z := ⟨_, rfl⟩
  have hc2 : Ch (fun _ => False) w1 w2 := by rw [← hw2]; exact Ch.alloc _ _
  have hz2 : w2.heap.size = w1.heap.size + 1 := by rw [← hw2, World.size_alloc]
  have hn2 : w2.heap[w1.heap.size]? = some (.cells #[.int .u32 h.1, .int .u32 h.2] 35 (0, 0)) := by rw [← hw2]; exact heap_new _ _
  have GB := hide (hc2.box hn1 (fun h => h))
  have HH := hide hn2
  have HB := hide ((hc1.trans hc2 (fun _ _ h => h)).below (Nat.le_refl _) (fun _ _ h => h))
  clear hc1 hz1 hn1 hc2 hz2 hn2
  go_enter Try.func5, Try.ntmps5
  go_wp2_with fail
  refine (awake16_is w2).mono ?_
  rintro e w3 ⟨rfl, hb⟩
  have hcc := Ch.of_below (Q := fun _ => False) hb
  replace GB := hide (hcc.box GB.out (fun h => h))
  replace HH := hide (hcc.box HH.out (fun h => h))
  replace HB := hide (HB.out.trans (hcc.below HB.out.size (fun _ _ h => h)))
  clear hcc
  clear hb
  go_wp2_with fail
  refine (new_none w3).mono ?_
  rintro e w4 ⟨rfl, hb⟩
  have hcc := Ch.of_below (Q := fun _ => False) hb
  replace GB := hide (hcc.box GB.out (fun h => h))
  replace HH := hide (hcc.box HH.out (fun h => h))
  replace HB := hide (HB.out.trans (hcc.below HB.out.size (fun _ _ h => h)))
  clear hcc
  clear hb
  have gb_0 : w4.cell? ⟨w.heap.size, 0, none⟩ = some (.int .u32 g.1) := by simp [Lib.cell_of_heap GB.out]
  have gb_1 : w4.cell? ⟨w.heap.size, 1, none⟩ = some (.int .u32 g.2) := by simp [Lib.cell_of_heap GB.out]
  have hh_0 : w4.cell? ⟨w1.heap.size, 0, none⟩ = some (.int .u32 h.1) := by simp [Lib.cell_of_heap HH.out]
  have hh_1 : w4.cell? ⟨w1.heap.size, 1, none⟩ = some (.int .u32 h.2) := by simp [Lib.cell_of_heap HH.out]
  go_wp2_with fail
  clear gb_0 gb_1 hh_0 hh_1
  refine (lock_none w4 g h).mono ?_
  rintro e w5 ⟨rfl, hb⟩
  have hcc := Ch.of_below (Q := fun _ => False) hb
  replace GB := hide (hcc.box GB.out (fun h => h))
  replace HH := hide (hcc.box HH.out (fun h => h))
  replace HB := hide (HB.out.trans (hcc.below HB.out.size (fun _ _ h => h)))
  clear hcc
  clear hb
  have hh_0 : (w5.alloc (.cells #[.int .i64 0, .int .i64 zVa.n, .int .u32 zVa.s, .int .u32 zVa.g, .bool false, .slice none 0 0] 46)).cell? ⟨w1.heap.size, 0, none⟩ = some (.int .u32 h.1) := by simp [Lib.cell_of_heap ((Ch.alloc (Q := fun _ => False) _ _).box HH.out (fun h => h))]
  have hh_1 : (w5.alloc (.cells #[.int .i64 0, .int .i64 zVa.n, .int .u32 zVa.s, .int .u32 zVa.g, .bool false, .slice none 0 0] 46)).cell? ⟨w1.heap.size, 1, none⟩ = some (.int .u32 h.2) := by simp [Lib.cell_of_heap ((Ch.alloc (Q := fun _ => False) _ _).box HH.out (fun h => h))]
  go_wp2_with fail
  have hnn := heap_new w5 (.cells #[.int .i64 0, .int .i64 zVa.n, .int .u32 zVa.s, .int .u32 zVa.g, .bool false, .slice none 0 0] 46)
  have hca := Ch.alloc (Q := fun _ => False) w5 (.cells #[.int .i64 0, .int .i64 zVa.n, .int .u32 zVa.s, .int .u32 zVa.g, .bool false, .slice none 0 0] 46)
  generalize w5.alloc (.cells #[.int .i64 0, .int .i64 zVa.n, .int .u32 zVa.s, .int .u32 zVa.g, .bool false, .slice none 0 0] 46) = w6 at hnn hca ⊢
  have XA := hide hnn
  clear hnn
  have hcc := hca
  replace GB := hide (hcc.box GB.out (fun h => h))
  replace HH := hide (hcc.box HH.out (fun h => h))
  replace HB := hide (HB.out.trans (hcc.below HB.out.size (fun _ _ h => h)))
  clear hcc
  clear hca
  clear hh_0 hh_1
  refine (unlock_none w6 h).mono ?_
  rintro e w7 ⟨rfl, hb⟩
  have hcc := Ch.of_below (Q := fun _ => False) hb
  replace GB := hide (hcc.box GB.out (fun h => h))
  replace HH := hide (hcc.box HH.out (fun h => h))
  replace XA := hide (hcc.box XA.out (fun h => h))
  replace HB := hide (HB.out.trans (hcc.below HB.out.size (fun _ _ h => h)))
  clear hcc
  clear hb
  have hh_0 : (w7.alloc (.cells #[.int .i64 0, .int .i64 zVa.n, .int .u32 zVa.s, .int .u32 zVa.g, .bool false, .slice none 0 0] 46)).cell? ⟨w1.heap.size, 0, none⟩ = some (.int .u32 h.1) := by simp [Lib.cell_of_heap ((Ch.alloc (Q := fun _ => False) _ _).box HH.out (fun h => h))]
  have hh_1 : (w7.alloc (.cells #[.int .i64 0, .int .i64 zVa.n, .int .u32 zVa.s, .int .u32 zVa.g, .bool false, .slice none 0 0] 46)).cell? ⟨w1.heap.size, 1, none⟩ = some (.int .u32 h.2) := by simp [Lib.cell_of_heap ((Ch.alloc (Q := fun _ => False) _ _).box HH.out (fun h => h))]
  go_wp2_with fail
  have hnn := heap_new w7 (.cells #[.int .i64 0, .int .i64 zVa.n, .int .u32 zVa.s, .int .u32 zVa.g, .bool false, .slice none 0 0] 46)
  have hca := Ch.alloc (Q := fun _ => False) w7 (.cells #[.int .i64 0, .int .i64 zVa.n, .int .u32 zVa.s, .int .u32 zVa.g, .bool false, .slice none 0 0] 46)
  generalize w7.alloc (.cells #[.int .i64 0, .int .i64 zVa.n, .int .u32 zVa.s, .int .u32 zVa.g, .bool false, .slice none 0 0] 46) = w8 at hnn hca ⊢
  have XB := hide hnn
  clear hnn
  have hcc := hca
  replace GB := hide (hcc.box GB.out (fun h => h))
  replace HH := hide (hcc.box HH.out (fun h => h))
  replace XA := hide (hcc.box XA.out (fun h => h))
  replace HB := hide (HB.out.trans (hcc.below HB.out.size (fun _ _ h => h)))
  clear hcc
  clear hca
  clear hh_0 hh_1
  refine (add_none w8 h n).mono ?_
  rintro e w9 ⟨rfl, hb⟩
  have hcc := Ch.of_below (Q := fun _ => False) hb
  replace GB := hide (hcc.box GB.out (fun h => h))
  replace HH := hide (hcc.box HH.out (fun h => h))
  replace XA := hide (hcc.box XA.out (fun h => h))
  replace XB := hide (hcc.box XB.out (fun h => h))
  replace HB := hide (HB.out.trans (hcc.below HB.out.size (fun _ _ h => h)))
  clear hcc
  clear hb
  have gb_0 : (w9.alloc (.cells #[.int .i64 0, .int .i64 zVa.n, .int .u32 zVa.s, .int .u32 zVa.g, .bool false, .slice none 0 0] 46)).cell? ⟨w.heap.size, 0, none⟩ = some (.int .u32 g.1) := by simp [Lib.cell_of_heap ((Ch.alloc (Q := fun _ => False) _ _).box GB.out (fun h => h))]
  have gb_1 : (w9.alloc (.cells #[.int .i64 0, .int .i64 zVa.n, .int .u32 zVa.s, .int .u32 zVa.g, .bool false, .slice none 0 0] 46)).cell? ⟨w.heap.size, 1, none⟩ = some (.int .u32 g.2) := by simp [Lib.cell_of_heap ((Ch.alloc (Q := fun _ => False) _ _).box GB.out (fun h => h))]
  have hh_0 : (w9.alloc (.cells #[.int .i64 0, .int .i64 zVa.n, .int .u32 zVa.s, .int .u32 zVa.g, .bool false, .slice none 0 0] 46)).cell? ⟨w1.heap.size, 0, none⟩ = some (.int .u32 h.1) := by simp [Lib.cell_of_heap ((Ch.alloc (Q := fun _ => False) _ _).box HH.out (fun h => h))]
  have hh_1 : (w9.alloc (.cells #[.int .i64 0, .int .i64 zVa.n, .int .u32 zVa.s, .int .u32 zVa.g, .bool false, .slice none 0 0] 46)).cell? ⟨w1.heap.size, 1, none⟩ = some (.int .u32 h.2) := by simp [Lib.cell_of_heap ((Ch.alloc (Q := fun _ => False) _ _).box HH.out (fun h => h))]
  go_wp2_with fail
  have hnn := heap_new w9 (.cells #[.int .i64 0, .int .i64 zVa.n, .int .u32 zVa.s, .int .u32 zVa.g, .bool false, .slice none 0 0] 46)
  have hca := Ch.alloc (Q := fun _ => False) w9 (.cells #[.int .i64 0, .int .i64 zVa.n, .int .u32 zVa.s, .int .u32 zVa.g, .bool false, .slice none 0 0] 46)
  generalize w9.alloc (.cells #[.int .i64 0, .int .i64 zVa.n, .int .u32 zVa.s, .int .u32 zVa.g, .bool false, .slice none 0 0] 46) = w10 at hnn hca ⊢
  have XC := hide hnn
  clear hnn
  have hcc := hca
  replace GB := hide (hcc.box GB.out (fun h => h))
  replace HH := hide (hcc.box HH.out (fun h => h))
  replace XA := hide (hcc.box XA.out (fun h => h))
  replace XB := hide (hcc.box XB.out (fun h => h))
  replace HB := hide (HB.out.trans (hcc.below HB.out.size (fun _ _ h => h)))
  clear hcc
  clear hca
  clear gb_0 gb_1 hh_0 hh_1
  refine (wait_none w10 g h).mono ?_
  rintro e w11 ⟨rfl, hb⟩
  have hcc := Ch.of_below (Q := fun _ => False) hb
  replace GB := hide (hcc.box GB.out (fun h => h))
  replace HH := hide (hcc.box HH.out (fun h => h))
  replace XA := hide (hcc.box XA.out (fun h => h))
  replace XB := hide (hcc.box XB.out (fun h => h))
  replace XC := hide (hcc.box XC.out (fun h => h))
  replace HB := hide (HB.out.trans (hcc.below HB.out.size (fun _ _ h => h)))
  clear hcc
  clear hb
  have hh_0 : (w11.alloc (.cells #[.int .i64 0, .int .i64 zVa.n, .int .u32 zVa.s, .int .u32 zVa.g, .bool false, .slice none 0 0] 46)).cell? ⟨w1.heap.size, 0, none⟩ = some (.int .u32 h.1) := by simp [Lib.cell_of_heap ((Ch.alloc (Q := fun _ => False) _ _).box HH.out (fun h => h))]
  have hh_1 : (w11.alloc (.cells #[.int .i64 0, .int .i64 zVa.n, .int .u32 zVa.s, .int .u32 zVa.g, .bool false, .slice none 0 0] 46)).cell? ⟨w1.heap.size, 1, none⟩ = some (.int .u32 h.2) := by simp [Lib.cell_of_heap ((Ch.alloc (Q := fun _ => False) _ _).box HH.out (fun h => h))]
  go_wp2_with fail
  have hnn := heap_new w11 (.cells #[.int .i64 0, .int .i64 zVa.n, .int .u32 zVa.s, .int .u32 zVa.g, .bool false, .slice none 0 0] 46)
  have hca := Ch.alloc (Q := fun _ => False) w11 (.cells #[.int .i64 0, .int .i64 zVa.n, .int .u32 zVa.s, .int .u32 zVa.g, .bool false, .slice none 0 0] 46)
  generalize w11.alloc (.cells #[.int .i64 0, .int .i64 zVa.n, .int .u32 zVa.s, .int .u32 zVa.g, .bool false, .slice none 0 0] 46) = w12 at hnn hca ⊢
  have XD := hide hnn
  clear hnn
  have hcc := hca
  replace GB := hide (hcc.box GB.out (fun h => h))
  replace HH := hide (hcc.box HH.out (fun h => h))
  replace XA := hide (hcc.box XA.out (fun h => h))
  replace XB := hide (hcc.box XB.out (fun h => h))
  replace XC := hide (hcc.box XC.out (fun h => h))
  replace HB := hide (HB.out.trans (hcc.below HB.out.size (fun _ _ h => h)))
  clear hcc
  clear hca
  clear hh_0 hh_1
  refine (holder_none w12 h).mono ?_
  rintro e w13 ⟨rfl, hb⟩
  have hcc := Ch.of_below (Q := fun _ => False) hb
  replace GB := hide (hcc.box GB.out (fun h => h))
  replace HH := hide (hcc.box HH.out (fun h => h))
  replace XA := hide (hcc.box XA.out (fun h => h))
  replace XB := hide (hcc.box XB.out (fun h => h))
  replace XC := hide (hcc.box XC.out (fun h => h))
  replace XD := hide (hcc.box XD.out (fun h => h))
  replace HB := hide (HB.out.trans (hcc.below HB.out.size (fun _ _ h => h)))
  clear hcc
  clear hb
  have hh_0 : (w13.alloc (.cells #[.int .u32 0, .int .u32 0] 35)).cell? ⟨w1.heap.size, 0, none⟩ = some (.int .u32 h.1) := by simp [Lib.cell_of_heap ((Ch.alloc (Q := fun _ => False) _ _).box HH.out (fun h => h))]
  have hh_1 : (w13.alloc (.cells #[.int .u32 0, .int .u32 0] 35)).cell? ⟨w1.heap.size, 1, none⟩ = some (.int .u32 h.2) := by simp [Lib.cell_of_heap ((Ch.alloc (Q := fun _ => False) _ _).box HH.out (fun h => h))]
  go_wp2_with fail
  have hnn := heap_new w13 (.cells #[.int .u32 0, .int .u32 0] 35)
  have hca := Ch.alloc (Q := fun _ => False) w13 (.cells #[.int .u32 0, .int .u32 0] 35)
  generalize w13.alloc (.cells #[.int .u32 0, .int .u32 0] 35) = w14 at hnn hca ⊢
  have XE := hide hnn
  clear hnn
  have hcc := hca
  replace GB := hide (hcc.box GB.out (fun h => h))
  replace HH := hide (hcc.box HH.out (fun h => h))
  replace XA := hide (hcc.box XA.out (fun h => h))
  replace XB := hide (hcc.box XB.out (fun h => h))
  replace XC := hide (hcc.box XC.out (fun h => h))
  replace XD := hide (hcc.box XD.out (fun h => h))
  replace HB := hide (HB.out.trans (hcc.below HB.out.size (fun _ _ h => h)))
  clear hcc
  clear hca
  clear hh_0 hh_1
  refine (counter_none w14 h).mono ?_
  rintro e w15 ⟨rfl, hb⟩
  have hcc := Ch.of_below (Q := fun _ => False) hb
  replace GB := hide (hcc.box GB.out (fun h => h))
  replace HH := hide (hcc.box HH.out (fun h => h))
  replace XA := hide (hcc.box XA.out (fun h => h))
  replace XB := hide (hcc.box XB.out (fun h => h))
  replace XC := hide (hcc.box XC.out (fun h => h))
  replace XD := hide (hcc.box XD.out (fun h => h))
  replace XE := hide (hcc.box XE.out (fun h => h))
  replace HB := hide (HB.out.trans (hcc.below HB.out.size (fun _ _ h => h)))
  clear hcc
  clear hb
  have hh_0 : w15.cell? ⟨w1.heap.size, 0, none⟩ = some (.int .u32 h.1) := by simp [Lib.cell_of_heap HH.out]
  have hh_1 : w15.cell? ⟨w1.heap.size, 1, none⟩ = some (.int .u32 h.2) := by simp [Lib.cell_of_heap HH.out]
  go_wp2_with fail
  clear hh_0 hh_1
  refine (make_none w15 h).mono ?_
  rintro e w16 ⟨rfl, hb⟩
  have hcc := Ch.of_below (Q := fun _ => False) hb
  replace GB := hide (hcc.box GB.out (fun h => h))
  replace HH := hide (hcc.box HH.out (fun h => h))
  replace XA := hide (hcc.box XA.out (fun h => h))
  replace XB := hide (hcc.box XB.out (fun h => h))
  replace XC := hide (hcc.box XC.out (fun h => h))
  replace XD := hide (hcc.box XD.out (fun h => h))
  replace XE := hide (hcc.box XE.out (fun h => h))
  replace HB := hide (HB.out.trans (hcc.below HB.out.size (fun _ _ h => h)))
  clear hcc
  clear hb
  have hh_0 : w16.cell? ⟨w1.heap.size, 0, none⟩ = some (.int .u32 h.1) := by simp [Lib.cell_of_heap HH.out]
  have hh_1 : w16.cell? ⟨w1.heap.size, 1, none⟩ = some (.int .u32 h.2) := by simp [Lib.cell_of_heap HH.out]
  go_wp2_with fail
  clear hh_0 hh_1
  refine (drop_none w16 h).mono ?_
  rintro e w17 ⟨rfl, hb⟩
  have hcc := Ch.of_below (Q := fun _ => False) hb
  replace GB := hide (hcc.box GB.out (fun h => h))
  replace HH := hide (hcc.box HH.out (fun h => h))
  replace XA := hide (hcc.box XA.out (fun h => h))
  replace XB := hide (hcc.box XB.out (fun h => h))
  replace XC := hide (hcc.box XC.out (fun h => h))
  replace XD := hide (hcc.box XD.out (fun h => h))
  replace XE := hide (hcc.box XE.out (fun h => h))
  replace HB := hide (HB.out.trans (hcc.below HB.out.size (fun _ _ h => h)))
  clear hcc
  clear hb
  have xa_0 : w17.cell? ⟨w5.heap.size, 0, none⟩ = some (.int .i64 0) := by simp [Lib.cell_of_heap XA.out]
  have xa_1 : w17.cell? ⟨w5.heap.size, 1, none⟩ = some (.int .i64 zVa.n) := by simp [Lib.cell_of_heap XA.out]
  have xa_2 : w17.cell? ⟨w5.heap.size, 2, none⟩ = some (.int .u32 zVa.s) := by simp [Lib.cell_of_heap XA.out]
  have xa_3 : w17.cell? ⟨w5.heap.size, 3, none⟩ = some (.int .u32 zVa.g) := by simp [Lib.cell_of_heap XA.out]
  have xa_4 : w17.cell? ⟨w5.heap.size, 4, none⟩ = some (.bool false) := by simp [Lib.cell_of_heap XA.out]
  have xa_5 : w17.cell? ⟨w5.heap.size, 5, none⟩ = some (.slice none 0 0) := by simp [Lib.cell_of_heap XA.out]
  go_wp2_with fail
  clear xa_0 xa_1 xa_2 xa_3 xa_4 xa_5
  refine (same_zero w17).mono ?_
  rintro e w18 ⟨rfl, hb⟩
  have hcc := Ch.of_below (Q := fun _ => False) hb
  replace GB := hide (hcc.box GB.out (fun h => h))
  replace HH := hide (hcc.box HH.out (fun h => h))
  replace XA := hide (hcc.box XA.out (fun h => h))
  replace XB := hide (hcc.box XB.out (fun h => h))
  replace XC := hide (hcc.box XC.out (fun h => h))
  replace XD := hide (hcc.box XD.out (fun h => h))
  replace XE := hide (hcc.box XE.out (fun h => h))
  replace HB := hide (HB.out.trans (hcc.below HB.out.size (fun _ _ h => h)))
  clear hcc
  clear hb
  have xb_0 : w18.cell? ⟨w7.heap.size, 0, none⟩ = some (.int .i64 0) := by simp [Lib.cell_of_heap XB.out]
  have xb_1 : w18.cell? ⟨w7.heap.size, 1, none⟩ = some (.int .i64 zVa.n) := by simp [Lib.cell_of_heap XB.out]
  have xb_2 : w18.cell? ⟨w7.heap.size, 2, none⟩ = some (.int .u32 zVa.s) := by simp [Lib.cell_of_heap XB.out]
  have xb_3 : w18.cell? ⟨w7.heap.size, 3, none⟩ = some (.int .u32 zVa.g) := by simp [Lib.cell_of_heap XB.out]
  have xb_4 : w18.cell? ⟨w7.heap.size, 4, none⟩ = some (.bool false) := by simp [Lib.cell_of_heap XB.out]
  have xb_5 : w18.cell? ⟨w7.heap.size, 5, none⟩ = some (.slice none 0 0) := by simp [Lib.cell_of_heap XB.out]
  go_wp2_with fail
  clear xb_0 xb_1 xb_2 xb_3 xb_4 xb_5
  refine (same_zero w18).mono ?_
  rintro e w19 ⟨rfl, hb⟩
  have hcc := Ch.of_below (Q := fun _ => False) hb
  replace GB := hide (hcc.box GB.out (fun h => h))
  replace HH := hide (hcc.box HH.out (fun h => h))
  replace XA := hide (hcc.box XA.out (fun h => h))
  replace XB := hide (hcc.box XB.out (fun h => h))
  replace XC := hide (hcc.box XC.out (fun h => h))
  replace XD := hide (hcc.box XD.out (fun h => h))
  replace XE := hide (hcc.box XE.out (fun h => h))
  replace HB := hide (HB.out.trans (hcc.below HB.out.size (fun _ _ h => h)))
  clear hcc
  clear hb
  have xc_0 : w19.cell? ⟨w9.heap.size, 0, none⟩ = some (.int .i64 0) := by simp [Lib.cell_of_heap XC.out]
  have xc_1 : w19.cell? ⟨w9.heap.size, 1, none⟩ = some (.int .i64 zVa.n) := by simp [Lib.cell_of_heap XC.out]
  have xc_2 : w19.cell? ⟨w9.heap.size, 2, none⟩ = some (.int .u32 zVa.s) := by simp [Lib.cell_of_heap XC.out]
  have xc_3 : w19.cell? ⟨w9.heap.size, 3, none⟩ = some (.int .u32 zVa.g) := by simp [Lib.cell_of_heap XC.out]
  have xc_4 : w19.cell? ⟨w9.heap.size, 4, none⟩ = some (.bool false) := by simp [Lib.cell_of_heap XC.out]
  have xc_5 : w19.cell? ⟨w9.heap.size, 5, none⟩ = some (.slice none 0 0) := by simp [Lib.cell_of_heap XC.out]
  go_wp2_with fail
  clear xc_0 xc_1 xc_2 xc_3 xc_4 xc_5
  refine (same_zero w19).mono ?_
  rintro e w20 ⟨rfl, hb⟩
  have hcc := Ch.of_below (Q := fun _ => False) hb
  replace GB := hide (hcc.box GB.out (fun h => h))
  replace HH := hide (hcc.box HH.out (fun h => h))
  replace XA := hide (hcc.box XA.out (fun h => h))
  replace XB := hide (hcc.box XB.out (fun h => h))
  replace XC := hide (hcc.box XC.out (fun h => h))
  replace XD := hide (hcc.box XD.out (fun h => h))
  replace XE := hide (hcc.box XE.out (fun h => h))
  replace HB := hide (HB.out.trans (hcc.below HB.out.size (fun _ _ h => h)))
  clear hcc
  clear hb
  have xd_0 : w20.cell? ⟨w11.heap.size, 0, none⟩ = some (.int .i64 0) := by simp [Lib.cell_of_heap XD.out]
  have xd_1 : w20.cell? ⟨w11.heap.size, 1, none⟩ = some (.int .i64 zVa.n) := by simp [Lib.cell_of_heap XD.out]
  have xd_2 : w20.cell? ⟨w11.heap.size, 2, none⟩ = some (.int .u32 zVa.s) := by simp [Lib.cell_of_heap XD.out]
  have xd_3 : w20.cell? ⟨w11.heap.size, 3, none⟩ = some (.int .u32 zVa.g) := by simp [Lib.cell_of_heap XD.out]
  have xd_4 : w20.cell? ⟨w11.heap.size, 4, none⟩ = some (.bool false) := by simp [Lib.cell_of_heap XD.out]
  have xd_5 : w20.cell? ⟨w11.heap.size, 5, none⟩ = some (.slice none 0 0) := by simp [Lib.cell_of_heap XD.out]
  go_wp2_with fail
  clear xd_0 xd_1 xd_2 xd_3 xd_4 xd_5
  refine (same_zero w20).mono ?_
  rintro e w21 ⟨rfl, hb⟩
  have hcc := Ch.of_below (Q := fun _ => False) hb
  replace GB := hide (hcc.box GB.out (fun h => h))
  replace HH := hide (hcc.box HH.out (fun h => h))
  replace XA := hide (hcc.box XA.out (fun h => h))
  replace XB := hide (hcc.box XB.out (fun h => h))
  replace XC := hide (hcc.box XC.out (fun h => h))
  replace XD := hide (hcc.box XD.out (fun h => h))
  replace XE := hide (hcc.box XE.out (fun h => h))
  replace HB := hide (HB.out.trans (hcc.below HB.out.size (fun _ _ h => h)))
  clear hcc
  clear hb
  have xe_0 : w21.cell? ⟨w13.heap.size, 0, none⟩ = some (.int .u32 0) := by simp [Lib.cell_of_heap XE.out]
  have xe_1 : w21.cell? ⟨w13.heap.size, 1, none⟩ = some (.int .u32 0) := by simp [Lib.cell_of_heap XE.out]
  have hh_0 : w21.cell? ⟨w1.heap.size, 0, none⟩ = some (.int .u32 h.1) := by simp [Lib.cell_of_heap HH.out]
  have hh_1 : w21.cell? ⟨w1.heap.size, 1, none⟩ = some (.int .u32 h.2) := by simp [Lib.cell_of_heap HH.out]
  go_wp2_with fail
  clear xe_0 xe_1 hh_0 hh_1
  refine (kind_none w21 h).mono ?_
  rintro e w22 ⟨rfl, hb⟩
  have hcc := Ch.of_below (Q := fun _ => False) hb
  replace GB := hide (hcc.box GB.out (fun h => h))
  replace HH := hide (hcc.box HH.out (fun h => h))
  replace XA := hide (hcc.box XA.out (fun h => h))
  replace XB := hide (hcc.box XB.out (fun h => h))
  replace XC := hide (hcc.box XC.out (fun h => h))
  replace XD := hide (hcc.box XD.out (fun h => h))
  replace XE := hide (hcc.box XE.out (fun h => h))
  replace HB := hide (HB.out.trans (hcc.below HB.out.size (fun _ _ h => h)))
  clear hcc
  clear hb
  go_wp2_with fail
  refine (count_none w22).mono ?_
  rintro e w23 ⟨rfl, hb⟩
  have hcc := Ch.of_below (Q := fun _ => False) hb
  replace GB := hide (hcc.box GB.out (fun h => h))
  replace HH := hide (hcc.box HH.out (fun h => h))
  replace XA := hide (hcc.box XA.out (fun h => h))
  replace XB := hide (hcc.box XB.out (fun h => h))
  replace XC := hide (hcc.box XC.out (fun h => h))
  replace XD := hide (hcc.box XD.out (fun h => h))
  replace XE := hide (hcc.box XE.out (fun h => h))
  replace HB := hide (HB.out.trans (hcc.below HB.out.size (fun _ _ h => h)))
  clear hcc
  clear hb
  go_wp2
  go_ret
  exact ⟨rfl, HB.out⟩

end Go.Proofs.Ytoabhmpakcgloaa

namespace Go.Proofs.Ytoabhmpakcgloaa
open Go.ChangeShapes Go.WideShapes Go.ChangeAt Go.RowKit Go.Deep

theorem own_knob : ownKnob Try.prog.godebug = none := by kernel_rfl
theorem laid_out : laidOutB Try.prog = true := by kernel_rfl
theorem i64_of_wf {n : Int} (h : (Lit.int .i64 n).wf = true) : -9223372036854775808 ≤ n ∧ n ≤ 9223372036854775807 := by
  rw [show (Lit.int .i64 n).wf = (decide (-9223372036854775808 ≤ n) && decide (n ≤ 9223372036854775807)) from rfl, Bool.and_eq_true, decide_eq_true_eq, decide_eq_true_eq] at h
  exact h

theorem u32_of_wf {n : Int} (h : (Lit.int .u32 n).wf = true) : UsW n := by
  rw [show (Lit.int .u32 n).wf = (decide (0 ≤ n) && decide (n ≤ 4294967295)) from rfl, Bool.and_eq_true, decide_eq_true_eq, decide_eq_true_eq] at h
  exact h

section
variable {H : Type} {enc : TypeId × Value → H} {w : World} {base : Nat} {spare : Nat → Bool} {held : Bool} {fuel : Nat} {v : Value} {x : DataW H × List MemPlace}

theorem trod_i64 {t : TypeId} (hu : Try.prog.underlying t = some (.int .i64)) (h : DataW.trod enc Try.prog w base spare held fuel t [v] = some x) : ∃ z, v = .int .i64 z ∧ -9223372036854775808 ≤ z ∧ z ≤ 9223372036854775807 := by
  cases fuel with
  | zero => simp [DataW.trod] at h
  | succ n =>
    simp only [DataW.trod, hu] at h
    cases v <;> simp at h
    rename_i k b
    obtain ⟨⟨rfl, h2⟩, _⟩ := h
    exact ⟨b, rfl, i64_of_wf h2⟩
theorem trod_u32 {t : TypeId} (hu : Try.prog.underlying t = some (.int .u32)) (h : DataW.trod enc Try.prog w base spare held fuel t [v] = some x) : ∃ z, v = .int .u32 z ∧ UsW z := by
  cases fuel with
  | zero => simp [DataW.trod] at h
  | succ n =>
    simp only [DataW.trod, hu] at h
    cases v <;> simp at h
    rename_i k b
    obtain ⟨⟨rfl, h2⟩, _⟩ := h
    exact ⟨b, rfl, u32_of_wf h2⟩
theorem trod_bool (h : DataW.trod enc Try.prog w base spare held fuel 4 [v] = some x) : ∃ s, v = .bool s := by
  cases fuel with
  | zero => simp [DataW.trod] at h
  | succ n =>
    simp only [DataW.trod, Try.underlying4] at h
    cases v <;> simp at h
    rename_i s
    exact ⟨s, rfl⟩
end

theorem ceInt : Try.prog.cellsOf 3 = 1 := by kernel_rfl
theorem ceSide : Try.prog.cellsOf 58 = 1 := by kernel_rfl
theorem ceBool : Try.prog.cellsOf 4 = 1 := by kernel_rfl
theorem ceU32 : Try.prog.cellsOf 33 = 1 := by kernel_rfl
theorem ceHd : Try.prog.cellsOf 35 = 2 := by kernel_rfl
theorem ceVal : Try.prog.cellsOf 43 = 3 := by kernel_rfl
theorem ceI64 : Try.prog.cellsOf 2 = 1 := by kernel_rfl
theorem ceRow : Try.prog.cellsOf 60 = 3 := by kernel_rfl

section
variable {H : Type} {enc : TypeId × Value → H} {W : World} {spare : Nat → Bool} {held : Bool}

set_option maxRecDepth 100000 in
theorem hd_in {n : Nat} {cs : List Value} {x : DataW H × List MemPlace} (hl : cs.length = 2) (h : DataW.trod enc Try.prog W 0 spare held n 35 cs = some x) : ∃ s g, cs = [.int .u32 s, .int .u32 g] ∧ UsW s ∧ UsW g := by
  obtain ⟨xs, k, hk, hxy, hlen, hxl, hf⟩ := DataW.trod_struct Try.underlying35 h
  match xs, hxl, cs, hl with
  | [y0, y1], _, [v0, v1], _ =>
    have g0 := hf 0 _ rfl
    have g1 := hf 1 _ rfl
    simp [ceU32] at g0 g1
    obtain ⟨z0, rfl, u0⟩ := trod_u32 Try.underlying33 g0
    obtain ⟨z1, rfl, u1⟩ := trod_u32 Try.underlying33 g1
    exact ⟨z0, z1, rfl, u0, u1⟩

set_option maxRecDepth 100000 in
theorem row_in {n : Nat} {cs : List Value} {x : DataW H × List MemPlace} (hl : cs.length = 3) (h : DataW.trod enc Try.prog W 0 spare held n 60 cs = some x) : ∃ s g d, cs = [.int .u32 s, .int .u32 g, .int .i64 d] ∧ UsW s ∧ UsW g ∧ I64 d := by
  obtain ⟨xs, k, hk, hxy, hlen, hxl, hf⟩ := DataW.trod_struct Try.underlying60 h
  match xs, hxl, cs, hl with
  | [y0, y1], _, [v0, v1, v2], _ =>
    have g0 := hf 0 _ rfl
    have g1 := hf 1 _ rfl
    simp [ceHd, ceSide] at g0 g1
    obtain ⟨s, g, e, us, ug⟩ := hd_in rfl g0
    cases e
    obtain ⟨z1, rfl, b1, b2⟩ := trod_i64 Try.underlying58 g1
    exact ⟨s, g, z1, rfl, us, ug, b1, b2⟩
end

set_option maxRecDepth 100000 in
theorem handle_in {H : Type} {enc : TypeId × Value → H} {W : World} {base : Nat} {v : Value} {d : DataW H} {ps : List MemPlace} (hv : Value.okWide Try.prog W .any base 35 v) (h : DataW.Trod enc Try.prog W 0 (fun _ => true) true 35 v d ps) : ∃ s g, v = .agg #[.int .u32 s, .int .u32 g] := by
  obtain ⟨cs, rfl, hsz⟩ := okWide_struct Try.underlying35 hv
  rw [ceHd] at hsz
  obtain ⟨n, hn⟩ := h
  obtain ⟨cl⟩ := cs
  obtain ⟨s, g, e, _, _⟩ := hd_in (cs := cl) hsz hn
  subst e
  exact ⟨s, g, rfl⟩

set_option maxRecDepth 100000 in
theorem rowv_in {H : Type} {enc : TypeId × Value → H} {W : World} {base : Nat} {v : Value} {d : DataW H} {ps : List MemPlace} (hv : Value.okWide Try.prog W .any base 60 v) (h : DataW.Trod enc Try.prog W 0 (fun _ => true) true 60 v d ps) : ∃ s g d, v = .agg #[.int .u32 s, .int .u32 g, .int .i64 d] := by
  obtain ⟨cs, rfl, hsz⟩ := okWide_struct Try.underlying60 hv
  rw [ceRow] at hsz
  obtain ⟨n, hn⟩ := h
  obtain ⟨cl⟩ := cs
  obtain ⟨s, g, d, e, _⟩ := row_in (cs := cl) hsz hn
  subst e
  exact ⟨s, g, d, rfl⟩

section
variable {H : Type} {enc : TypeId × Value → H} {W : World} {spare : Nat → Bool} {held : Bool}

set_option maxRecDepth 100000 in
theorem val_in {n : Nat} {cs : List Value} {x : DataW H × List MemPlace} (hl : cs.length = 3) (h : DataW.trod enc Try.prog W 0 spare held n 43 cs = some x) : ∃ d s g, cs = [.int .i64 d, .int .u32 s, .int .u32 g] ∧ I64 d ∧ UsW s ∧ UsW g := by
  obtain ⟨xs, k, hk, hxy, hlen, hxl, hf⟩ := DataW.trod_struct Try.underlying43 h
  match xs, hxl, cs, hl with
  | [y0, y1], _, [v0, v1, v2], _ =>
    have g0 := hf 0 _ rfl
    have g1 := hf 1 _ rfl
    simp [ceHd, ceI64] at g0 g1
    obtain ⟨z0, rfl, b1, b2⟩ := trod_i64 Try.underlying2 g0
    obtain ⟨s, g, e, us, ug⟩ := hd_in rfl g1
    cases e
    exact ⟨z0, s, g, rfl, ⟨b1, b2⟩, us, ug⟩
end

set_option maxRecDepth 100000 in
theorem valv_in {H : Type} {enc : TypeId × Value → H} {W : World} {base : Nat} {v : Value} {d : DataW H} {ps : List MemPlace} (hv : Value.okWide Try.prog W .any base 43 v) (h : DataW.Trod enc Try.prog W 0 (fun _ => true) true 43 v d ps) : ∃ s g d, v = .agg #[.int .i64 s, .int .u32 g, .int .u32 d] := by
  obtain ⟨cs, rfl, hsz⟩ := okWide_struct Try.underlying43 hv
  rw [ceVal] at hsz
  obtain ⟨n, hn⟩ := h
  obtain ⟨cl⟩ := cs
  obtain ⟨s, g, d, e, _⟩ := val_in (cs := cl) hsz hn
  subst e
  exact ⟨s, g, d, rfl⟩

end Go.Proofs.Ytoabhmpakcgloaa

namespace Go.Proofs.Ytoabhmpakcgloaa
open Go.ChangeShapes Go.WideShapes Go.ChangeAt Go.RowKit Go.Deep

set_option maxRecDepth 100000 in
theorem nil_lifted (os : Os) (started : os.Started) (H : Type) (enc : TypeId × Value → H) :
    ReturnsInHanded {} Try.checked os 5 .any (Rows.locksNilSpec.pre6 enc Try.prog Try.f5 Rows.locksNilRow.domain false) (Rows.locksNilSpec.post enc Try.prog Try.f5 false true false false) := by
  refine returnsInHanded_of_change (C := Try.checked) own_knob started (by kernel_rfl) Try.func5
    (ChangeSpec.witness6 (enc := enc) (C := Try.checked) false ⟨#[], #[.agg #[.int .u32 0, .int .u32 0], .agg #[.int .u32 0, .int .u32 0], .int .i64 0], []⟩ 8 (by kernel_rfl) (by kernel_rfl) (by kernel_rfl) (by kernel_rfl)) ?_
  intro W base args ds gs before hval0 hW _ _
  have hval : ∀ (j : Nat) t v, Try.f5.params[j]? = some t → args[j]? = some v → Value.okWide Try.prog W .any base t v := hval0
  have hW' := hW
  obtain ⟨p, q, hA0, hV, rfl, hfz, hnd⟩ := hW
  have hA : DataW.TrodAll enc Try.prog W 0 (fun _ => true) true Try.f5.params.toList args.toList ds p := hA0
  rw [Try.params5] at hA hval
  obtain ⟨v0, vs0, d0, ds0, p0, q0, hargs, rfl, rfl, h0, r0⟩ := trodAll_cons hA
  obtain ⟨v1, vs1, d1, ds1, p1, q1, rfl, rfl, rfl, h1, r1⟩ := trodAll_cons r0
  obtain ⟨v2, vs2, d2, ds2, p2, q2, rfl, rfl, rfl, h2, r2⟩ := trodAll_cons r1
  obtain ⟨rfl, rfl, rfl⟩ := trodAll_nil r2
  obtain rfl : args = #[v0, v1, v2] := by cases args; simp_all
  obtain ⟨rfl, rfl⟩ := trodVars_none hV
  obtain ⟨s0, g0, rfl⟩ := handle_in (hval 0 35 v0 rfl rfl) h0
  obtain ⟨s1, g1, rfl⟩ := handle_in (hval 1 35 v1 rfl rfl) h1
  obtain ⟨a0, rfl, rfl, rfl, w0⟩ := open_int Try.underlying2 (hval 2 2 v2 rfl rfl) h2
  have lt0 : ∀ x ∈ p0, x.block < W.heap.size := by obtain ⟨m, hm⟩ := h0; exact DataW.trod_lt m _ _ _ hm
  have lt1 : ∀ x ∈ p1, x.block < W.heap.size := by obtain ⟨m, hm⟩ := h1; exact DataW.trod_lt m _ _ _ hm
  clear hA0 hval0
  refine (nil_is W (s0, g0) (s1, g1) a0).mono fun e W' ⟨he, bel⟩ => ?_
  subst he
  exact ⟨_, rfl, _, _, _, [], _, [], hW', trodAll_mk1 (shut_bool Try.underlying4 _), (trodAll_cons_mk (Below.trod laid_out (by kernel_rfl) (of_decide_eq_true (by kernel_rfl)) h0 bel lt0) (trodAll_cons_mk (Below.trod laid_out (by kernel_rfl) (of_decide_eq_true (by kernel_rfl)) h1 bel lt1) (trodAll_cons_mk (shut_int Try.underlying2 w0) trodAll_mk0))), rfl, bel.frame _, fun h => by cases h⟩

theorem locksNil_holds : Rows.LocksNilSaid :=
  OpenClaim.holds_of_wide 5 Try.f5 rfl rfl rfl rfl rfl rfl rfl ⟨rfl, rfl, rfl, rfl, rfl⟩ rfl rfl rfl rfl rfl (by kernel_rfl) Try.func5 (by kernel_rfl)
    (of_decide_eq_true (by kernel_rfl)) (by unfold Func.isWrapper; first | (rw [if_pos (by decide +kernel)]; kernel_rfl) | (rw [if_neg (by decide +kernel)]; exact ⟨rfl, rfl⟩))
    (fun os started H enc _ => nil_lifted os started H enc)

#print axioms locksNil_holds
end Go.Proofs.Ytoabhmpakcgloaa
