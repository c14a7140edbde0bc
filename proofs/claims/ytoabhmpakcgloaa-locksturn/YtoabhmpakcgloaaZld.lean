/- Layer 16: the law's awake. Layer 16: who waits, on lists: the rows of some handles, one wait each. Layer 16: LocksJoin: the regions that ask. Layer 16: the laws' worlds: what they pick, what came in, the line of who waits. -/
import Derived.Test.YtoabhmpakcgloaaZlc
namespace Go.Proofs.Ytoabhmpakcgloaa
open Go.RowKit

abbrev kaw0 : Oper := { dst := some 77, op := Op.move (Operand.tmp 13), type := 4, pos := "law.go:39", after := #[], guard := none }
abbrev kaw1 : Oper := { dst := some 78, op := Op.move (Operand.tmp 77), type := 4, pos := "law.go:39", after := #[{ on := 0, ground := Ground.data }], guard := none }
abbrev kaw2 : Oper := { dst := some 79, op := Op.fieldAddr 46 (Operand.tmp 5) 0, type := 0, pos := "law.go:39", after := #[{ on := 1, ground := Ground.guard }], guard := some (1, true) }
abbrev kaw3 : Oper := { dst := some 80, op := Op.load 41 (Operand.tmp 79), type := 41, pos := "law.go:39", after := #[{ on := 2, ground := Ground.data }, { on := 1, ground := Ground.guard }], guard := some (1, true) }
abbrev kaw4 : Oper := { dst := some 81, op := Op.binOp BinOp.eql 41 (Operand.tmp 80) (Operand.const (Value.int IntKind.i64 0)) 41, type := 4, pos := "law.go:39", after := #[{ on := 3, ground := Ground.data }, { on := 1, ground := Ground.guard }], guard := some (1, true) }
abbrev kaw5 : Oper := { dst := some 82, op := Op.pick (Operand.tmp 78) (Operand.tmp 81) (Operand.const (Value.bool false)), type := 4, pos := "law.go:39", after := #[{ on := 1, ground := Ground.data }, { on := 4, ground := Ground.data }], guard := none }
abbrev kaw6 : Oper := { dst := some 83, op := Op.move (Operand.tmp 82), type := 4, pos := "law.go:39", after := #[{ on := 5, ground := Ground.data }, { on := 1, ground := Ground.chain }], guard := none }
abbrev kaw7 : Oper := { dst := some 84, op := Op.fieldAddr 46 (Operand.tmp 7) 0, type := 0, pos := "law.go:39", after := #[{ on := 6, ground := Ground.guard }], guard := some (6, true) }
abbrev kaw8 : Oper := { dst := some 85, op := Op.load 41 (Operand.tmp 84), type := 41, pos := "law.go:39", after := #[{ on := 7, ground := Ground.data }, { on := 6, ground := Ground.guard }], guard := some (6, true) }
abbrev kaw9 : Oper := { dst := some 86, op := Op.binOp BinOp.eql 41 (Operand.tmp 85) (Operand.const (Value.int IntKind.i64 1)) 41, type := 4, pos := "law.go:39", after := #[{ on := 8, ground := Ground.data }, { on := 6, ground := Ground.guard }], guard := some (6, true) }
abbrev kaw10 : Oper := { dst := some 87, op := Op.pick (Operand.tmp 83) (Operand.tmp 86) (Operand.const (Value.bool false)), type := 4, pos := "law.go:39", after := #[{ on := 6, ground := Ground.data }, { on := 9, ground := Ground.data }], guard := none }
abbrev kaw11 : Oper := { dst := some 88, op := Op.move (Operand.tmp 87), type := 4, pos := "law.go:39", after := #[{ on := 10, ground := Ground.data }, { on := 6, ground := Ground.chain }], guard := none }
abbrev kaw12 : Oper := { dst := some 89, op := Op.fieldAddr 46 (Operand.tmp 9) 0, type := 0, pos := "law.go:39", after := #[{ on := 11, ground := Ground.guard }], guard := some (11, true) }
abbrev kaw13 : Oper := { dst := some 90, op := Op.load 41 (Operand.tmp 89), type := 41, pos := "law.go:39", after := #[{ on := 12, ground := Ground.data }, { on := 11, ground := Ground.guard }], guard := some (11, true) }
abbrev kaw14 : Oper := { dst := some 91, op := Op.binOp BinOp.eql 41 (Operand.tmp 90) (Operand.const (Value.int IntKind.i64 0)) 41, type := 4, pos := "law.go:39", after := #[{ on := 13, ground := Ground.data }, { on := 11, ground := Ground.guard }], guard := some (11, true) }
abbrev kaw15 : Oper := { dst := some 92, op := Op.pick (Operand.tmp 88) (Operand.tmp 91) (Operand.const (Value.bool false)), type := 4, pos := "law.go:39", after := #[{ on := 11, ground := Ground.data }, { on := 14, ground := Ground.data }], guard := none }
abbrev kaw16 : Oper := { dst := some 93, op := Op.move (Operand.tmp 92), type := 4, pos := "law.go:39", after := #[{ on := 15, ground := Ground.data }, { on := 11, ground := Ground.chain }], guard := none }
abbrev kaw17 : Oper := { dst := some 94, op := Op.fieldAddr 46 (Operand.tmp 9) 3, type := 0, pos := "law.go:39", after := #[{ on := 16, ground := Ground.guard }], guard := some (16, true) }
abbrev kaw18 : Oper := { dst := some 95, op := Op.load 44 (Operand.tmp 94), type := 44, pos := "law.go:39", after := #[{ on := 17, ground := Ground.data }, { on := 16, ground := Ground.guard }], guard := some (16, true) }
abbrev kaw19 : Oper := { dst := some 96, op := Op.call { callee := Callee.builtin Builtin.len, args := #[Operand.tmp 95], argTypes := #[44] }, type := 3, pos := "law.go:39", after := #[{ on := 18, ground := Ground.data }, { on := 16, ground := Ground.guard }], guard := some (16, true) }
abbrev kaw20 : Oper := { dst := some 97, op := Op.binOp BinOp.eql 3 (Operand.tmp 96) (Operand.const (Value.int IntKind.i64 1)) 3, type := 4, pos := "law.go:39", after := #[{ on := 19, ground := Ground.data }, { on := 16, ground := Ground.guard }], guard := some (16, true) }
abbrev kaw21 : Oper := { dst := some 98, op := Op.pick (Operand.tmp 93) (Operand.tmp 97) (Operand.const (Value.bool false)), type := 4, pos := "law.go:39", after := #[{ on := 16, ground := Ground.data }, { on := 20, ground := Ground.data }], guard := none }
abbrev kaw22 : Oper := { dst := some 99, op := Op.move (Operand.tmp 98), type := 4, pos := "law.go:39", after := #[{ on := 21, ground := Ground.data }, { on := 16, ground := Ground.chain }], guard := none }
abbrev kaw23 : Oper := { dst := some 100, op := Op.fieldAddr 46 (Operand.tmp 9) 3, type := 0, pos := "law.go:39", after := #[{ on := 22, ground := Ground.guard }], guard := some (22, true) }
abbrev kaw24 : Oper := { dst := some 101, op := Op.load 44 (Operand.tmp 100), type := 44, pos := "law.go:39", after := #[{ on := 23, ground := Ground.data }, { on := 22, ground := Ground.guard }], guard := some (22, true) }
abbrev kaw25 : Oper := { dst := some 102, op := Op.indexAddr 44 (Operand.tmp 101) (Operand.const (Value.int IntKind.i64 0)), type := 0, pos := "law.go:39", after := #[{ on := 24, ground := Ground.data }, { on := 22, ground := Ground.guard }], guard := some (22, true) }
abbrev kaw26 : Oper := { dst := some 103, op := Op.fieldAddr 53 (Operand.tmp 102) 0, type := 0, pos := "law.go:39", after := #[{ on := 25, ground := Ground.data }, { on := 22, ground := Ground.guard }], guard := some (22, true) }
abbrev kaw27 : Oper := { dst := some 104, op := Op.load 35 (Operand.tmp 103), type := 35, pos := "law.go:39", after := #[{ on := 26, ground := Ground.data }, { on := 22, ground := Ground.guard }], guard := some (22, true) }
abbrev kaw28 : Oper := { dst := some 105, op := Op.call { callee := Callee.value (Operand.func 10), args := #[Operand.const (Value.int IntKind.i64 6)], argTypes := #[3] }, type := 35, pos := "law.go:39", after := #[{ on := 22, ground := Ground.chain }, { on := 22, ground := Ground.guard }], guard := some (22, true) }
abbrev kaw29 : Oper := { dst := some 106, op := Op.binOp BinOp.eql 35 (Operand.tmp 104) (Operand.tmp 105) 35, type := 4, pos := "law.go:39", after := #[{ on := 27, ground := Ground.data }, { on := 28, ground := Ground.data }, { on := 22, ground := Ground.guard }], guard := some (22, true) }
abbrev kaw30 : Oper := { dst := some 107, op := Op.pick (Operand.tmp 99) (Operand.tmp 106) (Operand.const (Value.bool false)), type := 4, pos := "law.go:39", after := #[{ on := 22, ground := Ground.data }, { on := 29, ground := Ground.data }], guard := none }
abbrev kaw31 : Oper := { dst := some 108, op := Op.move (Operand.tmp 107), type := 4, pos := "law.go:39", after := #[{ on := 30, ground := Ground.data }, { on := 28, ground := Ground.chain }], guard := none }
abbrev kaw32 : Oper := { dst := some 109, op := Op.load 35 (Operand.tmp 11), type := 35, pos := "law.go:39", after := #[{ on := 31, ground := Ground.guard }], guard := some (31, true) }
abbrev kaw33 : Oper := { dst := some 110, op := Op.call { callee := Callee.value (Operand.func 10), args := #[Operand.const (Value.int IntKind.i64 6)], argTypes := #[3] }, type := 35, pos := "law.go:39", after := #[{ on := 31, ground := Ground.chain }, { on := 31, ground := Ground.guard }], guard := some (31, true) }
abbrev kaw34 : Oper := { dst := some 111, op := Op.binOp BinOp.eql 35 (Operand.tmp 109) (Operand.tmp 110) 35, type := 4, pos := "law.go:39", after := #[{ on := 32, ground := Ground.data }, { on := 33, ground := Ground.data }, { on := 31, ground := Ground.guard }], guard := some (31, true) }
abbrev kaw35 : Oper := { dst := some 112, op := Op.pick (Operand.tmp 108) (Operand.tmp 111) (Operand.const (Value.bool false)), type := 4, pos := "law.go:39", after := #[{ on := 31, ground := Ground.data }, { on := 34, ground := Ground.data }], guard := none }
abbrev kaw36 : Oper := { dst := some 113, op := Op.move (Operand.tmp 112), type := 4, pos := "law.go:39", after := #[{ on := 35, ground := Ground.data }, { on := 33, ground := Ground.chain }], guard := none }
abbrev kaw37 : Oper := { dst := some 114, op := Op.move (Operand.tmp 1), type := 24, pos := "law.go:39", after := #[{ on := 36, ground := Ground.guard }], guard := some (36, true) }
abbrev kaw38 : Oper := { dst := some 115, op := Op.call { callee := Callee.value (Operand.func 19), args := #[Operand.tmp 114], argTypes := #[24] }, type := 3, pos := "law.go:39", after := #[{ on := 37, ground := Ground.data }, { on := 36, ground := Ground.chain }, { on := 36, ground := Ground.guard }], guard := some (36, true) }
abbrev kaw39 : Oper := { dst := some 116, op := Op.binOp BinOp.eql 3 (Operand.tmp 115) (Operand.const (Value.int IntKind.i64 0)) 3, type := 4, pos := "law.go:39", after := #[{ on := 38, ground := Ground.data }, { on := 36, ground := Ground.guard }], guard := some (36, true) }
abbrev kaw40 : Oper := { dst := some 117, op := Op.pick (Operand.tmp 113) (Operand.tmp 116) (Operand.const (Value.bool false)), type := 4, pos := "law.go:39", after := #[{ on := 36, ground := Ground.data }, { on := 39, ground := Ground.data }], guard := none }
abbrev kaw41 : Oper := { dst := some 0, op := Op.assign (Operand.tmp 117), type := 4, pos := "law.go:39", after := #[{ on := 40, ground := Ground.data }, { on := 38, ground := Ground.chain }, { on := 0, ground := Ground.phase }, { on := 1, ground := Ground.phase }, { on := 2, ground := Ground.phase }, { on := 3, ground := Ground.phase }, { on := 4, ground := Ground.phase }, { on := 5, ground := Ground.phase }, { on := 6, ground := Ground.phase }, { on := 7, ground := Ground.phase }, { on := 8, ground := Ground.phase }, { on := 9, ground := Ground.phase }, { on := 10, ground := Ground.phase }, { on := 11, ground := Ground.phase }, { on := 12, ground := Ground.phase }, { on := 13, ground := Ground.phase }, { on := 14, ground := Ground.phase }, { on := 15, ground := Ground.phase }, { on := 16, ground := Ground.phase }, { on := 17, ground := Ground.phase }, { on := 18, ground := Ground.phase }, { on := 19, ground := Ground.phase }, { on := 20, ground := Ground.phase }, { on := 21, ground := Ground.phase }, { on := 22, ground := Ground.phase }, { on := 23, ground := Ground.phase }, { on := 24, ground := Ground.phase }, { on := 25, ground := Ground.phase }, { on := 26, ground := Ground.phase }, { on := 27, ground := Ground.phase }, { on := 28, ground := Ground.phase }, { on := 29, ground := Ground.phase }, { on := 30, ground := Ground.phase }, { on := 31, ground := Ground.phase }, { on := 32, ground := Ground.phase }, { on := 33, ground := Ground.phase }, { on := 34, ground := Ground.phase }, { on := 35, ground := Ground.phase }, { on := 36, ground := Ground.phase }, { on := 37, ground := Ground.phase }, { on := 38, ground := Ground.phase }, { on := 39, ground := Ground.phase }, { on := 40, ground := Ground.phase }], guard := none }

theorem res_hdl (tm : Array Value) (A : Nat) (Z : World) (a b : Int) (h2 : tm[2]?.getD undef = .pointer (some ⟨A, 0, none⟩)) (hb : Z.heap[A]? = some (.cells #[.int .u32 a, .int .u32 b] 35 (0, 0))) :
    (results Try.f10 tm).run Try.prog Z = .ok (hvW a b) Z := by
  have e := Lib.cell_of_heap hb
  simp [results, Try.f10, h2, go_sem, e]
theorem lhandle_is (w : World) {n : Int} (h0 : 0 ≤ n) (h1 : n < 4294967296) : Calls Try.prog 10 #[.int .i64 n] w fun e w' => e = .returned (hvW n 1) ∧ Below w.heap.size w w' := by
  have hw : IntKind.u32.wrap n = n := by rw [show IntKind.u32.wrap n = n % 4294967296 from rfl]; omega
  go_enter Try.func10, Try.ntmps10
  go_wp2
  refine bodyPost_ret (v := hvW n 1) (res_hdl _ w.heap.size _ n 1 rfl (heap_new w _)) rfl ⟨rfl, below1 _ _⟩
theorem us_n {n : Int} (h : 0 ≤ n) (h1 : n ≤ 100) : UsW n := ⟨h, by omega⟩
theorem wp_thenC {P : Program} {c : Code} {K : Act → World → Prop} {Q : Exit → Act → World → Prop} {a : Act} {w : World} (h : c.wp P (Exit.then K (fun _ _ _ => False)) a w) : c.wp P (Exit.then K Q) a w :=
  Code.wp_mono (fun e a w h => by cases e <;> first | exact h | exact (h : False).elim) h

def aL : List Wt := putW [] 1 1 3 6 1 0 0 0 0
theorem aw_make : ([] : List Lk) ++ [frL (1, 1) 2] = [⟨(1, 1), true, (0, 0), 0⟩] := rfl
theorem aw_lock1 : askK [] ([] ++ [frL (1, 1) 2]) (5, 1) (1, 1) 2 = (0, 0, [], [⟨(1, 1), true, (5, 1), 0⟩]) := by rfl
theorem aw_lock2 : askK [] [⟨(1, 1), true, (5, 1), 0⟩] (6, 1) (1, 1) 2 = (1, 0, aL, [⟨(1, 1), true, (5, 1), 0⟩]) := by rfl
theorem aw_unlock : unlK aL [⟨(1, 1), true, (5, 1), 0⟩] (1, 1) = (0, 0, [⟨6, 1, 0, zVa, false, 0⟩], leaW aL 6 1, [⟨(1, 1), true, (6, 1), 0⟩]) := by rfl
theorem aw_holder : hdL (fnl [⟨(1, 1), true, (6, 1), 0⟩] (1, 1)) = (6, 1) := by rfl
theorem aw_left : cntW (leaW aL 6 1) = 0 := by rfl
theorem aw_ok : WtOk aL := by
  intro t ht
  unfold aL at ht
  rw [show putW [] 1 1 3 6 1 0 0 0 0 = [⟨⟨1, 1, 6, 1, 1, 1, 3, 0, 0, 0, 0⟩, false⟩] from rfl] at ht
  rw [List.mem_singleton.1 ht]
  exact ⟨us_n (by decide) (by decide), us_n (by decide) (by decide), by constructor <;> decide, by constructor <;> decide, us_n (by decide) (by decide), us_n (by decide) (by decide)⟩

set_option maxRecDepth 100000 in
set_option maxHeartbeats 16000000 in
theorem awake16_is (w : World) : Calls Try.prog 6 #[] w fun e w' => e = .returned (.bool true) ∧ Below w.heap.size w w' := by
  go_enter Try.func6, Try.ntmps6
  have HB := hide (Below.refl w.heap.size w)
  go_wp2_with fail
  refine (face.new w).mono ?_
  rintro e w1 ⟨bp, F, rfl, hp1, hb⟩
  have hcc := Ch.of_below (Q := fun _ => False) hb
  replace HB := hide (HB.out.trans (hcc.below HB.out.size (fun _ _ h => h)))
  clear hcc
  clear hb
  go_wp2_with fail
  refine (lw_new hp1 HB.out.size).mono ?_
  rintro e w2 ⟨c, G0, rfl, hl, hb⟩
  clear hp1
  have HL := hide hl
  clear hl
  have hcc := Ch.of_below (Q := fun _ => False) hb
  replace HB := hide (HB.out.trans (hcc.below HB.out.size (fun _ _ h => h)))
  clear hcc
  clear hb
  go_wp2_with fail
  refine (lhandle_is w2 (n := 1) (by decide) (by decide)).mono ?_
  rintro e w3 ⟨rfl, hb⟩
  have hcc := Ch.of_below (Q := fun _ => False) hb
  replace HL := hide (HL.out.quiet hcc)
  replace HB := hide (HB.out.trans (hcc.below HB.out.size (fun _ _ h => h)))
  clear hcc
  clear hb
  go_wp2_with fail
  refine (lw_make HL.out (x := (1, 1)) rfl (k := 2) (by decide) rfl).mono ?_
  rintro e w4 ⟨rfl, G4, hl, hcc, hd⟩
  replace HB := hide (HB.out.trans (hcc.below HB.out.size (fun y hy e => by have := (HL.out.foot e).1; omega)))
  replace HL := hide hl
  clear hl hcc hd
  go_wp2_with fail
  refine (lhandle_is w4 (n := 5) (by decide) (by decide)).mono ?_
  rintro e w5 ⟨rfl, hb⟩
  have hcc := Ch.of_below (Q := fun _ => False) hb
  replace HL := hide (HL.out.quiet hcc)
  replace HB := hide (HB.out.trans (hcc.below HB.out.size (fun _ _ h => h)))
  clear hcc
  clear hb
  go_wp2_with fail
  refine (lhandle_is w5 (n := 1) (by decide) (by decide)).mono ?_
  rintro e w6 ⟨rfl, hb⟩
  have hcc := Ch.of_below (Q := fun _ => False) hb
  replace HL := hide (HL.out.quiet hcc)
  replace HB := hide (HB.out.trans (hcc.below HB.out.size (fun _ _ h => h)))
  clear hcc
  clear hb
  go_wp2_with fail
  refine (lw_lock HL.out (by decide) (g := (5, 1)) (x := (1, 1)) (us_n (by decide) (by decide)) (us_n (by decide) (by decide)) (us_n (by decide) (by decide)) (us_n (by decide) (by decide)) ).mono ?_
  rintro e w7 ⟨rfl, G7, hl, hcc, hd⟩
  replace HB := hide (HB.out.trans (hcc.below HB.out.size (fun y hy e => by have := (HL.out.foot e).1; omega)))
  rw [aw_lock1] at hl
  replace HL := hide hl
  clear hl hcc hd
  rw [aw_lock1]
  go_wp2_with fail
  have hnn := heap_new w7 (.cells #[.int .i64 0, .int .i64 zVa.n, .int .u32 zVa.s, .int .u32 zVa.g, .bool false, .slice none 0 0] 46)
  have hca := Ch.alloc (Q := fun _ => False) w7 (.cells #[.int .i64 0, .int .i64 zVa.n, .int .u32 zVa.s, .int .u32 zVa.g, .bool false, .slice none 0 0] 46)
  generalize w7.alloc (.cells #[.int .i64 0, .int .i64 zVa.n, .int .u32 zVa.s, .int .u32 zVa.g, .bool false, .slice none 0 0] 46) = w8 at hnn hca ⊢
  have X5 := hide hnn
  clear hnn
  have hcc := hca
  replace HL := hide (HL.out.quiet hcc)
  replace HB := hide (HB.out.trans (hcc.below HB.out.size (fun _ _ h => h)))
  clear hcc
  clear hca
  refine (lhandle_is w8 (n := 6) (by decide) (by decide)).mono ?_
  rintro e w9 ⟨rfl, hb⟩
  have hcc := Ch.of_below (Q := fun _ => False) hb
  replace X5 := hide (hcc.box X5.out (fun h => h))
  replace HL := hide (HL.out.quiet hcc)
  replace HB := hide (HB.out.trans (hcc.below HB.out.size (fun _ _ h => h)))
  clear hcc
  clear hb
  go_wp2_with fail
  refine (lhandle_is w9 (n := 1) (by decide) (by decide)).mono ?_
  rintro e w10 ⟨rfl, hb⟩
  have hcc := Ch.of_below (Q := fun _ => False) hb
  replace X5 := hide (hcc.box X5.out (fun h => h))
  replace HL := hide (HL.out.quiet hcc)
  replace HB := hide (HB.out.trans (hcc.below HB.out.size (fun _ _ h => h)))
  clear hcc
  clear hb
  go_wp2_with fail
  refine (lw_lock HL.out (by decide) (g := (6, 1)) (x := (1, 1)) (us_n (by decide) (by decide)) (us_n (by decide) (by decide)) (us_n (by decide) (by decide)) (us_n (by decide) (by decide)) ).mono ?_
  rintro e w11 ⟨rfl, G11, hl, hcc, hd⟩
  replace X5 := hide (hcc.box X5.out (HL.out.nbox X5.out (by decide) (by decide) (by decide) (by decide) (by decide)))
  replace HB := hide (HB.out.trans (hcc.below HB.out.size (fun y hy e => by have := (HL.out.foot e).1; omega)))
  rw [aw_lock2] at hl
  replace HL := hide hl
  clear hl hcc hd
  rw [aw_lock2]
  go_wp2_with fail
  have hnn := heap_new w11 (.cells #[.int .i64 1, .int .i64 zVa.n, .int .u32 zVa.s, .int .u32 zVa.g, .bool false, .slice none 0 0] 46)
  have hca := Ch.alloc (Q := fun _ => False) w11 (.cells #[.int .i64 1, .int .i64 zVa.n, .int .u32 zVa.s, .int .u32 zVa.g, .bool false, .slice none 0 0] 46)
  generalize w11.alloc (.cells #[.int .i64 1, .int .i64 zVa.n, .int .u32 zVa.s, .int .u32 zVa.g, .bool false, .slice none 0 0] 46) = w12 at hnn hca ⊢
  have X7 := hide hnn
  clear hnn
  have hcc := hca
  replace X5 := hide (hcc.box X5.out (fun h => h))
  replace HL := hide (HL.out.quiet hcc)
  replace HB := hide (HB.out.trans (hcc.below HB.out.size (fun _ _ h => h)))
  clear hcc
  clear hca
  refine (lhandle_is w12 (n := 1) (by decide) (by decide)).mono ?_
  rintro e w13 ⟨rfl, hb⟩
  have hcc := Ch.of_below (Q := fun _ => False) hb
  replace X5 := hide (hcc.box X5.out (fun h => h))
  replace X7 := hide (hcc.box X7.out (fun h => h))
  replace HL := hide (HL.out.quiet hcc)
  replace HB := hide (HB.out.trans (hcc.below HB.out.size (fun _ _ h => h)))
  clear hcc
  clear hb
  go_wp2_with fail
  refine (lw_unlock HL.out (by decide) aw_ok (x := (1, 1)) (us_n (by decide) (by decide)) (us_n (by decide) (by decide)) ).mono ?_
  rintro e w14 ⟨sv, rfl, hr, G14, hl, hcc, hd⟩
  replace X5 := hide (hcc.box X5.out (HL.out.nbox X5.out (by decide) (by decide) (by decide) (by decide) (by decide)))
  replace X7 := hide (hcc.box X7.out (HL.out.nbox X7.out (by decide) (by decide) (by decide) (by decide) (by decide)))
  replace HB := hide (HB.out.trans (hcc.below HB.out.size (fun y hy e => by have := (HL.out.foot e).1; omega)))
  rw [aw_unlock] at hl hr
  obtain ⟨nb, cc, cur, rfl, -, -, -, hnb, -, hcell⟩ := hr.at wkL_len (by decide)
  have HK := hide (show cur[0]? = some (.int .u32 6) ∧ cur[1]? = some (.int .u32 1) from ⟨by rw [← Lib.cell_of_heap hnb 0]; exact hcell 0 (by decide) 0 _ rfl, by rw [← Lib.cell_of_heap hnb 1]; exact hcell 0 (by decide) 1 _ rfl⟩)
  have NB := hide hnb
  clear hr hnb hcell
  replace HL := hide hl
  clear hl hcc hd
  rw [aw_unlock]
  go_wp2_with fail
  have hnn := heap_new w14 (.cells #[.int .i64 0, .int .i64 zVa.n, .int .u32 zVa.s, .int .u32 zVa.g, .bool false, .slice (some ⟨nb, 0, none⟩) 1 cc] 46)
  have hca := Ch.alloc (Q := fun _ => False) w14 (.cells #[.int .i64 0, .int .i64 zVa.n, .int .u32 zVa.s, .int .u32 zVa.g, .bool false, .slice (some ⟨nb, 0, none⟩) 1 cc] 46)
  generalize w14.alloc (.cells #[.int .i64 0, .int .i64 zVa.n, .int .u32 zVa.s, .int .u32 zVa.g, .bool false, .slice (some ⟨nb, 0, none⟩) 1 cc] 46) = w15 at hnn hca ⊢
  have X9 := hide hnn
  clear hnn
  have hcc := hca
  replace X5 := hide (hcc.box X5.out (fun h => h))
  replace X7 := hide (hcc.box X7.out (fun h => h))
  replace NB := hide (hcc.box NB.out (fun h => h))
  replace HL := hide (HL.out.quiet hcc)
  replace HB := hide (HB.out.trans (hcc.below HB.out.size (fun _ _ h => h)))
  clear hcc
  clear hca
  refine (lhandle_is w15 (n := 1) (by decide) (by decide)).mono ?_
  rintro e w16 ⟨rfl, hb⟩
  have hcc := Ch.of_below (Q := fun _ => False) hb
  replace X5 := hide (hcc.box X5.out (fun h => h))
  replace X7 := hide (hcc.box X7.out (fun h => h))
  replace NB := hide (hcc.box NB.out (fun h => h))
  replace X9 := hide (hcc.box X9.out (fun h => h))
  replace HL := hide (HL.out.quiet hcc)
  replace HB := hide (HB.out.trans (hcc.below HB.out.size (fun _ _ h => h)))
  clear hcc
  clear hb
  go_wp2_with fail
  refine (lw_holder HL.out (1, 1)).mono ?_
  rintro e w17 ⟨rfl, hb⟩
  have hcc := Ch.of_below (Q := fun _ => False) hb
  replace X5 := hide (hcc.box X5.out (fun h => h))
  replace X7 := hide (hcc.box X7.out (fun h => h))
  replace NB := hide (hcc.box NB.out (fun h => h))
  replace X9 := hide (hcc.box X9.out (fun h => h))
  replace HL := hide (HL.out.quiet hcc)
  replace HB := hide (HB.out.trans (hcc.below HB.out.size (fun _ _ h => h)))
  clear hcc
  clear hb
  rw [aw_holder, show isMuL (fnl _ ((1, 1) : Hnd)) = true from rfl]
  go_wp2
  have hnn := heap_new w17 (.cells #[.int .u32 6, .int .u32 1] 35)
  have hca := Ch.alloc (Q := fun _ => False) w17 (.cells #[.int .u32 6, .int .u32 1] 35)
  generalize w17.alloc (.cells #[.int .u32 6, .int .u32 1] 35) = w18 at hnn hca ⊢
  have XB := hide hnn
  clear hnn
  have hcc := hca
  replace X5 := hide (hcc.box X5.out (fun h => h))
  replace X7 := hide (hcc.box X7.out (fun h => h))
  replace NB := hide (hcc.box NB.out (fun h => h))
  replace X9 := hide (hcc.box X9.out (fun h => h))
  replace HL := hide (HL.out.quiet hcc)
  replace HB := hide (HB.out.trans (hcc.below HB.out.size (fun _ _ h => h)))
  clear hcc
  clear hca
  obtain ⟨Fb, hpb, -⟩ := HL.out.bk
  have HBK := hide (fun V (cV : Ch (fun _ => False) w18 V) => face.ch hpb cV (fun _ _ h => h))
  clear hpb
  refine wp_reg (fun _ => False) (R := fun V => Ch (fun _ => False) w18 V) (by kernel_rfl) (Ch.drew _) (fun V cV zk => ?_)
  have CV := hide cV
  clear cV
  have HX := hide (fun wq (kq : Ch (fun _ => False) V wq) => show wq.cell? ⟨w7.heap.size, 0, none⟩ = some (.int .i64 0) ∧ wq.cell? ⟨w11.heap.size, 0, none⟩ = some (.int .i64 1) ∧ (wq.cell? ⟨w14.heap.size, 0, none⟩ = some (.int .i64 0) ∧ wq.cell? ⟨w14.heap.size, 5, none⟩ = some (.slice (some ⟨nb, 0, none⟩) 1 cc)) ∧ (wq.cell? ⟨nb, 0, none⟩ = some (.int .u32 6) ∧ wq.cell? ⟨nb, 1, none⟩ = some (.int .u32 1)) ∧ wq.cell? ⟨w17.heap.size, 0, none⟩ = some (.int .u32 6) ∧ wq.cell? ⟨w17.heap.size, 1, none⟩ = some (.int .u32 1) from by
    have cc := CV.out.trans kq (fun _ _ h => h)
    have e1 := Lib.cell_of_heap (cc.box X5.out (fun h => h))
    have e2 := Lib.cell_of_heap (cc.box X7.out (fun h => h))
    have e3 := Lib.cell_of_heap (cc.box X9.out (fun h => h))
    have e4 := Lib.cell_of_heap (cc.box NB.out (fun h => h))
    have e5 := Lib.cell_of_heap (cc.box XB.out (fun h => h))
    obtain ⟨k0, k1⟩ := HK.out
    exact ⟨by simp [e1], by simp [e2], ⟨by simp [e3], by simp [e3]⟩, ⟨by rw [e4]; exact k0, by rw [e4]; exact k1⟩, by simp [e5], by simp [e5]⟩)
  apply tk 0 kaw0 rfl (by kernel_rfl) (fun _ _ _ h => h) zk
  · intro wq zq
    go_simp
    try rfl
  go_frame
  apply tk 1 kaw1 rfl (by kernel_rfl) (fun _ _ _ h => h) zk
  · intro wq zq
    go_simp
    try rfl
  go_frame
  apply tk 2 kaw2 rfl (by kernel_rfl) (fun _ _ _ h => h) zk
  · intro wq zq
    go_simp
    try rfl
  go_frame
  apply tk 3 kaw3 rfl (by kernel_rfl) (fun _ _ _ h => h) zk
  · intro wq zq
    obtain ⟨s0, s1, ⟨s2, s3⟩, ⟨s4, s5⟩, s6, s7⟩ := HX.out _ zq
    go_simp
    try rfl
  go_frame
  apply tk 4 kaw4 rfl (by kernel_rfl) (fun _ _ _ h => h) zk
  · intro wq zq
    go_simp
    try rfl
  go_frame
  apply tk 5 kaw5 rfl (by kernel_rfl) (fun _ _ _ h => h) zk
  · intro wq zq
    go_simp
    try rfl
  go_frame
  apply tk 6 kaw6 rfl (by kernel_rfl) (fun _ _ _ h => h) zk
  · intro wq zq
    go_simp
    try rfl
  go_frame
  apply tk 7 kaw7 rfl (by kernel_rfl) (fun _ _ _ h => h) zk
  · intro wq zq
    go_simp
    try rfl
  go_frame
  apply tk 8 kaw8 rfl (by kernel_rfl) (fun _ _ _ h => h) zk
  · intro wq zq
    obtain ⟨s0, s1, ⟨s2, s3⟩, ⟨s4, s5⟩, s6, s7⟩ := HX.out _ zq
    go_simp
    try rfl
  go_frame
  apply tk 9 kaw9 rfl (by kernel_rfl) (fun _ _ _ h => h) zk
  · intro wq zq
    go_simp
    try rfl
  go_frame
  apply tk 10 kaw10 rfl (by kernel_rfl) (fun _ _ _ h => h) zk
  · intro wq zq
    go_simp
    try rfl
  go_frame
  apply tk 11 kaw11 rfl (by kernel_rfl) (fun _ _ _ h => h) zk
  · intro wq zq
    go_simp
    try rfl
  go_frame
  apply tk 12 kaw12 rfl (by kernel_rfl) (fun _ _ _ h => h) zk
  · intro wq zq
    go_simp
    try rfl
  go_frame
  apply tk 13 kaw13 rfl (by kernel_rfl) (fun _ _ _ h => h) zk
  · intro wq zq
    obtain ⟨s0, s1, ⟨s2, s3⟩, ⟨s4, s5⟩, s6, s7⟩ := HX.out _ zq
    go_simp
    try rfl
  go_frame
  apply tk 14 kaw14 rfl (by kernel_rfl) (fun _ _ _ h => h) zk
  · intro wq zq
    go_simp
    try rfl
  go_frame
  apply tk 15 kaw15 rfl (by kernel_rfl) (fun _ _ _ h => h) zk
  · intro wq zq
    go_simp
    try rfl
  go_frame
  apply tk 16 kaw16 rfl (by kernel_rfl) (fun _ _ _ h => h) zk
  · intro wq zq
    go_simp
    try rfl
  go_frame
  apply tk 17 kaw17 rfl (by kernel_rfl) (fun _ _ _ h => h) zk
  · intro wq zq
    go_simp
    try rfl
  go_frame
  apply tk 18 kaw18 rfl (by kernel_rfl) (fun _ _ _ h => h) zk
  · intro wq zq
    obtain ⟨s0, s1, ⟨s2, s3⟩, ⟨s4, s5⟩, s6, s7⟩ := HX.out _ zq
    go_simp
    try rfl
  go_frame
  apply tk 19 kaw19 rfl (by kernel_rfl) (fun _ _ _ h => h) zk
  · intro wq zq
    go_simp
    try rfl
  go_frame
  apply tk 20 kaw20 rfl (by kernel_rfl) (fun _ _ _ h => h) zk
  · intro wq zq
    go_simp
    try rfl
  go_frame
  apply tk 21 kaw21 rfl (by kernel_rfl) (fun _ _ _ h => h) zk
  · intro wq zq
    go_simp
    try rfl
  go_frame
  apply tk 22 kaw22 rfl (by kernel_rfl) (fun _ _ _ h => h) zk
  · intro wq zq
    go_simp
    try rfl
  go_frame
  apply tk 23 kaw23 rfl (by kernel_rfl) (fun _ _ _ h => h) zk
  · intro wq zq
    go_simp
    try rfl
  go_frame
  apply tk 24 kaw24 rfl (by kernel_rfl) (fun _ _ _ h => h) zk
  · intro wq zq
    obtain ⟨s0, s1, ⟨s2, s3⟩, ⟨s4, s5⟩, s6, s7⟩ := HX.out _ zq
    go_simp
    try rfl
  go_frame
  apply tk 25 kaw25 rfl (by kernel_rfl) (fun _ _ _ h => h) zk
  · intro wq zq
    go_simp
    try rfl
  go_frame
  apply tk 26 kaw26 rfl (by kernel_rfl) (fun _ _ _ h => h) zk
  · intro wq zq
    go_simp
    try rfl
  go_frame
  apply tk 27 kaw27 rfl (by kernel_rfl) (fun _ _ _ h => h) zk
  · intro wq zq
    obtain ⟨s0, s1, ⟨s2, s3⟩, ⟨s4, s5⟩, s6, s7⟩ := HX.out _ zq
    go_simp
    try rfl
  go_frame
  refine Go.Proofs.Ytoabhmpakcgloaa.rd 28 kaw28 rfl (by kernel_rfl) fun K hK => ?_
  go_simp
  refine (lhandle_is V (n := 6) (by decide) (by decide)).mono ?_
  rintro e v0 ⟨rfl, hba⟩
  have Cv0 := hide ((CV.out).trans (Ch.of_below hba) (fun _ _ h => h))
  have Zv0 := hide (zk.trans (Ch.of_below (Q := fun _ => False) hba) (fun _ _ h => h))
  clear hba
  go_wp2_with fail
  refine hK.out _ _ ?_ (fun zk => ?_)
  · exact Zv0.out
  clear hK K
  try go_frame
  apply tk 29 kaw29 rfl (by kernel_rfl) (fun _ _ _ h => h) zk
  · intro wq zq
    go_simp
    try rfl
  go_frame
  apply tk 30 kaw30 rfl (by kernel_rfl) (fun _ _ _ h => h) zk
  · intro wq zq
    go_simp
    try rfl
  go_frame
  apply tk 31 kaw31 rfl (by kernel_rfl) (fun _ _ _ h => h) zk
  · intro wq zq
    go_simp
    try rfl
  go_frame
  apply tk 32 kaw32 rfl (by kernel_rfl) (fun _ _ _ h => h) zk
  · intro wq zq
    obtain ⟨s0, s1, ⟨s2, s3⟩, ⟨s4, s5⟩, s6, s7⟩ := HX.out _ zq
    go_simp
    try rfl
  go_frame
  refine Go.Proofs.Ytoabhmpakcgloaa.rd 33 kaw33 rfl (by kernel_rfl) fun K hK => ?_
  go_simp
  refine (lhandle_is v0 (n := 6) (by decide) (by decide)).mono ?_
  rintro e v1 ⟨rfl, hba⟩
  have Cv1 := hide ((Cv0.out).trans (Ch.of_below hba) (fun _ _ h => h))
  have Zv1 := hide (zk.trans (Ch.of_below (Q := fun _ => False) hba) (fun _ _ h => h))
  clear hba
  go_wp2_with fail
  refine hK.out _ _ ?_ (fun zk => ?_)
  · exact Zv1.out
  clear hK K
  try go_frame
  apply tk 34 kaw34 rfl (by kernel_rfl) (fun _ _ _ h => h) zk
  · intro wq zq
    go_simp
    try rfl
  go_frame
  apply tk 35 kaw35 rfl (by kernel_rfl) (fun _ _ _ h => h) zk
  · intro wq zq
    go_simp
    try rfl
  go_frame
  apply tk 36 kaw36 rfl (by kernel_rfl) (fun _ _ _ h => h) zk
  · intro wq zq
    go_simp
    try rfl
  go_frame
  apply tk 37 kaw37 rfl (by kernel_rfl) (fun _ _ _ h => h) zk
  · intro wq zq
    go_simp
    try rfl
  go_frame
  refine Go.Proofs.Ytoabhmpakcgloaa.rd 38 kaw38 rfl (by kernel_rfl) fun K hK => ?_
  go_simp
  refine (face.count (HBK.out v1 (Cv1.out)) (by decide)).mono ?_
  rintro e v2 ⟨rfl, hba⟩
  have Cv2 := hide ((Cv1.out).trans (Ch.of_below hba) (fun _ _ h => h))
  have Zv2 := hide (zk.trans (Ch.of_below (Q := fun _ => False) hba) (fun _ _ h => h))
  clear hba
  rw [aw_left]
  go_wp2_with fail
  refine hK.out _ _ ?_ (fun zk => ?_)
  · exact Zv2.out
  clear hK K
  try go_frame
  apply tk 39 kaw39 rfl (by kernel_rfl) (fun _ _ _ h => h) zk
  · intro wq zq
    go_simp
    try rfl
  go_frame
  apply tk 40 kaw40 rfl (by kernel_rfl) (fun _ _ _ h => h) zk
  · intro wq zq
    go_simp
    try rfl
  go_frame
  apply tk 41 kaw41 rfl (by kernel_rfl) (fun _ _ _ h => h) zk
  · intro wq zq
    go_simp
    try rfl
  go_frame
  refine wpAnyH_done (by kernel_rfl) ?_ _
  go_wp2
  go_ret
  exact ⟨rfl, HB.out.trans ((Cv2.out).below HB.out.size (fun _ _ h => h))⟩

end Go.Proofs.Ytoabhmpakcgloaa

namespace Go.Proofs.Ytoabhmpakcgloaa
open Go.RowKit

theorem isWho_r {s g : Int} {t : Wt} : isWho s g t = true ↔ t.o = false ∧ t.r.ws = s ∧ t.r.wg = g := by
  unfold isWho
  simp
theorem mem_sel {q : Wt → Bool} {l : List Wt} {r : Rc} : r ∈ sel q l ↔ ∃ t ∈ l, q t = true ∧ t.r = r := by
  unfold sel
  rw [List.mem_map]
  constructor
  · rintro ⟨t, ht, e⟩
    obtain ⟨h1, h2⟩ := List.mem_filter.1 ht
    exact ⟨t, h1, h2, e⟩
  · rintro ⟨t, h1, h2, e⟩
    exact ⟨t, List.mem_filter.2 ⟨h1, h2⟩, e⟩
theorem twW_no {l : List Wt} {ws wg ar : Int} (h : ∀ r ∈ sel (isWho ws wg) l, r.ar ≠ ar) : twW l ws wg ar = false := by
  unfold twW
  rw [List.any_eq_false]
  intro t ht hh
  simp only [Bool.and_eq_true, decide_eq_true_eq] at hh
  exact h t.r (mem_sel.2 ⟨t, ht, hh.1, rfl⟩) hh.2
theorem sel_lea_sub {q : Wt → Bool} (ho : ∀ t, q (over t) = false) {l : List Wt} {s g : Int} {r : Rc} (h : r ∈ sel q (leaW l s g)) : ∃ t ∈ l, q t = true ∧ isWho s g t = false ∧ t.r = r := by
  obtain ⟨t, ht, hq, e⟩ := mem_sel.1 h
  unfold leaW at ht
  obtain ⟨u, hu, e2⟩ := List.mem_map.1 ht
  by_cases hw : isWho s g u = true
  · rw [if_pos hw] at e2
    rw [← e2, ho] at hq
    cases hq
  · rw [if_neg hw] at e2
    subst e2
    exact ⟨u, hu, hq, by simpa using hw, e⟩
theorem isWho_over (s g : Int) (t : Wt) : isWho s g (over t) = false := by simp [isWho, over]
theorem inRow_over (s g d : Int) (t : Wt) : inRow s g d (over t) = false := by simp [inRow, over]
theorem lea_gone (l : List Wt) (s g : Int) : sel (isWho s g) (leaW l s g) = [] := by
  apply List.eq_nil_iff_forall_not_mem.2
  intro r hr
  obtain ⟨t, ht, hq, hn, e⟩ := sel_lea_sub (isWho_over s g) hr
  rw [hq] at hn
  cases hn
theorem lea_gone2 {l : List Wt} {a b : Int} (h : sel (isWho a b) l = []) (s g : Int) : sel (isWho a b) (leaW l s g) = [] := by
  apply List.eq_nil_iff_forall_not_mem.2
  intro r hr
  obtain ⟨t, ht, hq, hn, e⟩ := sel_lea_sub (isWho_over a b) hr
  have : t.r ∈ sel (isWho a b) l := mem_sel.2 ⟨t, ht, hq, rfl⟩
  rw [h] at this
  cases this
theorem lea_filter {l : List Wt} {q : Wt → Bool} {s g : Int} (ho : ∀ t, q (over t) = false) : sel q (leaW l s g) = ((l.filter q).filter fun t => !isWho s g t).map Wt.r := by
  unfold leaW sel
  induction l with
  | nil => rfl
  | cons t l ih =>
    rw [List.map_cons, List.filter_cons, List.filter_cons]
    by_cases hw : isWho s g t = true
    · rw [if_pos hw, ho]
      by_cases hq : q t = true
      · rw [if_pos hq, List.filter_cons]; simpa [hw] using ih
      · rw [if_neg hq]; simpa using ih
    · rw [if_neg hw]
      by_cases hq : q t = true
      · rw [if_pos hq, if_pos hq, List.filter_cons]
        have hw' : isWho s g t = false := by simpa using hw
        simpa [hw'] using ih
      · rw [if_neg hq, if_neg hq]; exact ih
theorem one_head {l : List Wt} {q : Wt → Bool} {s g : Int} (h1 : (sel (isWho s g) l).length = 1) {t : Wt} {ts : List Wt} (hq : l.filter q = t :: ts) (ht : isWho s g t = true) : (ts.filter fun u => !isWho s g u) = ts := by
  refine List.filter_eq_self.2 fun u hu => ?_
  cases hw : isWho s g u with
  | false => rfl
  | true =>
    exfalso
    have h2 : ((l.filter q).filter (isWho s g)).length ≤ (l.filter (isWho s g)).length := (List.filter_sublist.filter _).length_le
    rw [hq, List.filter_cons, if_pos ht, List.length_cons] at h2
    have h3 : 0 < (ts.filter (isWho s g)).length := List.length_pos_of_mem (List.mem_filter.2 ⟨hu, hw⟩)
    unfold sel at h1
    rw [List.length_map] at h1
    omega
theorem one_other {l : List Wt} {q : Wt → Bool} {s g : Int} (ho : ∀ t, q (over t) = false) (h1 : (sel (isWho s g) l).length = 1) {t : Wt} (ht : t ∈ l) (hw : isWho s g t = true) (hq : q t = false) : sel q (leaW l s g) = sel q l := by
  rw [lea_filter ho]
  unfold sel at h1 ⊢
  rw [List.length_map] at h1
  obtain ⟨a, ha⟩ := List.length_eq_one_iff.1 h1
  congr 1
  refine List.filter_eq_self.2 fun u hu => ?_
  rw [List.mem_filter] at hu
  cases hu2 : isWho s g u with
  | false => rfl
  | true =>
    exfalso
    have m1 : u ∈ l.filter (isWho s g) := List.mem_filter.2 ⟨hu.1, hu2⟩
    have m2 : t ∈ l.filter (isWho s g) := List.mem_filter.2 ⟨ht, hw⟩
    rw [ha, List.mem_singleton] at m1 m2
    rw [m1, ← m2, hq] at hu
    exact absurd hu.2 (by decide)
def who (r : Rc) : Hnd := (r.ws, r.wg)
theorem inRow_t {s g d : Int} {t : Wt} : inRow s g d t = true ↔ t.o = false ∧ t.r.rs = s ∧ t.r.rg = g ∧ t.r.rd = d := by simp [inRow]
def wkWho (k : Wk) : Hnd := (k.s, k.g)
abbrev rwl (l : List Wt) (j : Nat) (d : Int) : List Rc := sel (inRow ((j : Int) + 1) 1 d) l
/-- who waits in which row: one wait each, all at side d of the first n handles -/
structure JI (l : List Wt) (n : Nat) (d : Int) (f : Nat → List Hnd) : Prop where
  row : ∀ j, j < n → (rwl l j d).map who = f j
  one : ∀ a b, (sel (isWho a b) l).length ≤ 1
  at_ : ∀ t ∈ l, t.o = false → ∃ j, j < n ∧ t.r.rs = (j : Int) + 1 ∧ t.r.rg = 1 ∧ t.r.rd = d
  ok : WtOk l
theorem JI.nil (n : Nat) (d : Int) : JI [] n d (fun _ => []) := ⟨fun _ _ => rfl, fun _ _ => Nat.zero_le _, fun _ h => (List.not_mem_nil h).elim, fun _ h => (List.not_mem_nil h).elim⟩
section
variable {l : List Wt} {n : Nat} {d : Int} {f : Nat → List Hnd}
theorem JI.waits (h : JI l n d f) (g : Hnd) : sel (isWho g.1 g.2) l ≠ [] ↔ ∃ j, j < n ∧ g ∈ f j := by
  constructor
  · intro e
    obtain ⟨r, hr⟩ := List.exists_mem_of_ne_nil _ e
    obtain ⟨t, ht, hq, rfl⟩ := mem_sel.1 hr
    obtain ⟨ho, h1, h2⟩ := isWho_r.1 hq
    obtain ⟨j, hj, e1, e2, e3⟩ := h.at_ t ht ho
    refine ⟨j, hj, ?_⟩
    rw [← h.row j hj]
    exact List.mem_map.2 ⟨t.r, mem_sel.2 ⟨t, ht, inRow_t.2 ⟨ho, e1, e2, e3⟩, rfl⟩, Prod.ext h1 h2⟩
  · rintro ⟨j, hj, hg⟩ e
    rw [← h.row j hj] at hg
    obtain ⟨r, hr, rfl⟩ := List.mem_map.1 hg
    obtain ⟨t, ht, hq, rfl⟩ := mem_sel.1 hr
    have : t.r ∈ sel (isWho t.r.ws t.r.wg) l := mem_sel.2 ⟨t, ht, isWho_r.2 ⟨(inRow_t.1 hq).1, rfl, rfl⟩, rfl⟩
    rw [show (who t.r).1 = t.r.ws from rfl, show (who t.r).2 = t.r.wg from rfl] at e
    rw [e] at this
    exact List.not_mem_nil this
theorem JI.put (h : JI l n d f) {j : Nat} (hj : j < n) {g : Hnd} (ng : nnH g = false) (u1 : UsW g.1) (u2 : UsW g.2) (hd1 : 1 ≤ d) (hd4 : d ≤ 4) (hw : sel (isWho g.1 g.2) l = []) :
    JI (putW l ((j : Int) + 1) 1 d g.1 g.2 0 0 0 0) n d (fun i => if i = j then f j ++ [g] else f i) := by
  have ec : ecW l g.1 g.2 d 0 = 0 := by
    unfold ecW
    have h1 : ¬ (g.1 = 0 ∧ g.2 = 0) := fun e => by
      unfold nnH at ng
      rw [decide_eq_true e.1, decide_eq_true e.2] at ng
      cases ng
    rw [if_neg h1, if_neg (by omega), twW_no (fun r hr => by rw [hw] at hr; cases hr)]
    rfl
  have z6 : I64 0 := by constructor <;> decide
  have zu : UsW 0 := by constructor <;> decide
  obtain ⟨t0, ht0, ho0, hw1, hw2, hs0, hg0, hd0, ok0⟩ : ∃ t0 : Wt, putW l ((j : Int) + 1) 1 d g.1 g.2 0 0 0 0 = l ++ [t0] ∧ t0.o = false ∧ t0.r.ws = g.1 ∧ t0.r.wg = g.2 ∧ t0.r.rs = (j : Int) + 1 ∧ t0.r.rg = 1 ∧ t0.r.rd = d ∧ RcOk t0.r := by
    unfold putW
    rw [if_pos ec]
    exact ⟨_, rfl, rfl, rfl, rfl, rfl, rfl, rfl, ⟨u1, u2, z6, z6, zu, zu⟩⟩
  rw [ht0]
  refine ⟨fun i hi => ?_, fun a b => ?_, fun t ht ho => ?_, fun t ht => ?_⟩
  · show (sel _ (l ++ [_])).map who = _
    rw [sel_snoc]
    by_cases e : i = j
    · subst e
      rw [if_pos (inRow_t.2 ⟨ho0, hs0, hg0, hd0⟩), if_pos rfl, List.map_append, h.row i hi]
      show f i ++ [(t0.r.ws, t0.r.wg)] = _
      rw [hw1, hw2]
    · have hne : ¬ inRow ((i : Int) + 1) 1 d t0 = true := fun e2 => by
        have := (inRow_t.1 e2).2.1
        omega
      rw [if_neg hne, if_neg e]
      exact h.row i hi
  · rw [sel_snoc]
    split
    · rename_i hq
      obtain ⟨-, h1, h2⟩ := isWho_r.1 hq
      rw [hw1] at h1
      rw [hw2] at h2
      rw [← h1, ← h2, hw]
      exact Nat.le_refl _
    · exact h.one a b
  · rcases List.mem_append.1 ht with ht | ht
    · exact h.at_ t ht ho
    · rw [List.mem_singleton.1 ht]
      exact ⟨j, hj, hs0, hg0, hd0⟩
  · rcases List.mem_append.1 ht with ht | ht
    · exact h.ok t ht
    · rw [List.mem_singleton.1 ht]
      exact ok0
theorem JI.wake (h : JI l n d f) {j : Nat} (hj : j < n) {r : Rc} {rest : List Rc} (hr : rwl l j d = r :: rest) :
    f j = who r :: rest.map who ∧ JI (leaW l r.ws r.wg) n d (fun i => if i = j then rest.map who else f i) := by
  have hf : f j = who r :: rest.map who := by rw [← h.row j hj, hr]; rfl
  refine ⟨hf, ?_⟩
  unfold rwl sel at hr
  obtain ⟨t, ts, hts, htr, hrs⟩ : ∃ t ts, l.filter (inRow ((j : Int) + 1) 1 d) = t :: ts ∧ t.r = r ∧ ts.map Wt.r = rest := by
    cases hq : l.filter (inRow ((j : Int) + 1) 1 d) with
    | nil => rw [hq] at hr; cases hr
    | cons t ts =>
      rw [hq] at hr
      injection hr with h1 h2
      exact ⟨t, ts, rfl, h1, h2⟩
  have htm : t ∈ l ∧ inRow ((j : Int) + 1) 1 d t = true := List.mem_filter.1 (by rw [hts]; exact List.mem_cons_self ..)
  have hw : isWho r.ws r.wg t = true := isWho_r.2 ⟨(inRow_t.1 htm.2).1, by rw [htr], by rw [htr]⟩
  have h1 : (sel (isWho r.ws r.wg) l).length = 1 := by
    have := h.one r.ws r.wg
    have h2 : r ∈ sel (isWho r.ws r.wg) l := mem_sel.2 ⟨t, htm.1, hw, htr⟩
    have := List.length_pos_of_mem h2
    omega
  refine ⟨fun i hi => ?_, fun a b => ?_, fun u hu ho => ?_, h.ok.lea _ _⟩
  · by_cases e : i = j
    · subst e
      rw [if_pos rfl]
      show (sel _ _).map who = _
      rw [lea_filter (fun u => inRow_over _ _ _ u), hts, List.filter_cons, hw]
      simp only [Bool.not_true, Bool.false_eq_true, if_false]
      rw [one_head h1 hts hw, hrs]
    · rw [if_neg e]
      show (sel _ _).map who = _
      rw [one_other (fun u => inRow_over _ _ _ u) h1 htm.1 hw, ← h.row i hi]
      rw [Bool.eq_false_iff]
      intro e2
      have a1 := (inRow_t.1 e2).2.1
      have a2 := (inRow_t.1 htm.2).2.1
      omega
  · rw [lea_filter (fun u => isWho_over _ _ u), List.length_map]
    refine Nat.le_trans (List.length_filter_le _ _) ?_
    have := h.one a b
    unfold sel at this
    rwa [List.length_map] at this
  · unfold leaW at hu
    obtain ⟨v, hv, rfl⟩ := List.mem_map.1 hu
    split at ho
    · cases ho
    · rename_i hq
      rw [if_neg hq]
      exact h.at_ v hv ho
theorem JI.none (h : JI l n d f) {j : Nat} (hj : j < n) : rwl l j d = [] ↔ f j = [] := by
  rw [← h.row j hj]
  exact List.map_eq_nil_iff.symm
theorem JI.congr (h : JI l n d f) {f' : Nat → List Hnd} (e : ∀ j, j < n → f j = f' j) : JI l n d f' := ⟨fun j hj => by rw [h.row j hj, e j hj], h.one, h.at_, h.ok⟩
theorem JI.all {j : Nat} (hj : j < n) {l : List Wt} {ws : List Wk} {l' : List Wt} (hw : WA (inRow ((j : Int) + 1) 1 d) zVa false 0 l ws l') : ∀ {f : Nat → List Hnd}, JI l n d f → ws.map wkWho = f j ∧ JI l' n d (fun i => if i = j then [] else f i) ∧ l'.length = l.length := by
  induction hw with
  | nil h =>
    intro f hi
    have e := (hi.none hj).1 h
    exact ⟨e.symm, hi.congr (fun i _ => by split; · rename_i e2; rw [e2]; exact e
                                           · rfl), rfl⟩
  | cons h _ ih =>
    intro f hi
    obtain ⟨e1, h2⟩ := hi.wake hj h
    obtain ⟨e3, h4, e5⟩ := ih h2
    refine ⟨?_, h4.congr (fun i _ => by split <;> simp_all), by rw [e5, leaW_len]⟩
    rw [List.map_cons, e3, if_pos rfl, e1]
    rfl
theorem JI.count (h : JI l 1 d f) : cntW l = (f 0).length := by
  rw [← h.row 0 (by decide), List.length_map]
  unfold cntW rwl sel
  rw [List.length_map, List.length_map]
  congr 1
  apply List.filter_congr
  intro t ht
  cases ho : t.o with
  | true => simp [isNow, inRow, ho]
  | false =>
    obtain ⟨j, hj, e1, e2, e3⟩ := h.at_ t ht ho
    obtain rfl : j = 0 := by omega
    rw [inRow_t.2 ⟨ho, e1, e2, e3⟩]
    simp [isNow, ho]
end

end Go.Proofs.Ytoabhmpakcgloaa

namespace Go.Proofs.Ytoabhmpakcgloaa
open Go.RowKit

abbrev sojoin0 : Oper := { dst := some 87, op := Op.move (Operand.tmp 5), type := 26, pos := "law.go:235", after := #[], guard := none }
abbrev sojoin1 : Oper := { dst := some 88, op := Op.load 35 (Operand.tmp 10), type := 35, pos := "law.go:235", after := #[], guard := none }
abbrev sojoin2 : Oper := { dst := some 89, op := Op.call { callee := Callee.value (Operand.func 10), args := #[Operand.const (Value.int IntKind.i64 1)], argTypes := #[3] }, type := 35, pos := "law.go:235", after := #[], guard := none }
abbrev sojoin3 : Oper := { dst := some 90, op := Op.call { callee := Callee.value (Operand.func 16), args := #[Operand.tmp 87, Operand.tmp 88, Operand.tmp 89], argTypes := #[26, 35, 35] }, type := 47, pos := "law.go:235", after := #[{ on := 0, ground := Ground.data }, { on := 1, ground := Ground.data }, { on := 2, ground := Ground.data }, { on := 2, ground := Ground.chain }], guard := none }
abbrev sojoin4 : Oper := { dst := some 86, op := Op.move (Operand.tmp 90), type := 47, pos := "law.go:235", after := #[{ on := 3, ground := Ground.data }], guard := none }
abbrev sojoin5 : Oper := { dst := some 91, op := Op.extract (Operand.tmp 86) 0, type := 46, pos := "law.go:235", after := #[{ on := 4, ground := Ground.data }], guard := none }
abbrev sojoin6 : Oper := { dst := some 92, op := Op.extract (Operand.tmp 86) 1, type := 27, pos := "law.go:235", after := #[{ on := 4, ground := Ground.data }, { on := 8, ground := Ground.gcOnly Departure.lateStores }], guard := none }
abbrev sojoin7 : Oper := { dst := some 13, op := Op.alloc 46, type := 0, pos := "law.go:235", after := #[], guard := none }
abbrev sojoin8 : Oper := { dst := none, op := Op.store 46 (Operand.tmp 13) (Operand.tmp 91), type := 0, pos := "law.go:235", after := #[{ on := 7, ground := Ground.data }, { on := 5, ground := Ground.data }, { on := 3, ground := Ground.chain }, { on := 0, ground := Ground.phase }, { on := 1, ground := Ground.phase }, { on := 2, ground := Ground.phase }, { on := 3, ground := Ground.phase }, { on := 4, ground := Ground.phase }, { on := 5, ground := Ground.phase }, { on := 6, ground := Ground.textOnly Departure.lateStores }, { on := 7, ground := Ground.phase }], guard := none }
abbrev sojoin9 : Oper := { dst := some 14, op := Op.assign (Operand.tmp 92), type := 27, pos := "law.go:235", after := #[{ on := 6, ground := Ground.data }, { on := 8, ground := Ground.chain }, { on := 0, ground := Ground.phase }, { on := 1, ground := Ground.phase }, { on := 2, ground := Ground.phase }, { on := 3, ground := Ground.phase }, { on := 4, ground := Ground.phase }, { on := 5, ground := Ground.phase }, { on := 6, ground := Ground.phase }, { on := 7, ground := Ground.phase }, { on := 8, ground := Ground.phase }], guard := none }

set_option maxRecDepth 100000 in
set_option maxHeartbeats 8000000 in
theorem so_join {W : World} {c gb : Nat} {g : Hnd}  {Qs : Nat → Prop} (hQ : ∀ z, Qs z → z < W.heap.size) (hX : ∀ wq, Ch (fun z => Qs z ∨ W.heap.size ≤ z) W wq → wq.cell? ⟨gb, 0, none⟩ = some (.int .u32 g.1) ∧ wq.cell? ⟨gb, 1, none⟩ = some (.int .u32 g.2)) {R : Dd → Int → Value → World → World → Prop}
    (hs : ∀ V, Ch (fun _ => False) W V → Calls Try.prog 16 #[.pointer (some ⟨c, 0, none⟩), hkV g, hkV (1, 1)] V fun e w' => ∃ dd er sa sn sc, e = .returned (.tuple #[ddV dd (.slice sa sn sc), .int .i64 er]) ∧ R dd er (.slice sa sn sc) V w' ∧ Ch Qs V w')
    {u0 u1 u2 u3 u4 u6 u7 u8 u9 u11 u12 u13 u14 u15 u16 u17 u18 u19 u20 u21 u22 u23 u24 u25 u26 u27 u28 u29 u30 u31 u32 u33 u34 u35 u36 u37 u38 u39 u40 u41 u42 u43 u44 u45 u46 u47 u48 u49 u50 u51 u52 u53 u54 u55 u56 u57 u58 u59 u60 u61 u62 u63 u64 u65 u66 u67 u68 u69 u70 u71 u72 u73 u74 u75 u76 u77 u78 u79 u80 u81 u82 u83 u84 u85 u86 u87 u88 u89 u90 u91 u92 u93 u94 u95 u96 u97 u98 u99 u100 u101 u102 u103 u104 u105 u106 u107 u108 u109 u110 u111 u112 u113 u114 u115 u116 u117 u118 u119 u120 u121 u122 u123 u124 u125 u126 u127 u128 u129 u130 u131 u132 u133 u134 u135 u136 u137 u138 u139 u140 u141 u142 u143 u144 u145 u146 u147 u148 u149 u150 u151 u152 u153 u154 u155 u156 u157 u158 u159 u160 u161 u162 u163 u164 u165 u166 u167 u168 u169 u170 u171 u172 u173 u174 u175 u176 u177 u178 u179 u180 u181 u182 u183 u184 u185 u186 u187 u188 u189 u190 u191 u192 u193 u194 u195 u196 u197 u198 u199 u200 u201 u202 u203 u204 u205 u206 u207 u208 u209 u210 u211 u212 u213 u214 u215 u216 u217 u218 u219 u220 u221 u222 u223 u224 u225 u226 u227 u228 u229 u230 u231 u232 u233 u234 : Value} {K : Act → World → Prop} (hK0 : ∀ (A : Nat) (dd : Dd) (er : Int) (sa : Option Addr) (sn sc : Nat) (V w6 w7 : World) (t86 t87 t88 t89 t90 t91 t92 : Value), Ch (fun _ => False) W V → R dd er (.slice sa sn sc) V w6 → Ch Qs V w6 → W.heap.size ≤ A → w7.heap[A]? = some (.cells #[.int .i64 dd.f, .int .i64 dd.v.n, .int .u32 dd.v.s, .int .u32 dd.v.g, .bool dd.ok, .slice sa sn sc] 46 (0, 0)) → Ch (fun z => z = A) w6 w7 → (A < V.heap.size ∨ A = w6.heap.size) → K { tmps := List.toArray (u0 :: u1 :: u2 :: u3 :: u4 :: (.pointer (some ⟨c, 0, none⟩)) :: u6 :: u7 :: u8 :: u9 :: (.pointer (some ⟨gb, 0, none⟩)) :: u11 :: u12 :: (.pointer (some ⟨A, 0, none⟩)) :: (.int .i64 er) :: u15 :: u16 :: u17 :: u18 :: u19 :: u20 :: u21 :: u22 :: u23 :: u24 :: u25 :: u26 :: u27 :: u28 :: u29 :: u30 :: u31 :: u32 :: u33 :: u34 :: u35 :: u36 :: u37 :: u38 :: u39 :: u40 :: u41 :: u42 :: u43 :: u44 :: u45 :: u46 :: u47 :: u48 :: u49 :: u50 :: u51 :: u52 :: u53 :: u54 :: u55 :: u56 :: u57 :: u58 :: u59 :: u60 :: u61 :: u62 :: u63 :: u64 :: u65 :: u66 :: u67 :: u68 :: u69 :: u70 :: u71 :: u72 :: u73 :: u74 :: u75 :: u76 :: u77 :: u78 :: u79 :: u80 :: u81 :: u82 :: u83 :: u84 :: u85 :: (t86) :: (t87) :: (t88) :: (t89) :: (t90) :: (t91) :: (t92) :: u93 :: u94 :: u95 :: u96 :: u97 :: u98 :: u99 :: u100 :: u101 :: u102 :: u103 :: u104 :: u105 :: u106 :: u107 :: u108 :: u109 :: u110 :: u111 :: u112 :: u113 :: u114 :: u115 :: u116 :: u117 :: u118 :: u119 :: u120 :: u121 :: u122 :: u123 :: u124 :: u125 :: u126 :: u127 :: u128 :: u129 :: u130 :: u131 :: u132 :: u133 :: u134 :: u135 :: u136 :: u137 :: u138 :: u139 :: u140 :: u141 :: u142 :: u143 :: u144 :: u145 :: u146 :: u147 :: u148 :: u149 :: u150 :: u151 :: u152 :: u153 :: u154 :: u155 :: u156 :: u157 :: u158 :: u159 :: u160 :: u161 :: u162 :: u163 :: u164 :: u165 :: u166 :: u167 :: u168 :: u169 :: u170 :: u171 :: u172 :: u173 :: u174 :: u175 :: u176 :: u177 :: u178 :: u179 :: u180 :: u181 :: u182 :: u183 :: u184 :: u185 :: u186 :: u187 :: u188 :: u189 :: u190 :: u191 :: u192 :: u193 :: u194 :: u195 :: u196 :: u197 :: u198 :: u199 :: u200 :: u201 :: u202 :: u203 :: u204 :: u205 :: u206 :: u207 :: u208 :: u209 :: u210 :: u211 :: u212 :: u213 :: u214 :: u215 :: u216 :: u217 :: u218 :: u219 :: u220 :: u221 :: u222 :: u223 :: u224 :: u225 :: u226 :: u227 :: u228 :: u229 :: u230 :: u231 :: u232 :: u233 :: u234 :: []), defers := [] } w7) :
    (Code.region 18 (List.toArray (sojoin0 :: sojoin1 :: sojoin2 :: sojoin3 :: sojoin4 :: sojoin5 :: sojoin6 :: sojoin7 :: sojoin8 :: sojoin9 :: [])) true).wp Try.prog (Exit.then K (fun _ _ _ => False)) { tmps := List.toArray (u0 :: u1 :: u2 :: u3 :: u4 :: (.pointer (some ⟨c, 0, none⟩)) :: u6 :: u7 :: u8 :: u9 :: (.pointer (some ⟨gb, 0, none⟩)) :: u11 :: u12 :: u13 :: u14 :: u15 :: u16 :: u17 :: u18 :: u19 :: u20 :: u21 :: u22 :: u23 :: u24 :: u25 :: u26 :: u27 :: u28 :: u29 :: u30 :: u31 :: u32 :: u33 :: u34 :: u35 :: u36 :: u37 :: u38 :: u39 :: u40 :: u41 :: u42 :: u43 :: u44 :: u45 :: u46 :: u47 :: u48 :: u49 :: u50 :: u51 :: u52 :: u53 :: u54 :: u55 :: u56 :: u57 :: u58 :: u59 :: u60 :: u61 :: u62 :: u63 :: u64 :: u65 :: u66 :: u67 :: u68 :: u69 :: u70 :: u71 :: u72 :: u73 :: u74 :: u75 :: u76 :: u77 :: u78 :: u79 :: u80 :: u81 :: u82 :: u83 :: u84 :: u85 :: u86 :: u87 :: u88 :: u89 :: u90 :: u91 :: u92 :: u93 :: u94 :: u95 :: u96 :: u97 :: u98 :: u99 :: u100 :: u101 :: u102 :: u103 :: u104 :: u105 :: u106 :: u107 :: u108 :: u109 :: u110 :: u111 :: u112 :: u113 :: u114 :: u115 :: u116 :: u117 :: u118 :: u119 :: u120 :: u121 :: u122 :: u123 :: u124 :: u125 :: u126 :: u127 :: u128 :: u129 :: u130 :: u131 :: u132 :: u133 :: u134 :: u135 :: u136 :: u137 :: u138 :: u139 :: u140 :: u141 :: u142 :: u143 :: u144 :: u145 :: u146 :: u147 :: u148 :: u149 :: u150 :: u151 :: u152 :: u153 :: u154 :: u155 :: u156 :: u157 :: u158 :: u159 :: u160 :: u161 :: u162 :: u163 :: u164 :: u165 :: u166 :: u167 :: u168 :: u169 :: u170 :: u171 :: u172 :: u173 :: u174 :: u175 :: u176 :: u177 :: u178 :: u179 :: u180 :: u181 :: u182 :: u183 :: u184 :: u185 :: u186 :: u187 :: u188 :: u189 :: u190 :: u191 :: u192 :: u193 :: u194 :: u195 :: u196 :: u197 :: u198 :: u199 :: u200 :: u201 :: u202 :: u203 :: u204 :: u205 :: u206 :: u207 :: u208 :: u209 :: u210 :: u211 :: u212 :: u213 :: u214 :: u215 :: u216 :: u217 :: u218 :: u219 :: u220 :: u221 :: u222 :: u223 :: u224 :: u225 :: u226 :: u227 :: u228 :: u229 :: u230 :: u231 :: u232 :: u233 :: u234 :: []), defers := [] } W := by
  have HK := hide hK0
  have HS0 := hide hs
  have HQ := hide hQ
  have HX0 := hide hX
  clear hK0 hs hQ hX
  refine wp_reg (fun z => Qs z ∨ W.heap.size ≤ z) (R := fun V => Ch (fun _ => False) W V) (by kernel_rfl) (Ch.drew _) (fun V0 cV zk => ?_)
  have CV := hide cV
  clear cV
  have HX := hide (fun wq (kq : Ch (fun z => Qs z ∨ W.heap.size ≤ z) V0 wq) => HX0.out wq ((CV.out.mono (Q' := fun z => Qs z ∨ W.heap.size ≤ z) (fun _ _ h => h.elim)).trans kq (fun _ _ h => h)))
  apply tk 0 sojoin0 rfl (by kernel_rfl) (fun _ _ _ h => h) zk
  · intro wq zq
    go_simp
    try rfl
  go_frame
  apply tk 1 sojoin1 rfl (by kernel_rfl) (fun _ _ _ h => h) zk
  · intro wq zq
    obtain ⟨s0, s1⟩ := HX.out _ zq
    go_simp
    try rfl
  go_frame
  refine wpAnyH_ready (rs := [2, 7]) (by kernel_rfl) (by simp) ?_
  refine AllReadyH.cons (o := sojoin2) rfl (fun K hK => ?_) (AllReadyH.cons (o := sojoin7) rfl (fun K hK => ?_) AllReadyH.nil)
  · go_simp
    refine (lhandle_is V0 (n := 1) (by omega) (by omega)).mono ?_
    rintro e v1 ⟨rfl, hb⟩
    have Cv1 := hide (CV.out.trans (Ch.of_below (Q := fun _ => False) hb) (fun _ _ h => h))
    have Zv1 := hide (zk.trans (Ch.of_below (Q := fun z => Qs z ∨ W.heap.size ≤ z) hb) (fun _ _ h => h))
    clear hb
    go_wp2_with fail
    refine hK.out _ _ ?_ (fun zk => ?_)
    · exact Zv1.out
    clear hK K
    try go_frame
    refine wpAnyH_ready (rs := [3, 7]) (by kernel_rfl) (by simp) ?_
    refine AllReadyH.cons (o := sojoin3) rfl (fun K hK => ?_) (AllReadyH.cons (o := sojoin7) rfl (fun K hK => ?_) AllReadyH.nil)
    · go_simp
      refine (HS0.out v1 (Cv1.out)).mono ?_
      rintro e v2 ⟨dd, er, sa, sn, sc, rfl, hR, hcc⟩
      have RR := hide (And.intro (Cv1.out) (And.intro hR hcc))
      have Zv2 := hide (zk.trans hcc (fun _ _ h => .inl h))
      clear hR hcc
      go_wp2_with fail
      refine hK.out _ _ ?_ (fun zk => ?_)
      · exact Zv2.out
      clear hK K
      try go_frame
      apply tk 4 sojoin4 rfl (by kernel_rfl) (fun _ _ _ h => h) zk
      · intro wq zq
        go_simp
        try rfl
      go_frame
      apply tk 5 sojoin5 rfl (by kernel_rfl) (fun _ _ _ h => h) zk
      · intro wq zq
        go_simp
        try rfl
      go_frame
      apply tk 6 sojoin6 rfl (by kernel_rfl) (fun _ _ _ h => h) zk
      · intro wq zq
        go_simp
        try rfl
      go_frame
      refine Go.Proofs.Ytoabhmpakcgloaa.rd 7 sojoin7 rfl (by kernel_rfl) fun K hK => ?_
      go_simp
      have hn := heap_new v2 (.cells #[.int .i64 0, .int .i64 0, .int .u32 0, .int .u32 0, .bool false, .slice none 0 0] 46)
      have hcA := Ch.alloc (Q := fun _ => False) v2 (.cells #[.int .i64 0, .int .i64 0, .int .u32 0, .int .u32 0, .bool false, .slice none 0 0] 46)
      refine hK.out _ _ ?_ (fun zk => ?_)
      · exact zk.trans (Ch.alloc (Q := fun z => Qs z ∨ W.heap.size ≤ z) _ _) (fun _ _ h => h)
      clear hK K
      try go_frame
      have hsz : W.heap.size ≤ v2.heap.size := (Nat.le_trans RR.out.1.size RR.out.2.2.size)
      have hlt : v2.heap.size < (v2.alloc (.cells #[.int .i64 0, .int .i64 0, .int .u32 0, .int .u32 0, .bool false, .slice none 0 0] 46)).heap.size := by rw [World.size_alloc]; exact Nat.lt_succ_self _
      generalize v2.alloc (.cells #[.int .i64 0, .int .i64 0, .int .u32 0, .int .u32 0, .bool false, .slice none 0 0] 46) = v3 at hn hcA zk hlt ⊢
      have HN := hide hn
      have HA := hide (And.intro hsz hlt)
      have CA := hide hcA
      clear hn hcA hsz hlt
      have n9 := HN.out
      have d0 : v3.cell? ⟨v2.heap.size, 0, none⟩ = some (.int .i64 0) := by simp [Lib.cell_of_heap n9]
      have d1 : v3.cell? ⟨v2.heap.size, 1, none⟩ = some (.int .i64 0) := by simp [Lib.cell_of_heap n9]
      have d2 : v3.cell? ⟨v2.heap.size, 2, none⟩ = some (.int .u32 0) := by simp [Lib.cell_of_heap n9]
      have d3 : v3.cell? ⟨v2.heap.size, 3, none⟩ = some (.int .u32 0) := by simp [Lib.cell_of_heap n9]
      have d4 : v3.cell? ⟨v2.heap.size, 4, none⟩ = some (.bool false) := by simp [Lib.cell_of_heap n9]
      have d5 : v3.cell? ⟨v2.heap.size, 5, none⟩ = some (.slice none 0 0) := by simp [Lib.cell_of_heap n9]
      have df : ∀ o, v3.frozen? ⟨v2.heap.size, o, none⟩ = false := fun o => by simp [World.frozen?, n9]
      have HS := hide (did_set n9 (.int .i64 dd.f) (.int .i64 dd.v.n) (.int .u32 dd.v.s) (.int .u32 dd.v.g) (.bool dd.ok) (.slice sa sn sc))
      clear n9
      refine Go.Proofs.Ytoabhmpakcgloaa.rd 8 sojoin8 rfl (by kernel_rfl) fun K hK => ?_
      go_simp
      refine hK.out _ _ ?_ (fun zk => ?_)
      · exact zk.trans HS.out.2 (fun z hz e => .inr (by rw [e]; exact HA.out.1))
      clear hK K
      try go_frame
      apply tk 9 sojoin9 rfl (by kernel_rfl) (fun _ _ _ h => h) zk
      · intro wq zq
        go_simp
        try rfl
      go_frame
      refine wpAnyH_done (by kernel_rfl) ?_ _
      exact HK.out (v2.heap.size) dd er sa sn sc _ _ _ _ _ _ _ _ _ _ RR.out.1 RR.out.2.1 RR.out.2.2 HA.out.1 HS.out.1 ((CA.out.mono (fun _ _ h => h.elim)).trans HS.out.2 (fun _ _ h => h)) (.inr rfl)
    · go_simp
      have hn := heap_new v1 (.cells #[.int .i64 0, .int .i64 0, .int .u32 0, .int .u32 0, .bool false, .slice none 0 0] 46)
      have hcA := Ch.alloc (Q := fun _ => False) v1 (.cells #[.int .i64 0, .int .i64 0, .int .u32 0, .int .u32 0, .bool false, .slice none 0 0] 46)
      refine hK.out _ _ ?_ (fun zk => ?_)
      · exact zk.trans (Ch.alloc (Q := fun z => Qs z ∨ W.heap.size ≤ z) _ _) (fun _ _ h => h)
      clear hK K
      try go_frame
      have hsz : W.heap.size ≤ v1.heap.size := Cv1.out.size
      have hlt : v1.heap.size < (v1.alloc (.cells #[.int .i64 0, .int .i64 0, .int .u32 0, .int .u32 0, .bool false, .slice none 0 0] 46)).heap.size := by rw [World.size_alloc]; exact Nat.lt_succ_self _
      generalize v1.alloc (.cells #[.int .i64 0, .int .i64 0, .int .u32 0, .int .u32 0, .bool false, .slice none 0 0] 46) = v4 at hn hcA zk hlt ⊢
      have HN := hide hn
      have HA := hide (And.intro hsz hlt)
      have Cv4 := hide (Cv1.out.trans hcA (fun _ _ h => h))
      clear hn hcA hsz hlt
      refine Go.Proofs.Ytoabhmpakcgloaa.rd 3 sojoin3 rfl (by kernel_rfl) fun K hK => ?_
      go_simp
      refine (HS0.out v4 (Cv4.out)).mono ?_
      rintro e v5 ⟨dd, er, sa, sn, sc, rfl, hR, hcc⟩
      have RR := hide (And.intro (Cv4.out) (And.intro hR hcc))
      have Zv5 := hide (zk.trans hcc (fun _ _ h => .inl h))
      replace HN := hide (hcc.box HN.out (fun e => by have h1 := HQ.out _ e; have h2 := HA.out.1; omega))
      clear hR hcc
      go_wp2_with fail
      refine hK.out _ _ ?_ (fun zk => ?_)
      · exact Zv5.out
      clear hK K
      try go_frame
      apply tk 4 sojoin4 rfl (by kernel_rfl) (fun _ _ _ h => h) zk
      · intro wq zq
        go_simp
        try rfl
      go_frame
      apply tk 5 sojoin5 rfl (by kernel_rfl) (fun _ _ _ h => h) zk
      · intro wq zq
        go_simp
        try rfl
      go_frame
      apply tk 6 sojoin6 rfl (by kernel_rfl) (fun _ _ _ h => h) zk
      · intro wq zq
        go_simp
        try rfl
      go_frame
      have n9 := HN.out
      have d0 : v5.cell? ⟨v1.heap.size, 0, none⟩ = some (.int .i64 0) := by simp [Lib.cell_of_heap n9]
      have d1 : v5.cell? ⟨v1.heap.size, 1, none⟩ = some (.int .i64 0) := by simp [Lib.cell_of_heap n9]
      have d2 : v5.cell? ⟨v1.heap.size, 2, none⟩ = some (.int .u32 0) := by simp [Lib.cell_of_heap n9]
      have d3 : v5.cell? ⟨v1.heap.size, 3, none⟩ = some (.int .u32 0) := by simp [Lib.cell_of_heap n9]
      have d4 : v5.cell? ⟨v1.heap.size, 4, none⟩ = some (.bool false) := by simp [Lib.cell_of_heap n9]
      have d5 : v5.cell? ⟨v1.heap.size, 5, none⟩ = some (.slice none 0 0) := by simp [Lib.cell_of_heap n9]
      have df : ∀ o, v5.frozen? ⟨v1.heap.size, o, none⟩ = false := fun o => by simp [World.frozen?, n9]
      have HS := hide (did_set n9 (.int .i64 dd.f) (.int .i64 dd.v.n) (.int .u32 dd.v.s) (.int .u32 dd.v.g) (.bool dd.ok) (.slice sa sn sc))
      clear n9
      refine Go.Proofs.Ytoabhmpakcgloaa.rd 8 sojoin8 rfl (by kernel_rfl) fun K hK => ?_
      go_simp
      refine hK.out _ _ ?_ (fun zk => ?_)
      · exact zk.trans HS.out.2 (fun z hz e => .inr (by rw [e]; exact HA.out.1))
      clear hK K
      try go_frame
      apply tk 9 sojoin9 rfl (by kernel_rfl) (fun _ _ _ h => h) zk
      · intro wq zq
        go_simp
        try rfl
      go_frame
      refine wpAnyH_done (by kernel_rfl) ?_ _
      exact HK.out (v1.heap.size) dd er sa sn sc _ _ _ _ _ _ _ _ _ _ RR.out.1 RR.out.2.1 RR.out.2.2 HA.out.1 HS.out.1 HS.out.2 (.inl (Nat.lt_of_lt_of_le HA.out.2 (Nat.le_refl _)))
  · go_simp
    have hn := heap_new V0 (.cells #[.int .i64 0, .int .i64 0, .int .u32 0, .int .u32 0, .bool false, .slice none 0 0] 46)
    have hcA := Ch.alloc (Q := fun _ => False) V0 (.cells #[.int .i64 0, .int .i64 0, .int .u32 0, .int .u32 0, .bool false, .slice none 0 0] 46)
    refine hK.out _ _ ?_ (fun zk => ?_)
    · exact zk.trans (Ch.alloc (Q := fun z => Qs z ∨ W.heap.size ≤ z) _ _) (fun _ _ h => h)
    clear hK K
    try go_frame
    have hsz : W.heap.size ≤ V0.heap.size := CV.out.size
    have hlt : V0.heap.size < (V0.alloc (.cells #[.int .i64 0, .int .i64 0, .int .u32 0, .int .u32 0, .bool false, .slice none 0 0] 46)).heap.size := by rw [World.size_alloc]; exact Nat.lt_succ_self _
    generalize V0.alloc (.cells #[.int .i64 0, .int .i64 0, .int .u32 0, .int .u32 0, .bool false, .slice none 0 0] 46) = v6 at hn hcA zk hlt ⊢
    have HN := hide hn
    have HA := hide (And.intro hsz hlt)
    have Cv6 := hide (CV.out.trans hcA (fun _ _ h => h))
    clear hn hcA hsz hlt
    refine Go.Proofs.Ytoabhmpakcgloaa.rd 2 sojoin2 rfl (by kernel_rfl) fun K hK => ?_
    go_simp
    refine (lhandle_is v6 (n := 1) (by omega) (by omega)).mono ?_
    rintro e v7 ⟨rfl, hb⟩
    have Cv7 := hide (Cv6.out.trans (Ch.of_below (Q := fun _ => False) hb) (fun _ _ h => h))
    have Zv7 := hide (zk.trans (Ch.of_below (Q := fun z => Qs z ∨ W.heap.size ≤ z) hb) (fun _ _ h => h))
    replace HN := hide ((Ch.of_below (Q := fun _ => False) hb).box HN.out (fun h => h))
    replace HA := hide (And.intro HA.out.1 (Nat.lt_of_lt_of_le HA.out.2 hb.size))
    clear hb
    go_wp2_with fail
    refine hK.out _ _ ?_ (fun zk => ?_)
    · exact Zv7.out
    clear hK K
    try go_frame
    refine Go.Proofs.Ytoabhmpakcgloaa.rd 3 sojoin3 rfl (by kernel_rfl) fun K hK => ?_
    go_simp
    refine (HS0.out v7 (Cv7.out)).mono ?_
    rintro e v8 ⟨dd, er, sa, sn, sc, rfl, hR, hcc⟩
    have RR := hide (And.intro (Cv7.out) (And.intro hR hcc))
    have Zv8 := hide (zk.trans hcc (fun _ _ h => .inl h))
    replace HN := hide (hcc.box HN.out (fun e => by have h1 := HQ.out _ e; have h2 := HA.out.1; omega))
    clear hR hcc
    go_wp2_with fail
    refine hK.out _ _ ?_ (fun zk => ?_)
    · exact Zv8.out
    clear hK K
    try go_frame
    apply tk 4 sojoin4 rfl (by kernel_rfl) (fun _ _ _ h => h) zk
    · intro wq zq
      go_simp
      try rfl
    go_frame
    apply tk 5 sojoin5 rfl (by kernel_rfl) (fun _ _ _ h => h) zk
    · intro wq zq
      go_simp
      try rfl
    go_frame
    apply tk 6 sojoin6 rfl (by kernel_rfl) (fun _ _ _ h => h) zk
    · intro wq zq
      go_simp
      try rfl
    go_frame
    have n9 := HN.out
    have d0 : v8.cell? ⟨V0.heap.size, 0, none⟩ = some (.int .i64 0) := by simp [Lib.cell_of_heap n9]
    have d1 : v8.cell? ⟨V0.heap.size, 1, none⟩ = some (.int .i64 0) := by simp [Lib.cell_of_heap n9]
    have d2 : v8.cell? ⟨V0.heap.size, 2, none⟩ = some (.int .u32 0) := by simp [Lib.cell_of_heap n9]
    have d3 : v8.cell? ⟨V0.heap.size, 3, none⟩ = some (.int .u32 0) := by simp [Lib.cell_of_heap n9]
    have d4 : v8.cell? ⟨V0.heap.size, 4, none⟩ = some (.bool false) := by simp [Lib.cell_of_heap n9]
    have d5 : v8.cell? ⟨V0.heap.size, 5, none⟩ = some (.slice none 0 0) := by simp [Lib.cell_of_heap n9]
    have df : ∀ o, v8.frozen? ⟨V0.heap.size, o, none⟩ = false := fun o => by simp [World.frozen?, n9]
    have HS := hide (did_set n9 (.int .i64 dd.f) (.int .i64 dd.v.n) (.int .u32 dd.v.s) (.int .u32 dd.v.g) (.bool dd.ok) (.slice sa sn sc))
    clear n9
    refine Go.Proofs.Ytoabhmpakcgloaa.rd 8 sojoin8 rfl (by kernel_rfl) fun K hK => ?_
    go_simp
    refine hK.out _ _ ?_ (fun zk => ?_)
    · exact zk.trans HS.out.2 (fun z hz e => .inr (by rw [e]; exact HA.out.1))
    clear hK K
    try go_frame
    apply tk 9 sojoin9 rfl (by kernel_rfl) (fun _ _ _ h => h) zk
    · intro wq zq
      go_simp
      try rfl
    go_frame
    refine wpAnyH_done (by kernel_rfl) ?_ _
    exact HK.out (V0.heap.size) dd er sa sn sc _ _ _ _ _ _ _ _ _ _ RR.out.1 RR.out.2.1 RR.out.2.2 HA.out.1 HS.out.1 HS.out.2 (.inl (Nat.lt_of_lt_of_le HA.out.2 (Nat.le_refl _)))

abbrev somore0 : Oper := { dst := some 120, op := Op.move (Operand.tmp 5), type := 26, pos := "law.go:243", after := #[], guard := none }
abbrev somore1 : Oper := { dst := some 121, op := Op.call { callee := Callee.value (Operand.func 10), args := #[Operand.const (Value.int IntKind.i64 1)], argTypes := #[3] }, type := 35, pos := "law.go:243", after := #[], guard := none }
abbrev somore2 : Oper := { dst := some 122, op := Op.move (Operand.tmp 0), type := 62, pos := "law.go:243", after := #[], guard := none }
abbrev somore3 : Oper := { dst := some 123, op := Op.move (Operand.tmp 9), type := 3, pos := "law.go:243", after := #[], guard := none }
abbrev somore4 : Oper := { dst := some 124, op := Op.indexAddr 62 (Operand.tmp 122) (Operand.tmp 123), type := 0, pos := "law.go:243", after := #[{ on := 2, ground := Ground.data }, { on := 3, ground := Ground.data }], guard := none }
abbrev somore5 : Oper := { dst := some 125, op := Op.fieldAddr 64 (Operand.tmp 124) 2, type := 0, pos := "law.go:243", after := #[{ on := 4, ground := Ground.data }], guard := none }
abbrev somore6 : Oper := { dst := some 126, op := Op.load 2 (Operand.tmp 125), type := 2, pos := "law.go:243", after := #[{ on := 5, ground := Ground.data }], guard := none }
abbrev somore7 : Oper := { dst := some 127, op := Op.call { callee := Callee.value (Operand.func 17), args := #[Operand.tmp 120, Operand.tmp 121, Operand.tmp 126], argTypes := #[26, 35, 2] }, type := 47, pos := "law.go:243", after := #[{ on := 0, ground := Ground.data }, { on := 1, ground := Ground.data }, { on := 6, ground := Ground.data }, { on := 1, ground := Ground.chain }], guard := none }
abbrev somore8 : Oper := { dst := some 119, op := Op.move (Operand.tmp 127), type := 47, pos := "law.go:243", after := #[{ on := 7, ground := Ground.data }], guard := none }
abbrev somore9 : Oper := { dst := some 128, op := Op.extract (Operand.tmp 119) 0, type := 46, pos := "law.go:243", after := #[{ on := 8, ground := Ground.data }], guard := none }
abbrev somore10 : Oper := { dst := some 129, op := Op.extract (Operand.tmp 119) 1, type := 27, pos := "law.go:243", after := #[{ on := 8, ground := Ground.data }, { on := 12, ground := Ground.gcOnly Departure.lateStores }], guard := none }
abbrev somore11 : Oper := { dst := some 15, op := Op.alloc 46, type := 0, pos := "law.go:243", after := #[], guard := none }
abbrev somore12 : Oper := { dst := none, op := Op.store 46 (Operand.tmp 15) (Operand.tmp 128), type := 0, pos := "law.go:243", after := #[{ on := 11, ground := Ground.data }, { on := 9, ground := Ground.data }, { on := 7, ground := Ground.chain }, { on := 0, ground := Ground.phase }, { on := 1, ground := Ground.phase }, { on := 2, ground := Ground.phase }, { on := 3, ground := Ground.phase }, { on := 4, ground := Ground.phase }, { on := 5, ground := Ground.phase }, { on := 6, ground := Ground.phase }, { on := 7, ground := Ground.phase }, { on := 8, ground := Ground.phase }, { on := 9, ground := Ground.phase }, { on := 10, ground := Ground.textOnly Departure.lateStores }, { on := 11, ground := Ground.phase }], guard := none }
abbrev somore13 : Oper := { dst := some 16, op := Op.assign (Operand.tmp 129), type := 27, pos := "law.go:243", after := #[{ on := 10, ground := Ground.data }, { on := 12, ground := Ground.chain }, { on := 0, ground := Ground.phase }, { on := 1, ground := Ground.phase }, { on := 2, ground := Ground.phase }, { on := 3, ground := Ground.phase }, { on := 4, ground := Ground.phase }, { on := 5, ground := Ground.phase }, { on := 6, ground := Ground.phase }, { on := 7, ground := Ground.phase }, { on := 8, ground := Ground.phase }, { on := 9, ground := Ground.phase }, { on := 10, ground := Ground.phase }, { on := 11, ground := Ground.phase }, { on := 12, ground := Ground.phase }], guard := none }

set_option maxRecDepth 100000 in
set_option maxHeartbeats 8000000 in
theorem so_more {W : World} {c sb so sn0 sc0 k : Nat} {m : Int} (i0 : (0 : Int) ≤ (k : Int)) (i1 : (k : Int) < (sn0 : Int)) {Qs : Nat → Prop} (hQ : ∀ z, Qs z → z < W.heap.size) (hX : ∀ wq, Ch (fun z => Qs z ∨ W.heap.size ≤ z) W wq → wq.cell? ⟨sb, so + k * 3 + 2, none⟩ = some (.int .i64 m)) {R : Dd → Int → Value → World → World → Prop}
    (hs : ∀ V, Ch (fun _ => False) W V → Calls Try.prog 17 #[.pointer (some ⟨c, 0, none⟩), hkV (1, 1), .int .i64 m] V fun e w' => ∃ dd er sa sn sc, e = .returned (.tuple #[ddV dd (.slice sa sn sc), .int .i64 er]) ∧ R dd er (.slice sa sn sc) V w' ∧ Ch Qs V w')
    {u1 u2 u3 u4 u6 u7 u8 u10 u11 u12 u13 u14 u15 u16 u17 u18 u19 u20 u21 u22 u23 u24 u25 u26 u27 u28 u29 u30 u31 u32 u33 u34 u35 u36 u37 u38 u39 u40 u41 u42 u43 u44 u45 u46 u47 u48 u49 u50 u51 u52 u53 u54 u55 u56 u57 u58 u59 u60 u61 u62 u63 u64 u65 u66 u67 u68 u69 u70 u71 u72 u73 u74 u75 u76 u77 u78 u79 u80 u81 u82 u83 u84 u85 u86 u87 u88 u89 u90 u91 u92 u93 u94 u95 u96 u97 u98 u99 u100 u101 u102 u103 u104 u105 u106 u107 u108 u109 u110 u111 u112 u113 u114 u115 u116 u117 u118 u119 u120 u121 u122 u123 u124 u125 u126 u127 u128 u129 u130 u131 u132 u133 u134 u135 u136 u137 u138 u139 u140 u141 u142 u143 u144 u145 u146 u147 u148 u149 u150 u151 u152 u153 u154 u155 u156 u157 u158 u159 u160 u161 u162 u163 u164 u165 u166 u167 u168 u169 u170 u171 u172 u173 u174 u175 u176 u177 u178 u179 u180 u181 u182 u183 u184 u185 u186 u187 u188 u189 u190 u191 u192 u193 u194 u195 u196 u197 u198 u199 u200 u201 u202 u203 u204 u205 u206 u207 u208 u209 u210 u211 u212 u213 u214 u215 u216 u217 u218 u219 u220 u221 u222 u223 u224 u225 u226 u227 u228 u229 u230 u231 u232 u233 u234 : Value} {K : Act → World → Prop} (hK0 : ∀ (A : Nat) (dd : Dd) (er : Int) (sa : Option Addr) (sn sc : Nat) (V w6 w7 : World) (t119 t120 t121 t122 t123 t124 t125 t126 t127 t128 t129 : Value), Ch (fun _ => False) W V → R dd er (.slice sa sn sc) V w6 → Ch Qs V w6 → W.heap.size ≤ A → w7.heap[A]? = some (.cells #[.int .i64 dd.f, .int .i64 dd.v.n, .int .u32 dd.v.s, .int .u32 dd.v.g, .bool dd.ok, .slice sa sn sc] 46 (0, 0)) → Ch (fun z => z = A) w6 w7 → (A < V.heap.size ∨ A = w6.heap.size) → K { tmps := List.toArray ((.slice (some ⟨sb, so, none⟩) sn0 sc0) :: u1 :: u2 :: u3 :: u4 :: (.pointer (some ⟨c, 0, none⟩)) :: u6 :: u7 :: u8 :: (.int .i64 (k : Int)) :: u10 :: u11 :: u12 :: u13 :: u14 :: (.pointer (some ⟨A, 0, none⟩)) :: (.int .i64 er) :: u17 :: u18 :: u19 :: u20 :: u21 :: u22 :: u23 :: u24 :: u25 :: u26 :: u27 :: u28 :: u29 :: u30 :: u31 :: u32 :: u33 :: u34 :: u35 :: u36 :: u37 :: u38 :: u39 :: u40 :: u41 :: u42 :: u43 :: u44 :: u45 :: u46 :: u47 :: u48 :: u49 :: u50 :: u51 :: u52 :: u53 :: u54 :: u55 :: u56 :: u57 :: u58 :: u59 :: u60 :: u61 :: u62 :: u63 :: u64 :: u65 :: u66 :: u67 :: u68 :: u69 :: u70 :: u71 :: u72 :: u73 :: u74 :: u75 :: u76 :: u77 :: u78 :: u79 :: u80 :: u81 :: u82 :: u83 :: u84 :: u85 :: u86 :: u87 :: u88 :: u89 :: u90 :: u91 :: u92 :: u93 :: u94 :: u95 :: u96 :: u97 :: u98 :: u99 :: u100 :: u101 :: u102 :: u103 :: u104 :: u105 :: u106 :: u107 :: u108 :: u109 :: u110 :: u111 :: u112 :: u113 :: u114 :: u115 :: u116 :: u117 :: u118 :: (t119) :: (t120) :: (t121) :: (t122) :: (t123) :: (t124) :: (t125) :: (t126) :: (t127) :: (t128) :: (t129) :: u130 :: u131 :: u132 :: u133 :: u134 :: u135 :: u136 :: u137 :: u138 :: u139 :: u140 :: u141 :: u142 :: u143 :: u144 :: u145 :: u146 :: u147 :: u148 :: u149 :: u150 :: u151 :: u152 :: u153 :: u154 :: u155 :: u156 :: u157 :: u158 :: u159 :: u160 :: u161 :: u162 :: u163 :: u164 :: u165 :: u166 :: u167 :: u168 :: u169 :: u170 :: u171 :: u172 :: u173 :: u174 :: u175 :: u176 :: u177 :: u178 :: u179 :: u180 :: u181 :: u182 :: u183 :: u184 :: u185 :: u186 :: u187 :: u188 :: u189 :: u190 :: u191 :: u192 :: u193 :: u194 :: u195 :: u196 :: u197 :: u198 :: u199 :: u200 :: u201 :: u202 :: u203 :: u204 :: u205 :: u206 :: u207 :: u208 :: u209 :: u210 :: u211 :: u212 :: u213 :: u214 :: u215 :: u216 :: u217 :: u218 :: u219 :: u220 :: u221 :: u222 :: u223 :: u224 :: u225 :: u226 :: u227 :: u228 :: u229 :: u230 :: u231 :: u232 :: u233 :: u234 :: []), defers := [] } w7) :
    (Code.region 23 (List.toArray (somore0 :: somore1 :: somore2 :: somore3 :: somore4 :: somore5 :: somore6 :: somore7 :: somore8 :: somore9 :: somore10 :: somore11 :: somore12 :: somore13 :: [])) true).wp Try.prog (Exit.then K (fun _ _ _ => False)) { tmps := List.toArray ((.slice (some ⟨sb, so, none⟩) sn0 sc0) :: u1 :: u2 :: u3 :: u4 :: (.pointer (some ⟨c, 0, none⟩)) :: u6 :: u7 :: u8 :: (.int .i64 (k : Int)) :: u10 :: u11 :: u12 :: u13 :: u14 :: u15 :: u16 :: u17 :: u18 :: u19 :: u20 :: u21 :: u22 :: u23 :: u24 :: u25 :: u26 :: u27 :: u28 :: u29 :: u30 :: u31 :: u32 :: u33 :: u34 :: u35 :: u36 :: u37 :: u38 :: u39 :: u40 :: u41 :: u42 :: u43 :: u44 :: u45 :: u46 :: u47 :: u48 :: u49 :: u50 :: u51 :: u52 :: u53 :: u54 :: u55 :: u56 :: u57 :: u58 :: u59 :: u60 :: u61 :: u62 :: u63 :: u64 :: u65 :: u66 :: u67 :: u68 :: u69 :: u70 :: u71 :: u72 :: u73 :: u74 :: u75 :: u76 :: u77 :: u78 :: u79 :: u80 :: u81 :: u82 :: u83 :: u84 :: u85 :: u86 :: u87 :: u88 :: u89 :: u90 :: u91 :: u92 :: u93 :: u94 :: u95 :: u96 :: u97 :: u98 :: u99 :: u100 :: u101 :: u102 :: u103 :: u104 :: u105 :: u106 :: u107 :: u108 :: u109 :: u110 :: u111 :: u112 :: u113 :: u114 :: u115 :: u116 :: u117 :: u118 :: u119 :: u120 :: u121 :: u122 :: u123 :: u124 :: u125 :: u126 :: u127 :: u128 :: u129 :: u130 :: u131 :: u132 :: u133 :: u134 :: u135 :: u136 :: u137 :: u138 :: u139 :: u140 :: u141 :: u142 :: u143 :: u144 :: u145 :: u146 :: u147 :: u148 :: u149 :: u150 :: u151 :: u152 :: u153 :: u154 :: u155 :: u156 :: u157 :: u158 :: u159 :: u160 :: u161 :: u162 :: u163 :: u164 :: u165 :: u166 :: u167 :: u168 :: u169 :: u170 :: u171 :: u172 :: u173 :: u174 :: u175 :: u176 :: u177 :: u178 :: u179 :: u180 :: u181 :: u182 :: u183 :: u184 :: u185 :: u186 :: u187 :: u188 :: u189 :: u190 :: u191 :: u192 :: u193 :: u194 :: u195 :: u196 :: u197 :: u198 :: u199 :: u200 :: u201 :: u202 :: u203 :: u204 :: u205 :: u206 :: u207 :: u208 :: u209 :: u210 :: u211 :: u212 :: u213 :: u214 :: u215 :: u216 :: u217 :: u218 :: u219 :: u220 :: u221 :: u222 :: u223 :: u224 :: u225 :: u226 :: u227 :: u228 :: u229 :: u230 :: u231 :: u232 :: u233 :: u234 :: []), defers := [] } W := by
  have HK := hide hK0
  have HS0 := hide hs
  have HQ := hide hQ
  have HX0 := hide hX
  clear hK0 hs hQ hX
  refine wp_reg (fun z => Qs z ∨ W.heap.size ≤ z) (R := fun V => Ch (fun _ => False) W V) (by kernel_rfl) (Ch.drew _) (fun V0 cV zk => ?_)
  have CV := hide cV
  clear cV
  have HX := hide (fun wq (kq : Ch (fun z => Qs z ∨ W.heap.size ≤ z) V0 wq) => HX0.out wq ((CV.out.mono (Q' := fun z => Qs z ∨ W.heap.size ≤ z) (fun _ _ h => h.elim)).trans kq (fun _ _ h => h)))
  apply tk 0 somore0 rfl (by kernel_rfl) (fun _ _ _ h => h) zk
  · intro wq zq
    go_simp
    try rfl
  go_frame
  apply tk 2 somore2 rfl (by kernel_rfl) (fun _ _ _ h => h) zk
  · intro wq zq
    go_simp
    try rfl
  go_frame
  apply tk 3 somore3 rfl (by kernel_rfl) (fun _ _ _ h => h) zk
  · intro wq zq
    go_simp
    try rfl
  go_frame
  apply tk 4 somore4 rfl (by kernel_rfl) (fun _ _ _ h => h) zk
  · intro wq zq
    obtain s0 := HX.out _ zq
    go_simp
    try rfl
  go_frame
  apply tk 5 somore5 rfl (by kernel_rfl) (fun _ _ _ h => h) zk
  · intro wq zq
    go_simp
    try rfl
  go_frame
  apply tk 6 somore6 rfl (by kernel_rfl) (fun _ _ _ h => h) zk
  · intro wq zq
    obtain s0 := HX.out _ zq
    go_simp
    try rfl
  go_frame
  refine wpAnyH_ready (rs := [1, 11]) (by kernel_rfl) (by simp) ?_
  refine AllReadyH.cons (o := somore1) rfl (fun K hK => ?_) (AllReadyH.cons (o := somore11) rfl (fun K hK => ?_) AllReadyH.nil)
  · go_simp
    refine (lhandle_is V0 (n := 1) (by omega) (by omega)).mono ?_
    rintro e v1 ⟨rfl, hb⟩
    have Cv1 := hide (CV.out.trans (Ch.of_below (Q := fun _ => False) hb) (fun _ _ h => h))
    have Zv1 := hide (zk.trans (Ch.of_below (Q := fun z => Qs z ∨ W.heap.size ≤ z) hb) (fun _ _ h => h))
    clear hb
    go_wp2_with fail
    refine hK.out _ _ ?_ (fun zk => ?_)
    · exact Zv1.out
    clear hK K
    try go_frame
    refine wpAnyH_ready (rs := [7, 11]) (by kernel_rfl) (by simp) ?_
    refine AllReadyH.cons (o := somore7) rfl (fun K hK => ?_) (AllReadyH.cons (o := somore11) rfl (fun K hK => ?_) AllReadyH.nil)
    · go_simp
      refine (HS0.out v1 (Cv1.out)).mono ?_
      rintro e v2 ⟨dd, er, sa, sn, sc, rfl, hR, hcc⟩
      have RR := hide (And.intro (Cv1.out) (And.intro hR hcc))
      have Zv2 := hide (zk.trans hcc (fun _ _ h => .inl h))
      clear hR hcc
      go_wp2_with fail
      refine hK.out _ _ ?_ (fun zk => ?_)
      · exact Zv2.out
      clear hK K
      try go_frame
      apply tk 8 somore8 rfl (by kernel_rfl) (fun _ _ _ h => h) zk
      · intro wq zq
        go_simp
        try rfl
      go_frame
      apply tk 9 somore9 rfl (by kernel_rfl) (fun _ _ _ h => h) zk
      · intro wq zq
        go_simp
        try rfl
      go_frame
      apply tk 10 somore10 rfl (by kernel_rfl) (fun _ _ _ h => h) zk
      · intro wq zq
        go_simp
        try rfl
      go_frame
      refine Go.Proofs.Ytoabhmpakcgloaa.rd 11 somore11 rfl (by kernel_rfl) fun K hK => ?_
      go_simp
      have hn := heap_new v2 (.cells #[.int .i64 0, .int .i64 0, .int .u32 0, .int .u32 0, .bool false, .slice none 0 0] 46)
      have hcA := Ch.alloc (Q := fun _ => False) v2 (.cells #[.int .i64 0, .int .i64 0, .int .u32 0, .int .u32 0, .bool false, .slice none 0 0] 46)
      refine hK.out _ _ ?_ (fun zk => ?_)
      · exact zk.trans (Ch.alloc (Q := fun z => Qs z ∨ W.heap.size ≤ z) _ _) (fun _ _ h => h)
      clear hK K
      try go_frame
      have hsz : W.heap.size ≤ v2.heap.size := (Nat.le_trans RR.out.1.size RR.out.2.2.size)
      have hlt : v2.heap.size < (v2.alloc (.cells #[.int .i64 0, .int .i64 0, .int .u32 0, .int .u32 0, .bool false, .slice none 0 0] 46)).heap.size := by rw [World.size_alloc]; exact Nat.lt_succ_self _
      generalize v2.alloc (.cells #[.int .i64 0, .int .i64 0, .int .u32 0, .int .u32 0, .bool false, .slice none 0 0] 46) = v3 at hn hcA zk hlt ⊢
      have HN := hide hn
      have HA := hide (And.intro hsz hlt)
      have CA := hide hcA
      clear hn hcA hsz hlt
      have n9 := HN.out
      have d0 : v3.cell? ⟨v2.heap.size, 0, none⟩ = some (.int .i64 0) := by simp [Lib.cell_of_heap n9]
      have d1 : v3.cell? ⟨v2.heap.size, 1, none⟩ = some (.int .i64 0) := by simp [Lib.cell_of_heap n9]
      have d2 : v3.cell? ⟨v2.heap.size, 2, none⟩ = some (.int .u32 0) := by simp [Lib.cell_of_heap n9]
      have d3 : v3.cell? ⟨v2.heap.size, 3, none⟩ = some (.int .u32 0) := by simp [Lib.cell_of_heap n9]
      have d4 : v3.cell? ⟨v2.heap.size, 4, none⟩ = some (.bool false) := by simp [Lib.cell_of_heap n9]
      have d5 : v3.cell? ⟨v2.heap.size, 5, none⟩ = some (.slice none 0 0) := by simp [Lib.cell_of_heap n9]
      have df : ∀ o, v3.frozen? ⟨v2.heap.size, o, none⟩ = false := fun o => by simp [World.frozen?, n9]
      have HS := hide (did_set n9 (.int .i64 dd.f) (.int .i64 dd.v.n) (.int .u32 dd.v.s) (.int .u32 dd.v.g) (.bool dd.ok) (.slice sa sn sc))
      clear n9
      refine Go.Proofs.Ytoabhmpakcgloaa.rd 12 somore12 rfl (by kernel_rfl) fun K hK => ?_
      go_simp
      refine hK.out _ _ ?_ (fun zk => ?_)
      · exact zk.trans HS.out.2 (fun z hz e => .inr (by rw [e]; exact HA.out.1))
      clear hK K
      try go_frame
      apply tk 13 somore13 rfl (by kernel_rfl) (fun _ _ _ h => h) zk
      · intro wq zq
        go_simp
        try rfl
      go_frame
      refine wpAnyH_done (by kernel_rfl) ?_ _
      exact HK.out (v2.heap.size) dd er sa sn sc _ _ _ _ _ _ _ _ _ _ _ _ _ _ RR.out.1 RR.out.2.1 RR.out.2.2 HA.out.1 HS.out.1 ((CA.out.mono (fun _ _ h => h.elim)).trans HS.out.2 (fun _ _ h => h)) (.inr rfl)
    · go_simp
      have hn := heap_new v1 (.cells #[.int .i64 0, .int .i64 0, .int .u32 0, .int .u32 0, .bool false, .slice none 0 0] 46)
      have hcA := Ch.alloc (Q := fun _ => False) v1 (.cells #[.int .i64 0, .int .i64 0, .int .u32 0, .int .u32 0, .bool false, .slice none 0 0] 46)
      refine hK.out _ _ ?_ (fun zk => ?_)
      · exact zk.trans (Ch.alloc (Q := fun z => Qs z ∨ W.heap.size ≤ z) _ _) (fun _ _ h => h)
      clear hK K
      try go_frame
      have hsz : W.heap.size ≤ v1.heap.size := Cv1.out.size
      have hlt : v1.heap.size < (v1.alloc (.cells #[.int .i64 0, .int .i64 0, .int .u32 0, .int .u32 0, .bool false, .slice none 0 0] 46)).heap.size := by rw [World.size_alloc]; exact Nat.lt_succ_self _
      generalize v1.alloc (.cells #[.int .i64 0, .int .i64 0, .int .u32 0, .int .u32 0, .bool false, .slice none 0 0] 46) = v4 at hn hcA zk hlt ⊢
      have HN := hide hn
      have HA := hide (And.intro hsz hlt)
      have Cv4 := hide (Cv1.out.trans hcA (fun _ _ h => h))
      clear hn hcA hsz hlt
      refine Go.Proofs.Ytoabhmpakcgloaa.rd 7 somore7 rfl (by kernel_rfl) fun K hK => ?_
      go_simp
      refine (HS0.out v4 (Cv4.out)).mono ?_
      rintro e v5 ⟨dd, er, sa, sn, sc, rfl, hR, hcc⟩
      have RR := hide (And.intro (Cv4.out) (And.intro hR hcc))
      have Zv5 := hide (zk.trans hcc (fun _ _ h => .inl h))
      replace HN := hide (hcc.box HN.out (fun e => by have h1 := HQ.out _ e; have h2 := HA.out.1; omega))
      clear hR hcc
      go_wp2_with fail
      refine hK.out _ _ ?_ (fun zk => ?_)
      · exact Zv5.out
      clear hK K
      try go_frame
      apply tk 8 somore8 rfl (by kernel_rfl) (fun _ _ _ h => h) zk
      · intro wq zq
        go_simp
        try rfl
      go_frame
      apply tk 9 somore9 rfl (by kernel_rfl) (fun _ _ _ h => h) zk
      · intro wq zq
        go_simp
        try rfl
      go_frame
      apply tk 10 somore10 rfl (by kernel_rfl) (fun _ _ _ h => h) zk
      · intro wq zq
        go_simp
        try rfl
      go_frame
      have n9 := HN.out
      have d0 : v5.cell? ⟨v1.heap.size, 0, none⟩ = some (.int .i64 0) := by simp [Lib.cell_of_heap n9]
      have d1 : v5.cell? ⟨v1.heap.size, 1, none⟩ = some (.int .i64 0) := by simp [Lib.cell_of_heap n9]
      have d2 : v5.cell? ⟨v1.heap.size, 2, none⟩ = some (.int .u32 0) := by simp [Lib.cell_of_heap n9]
      have d3 : v5.cell? ⟨v1.heap.size, 3, none⟩ = some (.int .u32 0) := by simp [Lib.cell_of_heap n9]
      have d4 : v5.cell? ⟨v1.heap.size, 4, none⟩ = some (.bool false) := by simp [Lib.cell_of_heap n9]
      have d5 : v5.cell? ⟨v1.heap.size, 5, none⟩ = some (.slice none 0 0) := by simp [Lib.cell_of_heap n9]
      have df : ∀ o, v5.frozen? ⟨v1.heap.size, o, none⟩ = false := fun o => by simp [World.frozen?, n9]
      have HS := hide (did_set n9 (.int .i64 dd.f) (.int .i64 dd.v.n) (.int .u32 dd.v.s) (.int .u32 dd.v.g) (.bool dd.ok) (.slice sa sn sc))
      clear n9
      refine Go.Proofs.Ytoabhmpakcgloaa.rd 12 somore12 rfl (by kernel_rfl) fun K hK => ?_
      go_simp
      refine hK.out _ _ ?_ (fun zk => ?_)
      · exact zk.trans HS.out.2 (fun z hz e => .inr (by rw [e]; exact HA.out.1))
      clear hK K
      try go_frame
      apply tk 13 somore13 rfl (by kernel_rfl) (fun _ _ _ h => h) zk
      · intro wq zq
        go_simp
        try rfl
      go_frame
      refine wpAnyH_done (by kernel_rfl) ?_ _
      exact HK.out (v1.heap.size) dd er sa sn sc _ _ _ _ _ _ _ _ _ _ _ _ _ _ RR.out.1 RR.out.2.1 RR.out.2.2 HA.out.1 HS.out.1 HS.out.2 (.inl (Nat.lt_of_lt_of_le HA.out.2 (Nat.le_refl _)))
  · go_simp
    have hn := heap_new V0 (.cells #[.int .i64 0, .int .i64 0, .int .u32 0, .int .u32 0, .bool false, .slice none 0 0] 46)
    have hcA := Ch.alloc (Q := fun _ => False) V0 (.cells #[.int .i64 0, .int .i64 0, .int .u32 0, .int .u32 0, .bool false, .slice none 0 0] 46)
    refine hK.out _ _ ?_ (fun zk => ?_)
    · exact zk.trans (Ch.alloc (Q := fun z => Qs z ∨ W.heap.size ≤ z) _ _) (fun _ _ h => h)
    clear hK K
    try go_frame
    have hsz : W.heap.size ≤ V0.heap.size := CV.out.size
    have hlt : V0.heap.size < (V0.alloc (.cells #[.int .i64 0, .int .i64 0, .int .u32 0, .int .u32 0, .bool false, .slice none 0 0] 46)).heap.size := by rw [World.size_alloc]; exact Nat.lt_succ_self _
    generalize V0.alloc (.cells #[.int .i64 0, .int .i64 0, .int .u32 0, .int .u32 0, .bool false, .slice none 0 0] 46) = v6 at hn hcA zk hlt ⊢
    have HN := hide hn
    have HA := hide (And.intro hsz hlt)
    have Cv6 := hide (CV.out.trans hcA (fun _ _ h => h))
    clear hn hcA hsz hlt
    refine Go.Proofs.Ytoabhmpakcgloaa.rd 1 somore1 rfl (by kernel_rfl) fun K hK => ?_
    go_simp
    refine (lhandle_is v6 (n := 1) (by omega) (by omega)).mono ?_
    rintro e v7 ⟨rfl, hb⟩
    have Cv7 := hide (Cv6.out.trans (Ch.of_below (Q := fun _ => False) hb) (fun _ _ h => h))
    have Zv7 := hide (zk.trans (Ch.of_below (Q := fun z => Qs z ∨ W.heap.size ≤ z) hb) (fun _ _ h => h))
    replace HN := hide ((Ch.of_below (Q := fun _ => False) hb).box HN.out (fun h => h))
    replace HA := hide (And.intro HA.out.1 (Nat.lt_of_lt_of_le HA.out.2 hb.size))
    clear hb
    go_wp2_with fail
    refine hK.out _ _ ?_ (fun zk => ?_)
    · exact Zv7.out
    clear hK K
    try go_frame
    refine Go.Proofs.Ytoabhmpakcgloaa.rd 7 somore7 rfl (by kernel_rfl) fun K hK => ?_
    go_simp
    refine (HS0.out v7 (Cv7.out)).mono ?_
    rintro e v8 ⟨dd, er, sa, sn, sc, rfl, hR, hcc⟩
    have RR := hide (And.intro (Cv7.out) (And.intro hR hcc))
    have Zv8 := hide (zk.trans hcc (fun _ _ h => .inl h))
    replace HN := hide (hcc.box HN.out (fun e => by have h1 := HQ.out _ e; have h2 := HA.out.1; omega))
    clear hR hcc
    go_wp2_with fail
    refine hK.out _ _ ?_ (fun zk => ?_)
    · exact Zv8.out
    clear hK K
    try go_frame
    apply tk 8 somore8 rfl (by kernel_rfl) (fun _ _ _ h => h) zk
    · intro wq zq
      go_simp
      try rfl
    go_frame
    apply tk 9 somore9 rfl (by kernel_rfl) (fun _ _ _ h => h) zk
    · intro wq zq
      go_simp
      try rfl
    go_frame
    apply tk 10 somore10 rfl (by kernel_rfl) (fun _ _ _ h => h) zk
    · intro wq zq
      go_simp
      try rfl
    go_frame
    have n9 := HN.out
    have d0 : v8.cell? ⟨V0.heap.size, 0, none⟩ = some (.int .i64 0) := by simp [Lib.cell_of_heap n9]
    have d1 : v8.cell? ⟨V0.heap.size, 1, none⟩ = some (.int .i64 0) := by simp [Lib.cell_of_heap n9]
    have d2 : v8.cell? ⟨V0.heap.size, 2, none⟩ = some (.int .u32 0) := by simp [Lib.cell_of_heap n9]
    have d3 : v8.cell? ⟨V0.heap.size, 3, none⟩ = some (.int .u32 0) := by simp [Lib.cell_of_heap n9]
    have d4 : v8.cell? ⟨V0.heap.size, 4, none⟩ = some (.bool false) := by simp [Lib.cell_of_heap n9]
    have d5 : v8.cell? ⟨V0.heap.size, 5, none⟩ = some (.slice none 0 0) := by simp [Lib.cell_of_heap n9]
    have df : ∀ o, v8.frozen? ⟨V0.heap.size, o, none⟩ = false := fun o => by simp [World.frozen?, n9]
    have HS := hide (did_set n9 (.int .i64 dd.f) (.int .i64 dd.v.n) (.int .u32 dd.v.s) (.int .u32 dd.v.g) (.bool dd.ok) (.slice sa sn sc))
    clear n9
    refine Go.Proofs.Ytoabhmpakcgloaa.rd 12 somore12 rfl (by kernel_rfl) fun K hK => ?_
    go_simp
    refine hK.out _ _ ?_ (fun zk => ?_)
    · exact zk.trans HS.out.2 (fun z hz e => .inr (by rw [e]; exact HA.out.1))
    clear hK K
    try go_frame
    apply tk 13 somore13 rfl (by kernel_rfl) (fun _ _ _ h => h) zk
    · intro wq zq
      go_simp
      try rfl
    go_frame
    refine wpAnyH_done (by kernel_rfl) ?_ _
    exact HK.out (V0.heap.size) dd er sa sn sc _ _ _ _ _ _ _ _ _ _ _ _ _ _ RR.out.1 RR.out.2.1 RR.out.2.2 HA.out.1 HS.out.1 HS.out.2 (.inl (Nat.lt_of_lt_of_le HA.out.2 (Nat.le_refl _)))

end Go.Proofs.Ytoabhmpakcgloaa

namespace Go.Proofs.Ytoabhmpakcgloaa
open Go.RowKit

def Sl3 (N : Nat) (v : Value) (n b o : Nat) : Prop := ∃ a c, v = .slice a n c ∧ n ≤ c ∧ n ≤ 9223372036854775807 ∧ (0 < n → a = some ⟨b, o, none⟩ ∧ b < N)
def Lst {α : Type} (N k : Nat) (A : Nat → Nat → α → Prop) (v : Value) (l : List α) : Prop := ∃ b o, Sl3 N v l.length b o ∧ ∀ i (h : i < l.length), A b (o + i * k) l[i]
def pkW (c : Int) (n : Nat) : Nat := ((if c < 0 then -(c + 1) else c) % (n : Int)).toNat
theorem pkW_is {c d : Int} {n : Nat} (hn : 0 < n) (hd : (if c < 0 then -(c + 1) else c) = d) : pkW c n < n ∧ d % (n : Int) = (pkW c n : Int) := by
  unfold pkW
  rw [hd]
  have e1 := Int.emod_nonneg d (show (n : Int) ≠ 0 by omega)
  have e2 := Int.emod_lt_of_pos d (show (0 : Int) < n by omega)
  omega
theorem pkW_lt (c : Int) {n : Nat} (hn : 0 < n) : pkW c n < n := (pkW_is (c := c) hn rfl).1
theorem retI {a b : Int} (h : a = b) : Ending.returned (.int .i64 a) = Ending.returned (.int .i64 b) := by rw [h]
theorem picks_is {c : Int} (hc : I64 c) {n : Nat} (hn : 0 < n) (hn2 : n ≤ 100000) (w : World) :
    Calls Try.prog 11 #[.int .i64 c, .int .i64 (n : Int)] w fun e w' => e = .returned (.int .i64 (pkW c n : Int)) ∧ w' = w := by
  obtain ⟨h1, h2⟩ := hc
  have hz : ((n : Int) == 0) = false := by simp; omega
  by_cases hc : c < 0
  · obtain ⟨hk, e⟩ := pkW_is (c := c) hn (if_pos hc)
    have w1 : IntKind.i64.wrap (c + 1) = c + 1 := by rw [IntKind.wrap_i64]; omega
    have w2 : IntKind.i64.wrap (-(c + 1)) = -(c + 1) := by rw [IntKind.wrap_i64]; omega
    go_enter Try.func11, Try.ntmps11
    go_wp2
    go_ret
    exact ⟨retI (by rw [← Int.neg_tmod, Int.tmod_eq_emod_of_nonneg (by omega)]; exact e), rfl⟩
  · obtain ⟨hk, e⟩ := pkW_is (c := c) hn (if_neg hc)
    go_enter Try.func11, Try.ntmps11
    go_wp2
    go_ret
    exact ⟨retI (by first | rfl | exact e), rfl⟩
/-- a step of a wait group's script -/
structure Cz where
  wt : Bool
  g : Int
  n : Int
structure CzAt (w : World) (b o : Nat) (y : Cz) : Prop where
  c0 : w.cell? ⟨b, o, none⟩ = some (.bool y.wt)
  c1 : w.cell? ⟨b, o + 1, none⟩ = some (.int .i64 y.g)
  c2 : w.cell? ⟨b, o + 2, none⟩ = some (.int .i64 y.n)
  g : I64 y.g
  n : I64 y.n
theorem cell_lt {w : World} {b o : Nat} {v : Value} (h : w.cell? ⟨b, o, none⟩ = some v) : b < w.heap.size := by
  rcases Nat.lt_or_ge b w.heap.size with h1 | h1
  · exact h1
  · simp [World.cell?, Array.getElem?_eq_none h1] at h
theorem cell_below {w w' : World} (hb : Below w.heap.size w w') {b o : Nat} {v : Value} (h : w.cell? ⟨b, o, none⟩ = some v) : w'.cell? ⟨b, o, none⟩ = some v :=
  (World.cell?_of_block (w := w) (hb.block b (cell_lt h))).trans h
theorem CzAt.below {w w' : World} (hb : Below w.heap.size w w') {b o : Nat} {y : Cz} (h : CzAt w b o y) : CzAt w' b o y :=
  ⟨cell_below hb h.c0, cell_below hb h.c1, cell_below hb h.c2, h.g, h.n⟩

def hkF (x : Hnd) : List Value := [.int .u32 x.1, .int .u32 x.2]
theorem hkF_len (x : Hnd) : (hkF x).length = 2 := rfl
theorem hkF_one (x : Hnd) : ∀ v ∈ hkF x, v.oneCell' = true := by
  intro u hu
  simp only [hkF, List.mem_cons, List.not_mem_nil, or_false] at hu
  rcases hu with rfl | rfl <;> rfl
abbrev HdRow (w : World) (B : Nat) (v : Value) (l : List Hnd) : Prop := Row hkF 2 35 w B v l
theorem nfHd : (Try.prog.info? 35).map (fun i => (i.zero, i.size, i.bytes)) = some (some (hvW 0 0), 2, 8) := by kernel_rfl

/-- the law's world: nothing below w's is changed; the locks; the line of who waits lies at t -/
structure Jw (w wr : World) (N c bp : Nat) (l : List Wt) (ls : List Lk) (G : Nat → Prop) (t : Value) (line : List Hnd) : Prop where
  s1 : LW wr N c bp l ls G
  bl : Below w.heap.size w wr
  lo : w.heap.size ≤ N
  ro : HdRow wr w.heap.size t line
section
variable {w wr w' : World} {N c bp : Nat} {l : List Wt} {ls : List Lk} {G : Nat → Prop} {t : Value} {line : List Hnd}
theorem Jw.quiet (h : Jw w wr N c bp l ls G t line) (hc : Ch (fun _ => False) wr w') : Jw w w' N c bp l ls G t line :=
  ⟨h.s1.quiet hc, h.bl.trans (hc.below h.bl.size (fun _ _ h => h)), h.lo, Row.ch h.ro hc (fun _ _ h => h)⟩
theorem Jw.notG (h : Jw w wr N c bp l ls G t line) {b : Nat} (hb : t.ownBlock = some b) : ¬ G b := by
  obtain ⟨_, _, cur, e⟩ := own_in h.ro hb
  exact h.s1.nbox e (by decide) (by decide) (by decide) (by decide) (by decide)
theorem Jw.call (h : Jw w wr N c bp l ls G t line) {l2 : List Wt} {ls2 : List Lk} (k : AnsL wr w' N c bp G l2 ls2) : ∃ G', Jw w w' N c bp l2 ls2 G' t line ∧ Ch G wr w' ∧ ∀ y, G' y → G y ∨ wr.heap.size ≤ y := by
  obtain ⟨G', h1, h2, h3⟩ := k
  exact ⟨G', ⟨h1, h.bl.trans (h2.below h.bl.size (fun y hy e => by have := (h.s1.foot e).1; have := h.lo; omega)), h.lo, Row.ch h.ro h2 (fun b hb => h.notG hb)⟩, h2, h3⟩
/-- a box of the caller is written over: one that is new -/
theorem Jw.away (h : Jw w wr N c bp l ls G t line) {A : Nat} (hA : w.heap.size ≤ A) (hG : ¬ G A) (ht : ¬ t.ownBlock = some A) (hc : Ch (fun y => y = A) wr w') : Jw w w' N c bp l ls G t line :=
  ⟨h.s1.frame hc (fun y hy e => hG (e ▸ hy)), h.bl.trans (hc.below h.bl.size (fun y hy e => by omega)), h.lo, Row.ch h.ro hc (fun b hb e => ht (by rw [hb, e]))⟩
/-- a region that asked: what it leaves -/
theorem Jw.asked (h : Jw w wr N c bp l ls G t line) {V w6 : World} (cV : Ch (fun _ => False) wr V) {l2 : List Wt} {ls2 : List Lk} (k : AnsL V w6 N c bp G l2 ls2) {A : Nat} (hA : wr.heap.size ≤ A) (hc : Ch (fun z => z = A) w6 w') (hd : A < V.heap.size ∨ A = w6.heap.size) :
    ∃ G', Jw w w' N c bp l2 ls2 G' t line ∧ Ch (fun y => G y ∨ y = A) wr w' := by
  obtain ⟨G', h1, h2, h3⟩ := (h.quiet cV).call k
  have ht : ¬ t.ownBlock = some A := fun e => by have := (own_in h.ro e).2.1; omega
  have hg : ¬ G' A := fun e => by
    rcases hd with hd | hd
    · rcases h3 A e with e2 | e2
      · have := (h.s1.foot e2).2; omega
      · omega
    · have := (h1.s1.foot e).2; omega
  exact ⟨G', h1.away (by have := h.bl.size; omega) hg ht hc, (((cV.mono (Q' := fun y => G y ∨ y = A) (fun _ _ h => h.elim)).trans h2 (fun y _ e => .inl e)).trans hc (fun y _ e => .inr e))⟩
end

/-- is g among the first of a line -/
def inL (g : Hnd) (r : List Hnd) : Bool := r.any fun x => x.1 == g.1 && x.2 == g.2
theorem inL_snoc (g : Hnd) (r : List Hnd) (x : Hnd) : inL g (r ++ [x]) = (inL g r || (x.1 == g.1 && x.2 == g.2)) := by simp [inL]
theorem inL_iff (g : Hnd) (r : List Hnd) : inL g r = true ↔ g ∈ r := by
  unfold inL
  rw [List.any_eq_true]
  constructor
  · rintro ⟨x, hx, e⟩
    simp only [Bool.and_eq_true, beq_iff_eq] at e
    rwa [show g = x from Prod.ext e.1.symm e.2.symm]
  · exact fun h => ⟨g, h, by simp⟩

/-- the one wait group of LocksJoin -/
abbrev gJ (n : Int) : List Lk := [⟨(1, 1), false, (0, 0), n⟩]
theorem gJ_find (n : Int) : fnl (gJ n) (1, 1) = some ⟨(1, 1), false, (0, 0), n⟩ := rfl
theorem gJ_set (n m : Int) : setl (gJ n) ⟨(1, 1), false, (0, 0), m⟩ = gJ m := rfl
section
variable {l : List Wt} {line : List Hnd} {n : Int} {g : Hnd}
theorem joA (h : JI l 1 4 (fun _ => line)) (ng : nnH g = false) (hm : g ∈ line) : askK l (gJ n) g (1, 1) 3 = (0, 163, l, gJ n) := by
  have hw : 0 < (sel (isWho g.1 g.2) l).length := List.length_pos_iff.2 ((h.waits g).2 ⟨0, by decide, hm⟩)
  unfold askK
  rw [if_neg (by rw [ng]; decide), if_pos hw]
theorem joW (h : JI l 1 4 (fun _ => line)) (hm : ¬ g ∈ line) : sel (isWho g.1 g.2) l = [] := by
  apply Classical.byContradiction
  intro e
  obtain ⟨j, -, h2⟩ := (h.waits g).1 e
  exact hm h2
theorem joB (h : JI l 1 4 (fun _ => line)) (ng : nnH g = false) (hm : ¬ g ∈ line) (hn : n = 0) : askK l (gJ n) g (1, 1) 3 = (0, 0, l, gJ n) := by
  unfold askK
  rw [if_neg (by rw [ng]; decide), joW h hm, if_neg (by decide), if_neg (by decide), gJ_find]
  subst hn
  rfl
theorem joC (h : JI l 1 4 (fun _ => line)) (ng : nnH g = false) (hm : ¬ g ∈ line) (hn : ¬ n = 0) : askK l (gJ n) g (1, 1) 3 = (1, 0, putW l ((0 : Nat) + 1 : Int) 1 4 g.1 g.2 0 0 0 0, gJ n) := by
  unfold askK
  rw [if_neg (by rw [ng]; decide), joW h hm, if_neg (by decide), if_neg (by decide), gJ_find]
  show (if kdK _ ≠ 3 then _ else _) = _
  rw [if_neg (fun e => e rfl), if_neg (fun e => by cases e), if_neg hn]
  rfl
theorem joP (h : JI l 1 4 (fun _ => line)) (ng : nnH g = false) (u1 : UsW g.1) (u2 : UsW g.2) (hm : ¬ g ∈ line) : JI (putW l ((0 : Nat) + 1 : Int) 1 4 g.1 g.2 0 0 0 0) 1 4 (fun _ => line ++ [g]) :=
  (h.put (j := 0) (by decide) ng u1 u2 (by decide) (by decide) (joW h hm)).congr (fun j hj => by rw [if_pos (by omega)])
/-- what an Add comes to -/
theorem joD (h : JI l 1 4 (fun _ => line)) {m f er : Int} {ws : List Wk} {l2 : List Wt} {ls2 : List Lk} (ha : AddR l (gJ n) (1, 1) m f er ws l2 ls2) :
    er = 0 ∧ l2.length = l.length ∧ ((0 ≤ n + m ∧ n + m ≤ 2147483647 ∧ f = 0 ∧ ls2 = gJ (n + m) ∧ ((n + m = 0 ∧ ws.map wkWho = line ∧ JI l2 1 4 (fun _ => [])) ∨ (¬ n + m = 0 ∧ ws = [] ∧ l2 = l))) ∨ (¬ (0 ≤ n + m ∧ n + m ≤ 2147483647) ∧ f = 18 ∧ ws = [] ∧ l2 = l ∧ ls2 = gJ n)) := by
  unfold AddR at ha
  rw [if_neg (by decide), gJ_find] at ha
  simp only [Bool.false_eq_true, if_false] at ha
  split at ha
  · rename_i hr
    obtain ⟨rfl, rfl, rfl, h4⟩ := ha
    split at h4
    · rename_i h0
      obtain ⟨e1, e2, e3⟩ := JI.all (n := 1) (d := 4) (j := 0) (by decide) h4 h
      exact ⟨rfl, e3, .inl ⟨hr.1, hr.2, rfl, rfl, .inl ⟨h0, e1, e2.congr (fun j hj => by rw [if_pos (by omega)])⟩⟩⟩
    · rename_i h0
      obtain ⟨rfl, rfl⟩ := h4
      exact ⟨rfl, rfl, .inl ⟨hr.1, hr.2, rfl, rfl, .inr ⟨h0, rfl, rfl⟩⟩⟩
  · rename_i hr
    obtain ⟨rfl, rfl, rfl, rfl, rfl⟩ := ha
    exact ⟨rfl, rfl, .inr ⟨hr, rfl, rfl, rfl, rfl⟩⟩
end

end Go.Proofs.Ytoabhmpakcgloaa
