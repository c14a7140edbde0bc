/- ChansNil for every two handles and every value: on no channels each call with an error answers ErrArg, every other one its zero value. There are no conditions. Layer 14: no channels. Layer 14: two empty answers are alike. Layer 14: ChansNil, walked. Layer 14: arguments that came in: rows, handles, values. -/
import Derived.Test.YtplnafocanfcgaaYs
import Derived.Test.YtplnafocanfcgaaXa
import Derived.ProofKit
import Derived.OpenShut
import Derived.ShutString
import Derived.JoinedCond
import Derived.Deep.DeepHandedRow
import Derived.Deep.SlicePairs
import Derived.Carry
import Derived.ChangeOld
import Derived.Below
namespace Go.Proofs.Ytplnafocanfcgaa
open Go.RowKit

abbrev kcs0 : Oper := { dst := some 9, op := Op.move (Operand.tmp 5), type := 113, pos := "chans.go:99", after := #[], guard := none }
abbrev kcs1 : Oper := { dst := some 10, op := Op.binOp BinOp.neq 113 (Operand.tmp 9) (Operand.const (Value.pointer none)) 113, type := 4, pos := "chans.go:99", after := #[{ on := 0, ground := Ground.data }], guard := none }
abbrev kcs2 : Oper := { dst := some 11, op := Op.move (Operand.tmp 10), type := 4, pos := "chans.go:99", after := #[{ on := 1, ground := Ground.data }], guard := none }
abbrev kcs3 : Oper := { dst := some 12, op := Op.move (Operand.tmp 5), type := 113, pos := "chans.go:99", after := #[{ on := 2, ground := Ground.guard }], guard := some (2, true) }
abbrev kcs4 : Oper := { dst := some 13, op := Op.nilCheck (Operand.tmp 12), type := 0, pos := "chans.go:99", after := #[{ on := 3, ground := Ground.data }, { on := 2, ground := Ground.guard }], guard := some (2, true) }
abbrev kcs5 : Oper := { dst := some 14, op := Op.fieldAddr 117 (Operand.tmp 13) 2, type := 0, pos := "chans.go:99", after := #[{ on := 4, ground := Ground.data }, { on := 2, ground := Ground.guard }], guard := some (2, true) }
abbrev kcs6 : Oper := { dst := some 15, op := Op.load 4 (Operand.tmp 14), type := 4, pos := "chans.go:99", after := #[{ on := 5, ground := Ground.data }, { on := 2, ground := Ground.guard }], guard := some (2, true) }
abbrev kcs7 : Oper := { dst := some 16, op := Op.move (Operand.tmp 15), type := 4, pos := "chans.go:99", after := #[{ on := 6, ground := Ground.data }, { on := 2, ground := Ground.chain }, { on := 2, ground := Ground.guard }], guard := some (2, true) }
abbrev kcs8 : Oper := { dst := some 17, op := Op.move (Operand.tmp 5), type := 113, pos := "chans.go:99", after := #[{ on := 7, ground := Ground.guard }], guard := some (7, false) }
abbrev kcs9 : Oper := { dst := some 18, op := Op.nilCheck (Operand.tmp 17), type := 0, pos := "chans.go:99", after := #[{ on := 8, ground := Ground.data }, { on := 7, ground := Ground.guard }], guard := some (7, false) }
abbrev kcs10 : Oper := { dst := some 19, op := Op.fieldAddr 117 (Operand.tmp 18) 0, type := 0, pos := "chans.go:99", after := #[{ on := 9, ground := Ground.data }, { on := 7, ground := Ground.guard }], guard := some (7, false) }
abbrev kcs11 : Oper := { dst := some 20, op := Op.load 115 (Operand.tmp 19), type := 115, pos := "chans.go:99", after := #[{ on := 10, ground := Ground.data }, { on := 7, ground := Ground.guard }], guard := some (7, false) }
abbrev kcs12 : Oper := { dst := some 21, op := Op.call { callee := Callee.value (Operand.func 60), args := #[Operand.tmp 20, Operand.const (Value.int IntKind.i64 2)], argTypes := #[115, 44] }, type := 4, pos := "chans.go:99", after := #[{ on := 11, ground := Ground.data }, { on := 7, ground := Ground.chain }, { on := 7, ground := Ground.guard }], guard := some (7, false) }
abbrev kcs13 : Oper := { dst := some 22, op := Op.pick (Operand.tmp 16) (Operand.const (Value.bool true)) (Operand.tmp 21), type := 4, pos := "chans.go:99", after := #[{ on := 7, ground := Ground.data }, { on := 12, ground := Ground.data }, { on := 2, ground := Ground.guard }], guard := some (2, true) }
abbrev kcs14 : Oper := { dst := some 23, op := Op.move (Operand.tmp 22), type := 4, pos := "chans.go:99", after := #[{ on := 13, ground := Ground.data }, { on := 12, ground := Ground.chain }, { on := 2, ground := Ground.guard }], guard := some (2, true) }
abbrev kcs15 : Oper := { dst := some 24, op := Op.move (Operand.tmp 5), type := 113, pos := "chans.go:99", after := #[{ on := 14, ground := Ground.guard }], guard := some (14, false) }
abbrev kcs16 : Oper := { dst := some 25, op := Op.nilCheck (Operand.tmp 24), type := 0, pos := "chans.go:99", after := #[{ on := 15, ground := Ground.data }, { on := 14, ground := Ground.guard }], guard := some (14, false) }
abbrev kcs17 : Oper := { dst := some 26, op := Op.fieldAddr 117 (Operand.tmp 25) 1, type := 0, pos := "chans.go:99", after := #[{ on := 16, ground := Ground.data }, { on := 14, ground := Ground.guard }], guard := some (14, false) }
abbrev kcs18 : Oper := { dst := some 27, op := Op.load 110 (Operand.tmp 26), type := 110, pos := "chans.go:99", after := #[{ on := 17, ground := Ground.data }, { on := 14, ground := Ground.guard }], guard := some (14, false) }
abbrev kcs19 : Oper := { dst := some 28, op := Op.call { callee := Callee.value (Operand.func 58), args := #[Operand.tmp 27], argTypes := #[110] }, type := 3, pos := "chans.go:99", after := #[{ on := 18, ground := Ground.data }, { on := 14, ground := Ground.chain }, { on := 14, ground := Ground.guard }], guard := some (14, false) }
abbrev kcs20 : Oper := { dst := some 29, op := Op.move (Operand.tmp 5), type := 113, pos := "chans.go:99", after := #[{ on := 14, ground := Ground.guard }], guard := some (14, false) }
abbrev kcs21 : Oper := { dst := some 30, op := Op.nilCheck (Operand.tmp 29), type := 0, pos := "chans.go:99", after := #[{ on := 20, ground := Ground.data }, { on := 14, ground := Ground.guard }], guard := some (14, false) }
abbrev kcs22 : Oper := { dst := some 31, op := Op.fieldAddr 117 (Operand.tmp 30) 1, type := 0, pos := "chans.go:99", after := #[{ on := 21, ground := Ground.data }, { on := 14, ground := Ground.guard }], guard := some (14, false) }
abbrev kcs23 : Oper := { dst := some 32, op := Op.load 110 (Operand.tmp 31), type := 110, pos := "chans.go:99", after := #[{ on := 22, ground := Ground.data }, { on := 14, ground := Ground.guard }], guard := some (14, false) }
abbrev kcs24 : Oper := { dst := some 33, op := Op.call { callee := Callee.value (Operand.func 59), args := #[Operand.tmp 32], argTypes := #[110] }, type := 3, pos := "chans.go:99", after := #[{ on := 23, ground := Ground.data }, { on := 19, ground := Ground.chain }, { on := 14, ground := Ground.guard }], guard := some (14, false) }
abbrev kcs25 : Oper := { dst := some 34, op := Op.binOp BinOp.lss 3 (Operand.tmp 28) (Operand.tmp 33) 3, type := 4, pos := "chans.go:99", after := #[{ on := 19, ground := Ground.data }, { on := 24, ground := Ground.data }, { on := 14, ground := Ground.guard }], guard := some (14, false) }
abbrev kcs26 : Oper := { dst := some 35, op := Op.pick (Operand.tmp 23) (Operand.const (Value.bool true)) (Operand.tmp 34), type := 4, pos := "chans.go:99", after := #[{ on := 14, ground := Ground.data }, { on := 25, ground := Ground.data }, { on := 2, ground := Ground.guard }], guard := some (2, true) }
abbrev kcs27 : Oper := { dst := some 36, op := Op.pick (Operand.tmp 11) (Operand.tmp 35) (Operand.const (Value.bool false)), type := 4, pos := "chans.go:99", after := #[{ on := 2, ground := Ground.data }, { on := 26, ground := Ground.data }], guard := none }
abbrev kcs28 : Oper := { dst := some 4, op := Op.assign (Operand.tmp 36), type := 4, pos := "chans.go:99", after := #[{ on := 27, ground := Ground.data }, { on := 24, ground := Ground.chain }, { on := 0, ground := Ground.phase }, { on := 1, ground := Ground.phase }, { on := 2, ground := Ground.phase }, { on := 3, ground := Ground.phase }, { on := 4, ground := Ground.phase }, { on := 5, ground := Ground.phase }, { on := 6, ground := Ground.phase }, { on := 7, ground := Ground.phase }, { on := 8, ground := Ground.phase }, { on := 9, ground := Ground.phase }, { on := 10, ground := Ground.phase }, { on := 11, ground := Ground.phase }, { on := 12, ground := Ground.phase }, { on := 13, ground := Ground.phase }, { on := 14, ground := Ground.phase }, { on := 15, ground := Ground.phase }, { on := 16, ground := Ground.phase }, { on := 17, ground := Ground.phase }, { on := 18, ground := Ground.phase }, { on := 19, ground := Ground.phase }, { on := 20, ground := Ground.phase }, { on := 21, ground := Ground.phase }, { on := 22, ground := Ground.phase }, { on := 23, ground := Ground.phase }, { on := 24, ground := Ground.phase }, { on := 25, ground := Ground.phase }, { on := 26, ground := Ground.phase }, { on := 27, ground := Ground.phase }], guard := none }

theorem cnew_nil (w : World) : Calls Try.prog 8 #[.pointer none] w fun e w' => e = .returned (.tuple #[.pointer none, .int .i64 1]) ∧ Below w.heap.size w w' := by
  go_enter Try.func8, Try.ntmps8
  go_wp2_with fail
  go_ret2
  exact ⟨rfl, Below.refl _ _⟩
theorem cat_nil (w : World) (g : Hnd) : Calls Try.prog 51 #[.pointer none, hkV g] w fun e w' => e = .returned (.pointer none) ∧ Below w.heap.size w w' := by
  go_enter Try.func51, Try.ntmps51
  go_wp2_with fail
  go_ret
  exact ⟨rfl, below1 _ _⟩
theorem ccount_nil (w : World) : Calls Try.prog 12 #[.pointer none] w fun e w' => e = .returned (.int .i64 0) ∧ Below w.heap.size w w' := by
  go_enter Try.func12, Try.ntmps12
  go_wp2_with fail
  go_ret
  exact ⟨rfl, Below.refl _ _⟩
theorem crefuse_nil (w : World) (g h : Hnd) : Calls Try.prog 48 #[.pointer none, hkV g, hkV h] w fun e w' => e = .returned (.int .i64 1) ∧ Below w.heap.size w w' := by
  go_enter Try.func48, Try.ntmps48
  go_wp2_with fail
  go_ret
  exact ⟨rfl, (below1 _ _).trans ((below1 _ _).mono (by simp))⟩
theorem cheld_nil (w : World) (g : Hnd) : Calls Try.prog 57 #[.pointer none, hkV g] w fun e w' => e = .returned (.tuple #[.pointer none, .int .i64 1]) ∧ Below w.heap.size w w' := by
  go_enter Try.func57, Try.ntmps57
  go_wp2_with fail
  go_ret2
  exact ⟨rfl, below1 _ _⟩
theorem rlen_nil (w : World) : Calls Try.prog 58 #[.pointer none] w fun e w' => e = .returned (.int .i64 0) ∧ Below w.heap.size w w' := by
  go_enter Try.func58, Try.ntmps58
  go_wp2_with fail
  go_ret
  exact ⟨rfl, Below.refl _ _⟩
theorem rcap_nil (w : World) : Calls Try.prog 59 #[.pointer none] w fun e w' => e = .returned (.int .i64 0) ∧ Below w.heap.size w w' := by
  go_enter Try.func59, Try.ntmps59
  go_wp2_with fail
  go_ret
  exact ⟨rfl, Below.refl _ _⟩
theorem cmake_nil (w : World) (g : Hnd) : Calls Try.prog 14 #[.pointer none, hkV g, .int .i64 1] w fun e w' => e = .returned (.int .i64 1) ∧ Below w.heap.size w w' := by
  go_enter Try.func14, Try.ntmps14
  go_wp2_with fail
  go_ret
  exact ⟨rfl, below1 _ _⟩
theorem cdrop_nil (w : World) (g : Hnd) : Calls Try.prog 26 #[.pointer none, hkV g] w fun e w' => e = .returned (.int .i64 1) ∧ Below w.heap.size w w' := by
  go_enter Try.func26, Try.ntmps26
  go_wp2_with fail
  refine bodyPost_ret (results_tmp Try.results26 _ _ _) rfl ?_
  exact ⟨rfl, below1 _ _⟩
theorem chas_nil (w : World) (g : Hnd) : Calls Try.prog 28 #[.pointer none, hkV g] w fun e w' => e = .returned (.bool false) ∧ Below w.heap.size w w' := by
  go_enter Try.func28, Try.ntmps28
  go_wp2_with fail
  refine (cat_nil _ g).mono ?_
  rintro e W0 ⟨rfl, hb⟩
  have HB := hide ((below1 w _).trans (hb.mono (by simp)))
  clear hb
  go_wp2_with fail
  go_ret
  exact ⟨rfl, HB.out⟩
theorem ccanSend_nil (w : World) (g : Hnd) : Calls Try.prog 29 #[.pointer none, hkV g] w fun e w' => e = .returned (.bool false) ∧ Below w.heap.size w w' := by
  go_enter Try.func29, Try.ntmps29
  go_wp2_with fail
  refine (cat_nil _ g).mono ?_
  rintro e W0 ⟨rfl, hb⟩
  have HB := hide ((below1 w _).trans (hb.mono (by simp)))
  clear hb
  go_wp2
  refine wp_reg (fun _ => False) (R := fun V => Ch (fun _ => False) W0 V) (by kernel_rfl) (Ch.drew _) (fun V cV zk => ?_)
  apply tk 0 kcs0 rfl (by kernel_rfl) (fun _ _ _ h => h) zk
  · intro wq zq
    go_simp
    try rfl
  go_frame
  apply tk 1 kcs1 rfl (by kernel_rfl) (fun _ _ _ h => h) zk
  · intro wq zq
    go_simp
    try rfl
  go_frame
  apply tk 2 kcs2 rfl (by kernel_rfl) (fun _ _ _ h => h) zk
  · intro wq zq
    go_simp
    try rfl
  go_frame
  apply sk 3 kcs3 rfl (by kernel_rfl) (fun _ _ _ h => h) zk
  go_frame
  apply sk 4 kcs4 rfl (by kernel_rfl) (fun _ _ _ h => h) zk
  go_frame
  apply sk 5 kcs5 rfl (by kernel_rfl) (fun _ _ _ h => h) zk
  go_frame
  apply sk 6 kcs6 rfl (by kernel_rfl) (fun _ _ _ h => h) zk
  go_frame
  apply sk 7 kcs7 rfl (by kernel_rfl) (fun _ _ _ h => h) zk
  go_frame
  apply sk 8 kcs8 rfl (by kernel_rfl) (fun _ _ _ h => h) zk
  go_frame
  apply sk 9 kcs9 rfl (by kernel_rfl) (fun _ _ _ h => h) zk
  go_frame
  apply sk 10 kcs10 rfl (by kernel_rfl) (fun _ _ _ h => h) zk
  go_frame
  apply sk 11 kcs11 rfl (by kernel_rfl) (fun _ _ _ h => h) zk
  go_frame
  apply sk 12 kcs12 rfl (by kernel_rfl) (fun _ _ _ h => h) zk
  go_frame
  apply sk 13 kcs13 rfl (by kernel_rfl) (fun _ _ _ h => h) zk
  go_frame
  apply sk 14 kcs14 rfl (by kernel_rfl) (fun _ _ _ h => h) zk
  go_frame
  apply sk 15 kcs15 rfl (by kernel_rfl) (fun _ _ _ h => h) zk
  go_frame
  apply sk 16 kcs16 rfl (by kernel_rfl) (fun _ _ _ h => h) zk
  go_frame
  apply sk 17 kcs17 rfl (by kernel_rfl) (fun _ _ _ h => h) zk
  go_frame
  apply sk 18 kcs18 rfl (by kernel_rfl) (fun _ _ _ h => h) zk
  go_frame
  apply sk 19 kcs19 rfl (by kernel_rfl) (fun _ _ _ h => h) zk
  go_frame
  apply sk 20 kcs20 rfl (by kernel_rfl) (fun _ _ _ h => h) zk
  go_frame
  apply sk 21 kcs21 rfl (by kernel_rfl) (fun _ _ _ h => h) zk
  go_frame
  apply sk 22 kcs22 rfl (by kernel_rfl) (fun _ _ _ h => h) zk
  go_frame
  apply sk 23 kcs23 rfl (by kernel_rfl) (fun _ _ _ h => h) zk
  go_frame
  apply sk 24 kcs24 rfl (by kernel_rfl) (fun _ _ _ h => h) zk
  go_frame
  apply sk 25 kcs25 rfl (by kernel_rfl) (fun _ _ _ h => h) zk
  go_frame
  apply sk 26 kcs26 rfl (by kernel_rfl) (fun _ _ _ h => h) zk
  go_frame
  apply tk 27 kcs27 rfl (by kernel_rfl) (fun _ _ _ h => h) zk
  · intro wq zq
    go_simp
    try rfl
  go_frame
  apply tk 28 kcs28 rfl (by kernel_rfl) (fun _ _ _ h => h) zk
  · intro wq zq
    go_simp
    try rfl
  go_frame
  refine wpAnyH_done (by kernel_rfl) ?_ _
  go_wp2
  refine bodyPost_ret (results_tmp Try.results29 _ _ _) rfl ?_
  exact ⟨rfl, HB.out.trans ((cV.trans zk (fun _ _ h => h)).below HB.out.size (fun _ _ h => h))⟩
theorem ccanRecv_nil (w : World) (g : Hnd) : Calls Try.prog 30 #[.pointer none, hkV g] w fun e w' => e = .returned (.bool false) ∧ Below w.heap.size w w' := by
  go_enter Try.func30, Try.ntmps30
  go_wp2_with fail
  refine (cat_nil _ g).mono ?_
  rintro e W0 ⟨rfl, hb⟩
  have HB := hide ((below1 w _).trans (hb.mono (by simp)))
  clear hb
  go_wp2_with fail
  go_ret
  exact ⟨rfl, HB.out⟩
theorem crefs_nil (w : World) (g : Hnd) : Calls Try.prog 31 #[.pointer none, hkV g] w fun e w' => e = .returned (.slice none 0 0) ∧ Below w.heap.size w w' := by
  go_enter Try.func31, Try.ntmps31
  go_wp2_with fail
  refine (cat_nil _ g).mono ?_
  rintro e W0 ⟨rfl, hb⟩
  have HB := hide ((below1 w _).trans (hb.mono (by simp)))
  clear hb
  go_wp2_with fail
  go_ret
  exact ⟨rfl, HB.out⟩
theorem clen_nil (w : World) (g : Hnd) : Calls Try.prog 24 #[.pointer none, hkV g] w fun e w' => e = .returned (.tuple #[.int .i64 0, .int .i64 1]) ∧ Below w.heap.size w w' := by
  go_enter Try.func24, Try.ntmps24
  go_wp2_with fail
  refine (cheld_nil _ g).mono ?_
  rintro e W0 ⟨rfl, hb⟩
  have HB := hide ((below1 w _).trans (hb.mono (by simp)))
  clear hb
  go_wp2_with fail
  refine (rlen_nil _).mono ?_
  rintro e W1 ⟨rfl, hb⟩
  have HB := hide (HB.out.trans (hb.mono HB.out.size))
  clear hb
  go_wp2_with fail
  go_ret2
  exact ⟨rfl, HB.out⟩
theorem ccap_nil (w : World) (g : Hnd) : Calls Try.prog 25 #[.pointer none, hkV g] w fun e w' => e = .returned (.tuple #[.int .i64 0, .int .i64 1]) ∧ Below w.heap.size w w' := by
  go_enter Try.func25, Try.ntmps25
  go_wp2_with fail
  refine (cheld_nil _ g).mono ?_
  rintro e W0 ⟨rfl, hb⟩
  have HB := hide ((below1 w _).trans (hb.mono (by simp)))
  clear hb
  go_wp2_with fail
  refine (rcap_nil _).mono ?_
  rintro e W1 ⟨rfl, hb⟩
  have HB := hide (HB.out.trans (hb.mono HB.out.size))
  clear hb
  go_wp2_with fail
  go_ret2
  exact ⟨rfl, HB.out⟩

theorem res_cclose_nil (tm : Array Value) (A : Nat) (Z : World) (q : Int) (h2 : tm[4]?.getD undef = .pointer (some ⟨A, 0, none⟩)) (h3 : tm[5]?.getD undef = .int .i64 q) (c0 : Z.cell? ⟨A, 0, none⟩ = some (.int .i64 0)) (c1 : Z.cell? ⟨A, 1, none⟩ = some (.int .i64 0)) (c2 : Z.cell? ⟨A, 2, none⟩ = some (.int .u32 0)) (c3 : Z.cell? ⟨A, 3, none⟩ = some (.int .u32 0)) (c4 : Z.cell? ⟨A, 4, none⟩ = some (.bool false)) (c5 : Z.cell? ⟨A, 5, none⟩ = some (.slice none 0 0)) :
    (results Try.f23 tm).run Try.prog Z = .ok (.tuple #[didV 0 zVa false (.slice none 0 0), .int .i64 q]) Z := by
  simp [results, Try.f23, h2, h3, go_sem, c0, c1, c2, c3, c4, c5, zVa]

set_option maxRecDepth 100000 in
set_option maxHeartbeats 8000000 in
theorem cclose_nil (w : World) (g : Hnd) : Calls Try.prog 23 #[.pointer none, hkV g] w fun e w' => e = .returned (.tuple #[didV 0 zVa false (.slice none 0 0), .int .i64 1]) ∧ Below w.heap.size w w' := by
  obtain ⟨w1, hw1⟩ : ∃ w1, (w.alloc (.cells #[.int .u32 g.1, .int .u32 g.2] 43)).alloc (.cells #[.int .i64 0, .int .i64 0, .int .u32 0, .int .u32 0, .bool false, .slice none 0 0] 72) = w1 := ⟨_, rfl⟩
  have hB1 : Below w.heap.size w w1 := by rw [← hw1]; exact ((below1 w _).trans ((below1 _ _).mono (by simp; try omega)))
  have hz1 : (w.alloc (.cells #[.int .u32 g.1, .int .u32 g.2] 43)).heap.size = w.heap.size + 1 := by simp [World.size_alloc]
  have hn1 : w1.heap[w.heap.size + 1]? = some (.cells #[.int .i64 0, .int .i64 0, .int .u32 0, .int .u32 0, .bool false, .slice none 0 0] 72 (0, 0)) := by
    rw [← hw1, ← hz1]
    exact heap_new _ _
  have HB := hide hB1
  have HN := hide hn1
  clear hB1 hz1
  have z0 : w1.cell? ⟨w.heap.size + 1, 0, none⟩ = some (.int .i64 0) := by simp [Lib.cell_of_heap hn1]
  have z1 : w1.cell? ⟨w.heap.size + 1, 1, none⟩ = some (.int .i64 0) := by simp [Lib.cell_of_heap hn1]
  have z2 : w1.cell? ⟨w.heap.size + 1, 2, none⟩ = some (.int .u32 0) := by simp [Lib.cell_of_heap hn1]
  have z3 : w1.cell? ⟨w.heap.size + 1, 3, none⟩ = some (.int .u32 0) := by simp [Lib.cell_of_heap hn1]
  have z4 : w1.cell? ⟨w.heap.size + 1, 4, none⟩ = some (.bool false) := by simp [Lib.cell_of_heap hn1]
  have z5 : w1.cell? ⟨w.heap.size + 1, 5, none⟩ = some (.slice none 0 0) := by simp [Lib.cell_of_heap hn1]
  have zf : ∀ j, w1.frozen? ⟨w.heap.size + 1, j, none⟩ = false := frz hn1
  go_enter Try.func23, Try.ntmps23
  go_wp2_with fail
  refine bodyPost_ret (v := .tuple #[didV 0 zVa false (.slice none 0 0), .int .i64 1]) (res_cclose_nil _ (w.heap.size + 1) _ 1 rfl rfl (by simp [go_sem, z0]) (by simp [go_sem, z1]) (by simp [go_sem, z2]) (by simp [go_sem, z3]) (by simp [go_sem, z4]) (by simp [go_sem, z5])) rfl ⟨rfl, ?_⟩
  have c : Ch (fun y => y = w.heap.size + 1) w1 _ := wrsA w1 (w.heap.size + 1) [.int .i64 0, .int .i64 0, .int .u32 0, .int .u32 0, .bool false, .slice none 0 0]
  exact HB.out.trans (Ch.below c (N := w.heap.size) HB.out.size (fun y hy e => by omega))

theorem res_csend_nil (tm : Array Value) (A : Nat) (Z : World) (q : Int) (h2 : tm[8]?.getD undef = .pointer (some ⟨A, 0, none⟩)) (h3 : tm[9]?.getD undef = .int .i64 q) (c0 : Z.cell? ⟨A, 0, none⟩ = some (.int .i64 0)) (c1 : Z.cell? ⟨A, 1, none⟩ = some (.int .i64 0)) (c2 : Z.cell? ⟨A, 2, none⟩ = some (.int .u32 0)) (c3 : Z.cell? ⟨A, 3, none⟩ = some (.int .u32 0)) (c4 : Z.cell? ⟨A, 4, none⟩ = some (.bool false)) (c5 : Z.cell? ⟨A, 5, none⟩ = some (.slice none 0 0)) :
    (results Try.f22 tm).run Try.prog Z = .ok (.tuple #[didV 0 zVa false (.slice none 0 0), .int .i64 q]) Z := by
  simp [results, Try.f22, h2, h3, go_sem, c0, c1, c2, c3, c4, c5, zVa]

set_option maxRecDepth 100000 in
set_option maxHeartbeats 8000000 in
theorem csend_nil (w : World) (g h : Hnd) (v : Va) : Calls Try.prog 22 #[.pointer none, hkV g, hkV h, vaV v] w fun e w' => e = .returned (.tuple #[didV 0 zVa false (.slice none 0 0), .int .i64 1]) ∧ Below w.heap.size w w' := by
  obtain ⟨w1, hw1⟩ : ∃ w1, (((w.alloc (.cells #[.int .u32 g.1, .int .u32 g.2] 43)).alloc (.cells #[.int .u32 h.1, .int .u32 h.2] 43)).alloc (.cells #[.int .i64 v.n, .int .u32 v.s, .int .u32 v.g] 46)).alloc (.cells #[.int .i64 0, .int .i64 0, .int .u32 0, .int .u32 0, .bool false, .slice none 0 0] 72) = w1 := ⟨_, rfl⟩
  have hB1 : Below w.heap.size w w1 := by rw [← hw1]; exact ((((below1 w _).trans ((below1 _ _).mono (by simp; try omega))).trans ((below1 _ _).mono (by simp; try omega))).trans ((below1 _ _).mono (by simp; try omega)))
  have hz1 : (((w.alloc (.cells #[.int .u32 g.1, .int .u32 g.2] 43)).alloc (.cells #[.int .u32 h.1, .int .u32 h.2] 43)).alloc (.cells #[.int .i64 v.n, .int .u32 v.s, .int .u32 v.g] 46)).heap.size = w.heap.size + 3 := by simp [World.size_alloc]
  have hn1 : w1.heap[w.heap.size + 3]? = some (.cells #[.int .i64 0, .int .i64 0, .int .u32 0, .int .u32 0, .bool false, .slice none 0 0] 72 (0, 0)) := by
    rw [← hw1, ← hz1]
    exact heap_new _ _
  have g0 : w1.heap[w.heap.size]? = some (.cells #[.int .u32 g.1, .int .u32 g.2] 43 (0, 0)) := by
    rw [← hw1]
    exact ((Ch.alloc (Q := fun _ => False) _ _).box (((Ch.alloc (Q := fun _ => False) _ _).box (((Ch.alloc (Q := fun _ => False) _ _).box (heap_new _ _) (fun h => h))) (fun h => h))) (fun h => h))
  have x00 : w1.cell? ⟨w.heap.size, 0, none⟩ = some (.int .u32 g.1) := by simp [Lib.cell_of_heap g0]
  have x01 : w1.cell? ⟨w.heap.size, 1, none⟩ = some (.int .u32 g.2) := by simp [Lib.cell_of_heap g0]
  have g1 : w1.heap[w.heap.size + 1]? = some (.cells #[.int .u32 h.1, .int .u32 h.2] 43 (0, 0)) := by
    have hz : (w.alloc (.cells #[.int .u32 g.1, .int .u32 g.2] 43)).heap.size = w.heap.size + 1 := by simp [World.size_alloc]
    rw [← hw1, ← hz]
    exact ((Ch.alloc (Q := fun _ => False) _ _).box (((Ch.alloc (Q := fun _ => False) _ _).box (heap_new _ _) (fun h => h))) (fun h => h))
  have x10 : w1.cell? ⟨w.heap.size + 1, 0, none⟩ = some (.int .u32 h.1) := by simp [Lib.cell_of_heap g1]
  have x11 : w1.cell? ⟨w.heap.size + 1, 1, none⟩ = some (.int .u32 h.2) := by simp [Lib.cell_of_heap g1]
  have g2 : w1.heap[w.heap.size + 2]? = some (.cells #[.int .i64 v.n, .int .u32 v.s, .int .u32 v.g] 46 (0, 0)) := by
    have hz : ((w.alloc (.cells #[.int .u32 g.1, .int .u32 g.2] 43)).alloc (.cells #[.int .u32 h.1, .int .u32 h.2] 43)).heap.size = w.heap.size + 2 := by simp [World.size_alloc]
    rw [← hw1, ← hz]
    exact ((Ch.alloc (Q := fun _ => False) _ _).box (heap_new _ _) (fun h => h))
  have x20 : w1.cell? ⟨w.heap.size + 2, 0, none⟩ = some (.int .i64 v.n) := by simp [Lib.cell_of_heap g2]
  have x21 : w1.cell? ⟨w.heap.size + 2, 1, none⟩ = some (.int .u32 v.s) := by simp [Lib.cell_of_heap g2]
  have x22 : w1.cell? ⟨w.heap.size + 2, 2, none⟩ = some (.int .u32 v.g) := by simp [Lib.cell_of_heap g2]
  have HB := hide hB1
  have HN := hide hn1
  clear hB1 hz1
  clear hn1
  go_enter Try.func22, Try.ntmps22
  go_wp2_with fail
  refine (crefuse_nil w1 g h).mono ?_
  rintro e W2 ⟨rfl, h2⟩
  have H2 := hide (HB.out.trans (h2.mono HB.out.size))
  have n2 := (Ch.of_below (Q := fun _ => False) h2).box HN.out (fun h => h)
  have z0 : W2.cell? ⟨w.heap.size + 3, 0, none⟩ = some (.int .i64 0) := by simp [Lib.cell_of_heap n2]
  have z1 : W2.cell? ⟨w.heap.size + 3, 1, none⟩ = some (.int .i64 0) := by simp [Lib.cell_of_heap n2]
  have z2 : W2.cell? ⟨w.heap.size + 3, 2, none⟩ = some (.int .u32 0) := by simp [Lib.cell_of_heap n2]
  have z3 : W2.cell? ⟨w.heap.size + 3, 3, none⟩ = some (.int .u32 0) := by simp [Lib.cell_of_heap n2]
  have z4 : W2.cell? ⟨w.heap.size + 3, 4, none⟩ = some (.bool false) := by simp [Lib.cell_of_heap n2]
  have z5 : W2.cell? ⟨w.heap.size + 3, 5, none⟩ = some (.slice none 0 0) := by simp [Lib.cell_of_heap n2]
  have zf : ∀ j, W2.frozen? ⟨w.heap.size + 3, j, none⟩ = false := frz n2
  clear h2 hw1
  go_wp2_with fail
  refine bodyPost_ret (v := .tuple #[didV 0 zVa false (.slice none 0 0), .int .i64 1]) (res_csend_nil _ (w.heap.size + 3) _ 1 rfl rfl (by simp [go_sem, z0]) (by simp [go_sem, z1]) (by simp [go_sem, z2]) (by simp [go_sem, z3]) (by simp [go_sem, z4]) (by simp [go_sem, z5])) rfl ⟨rfl, ?_⟩
  have c : Ch (fun y => y = w.heap.size + 3) W2 _ := wrsA W2 (w.heap.size + 3) [.int .i64 0, .int .i64 0, .int .u32 0, .int .u32 0, .bool false, .slice none 0 0]
  exact H2.out.trans (Ch.below c (N := w.heap.size) H2.out.size (fun y hy e => by omega))

theorem res_crecv_nil (tm : Array Value) (A : Nat) (Z : World) (q : Int) (h2 : tm[6]?.getD undef = .pointer (some ⟨A, 0, none⟩)) (h3 : tm[7]?.getD undef = .int .i64 q) (c0 : Z.cell? ⟨A, 0, none⟩ = some (.int .i64 0)) (c1 : Z.cell? ⟨A, 1, none⟩ = some (.int .i64 0)) (c2 : Z.cell? ⟨A, 2, none⟩ = some (.int .u32 0)) (c3 : Z.cell? ⟨A, 3, none⟩ = some (.int .u32 0)) (c4 : Z.cell? ⟨A, 4, none⟩ = some (.bool false)) (c5 : Z.cell? ⟨A, 5, none⟩ = some (.slice none 0 0)) :
    (results Try.f18 tm).run Try.prog Z = .ok (.tuple #[didV 0 zVa false (.slice none 0 0), .int .i64 q]) Z := by
  simp [results, Try.f18, h2, h3, go_sem, c0, c1, c2, c3, c4, c5, zVa]

set_option maxRecDepth 100000 in
set_option maxHeartbeats 8000000 in
theorem crecv_nil (w : World) (g h : Hnd) : Calls Try.prog 18 #[.pointer none, hkV g, hkV h] w fun e w' => e = .returned (.tuple #[didV 0 zVa false (.slice none 0 0), .int .i64 1]) ∧ Below w.heap.size w w' := by
  obtain ⟨w1, hw1⟩ : ∃ w1, ((w.alloc (.cells #[.int .u32 g.1, .int .u32 g.2] 43)).alloc (.cells #[.int .u32 h.1, .int .u32 h.2] 43)).alloc (.cells #[.int .i64 0, .int .i64 0, .int .u32 0, .int .u32 0, .bool false, .slice none 0 0] 72) = w1 := ⟨_, rfl⟩
  have hB1 : Below w.heap.size w w1 := by rw [← hw1]; exact (((below1 w _).trans ((below1 _ _).mono (by simp; try omega))).trans ((below1 _ _).mono (by simp; try omega)))
  have hz1 : ((w.alloc (.cells #[.int .u32 g.1, .int .u32 g.2] 43)).alloc (.cells #[.int .u32 h.1, .int .u32 h.2] 43)).heap.size = w.heap.size + 2 := by simp [World.size_alloc]
  have hn1 : w1.heap[w.heap.size + 2]? = some (.cells #[.int .i64 0, .int .i64 0, .int .u32 0, .int .u32 0, .bool false, .slice none 0 0] 72 (0, 0)) := by
    rw [← hw1, ← hz1]
    exact heap_new _ _
  have g0 : w1.heap[w.heap.size]? = some (.cells #[.int .u32 g.1, .int .u32 g.2] 43 (0, 0)) := by
    rw [← hw1]
    exact ((Ch.alloc (Q := fun _ => False) _ _).box (((Ch.alloc (Q := fun _ => False) _ _).box (heap_new _ _) (fun h => h))) (fun h => h))
  have x00 : w1.cell? ⟨w.heap.size, 0, none⟩ = some (.int .u32 g.1) := by simp [Lib.cell_of_heap g0]
  have x01 : w1.cell? ⟨w.heap.size, 1, none⟩ = some (.int .u32 g.2) := by simp [Lib.cell_of_heap g0]
  have g1 : w1.heap[w.heap.size + 1]? = some (.cells #[.int .u32 h.1, .int .u32 h.2] 43 (0, 0)) := by
    have hz : (w.alloc (.cells #[.int .u32 g.1, .int .u32 g.2] 43)).heap.size = w.heap.size + 1 := by simp [World.size_alloc]
    rw [← hw1, ← hz]
    exact ((Ch.alloc (Q := fun _ => False) _ _).box (heap_new _ _) (fun h => h))
  have x10 : w1.cell? ⟨w.heap.size + 1, 0, none⟩ = some (.int .u32 h.1) := by simp [Lib.cell_of_heap g1]
  have x11 : w1.cell? ⟨w.heap.size + 1, 1, none⟩ = some (.int .u32 h.2) := by simp [Lib.cell_of_heap g1]
  have HB := hide hB1
  have HN := hide hn1
  clear hB1 hz1
  clear hn1
  go_enter Try.func18, Try.ntmps18
  go_wp2_with fail
  refine (crefuse_nil w1 g h).mono ?_
  rintro e W2 ⟨rfl, h2⟩
  have H2 := hide (HB.out.trans (h2.mono HB.out.size))
  have n2 := (Ch.of_below (Q := fun _ => False) h2).box HN.out (fun h => h)
  have z0 : W2.cell? ⟨w.heap.size + 2, 0, none⟩ = some (.int .i64 0) := by simp [Lib.cell_of_heap n2]
  have z1 : W2.cell? ⟨w.heap.size + 2, 1, none⟩ = some (.int .i64 0) := by simp [Lib.cell_of_heap n2]
  have z2 : W2.cell? ⟨w.heap.size + 2, 2, none⟩ = some (.int .u32 0) := by simp [Lib.cell_of_heap n2]
  have z3 : W2.cell? ⟨w.heap.size + 2, 3, none⟩ = some (.int .u32 0) := by simp [Lib.cell_of_heap n2]
  have z4 : W2.cell? ⟨w.heap.size + 2, 4, none⟩ = some (.bool false) := by simp [Lib.cell_of_heap n2]
  have z5 : W2.cell? ⟨w.heap.size + 2, 5, none⟩ = some (.slice none 0 0) := by simp [Lib.cell_of_heap n2]
  have zf : ∀ j, W2.frozen? ⟨w.heap.size + 2, j, none⟩ = false := frz n2
  clear h2 hw1
  go_wp2_with fail
  refine bodyPost_ret (v := .tuple #[didV 0 zVa false (.slice none 0 0), .int .i64 1]) (res_crecv_nil _ (w.heap.size + 2) _ 1 rfl rfl (by simp [go_sem, z0]) (by simp [go_sem, z1]) (by simp [go_sem, z2]) (by simp [go_sem, z3]) (by simp [go_sem, z4]) (by simp [go_sem, z5])) rfl ⟨rfl, ?_⟩
  have c : Ch (fun y => y = w.heap.size + 2) W2 _ := wrsA W2 (w.heap.size + 2) [.int .i64 0, .int .i64 0, .int .u32 0, .int .u32 0, .bool false, .slice none 0 0]
  exact H2.out.trans (Ch.below c (N := w.heap.size) H2.out.size (fun y hy e => by omega))

end Go.Proofs.Ytplnafocanfcgaa

namespace Go.Proofs.Ytplnafocanfcgaa
open Go.RowKit

set_option maxRecDepth 100000 in
set_option maxHeartbeats 8000000 in
theorem same_zero (w : World) : Calls Try.prog 27 #[.agg #[.int .i64 0, .int .i64 0, .int .u32 0, .int .u32 0, .bool false, .slice none 0 0], .agg #[.int .i64 0, .int .i64 0, .int .u32 0, .int .u32 0, .bool false, .slice none 0 0]] w fun e w' => e = .returned (.bool true) ∧ Below w.heap.size w w' := by
  obtain ⟨w1, hw1⟩ : ∃ w1, (w.alloc (.cells #[.int .i64 0, .int .i64 0, .int .u32 0, .int .u32 0, .bool false, .slice none 0 0] 72)).alloc (.cells #[.int .i64 0, .int .i64 0, .int .u32 0, .int .u32 0, .bool false, .slice none 0 0] 72) = w1 := ⟨_, rfl⟩
  have hB1 : Below w.heap.size w w1 := by rw [← hw1]; exact (below1 _ _).trans ((below1 _ _).mono (by simp))
  have hn0 : w1.heap[w.heap.size]? = some (.cells #[.int .i64 0, .int .i64 0, .int .u32 0, .int .u32 0, .bool false, .slice none 0 0] 72 (0, 0)) := by
    rw [← hw1]
    exact (Ch.alloc (Q := fun _ => False) _ _).box (heap_new _ _) (fun h => h)
  have hn1 : w1.heap[w.heap.size + 1]? = some (.cells #[.int .i64 0, .int .i64 0, .int .u32 0, .int .u32 0, .bool false, .slice none 0 0] 72 (0, 0)) := by
    rw [← hw1]
    have := heap_new (w.alloc (.cells #[.int .i64 0, .int .i64 0, .int .u32 0, .int .u32 0, .bool false, .slice none 0 0] 72)) (.cells #[.int .i64 0, .int .i64 0, .int .u32 0, .int .u32 0, .bool false, .slice none 0 0] 72)
    rwa [World.size_alloc] at this
  have x00 : w1.cell? ⟨w.heap.size, 0, none⟩ = some (.int .i64 0) := by simp [Lib.cell_of_heap hn0]
  have x01 : w1.cell? ⟨w.heap.size, 1, none⟩ = some (.int .i64 0) := by simp [Lib.cell_of_heap hn0]
  have x02 : w1.cell? ⟨w.heap.size, 2, none⟩ = some (.int .u32 0) := by simp [Lib.cell_of_heap hn0]
  have x03 : w1.cell? ⟨w.heap.size, 3, none⟩ = some (.int .u32 0) := by simp [Lib.cell_of_heap hn0]
  have x04 : w1.cell? ⟨w.heap.size, 4, none⟩ = some (.bool false) := by simp [Lib.cell_of_heap hn0]
  have x05 : w1.cell? ⟨w.heap.size, 5, none⟩ = some (.slice none 0 0) := by simp [Lib.cell_of_heap hn0]
  have x10 : w1.cell? ⟨w.heap.size + 1, 0, none⟩ = some (.int .i64 0) := by simp [Lib.cell_of_heap hn1]
  have x11 : w1.cell? ⟨w.heap.size + 1, 1, none⟩ = some (.int .i64 0) := by simp [Lib.cell_of_heap hn1]
  have x12 : w1.cell? ⟨w.heap.size + 1, 2, none⟩ = some (.int .u32 0) := by simp [Lib.cell_of_heap hn1]
  have x13 : w1.cell? ⟨w.heap.size + 1, 3, none⟩ = some (.int .u32 0) := by simp [Lib.cell_of_heap hn1]
  have x14 : w1.cell? ⟨w.heap.size + 1, 4, none⟩ = some (.bool false) := by simp [Lib.cell_of_heap hn1]
  have x15 : w1.cell? ⟨w.heap.size + 1, 5, none⟩ = some (.slice none 0 0) := by simp [Lib.cell_of_heap hn1]
  have HB := hide hB1
  clear hB1 hn0 hn1
  go_enter Try.func27, Try.ntmps27
  go_wp2
  clear hw1
  go_loopw [5] (fun iv wr => iv = .int .i64 0 ∧ wr = w1) (fun _ _ => 0)
  case atStart => exact ⟨rfl, rfl⟩
  case round =>
    obtain ⟨rfl, rfl⟩ := hrel
    go_wp2
    go_ret
    exact ⟨rfl, HB.out⟩

end Go.Proofs.Ytplnafocanfcgaa

namespace Go.Proofs.Ytplnafocanfcgaa
open Go.RowKit

set_option maxRecDepth 100000 in
set_option maxHeartbeats 16000000 in
theorem nil_is (w : World) (g h : Hnd) (v : Va) : Calls Try.prog 5 #[hkV g, hkV h, vaV v] w fun e w' => e = .returned (.bool true) ∧ Below w.heap.size w w' := by
  obtain ⟨W1, hW1⟩ : ∃ x, ((w.alloc (.cells #[.int .u32 g.1, .int .u32 g.2] 43)).alloc (.cells #[.int .u32 h.1, .int .u32 h.2] 43)).alloc (.cells #[.int .i64 v.n, .int .u32 v.s, .int .u32 v.g] 46) = x := ⟨_, rfl⟩
  have nG := hide (show W1.heap[w.heap.size]? = some (.cells #[.int .u32 g.1, .int .u32 g.2] 43 (0, 0)) by rw [← hW1]; exact (Ch.alloc (Q := fun _ => False) _ _).box ((Ch.alloc (Q := fun _ => False) _ _).box (heap_new _ _) (fun h => h)) (fun h => h))
  have nH := hide (show W1.heap[w.heap.size + 1]? = some (.cells #[.int .u32 h.1, .int .u32 h.2] 43 (0, 0)) by
    have hz : (w.alloc (.cells #[.int .u32 g.1, .int .u32 g.2] 43)).heap.size = w.heap.size + 1 := by simp
    rw [← hW1, ← hz]
    exact (Ch.alloc (Q := fun _ => False) _ _).box (heap_new _ _) (fun h => h))
  have nV := hide (show W1.heap[w.heap.size + 2]? = some (.cells #[.int .i64 v.n, .int .u32 v.s, .int .u32 v.g] 46 (0, 0)) by
    have hz : ((w.alloc (.cells #[.int .u32 g.1, .int .u32 g.2] 43)).alloc (.cells #[.int .u32 h.1, .int .u32 h.2] 43)).heap.size = w.heap.size + 2 := by simp
    rw [← hW1, ← hz]
    exact heap_new _ _)
  have BE := hide (show Below w.heap.size w W1 by rw [← hW1]; exact ((below1 _ _).trans ((below1 _ _).mono (by simp))).trans ((below1 _ _).mono (by simp; try omega)))
  go_enter Try.func5, Try.ntmps5
  go_wp2_with fail
  clear hW1
  refine (awake14_is W1).mono ?_
  rintro e W2 ⟨rfl, hb⟩
  have hc := Ch.of_below (Q := fun _ => False) hb
  have nG := hide (hc.box nG.out (fun h => h))
  have nH := hide (hc.box nH.out (fun h => h))
  have nV := hide (hc.box nV.out (fun h => h))
  have BE := hide (BE.out.trans (hb.mono BE.out.size))
  clear hb hc
  go_wp2_with fail
  refine (cnew_nil W2).mono ?_
  rintro e W3 ⟨rfl, hb⟩
  have hc := Ch.of_below (Q := fun _ => False) hb
  have nG := hide (hc.box nG.out (fun h => h))
  have nH := hide (hc.box nH.out (fun h => h))
  have nV := hide (hc.box nV.out (fun h => h))
  have BE := hide (BE.out.trans (hb.mono BE.out.size))
  clear hb hc
  have ng0 : W3.cell? ⟨w.heap.size, 0, none⟩ = some (.int .u32 g.1) := by simp [Lib.cell_of_heap nG.out]
  have ng1 : W3.cell? ⟨w.heap.size, 1, none⟩ = some (.int .u32 g.2) := by simp [Lib.cell_of_heap nG.out]
  have nh0 : W3.cell? ⟨w.heap.size + 1, 0, none⟩ = some (.int .u32 h.1) := by simp [Lib.cell_of_heap nH.out]
  have nh1 : W3.cell? ⟨w.heap.size + 1, 1, none⟩ = some (.int .u32 h.2) := by simp [Lib.cell_of_heap nH.out]
  have nv0 : W3.cell? ⟨w.heap.size + 2, 0, none⟩ = some (.int .i64 v.n) := by simp [Lib.cell_of_heap nV.out]
  have nv1 : W3.cell? ⟨w.heap.size + 2, 1, none⟩ = some (.int .u32 v.s) := by simp [Lib.cell_of_heap nV.out]
  have nv2 : W3.cell? ⟨w.heap.size + 2, 2, none⟩ = some (.int .u32 v.g) := by simp [Lib.cell_of_heap nV.out]
  go_wp2_with fail
  clear ng0 ng1 nh0 nh1 nv0 nv1 nv2
  refine (csend_nil W3 g h v).mono ?_
  rintro e W4 ⟨rfl, hb⟩
  have hc := Ch.of_below (Q := fun _ => False) hb
  have nG := hide (hc.box nG.out (fun h => h))
  have nH := hide (hc.box nH.out (fun h => h))
  have nV := hide (hc.box nV.out (fun h => h))
  have BE := hide (BE.out.trans (hb.mono BE.out.size))
  clear hb hc
  try unfold zVa
  obtain ⟨W5, hW5⟩ : ∃ x, W4.alloc (.cells #[.int .i64 0, .int .i64 0, .int .u32 0, .int .u32 0, .bool false, .slice none 0 0] 72) = x := ⟨_, rfl⟩
  have nX := hide (show W5.heap[W4.heap.size]? = some (.cells #[.int .i64 0, .int .i64 0, .int .u32 0, .int .u32 0, .bool false, .slice none 0 0] 72 (0, 0)) by rw [← hW5]; exact heap_new _ _)
  have cA : Ch (fun _ => False) W4 W5 := by rw [← hW5]; exact Ch.alloc _ _
  have nG := hide (cA.box nG.out (fun h => h))
  have nH := hide (cA.box nH.out (fun h => h))
  have nV := hide (cA.box nV.out (fun h => h))
  have BE := hide (BE.out.trans (cA.below (N := w.heap.size) BE.out.size (fun _ _ h => h)))
  have HW5 := hide hW5
  clear cA hW5
  have ng0 : (W4.alloc (.cells #[.int .i64 0, .int .i64 0, .int .u32 0, .int .u32 0, .bool false, .slice none 0 0] 72)).cell? ⟨w.heap.size, 0, none⟩ = some (.int .u32 g.1) := by rw [HW5.out]; simp [Lib.cell_of_heap nG.out]
  have ng1 : (W4.alloc (.cells #[.int .i64 0, .int .i64 0, .int .u32 0, .int .u32 0, .bool false, .slice none 0 0] 72)).cell? ⟨w.heap.size, 1, none⟩ = some (.int .u32 g.2) := by rw [HW5.out]; simp [Lib.cell_of_heap nG.out]
  have nh0 : (W4.alloc (.cells #[.int .i64 0, .int .i64 0, .int .u32 0, .int .u32 0, .bool false, .slice none 0 0] 72)).cell? ⟨w.heap.size + 1, 0, none⟩ = some (.int .u32 h.1) := by rw [HW5.out]; simp [Lib.cell_of_heap nH.out]
  have nh1 : (W4.alloc (.cells #[.int .i64 0, .int .i64 0, .int .u32 0, .int .u32 0, .bool false, .slice none 0 0] 72)).cell? ⟨w.heap.size + 1, 1, none⟩ = some (.int .u32 h.2) := by rw [HW5.out]; simp [Lib.cell_of_heap nH.out]
  go_wp2_with fail
  rw [HW5.out]
  clear ng0 ng1 nh0 nh1
  refine (crecv_nil W5 g h).mono ?_
  rintro e W6 ⟨rfl, hb⟩
  have hc := Ch.of_below (Q := fun _ => False) hb
  have nG := hide (hc.box nG.out (fun h => h))
  have nH := hide (hc.box nH.out (fun h => h))
  have nV := hide (hc.box nV.out (fun h => h))
  have nX := hide (hc.box nX.out (fun h => h))
  have BE := hide (BE.out.trans (hb.mono BE.out.size))
  clear hb hc
  try unfold zVa
  obtain ⟨W7, hW7⟩ : ∃ x, W6.alloc (.cells #[.int .i64 0, .int .i64 0, .int .u32 0, .int .u32 0, .bool false, .slice none 0 0] 72) = x := ⟨_, rfl⟩
  have nY := hide (show W7.heap[W6.heap.size]? = some (.cells #[.int .i64 0, .int .i64 0, .int .u32 0, .int .u32 0, .bool false, .slice none 0 0] 72 (0, 0)) by rw [← hW7]; exact heap_new _ _)
  have cA : Ch (fun _ => False) W6 W7 := by rw [← hW7]; exact Ch.alloc _ _
  have nG := hide (cA.box nG.out (fun h => h))
  have nH := hide (cA.box nH.out (fun h => h))
  have nV := hide (cA.box nV.out (fun h => h))
  have nX := hide (cA.box nX.out (fun h => h))
  have BE := hide (BE.out.trans (cA.below (N := w.heap.size) BE.out.size (fun _ _ h => h)))
  have HW7 := hide hW7
  clear cA hW7
  have nh0 : (W6.alloc (.cells #[.int .i64 0, .int .i64 0, .int .u32 0, .int .u32 0, .bool false, .slice none 0 0] 72)).cell? ⟨w.heap.size + 1, 0, none⟩ = some (.int .u32 h.1) := by rw [HW7.out]; simp [Lib.cell_of_heap nH.out]
  have nh1 : (W6.alloc (.cells #[.int .i64 0, .int .i64 0, .int .u32 0, .int .u32 0, .bool false, .slice none 0 0] 72)).cell? ⟨w.heap.size + 1, 1, none⟩ = some (.int .u32 h.2) := by rw [HW7.out]; simp [Lib.cell_of_heap nH.out]
  go_wp2_with fail
  rw [HW7.out]
  clear nh0 nh1
  refine (cclose_nil W7 h).mono ?_
  rintro e W8 ⟨rfl, hb⟩
  have hc := Ch.of_below (Q := fun _ => False) hb
  have nG := hide (hc.box nG.out (fun h => h))
  have nH := hide (hc.box nH.out (fun h => h))
  have nV := hide (hc.box nV.out (fun h => h))
  have nX := hide (hc.box nX.out (fun h => h))
  have nY := hide (hc.box nY.out (fun h => h))
  have BE := hide (BE.out.trans (hb.mono BE.out.size))
  clear hb hc
  try unfold zVa
  obtain ⟨W9, hW9⟩ : ∃ x, W8.alloc (.cells #[.int .i64 0, .int .i64 0, .int .u32 0, .int .u32 0, .bool false, .slice none 0 0] 72) = x := ⟨_, rfl⟩
  have nZ := hide (show W9.heap[W8.heap.size]? = some (.cells #[.int .i64 0, .int .i64 0, .int .u32 0, .int .u32 0, .bool false, .slice none 0 0] 72 (0, 0)) by rw [← hW9]; exact heap_new _ _)
  have cA : Ch (fun _ => False) W8 W9 := by rw [← hW9]; exact Ch.alloc _ _
  have nG := hide (cA.box nG.out (fun h => h))
  have nH := hide (cA.box nH.out (fun h => h))
  have nV := hide (cA.box nV.out (fun h => h))
  have nX := hide (cA.box nX.out (fun h => h))
  have nY := hide (cA.box nY.out (fun h => h))
  have BE := hide (BE.out.trans (cA.below (N := w.heap.size) BE.out.size (fun _ _ h => h)))
  have HW9 := hide hW9
  clear cA hW9
  have nh0 : (W8.alloc (.cells #[.int .i64 0, .int .i64 0, .int .u32 0, .int .u32 0, .bool false, .slice none 0 0] 72)).cell? ⟨w.heap.size + 1, 0, none⟩ = some (.int .u32 h.1) := by rw [HW9.out]; simp [Lib.cell_of_heap nH.out]
  have nh1 : (W8.alloc (.cells #[.int .i64 0, .int .i64 0, .int .u32 0, .int .u32 0, .bool false, .slice none 0 0] 72)).cell? ⟨w.heap.size + 1, 1, none⟩ = some (.int .u32 h.2) := by rw [HW9.out]; simp [Lib.cell_of_heap nH.out]
  go_wp2_with fail
  rw [HW9.out]
  clear nh0 nh1
  refine (clen_nil W9 h).mono ?_
  rintro e W10 ⟨rfl, hb⟩
  have hc := Ch.of_below (Q := fun _ => False) hb
  have nG := hide (hc.box nG.out (fun h => h))
  have nH := hide (hc.box nH.out (fun h => h))
  have nV := hide (hc.box nV.out (fun h => h))
  have nX := hide (hc.box nX.out (fun h => h))
  have nY := hide (hc.box nY.out (fun h => h))
  have nZ := hide (hc.box nZ.out (fun h => h))
  have BE := hide (BE.out.trans (hb.mono BE.out.size))
  clear hb hc
  have nh0 : W10.cell? ⟨w.heap.size + 1, 0, none⟩ = some (.int .u32 h.1) := by simp [Lib.cell_of_heap nH.out]
  have nh1 : W10.cell? ⟨w.heap.size + 1, 1, none⟩ = some (.int .u32 h.2) := by simp [Lib.cell_of_heap nH.out]
  go_wp2_with fail
  clear nh0 nh1
  refine (ccap_nil W10 h).mono ?_
  rintro e W11 ⟨rfl, hb⟩
  have hc := Ch.of_below (Q := fun _ => False) hb
  have nG := hide (hc.box nG.out (fun h => h))
  have nH := hide (hc.box nH.out (fun h => h))
  have nV := hide (hc.box nV.out (fun h => h))
  have nX := hide (hc.box nX.out (fun h => h))
  have nY := hide (hc.box nY.out (fun h => h))
  have nZ := hide (hc.box nZ.out (fun h => h))
  have BE := hide (BE.out.trans (hb.mono BE.out.size))
  clear hb hc
  have nh0 : W11.cell? ⟨w.heap.size + 1, 0, none⟩ = some (.int .u32 h.1) := by simp [Lib.cell_of_heap nH.out]
  have nh1 : W11.cell? ⟨w.heap.size + 1, 1, none⟩ = some (.int .u32 h.2) := by simp [Lib.cell_of_heap nH.out]
  go_wp2_with fail
  clear nh0 nh1
  refine (cmake_nil W11 h).mono ?_
  rintro e W12 ⟨rfl, hb⟩
  have hc := Ch.of_below (Q := fun _ => False) hb
  have nG := hide (hc.box nG.out (fun h => h))
  have nH := hide (hc.box nH.out (fun h => h))
  have nV := hide (hc.box nV.out (fun h => h))
  have nX := hide (hc.box nX.out (fun h => h))
  have nY := hide (hc.box nY.out (fun h => h))
  have nZ := hide (hc.box nZ.out (fun h => h))
  have BE := hide (BE.out.trans (hb.mono BE.out.size))
  clear hb hc
  have nh0 : W12.cell? ⟨w.heap.size + 1, 0, none⟩ = some (.int .u32 h.1) := by simp [Lib.cell_of_heap nH.out]
  have nh1 : W12.cell? ⟨w.heap.size + 1, 1, none⟩ = some (.int .u32 h.2) := by simp [Lib.cell_of_heap nH.out]
  go_wp2_with fail
  clear nh0 nh1
  refine (cdrop_nil W12 h).mono ?_
  rintro e W13 ⟨rfl, hb⟩
  have hc := Ch.of_below (Q := fun _ => False) hb
  have nG := hide (hc.box nG.out (fun h => h))
  have nH := hide (hc.box nH.out (fun h => h))
  have nV := hide (hc.box nV.out (fun h => h))
  have nX := hide (hc.box nX.out (fun h => h))
  have nY := hide (hc.box nY.out (fun h => h))
  have nZ := hide (hc.box nZ.out (fun h => h))
  have BE := hide (BE.out.trans (hb.mono BE.out.size))
  clear hb hc
  have nx0 : W13.cell? ⟨W4.heap.size, 0, none⟩ = some (.int .i64 0) := by simp [Lib.cell_of_heap nX.out]
  have nx1 : W13.cell? ⟨W4.heap.size, 1, none⟩ = some (.int .i64 0) := by simp [Lib.cell_of_heap nX.out]
  have nx2 : W13.cell? ⟨W4.heap.size, 2, none⟩ = some (.int .u32 0) := by simp [Lib.cell_of_heap nX.out]
  have nx3 : W13.cell? ⟨W4.heap.size, 3, none⟩ = some (.int .u32 0) := by simp [Lib.cell_of_heap nX.out]
  have nx4 : W13.cell? ⟨W4.heap.size, 4, none⟩ = some (.bool false) := by simp [Lib.cell_of_heap nX.out]
  have nx5 : W13.cell? ⟨W4.heap.size, 5, none⟩ = some (.slice none 0 0) := by simp [Lib.cell_of_heap nX.out]
  go_wp2_with fail
  clear nx0 nx1 nx2 nx3 nx4 nx5
  refine (same_zero W13).mono ?_
  rintro e W14 ⟨rfl, hb⟩
  have hc := Ch.of_below (Q := fun _ => False) hb
  have nG := hide (hc.box nG.out (fun h => h))
  have nH := hide (hc.box nH.out (fun h => h))
  have nV := hide (hc.box nV.out (fun h => h))
  have nX := hide (hc.box nX.out (fun h => h))
  have nY := hide (hc.box nY.out (fun h => h))
  have nZ := hide (hc.box nZ.out (fun h => h))
  have BE := hide (BE.out.trans (hb.mono BE.out.size))
  clear hb hc
  have ny0 : W14.cell? ⟨W6.heap.size, 0, none⟩ = some (.int .i64 0) := by simp [Lib.cell_of_heap nY.out]
  have ny1 : W14.cell? ⟨W6.heap.size, 1, none⟩ = some (.int .i64 0) := by simp [Lib.cell_of_heap nY.out]
  have ny2 : W14.cell? ⟨W6.heap.size, 2, none⟩ = some (.int .u32 0) := by simp [Lib.cell_of_heap nY.out]
  have ny3 : W14.cell? ⟨W6.heap.size, 3, none⟩ = some (.int .u32 0) := by simp [Lib.cell_of_heap nY.out]
  have ny4 : W14.cell? ⟨W6.heap.size, 4, none⟩ = some (.bool false) := by simp [Lib.cell_of_heap nY.out]
  have ny5 : W14.cell? ⟨W6.heap.size, 5, none⟩ = some (.slice none 0 0) := by simp [Lib.cell_of_heap nY.out]
  go_wp2_with fail
  clear ny0 ny1 ny2 ny3 ny4 ny5
  refine (same_zero W14).mono ?_
  rintro e W15 ⟨rfl, hb⟩
  have hc := Ch.of_below (Q := fun _ => False) hb
  have nG := hide (hc.box nG.out (fun h => h))
  have nH := hide (hc.box nH.out (fun h => h))
  have nV := hide (hc.box nV.out (fun h => h))
  have nX := hide (hc.box nX.out (fun h => h))
  have nY := hide (hc.box nY.out (fun h => h))
  have nZ := hide (hc.box nZ.out (fun h => h))
  have BE := hide (BE.out.trans (hb.mono BE.out.size))
  clear hb hc
  have nz0 : W15.cell? ⟨W8.heap.size, 0, none⟩ = some (.int .i64 0) := by simp [Lib.cell_of_heap nZ.out]
  have nz1 : W15.cell? ⟨W8.heap.size, 1, none⟩ = some (.int .i64 0) := by simp [Lib.cell_of_heap nZ.out]
  have nz2 : W15.cell? ⟨W8.heap.size, 2, none⟩ = some (.int .u32 0) := by simp [Lib.cell_of_heap nZ.out]
  have nz3 : W15.cell? ⟨W8.heap.size, 3, none⟩ = some (.int .u32 0) := by simp [Lib.cell_of_heap nZ.out]
  have nz4 : W15.cell? ⟨W8.heap.size, 4, none⟩ = some (.bool false) := by simp [Lib.cell_of_heap nZ.out]
  have nz5 : W15.cell? ⟨W8.heap.size, 5, none⟩ = some (.slice none 0 0) := by simp [Lib.cell_of_heap nZ.out]
  go_wp2_with fail
  clear nz0 nz1 nz2 nz3 nz4 nz5
  refine (same_zero W15).mono ?_
  rintro e W16 ⟨rfl, hb⟩
  have hc := Ch.of_below (Q := fun _ => False) hb
  have nG := hide (hc.box nG.out (fun h => h))
  have nH := hide (hc.box nH.out (fun h => h))
  have nV := hide (hc.box nV.out (fun h => h))
  have nX := hide (hc.box nX.out (fun h => h))
  have nY := hide (hc.box nY.out (fun h => h))
  have nZ := hide (hc.box nZ.out (fun h => h))
  have BE := hide (BE.out.trans (hb.mono BE.out.size))
  clear hb hc
  have nh0 : W16.cell? ⟨w.heap.size + 1, 0, none⟩ = some (.int .u32 h.1) := by simp [Lib.cell_of_heap nH.out]
  have nh1 : W16.cell? ⟨w.heap.size + 1, 1, none⟩ = some (.int .u32 h.2) := by simp [Lib.cell_of_heap nH.out]
  go_wp2_with fail
  clear nh0 nh1
  refine (chas_nil W16 h).mono ?_
  rintro e W17 ⟨rfl, hb⟩
  have hc := Ch.of_below (Q := fun _ => False) hb
  have nG := hide (hc.box nG.out (fun h => h))
  have nH := hide (hc.box nH.out (fun h => h))
  have nV := hide (hc.box nV.out (fun h => h))
  have nX := hide (hc.box nX.out (fun h => h))
  have nY := hide (hc.box nY.out (fun h => h))
  have nZ := hide (hc.box nZ.out (fun h => h))
  have BE := hide (BE.out.trans (hb.mono BE.out.size))
  clear hb hc
  have nh0 : W17.cell? ⟨w.heap.size + 1, 0, none⟩ = some (.int .u32 h.1) := by simp [Lib.cell_of_heap nH.out]
  have nh1 : W17.cell? ⟨w.heap.size + 1, 1, none⟩ = some (.int .u32 h.2) := by simp [Lib.cell_of_heap nH.out]
  go_wp2_with fail
  clear nh0 nh1
  refine (ccanSend_nil W17 h).mono ?_
  rintro e W18 ⟨rfl, hb⟩
  have hc := Ch.of_below (Q := fun _ => False) hb
  have nG := hide (hc.box nG.out (fun h => h))
  have nH := hide (hc.box nH.out (fun h => h))
  have nV := hide (hc.box nV.out (fun h => h))
  have nX := hide (hc.box nX.out (fun h => h))
  have nY := hide (hc.box nY.out (fun h => h))
  have nZ := hide (hc.box nZ.out (fun h => h))
  have BE := hide (BE.out.trans (hb.mono BE.out.size))
  clear hb hc
  have nh0 : W18.cell? ⟨w.heap.size + 1, 0, none⟩ = some (.int .u32 h.1) := by simp [Lib.cell_of_heap nH.out]
  have nh1 : W18.cell? ⟨w.heap.size + 1, 1, none⟩ = some (.int .u32 h.2) := by simp [Lib.cell_of_heap nH.out]
  go_wp2_with fail
  clear nh0 nh1
  refine (ccanRecv_nil W18 h).mono ?_
  rintro e W19 ⟨rfl, hb⟩
  have hc := Ch.of_below (Q := fun _ => False) hb
  have nG := hide (hc.box nG.out (fun h => h))
  have nH := hide (hc.box nH.out (fun h => h))
  have nV := hide (hc.box nV.out (fun h => h))
  have nX := hide (hc.box nX.out (fun h => h))
  have nY := hide (hc.box nY.out (fun h => h))
  have nZ := hide (hc.box nZ.out (fun h => h))
  have BE := hide (BE.out.trans (hb.mono BE.out.size))
  clear hb hc
  have nh0 : W19.cell? ⟨w.heap.size + 1, 0, none⟩ = some (.int .u32 h.1) := by simp [Lib.cell_of_heap nH.out]
  have nh1 : W19.cell? ⟨w.heap.size + 1, 1, none⟩ = some (.int .u32 h.2) := by simp [Lib.cell_of_heap nH.out]
  go_wp2_with fail
  clear nh0 nh1
  refine (crefs_nil W19 h).mono ?_
  rintro e W20 ⟨rfl, hb⟩
  have hc := Ch.of_below (Q := fun _ => False) hb
  have nG := hide (hc.box nG.out (fun h => h))
  have nH := hide (hc.box nH.out (fun h => h))
  have nV := hide (hc.box nV.out (fun h => h))
  have nX := hide (hc.box nX.out (fun h => h))
  have nY := hide (hc.box nY.out (fun h => h))
  have nZ := hide (hc.box nZ.out (fun h => h))
  have BE := hide (BE.out.trans (hb.mono BE.out.size))
  clear hb hc
  go_wp2_with fail
  refine (ccount_nil W20).mono ?_
  rintro e W21 ⟨rfl, hb⟩
  have hc := Ch.of_below (Q := fun _ => False) hb
  have nG := hide (hc.box nG.out (fun h => h))
  have nH := hide (hc.box nH.out (fun h => h))
  have nV := hide (hc.box nV.out (fun h => h))
  have nX := hide (hc.box nX.out (fun h => h))
  have nY := hide (hc.box nY.out (fun h => h))
  have nZ := hide (hc.box nZ.out (fun h => h))
  have BE := hide (BE.out.trans (hb.mono BE.out.size))
  clear hb hc
  go_wp2_with fail
  go_ret
  exact ⟨rfl, BE.out⟩

end Go.Proofs.Ytplnafocanfcgaa

namespace Go.Proofs.Ytplnafocanfcgaa
open Go.ChangeShapes Go.WideShapes Go.ChangeAt Go.RowKit Go.Deep

theorem own_knob : ownKnob Try.prog.godebug = none := by kernel_rfl
theorem laid_out : laidOutB Try.prog = true := by kernel_rfl
theorem i64_of_wf {n : Int} (h : (Lit.int .i64 n).wf = true) : -9223372036854775808 ≤ n ∧ n ≤ 9223372036854775807 := by
  rw [show (Lit.int .i64 n).wf = (decide (-9223372036854775808 ≤ n) && decide (n ≤ 9223372036854775807)) from rfl, Bool.and_eq_true, decide_eq_true_eq, decide_eq_true_eq] at h
  exact h

theorem u32_of_wf {n : Int} (h : (Lit.int .u32 n).wf = true) : UsW n := by
  rw [show (Lit.int .u32 n).wf = (decide (0 ≤ n) && decide (n ≤ 4294967295)) from rfl, Bool.and_eq_true, decide_eq_true_eq, decide_eq_true_eq] at h
  exact h

section
variable {H : Type} {enc : TypeId × Value → H} {w : World} {base : Nat} {spare : Nat → Bool} {held : Bool} {fuel : Nat} {v : Value} {x : DataW H × List MemPlace}

theorem trod_i64 {t : TypeId} (hu : Try.prog.underlying t = some (.int .i64)) (h : DataW.trod enc Try.prog w base spare held fuel t [v] = some x) : ∃ z, v = .int .i64 z ∧ -9223372036854775808 ≤ z ∧ z ≤ 9223372036854775807 := by
  cases fuel with
  | zero => simp [DataW.trod] at h
  | succ n =>
    simp only [DataW.trod, hu] at h
    cases v <;> simp at h
    rename_i k b
    obtain ⟨⟨rfl, h2⟩, _⟩ := h
    exact ⟨b, rfl, i64_of_wf h2⟩
theorem trod_u32 {t : TypeId} (hu : Try.prog.underlying t = some (.int .u32)) (h : DataW.trod enc Try.prog w base spare held fuel t [v] = some x) : ∃ z, v = .int .u32 z ∧ UsW z := by
  cases fuel with
  | zero => simp [DataW.trod] at h
  | succ n =>
    simp only [DataW.trod, hu] at h
    cases v <;> simp at h
    rename_i k b
    obtain ⟨⟨rfl, h2⟩, _⟩ := h
    exact ⟨b, rfl, u32_of_wf h2⟩
theorem trod_bool (h : DataW.trod enc Try.prog w base spare held fuel 4 [v] = some x) : ∃ s, v = .bool s := by
  cases fuel with
  | zero => simp [DataW.trod] at h
  | succ n =>
    simp only [DataW.trod, Try.underlying4] at h
    cases v <;> simp at h
    rename_i s
    exact ⟨s, rfl⟩
end

theorem ceInt : Try.prog.cellsOf 3 = 1 := by kernel_rfl
theorem ceSide : Try.prog.cellsOf 44 = 1 := by kernel_rfl
theorem ceBool : Try.prog.cellsOf 4 = 1 := by kernel_rfl
theorem ceU32 : Try.prog.cellsOf 41 = 1 := by kernel_rfl
theorem ceHd : Try.prog.cellsOf 43 = 2 := by kernel_rfl
theorem ceVal : Try.prog.cellsOf 46 = 3 := by kernel_rfl
theorem ceI64 : Try.prog.cellsOf 2 = 1 := by kernel_rfl
theorem ceRow : Try.prog.cellsOf 103 = 3 := by kernel_rfl

section
variable {H : Type} {enc : TypeId × Value → H} {W : World} {spare : Nat → Bool} {held : Bool}

set_option maxRecDepth 100000 in
theorem hd_in {n : Nat} {cs : List Value} {x : DataW H × List MemPlace} (hl : cs.length = 2) (h : DataW.trod enc Try.prog W 0 spare held n 43 cs = some x) : ∃ s g, cs = [.int .u32 s, .int .u32 g] ∧ UsW s ∧ UsW g := by
  obtain ⟨xs, k, hk, hxy, hlen, hxl, hf⟩ := DataW.trod_struct Try.underlying43 h
  match xs, hxl, cs, hl with
  | [y0, y1], _, [v0, v1], _ =>
    have g0 := hf 0 _ rfl
    have g1 := hf 1 _ rfl
    simp [ceU32] at g0 g1
    obtain ⟨z0, rfl, u0⟩ := trod_u32 Try.underlying41 g0
    obtain ⟨z1, rfl, u1⟩ := trod_u32 Try.underlying41 g1
    exact ⟨z0, z1, rfl, u0, u1⟩

set_option maxRecDepth 100000 in
theorem row_in {n : Nat} {cs : List Value} {x : DataW H × List MemPlace} (hl : cs.length = 3) (h : DataW.trod enc Try.prog W 0 spare held n 103 cs = some x) : ∃ s g d, cs = [.int .u32 s, .int .u32 g, .int .i64 d] ∧ UsW s ∧ UsW g ∧ I64 d := by
  obtain ⟨xs, k, hk, hxy, hlen, hxl, hf⟩ := DataW.trod_struct Try.underlying103 h
  match xs, hxl, cs, hl with
  | [y0, y1], _, [v0, v1, v2], _ =>
    have g0 := hf 0 _ rfl
    have g1 := hf 1 _ rfl
    simp [ceHd, ceSide] at g0 g1
    obtain ⟨s, g, e, us, ug⟩ := hd_in rfl g0
    cases e
    obtain ⟨z1, rfl, b1, b2⟩ := trod_i64 Try.underlying44 g1
    exact ⟨s, g, z1, rfl, us, ug, b1, b2⟩
end

set_option maxRecDepth 100000 in
theorem handle_in {H : Type} {enc : TypeId × Value → H} {W : World} {base : Nat} {v : Value} {d : DataW H} {ps : List MemPlace} (hv : Value.okWide Try.prog W .any base 43 v) (h : DataW.Trod enc Try.prog W 0 (fun _ => true) true 43 v d ps) : ∃ s g, v = .agg #[.int .u32 s, .int .u32 g] := by
  obtain ⟨cs, rfl, hsz⟩ := okWide_struct Try.underlying43 hv
  rw [ceHd] at hsz
  obtain ⟨n, hn⟩ := h
  obtain ⟨cl⟩ := cs
  obtain ⟨s, g, e, _, _⟩ := hd_in (cs := cl) hsz hn
  subst e
  exact ⟨s, g, rfl⟩

set_option maxRecDepth 100000 in
theorem rowv_in {H : Type} {enc : TypeId × Value → H} {W : World} {base : Nat} {v : Value} {d : DataW H} {ps : List MemPlace} (hv : Value.okWide Try.prog W .any base 103 v) (h : DataW.Trod enc Try.prog W 0 (fun _ => true) true 103 v d ps) : ∃ s g d, v = .agg #[.int .u32 s, .int .u32 g, .int .i64 d] := by
  obtain ⟨cs, rfl, hsz⟩ := okWide_struct Try.underlying103 hv
  rw [ceRow] at hsz
  obtain ⟨n, hn⟩ := h
  obtain ⟨cl⟩ := cs
  obtain ⟨s, g, d, e, _⟩ := row_in (cs := cl) hsz hn
  subst e
  exact ⟨s, g, d, rfl⟩

section
variable {H : Type} {enc : TypeId × Value → H} {W : World} {spare : Nat → Bool} {held : Bool}

set_option maxRecDepth 100000 in
theorem val_in {n : Nat} {cs : List Value} {x : DataW H × List MemPlace} (hl : cs.length = 3) (h : DataW.trod enc Try.prog W 0 spare held n 46 cs = some x) : ∃ d s g, cs = [.int .i64 d, .int .u32 s, .int .u32 g] ∧ I64 d ∧ UsW s ∧ UsW g := by
  obtain ⟨xs, k, hk, hxy, hlen, hxl, hf⟩ := DataW.trod_struct Try.underlying46 h
  match xs, hxl, cs, hl with
  | [y0, y1], _, [v0, v1, v2], _ =>
    have g0 := hf 0 _ rfl
    have g1 := hf 1 _ rfl
    simp [ceHd, ceI64] at g0 g1
    obtain ⟨z0, rfl, b1, b2⟩ := trod_i64 Try.underlying2 g0
    obtain ⟨s, g, e, us, ug⟩ := hd_in rfl g1
    cases e
    exact ⟨z0, s, g, rfl, ⟨b1, b2⟩, us, ug⟩
end

set_option maxRecDepth 100000 in
theorem valv_in {H : Type} {enc : TypeId × Value → H} {W : World} {base : Nat} {v : Value} {d : DataW H} {ps : List MemPlace} (hv : Value.okWide Try.prog W .any base 46 v) (h : DataW.Trod enc Try.prog W 0 (fun _ => true) true 46 v d ps) : ∃ s g d, v = .agg #[.int .i64 s, .int .u32 g, .int .u32 d] := by
  obtain ⟨cs, rfl, hsz⟩ := okWide_struct Try.underlying46 hv
  rw [ceVal] at hsz
  obtain ⟨n, hn⟩ := h
  obtain ⟨cl⟩ := cs
  obtain ⟨s, g, d, e, _⟩ := val_in (cs := cl) hsz hn
  subst e
  exact ⟨s, g, d, rfl⟩

end Go.Proofs.Ytplnafocanfcgaa

namespace Go.Proofs.Ytplnafocanfcgaa
open Go.ChangeShapes Go.WideShapes Go.ChangeAt Go.RowKit Go.Deep

set_option maxRecDepth 100000 in
theorem nil_lifted (os : Os) (started : os.Started) (H : Type) (enc : TypeId × Value → H) :
    ReturnsInHanded {} Try.checked os 5 .any (Rows.chansNilSpec.pre6 enc Try.prog Try.f5 Rows.chansNilRow.domain false) (Rows.chansNilSpec.post enc Try.prog Try.f5 false true false false) := by
  refine returnsInHanded_of_change (C := Try.checked) own_knob started (by kernel_rfl) Try.func5
    (ChangeSpec.witness6 (enc := enc) (C := Try.checked) false ⟨#[], #[.agg #[.int .u32 0, .int .u32 0], .agg #[.int .u32 0, .int .u32 0], .agg #[.int .i64 0, .int .u32 0, .int .u32 0]], []⟩ 8 (by kernel_rfl) (by kernel_rfl) (by kernel_rfl) (by kernel_rfl)) ?_
  intro W base args ds gs before hval0 hW _ _
  have hval : ∀ (j : Nat) t v, Try.f5.params[j]? = some t → args[j]? = some v → Value.okWide Try.prog W .any base t v := hval0
  have hW' := hW
  obtain ⟨p, q, hA0, hV, rfl, hfz, hnd⟩ := hW
  have hA : DataW.TrodAll enc Try.prog W 0 (fun _ => true) true Try.f5.params.toList args.toList ds p := hA0
  rw [Try.params5] at hA hval
  obtain ⟨v0, vs0, d0, ds0, p0, q0, hargs, rfl, rfl, h0, r0⟩ := trodAll_cons hA
  obtain ⟨v1, vs1, d1, ds1, p1, q1, rfl, rfl, rfl, h1, r1⟩ := trodAll_cons r0
  obtain ⟨v2, vs2, d2, ds2, p2, q2, rfl, rfl, rfl, h2, r2⟩ := trodAll_cons r1
  obtain ⟨rfl, rfl, rfl⟩ := trodAll_nil r2
  obtain rfl : args = #[v0, v1, v2] := by cases args; simp_all
  obtain ⟨rfl, rfl⟩ := trodVars_none hV
  obtain ⟨s0, g0, rfl⟩ := handle_in (hval 0 43 v0 rfl rfl) h0
  obtain ⟨s1, g1, rfl⟩ := handle_in (hval 1 43 v1 rfl rfl) h1
  obtain ⟨n2, s2, g2, rfl⟩ := valv_in (hval 2 46 v2 rfl rfl) h2
  have lt0 : ∀ x ∈ p0, x.block < W.heap.size := by obtain ⟨m, hm⟩ := h0; exact DataW.trod_lt m _ _ _ hm
  have lt1 : ∀ x ∈ p1, x.block < W.heap.size := by obtain ⟨m, hm⟩ := h1; exact DataW.trod_lt m _ _ _ hm
  have lt2 : ∀ x ∈ p2, x.block < W.heap.size := by obtain ⟨m, hm⟩ := h2; exact DataW.trod_lt m _ _ _ hm
  clear hA0 hval0
  refine (nil_is W (s0, g0) (s1, g1) ⟨n2, s2, g2⟩).mono fun e W' ⟨he, bel⟩ => ?_
  subst he
  exact ⟨_, rfl, _, _, _, [], _, [], hW', trodAll_mk1 (shut_bool Try.underlying4 _), (trodAll_cons_mk (Below.trod laid_out (by kernel_rfl) (of_decide_eq_true (by kernel_rfl)) h0 bel lt0) (trodAll_cons_mk (Below.trod laid_out (by kernel_rfl) (of_decide_eq_true (by kernel_rfl)) h1 bel lt1) (trodAll_cons_mk (Below.trod laid_out (by kernel_rfl) (of_decide_eq_true (by kernel_rfl)) h2 bel lt2) trodAll_mk0))), rfl, bel.frame _, fun h => by cases h⟩

theorem chansNil_holds : Rows.ChansNilSaid :=
  OpenClaim.holds_of_wide 5 Try.f5 rfl rfl rfl rfl rfl rfl rfl ⟨rfl, rfl, rfl, rfl, rfl⟩ rfl rfl rfl rfl rfl (by kernel_rfl) Try.func5 (by kernel_rfl)
    (of_decide_eq_true (by kernel_rfl)) (by unfold Func.isWrapper; first | (rw [if_pos (by decide +kernel)]; kernel_rfl) | (rw [if_neg (by decide +kernel)]; exact ⟨rfl, rfl⟩))
    (fun os started H enc _ => nil_lifted os started H enc)

#print axioms chansNil_holds
end Go.Proofs.Ytplnafocanfcgaa
