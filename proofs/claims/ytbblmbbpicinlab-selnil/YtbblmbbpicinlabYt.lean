/- Layer 14: no channels. Layer 14: a channel's ring; how much it holds, and for how much it has room. Layer 14: a send on a closed channel; a closed channel is closed again. Layer 14: a receive from a closed channel that holds nothing. -/
import Derived.Test.YtbblmbbpicinlabYs
namespace Go.Proofs.Ytbblmbbpicinlab
open Go.RowKit

abbrev kcs0 : Oper := { dst := some 9, op := Op.move (Operand.tmp 5), type := 89, pos := "chans.go:99", after := #[], guard := none }
abbrev kcs1 : Oper := { dst := some 10, op := Op.binOp BinOp.neq 89 (Operand.tmp 9) (Operand.const (Value.pointer none)) 89, type := 4, pos := "chans.go:99", after := #[{ on := 0, ground := Ground.data }], guard := none }
abbrev kcs2 : Oper := { dst := some 11, op := Op.move (Operand.tmp 10), type := 4, pos := "chans.go:99", after := #[{ on := 1, ground := Ground.data }], guard := none }
abbrev kcs3 : Oper := { dst := some 12, op := Op.move (Operand.tmp 5), type := 89, pos := "chans.go:99", after := #[{ on := 2, ground := Ground.guard }], guard := some (2, true) }
abbrev kcs4 : Oper := { dst := some 13, op := Op.nilCheck (Operand.tmp 12), type := 0, pos := "chans.go:99", after := #[{ on := 3, ground := Ground.data }, { on := 2, ground := Ground.guard }], guard := some (2, true) }
abbrev kcs5 : Oper := { dst := some 14, op := Op.fieldAddr 120 (Operand.tmp 13) 2, type := 0, pos := "chans.go:99", after := #[{ on := 4, ground := Ground.data }, { on := 2, ground := Ground.guard }], guard := some (2, true) }
abbrev kcs6 : Oper := { dst := some 15, op := Op.load 4 (Operand.tmp 14), type := 4, pos := "chans.go:99", after := #[{ on := 5, ground := Ground.data }, { on := 2, ground := Ground.guard }], guard := some (2, true) }
abbrev kcs7 : Oper := { dst := some 16, op := Op.move (Operand.tmp 15), type := 4, pos := "chans.go:99", after := #[{ on := 6, ground := Ground.data }, { on := 2, ground := Ground.chain }, { on := 2, ground := Ground.guard }], guard := some (2, true) }
abbrev kcs8 : Oper := { dst := some 17, op := Op.move (Operand.tmp 5), type := 89, pos := "chans.go:99", after := #[{ on := 7, ground := Ground.guard }], guard := some (7, false) }
abbrev kcs9 : Oper := { dst := some 18, op := Op.nilCheck (Operand.tmp 17), type := 0, pos := "chans.go:99", after := #[{ on := 8, ground := Ground.data }, { on := 7, ground := Ground.guard }], guard := some (7, false) }
abbrev kcs10 : Oper := { dst := some 19, op := Op.fieldAddr 120 (Operand.tmp 18) 0, type := 0, pos := "chans.go:99", after := #[{ on := 9, ground := Ground.data }, { on := 7, ground := Ground.guard }], guard := some (7, false) }
abbrev kcs11 : Oper := { dst := some 20, op := Op.load 86 (Operand.tmp 19), type := 86, pos := "chans.go:99", after := #[{ on := 10, ground := Ground.data }, { on := 7, ground := Ground.guard }], guard := some (7, false) }
abbrev kcs12 : Oper := { dst := some 21, op := Op.call { callee := Callee.value (Operand.func 54), args := #[Operand.tmp 20, Operand.const (Value.int IntKind.i64 2)], argTypes := #[86, 74] }, type := 4, pos := "chans.go:99", after := #[{ on := 11, ground := Ground.data }, { on := 7, ground := Ground.chain }, { on := 7, ground := Ground.guard }], guard := some (7, false) }
abbrev kcs13 : Oper := { dst := some 22, op := Op.pick (Operand.tmp 16) (Operand.const (Value.bool true)) (Operand.tmp 21), type := 4, pos := "chans.go:99", after := #[{ on := 7, ground := Ground.data }, { on := 12, ground := Ground.data }, { on := 2, ground := Ground.guard }], guard := some (2, true) }
abbrev kcs14 : Oper := { dst := some 23, op := Op.move (Operand.tmp 22), type := 4, pos := "chans.go:99", after := #[{ on := 13, ground := Ground.data }, { on := 12, ground := Ground.chain }, { on := 2, ground := Ground.guard }], guard := some (2, true) }
abbrev kcs15 : Oper := { dst := some 24, op := Op.move (Operand.tmp 5), type := 89, pos := "chans.go:99", after := #[{ on := 14, ground := Ground.guard }], guard := some (14, false) }
abbrev kcs16 : Oper := { dst := some 25, op := Op.nilCheck (Operand.tmp 24), type := 0, pos := "chans.go:99", after := #[{ on := 15, ground := Ground.data }, { on := 14, ground := Ground.guard }], guard := some (14, false) }
abbrev kcs17 : Oper := { dst := some 26, op := Op.fieldAddr 120 (Operand.tmp 25) 1, type := 0, pos := "chans.go:99", after := #[{ on := 16, ground := Ground.data }, { on := 14, ground := Ground.guard }], guard := some (14, false) }
abbrev kcs18 : Oper := { dst := some 27, op := Op.load 116 (Operand.tmp 26), type := 116, pos := "chans.go:99", after := #[{ on := 17, ground := Ground.data }, { on := 14, ground := Ground.guard }], guard := some (14, false) }
abbrev kcs19 : Oper := { dst := some 28, op := Op.call { callee := Callee.value (Operand.func 55), args := #[Operand.tmp 27], argTypes := #[116] }, type := 3, pos := "chans.go:99", after := #[{ on := 18, ground := Ground.data }, { on := 14, ground := Ground.chain }, { on := 14, ground := Ground.guard }], guard := some (14, false) }
abbrev kcs20 : Oper := { dst := some 29, op := Op.move (Operand.tmp 5), type := 89, pos := "chans.go:99", after := #[{ on := 14, ground := Ground.guard }], guard := some (14, false) }
abbrev kcs21 : Oper := { dst := some 30, op := Op.nilCheck (Operand.tmp 29), type := 0, pos := "chans.go:99", after := #[{ on := 20, ground := Ground.data }, { on := 14, ground := Ground.guard }], guard := some (14, false) }
abbrev kcs22 : Oper := { dst := some 31, op := Op.fieldAddr 120 (Operand.tmp 30) 1, type := 0, pos := "chans.go:99", after := #[{ on := 21, ground := Ground.data }, { on := 14, ground := Ground.guard }], guard := some (14, false) }
abbrev kcs23 : Oper := { dst := some 32, op := Op.load 116 (Operand.tmp 31), type := 116, pos := "chans.go:99", after := #[{ on := 22, ground := Ground.data }, { on := 14, ground := Ground.guard }], guard := some (14, false) }
abbrev kcs24 : Oper := { dst := some 33, op := Op.call { callee := Callee.value (Operand.func 56), args := #[Operand.tmp 32], argTypes := #[116] }, type := 3, pos := "chans.go:99", after := #[{ on := 23, ground := Ground.data }, { on := 19, ground := Ground.chain }, { on := 14, ground := Ground.guard }], guard := some (14, false) }
abbrev kcs25 : Oper := { dst := some 34, op := Op.binOp BinOp.lss 3 (Operand.tmp 28) (Operand.tmp 33) 3, type := 4, pos := "chans.go:99", after := #[{ on := 19, ground := Ground.data }, { on := 24, ground := Ground.data }, { on := 14, ground := Ground.guard }], guard := some (14, false) }
abbrev kcs26 : Oper := { dst := some 35, op := Op.pick (Operand.tmp 23) (Operand.const (Value.bool true)) (Operand.tmp 34), type := 4, pos := "chans.go:99", after := #[{ on := 14, ground := Ground.data }, { on := 25, ground := Ground.data }, { on := 2, ground := Ground.guard }], guard := some (2, true) }
abbrev kcs27 : Oper := { dst := some 36, op := Op.pick (Operand.tmp 11) (Operand.tmp 35) (Operand.const (Value.bool false)), type := 4, pos := "chans.go:99", after := #[{ on := 2, ground := Ground.data }, { on := 26, ground := Ground.data }], guard := none }
abbrev kcs28 : Oper := { dst := some 4, op := Op.assign (Operand.tmp 36), type := 4, pos := "chans.go:99", after := #[{ on := 27, ground := Ground.data }, { on := 24, ground := Ground.chain }, { on := 0, ground := Ground.phase }, { on := 1, ground := Ground.phase }, { on := 2, ground := Ground.phase }, { on := 3, ground := Ground.phase }, { on := 4, ground := Ground.phase }, { on := 5, ground := Ground.phase }, { on := 6, ground := Ground.phase }, { on := 7, ground := Ground.phase }, { on := 8, ground := Ground.phase }, { on := 9, ground := Ground.phase }, { on := 10, ground := Ground.phase }, { on := 11, ground := Ground.phase }, { on := 12, ground := Ground.phase }, { on := 13, ground := Ground.phase }, { on := 14, ground := Ground.phase }, { on := 15, ground := Ground.phase }, { on := 16, ground := Ground.phase }, { on := 17, ground := Ground.phase }, { on := 18, ground := Ground.phase }, { on := 19, ground := Ground.phase }, { on := 20, ground := Ground.phase }, { on := 21, ground := Ground.phase }, { on := 22, ground := Ground.phase }, { on := 23, ground := Ground.phase }, { on := 24, ground := Ground.phase }, { on := 25, ground := Ground.phase }, { on := 26, ground := Ground.phase }, { on := 27, ground := Ground.phase }], guard := none }

theorem res_csend_nil (tm : Array Value) (A : Nat) (Z : World) (q : Int) (h2 : tm[8]?.getD undef = .pointer (some ⟨A, 0, none⟩)) (h3 : tm[9]?.getD undef = .int .i64 q) (c0 : Z.cell? ⟨A, 0, none⟩ = some (.int .i64 0)) (c1 : Z.cell? ⟨A, 1, none⟩ = some (.int .i64 0)) (c2 : Z.cell? ⟨A, 2, none⟩ = some (.int .u32 0)) (c3 : Z.cell? ⟨A, 3, none⟩ = some (.int .u32 0)) (c4 : Z.cell? ⟨A, 4, none⟩ = some (.bool false)) (c5 : Z.cell? ⟨A, 5, none⟩ = some (.slice none 0 0)) :
    (results Try.f19 tm).run Try.prog Z = .ok (.tuple #[didV 0 zVa false (.slice none 0 0), .int .i64 q]) Z := by
  simp [results, Try.f19, h2, h3, go_sem, c0, c1, c2, c3, c4, c5, zVa]

theorem res_crecv_nil (tm : Array Value) (A : Nat) (Z : World) (q : Int) (h2 : tm[6]?.getD undef = .pointer (some ⟨A, 0, none⟩)) (h3 : tm[7]?.getD undef = .int .i64 q) (c0 : Z.cell? ⟨A, 0, none⟩ = some (.int .i64 0)) (c1 : Z.cell? ⟨A, 1, none⟩ = some (.int .i64 0)) (c2 : Z.cell? ⟨A, 2, none⟩ = some (.int .u32 0)) (c3 : Z.cell? ⟨A, 3, none⟩ = some (.int .u32 0)) (c4 : Z.cell? ⟨A, 4, none⟩ = some (.bool false)) (c5 : Z.cell? ⟨A, 5, none⟩ = some (.slice none 0 0)) :
    (results Try.f14 tm).run Try.prog Z = .ok (.tuple #[didV 0 zVa false (.slice none 0 0), .int .i64 q]) Z := by
  simp [results, Try.f14, h2, h3, go_sem, c0, c1, c2, c3, c4, c5, zVa]

end Go.Proofs.Ytbblmbbpicinlab

namespace Go.Proofs.Ytbblmbbpicinlab
open Go.RowKit

/-- what 'held' answers: a ring, or none, and why -/
def hpE (cs : List Cn) (x : Hnd) : Option Nat × Int := if nnH x then (none, 0) else match fnc cs x with | none => (none, 141) | some y => (some y.rp, 0)

def lnE (cs : List Cn) (x : Hnd) : Int := if nnH x then 0 else match fnc cs x with | none => 0 | some y => (y.xs.length : Int)
def cpE (cs : List Cn) (x : Hnd) : Int := if nnH x then 0 else match fnc cs x with | none => 0 | some y => (y.n : Int)

end Go.Proofs.Ytbblmbbpicinlab

namespace Go.Proofs.Ytbblmbbpicinlab
open Go.RowKit

theorem res_send_closed (tm : Array Value) (A : Nat) (Z : World) (h2 : tm[6]?.getD undef = .pointer (some ⟨A, 0, none⟩)) (c0 : Z.cell? ⟨A, 0, none⟩ = some (.int .i64 12)) (c1 : Z.cell? ⟨A, 1, none⟩ = some (.int .i64 0)) (c2 : Z.cell? ⟨A, 2, none⟩ = some (.int .u32 0)) (c3 : Z.cell? ⟨A, 3, none⟩ = some (.int .u32 0)) (c4 : Z.cell? ⟨A, 4, none⟩ = some (.bool false)) (c5 : Z.cell? ⟨A, 5, none⟩ = some (.slice none 0 0)) :
    (results Try.f35 tm).run Try.prog Z = .ok (didV 12 zVa false (.slice none 0 0)) Z := by
  simp [results, Try.f35, h2, go_sem, c0, c1, c2, c3, c4, c5, zVa]

set_option maxRecDepth 100000 in
set_option maxHeartbeats 8000000 in
theorem send_closed {w : World} {B c bp M : Nat} {F : Nat → Prop} {l : List Wt} {cs : List Cn} (h : CI w B c bp M F l cs) {x : Cn} (hin : x ∈ cs) (hcl : x.cl = true) (g : Hnd) (v : Va) : Calls Try.prog 35 #[.pointer (some ⟨x.cb, 0, none⟩), hkV g, vaV v] w fun e w' => e = .returned (didV 12 zVa false (.slice none 0 0)) ∧ Below w.heap.size w w' := by
  obtain ⟨w1, hw1⟩ : ∃ w1, ((w.alloc (.cells #[.int .u32 g.1, .int .u32 g.2] 24)).alloc (.cells #[.int .i64 v.n, .int .u32 v.s, .int .u32 v.g] 41)).alloc (.cells #[.int .i64 0, .int .i64 0, .int .u32 0, .int .u32 0, .bool false, .slice none 0 0] 44) = w1 := ⟨_, rfl⟩
  have hB1 : Below w.heap.size w w1 := by rw [← hw1]; exact (((below1 w _).trans ((below1 _ _).mono (by simp; try omega))).trans ((below1 _ _).mono (by simp; try omega)))
  have hz1 : ((w.alloc (.cells #[.int .u32 g.1, .int .u32 g.2] 24)).alloc (.cells #[.int .i64 v.n, .int .u32 v.s, .int .u32 v.g] 41)).heap.size = w.heap.size + 2 := by simp [World.size_alloc]
  have hn1 : w1.heap[w.heap.size + 2]? = some (.cells #[.int .i64 0, .int .i64 0, .int .u32 0, .int .u32 0, .bool false, .slice none 0 0] 44 (0, 0)) := by
    rw [← hw1, ← hz1]
    exact heap_new _ _
  have H := hide (h.quiet (Ch.of_below hB1))
  obtain ⟨k0, k1, k2, k3, k4⟩ := (H.out.ch x hin).cells
  rw [hcl] at k4
  have HB := hide hB1
  have z0 : w1.cell? ⟨w.heap.size + 2, 0, none⟩ = some (.int .i64 0) := by simp [Lib.cell_of_heap hn1]
  have z1 : w1.cell? ⟨w.heap.size + 2, 1, none⟩ = some (.int .i64 0) := by simp [Lib.cell_of_heap hn1]
  have z2 : w1.cell? ⟨w.heap.size + 2, 2, none⟩ = some (.int .u32 0) := by simp [Lib.cell_of_heap hn1]
  have z3 : w1.cell? ⟨w.heap.size + 2, 3, none⟩ = some (.int .u32 0) := by simp [Lib.cell_of_heap hn1]
  have z4 : w1.cell? ⟨w.heap.size + 2, 4, none⟩ = some (.bool false) := by simp [Lib.cell_of_heap hn1]
  have z5 : w1.cell? ⟨w.heap.size + 2, 5, none⟩ = some (.slice none 0 0) := by simp [Lib.cell_of_heap hn1]
  have zf : ∀ j, w1.frozen? ⟨w.heap.size + 2, j, none⟩ = false := frz hn1
  clear hB1 h hin hcl hn1 hz1
  go_enter Try.func35, Try.ntmps35
  go_wp2_with fail
  refine bodyPost_ret (v := didV 12 zVa false (.slice none 0 0)) (res_send_closed _ (w.heap.size + 2) _ rfl (by simp [go_sem, z0]) (by simp [go_sem, z1]) (by simp [go_sem, z2]) (by simp [go_sem, z3]) (by simp [go_sem, z4]) (by simp [go_sem, z5])) rfl ⟨rfl, ?_⟩
  have c : Ch (fun y => y = w.heap.size + 2) w1 _ := wrsA w1 (w.heap.size + 2) [.int .i64 12, .int .i64 0, .int .u32 0, .int .u32 0, .bool false, .slice none 0 0]
  exact HB.out.trans (Ch.below c (N := w.heap.size) HB.out.size (fun y hy e => by omega))

end Go.Proofs.Ytbblmbbpicinlab

namespace Go.Proofs.Ytbblmbbpicinlab
open Go.RowKit

theorem res_recv_done (tm : Array Value) (A : Nat) (Z : World) (h2 : tm[4]?.getD undef = .pointer (some ⟨A, 0, none⟩)) (c0 : Z.cell? ⟨A, 0, none⟩ = some (.int .i64 0)) (c1 : Z.cell? ⟨A, 1, none⟩ = some (.int .i64 0)) (c2 : Z.cell? ⟨A, 2, none⟩ = some (.int .u32 0)) (c3 : Z.cell? ⟨A, 3, none⟩ = some (.int .u32 0)) (c4 : Z.cell? ⟨A, 4, none⟩ = some (.bool false)) (c5 : Z.cell? ⟨A, 5, none⟩ = some (.slice none 0 0)) :
    (results Try.f29 tm).run Try.prog Z = .ok (didV 0 zVa false (.slice none 0 0)) Z := by
  simp [results, Try.f29, h2, go_sem, c0, c1, c2, c3, c4, c5, zVa]

set_option maxRecDepth 100000 in
set_option maxHeartbeats 8000000 in
theorem recv_done {w : World} {B c bp M : Nat} {F : Nat → Prop} {l : List Wt} {cs : List Cn} (h : CI w B c bp M F l cs) (hl : l.length ≤ 100000) {x : Cn} (hin : x ∈ cs) (u1 : UsW x.h.1) (u2 : UsW x.h.2) (hxs : x.xs = []) (hcl : x.cl = true) (hq : sel (inRow x.h.1 x.h.2 1) l = []) (g : Hnd) : Calls Try.prog 29 #[.pointer (some ⟨x.cb, 0, none⟩), hkV g] w fun e w' => e = .returned (didV 0 zVa false (.slice none 0 0)) ∧ Below w.heap.size w w' := by
  obtain ⟨w1, hw1⟩ : ∃ w1, (w.alloc (.cells #[.int .u32 g.1, .int .u32 g.2] 24)).alloc (.cells #[.int .i64 0, .int .i64 0, .int .u32 0, .int .u32 0, .bool false, .slice none 0 0] 44) = w1 := ⟨_, rfl⟩
  have hB1 : Below w.heap.size w w1 := by rw [← hw1]; exact (below1 _ _).trans ((below1 _ _).mono (by simp))
  have hn1 : w1.heap[w.heap.size + 1]? = some (.cells #[.int .i64 0, .int .i64 0, .int .u32 0, .int .u32 0, .bool false, .slice none 0 0] 44 (0, 0)) := by
    have hz1 : (w.alloc (.cells #[.int .u32 g.1, .int .u32 g.2] 24)).heap.size = w.heap.size + 1 := by simp [World.size_alloc]
    rw [← hw1, ← hz1]
    exact heap_new _ _
  have H := hide (h.quiet (Ch.of_below hB1))
  have HR := hide (show RgV w1 x.rp x.rg [] x.n x.f x.pl by have := (H.out.ch x hin).ring; rwa [hxs] at this)
  have HFI := hide (fun V (cV : Ch (fun _ => False) w1 V) => show Calls Try.prog 45 #[plV bp x.h.1 x.h.2, .int .i64 1] V fun e w' => e = .returned (.tuple #[rcV zRc, .bool false]) ∧ Below V.heap.size V w' from by
    have := pfirst_is (H.out.quiet cV).bk hl u1 u2 (show I64 1 by constructor <;> decide)
    rw [hq] at this
    exact this)
  have HX := hide (fun V (cV : Ch (fun _ => False) w1 V) => show V.cell? ⟨x.cb, 0, none⟩ = some (.pointer (some ⟨bp, 0, none⟩)) ∧ V.cell? ⟨x.cb, 1, none⟩ = some (.int .u32 x.h.1) ∧ V.cell? ⟨x.cb, 2, none⟩ = some (.int .u32 x.h.2) ∧ V.cell? ⟨x.cb, 3, none⟩ = some (.pointer (some ⟨x.rp, 0, none⟩)) ∧ V.cell? ⟨x.cb, 4, none⟩ = some (.bool true) from by
    have := ((H.out.quiet cV).ch x hin).cells
    rwa [hcl] at this)
  have BE := hide hB1
  have HN := hide hn1
  obtain ⟨k0, k1, k2, k3, k4⟩ := HX.out w1 (Ch.refl _ _)
  clear hB1 h hin hcl hn1 hxs hq u1 u2 hl
  go_enter Try.func29, Try.ntmps29
  go_wp2_with fail
  refine (takeV_no HR.out).mono ?_
  rintro e w2 ⟨rfl, hb⟩
  have C2 := hide (Ch.of_below (Q := fun _ => False) hb)
  have BE2 := hide (BE.out.trans (hb.mono BE.out.size))
  clear hb k0 k1 k2 k3 k4 hw1
  obtain ⟨w3, hw3⟩ : ∃ x, w2.alloc (.cells #[.int .i64 zVa.n, .int .u32 zVa.s, .int .u32 zVa.g] 41) = x := ⟨_, rfl⟩
  have C3 := hide (C2.out.trans (show Ch (fun _ => False) w2 w3 by rw [← hw3]; exact Ch.alloc _ _) (fun _ _ h => h))
  have BE3 := hide (BE2.out.trans ((show Ch (fun _ => False) w2 w3 by rw [← hw3]; exact Ch.alloc _ _).below (N := w.heap.size) BE2.out.size (fun _ _ h => h)))
  have k0 : (w2.alloc (.cells #[.int .i64 zVa.n, .int .u32 zVa.s, .int .u32 zVa.g] 41)).cell? ⟨x.cb, 0, none⟩ = some (.pointer (some ⟨bp, 0, none⟩)) := by rw [hw3]; exact (HX.out _ C3.out).1
  have k1 : (w2.alloc (.cells #[.int .i64 zVa.n, .int .u32 zVa.s, .int .u32 zVa.g] 41)).cell? ⟨x.cb, 1, none⟩ = some (.int .u32 x.h.1) := by rw [hw3]; exact (HX.out _ C3.out).2.1
  have k2 : (w2.alloc (.cells #[.int .i64 zVa.n, .int .u32 zVa.s, .int .u32 zVa.g] 41)).cell? ⟨x.cb, 2, none⟩ = some (.int .u32 x.h.2) := by rw [hw3]; exact (HX.out _ C3.out).2.2.1
  have H3 := hide hw3
  clear hw3
  go_wp2_with fail
  rw [H3.out]
  clear k0 k1 k2
  refine (HFI.out w3 C3.out).mono ?_
  rintro e w4 ⟨rfl, hb⟩
  have C4 := hide (C3.out.trans (Ch.of_below (Q := fun _ => False) hb) (fun _ _ h => h))
  have BE4 := hide (BE3.out.trans (hb.mono BE3.out.size))
  clear hb
  obtain ⟨w5, hw5⟩ : ∃ x, w4.alloc (.cells #[.int .u32 zRc.ms, .int .u32 zRc.mg, .int .u32 zRc.ws, .int .u32 zRc.wg, .int .u32 zRc.rs, .int .u32 zRc.rg, .int .i64 zRc.rd, .int .i64 zRc.ar, .int .i64 zRc.vn, .int .u32 zRc.vs, .int .u32 zRc.vg] 103) = x := ⟨_, rfl⟩
  have C5 := hide (C4.out.trans (show Ch (fun _ => False) w4 w5 by rw [← hw5]; exact Ch.alloc _ _) (fun _ _ h => h))
  have BE5 := hide (BE4.out.trans ((show Ch (fun _ => False) w4 w5 by rw [← hw5]; exact Ch.alloc _ _).below (N := w.heap.size) BE4.out.size (fun _ _ h => h)))
  have k4 : (w4.alloc (.cells #[.int .u32 zRc.ms, .int .u32 zRc.mg, .int .u32 zRc.ws, .int .u32 zRc.wg, .int .u32 zRc.rs, .int .u32 zRc.rg, .int .i64 zRc.rd, .int .i64 zRc.ar, .int .i64 zRc.vn, .int .u32 zRc.vs, .int .u32 zRc.vg] 103)).cell? ⟨x.cb, 4, none⟩ = some (.bool true) := by rw [hw5]; exact (HX.out _ C5.out).2.2.2.2
  have n5 := C5.out.box HN.out (fun h => h)
  have z0 : (w4.alloc (.cells #[.int .u32 zRc.ms, .int .u32 zRc.mg, .int .u32 zRc.ws, .int .u32 zRc.wg, .int .u32 zRc.rs, .int .u32 zRc.rg, .int .i64 zRc.rd, .int .i64 zRc.ar, .int .i64 zRc.vn, .int .u32 zRc.vs, .int .u32 zRc.vg] 103)).cell? ⟨w.heap.size + 1, 0, none⟩ = some (.int .i64 0) := by rw [hw5]; simp [Lib.cell_of_heap n5]
  have z1 : (w4.alloc (.cells #[.int .u32 zRc.ms, .int .u32 zRc.mg, .int .u32 zRc.ws, .int .u32 zRc.wg, .int .u32 zRc.rs, .int .u32 zRc.rg, .int .i64 zRc.rd, .int .i64 zRc.ar, .int .i64 zRc.vn, .int .u32 zRc.vs, .int .u32 zRc.vg] 103)).cell? ⟨w.heap.size + 1, 1, none⟩ = some (.int .i64 0) := by rw [hw5]; simp [Lib.cell_of_heap n5]
  have z2 : (w4.alloc (.cells #[.int .u32 zRc.ms, .int .u32 zRc.mg, .int .u32 zRc.ws, .int .u32 zRc.wg, .int .u32 zRc.rs, .int .u32 zRc.rg, .int .i64 zRc.rd, .int .i64 zRc.ar, .int .i64 zRc.vn, .int .u32 zRc.vs, .int .u32 zRc.vg] 103)).cell? ⟨w.heap.size + 1, 2, none⟩ = some (.int .u32 0) := by rw [hw5]; simp [Lib.cell_of_heap n5]
  have z3 : (w4.alloc (.cells #[.int .u32 zRc.ms, .int .u32 zRc.mg, .int .u32 zRc.ws, .int .u32 zRc.wg, .int .u32 zRc.rs, .int .u32 zRc.rg, .int .i64 zRc.rd, .int .i64 zRc.ar, .int .i64 zRc.vn, .int .u32 zRc.vs, .int .u32 zRc.vg] 103)).cell? ⟨w.heap.size + 1, 3, none⟩ = some (.int .u32 0) := by rw [hw5]; simp [Lib.cell_of_heap n5]
  have z4 : (w4.alloc (.cells #[.int .u32 zRc.ms, .int .u32 zRc.mg, .int .u32 zRc.ws, .int .u32 zRc.wg, .int .u32 zRc.rs, .int .u32 zRc.rg, .int .i64 zRc.rd, .int .i64 zRc.ar, .int .i64 zRc.vn, .int .u32 zRc.vs, .int .u32 zRc.vg] 103)).cell? ⟨w.heap.size + 1, 4, none⟩ = some (.bool false) := by rw [hw5]; simp [Lib.cell_of_heap n5]
  have z5 : (w4.alloc (.cells #[.int .u32 zRc.ms, .int .u32 zRc.mg, .int .u32 zRc.ws, .int .u32 zRc.wg, .int .u32 zRc.rs, .int .u32 zRc.rg, .int .i64 zRc.rd, .int .i64 zRc.ar, .int .i64 zRc.vn, .int .u32 zRc.vs, .int .u32 zRc.vg] 103)).cell? ⟨w.heap.size + 1, 5, none⟩ = some (.slice none 0 0) := by rw [hw5]; simp [Lib.cell_of_heap n5]
  have zf : ∀ j, (w4.alloc (.cells #[.int .u32 zRc.ms, .int .u32 zRc.mg, .int .u32 zRc.ws, .int .u32 zRc.wg, .int .u32 zRc.rs, .int .u32 zRc.rg, .int .i64 zRc.rd, .int .i64 zRc.ar, .int .i64 zRc.vn, .int .u32 zRc.vs, .int .u32 zRc.vg] 103)).frozen? ⟨w.heap.size + 1, j, none⟩ = false := by rw [hw5]; exact frz n5
  have H5 := hide hw5
  clear hw5 n5
  go_wp2_with fail
  refine bodyPost_ret (v := didV 0 zVa false (.slice none 0 0)) (res_recv_done _ (w.heap.size + 1) _ rfl (by simp [go_sem, z0]) (by simp [go_sem, z1]) (by simp [go_sem, z2]) (by simp [go_sem, z3]) (by simp [go_sem, z4]) (by simp [go_sem, z5])) rfl ⟨rfl, ?_⟩
  rw [H5.out]
  have c : Ch (fun y => y = w.heap.size + 1) w5 _ := wrsA w5 (w.heap.size + 1) [.int .i64 0, .int .i64 0, .int .u32 0, .int .u32 0, .bool false, .slice none 0 0]
  exact BE5.out.trans (Ch.below c (N := w.heap.size) BE5.out.size (fun y hy e => by omega))

end Go.Proofs.Ytbblmbbpicinlab
