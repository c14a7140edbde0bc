/- Layer 11: the landed book: linesOf, Count. -/
import Derived.Test.YtoabhmpakcgloaaHi
namespace Go.Proofs.Ytoabhmpakcgloaa
open Go.RowKit

/-- the lines of a record, as an array -/
abbrev lnsV (r : Rc) : Value := .agg #[.int .i64 0, .int .u32 r.rs, .int .u32 r.rg, .int .i64 r.rd, .int .u32 0, .int .u32 0, .int .i64 1, .int .u32 0, .int .u32 0, .int .i64 0, .int .u32 r.ws, .int .u32 r.wg, .int .i64 2, .int .u32 0, .int .u32 0, .int .i64 0, .int .u32 0, .int .u32 0]

theorem resLines (tm : Array Value) (A : Nat) (Z : World) (r : Rc) (h2 : tm[2]?.getD undef = .pointer (some ⟨A, 0, none⟩)) (hc : Z.heap[A]? = some (.cells #[.int .i64 0, .int .u32 r.rs, .int .u32 r.rg, .int .i64 r.rd, .int .u32 0, .int .u32 0, .int .i64 1, .int .u32 0, .int .u32 0, .int .i64 0, .int .u32 r.ws, .int .u32 r.wg, .int .i64 2, .int .u32 0, .int .u32 0, .int .i64 0, .int .u32 0, .int .u32 0] 131 (0, 0))) :
    (results Try.f47 tm).run Try.prog Z = .ok (lnsV r) Z := by
  have k := Lib.cell_of_heap hc
  have c0 : Z.cell? ⟨A, 0, none⟩ = _ := k 0
  have c1 : Z.cell? ⟨A, 1, none⟩ = _ := k 1
  have c2 : Z.cell? ⟨A, 2, none⟩ = _ := k 2
  have c3 : Z.cell? ⟨A, 3, none⟩ = _ := k 3
  have c4 : Z.cell? ⟨A, 4, none⟩ = _ := k 4
  have c5 : Z.cell? ⟨A, 5, none⟩ = _ := k 5
  have c6 : Z.cell? ⟨A, 6, none⟩ = _ := k 6
  have c7 : Z.cell? ⟨A, 7, none⟩ = _ := k 7
  have c8 : Z.cell? ⟨A, 8, none⟩ = _ := k 8
  have c9 : Z.cell? ⟨A, 9, none⟩ = _ := k 9
  have c10 : Z.cell? ⟨A, 10, none⟩ = _ := k 10
  have c11 : Z.cell? ⟨A, 11, none⟩ = _ := k 11
  have c12 : Z.cell? ⟨A, 12, none⟩ = _ := k 12
  have c13 : Z.cell? ⟨A, 13, none⟩ = _ := k 13
  have c14 : Z.cell? ⟨A, 14, none⟩ = _ := k 14
  have c15 : Z.cell? ⟨A, 15, none⟩ = _ := k 15
  have c16 : Z.cell? ⟨A, 16, none⟩ = _ := k 16
  have c17 : Z.cell? ⟨A, 17, none⟩ = _ := k 17
  simp at c0 c1 c2 c3 c4 c5 c6 c7 c8 c9 c10 c11 c12 c13 c14 c15 c16 c17
  simp [results, Try.results47, go_sem, h2, c0, c1, c2, c3, c4, c5, c6, c7, c8, c9, c10, c11, c12, c13, c14, c15, c16, c17]

set_option maxRecDepth 100000 in
set_option maxHeartbeats 4000000 in
theorem lines_is (w : World) (r : Rc) : Calls Try.prog 47 #[rcV r] w fun e w' => e = .returned (lnsV r) ∧ Below w.heap.size w w' := by
  go_enter Try.func47, Try.ntmps47
  go_wp2
  refine bodyPost_ret (v := lnsV r) (resLines _ (w.heap.size + 1) _ r rfl ?_) rfl ⟨rfl, ?_⟩
  · have := heap_new (w.alloc (.cells #[.int .u32 r.ms, .int .u32 r.mg, .int .u32 r.ws, .int .u32 r.wg, .int .u32 r.rs, .int .u32 r.rg, .int .i64 r.rd, .int .i64 r.ar, .int .i64 r.vn, .int .u32 r.vs, .int .u32 r.vg] 114)) (.cells #[.int .i64 0, .int .u32 r.rs, .int .u32 r.rg, .int .i64 r.rd, .int .u32 0, .int .u32 0, .int .i64 1, .int .u32 0, .int .u32 0, .int .i64 0, .int .u32 r.ws, .int .u32 r.wg, .int .i64 2, .int .u32 0, .int .u32 0, .int .i64 0, .int .u32 0, .int .u32 0] 131)
    rwa [World.size_alloc] at this
  · exact (below1 _ _).trans ((below1 _ _).mono (by simp))

variable {w : World} {B p M C n : Nat} {wv : Value} {sl : List Sl} {full : Int} {en : Ln → Option (Int × Int)} {cl : Int × Int × Int → Option Int}
set_option maxHeartbeats 4000000 in
theorem count_is (h : Bk w B p wv M C sl full en cl n) : Calls Try.prog 19 #[.pointer (some ⟨p, 0, none⟩)] w fun e w' => e = .returned (.int .i64 (n : Int)) ∧ w = w' := by
  obtain ⟨c0, c1, c2, c3⟩ := h.cells
  have hlen := h.cm.len (ty := 3) Try.underlying75
  go_enter Try.func19, Try.ntmps19
  go_wp2
  go_ret
  exact ⟨rfl, rfl⟩

end Go.Proofs.Ytoabhmpakcgloaa
