/- Layer 11: the landed book: takeOut wipes a slot; the lines by their kinds. -/
import Derived.Test.YtoabhmpakcgloaaHn
namespace Go.Proofs.Ytoabhmpakcgloaa
open Go.RowKit

theorem idx0 (r : Rc) (W : World) : (Instr.index 131 (.agg #[.int .i64 0, .int .u32 r.rs, .int .u32 r.rg, .int .i64 r.rd, .int .u32 0, .int .u32 0, .int .i64 1, .int .u32 0, .int .u32 0, .int .i64 0, .int .u32 r.ws, .int .u32 r.wg, .int .i64 2, .int .u32 0, .int .u32 0, .int .i64 0, .int .u32 0, .int .u32 0]) (.int .i64 0)).run Try.prog W = .ok (.agg #[.int .i64 0, .int .u32 r.rs, .int .u32 r.rg, .int .i64 r.rd, .int .u32 0, .int .u32 0]) W := by kernel_rfl
theorem idx1 (r : Rc) (W : World) : (Instr.index 131 (.agg #[.int .i64 0, .int .u32 r.rs, .int .u32 r.rg, .int .i64 r.rd, .int .u32 0, .int .u32 0, .int .i64 1, .int .u32 0, .int .u32 0, .int .i64 0, .int .u32 r.ws, .int .u32 r.wg, .int .i64 2, .int .u32 0, .int .u32 0, .int .i64 0, .int .u32 0, .int .u32 0]) (.int .i64 1)).run Try.prog W = .ok (.agg #[.int .i64 1, .int .u32 0, .int .u32 0, .int .i64 0, .int .u32 r.ws, .int .u32 r.wg]) W := by kernel_rfl
theorem idx2 (r : Rc) (W : World) : (Instr.index 131 (.agg #[.int .i64 0, .int .u32 r.rs, .int .u32 r.rg, .int .i64 r.rd, .int .u32 0, .int .u32 0, .int .i64 1, .int .u32 0, .int .u32 0, .int .i64 0, .int .u32 r.ws, .int .u32 r.wg, .int .i64 2, .int .u32 0, .int .u32 0, .int .i64 0, .int .u32 0, .int .u32 0]) (.int .i64 2)).run Try.prog W = .ok (.agg #[.int .i64 2, .int .u32 0, .int .u32 0, .int .i64 0, .int .u32 0, .int .u32 0]) W := by kernel_rfl

abbrev tb0 : Oper := { dst := some 38, op := Op.move (Operand.tmp 4), type := 125, pos := "waitq.go:229", after := #[], guard := none }
abbrev tb1 : Oper := { dst := some 39, op := Op.move (Operand.tmp 4), type := 125, pos := "waitq.go:229", after := #[], guard := none }
abbrev tb2 : Oper := { dst := some 40, op := Op.nilCheck (Operand.tmp 39), type := 0, pos := "waitq.go:229", after := #[{ on := 1, ground := Ground.data }], guard := none }
abbrev tb3 : Oper := { dst := some 41, op := Op.fieldAddr 124 (Operand.tmp 40) 0, type := 0, pos := "waitq.go:229", after := #[{ on := 2, ground := Ground.data }], guard := none }
abbrev tb4 : Oper := { dst := some 42, op := Op.load 33 (Operand.tmp 41), type := 33, pos := "waitq.go:229", after := #[{ on := 3, ground := Ground.data }], guard := none }
abbrev tb5 : Oper := { dst := some 43, op := Op.build 124 #[(0, Operand.tmp 42)], type := 124, pos := "waitq.go:229", after := #[{ on := 4, ground := Ground.data }], guard := none }
abbrev tb6 : Oper := { dst := some 44, op := Op.nilCheck (Operand.tmp 38), type := 0, pos := "waitq.go:229", after := #[{ on := 0, ground := Ground.data }, { on := 0, ground := Ground.phase }, { on := 1, ground := Ground.phase }, { on := 2, ground := Ground.phase }, { on := 3, ground := Ground.phase }, { on := 4, ground := Ground.phase }, { on := 5, ground := Ground.phase }], guard := none }
abbrev tb7 : Oper := { dst := none, op := Op.store 124 (Operand.tmp 44) (Operand.tmp 43), type := 0, pos := "waitq.go:229", after := #[{ on := 6, ground := Ground.data }, { on := 5, ground := Ground.data }, { on := 0, ground := Ground.phase }, { on := 1, ground := Ground.phase }, { on := 2, ground := Ground.phase }, { on := 3, ground := Ground.phase }, { on := 4, ground := Ground.phase }, { on := 5, ground := Ground.phase }], guard := none }

set_option maxRecDepth 100000 in
set_option maxHeartbeats 8000000 in
theorem take_r7 {u0 u1 u2 u3 u5 u6 u7 u8 u9 u10 u11 u12 u13 u14 u15 u16 u17 u18 u19 u20 u21 u22 u23 u24 u25 u26 u27 u28 u29 u30 u31 u32 u33 u34 u35 u36 u37 u38 u39 u40 u41 u42 u43 u44 u45 u46 u47 u48 u49 u50 u51 u52 u53 u54 : Value} {W : World} {g i : Nat} {G : Int} (h0 : W.cell? ⟨g, i * 18, none⟩ = some (.int .u32 G)) (ht : W.there g (i * 18) 18)
    {K : Act → World → Prop} (hK0 : ∀ (u38 u39 u40 u41 u42 u43 u44 : Value), K { tmps := List.toArray (u0 :: u1 :: u2 :: u3 :: (.pointer (some ⟨g, i * 18, none⟩)) :: u5 :: u6 :: u7 :: u8 :: u9 :: u10 :: u11 :: u12 :: u13 :: u14 :: u15 :: u16 :: u17 :: u18 :: u19 :: u20 :: u21 :: u22 :: u23 :: u24 :: u25 :: u26 :: u27 :: u28 :: u29 :: u30 :: u31 :: u32 :: u33 :: u34 :: u35 :: u36 :: u37 :: u38 :: u39 :: u40 :: u41 :: u42 :: u43 :: u44 :: u45 :: u46 :: u47 :: u48 :: u49 :: u50 :: u51 :: u52 :: u53 :: u54 :: []), defers := [] } (wrs W g i (wipeO G))) :
    (Code.region 7 #[tb0, tb1, tb2, tb3, tb4, tb5, tb6, tb7] false).wp Try.prog (Exit.then K (fun _ _ _ => False)) { tmps := List.toArray (u0 :: u1 :: u2 :: u3 :: (.pointer (some ⟨g, i * 18, none⟩)) :: u5 :: u6 :: u7 :: u8 :: u9 :: u10 :: u11 :: u12 :: u13 :: u14 :: u15 :: u16 :: u17 :: u18 :: u19 :: u20 :: u21 :: u22 :: u23 :: u24 :: u25 :: u26 :: u27 :: u28 :: u29 :: u30 :: u31 :: u32 :: u33 :: u34 :: u35 :: u36 :: u37 :: u38 :: u39 :: u40 :: u41 :: u42 :: u43 :: u44 :: u45 :: u46 :: u47 :: u48 :: u49 :: u50 :: u51 :: u52 :: u53 :: u54 :: []), defers := [] } W := by
  have HK := hide hK0
  clear hK0
  refine wp_region_list ?_
  refine wpList_plain rfl fun K0 hK0 => ?_
  go_simp
  refine hK0 _ _ ?_
  clear hK0 K0
  refine wpList_plain rfl fun K1 hK1 => ?_
  go_simp
  refine hK1 _ _ ?_
  clear hK1 K1
  refine wpList_plain rfl fun K2 hK2 => ?_
  go_simp
  refine hK2 _ _ ?_
  clear hK2 K2
  refine wpList_plain rfl fun K3 hK3 => ?_
  go_simp
  refine hK3 _ _ ?_
  clear hK3 K3
  refine wpList_plain rfl fun K4 hK4 => ?_
  go_simp
  refine hK4 _ _ ?_
  clear hK4 K4
  refine wpList_plain rfl fun K5 hK5 => ?_
  go_simp
  refine hK5 _ _ ?_
  clear hK5 K5
  refine wpList_plain rfl fun K6 hK6 => ?_
  go_simp
  refine hK6 _ _ ?_
  clear hK6 K6
  refine wpList_store_mid rfl 124 (.tmp 44) (.tmp 43) rfl g (i * 18) #[.int .u32 G, .int .u32 0, .int .u32 0, .int .u32 0, .int .u32 0, .int .u32 0, .int .u32 0, .int .i64 0, .int .i64 0, .int .i64 0, .int .u32 0, .int .u32 0, .int .u32 0, .int .u32 0, .int .u32 0, .int .u32 0, .int .u32 0, .int .u32 0] rfl rfl ht (by kernel_rfl) (wipe_one G) ?_
  exact HK.out _ _ _ _ _ _ _

end Go.Proofs.Ytoabhmpakcgloaa
