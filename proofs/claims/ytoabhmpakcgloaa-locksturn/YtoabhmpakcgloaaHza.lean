/- Layer 11: the landed book: Put lays a record. -/
import Derived.Test.YtoabhmpakcgloaaHy
namespace Go.Proofs.Ytoabhmpakcgloaa
open Go.RowKit

abbrev pf0 : Oper := { dst := some 32, op := Op.move (Operand.tmp 14), type := 125, pos := "waitq.go:60", after := #[], guard := none }
abbrev pf1 : Oper := { dst := some 33, op := Op.nilCheck (Operand.tmp 32), type := 0, pos := "waitq.go:60", after := #[{ on := 0, ground := Ground.data }], guard := none }
abbrev pf2 : Oper := { dst := some 34, op := Op.fieldAddr 124 (Operand.tmp 33) 0, type := 0, pos := "waitq.go:60", after := #[{ on := 1, ground := Ground.data }], guard := none }
abbrev pf3 : Oper := { dst := some 35, op := Op.load 33 (Operand.tmp 34), type := 33, pos := "waitq.go:60", after := #[{ on := 2, ground := Ground.data }], guard := none }
abbrev pf4 : Oper := { dst := some 36, op := Op.binOp BinOp.add 33 (Operand.tmp 35) (Operand.const (Value.int IntKind.u32 1)) 33, type := 33, pos := "waitq.go:60", after := #[{ on := 3, ground := Ground.data }], guard := none }
abbrev pf5 : Oper := { dst := some 37, op := Op.nilCheck (Operand.tmp 32), type := 0, pos := "waitq.go:60", after := #[{ on := 0, ground := Ground.data }, { on := 0, ground := Ground.phase }, { on := 1, ground := Ground.phase }, { on := 2, ground := Ground.phase }, { on := 3, ground := Ground.phase }, { on := 4, ground := Ground.phase }], guard := none }
abbrev pf6 : Oper := { dst := some 38, op := Op.fieldAddr 124 (Operand.tmp 37) 0, type := 0, pos := "waitq.go:60", after := #[{ on := 5, ground := Ground.data }, { on := 0, ground := Ground.phase }, { on := 1, ground := Ground.phase }, { on := 2, ground := Ground.phase }, { on := 3, ground := Ground.phase }, { on := 4, ground := Ground.phase }], guard := none }
abbrev pf7 : Oper := { dst := none, op := Op.store 33 (Operand.tmp 38) (Operand.tmp 36), type := 0, pos := "waitq.go:60", after := #[{ on := 6, ground := Ground.data }, { on := 4, ground := Ground.data }, { on := 0, ground := Ground.phase }, { on := 1, ground := Ground.phase }, { on := 2, ground := Ground.phase }, { on := 3, ground := Ground.phase }, { on := 4, ground := Ground.phase }], guard := none }
abbrev pk0 : Oper := { dst := some 39, op := Op.move (Operand.tmp 13), type := 33, pos := "waitq.go:61", after := #[], guard := none }
abbrev pk1 : Oper := { dst := some 40, op := Op.move (Operand.tmp 14), type := 125, pos := "waitq.go:61", after := #[], guard := none }
abbrev pk2 : Oper := { dst := some 41, op := Op.nilCheck (Operand.tmp 40), type := 0, pos := "waitq.go:61", after := #[{ on := 1, ground := Ground.data }], guard := none }
abbrev pk3 : Oper := { dst := some 42, op := Op.fieldAddr 124 (Operand.tmp 41) 0, type := 0, pos := "waitq.go:61", after := #[{ on := 2, ground := Ground.data }], guard := none }
abbrev pk4 : Oper := { dst := some 43, op := Op.load 33 (Operand.tmp 42), type := 33, pos := "waitq.go:61", after := #[{ on := 3, ground := Ground.data }], guard := none }
abbrev pk5 : Oper := { dst := some 44, op := Op.build 35 #[(0, Operand.tmp 39), (1, Operand.tmp 43)], type := 35, pos := "waitq.go:61", after := #[{ on := 0, ground := Ground.data }, { on := 4, ground := Ground.data }], guard := none }
abbrev pk6 : Oper := { dst := some 15, op := Op.alloc 35, type := 0, pos := "waitq.go:61", after := #[], guard := none }
abbrev pk7 : Oper := { dst := none, op := Op.store 35 (Operand.tmp 15) (Operand.tmp 44), type := 0, pos := "waitq.go:61", after := #[{ on := 6, ground := Ground.data }, { on := 5, ground := Ground.data }, { on := 0, ground := Ground.phase }, { on := 1, ground := Ground.phase }, { on := 2, ground := Ground.phase }, { on := 3, ground := Ground.phase }, { on := 4, ground := Ground.phase }, { on := 5, ground := Ground.phase }, { on := 6, ground := Ground.phase }], guard := none }
abbrev pl0 : Oper := { dst := some 45, op := Op.move (Operand.tmp 14), type := 125, pos := "waitq.go:62", after := #[], guard := none }
abbrev pl1 : Oper := { dst := some 46, op := Op.load 35 (Operand.tmp 15), type := 35, pos := "waitq.go:62", after := #[], guard := none }
abbrev pl2 : Oper := { dst := some 47, op := Op.load 35 (Operand.tmp 7), type := 35, pos := "waitq.go:62", after := #[], guard := none }
abbrev pl3 : Oper := { dst := some 48, op := Op.load 60 (Operand.tmp 6), type := 60, pos := "waitq.go:62", after := #[], guard := none }
abbrev pl4 : Oper := { dst := some 49, op := Op.move (Operand.tmp 3), type := 3, pos := "waitq.go:62", after := #[], guard := none }
abbrev pl5 : Oper := { dst := some 50, op := Op.load 43 (Operand.tmp 9), type := 43, pos := "waitq.go:62", after := #[], guard := none }
abbrev pl6 : Oper := { dst := some 51, op := Op.build 114 #[(0, Operand.tmp 46), (1, Operand.tmp 47), (2, Operand.tmp 48), (3, Operand.tmp 49), (4, Operand.tmp 50)], type := 114, pos := "waitq.go:62", after := #[{ on := 1, ground := Ground.data }, { on := 2, ground := Ground.data }, { on := 3, ground := Ground.data }, { on := 4, ground := Ground.data }, { on := 5, ground := Ground.data }], guard := none }
abbrev pl7 : Oper := { dst := some 52, op := Op.nilCheck (Operand.tmp 45), type := 0, pos := "waitq.go:62", after := #[{ on := 0, ground := Ground.data }, { on := 0, ground := Ground.phase }, { on := 1, ground := Ground.phase }, { on := 2, ground := Ground.phase }, { on := 3, ground := Ground.phase }, { on := 4, ground := Ground.phase }, { on := 5, ground := Ground.phase }, { on := 6, ground := Ground.phase }], guard := none }
abbrev pl8 : Oper := { dst := some 53, op := Op.fieldAddr 124 (Operand.tmp 52) 1, type := 0, pos := "waitq.go:62", after := #[{ on := 7, ground := Ground.data }, { on := 0, ground := Ground.phase }, { on := 1, ground := Ground.phase }, { on := 2, ground := Ground.phase }, { on := 3, ground := Ground.phase }, { on := 4, ground := Ground.phase }, { on := 5, ground := Ground.phase }, { on := 6, ground := Ground.phase }], guard := none }
abbrev pl9 : Oper := { dst := none, op := Op.store 114 (Operand.tmp 53) (Operand.tmp 51), type := 0, pos := "waitq.go:62", after := #[{ on := 8, ground := Ground.data }, { on := 6, ground := Ground.data }, { on := 0, ground := Ground.phase }, { on := 1, ground := Ground.phase }, { on := 2, ground := Ground.phase }, { on := 3, ground := Ground.phase }, { on := 4, ground := Ground.phase }, { on := 5, ground := Ground.phase }, { on := 6, ground := Ground.phase }], guard := none }

set_option maxRecDepth 100000 in
set_option maxHeartbeats 8000000 in
theorem put_r6 {u0 u1 u2 u3 u4 u5 u6 u7 u8 u9 u10 u11 u12 u13 u15 u16 u17 u18 u19 u20 u21 u22 u23 u24 u25 u26 u27 u28 u29 u30 u31 u32 u33 u34 u35 u36 u37 u38 u39 u40 u41 u42 u43 u44 u45 u46 u47 u48 u49 u50 u51 u52 u53 u54 u55 u56 u57 u58 u59 u60 u61 u62 u63 u64 u65 u66 u67 u68 u69 u70 u71 u72 u73 u74 u75 : Value} {W : World} {g k : Nat} {G G' : Int} (h0 : W.cell? ⟨g, k * 18, none⟩ = some (.int .u32 G)) (hf : W.frozen? ⟨g, k * 18, none⟩ = false) (hw : IntKind.u32.wrap (G + 1) = G')
    {K : Act → World → Prop} (hK0 : ∀ (u32 u33 u34 u35 u36 u37 u38 : Value), K { tmps := List.toArray (u0 :: u1 :: u2 :: u3 :: u4 :: u5 :: u6 :: u7 :: u8 :: u9 :: u10 :: u11 :: u12 :: u13 :: (.pointer (some ⟨g, k * 18, none⟩)) :: u15 :: u16 :: u17 :: u18 :: u19 :: u20 :: u21 :: u22 :: u23 :: u24 :: u25 :: u26 :: u27 :: u28 :: u29 :: u30 :: u31 :: u32 :: u33 :: u34 :: u35 :: u36 :: u37 :: u38 :: u39 :: u40 :: u41 :: u42 :: u43 :: u44 :: u45 :: u46 :: u47 :: u48 :: u49 :: u50 :: u51 :: u52 :: u53 :: u54 :: u55 :: u56 :: u57 :: u58 :: u59 :: u60 :: u61 :: u62 :: u63 :: u64 :: u65 :: u66 :: u67 :: u68 :: u69 :: u70 :: u71 :: u72 :: u73 :: u74 :: u75 :: []), defers := [] } (W.setCell ⟨g, k * 18, none⟩ (.int .u32 G'))) :
    (Code.region 6 #[pf0, pf1, pf2, pf3, pf4, pf5, pf6, pf7] false).wp Try.prog (Exit.then K (fun _ _ _ => False)) { tmps := List.toArray (u0 :: u1 :: u2 :: u3 :: u4 :: u5 :: u6 :: u7 :: u8 :: u9 :: u10 :: u11 :: u12 :: u13 :: (.pointer (some ⟨g, k * 18, none⟩)) :: u15 :: u16 :: u17 :: u18 :: u19 :: u20 :: u21 :: u22 :: u23 :: u24 :: u25 :: u26 :: u27 :: u28 :: u29 :: u30 :: u31 :: u32 :: u33 :: u34 :: u35 :: u36 :: u37 :: u38 :: u39 :: u40 :: u41 :: u42 :: u43 :: u44 :: u45 :: u46 :: u47 :: u48 :: u49 :: u50 :: u51 :: u52 :: u53 :: u54 :: u55 :: u56 :: u57 :: u58 :: u59 :: u60 :: u61 :: u62 :: u63 :: u64 :: u65 :: u66 :: u67 :: u68 :: u69 :: u70 :: u71 :: u72 :: u73 :: u74 :: u75 :: []), defers := [] } W := by
  have HK := hide hK0
  clear hK0
  go_wp2_with fail
  exact HK.out _ _ _ _ _ _ _

set_option maxRecDepth 100000 in
set_option maxHeartbeats 8000000 in
theorem put_r7 {u0 u1 u2 u3 u4 u5 u6 u7 u8 u9 u10 u11 u12 u16 u17 u18 u19 u20 u21 u22 u23 u24 u25 u26 u27 u28 u29 u30 u31 u32 u33 u34 u35 u36 u37 u38 u39 u40 u41 u42 u43 u44 u45 u46 u47 u48 u49 u50 u51 u52 u53 u54 u55 u56 u57 u58 u59 u60 u61 u62 u63 u64 u65 u66 u67 u68 u69 u70 u71 u72 u73 u74 u75 u15 : Value} {W : World} {g k : Nat} {G : Int} (h0 : W.cell? ⟨g, k * 18, none⟩ = some (.int .u32 G))
    {K : Act → World → Prop} (hK0 : ∀ (u39 u40 u41 u42 u43 u44 : Value), K { tmps := List.toArray (u0 :: u1 :: u2 :: u3 :: u4 :: u5 :: u6 :: u7 :: u8 :: u9 :: u10 :: u11 :: u12 :: (.int .u32 ((k : Int) + 1)) :: (.pointer (some ⟨g, k * 18, none⟩)) :: (.pointer (some ⟨W.heap.size, 0, none⟩)) :: u16 :: u17 :: u18 :: u19 :: u20 :: u21 :: u22 :: u23 :: u24 :: u25 :: u26 :: u27 :: u28 :: u29 :: u30 :: u31 :: u32 :: u33 :: u34 :: u35 :: u36 :: u37 :: u38 :: u39 :: u40 :: u41 :: u42 :: u43 :: u44 :: u45 :: u46 :: u47 :: u48 :: u49 :: u50 :: u51 :: u52 :: u53 :: u54 :: u55 :: u56 :: u57 :: u58 :: u59 :: u60 :: u61 :: u62 :: u63 :: u64 :: u65 :: u66 :: u67 :: u68 :: u69 :: u70 :: u71 :: u72 :: u73 :: u74 :: u75 :: []), defers := [] } (W.alloc (.cells #[.int .u32 ((k : Int) + 1), .int .u32 G] 35))) :
    (Code.region 7 #[pk0, pk1, pk2, pk3, pk4, pk5, pk6, pk7] false).wp Try.prog (Exit.then K (fun _ _ _ => False)) { tmps := List.toArray (u0 :: u1 :: u2 :: u3 :: u4 :: u5 :: u6 :: u7 :: u8 :: u9 :: u10 :: u11 :: u12 :: (.int .u32 ((k : Int) + 1)) :: (.pointer (some ⟨g, k * 18, none⟩)) :: u15 :: u16 :: u17 :: u18 :: u19 :: u20 :: u21 :: u22 :: u23 :: u24 :: u25 :: u26 :: u27 :: u28 :: u29 :: u30 :: u31 :: u32 :: u33 :: u34 :: u35 :: u36 :: u37 :: u38 :: u39 :: u40 :: u41 :: u42 :: u43 :: u44 :: u45 :: u46 :: u47 :: u48 :: u49 :: u50 :: u51 :: u52 :: u53 :: u54 :: u55 :: u56 :: u57 :: u58 :: u59 :: u60 :: u61 :: u62 :: u63 :: u64 :: u65 :: u66 :: u67 :: u68 :: u69 :: u70 :: u71 :: u72 :: u73 :: u74 :: u75 :: []), defers := [] } W := by
  have HK := hide hK0
  clear hK0
  go_wp2_with fail
  exact HK.out _ _ _ _ _ _

set_option maxRecDepth 100000 in
set_option maxHeartbeats 8000000 in
theorem put_r8 {u0 u1 u2 u4 u5 u8 u10 u11 u12 u13 u16 u17 u18 u19 u20 u21 u22 u23 u24 u25 u26 u27 u28 u29 u30 u31 u32 u33 u34 u35 u36 u37 u38 u39 u40 u41 u42 u43 u44 u45 u46 u47 u48 u49 u50 u51 u52 u53 u54 u55 u56 u57 u58 u59 u60 u61 u62 u63 u64 u65 u66 u67 u68 u69 u70 u71 u72 u73 u74 u75 : Value} {W : World} {g k a0 a1 a2 a5 : Nat} {r : Rc} (x0 : W.cell? ⟨a0, 0, none⟩ = some (.int .u32 r.rs)) (x1 : W.cell? ⟨a0, 1, none⟩ = some (.int .u32 r.rg)) (x2 : W.cell? ⟨a0, 2, none⟩ = some (.int .i64 r.rd)) (x3 : W.cell? ⟨a1, 0, none⟩ = some (.int .u32 r.ws)) (x4 : W.cell? ⟨a1, 1, none⟩ = some (.int .u32 r.wg)) (x5 : W.cell? ⟨a2, 0, none⟩ = some (.int .i64 r.vn)) (x6 : W.cell? ⟨a2, 1, none⟩ = some (.int .u32 r.vs)) (x7 : W.cell? ⟨a2, 2, none⟩ = some (.int .u32 r.vg)) (x8 : W.cell? ⟨a5, 0, none⟩ = some (.int .u32 r.ms)) (x9 : W.cell? ⟨a5, 1, none⟩ = some (.int .u32 r.mg)) (ht : W.there g (k * 18 + 1) 11)
    {K : Act → World → Prop} (hK0 : ∀ (u45 u46 u47 u48 u49 u50 u51 u52 u53 : Value), K { tmps := List.toArray (u0 :: u1 :: u2 :: (.int .i64 r.ar) :: u4 :: u5 :: (.pointer (some ⟨a0, 0, none⟩)) :: (.pointer (some ⟨a1, 0, none⟩)) :: u8 :: (.pointer (some ⟨a2, 0, none⟩)) :: u10 :: u11 :: u12 :: u13 :: (.pointer (some ⟨g, k * 18, none⟩)) :: (.pointer (some ⟨a5, 0, none⟩)) :: u16 :: u17 :: u18 :: u19 :: u20 :: u21 :: u22 :: u23 :: u24 :: u25 :: u26 :: u27 :: u28 :: u29 :: u30 :: u31 :: u32 :: u33 :: u34 :: u35 :: u36 :: u37 :: u38 :: u39 :: u40 :: u41 :: u42 :: u43 :: u44 :: u45 :: u46 :: u47 :: u48 :: u49 :: u50 :: u51 :: u52 :: u53 :: u54 :: u55 :: u56 :: u57 :: u58 :: u59 :: u60 :: u61 :: u62 :: u63 :: u64 :: u65 :: u66 :: u67 :: u68 :: u69 :: u70 :: u71 :: u72 :: u73 :: u74 :: u75 :: []), defers := [] } (wrs W g k (layO r))) :
    (Code.region 8 #[pl0, pl1, pl2, pl3, pl4, pl5, pl6, pl7, pl8, pl9] false).wp Try.prog (Exit.then K (fun _ _ _ => False)) { tmps := List.toArray (u0 :: u1 :: u2 :: (.int .i64 r.ar) :: u4 :: u5 :: (.pointer (some ⟨a0, 0, none⟩)) :: (.pointer (some ⟨a1, 0, none⟩)) :: u8 :: (.pointer (some ⟨a2, 0, none⟩)) :: u10 :: u11 :: u12 :: u13 :: (.pointer (some ⟨g, k * 18, none⟩)) :: (.pointer (some ⟨a5, 0, none⟩)) :: u16 :: u17 :: u18 :: u19 :: u20 :: u21 :: u22 :: u23 :: u24 :: u25 :: u26 :: u27 :: u28 :: u29 :: u30 :: u31 :: u32 :: u33 :: u34 :: u35 :: u36 :: u37 :: u38 :: u39 :: u40 :: u41 :: u42 :: u43 :: u44 :: u45 :: u46 :: u47 :: u48 :: u49 :: u50 :: u51 :: u52 :: u53 :: u54 :: u55 :: u56 :: u57 :: u58 :: u59 :: u60 :: u61 :: u62 :: u63 :: u64 :: u65 :: u66 :: u67 :: u68 :: u69 :: u70 :: u71 :: u72 :: u73 :: u74 :: u75 :: []), defers := [] } W := by
  have HK := hide hK0
  clear hK0
  refine wp_region_list ?_
  refine wpList_plain rfl fun K0 hK0 => ?_
  go_simp
  refine hK0 _ _ ?_
  clear hK0 K0
  refine wpList_plain rfl fun K1 hK1 => ?_
  go_simp
  refine hK1 _ _ ?_
  clear hK1 K1
  refine wpList_plain rfl fun K2 hK2 => ?_
  go_simp
  refine hK2 _ _ ?_
  clear hK2 K2
  refine wpList_plain rfl fun K3 hK3 => ?_
  go_simp
  refine hK3 _ _ ?_
  clear hK3 K3
  refine wpList_plain rfl fun K4 hK4 => ?_
  go_simp
  refine hK4 _ _ ?_
  clear hK4 K4
  refine wpList_plain rfl fun K5 hK5 => ?_
  go_simp
  refine hK5 _ _ ?_
  clear hK5 K5
  refine wpList_plain rfl fun K6 hK6 => ?_
  go_simp
  refine hK6 _ _ ?_
  clear hK6 K6
  refine wpList_plain rfl fun K7 hK7 => ?_
  go_simp
  refine hK7 _ _ ?_
  clear hK7 K7
  refine wpList_plain rfl fun K8 hK8 => ?_
  go_simp
  refine hK8 _ _ ?_
  clear hK8 K8
  refine wpList_store_mid rfl 114 (.tmp 53) (.tmp 51) rfl g (k * 18 + 1) #[.int .u32 r.ms, .int .u32 r.mg, .int .u32 r.ws, .int .u32 r.wg, .int .u32 r.rs, .int .u32 r.rg, .int .i64 r.rd, .int .i64 r.ar, .int .i64 r.vn, .int .u32 r.vs, .int .u32 r.vg] rfl rfl ht (by kernel_rfl) (lay_one r) ?_
  exact HK.out _ _ _ _ _ _ _ _ _

end Go.Proofs.Ytoabhmpakcgloaa
