/- Layer 16: LocksTurn: what a step is held to. -/
import Derived.Test.YtoabhmpakcgloaaZlf
namespace Go.Proofs.Ytoabhmpakcgloaa
open Go.RowKit

abbrev oru0 : Oper := { dst := some 236, op := Op.move (Operand.tmp 20), type := 27, pos := "law.go:204", after := #[], guard := none }
abbrev oru1 : Oper := { dst := some 237, op := Op.binOp BinOp.neq 27 (Operand.tmp 236) (Operand.const (Value.int IntKind.i64 0)) 27, type := 4, pos := "law.go:204", after := #[{ on := 0, ground := Ground.data }], guard := none }
abbrev oru2 : Oper := { dst := some 238, op := Op.move (Operand.tmp 237), type := 4, pos := "law.go:204", after := #[{ on := 1, ground := Ground.data }], guard := none }
abbrev oru3 : Oper := { dst := some 239, op := Op.move (Operand.tmp 21), type := 4, pos := "law.go:204", after := #[{ on := 2, ground := Ground.guard }], guard := some (2, false) }
abbrev oru4 : Oper := { dst := some 240, op := Op.move (Operand.tmp 239), type := 4, pos := "law.go:204", after := #[{ on := 3, ground := Ground.data }, { on := 2, ground := Ground.chain }, { on := 2, ground := Ground.guard }], guard := some (2, false) }
abbrev oru5 : Oper := { dst := some 241, op := Op.load 35 (Operand.tmp 19), type := 35, pos := "law.go:204", after := #[{ on := 4, ground := Ground.guard }], guard := some (4, true) }
abbrev oru6 : Oper := { dst := some 242, op := Op.move (Operand.tmp 10), type := 3, pos := "law.go:204", after := #[{ on := 4, ground := Ground.guard }], guard := some (4, true) }
abbrev oru7 : Oper := { dst := some 243, op := Op.indexAddr 31 (Operand.tmp 7) (Operand.tmp 242), type := 0, pos := "law.go:204", after := #[{ on := 6, ground := Ground.data }, { on := 4, ground := Ground.guard }], guard := some (4, true) }
abbrev oru8 : Oper := { dst := some 244, op := Op.load 30 (Operand.tmp 243), type := 30, pos := "law.go:204", after := #[{ on := 7, ground := Ground.data }, { on := 4, ground := Ground.guard }], guard := some (4, true) }
abbrev oru9 : Oper := { dst := some 245, op := Op.indexAddr 30 (Operand.tmp 244) (Operand.const (Value.int IntKind.i64 0)), type := 0, pos := "law.go:204", after := #[{ on := 8, ground := Ground.data }, { on := 4, ground := Ground.guard }], guard := some (4, true) }
abbrev oru10 : Oper := { dst := some 246, op := Op.load 35 (Operand.tmp 245), type := 35, pos := "law.go:204", after := #[{ on := 9, ground := Ground.data }, { on := 4, ground := Ground.guard }], guard := some (4, true) }
abbrev oru11 : Oper := { dst := some 247, op := Op.binOp BinOp.neq 35 (Operand.tmp 241) (Operand.tmp 246) 35, type := 4, pos := "law.go:204", after := #[{ on := 5, ground := Ground.data }, { on := 10, ground := Ground.data }, { on := 4, ground := Ground.guard }], guard := some (4, true) }
abbrev oru12 : Oper := { dst := some 248, op := Op.pick (Operand.tmp 240) (Operand.tmp 247) (Operand.const (Value.bool false)), type := 4, pos := "law.go:204", after := #[{ on := 4, ground := Ground.data }, { on := 11, ground := Ground.data }, { on := 2, ground := Ground.guard }], guard := some (2, false) }
abbrev oru13 : Oper := { dst := some 249, op := Op.pick (Operand.tmp 238) (Operand.const (Value.bool true)) (Operand.tmp 248), type := 4, pos := "law.go:204", after := #[{ on := 2, ground := Ground.data }, { on := 12, ground := Ground.data }], guard := none }
abbrev oru14 : Oper := { dst := some 250, op := Op.move (Operand.tmp 249), type := 4, pos := "law.go:204", after := #[{ on := 13, ground := Ground.data }, { on := 4, ground := Ground.chain }], guard := none }
abbrev oru15 : Oper := { dst := some 251, op := Op.move (Operand.tmp 21), type := 4, pos := "law.go:204", after := #[{ on := 14, ground := Ground.guard }], guard := some (14, false) }
abbrev oru16 : Oper := { dst := some 252, op := Op.unOp UnOp.not 4 (Operand.tmp 251), type := 4, pos := "law.go:204", after := #[{ on := 15, ground := Ground.data }, { on := 14, ground := Ground.guard }], guard := some (14, false) }
abbrev oru17 : Oper := { dst := some 253, op := Op.move (Operand.tmp 252), type := 4, pos := "law.go:204", after := #[{ on := 16, ground := Ground.data }, { on := 14, ground := Ground.chain }, { on := 14, ground := Ground.guard }], guard := some (14, false) }
abbrev oru18 : Oper := { dst := some 254, op := Op.load 35 (Operand.tmp 19), type := 35, pos := "law.go:204", after := #[{ on := 17, ground := Ground.guard }], guard := some (17, true) }
abbrev oru19 : Oper := { dst := some 255, op := Op.build 35 #[], type := 35, pos := "law.go:204", after := #[{ on := 17, ground := Ground.guard }], guard := some (17, true) }
abbrev oru20 : Oper := { dst := some 256, op := Op.binOp BinOp.neq 35 (Operand.tmp 254) (Operand.tmp 255) 35, type := 4, pos := "law.go:204", after := #[{ on := 18, ground := Ground.data }, { on := 19, ground := Ground.data }, { on := 17, ground := Ground.guard }], guard := some (17, true) }
abbrev oru21 : Oper := { dst := some 257, op := Op.pick (Operand.tmp 253) (Operand.tmp 256) (Operand.const (Value.bool false)), type := 4, pos := "law.go:204", after := #[{ on := 17, ground := Ground.data }, { on := 20, ground := Ground.data }, { on := 14, ground := Ground.guard }], guard := some (14, false) }
abbrev oru22 : Oper := { dst := some 258, op := Op.pick (Operand.tmp 250) (Operand.const (Value.bool true)) (Operand.tmp 257), type := 4, pos := "law.go:204", after := #[{ on := 14, ground := Ground.data }, { on := 21, ground := Ground.data }], guard := none }
abbrev oru23 : Oper := { dst := some 259, op := Op.move (Operand.tmp 258), type := 4, pos := "law.go:204", after := #[{ on := 22, ground := Ground.data }, { on := 17, ground := Ground.chain }], guard := none }
abbrev oru24 : Oper := { dst := some 260, op := Op.move (Operand.tmp 4), type := 24, pos := "law.go:204", after := #[{ on := 23, ground := Ground.guard }], guard := some (23, false) }
abbrev oru25 : Oper := { dst := some 261, op := Op.move (Operand.tmp 10), type := 3, pos := "law.go:204", after := #[{ on := 23, ground := Ground.guard }], guard := some (23, false) }
abbrev oru26 : Oper := { dst := some 262, op := Op.binOp BinOp.add 3 (Operand.tmp 261) (Operand.const (Value.int IntKind.i64 1)) 3, type := 3, pos := "law.go:204", after := #[{ on := 25, ground := Ground.data }, { on := 23, ground := Ground.guard }], guard := some (23, false) }
abbrev oru27 : Oper := { dst := some 263, op := Op.call { callee := Callee.value (Operand.func 10), args := #[Operand.tmp 262], argTypes := #[3] }, type := 35, pos := "law.go:204", after := #[{ on := 26, ground := Ground.data }, { on := 23, ground := Ground.chain }, { on := 23, ground := Ground.guard }], guard := some (23, false) }
abbrev oru28 : Oper := { dst := some 264, op := Op.build 60 #[(0, Operand.tmp 263), (1, Operand.const (Value.int IntKind.i64 3))], type := 60, pos := "law.go:204", after := #[{ on := 27, ground := Ground.data }, { on := 23, ground := Ground.guard }], guard := some (23, false) }
abbrev oru29 : Oper := { dst := some 265, op := Op.call { callee := Callee.value (Operand.func 15), args := #[Operand.tmp 260, Operand.tmp 264], argTypes := #[24, 60] }, type := 56, pos := "law.go:204", after := #[{ on := 24, ground := Ground.data }, { on := 28, ground := Ground.data }, { on := 27, ground := Ground.chain }, { on := 23, ground := Ground.guard }], guard := some (23, false) }
abbrev oru30 : Oper := { dst := some 266, op := Op.call { callee := Callee.builtin Builtin.len, args := #[Operand.tmp 265], argTypes := #[56] }, type := 3, pos := "law.go:204", after := #[{ on := 29, ground := Ground.data }, { on := 23, ground := Ground.guard }], guard := some (23, false) }
abbrev oru31 : Oper := { dst := some 267, op := Op.move (Operand.tmp 10), type := 3, pos := "law.go:204", after := #[{ on := 23, ground := Ground.guard }], guard := some (23, false) }
abbrev oru32 : Oper := { dst := some 268, op := Op.indexAddr 31 (Operand.tmp 7) (Operand.tmp 267), type := 0, pos := "law.go:204", after := #[{ on := 31, ground := Ground.data }, { on := 23, ground := Ground.guard }], guard := some (23, false) }
abbrev oru33 : Oper := { dst := some 269, op := Op.load 30 (Operand.tmp 268), type := 30, pos := "law.go:204", after := #[{ on := 32, ground := Ground.data }, { on := 23, ground := Ground.guard }], guard := some (23, false) }
abbrev oru34 : Oper := { dst := some 270, op := Op.call { callee := Callee.builtin Builtin.len, args := #[Operand.tmp 269], argTypes := #[30] }, type := 3, pos := "law.go:204", after := #[{ on := 33, ground := Ground.data }, { on := 23, ground := Ground.guard }], guard := some (23, false) }
abbrev oru35 : Oper := { dst := some 271, op := Op.binOp BinOp.sub 3 (Operand.tmp 270) (Operand.const (Value.int IntKind.i64 1)) 3, type := 3, pos := "law.go:204", after := #[{ on := 34, ground := Ground.data }, { on := 23, ground := Ground.guard }], guard := some (23, false) }
abbrev oru36 : Oper := { dst := some 272, op := Op.call { callee := Callee.builtin Builtin.max, args := #[Operand.const (Value.int IntKind.i64 0), Operand.tmp 271], argTypes := #[3, 3] }, type := 3, pos := "law.go:204", after := #[{ on := 35, ground := Ground.data }, { on := 23, ground := Ground.guard }], guard := some (23, false) }
abbrev oru37 : Oper := { dst := some 273, op := Op.binOp BinOp.neq 3 (Operand.tmp 266) (Operand.tmp 272) 3, type := 4, pos := "law.go:204", after := #[{ on := 30, ground := Ground.data }, { on := 36, ground := Ground.data }, { on := 23, ground := Ground.guard }], guard := some (23, false) }
abbrev oru38 : Oper := { dst := some 274, op := Op.pick (Operand.tmp 259) (Operand.const (Value.bool true)) (Operand.tmp 273), type := 4, pos := "law.go:204", after := #[{ on := 23, ground := Ground.data }, { on := 37, ground := Ground.data }], guard := none }

set_option maxRecDepth 100000 in
set_option maxHeartbeats 8000000 in
theorem end_a {w W : World} {N c bp A j hb : Nat} {l : List Wt} {ls : List Lk} {G : Nat → Prop} {v : Nat → Value} {f : Nat → List Hnd} (hj : j < 3) (tw : Tw w W N c bp l ls G A v f) (ti : TI l f) (hl : l.length ≤ 100000) (hf : f j = []) (hh : W.heap[hb]? = some (.cells #[.int .u32 0, .int .u32 0] 35 (0, 0))) {u0 u1 u2 u3 u5 u6 u8 u9 u11 u12 u13 u14 u15 u16 u17 u18 u22 u23 u24 u25 u26 u27 u28 u29 u30 u31 u32 u33 u34 u35 u36 u37 u38 u39 u40 u41 u42 u43 u44 u45 u46 u47 u48 u49 u50 u51 u52 u53 u54 u55 u56 u57 u58 u59 u60 u61 u62 u63 u64 u65 u66 u67 u68 u69 u70 u71 u72 u73 u74 u75 u76 u77 u78 u79 u80 u81 u82 u83 u84 u85 u86 u87 u88 u89 u90 u91 u92 u93 u94 u95 u96 u97 u98 u99 u100 u101 u102 u103 u104 u105 u106 u107 u108 u109 u110 u111 u112 u113 u114 u115 u116 u117 u118 u119 u120 u121 u122 u123 u124 u125 u126 u127 u128 u129 u130 u131 u132 u133 u134 u135 u136 u137 u138 u139 u140 u141 u142 u143 u144 u145 u146 u147 u148 u149 u150 u151 u152 u153 u154 u155 u156 u157 u158 u159 u160 u161 u162 u163 u164 u165 u166 u167 u168 u169 u170 u171 u172 u173 u174 u175 u176 u177 u178 u179 u180 u181 u182 u183 u184 u185 u186 u187 u188 u189 u190 u191 u192 u193 u194 u195 u196 u197 u198 u199 u200 u201 u202 u203 u204 u205 u206 u207 u208 u209 u210 u211 u212 u213 u214 u215 u216 u217 u218 u219 u220 u221 u222 u223 u224 u225 u226 u227 u228 u229 u230 u231 u232 u233 u234 u235 u236 u237 u238 u239 u240 u241 u242 u243 u244 u245 u246 u247 u248 u249 u250 u251 u252 u253 u254 u255 u256 u257 u258 u259 u260 u261 u262 u263 u264 u265 u266 u267 u268 u269 u270 u271 u272 u273 u274 : Value} {K : Act → World → Prop}
    (hK0 : ∀ (w' : World) (t236 t237 t238 t239 t240 t241 t242 t243 t244 t245 t246 t247 t248 t249 t250 t251 t252 t253 t254 t255 t256 t257 t258 t259 t260 t261 t262 t263 t264 t265 t266 t267 t268 t269 t270 t271 t272 t273 : Value), Ch (fun _ => False) W w' → K { tmps := List.toArray (u0 :: u1 :: u2 :: u3 :: (.pointer (some ⟨bp, 0, none⟩)) :: u5 :: u6 :: (.pointer (some ⟨A, 0, none⟩)) :: u8 :: u9 :: (.int .i64 (j : Int)) :: u11 :: u12 :: u13 :: u14 :: u15 :: u16 :: u17 :: u18 :: (.pointer (some ⟨hb, 0, none⟩)) :: (.int .i64 0) :: (.bool false) :: u22 :: u23 :: u24 :: u25 :: u26 :: u27 :: u28 :: u29 :: u30 :: u31 :: u32 :: u33 :: u34 :: u35 :: u36 :: u37 :: u38 :: u39 :: u40 :: u41 :: u42 :: u43 :: u44 :: u45 :: u46 :: u47 :: u48 :: u49 :: u50 :: u51 :: u52 :: u53 :: u54 :: u55 :: u56 :: u57 :: u58 :: u59 :: u60 :: u61 :: u62 :: u63 :: u64 :: u65 :: u66 :: u67 :: u68 :: u69 :: u70 :: u71 :: u72 :: u73 :: u74 :: u75 :: u76 :: u77 :: u78 :: u79 :: u80 :: u81 :: u82 :: u83 :: u84 :: u85 :: u86 :: u87 :: u88 :: u89 :: u90 :: u91 :: u92 :: u93 :: u94 :: u95 :: u96 :: u97 :: u98 :: u99 :: u100 :: u101 :: u102 :: u103 :: u104 :: u105 :: u106 :: u107 :: u108 :: u109 :: u110 :: u111 :: u112 :: u113 :: u114 :: u115 :: u116 :: u117 :: u118 :: u119 :: u120 :: u121 :: u122 :: u123 :: u124 :: u125 :: u126 :: u127 :: u128 :: u129 :: u130 :: u131 :: u132 :: u133 :: u134 :: u135 :: u136 :: u137 :: u138 :: u139 :: u140 :: u141 :: u142 :: u143 :: u144 :: u145 :: u146 :: u147 :: u148 :: u149 :: u150 :: u151 :: u152 :: u153 :: u154 :: u155 :: u156 :: u157 :: u158 :: u159 :: u160 :: u161 :: u162 :: u163 :: u164 :: u165 :: u166 :: u167 :: u168 :: u169 :: u170 :: u171 :: u172 :: u173 :: u174 :: u175 :: u176 :: u177 :: u178 :: u179 :: u180 :: u181 :: u182 :: u183 :: u184 :: u185 :: u186 :: u187 :: u188 :: u189 :: u190 :: u191 :: u192 :: u193 :: u194 :: u195 :: u196 :: u197 :: u198 :: u199 :: u200 :: u201 :: u202 :: u203 :: u204 :: u205 :: u206 :: u207 :: u208 :: u209 :: u210 :: u211 :: u212 :: u213 :: u214 :: u215 :: u216 :: u217 :: u218 :: u219 :: u220 :: u221 :: u222 :: u223 :: u224 :: u225 :: u226 :: u227 :: u228 :: u229 :: u230 :: u231 :: u232 :: u233 :: u234 :: u235 :: (t236) :: (t237) :: (t238) :: (t239) :: (t240) :: (t241) :: (t242) :: (t243) :: (t244) :: (t245) :: (t246) :: (t247) :: (t248) :: (t249) :: (t250) :: (t251) :: (t252) :: (t253) :: (t254) :: (t255) :: (t256) :: (t257) :: (t258) :: (t259) :: (t260) :: (t261) :: (t262) :: (t263) :: (t264) :: (t265) :: (t266) :: (t267) :: (t268) :: (t269) :: (t270) :: (t271) :: (t272) :: (t273) :: (.bool false) :: []), defers := [] } w') :
    (Code.region 42 (List.toArray (oru0 :: oru1 :: oru2 :: oru3 :: oru4 :: oru5 :: oru6 :: oru7 :: oru8 :: oru9 :: oru10 :: oru11 :: oru12 :: oru13 :: oru14 :: oru15 :: oru16 :: oru17 :: oru18 :: oru19 :: oru20 :: oru21 :: oru22 :: oru23 :: oru24 :: oru25 :: oru26 :: oru27 :: oru28 :: oru29 :: oru30 :: oru31 :: oru32 :: oru33 :: oru34 :: oru35 :: oru36 :: oru37 :: oru38 :: [])) true).wp Try.prog (Exit.then K (fun _ _ _ => False)) { tmps := List.toArray (u0 :: u1 :: u2 :: u3 :: (.pointer (some ⟨bp, 0, none⟩)) :: u5 :: u6 :: (.pointer (some ⟨A, 0, none⟩)) :: u8 :: u9 :: (.int .i64 (j : Int)) :: u11 :: u12 :: u13 :: u14 :: u15 :: u16 :: u17 :: u18 :: (.pointer (some ⟨hb, 0, none⟩)) :: (.int .i64 0) :: (.bool false) :: u22 :: u23 :: u24 :: u25 :: u26 :: u27 :: u28 :: u29 :: u30 :: u31 :: u32 :: u33 :: u34 :: u35 :: u36 :: u37 :: u38 :: u39 :: u40 :: u41 :: u42 :: u43 :: u44 :: u45 :: u46 :: u47 :: u48 :: u49 :: u50 :: u51 :: u52 :: u53 :: u54 :: u55 :: u56 :: u57 :: u58 :: u59 :: u60 :: u61 :: u62 :: u63 :: u64 :: u65 :: u66 :: u67 :: u68 :: u69 :: u70 :: u71 :: u72 :: u73 :: u74 :: u75 :: u76 :: u77 :: u78 :: u79 :: u80 :: u81 :: u82 :: u83 :: u84 :: u85 :: u86 :: u87 :: u88 :: u89 :: u90 :: u91 :: u92 :: u93 :: u94 :: u95 :: u96 :: u97 :: u98 :: u99 :: u100 :: u101 :: u102 :: u103 :: u104 :: u105 :: u106 :: u107 :: u108 :: u109 :: u110 :: u111 :: u112 :: u113 :: u114 :: u115 :: u116 :: u117 :: u118 :: u119 :: u120 :: u121 :: u122 :: u123 :: u124 :: u125 :: u126 :: u127 :: u128 :: u129 :: u130 :: u131 :: u132 :: u133 :: u134 :: u135 :: u136 :: u137 :: u138 :: u139 :: u140 :: u141 :: u142 :: u143 :: u144 :: u145 :: u146 :: u147 :: u148 :: u149 :: u150 :: u151 :: u152 :: u153 :: u154 :: u155 :: u156 :: u157 :: u158 :: u159 :: u160 :: u161 :: u162 :: u163 :: u164 :: u165 :: u166 :: u167 :: u168 :: u169 :: u170 :: u171 :: u172 :: u173 :: u174 :: u175 :: u176 :: u177 :: u178 :: u179 :: u180 :: u181 :: u182 :: u183 :: u184 :: u185 :: u186 :: u187 :: u188 :: u189 :: u190 :: u191 :: u192 :: u193 :: u194 :: u195 :: u196 :: u197 :: u198 :: u199 :: u200 :: u201 :: u202 :: u203 :: u204 :: u205 :: u206 :: u207 :: u208 :: u209 :: u210 :: u211 :: u212 :: u213 :: u214 :: u215 :: u216 :: u217 :: u218 :: u219 :: u220 :: u221 :: u222 :: u223 :: u224 :: u225 :: u226 :: u227 :: u228 :: u229 :: u230 :: u231 :: u232 :: u233 :: u234 :: u235 :: u236 :: u237 :: u238 :: u239 :: u240 :: u241 :: u242 :: u243 :: u244 :: u245 :: u246 :: u247 :: u248 :: u249 :: u250 :: u251 :: u252 :: u253 :: u254 :: u255 :: u256 :: u257 :: u258 :: u259 :: u260 :: u261 :: u262 :: u263 :: u264 :: u265 :: u266 :: u267 :: u268 :: u269 :: u270 :: u271 :: u272 :: u273 :: u274 :: []), defers := [] } W := by
  have HK := hide hK0
  have TW := hide tw
  have HH := hide hh
  have z0 : (0 : Int) ≤ (j : Int) := by omega
  have z1 : (j : Int) < 3 := by omega
  have e2 : IntKind.i64.wrap ((j : Int) + 1) = (j : Int) + 1 := by rw [IntKind.wrap_i64]; omega
  have HR := hide (show (sel (inRow ((j : Int) + 1) 1 3) l).length = (f j).tail.length from by rw [← ti.ji.row j hj, List.length_map])
  rw [hf] at HR
  obtain ⟨va, vc, hv, -, -⟩ := (tw.tm.row j hj).form
  rw [hf] at hv
  have hv : v j = .slice va 0 vc := hv
  have HCL := hide (show W.cell? ⟨A, j, none⟩ = some (.slice va 0 vc) from by rw [← hv]; exact tw.tm.cell hj)
  clear hv hK0 tw hh ti
  refine wp_reg (fun _ => False) (R := fun V => Ch (fun _ => False) W V) (by kernel_rfl) (Ch.drew _) (fun V0 cV zk => ?_)
  have CV := hide cV
  clear cV
  have HX := hide (fun wq (k0 : Ch (fun _ => False) V0 wq) => show (wq.cell? ⟨A, j, none⟩ = some (.slice va 0 vc)) ∧ wq.cell? ⟨hb, 0, none⟩ = some (.int .u32 0) ∧ wq.cell? ⟨hb, 1, none⟩ = some (.int .u32 0) from by
    have kq := CV.out.trans k0 (fun _ _ h => h)
    have e := Lib.cell_of_heap (kq.box HH.out (fun h => h))
    exact ⟨(kq.cell (cell_lt HCL.out) (fun h => h) _).trans HCL.out, by simp [e], by simp [e]⟩)
  apply tk 0 oru0 rfl (by kernel_rfl) (fun _ _ _ h => h) zk
  · intro wq zq
    go_simp
    try rfl
  go_frame
  apply tk 1 oru1 rfl (by kernel_rfl) (fun _ _ _ h => h) zk
  · intro wq zq
    go_simp
    try rfl
  go_frame
  apply tk 2 oru2 rfl (by kernel_rfl) (fun _ _ _ h => h) zk
  · intro wq zq
    go_simp
    try rfl
  go_frame
  apply tk 3 oru3 rfl (by kernel_rfl) (fun _ _ _ h => h) zk
  · intro wq zq
    go_simp
    try rfl
  go_frame
  apply tk 4 oru4 rfl (by kernel_rfl) (fun _ _ _ h => h) zk
  · intro wq zq
    go_simp
    try rfl
  go_frame
  apply sk 5 oru5 rfl (by kernel_rfl) (fun _ _ _ h => h) zk
  go_frame
  apply sk 6 oru6 rfl (by kernel_rfl) (fun _ _ _ h => h) zk
  go_frame
  apply sk 7 oru7 rfl (by kernel_rfl) (fun _ _ _ h => h) zk
  go_frame
  apply sk 8 oru8 rfl (by kernel_rfl) (fun _ _ _ h => h) zk
  go_frame
  apply sk 9 oru9 rfl (by kernel_rfl) (fun _ _ _ h => h) zk
  go_frame
  apply sk 10 oru10 rfl (by kernel_rfl) (fun _ _ _ h => h) zk
  go_frame
  apply sk 11 oru11 rfl (by kernel_rfl) (fun _ _ _ h => h) zk
  go_frame
  apply tk 12 oru12 rfl (by kernel_rfl) (fun _ _ _ h => h) zk
  · intro wq zq
    go_simp
    try rfl
  go_frame
  apply tk 13 oru13 rfl (by kernel_rfl) (fun _ _ _ h => h) zk
  · intro wq zq
    go_simp
    try rfl
  go_frame
  apply tk 14 oru14 rfl (by kernel_rfl) (fun _ _ _ h => h) zk
  · intro wq zq
    go_simp
    try rfl
  go_frame
  apply tk 15 oru15 rfl (by kernel_rfl) (fun _ _ _ h => h) zk
  · intro wq zq
    go_simp
    try rfl
  go_frame
  apply tk 16 oru16 rfl (by kernel_rfl) (fun _ _ _ h => h) zk
  · intro wq zq
    go_simp
    try rfl
  go_frame
  apply tk 17 oru17 rfl (by kernel_rfl) (fun _ _ _ h => h) zk
  · intro wq zq
    go_simp
    try rfl
  go_frame
  apply tk 18 oru18 rfl (by kernel_rfl) (fun _ _ _ h => h) zk
  · intro wq zq
    obtain ⟨s2, s3, s4⟩ := HX.out _ zq
    go_simp
    try rfl
  go_frame
  apply tk 19 oru19 rfl (by kernel_rfl) (fun _ _ _ h => h) zk
  · intro wq zq
    go_simp
    try rfl
  go_frame
  apply tk 20 oru20 rfl (by kernel_rfl) (fun _ _ _ h => h) zk
  · intro wq zq
    go_simp
    try rfl
  go_frame
  apply tk 21 oru21 rfl (by kernel_rfl) (fun _ _ _ h => h) zk
  · intro wq zq
    go_simp
    try rfl
  go_frame
  apply tk 22 oru22 rfl (by kernel_rfl) (fun _ _ _ h => h) zk
  · intro wq zq
    go_simp
    try rfl
  go_frame
  apply tk 23 oru23 rfl (by kernel_rfl) (fun _ _ _ h => h) zk
  · intro wq zq
    go_simp
    try rfl
  go_frame
  apply tk 24 oru24 rfl (by kernel_rfl) (fun _ _ _ h => h) zk
  · intro wq zq
    go_simp
    try rfl
  go_frame
  apply tk 25 oru25 rfl (by kernel_rfl) (fun _ _ _ h => h) zk
  · intro wq zq
    go_simp
    try rfl
  go_frame
  apply tk 26 oru26 rfl (by kernel_rfl) (fun _ _ _ h => h) zk
  · intro wq zq
    go_simp
    try rfl
  go_frame
  apply tk 31 oru31 rfl (by kernel_rfl) (fun _ _ _ h => h) zk
  · intro wq zq
    go_simp
    try rfl
  go_frame
  apply tk 32 oru32 rfl (by kernel_rfl) (fun _ _ _ h => h) zk
  · intro wq zq
    obtain ⟨s2, s3, s4⟩ := HX.out _ zq
    go_simp
    try rfl
  go_frame
  apply tk 33 oru33 rfl (by kernel_rfl) (fun _ _ _ h => h) zk
  · intro wq zq
    obtain ⟨s2, s3, s4⟩ := HX.out _ zq
    go_simp
    try rfl
  go_frame
  apply tk 34 oru34 rfl (by kernel_rfl) (fun _ _ _ h => h) zk
  · intro wq zq
    go_simp
    try rfl
  go_frame
  apply tk 35 oru35 rfl (by kernel_rfl) (fun _ _ _ h => h) zk
  · intro wq zq
    go_simp
    try rfl
  go_frame
  apply tk 36 oru36 rfl (by kernel_rfl) (fun _ _ _ h => h) zk
  · intro wq zq
    go_simp
    try rfl
  go_frame
  refine Go.Proofs.Ytoabhmpakcgloaa.rd 27 oru27 rfl (by kernel_rfl) fun K hK => ?_
  go_simp
  refine (lhandle_is V0 (n := (j : Int) + 1) (by omega) (by omega)).mono ?_
  rintro e va1 ⟨rfl, hb1⟩
  have Ca := hide ((CV.out).trans (Ch.of_below (Q := fun _ => False) hb1) (fun _ _ h => h))
  have Za := hide (zk.trans (Ch.of_below (Q := fun _ => False) hb1) (fun _ _ h => h))
  clear hb1
  go_wp2_with fail
  refine hK.out _ _ ?_ (fun zk => ?_)
  · exact Za.out
  clear hK K
  try go_frame
  apply tk 28 oru28 rfl (by kernel_rfl) (fun _ _ _ h => h) zk
  · intro wq zq
    go_simp
    try rfl
  go_frame
  refine Go.Proofs.Ytoabhmpakcgloaa.rd 29 oru29 rfl (by kernel_rfl) fun K hK => ?_
  go_simp
  obtain ⟨Fb, hpb, -⟩ := (TW.out.quiet Ca.out).s1.bk
  refine (face.row ((j : Int) + 1) 1 3 (by constructor <;> omega) (by constructor <;> decide) (by constructor <;> decide) hpb hl).mono ?_
  rintro e vb ⟨rv, rfl, hrr, hb2⟩
  obtain ⟨ra, rc, rfl, -, -⟩ := hrr.form
  rw [HR.out]
  have Cb := hide ((Ca.out).trans (Ch.of_below (Q := fun _ => False) hb2) (fun _ _ h => h))
  have Zb := hide (zk.trans (Ch.of_below (Q := fun _ => False) hb2) (fun _ _ h => h))
  clear hb2 hrr hpb
  go_wp2_with fail
  refine hK.out _ _ ?_ (fun zk => ?_)
  · exact Zb.out
  clear hK K
  try go_frame
  apply tk 30 oru30 rfl (by kernel_rfl) (fun _ _ _ h => h) zk
  · intro wq zq
    go_simp
    try rfl
  go_frame
  apply tk 37 oru37 rfl (by kernel_rfl) (fun _ _ _ h => h) zk
  · intro wq zq
    go_simp
    try rfl
  go_frame
  apply tk 38 oru38 rfl (by kernel_rfl) (fun _ _ _ h => h) zk
  · intro wq zq
    go_simp
    try rfl
  go_frame
  refine wpAnyH_done (by kernel_rfl) ?_ _
  exact HK.out _ _ _ _ _ _ _ _ _ _ _ _ _ _ _ _ _ _ _ _ _ _ _ _ _ _ _ _ _ _ _ _ _ _ _ _ _ _ _ Cb.out

set_option maxRecDepth 100000 in
set_option maxHeartbeats 8000000 in
theorem end_b {w W : World} {N c bp A j hb : Nat} {l : List Wt} {ls : List Lk} {G : Nat → Prop} {v : Nat → Value} {f : Nat → List Hnd} (hj : j < 3) (tw : Tw w W N c bp l ls G A v f) (ti : TI l f) (hl : l.length ≤ 100000) {x : Hnd} {r : List Hnd} (hf : f j = x :: r) (hh : W.heap[hb]? = some (.cells #[.int .u32 x.1, .int .u32 x.2] 35 (0, 0))) {u0 u1 u2 u3 u5 u6 u8 u9 u11 u12 u13 u14 u15 u16 u17 u18 u22 u23 u24 u25 u26 u27 u28 u29 u30 u31 u32 u33 u34 u35 u36 u37 u38 u39 u40 u41 u42 u43 u44 u45 u46 u47 u48 u49 u50 u51 u52 u53 u54 u55 u56 u57 u58 u59 u60 u61 u62 u63 u64 u65 u66 u67 u68 u69 u70 u71 u72 u73 u74 u75 u76 u77 u78 u79 u80 u81 u82 u83 u84 u85 u86 u87 u88 u89 u90 u91 u92 u93 u94 u95 u96 u97 u98 u99 u100 u101 u102 u103 u104 u105 u106 u107 u108 u109 u110 u111 u112 u113 u114 u115 u116 u117 u118 u119 u120 u121 u122 u123 u124 u125 u126 u127 u128 u129 u130 u131 u132 u133 u134 u135 u136 u137 u138 u139 u140 u141 u142 u143 u144 u145 u146 u147 u148 u149 u150 u151 u152 u153 u154 u155 u156 u157 u158 u159 u160 u161 u162 u163 u164 u165 u166 u167 u168 u169 u170 u171 u172 u173 u174 u175 u176 u177 u178 u179 u180 u181 u182 u183 u184 u185 u186 u187 u188 u189 u190 u191 u192 u193 u194 u195 u196 u197 u198 u199 u200 u201 u202 u203 u204 u205 u206 u207 u208 u209 u210 u211 u212 u213 u214 u215 u216 u217 u218 u219 u220 u221 u222 u223 u224 u225 u226 u227 u228 u229 u230 u231 u232 u233 u234 u235 u236 u237 u238 u239 u240 u241 u242 u243 u244 u245 u246 u247 u248 u249 u250 u251 u252 u253 u254 u255 u256 u257 u258 u259 u260 u261 u262 u263 u264 u265 u266 u267 u268 u269 u270 u271 u272 u273 u274 : Value} {K : Act → World → Prop}
    (hK0 : ∀ (w' : World) (t236 t237 t238 t239 t240 t241 t242 t243 t244 t245 t246 t247 t248 t249 t250 t251 t252 t253 t254 t255 t256 t257 t258 t259 t260 t261 t262 t263 t264 t265 t266 t267 t268 t269 t270 t271 t272 t273 : Value), Ch (fun _ => False) W w' → K { tmps := List.toArray (u0 :: u1 :: u2 :: u3 :: (.pointer (some ⟨bp, 0, none⟩)) :: u5 :: u6 :: (.pointer (some ⟨A, 0, none⟩)) :: u8 :: u9 :: (.int .i64 (j : Int)) :: u11 :: u12 :: u13 :: u14 :: u15 :: u16 :: u17 :: u18 :: (.pointer (some ⟨hb, 0, none⟩)) :: (.int .i64 0) :: (.bool true) :: u22 :: u23 :: u24 :: u25 :: u26 :: u27 :: u28 :: u29 :: u30 :: u31 :: u32 :: u33 :: u34 :: u35 :: u36 :: u37 :: u38 :: u39 :: u40 :: u41 :: u42 :: u43 :: u44 :: u45 :: u46 :: u47 :: u48 :: u49 :: u50 :: u51 :: u52 :: u53 :: u54 :: u55 :: u56 :: u57 :: u58 :: u59 :: u60 :: u61 :: u62 :: u63 :: u64 :: u65 :: u66 :: u67 :: u68 :: u69 :: u70 :: u71 :: u72 :: u73 :: u74 :: u75 :: u76 :: u77 :: u78 :: u79 :: u80 :: u81 :: u82 :: u83 :: u84 :: u85 :: u86 :: u87 :: u88 :: u89 :: u90 :: u91 :: u92 :: u93 :: u94 :: u95 :: u96 :: u97 :: u98 :: u99 :: u100 :: u101 :: u102 :: u103 :: u104 :: u105 :: u106 :: u107 :: u108 :: u109 :: u110 :: u111 :: u112 :: u113 :: u114 :: u115 :: u116 :: u117 :: u118 :: u119 :: u120 :: u121 :: u122 :: u123 :: u124 :: u125 :: u126 :: u127 :: u128 :: u129 :: u130 :: u131 :: u132 :: u133 :: u134 :: u135 :: u136 :: u137 :: u138 :: u139 :: u140 :: u141 :: u142 :: u143 :: u144 :: u145 :: u146 :: u147 :: u148 :: u149 :: u150 :: u151 :: u152 :: u153 :: u154 :: u155 :: u156 :: u157 :: u158 :: u159 :: u160 :: u161 :: u162 :: u163 :: u164 :: u165 :: u166 :: u167 :: u168 :: u169 :: u170 :: u171 :: u172 :: u173 :: u174 :: u175 :: u176 :: u177 :: u178 :: u179 :: u180 :: u181 :: u182 :: u183 :: u184 :: u185 :: u186 :: u187 :: u188 :: u189 :: u190 :: u191 :: u192 :: u193 :: u194 :: u195 :: u196 :: u197 :: u198 :: u199 :: u200 :: u201 :: u202 :: u203 :: u204 :: u205 :: u206 :: u207 :: u208 :: u209 :: u210 :: u211 :: u212 :: u213 :: u214 :: u215 :: u216 :: u217 :: u218 :: u219 :: u220 :: u221 :: u222 :: u223 :: u224 :: u225 :: u226 :: u227 :: u228 :: u229 :: u230 :: u231 :: u232 :: u233 :: u234 :: u235 :: (t236) :: (t237) :: (t238) :: (t239) :: (t240) :: (t241) :: (t242) :: (t243) :: (t244) :: (t245) :: (t246) :: (t247) :: (t248) :: (t249) :: (t250) :: (t251) :: (t252) :: (t253) :: (t254) :: (t255) :: (t256) :: (t257) :: (t258) :: (t259) :: (t260) :: (t261) :: (t262) :: (t263) :: (t264) :: (t265) :: (t266) :: (t267) :: (t268) :: (t269) :: (t270) :: (t271) :: (t272) :: (t273) :: (.bool false) :: []), defers := [] } w') :
    (Code.region 42 (List.toArray (oru0 :: oru1 :: oru2 :: oru3 :: oru4 :: oru5 :: oru6 :: oru7 :: oru8 :: oru9 :: oru10 :: oru11 :: oru12 :: oru13 :: oru14 :: oru15 :: oru16 :: oru17 :: oru18 :: oru19 :: oru20 :: oru21 :: oru22 :: oru23 :: oru24 :: oru25 :: oru26 :: oru27 :: oru28 :: oru29 :: oru30 :: oru31 :: oru32 :: oru33 :: oru34 :: oru35 :: oru36 :: oru37 :: oru38 :: [])) true).wp Try.prog (Exit.then K (fun _ _ _ => False)) { tmps := List.toArray (u0 :: u1 :: u2 :: u3 :: (.pointer (some ⟨bp, 0, none⟩)) :: u5 :: u6 :: (.pointer (some ⟨A, 0, none⟩)) :: u8 :: u9 :: (.int .i64 (j : Int)) :: u11 :: u12 :: u13 :: u14 :: u15 :: u16 :: u17 :: u18 :: (.pointer (some ⟨hb, 0, none⟩)) :: (.int .i64 0) :: (.bool true) :: u22 :: u23 :: u24 :: u25 :: u26 :: u27 :: u28 :: u29 :: u30 :: u31 :: u32 :: u33 :: u34 :: u35 :: u36 :: u37 :: u38 :: u39 :: u40 :: u41 :: u42 :: u43 :: u44 :: u45 :: u46 :: u47 :: u48 :: u49 :: u50 :: u51 :: u52 :: u53 :: u54 :: u55 :: u56 :: u57 :: u58 :: u59 :: u60 :: u61 :: u62 :: u63 :: u64 :: u65 :: u66 :: u67 :: u68 :: u69 :: u70 :: u71 :: u72 :: u73 :: u74 :: u75 :: u76 :: u77 :: u78 :: u79 :: u80 :: u81 :: u82 :: u83 :: u84 :: u85 :: u86 :: u87 :: u88 :: u89 :: u90 :: u91 :: u92 :: u93 :: u94 :: u95 :: u96 :: u97 :: u98 :: u99 :: u100 :: u101 :: u102 :: u103 :: u104 :: u105 :: u106 :: u107 :: u108 :: u109 :: u110 :: u111 :: u112 :: u113 :: u114 :: u115 :: u116 :: u117 :: u118 :: u119 :: u120 :: u121 :: u122 :: u123 :: u124 :: u125 :: u126 :: u127 :: u128 :: u129 :: u130 :: u131 :: u132 :: u133 :: u134 :: u135 :: u136 :: u137 :: u138 :: u139 :: u140 :: u141 :: u142 :: u143 :: u144 :: u145 :: u146 :: u147 :: u148 :: u149 :: u150 :: u151 :: u152 :: u153 :: u154 :: u155 :: u156 :: u157 :: u158 :: u159 :: u160 :: u161 :: u162 :: u163 :: u164 :: u165 :: u166 :: u167 :: u168 :: u169 :: u170 :: u171 :: u172 :: u173 :: u174 :: u175 :: u176 :: u177 :: u178 :: u179 :: u180 :: u181 :: u182 :: u183 :: u184 :: u185 :: u186 :: u187 :: u188 :: u189 :: u190 :: u191 :: u192 :: u193 :: u194 :: u195 :: u196 :: u197 :: u198 :: u199 :: u200 :: u201 :: u202 :: u203 :: u204 :: u205 :: u206 :: u207 :: u208 :: u209 :: u210 :: u211 :: u212 :: u213 :: u214 :: u215 :: u216 :: u217 :: u218 :: u219 :: u220 :: u221 :: u222 :: u223 :: u224 :: u225 :: u226 :: u227 :: u228 :: u229 :: u230 :: u231 :: u232 :: u233 :: u234 :: u235 :: u236 :: u237 :: u238 :: u239 :: u240 :: u241 :: u242 :: u243 :: u244 :: u245 :: u246 :: u247 :: u248 :: u249 :: u250 :: u251 :: u252 :: u253 :: u254 :: u255 :: u256 :: u257 :: u258 :: u259 :: u260 :: u261 :: u262 :: u263 :: u264 :: u265 :: u266 :: u267 :: u268 :: u269 :: u270 :: u271 :: u272 :: u273 :: u274 :: []), defers := [] } W := by
  have HK := hide hK0
  have TW := hide tw
  have HH := hide hh
  have z0 : (0 : Int) ≤ (j : Int) := by omega
  have z1 : (j : Int) < 3 := by omega
  have e2 : IntKind.i64.wrap ((j : Int) + 1) = (j : Int) + 1 := by rw [IntKind.wrap_i64]; omega
  have HR := hide (show (sel (inRow ((j : Int) + 1) 1 3) l).length = (f j).tail.length from by rw [← ti.ji.row j hj, List.length_map])
  rw [hf] at HR
  obtain ⟨lb, lo, lc, hv, hcl⟩ := (tw.tm.row j hj).at hkF_len (i := 0) (by rw [hf]; exact Nat.zero_lt_succ _)
  have h0 := hcl 0 _ rfl
  have h1 := hcl 1 _ rfl
  simp only [hf, List.getElem_cons_zero, Nat.zero_mul, Nat.add_zero] at h0 h1
  rw [hf] at hv
  obtain ⟨n, hn⟩ : ∃ n, (x :: r).length = n := ⟨_, rfl⟩
  rw [hn] at hv
  have hn1 : r.length + 1 = n := hn
  have hnl : n ≤ 9223372036854775807 := by
    obtain ⟨_, c9, _, h8, h9⟩ := (tw.tm.row j hj).form
    rw [hf, hn] at h8
    unfold maxLen at h9
    omega
  have HCL := hide (show W.cell? ⟨lb, lo, none⟩ = some (.int .u32 x.1) ∧ W.cell? ⟨lb, lo + 1, none⟩ = some (.int .u32 x.2) ∧ W.cell? ⟨A, j, none⟩ = some (.slice (some ⟨lb, lo, none⟩) n lc) from ⟨h0, h1, by rw [← hv]; exact tw.tm.cell hj⟩)
  have k1 : IntKind.i64.wrap ((n : Int) - 1) = (r.length : Int) := by rw [IntKind.wrap_i64]; omega
  have k2 : (0 : Int) < (n : Int) := by omega
  have k3 : 0 < n := by omega
  clear h0 h1 hcl hv hn hK0 tw hh ti
  refine wp_reg (fun _ => False) (R := fun V => Ch (fun _ => False) W V) (by kernel_rfl) (Ch.drew _) (fun V0 cV zk => ?_)
  have CV := hide cV
  clear cV
  have HX := hide (fun wq (k0 : Ch (fun _ => False) V0 wq) => show (wq.cell? ⟨lb, lo, none⟩ = some (.int .u32 x.1) ∧ wq.cell? ⟨lb, lo + 1, none⟩ = some (.int .u32 x.2) ∧ wq.cell? ⟨A, j, none⟩ = some (.slice (some ⟨lb, lo, none⟩) n lc)) ∧ wq.cell? ⟨hb, 0, none⟩ = some (.int .u32 x.1) ∧ wq.cell? ⟨hb, 1, none⟩ = some (.int .u32 x.2) from by
    have kq := CV.out.trans k0 (fun _ _ h => h)
    have e := Lib.cell_of_heap (kq.box HH.out (fun h => h))
    exact ⟨⟨(kq.cell (cell_lt HCL.out.1) (fun h => h) _).trans HCL.out.1, (kq.cell (cell_lt HCL.out.2.1) (fun h => h) _).trans HCL.out.2.1, (kq.cell (cell_lt HCL.out.2.2) (fun h => h) _).trans HCL.out.2.2⟩, by simp [e], by simp [e]⟩)
  apply tk 0 oru0 rfl (by kernel_rfl) (fun _ _ _ h => h) zk
  · intro wq zq
    go_simp
    try rfl
  go_frame
  apply tk 1 oru1 rfl (by kernel_rfl) (fun _ _ _ h => h) zk
  · intro wq zq
    go_simp
    try rfl
  go_frame
  apply tk 2 oru2 rfl (by kernel_rfl) (fun _ _ _ h => h) zk
  · intro wq zq
    go_simp
    try rfl
  go_frame
  apply tk 3 oru3 rfl (by kernel_rfl) (fun _ _ _ h => h) zk
  · intro wq zq
    go_simp
    try rfl
  go_frame
  apply tk 4 oru4 rfl (by kernel_rfl) (fun _ _ _ h => h) zk
  · intro wq zq
    go_simp
    try rfl
  go_frame
  apply tk 5 oru5 rfl (by kernel_rfl) (fun _ _ _ h => h) zk
  · intro wq zq
    obtain ⟨⟨s0, s1, s2⟩, s3, s4⟩ := HX.out _ zq
    go_simp
    try rfl
  go_frame
  apply tk 6 oru6 rfl (by kernel_rfl) (fun _ _ _ h => h) zk
  · intro wq zq
    go_simp
    try rfl
  go_frame
  apply tk 7 oru7 rfl (by kernel_rfl) (fun _ _ _ h => h) zk
  · intro wq zq
    obtain ⟨⟨s0, s1, s2⟩, s3, s4⟩ := HX.out _ zq
    go_simp
    try rfl
  go_frame
  apply tk 8 oru8 rfl (by kernel_rfl) (fun _ _ _ h => h) zk
  · intro wq zq
    obtain ⟨⟨s0, s1, s2⟩, s3, s4⟩ := HX.out _ zq
    go_simp
    try rfl
  go_frame
  apply tk 9 oru9 rfl (by kernel_rfl) (fun _ _ _ h => h) zk
  · intro wq zq
    obtain ⟨⟨s0, s1, s2⟩, s3, s4⟩ := HX.out _ zq
    go_simp
    try rfl
  go_frame
  apply tk 10 oru10 rfl (by kernel_rfl) (fun _ _ _ h => h) zk
  · intro wq zq
    obtain ⟨⟨s0, s1, s2⟩, s3, s4⟩ := HX.out _ zq
    go_simp
    try rfl
  go_frame
  apply tk 11 oru11 rfl (by kernel_rfl) (fun _ _ _ h => h) zk
  · intro wq zq
    go_simp
    try rfl
  go_frame
  apply tk 12 oru12 rfl (by kernel_rfl) (fun _ _ _ h => h) zk
  · intro wq zq
    go_simp
    try rfl
  go_frame
  apply tk 13 oru13 rfl (by kernel_rfl) (fun _ _ _ h => h) zk
  · intro wq zq
    go_simp
    try rfl
  go_frame
  apply tk 14 oru14 rfl (by kernel_rfl) (fun _ _ _ h => h) zk
  · intro wq zq
    go_simp
    try rfl
  go_frame
  apply tk 15 oru15 rfl (by kernel_rfl) (fun _ _ _ h => h) zk
  · intro wq zq
    go_simp
    try rfl
  go_frame
  apply tk 16 oru16 rfl (by kernel_rfl) (fun _ _ _ h => h) zk
  · intro wq zq
    go_simp
    try rfl
  go_frame
  apply tk 17 oru17 rfl (by kernel_rfl) (fun _ _ _ h => h) zk
  · intro wq zq
    go_simp
    try rfl
  go_frame
  apply sk 18 oru18 rfl (by kernel_rfl) (fun _ _ _ h => h) zk
  go_frame
  apply sk 19 oru19 rfl (by kernel_rfl) (fun _ _ _ h => h) zk
  go_frame
  apply sk 20 oru20 rfl (by kernel_rfl) (fun _ _ _ h => h) zk
  go_frame
  apply tk 21 oru21 rfl (by kernel_rfl) (fun _ _ _ h => h) zk
  · intro wq zq
    go_simp
    try rfl
  go_frame
  apply tk 22 oru22 rfl (by kernel_rfl) (fun _ _ _ h => h) zk
  · intro wq zq
    go_simp
    try rfl
  go_frame
  apply tk 23 oru23 rfl (by kernel_rfl) (fun _ _ _ h => h) zk
  · intro wq zq
    go_simp
    try rfl
  go_frame
  apply tk 24 oru24 rfl (by kernel_rfl) (fun _ _ _ h => h) zk
  · intro wq zq
    go_simp
    try rfl
  go_frame
  apply tk 25 oru25 rfl (by kernel_rfl) (fun _ _ _ h => h) zk
  · intro wq zq
    go_simp
    try rfl
  go_frame
  apply tk 26 oru26 rfl (by kernel_rfl) (fun _ _ _ h => h) zk
  · intro wq zq
    go_simp
    try rfl
  go_frame
  apply tk 31 oru31 rfl (by kernel_rfl) (fun _ _ _ h => h) zk
  · intro wq zq
    go_simp
    try rfl
  go_frame
  apply tk 32 oru32 rfl (by kernel_rfl) (fun _ _ _ h => h) zk
  · intro wq zq
    obtain ⟨⟨s0, s1, s2⟩, s3, s4⟩ := HX.out _ zq
    go_simp
    try rfl
  go_frame
  apply tk 33 oru33 rfl (by kernel_rfl) (fun _ _ _ h => h) zk
  · intro wq zq
    obtain ⟨⟨s0, s1, s2⟩, s3, s4⟩ := HX.out _ zq
    go_simp
    try rfl
  go_frame
  apply tk 34 oru34 rfl (by kernel_rfl) (fun _ _ _ h => h) zk
  · intro wq zq
    go_simp
    try rfl
  go_frame
  apply tk 35 oru35 rfl (by kernel_rfl) (fun _ _ _ h => h) zk
  · intro wq zq
    go_simp
    try rfl
  go_frame
  apply tk 36 oru36 rfl (by kernel_rfl) (fun _ _ _ h => h) zk
  · intro wq zq
    go_simp
    try rfl
  go_frame
  rw [show (if 0 < r.length then (r.length : Int) else 0) = (r.length : Int) from by split <;> omega]
  refine Go.Proofs.Ytoabhmpakcgloaa.rd 27 oru27 rfl (by kernel_rfl) fun K hK => ?_
  go_simp
  refine (lhandle_is V0 (n := (j : Int) + 1) (by omega) (by omega)).mono ?_
  rintro e va1 ⟨rfl, hb1⟩
  have Ca := hide ((CV.out).trans (Ch.of_below (Q := fun _ => False) hb1) (fun _ _ h => h))
  have Za := hide (zk.trans (Ch.of_below (Q := fun _ => False) hb1) (fun _ _ h => h))
  clear hb1
  go_wp2_with fail
  refine hK.out _ _ ?_ (fun zk => ?_)
  · exact Za.out
  clear hK K
  try go_frame
  apply tk 28 oru28 rfl (by kernel_rfl) (fun _ _ _ h => h) zk
  · intro wq zq
    go_simp
    try rfl
  go_frame
  refine Go.Proofs.Ytoabhmpakcgloaa.rd 29 oru29 rfl (by kernel_rfl) fun K hK => ?_
  go_simp
  obtain ⟨Fb, hpb, -⟩ := (TW.out.quiet Ca.out).s1.bk
  refine (face.row ((j : Int) + 1) 1 3 (by constructor <;> omega) (by constructor <;> decide) (by constructor <;> decide) hpb hl).mono ?_
  rintro e vb ⟨rv, rfl, hrr, hb2⟩
  obtain ⟨ra, rc, rfl, -, -⟩ := hrr.form
  rw [HR.out]
  have Cb := hide ((Ca.out).trans (Ch.of_below (Q := fun _ => False) hb2) (fun _ _ h => h))
  have Zb := hide (zk.trans (Ch.of_below (Q := fun _ => False) hb2) (fun _ _ h => h))
  clear hb2 hrr hpb
  go_wp2_with fail
  refine hK.out _ _ ?_ (fun zk => ?_)
  · exact Zb.out
  clear hK K
  try go_frame
  apply tk 30 oru30 rfl (by kernel_rfl) (fun _ _ _ h => h) zk
  · intro wq zq
    go_simp
    try rfl
  go_frame
  apply tk 37 oru37 rfl (by kernel_rfl) (fun _ _ _ h => h) zk
  · intro wq zq
    go_simp
    try rfl
  go_frame
  apply tk 38 oru38 rfl (by kernel_rfl) (fun _ _ _ h => h) zk
  · intro wq zq
    go_simp
    try rfl
  go_frame
  refine wpAnyH_done (by kernel_rfl) ?_ _
  exact HK.out _ _ _ _ _ _ _ _ _ _ _ _ _ _ _ _ _ _ _ _ _ _ _ _ _ _ _ _ _ _ _ _ _ _ _ _ _ _ _ Cb.out

end Go.Proofs.Ytoabhmpakcgloaa
