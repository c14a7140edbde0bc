/- Layer 11: WaitqStands: how often a wait stands in the three lists. Layer 11: WaitqStands: how often a wait stands in the three lists: over or not. -/
import Derived.Test.YthnnpipekeanoaaSg
namespace Go.Proofs.Ythnnpipekeanoaa
open Go.RowKit

abbrev sx0 : Oper := { dst := some 181, op := Op.move (Operand.tmp 18), type := 54, pos := "law.go:206", after := #[], guard := none }
abbrev sx1 : Oper := { dst := some 182, op := Op.binOp BinOp.eql 54 (Operand.tmp 181) (Operand.const (Value.int IntKind.i64 0)) 54, type := 4, pos := "law.go:206", after := #[{ on := 0, ground := Ground.data }], guard := none }
abbrev sx2 : Oper := { dst := some 183, op := Op.move (Operand.tmp 16), type := 3, pos := "law.go:206", after := #[], guard := none }
abbrev sx3 : Oper := { dst := some 184, op := Op.binOp BinOp.eql 3 (Operand.tmp 183) (Operand.const (Value.int IntKind.i64 1)) 3, type := 4, pos := "law.go:206", after := #[{ on := 2, ground := Ground.data }], guard := none }
abbrev sx4 : Oper := { dst := some 185, op := Op.binOp BinOp.neq 4 (Operand.tmp 182) (Operand.tmp 184) 4, type := 4, pos := "law.go:206", after := #[{ on := 1, ground := Ground.data }, { on := 3, ground := Ground.data }], guard := none }
abbrev sx5 : Oper := { dst := some 186, op := Op.move (Operand.tmp 185), type := 4, pos := "law.go:206", after := #[{ on := 4, ground := Ground.data }], guard := none }
abbrev sx6 : Oper := { dst := some 187, op := Op.move (Operand.tmp 16), type := 3, pos := "law.go:206", after := #[{ on := 5, ground := Ground.guard }], guard := some (5, false) }
abbrev sx7 : Oper := { dst := some 188, op := Op.binOp BinOp.eql 3 (Operand.tmp 187) (Operand.const (Value.int IntKind.i64 1)) 3, type := 4, pos := "law.go:206", after := #[{ on := 6, ground := Ground.data }, { on := 5, ground := Ground.guard }], guard := some (5, false) }
abbrev sx8 : Oper := { dst := some 189, op := Op.move (Operand.tmp 188), type := 4, pos := "law.go:206", after := #[{ on := 7, ground := Ground.data }, { on := 5, ground := Ground.chain }, { on := 5, ground := Ground.guard }], guard := some (5, false) }
abbrev sx9 : Oper := { dst := some 190, op := Op.load 57 (Operand.tmp 17), type := 57, pos := "law.go:206", after := #[{ on := 8, ground := Ground.guard }], guard := some (8, true) }
abbrev sx10 : Oper := { dst := some 191, op := Op.move (Operand.tmp 5), type := 28, pos := "law.go:206", after := #[{ on := 8, ground := Ground.guard }], guard := some (8, true) }
abbrev sx11 : Oper := { dst := some 192, op := Op.move (Operand.tmp 15), type := 3, pos := "law.go:206", after := #[{ on := 8, ground := Ground.guard }], guard := some (8, true) }
abbrev sx12 : Oper := { dst := some 193, op := Op.indexAddr 28 (Operand.tmp 191) (Operand.tmp 192), type := 0, pos := "law.go:206", after := #[{ on := 10, ground := Ground.data }, { on := 11, ground := Ground.data }, { on := 8, ground := Ground.guard }], guard := some (8, true) }
abbrev sx13 : Oper := { dst := some 194, op := Op.load 57 (Operand.tmp 193), type := 57, pos := "law.go:206", after := #[{ on := 12, ground := Ground.data }, { on := 8, ground := Ground.guard }], guard := some (8, true) }
abbrev sx14 : Oper := { dst := some 195, op := Op.binOp BinOp.neq 57 (Operand.tmp 190) (Operand.tmp 194) 57, type := 4, pos := "law.go:206", after := #[{ on := 9, ground := Ground.data }, { on := 13, ground := Ground.data }, { on := 8, ground := Ground.guard }], guard := some (8, true) }
abbrev sx15 : Oper := { dst := some 196, op := Op.pick (Operand.tmp 189) (Operand.tmp 195) (Operand.const (Value.bool false)), type := 4, pos := "law.go:206", after := #[{ on := 8, ground := Ground.data }, { on := 14, ground := Ground.data }, { on := 5, ground := Ground.guard }], guard := some (5, false) }
abbrev sx16 : Oper := { dst := some 197, op := Op.pick (Operand.tmp 186) (Operand.const (Value.bool true)) (Operand.tmp 196), type := 4, pos := "law.go:206", after := #[{ on := 5, ground := Ground.data }, { on := 15, ground := Ground.data }], guard := none }
abbrev sx17 : Oper := { dst := some 198, op := Op.move (Operand.tmp 197), type := 4, pos := "law.go:206", after := #[{ on := 16, ground := Ground.data }, { on := 8, ground := Ground.chain }], guard := none }
abbrev sx18 : Oper := { dst := some 199, op := Op.move (Operand.tmp 19), type := 28, pos := "law.go:206", after := #[{ on := 17, ground := Ground.guard }], guard := some (17, false) }
abbrev sx19 : Oper := { dst := some 200, op := Op.move (Operand.tmp 5), type := 28, pos := "law.go:206", after := #[{ on := 17, ground := Ground.guard }], guard := some (17, false) }
abbrev sx20 : Oper := { dst := some 201, op := Op.move (Operand.tmp 15), type := 3, pos := "law.go:206", after := #[{ on := 17, ground := Ground.guard }], guard := some (17, false) }
abbrev sx21 : Oper := { dst := some 202, op := Op.indexAddr 28 (Operand.tmp 200) (Operand.tmp 201), type := 0, pos := "law.go:206", after := #[{ on := 19, ground := Ground.data }, { on := 20, ground := Ground.data }, { on := 17, ground := Ground.guard }], guard := some (17, false) }
abbrev sx22 : Oper := { dst := some 203, op := Op.fieldAddr 57 (Operand.tmp 202) 0, type := 0, pos := "law.go:206", after := #[{ on := 21, ground := Ground.data }, { on := 17, ground := Ground.guard }], guard := some (17, false) }
abbrev sx23 : Oper := { dst := some 204, op := Op.load 41 (Operand.tmp 203), type := 41, pos := "law.go:206", after := #[{ on := 22, ground := Ground.data }, { on := 17, ground := Ground.guard }], guard := some (17, false) }
abbrev sx24 : Oper := { dst := some 205, op := Op.call { callee := Callee.value (Operand.func 18), args := #[Operand.tmp 199, Operand.tmp 204], argTypes := #[28, 41] }, type := 3, pos := "law.go:206", after := #[{ on := 18, ground := Ground.data }, { on := 23, ground := Ground.data }, { on := 17, ground := Ground.chain }, { on := 17, ground := Ground.guard }], guard := some (17, false) }
abbrev sx25 : Oper := { dst := some 206, op := Op.move (Operand.tmp 16), type := 3, pos := "law.go:206", after := #[{ on := 17, ground := Ground.guard }], guard := some (17, false) }
abbrev sx26 : Oper := { dst := some 207, op := Op.binOp BinOp.neq 3 (Operand.tmp 205) (Operand.tmp 206) 3, type := 4, pos := "law.go:206", after := #[{ on := 24, ground := Ground.data }, { on := 25, ground := Ground.data }, { on := 17, ground := Ground.guard }], guard := some (17, false) }
abbrev sx27 : Oper := { dst := some 208, op := Op.pick (Operand.tmp 198) (Operand.const (Value.bool true)) (Operand.tmp 207), type := 4, pos := "law.go:206", after := #[{ on := 17, ground := Ground.data }, { on := 26, ground := Ground.data }], guard := none }
abbrev sx28 : Oper := { dst := some 209, op := Op.move (Operand.tmp 208), type := 4, pos := "law.go:206", after := #[{ on := 27, ground := Ground.data }, { on := 24, ground := Ground.chain }], guard := none }
abbrev sx29 : Oper := { dst := some 210, op := Op.move (Operand.tmp 20), type := 28, pos := "law.go:206", after := #[{ on := 28, ground := Ground.guard }], guard := some (28, false) }
abbrev sx30 : Oper := { dst := some 211, op := Op.move (Operand.tmp 5), type := 28, pos := "law.go:206", after := #[{ on := 28, ground := Ground.guard }], guard := some (28, false) }
abbrev sx31 : Oper := { dst := some 212, op := Op.move (Operand.tmp 15), type := 3, pos := "law.go:206", after := #[{ on := 28, ground := Ground.guard }], guard := some (28, false) }
abbrev sx32 : Oper := { dst := some 213, op := Op.indexAddr 28 (Operand.tmp 211) (Operand.tmp 212), type := 0, pos := "law.go:206", after := #[{ on := 30, ground := Ground.data }, { on := 31, ground := Ground.data }, { on := 28, ground := Ground.guard }], guard := some (28, false) }
abbrev sx33 : Oper := { dst := some 214, op := Op.fieldAddr 57 (Operand.tmp 213) 0, type := 0, pos := "law.go:206", after := #[{ on := 32, ground := Ground.data }, { on := 28, ground := Ground.guard }], guard := some (28, false) }
abbrev sx34 : Oper := { dst := some 215, op := Op.load 41 (Operand.tmp 214), type := 41, pos := "law.go:206", after := #[{ on := 33, ground := Ground.data }, { on := 28, ground := Ground.guard }], guard := some (28, false) }
abbrev sx35 : Oper := { dst := some 216, op := Op.call { callee := Callee.value (Operand.func 18), args := #[Operand.tmp 210, Operand.tmp 215], argTypes := #[28, 41] }, type := 3, pos := "law.go:206", after := #[{ on := 29, ground := Ground.data }, { on := 34, ground := Ground.data }, { on := 28, ground := Ground.chain }, { on := 28, ground := Ground.guard }], guard := some (28, false) }
abbrev sx36 : Oper := { dst := some 217, op := Op.move (Operand.tmp 16), type := 3, pos := "law.go:206", after := #[{ on := 28, ground := Ground.guard }], guard := some (28, false) }
abbrev sx37 : Oper := { dst := some 218, op := Op.binOp BinOp.neq 3 (Operand.tmp 216) (Operand.tmp 217) 3, type := 4, pos := "law.go:206", after := #[{ on := 35, ground := Ground.data }, { on := 36, ground := Ground.data }, { on := 28, ground := Ground.guard }], guard := some (28, false) }
abbrev sx38 : Oper := { dst := some 219, op := Op.pick (Operand.tmp 209) (Operand.const (Value.bool true)) (Operand.tmp 218), type := 4, pos := "law.go:206", after := #[{ on := 28, ground := Ground.data }, { on := 37, ground := Ground.data }], guard := none }
abbrev sx39 : Oper := { dst := some 220, op := Op.move (Operand.tmp 219), type := 4, pos := "law.go:206", after := #[{ on := 38, ground := Ground.data }, { on := 35, ground := Ground.chain }], guard := none }
abbrev sx40 : Oper := { dst := some 221, op := Op.move (Operand.tmp 4), type := 25, pos := "law.go:206", after := #[{ on := 39, ground := Ground.guard }], guard := some (39, false) }
abbrev sx41 : Oper := { dst := some 222, op := Op.call { callee := Callee.value (Operand.func 13), args := #[Operand.tmp 221], argTypes := #[25] }, type := 28, pos := "law.go:206", after := #[{ on := 40, ground := Ground.data }, { on := 39, ground := Ground.chain }, { on := 39, ground := Ground.guard }], guard := some (39, false) }
abbrev sx42 : Oper := { dst := some 223, op := Op.move (Operand.tmp 5), type := 28, pos := "law.go:206", after := #[{ on := 39, ground := Ground.guard }], guard := some (39, false) }
abbrev sx43 : Oper := { dst := some 224, op := Op.move (Operand.tmp 15), type := 3, pos := "law.go:206", after := #[{ on := 39, ground := Ground.guard }], guard := some (39, false) }
abbrev sx44 : Oper := { dst := some 225, op := Op.indexAddr 28 (Operand.tmp 223) (Operand.tmp 224), type := 0, pos := "law.go:206", after := #[{ on := 42, ground := Ground.data }, { on := 43, ground := Ground.data }, { on := 39, ground := Ground.guard }], guard := some (39, false) }
abbrev sx45 : Oper := { dst := some 226, op := Op.fieldAddr 57 (Operand.tmp 225) 0, type := 0, pos := "law.go:206", after := #[{ on := 44, ground := Ground.data }, { on := 39, ground := Ground.guard }], guard := some (39, false) }
abbrev sx46 : Oper := { dst := some 227, op := Op.load 41 (Operand.tmp 226), type := 41, pos := "law.go:206", after := #[{ on := 45, ground := Ground.data }, { on := 39, ground := Ground.guard }], guard := some (39, false) }
abbrev sx47 : Oper := { dst := some 228, op := Op.call { callee := Callee.value (Operand.func 18), args := #[Operand.tmp 222, Operand.tmp 227], argTypes := #[28, 41] }, type := 3, pos := "law.go:206", after := #[{ on := 41, ground := Ground.data }, { on := 46, ground := Ground.data }, { on := 41, ground := Ground.chain }, { on := 39, ground := Ground.guard }], guard := some (39, false) }
abbrev sx48 : Oper := { dst := some 229, op := Op.move (Operand.tmp 16), type := 3, pos := "law.go:206", after := #[{ on := 39, ground := Ground.guard }], guard := some (39, false) }
abbrev sx49 : Oper := { dst := some 230, op := Op.binOp BinOp.neq 3 (Operand.tmp 228) (Operand.tmp 229) 3, type := 4, pos := "law.go:206", after := #[{ on := 47, ground := Ground.data }, { on := 48, ground := Ground.data }, { on := 39, ground := Ground.guard }], guard := some (39, false) }
abbrev sx50 : Oper := { dst := some 231, op := Op.pick (Operand.tmp 220) (Operand.const (Value.bool true)) (Operand.tmp 230), type := 4, pos := "law.go:206", after := #[{ on := 39, ground := Ground.data }, { on := 49, ground := Ground.data }], guard := none }

set_option maxRecDepth 100000 in
set_option maxHeartbeats 16000000 in
theorem r42_false {u0 u1 u2 u3 u6 u7 u8 u9 u10 u11 u12 u13 u14 u21 u22 u23 u24 u25 u26 u27 u28 u29 u30 u31 u32 u33 u34 u35 u36 u37 u38 u39 u40 u41 u42 u43 u44 u45 u46 u47 u48 u49 u50 u51 u52 u53 u54 u55 u56 u57 u58 u59 u60 u61 u62 u63 u64 u65 u66 u67 u68 u69 u70 u71 u72 u73 u74 u75 u76 u77 u78 u79 u80 u81 u82 u83 u84 u85 u86 u87 u88 u89 u90 u91 u92 u93 u94 u95 u96 u97 u98 u99 u100 u101 u102 u103 u104 u105 u106 u107 u108 u109 u110 u111 u112 u113 u114 u115 u116 u117 u118 u119 u120 u121 u122 u123 u124 u125 u126 u127 u128 u129 u130 u131 u132 u133 u134 u135 u136 u137 u138 u139 u140 u141 u142 u143 u144 u145 u146 u147 u148 u149 u150 u151 u152 u153 u154 u155 u156 u157 u158 u159 u160 u161 u162 u163 u164 u165 u166 u167 u168 u169 u170 u171 u172 u173 u174 u175 u176 u177 u178 u179 u180 u181 u182 u183 u184 u185 u186 u187 u188 u189 u190 u191 u192 u193 u194 u195 u196 u197 u198 u199 u200 u201 u202 u203 u204 u205 u206 u207 u208 u209 u210 u211 u212 u213 u214 u215 u216 u217 u218 u219 u220 u221 u222 u223 u224 u225 u226 u227 u228 u229 u230 u231 u232 u233 u234 u235 u236 u237 u238 u239 u240 u241 u242 u243 u244 u245 u246 u247 u248 u249 u250 u251 u252 u253 u254 u255 u256 u257 u258 u259 u260 u261 u262 u263 u264 u265 u266 u267 u268 u269 u270 u271 u272 u273 u274 u275 u276 u277 u278 u279 u280 u281 u282 u283 u284 u285 u286 u287 u288 u289 u290 u291 u292 u293 u294 u295 u296 u297 u298 u299 u300 u301 : Value} {w0 W : World} {B B4 B5 : Nat} {F : Nat → Prop} {p : Nat} {ov : Value} {l : List Wt} {tg tc X kk : Nat} {rv wv : Value} {S4 S5 : List Rc} {t : Wt} (hS : Sd w0 B F p (.slice (some ⟨tg, 0, none⟩) l.length tc) ov l W) (hl1 : l.length ≤ 100000) (hkk : kk < l.length) 
    (hct : ∀ j u, (rcF t.r)[j]? = some u → W.cell? ⟨tg, kk * 11 + j, none⟩ = some u) (htg : tg < W.heap.size) (hX : W.heap[X]? = some (.cells #[.int .u32 t.r.ms, .int .u32 t.r.mg, .int .u32 t.r.ws, .int .u32 t.r.wg, .int .u32 t.r.rs, .int .u32 t.r.rg, .int .i64 t.r.rd, .int .i64 t.r.ar, .int .i64 t.r.vn, .int .u32 t.r.vs, .int .u32 t.r.vg] 57 (0, 0))) (h4 : RcRow W B4 rv S4) (h5 : RcRow W B5 wv S5) (l4 : S4.length ≤ 100000) (l5 : S5.length ≤ 100000) (n4 : hasW S4 t.r.ms t.r.mg = 1) (n5 : hasW S5 t.r.ms t.r.mg = 1) (n6 : hasW (sel isNow l) t.r.ms t.r.mg = 1)
    {K : Act → World → Prop} (hK0 : ∀ (u181 u182 u183 u184 u185 u186 u187 u188 u189 u190 u191 u192 u193 u194 u195 u196 u197 u198 u199 u200 u201 u202 u203 u204 u205 u206 u207 u208 u209 u210 u211 u212 u213 u214 u215 u216 u217 u218 u219 u220 u221 u222 u223 u224 u225 u226 u227 u228 u229 u230 : Value) (W' : World), Ch (fun _ => False) W W' → K { tmps := List.toArray (u0 :: u1 :: u2 :: u3 :: (.pointer (some ⟨p, 0, none⟩)) :: (.slice (some ⟨tg, 0, none⟩) l.length tc) :: u6 :: u7 :: u8 :: u9 :: u10 :: u11 :: u12 :: u13 :: u14 :: (.int .i64 (kk : Int)) :: (.int .i64 1) :: (.pointer (some ⟨X, 0, none⟩)) :: (.int .i64 0) :: (rv) :: (wv) :: u21 :: u22 :: u23 :: u24 :: u25 :: u26 :: u27 :: u28 :: u29 :: u30 :: u31 :: u32 :: u33 :: u34 :: u35 :: u36 :: u37 :: u38 :: u39 :: u40 :: u41 :: u42 :: u43 :: u44 :: u45 :: u46 :: u47 :: u48 :: u49 :: u50 :: u51 :: u52 :: u53 :: u54 :: u55 :: u56 :: u57 :: u58 :: u59 :: u60 :: u61 :: u62 :: u63 :: u64 :: u65 :: u66 :: u67 :: u68 :: u69 :: u70 :: u71 :: u72 :: u73 :: u74 :: u75 :: u76 :: u77 :: u78 :: u79 :: u80 :: u81 :: u82 :: u83 :: u84 :: u85 :: u86 :: u87 :: u88 :: u89 :: u90 :: u91 :: u92 :: u93 :: u94 :: u95 :: u96 :: u97 :: u98 :: u99 :: u100 :: u101 :: u102 :: u103 :: u104 :: u105 :: u106 :: u107 :: u108 :: u109 :: u110 :: u111 :: u112 :: u113 :: u114 :: u115 :: u116 :: u117 :: u118 :: u119 :: u120 :: u121 :: u122 :: u123 :: u124 :: u125 :: u126 :: u127 :: u128 :: u129 :: u130 :: u131 :: u132 :: u133 :: u134 :: u135 :: u136 :: u137 :: u138 :: u139 :: u140 :: u141 :: u142 :: u143 :: u144 :: u145 :: u146 :: u147 :: u148 :: u149 :: u150 :: u151 :: u152 :: u153 :: u154 :: u155 :: u156 :: u157 :: u158 :: u159 :: u160 :: u161 :: u162 :: u163 :: u164 :: u165 :: u166 :: u167 :: u168 :: u169 :: u170 :: u171 :: u172 :: u173 :: u174 :: u175 :: u176 :: u177 :: u178 :: u179 :: u180 :: u181 :: u182 :: u183 :: u184 :: u185 :: u186 :: u187 :: u188 :: u189 :: u190 :: u191 :: u192 :: u193 :: u194 :: u195 :: u196 :: u197 :: u198 :: u199 :: u200 :: u201 :: u202 :: u203 :: u204 :: u205 :: u206 :: u207 :: u208 :: u209 :: u210 :: u211 :: u212 :: u213 :: u214 :: u215 :: u216 :: u217 :: u218 :: u219 :: u220 :: u221 :: u222 :: u223 :: u224 :: u225 :: u226 :: u227 :: u228 :: u229 :: u230 :: (.bool false) :: u232 :: u233 :: u234 :: u235 :: u236 :: u237 :: u238 :: u239 :: u240 :: u241 :: u242 :: u243 :: u244 :: u245 :: u246 :: u247 :: u248 :: u249 :: u250 :: u251 :: u252 :: u253 :: u254 :: u255 :: u256 :: u257 :: u258 :: u259 :: u260 :: u261 :: u262 :: u263 :: u264 :: u265 :: u266 :: u267 :: u268 :: u269 :: u270 :: u271 :: u272 :: u273 :: u274 :: u275 :: u276 :: u277 :: u278 :: u279 :: u280 :: u281 :: u282 :: u283 :: u284 :: u285 :: u286 :: u287 :: u288 :: u289 :: u290 :: u291 :: u292 :: u293 :: u294 :: u295 :: u296 :: u297 :: u298 :: u299 :: u300 :: u301 :: []), defers := [] } W') :
    (Code.region 42 #[sx0, sx1, sx2, sx3, sx4, sx5, sx6, sx7, sx8, sx9, sx10, sx11, sx12, sx13, sx14, sx15, sx16, sx17, sx18, sx19, sx20, sx21, sx22, sx23, sx24, sx25, sx26, sx27, sx28, sx29, sx30, sx31, sx32, sx33, sx34, sx35, sx36, sx37, sx38, sx39, sx40, sx41, sx42, sx43, sx44, sx45, sx46, sx47, sx48, sx49, sx50] true).wp Try.prog (Exit.then K (fun _ _ _ => False)) { tmps := List.toArray (u0 :: u1 :: u2 :: u3 :: (.pointer (some ⟨p, 0, none⟩)) :: (.slice (some ⟨tg, 0, none⟩) l.length tc) :: u6 :: u7 :: u8 :: u9 :: u10 :: u11 :: u12 :: u13 :: u14 :: (.int .i64 (kk : Int)) :: (.int .i64 1) :: (.pointer (some ⟨X, 0, none⟩)) :: (.int .i64 0) :: (rv) :: (wv) :: u21 :: u22 :: u23 :: u24 :: u25 :: u26 :: u27 :: u28 :: u29 :: u30 :: u31 :: u32 :: u33 :: u34 :: u35 :: u36 :: u37 :: u38 :: u39 :: u40 :: u41 :: u42 :: u43 :: u44 :: u45 :: u46 :: u47 :: u48 :: u49 :: u50 :: u51 :: u52 :: u53 :: u54 :: u55 :: u56 :: u57 :: u58 :: u59 :: u60 :: u61 :: u62 :: u63 :: u64 :: u65 :: u66 :: u67 :: u68 :: u69 :: u70 :: u71 :: u72 :: u73 :: u74 :: u75 :: u76 :: u77 :: u78 :: u79 :: u80 :: u81 :: u82 :: u83 :: u84 :: u85 :: u86 :: u87 :: u88 :: u89 :: u90 :: u91 :: u92 :: u93 :: u94 :: u95 :: u96 :: u97 :: u98 :: u99 :: u100 :: u101 :: u102 :: u103 :: u104 :: u105 :: u106 :: u107 :: u108 :: u109 :: u110 :: u111 :: u112 :: u113 :: u114 :: u115 :: u116 :: u117 :: u118 :: u119 :: u120 :: u121 :: u122 :: u123 :: u124 :: u125 :: u126 :: u127 :: u128 :: u129 :: u130 :: u131 :: u132 :: u133 :: u134 :: u135 :: u136 :: u137 :: u138 :: u139 :: u140 :: u141 :: u142 :: u143 :: u144 :: u145 :: u146 :: u147 :: u148 :: u149 :: u150 :: u151 :: u152 :: u153 :: u154 :: u155 :: u156 :: u157 :: u158 :: u159 :: u160 :: u161 :: u162 :: u163 :: u164 :: u165 :: u166 :: u167 :: u168 :: u169 :: u170 :: u171 :: u172 :: u173 :: u174 :: u175 :: u176 :: u177 :: u178 :: u179 :: u180 :: u181 :: u182 :: u183 :: u184 :: u185 :: u186 :: u187 :: u188 :: u189 :: u190 :: u191 :: u192 :: u193 :: u194 :: u195 :: u196 :: u197 :: u198 :: u199 :: u200 :: u201 :: u202 :: u203 :: u204 :: u205 :: u206 :: u207 :: u208 :: u209 :: u210 :: u211 :: u212 :: u213 :: u214 :: u215 :: u216 :: u217 :: u218 :: u219 :: u220 :: u221 :: u222 :: u223 :: u224 :: u225 :: u226 :: u227 :: u228 :: u229 :: u230 :: u231 :: u232 :: u233 :: u234 :: u235 :: u236 :: u237 :: u238 :: u239 :: u240 :: u241 :: u242 :: u243 :: u244 :: u245 :: u246 :: u247 :: u248 :: u249 :: u250 :: u251 :: u252 :: u253 :: u254 :: u255 :: u256 :: u257 :: u258 :: u259 :: u260 :: u261 :: u262 :: u263 :: u264 :: u265 :: u266 :: u267 :: u268 :: u269 :: u270 :: u271 :: u272 :: u273 :: u274 :: u275 :: u276 :: u277 :: u278 :: u279 :: u280 :: u281 :: u282 :: u283 :: u284 :: u285 :: u286 :: u287 :: u288 :: u289 :: u290 :: u291 :: u292 :: u293 :: u294 :: u295 :: u296 :: u297 :: u298 :: u299 :: u300 :: u301 :: []), defers := [] } W := by
  have HK := hide hK0
  have HCT := hide hct
  have HSD := hide hS
  have H4 := hide h4
  have H5 := hide h5
  have HX := hide hX
  clear hX
  obtain ⟨ra, rc, e4, -, -⟩ := h4.form
  obtain ⟨wa, wc, e5, -, -⟩ := h5.form
  have hq0 : (kk : Int) < (l.length : Int) := by omega
  clear hK0 hct hS h4 h5
  subst e4 e5
  refine wp_reg (fun _ => False) (R := fun V => Ch (fun _ => False) W V) (by kernel_rfl) (Ch.drew _) ?_
  rintro V hv zk
  have HV := hide hv
  clear hv
  have HG := hide (fun wq (zq : Ch (fun _ => False) V wq) (j : Nat) (u : Value) (hu : (rcF t.r)[j]? = some u) => ((HV.out.trans zq (fun _ _ h => h)).cell htg (fun h => h) (kk * 11 + j)).trans (HCT.out j u hu))
  apply tk 0 sx0 rfl (by kernel_rfl) (fun _ _ _ h => h) zk
  · intro wq zq
    go_simp
    try rfl
  go_frame
  apply tk 1 sx1 rfl (by kernel_rfl) (fun _ _ _ h => h) zk
  · intro wq zq
    go_simp
    try rfl
  go_frame
  apply tk 2 sx2 rfl (by kernel_rfl) (fun _ _ _ h => h) zk
  · intro wq zq
    go_simp
    try rfl
  go_frame
  apply tk 3 sx3 rfl (by kernel_rfl) (fun _ _ _ h => h) zk
  · intro wq zq
    go_simp
    try rfl
  go_frame
  apply tk 4 sx4 rfl (by kernel_rfl) (fun _ _ _ h => h) zk
  · intro wq zq
    go_simp
    try rfl
  go_frame
  apply tk 5 sx5 rfl (by kernel_rfl) (fun _ _ _ h => h) zk
  · intro wq zq
    go_simp
    try rfl
  go_frame
  apply tk 6 sx6 rfl (by kernel_rfl) (fun _ _ _ h => h) zk
  · intro wq zq
    go_simp
    try rfl
  go_frame
  apply tk 7 sx7 rfl (by kernel_rfl) (fun _ _ _ h => h) zk
  · intro wq zq
    go_simp
    try rfl
  go_frame
  apply tk 8 sx8 rfl (by kernel_rfl) (fun _ _ _ h => h) zk
  · intro wq zq
    go_simp
    try rfl
  go_frame
  apply tk 9 sx9 rfl (by kernel_rfl) (fun _ _ _ h => h) zk
  · intro wq zq
    have hx := Lib.cell_of_heap ((HV.out.trans zq (fun _ _ h => h)).box HX.out (fun h => h))
    have x0 : wq.cell? ⟨X, 0, none⟩ = some (.int .u32 t.r.ms) := by simp [hx]
    have x1 : wq.cell? ⟨X, 1, none⟩ = some (.int .u32 t.r.mg) := by simp [hx]
    have x2 : wq.cell? ⟨X, 2, none⟩ = some (.int .u32 t.r.ws) := by simp [hx]
    have x3 : wq.cell? ⟨X, 3, none⟩ = some (.int .u32 t.r.wg) := by simp [hx]
    have x4 : wq.cell? ⟨X, 4, none⟩ = some (.int .u32 t.r.rs) := by simp [hx]
    have x5 : wq.cell? ⟨X, 5, none⟩ = some (.int .u32 t.r.rg) := by simp [hx]
    have x6 : wq.cell? ⟨X, 6, none⟩ = some (.int .i64 t.r.rd) := by simp [hx]
    have x7 : wq.cell? ⟨X, 7, none⟩ = some (.int .i64 t.r.ar) := by simp [hx]
    have x8 : wq.cell? ⟨X, 8, none⟩ = some (.int .i64 t.r.vn) := by simp [hx]
    have x9 : wq.cell? ⟨X, 9, none⟩ = some (.int .u32 t.r.vs) := by simp [hx]
    have x10 : wq.cell? ⟨X, 10, none⟩ = some (.int .u32 t.r.vg) := by simp [hx]
    clear hx
    go_simp
    try rfl
  go_frame
  apply tk 10 sx10 rfl (by kernel_rfl) (fun _ _ _ h => h) zk
  · intro wq zq
    go_simp
    try rfl
  go_frame
  apply tk 11 sx11 rfl (by kernel_rfl) (fun _ _ _ h => h) zk
  · intro wq zq
    go_simp
    try rfl
  go_frame
  apply tk 12 sx12 rfl (by kernel_rfl) (fun _ _ _ h => h) zk
  · intro wq zq
    go_simp
    try rfl
  go_frame
  apply tk 13 sx13 rfl (by kernel_rfl) (fun _ _ _ h => h) zk
  · intro wq zq
    have s0 : wq.cell? ⟨tg, kk * 11, none⟩ = _ := HG.out _ zq 0 (.int .u32 t.r.ms) rfl
    have s1 := HG.out _ zq 1 (.int .u32 t.r.mg) rfl
    have s2 := HG.out _ zq 2 (.int .u32 t.r.ws) rfl
    have s3 := HG.out _ zq 3 (.int .u32 t.r.wg) rfl
    have s4 := HG.out _ zq 4 (.int .u32 t.r.rs) rfl
    have s5 := HG.out _ zq 5 (.int .u32 t.r.rg) rfl
    have s6 := HG.out _ zq 6 (.int .i64 t.r.rd) rfl
    have s7 := HG.out _ zq 7 (.int .i64 t.r.ar) rfl
    have s8 := HG.out _ zq 8 (.int .i64 t.r.vn) rfl
    have s9 := HG.out _ zq 9 (.int .u32 t.r.vs) rfl
    have s10 := HG.out _ zq 10 (.int .u32 t.r.vg) rfl
    go_simp
    try rfl
  go_frame
  apply tk 14 sx14 rfl (by kernel_rfl) (fun _ _ _ h => h) zk
  · intro wq zq
    go_simp
    try rfl
  go_frame
  apply tk 15 sx15 rfl (by kernel_rfl) (fun _ _ _ h => h) zk
  · intro wq zq
    go_simp
    try rfl
  go_frame
  apply tk 16 sx16 rfl (by kernel_rfl) (fun _ _ _ h => h) zk
  · intro wq zq
    go_simp
    try rfl
  go_frame
  apply tk 17 sx17 rfl (by kernel_rfl) (fun _ _ _ h => h) zk
  · intro wq zq
    go_simp
    try rfl
  go_frame
  apply tk 18 sx18 rfl (by kernel_rfl) (fun _ _ _ h => h) zk
  · intro wq zq
    go_simp
    try rfl
  go_frame
  apply tk 19 sx19 rfl (by kernel_rfl) (fun _ _ _ h => h) zk
  · intro wq zq
    go_simp
    try rfl
  go_frame
  apply tk 20 sx20 rfl (by kernel_rfl) (fun _ _ _ h => h) zk
  · intro wq zq
    go_simp
    try rfl
  go_frame
  apply tk 21 sx21 rfl (by kernel_rfl) (fun _ _ _ h => h) zk
  · intro wq zq
    go_simp
    try rfl
  go_frame
  apply tk 22 sx22 rfl (by kernel_rfl) (fun _ _ _ h => h) zk
  · intro wq zq
    go_simp
    try rfl
  go_frame
  apply tk 23 sx23 rfl (by kernel_rfl) (fun _ _ _ h => h) zk
  · intro wq zq
    have s0 : wq.cell? ⟨tg, kk * 11, none⟩ = _ := HG.out _ zq 0 (.int .u32 t.r.ms) rfl
    have s1 := HG.out _ zq 1 (.int .u32 t.r.mg) rfl
    go_simp
    try rfl
  go_frame
  apply tk 25 sx25 rfl (by kernel_rfl) (fun _ _ _ h => h) zk
  · intro wq zq
    go_simp
    try rfl
  go_frame
  refine rd 24 sx24 rfl (by kernel_rfl) fun K hK => ?_
  go_simp
  refine (has_is (H4.out.ch HV.out (fun _ _ h => h)) l4 t.r.ms t.r.mg).mono ?_
  rintro e V1 ⟨rfl, b6⟩
  have HC_V1 := hide (Ch.of_below (Q := fun _ => False) b6)
  clear b6
  rw [n4]
  go_wp2_with fail
  refine hK.out _ _ ?_ (fun zk => ?_)
  · exact HC_V1.out
  clear hK K
  try go_frame
  apply tk 26 sx26 rfl (by kernel_rfl) (fun _ _ _ h => h) zk
  · intro wq zq
    go_simp
    try rfl
  go_frame
  apply tk 27 sx27 rfl (by kernel_rfl) (fun _ _ _ h => h) zk
  · intro wq zq
    go_simp
    try rfl
  go_frame
  apply tk 28 sx28 rfl (by kernel_rfl) (fun _ _ _ h => h) zk
  · intro wq zq
    go_simp
    try rfl
  go_frame
  apply tk 29 sx29 rfl (by kernel_rfl) (fun _ _ _ h => h) zk
  · intro wq zq
    go_simp
    try rfl
  go_frame
  apply tk 30 sx30 rfl (by kernel_rfl) (fun _ _ _ h => h) zk
  · intro wq zq
    go_simp
    try rfl
  go_frame
  apply tk 31 sx31 rfl (by kernel_rfl) (fun _ _ _ h => h) zk
  · intro wq zq
    go_simp
    try rfl
  go_frame
  apply tk 32 sx32 rfl (by kernel_rfl) (fun _ _ _ h => h) zk
  · intro wq zq
    go_simp
    try rfl
  go_frame
  apply tk 33 sx33 rfl (by kernel_rfl) (fun _ _ _ h => h) zk
  · intro wq zq
    go_simp
    try rfl
  go_frame
  apply tk 34 sx34 rfl (by kernel_rfl) (fun _ _ _ h => h) zk
  · intro wq zq
    have s0 : wq.cell? ⟨tg, kk * 11, none⟩ = _ := HG.out _ zq 0 (.int .u32 t.r.ms) rfl
    have s1 := HG.out _ zq 1 (.int .u32 t.r.mg) rfl
    go_simp
    try rfl
  go_frame
  apply tk 36 sx36 rfl (by kernel_rfl) (fun _ _ _ h => h) zk
  · intro wq zq
    go_simp
    try rfl
  go_frame
  refine rd 35 sx35 rfl (by kernel_rfl) fun K hK => ?_
  go_simp
  refine (has_is (H5.out.ch (HV.out.trans HC_V1.out (fun _ _ h => h)) (fun _ _ h => h)) l5 t.r.ms t.r.mg).mono ?_
  rintro e V2 ⟨rfl, b6⟩
  have HC_V2 := hide (HC_V1.out.trans (Ch.of_below (Q := fun _ => False) b6) (fun _ _ h => h))
  clear b6
  rw [n5]
  go_wp2_with fail
  refine hK.out _ _ ?_ (fun zk => ?_)
  · exact HC_V2.out
  clear hK K
  try go_frame
  apply tk 37 sx37 rfl (by kernel_rfl) (fun _ _ _ h => h) zk
  · intro wq zq
    go_simp
    try rfl
  go_frame
  apply tk 38 sx38 rfl (by kernel_rfl) (fun _ _ _ h => h) zk
  · intro wq zq
    go_simp
    try rfl
  go_frame
  apply tk 39 sx39 rfl (by kernel_rfl) (fun _ _ _ h => h) zk
  · intro wq zq
    go_simp
    try rfl
  go_frame
  apply tk 40 sx40 rfl (by kernel_rfl) (fun _ _ _ h => h) zk
  · intro wq zq
    go_simp
    try rfl
  go_frame
  apply tk 42 sx42 rfl (by kernel_rfl) (fun _ _ _ h => h) zk
  · intro wq zq
    go_simp
    try rfl
  go_frame
  apply tk 43 sx43 rfl (by kernel_rfl) (fun _ _ _ h => h) zk
  · intro wq zq
    go_simp
    try rfl
  go_frame
  apply tk 44 sx44 rfl (by kernel_rfl) (fun _ _ _ h => h) zk
  · intro wq zq
    go_simp
    try rfl
  go_frame
  apply tk 45 sx45 rfl (by kernel_rfl) (fun _ _ _ h => h) zk
  · intro wq zq
    go_simp
    try rfl
  go_frame
  apply tk 46 sx46 rfl (by kernel_rfl) (fun _ _ _ h => h) zk
  · intro wq zq
    have s0 : wq.cell? ⟨tg, kk * 11, none⟩ = _ := HG.out _ zq 0 (.int .u32 t.r.ms) rfl
    have s1 := HG.out _ zq 1 (.int .u32 t.r.mg) rfl
    go_simp
    try rfl
  go_frame
  apply tk 48 sx48 rfl (by kernel_rfl) (fun _ _ _ h => h) zk
  · intro wq zq
    go_simp
    try rfl
  go_frame
  have hall := face.all (HSD.out.quiet (HV.out.trans HC_V2.out (fun _ _ h => h))).bk hl1
  refine rd 41 sx41 rfl (by kernel_rfl) fun K hK => ?_
  go_simp
  refine (hall).mono ?_
  rintro e V3 ⟨av, rfl, h6, b6⟩
  have HC_V3 := hide (HC_V2.out.trans (Ch.of_below (Q := fun _ => False) b6) (fun _ _ h => h))
  have H6 := hide h6
  obtain ⟨aa, ac, e6, -, -⟩ := h6.form
  subst e6
  clear b6 h6
  go_wp2_with fail
  refine hK.out _ _ ?_ (fun zk => ?_)
  · exact HC_V3.out
  clear hK K
  try go_frame
  refine rd 47 sx47 rfl (by kernel_rfl) fun K hK => ?_
  go_simp
  refine (has_is H6.out (Nat.le_trans (sel_le _ _) hl1) t.r.ms t.r.mg).mono ?_
  rintro e V4 ⟨rfl, b6⟩
  have HC_V4 := hide (HC_V3.out.trans (Ch.of_below (Q := fun _ => False) b6) (fun _ _ h => h))
  clear b6
  rw [n6]
  go_wp2_with fail
  refine hK.out _ _ ?_ (fun zk => ?_)
  · exact HC_V4.out
  clear hK K
  try go_frame
  apply tk 49 sx49 rfl (by kernel_rfl) (fun _ _ _ h => h) zk
  · intro wq zq
    go_simp
    try rfl
  go_frame
  apply tk 50 sx50 rfl (by kernel_rfl) (fun _ _ _ h => h) zk
  · intro wq zq
    go_simp
    try rfl
  go_frame
  refine wpAnyH_done (by kernel_rfl) ?_ _
  exact HK.out _ _ _ _ _ _ _ _ _ _ _ _ _ _ _ _ _ _ _ _ _ _ _ _ _ _ _ _ _ _ _ _ _ _ _ _ _ _ _ _ _ _ _ _ _ _ _ _ _ _ _ (HV.out.trans HC_V4.out (fun _ _ h => h))

set_option maxRecDepth 100000 in
set_option maxHeartbeats 16000000 in
theorem r42_true {u0 u1 u2 u3 u6 u7 u8 u9 u10 u11 u12 u13 u14 u21 u22 u23 u24 u25 u26 u27 u28 u29 u30 u31 u32 u33 u34 u35 u36 u37 u38 u39 u40 u41 u42 u43 u44 u45 u46 u47 u48 u49 u50 u51 u52 u53 u54 u55 u56 u57 u58 u59 u60 u61 u62 u63 u64 u65 u66 u67 u68 u69 u70 u71 u72 u73 u74 u75 u76 u77 u78 u79 u80 u81 u82 u83 u84 u85 u86 u87 u88 u89 u90 u91 u92 u93 u94 u95 u96 u97 u98 u99 u100 u101 u102 u103 u104 u105 u106 u107 u108 u109 u110 u111 u112 u113 u114 u115 u116 u117 u118 u119 u120 u121 u122 u123 u124 u125 u126 u127 u128 u129 u130 u131 u132 u133 u134 u135 u136 u137 u138 u139 u140 u141 u142 u143 u144 u145 u146 u147 u148 u149 u150 u151 u152 u153 u154 u155 u156 u157 u158 u159 u160 u161 u162 u163 u164 u165 u166 u167 u168 u169 u170 u171 u172 u173 u174 u175 u176 u177 u178 u179 u180 u181 u182 u183 u184 u185 u186 u187 u188 u189 u190 u191 u192 u193 u194 u195 u196 u197 u198 u199 u200 u201 u202 u203 u204 u205 u206 u207 u208 u209 u210 u211 u212 u213 u214 u215 u216 u217 u218 u219 u220 u221 u222 u223 u224 u225 u226 u227 u228 u229 u230 u231 u232 u233 u234 u235 u236 u237 u238 u239 u240 u241 u242 u243 u244 u245 u246 u247 u248 u249 u250 u251 u252 u253 u254 u255 u256 u257 u258 u259 u260 u261 u262 u263 u264 u265 u266 u267 u268 u269 u270 u271 u272 u273 u274 u275 u276 u277 u278 u279 u280 u281 u282 u283 u284 u285 u286 u287 u288 u289 u290 u291 u292 u293 u294 u295 u296 u297 u298 u299 u300 u301 : Value} {w0 W : World} {B B4 B5 : Nat} {F : Nat → Prop} {p : Nat} {ov : Value} {l : List Wt} {tg tc X kk : Nat} {rv wv : Value} {S4 S5 : List Rc} {t : Wt} (hS : Sd w0 B F p (.slice (some ⟨tg, 0, none⟩) l.length tc) ov l W) (hl1 : l.length ≤ 100000) (hkk : kk < l.length) 
    (hct : ∀ j u, (rcF t.r)[j]? = some u → W.cell? ⟨tg, kk * 11 + j, none⟩ = some u) (htg : tg < W.heap.size) (h4 : RcRow W B4 rv S4) (h5 : RcRow W B5 wv S5) (l4 : S4.length ≤ 100000) (l5 : S5.length ≤ 100000) (n4 : hasW S4 t.r.ms t.r.mg = 0) (n5 : hasW S5 t.r.ms t.r.mg = 0) (n6 : hasW (sel isNow l) t.r.ms t.r.mg = 0)
    {K : Act → World → Prop} (hK0 : ∀ (u181 u182 u183 u184 u185 u186 u187 u188 u189 u190 u191 u192 u193 u194 u195 u196 u197 u198 u199 u200 u201 u202 u203 u204 u205 u206 u207 u208 u209 u210 u211 u212 u213 u214 u215 u216 u217 u218 u219 u220 u221 u222 u223 u224 u225 u226 u227 u228 u229 u230 : Value) (W' : World), Ch (fun _ => False) W W' → K { tmps := List.toArray (u0 :: u1 :: u2 :: u3 :: (.pointer (some ⟨p, 0, none⟩)) :: (.slice (some ⟨tg, 0, none⟩) l.length tc) :: u6 :: u7 :: u8 :: u9 :: u10 :: u11 :: u12 :: u13 :: u14 :: (.int .i64 (kk : Int)) :: (.int .i64 0) :: (.pointer (some ⟨X, 0, none⟩)) :: (.int .i64 111) :: (rv) :: (wv) :: u21 :: u22 :: u23 :: u24 :: u25 :: u26 :: u27 :: u28 :: u29 :: u30 :: u31 :: u32 :: u33 :: u34 :: u35 :: u36 :: u37 :: u38 :: u39 :: u40 :: u41 :: u42 :: u43 :: u44 :: u45 :: u46 :: u47 :: u48 :: u49 :: u50 :: u51 :: u52 :: u53 :: u54 :: u55 :: u56 :: u57 :: u58 :: u59 :: u60 :: u61 :: u62 :: u63 :: u64 :: u65 :: u66 :: u67 :: u68 :: u69 :: u70 :: u71 :: u72 :: u73 :: u74 :: u75 :: u76 :: u77 :: u78 :: u79 :: u80 :: u81 :: u82 :: u83 :: u84 :: u85 :: u86 :: u87 :: u88 :: u89 :: u90 :: u91 :: u92 :: u93 :: u94 :: u95 :: u96 :: u97 :: u98 :: u99 :: u100 :: u101 :: u102 :: u103 :: u104 :: u105 :: u106 :: u107 :: u108 :: u109 :: u110 :: u111 :: u112 :: u113 :: u114 :: u115 :: u116 :: u117 :: u118 :: u119 :: u120 :: u121 :: u122 :: u123 :: u124 :: u125 :: u126 :: u127 :: u128 :: u129 :: u130 :: u131 :: u132 :: u133 :: u134 :: u135 :: u136 :: u137 :: u138 :: u139 :: u140 :: u141 :: u142 :: u143 :: u144 :: u145 :: u146 :: u147 :: u148 :: u149 :: u150 :: u151 :: u152 :: u153 :: u154 :: u155 :: u156 :: u157 :: u158 :: u159 :: u160 :: u161 :: u162 :: u163 :: u164 :: u165 :: u166 :: u167 :: u168 :: u169 :: u170 :: u171 :: u172 :: u173 :: u174 :: u175 :: u176 :: u177 :: u178 :: u179 :: u180 :: u181 :: u182 :: u183 :: u184 :: u185 :: u186 :: u187 :: u188 :: u189 :: u190 :: u191 :: u192 :: u193 :: u194 :: u195 :: u196 :: u197 :: u198 :: u199 :: u200 :: u201 :: u202 :: u203 :: u204 :: u205 :: u206 :: u207 :: u208 :: u209 :: u210 :: u211 :: u212 :: u213 :: u214 :: u215 :: u216 :: u217 :: u218 :: u219 :: u220 :: u221 :: u222 :: u223 :: u224 :: u225 :: u226 :: u227 :: u228 :: u229 :: u230 :: (.bool false) :: u232 :: u233 :: u234 :: u235 :: u236 :: u237 :: u238 :: u239 :: u240 :: u241 :: u242 :: u243 :: u244 :: u245 :: u246 :: u247 :: u248 :: u249 :: u250 :: u251 :: u252 :: u253 :: u254 :: u255 :: u256 :: u257 :: u258 :: u259 :: u260 :: u261 :: u262 :: u263 :: u264 :: u265 :: u266 :: u267 :: u268 :: u269 :: u270 :: u271 :: u272 :: u273 :: u274 :: u275 :: u276 :: u277 :: u278 :: u279 :: u280 :: u281 :: u282 :: u283 :: u284 :: u285 :: u286 :: u287 :: u288 :: u289 :: u290 :: u291 :: u292 :: u293 :: u294 :: u295 :: u296 :: u297 :: u298 :: u299 :: u300 :: u301 :: []), defers := [] } W') :
    (Code.region 42 #[sx0, sx1, sx2, sx3, sx4, sx5, sx6, sx7, sx8, sx9, sx10, sx11, sx12, sx13, sx14, sx15, sx16, sx17, sx18, sx19, sx20, sx21, sx22, sx23, sx24, sx25, sx26, sx27, sx28, sx29, sx30, sx31, sx32, sx33, sx34, sx35, sx36, sx37, sx38, sx39, sx40, sx41, sx42, sx43, sx44, sx45, sx46, sx47, sx48, sx49, sx50] true).wp Try.prog (Exit.then K (fun _ _ _ => False)) { tmps := List.toArray (u0 :: u1 :: u2 :: u3 :: (.pointer (some ⟨p, 0, none⟩)) :: (.slice (some ⟨tg, 0, none⟩) l.length tc) :: u6 :: u7 :: u8 :: u9 :: u10 :: u11 :: u12 :: u13 :: u14 :: (.int .i64 (kk : Int)) :: (.int .i64 0) :: (.pointer (some ⟨X, 0, none⟩)) :: (.int .i64 111) :: (rv) :: (wv) :: u21 :: u22 :: u23 :: u24 :: u25 :: u26 :: u27 :: u28 :: u29 :: u30 :: u31 :: u32 :: u33 :: u34 :: u35 :: u36 :: u37 :: u38 :: u39 :: u40 :: u41 :: u42 :: u43 :: u44 :: u45 :: u46 :: u47 :: u48 :: u49 :: u50 :: u51 :: u52 :: u53 :: u54 :: u55 :: u56 :: u57 :: u58 :: u59 :: u60 :: u61 :: u62 :: u63 :: u64 :: u65 :: u66 :: u67 :: u68 :: u69 :: u70 :: u71 :: u72 :: u73 :: u74 :: u75 :: u76 :: u77 :: u78 :: u79 :: u80 :: u81 :: u82 :: u83 :: u84 :: u85 :: u86 :: u87 :: u88 :: u89 :: u90 :: u91 :: u92 :: u93 :: u94 :: u95 :: u96 :: u97 :: u98 :: u99 :: u100 :: u101 :: u102 :: u103 :: u104 :: u105 :: u106 :: u107 :: u108 :: u109 :: u110 :: u111 :: u112 :: u113 :: u114 :: u115 :: u116 :: u117 :: u118 :: u119 :: u120 :: u121 :: u122 :: u123 :: u124 :: u125 :: u126 :: u127 :: u128 :: u129 :: u130 :: u131 :: u132 :: u133 :: u134 :: u135 :: u136 :: u137 :: u138 :: u139 :: u140 :: u141 :: u142 :: u143 :: u144 :: u145 :: u146 :: u147 :: u148 :: u149 :: u150 :: u151 :: u152 :: u153 :: u154 :: u155 :: u156 :: u157 :: u158 :: u159 :: u160 :: u161 :: u162 :: u163 :: u164 :: u165 :: u166 :: u167 :: u168 :: u169 :: u170 :: u171 :: u172 :: u173 :: u174 :: u175 :: u176 :: u177 :: u178 :: u179 :: u180 :: u181 :: u182 :: u183 :: u184 :: u185 :: u186 :: u187 :: u188 :: u189 :: u190 :: u191 :: u192 :: u193 :: u194 :: u195 :: u196 :: u197 :: u198 :: u199 :: u200 :: u201 :: u202 :: u203 :: u204 :: u205 :: u206 :: u207 :: u208 :: u209 :: u210 :: u211 :: u212 :: u213 :: u214 :: u215 :: u216 :: u217 :: u218 :: u219 :: u220 :: u221 :: u222 :: u223 :: u224 :: u225 :: u226 :: u227 :: u228 :: u229 :: u230 :: u231 :: u232 :: u233 :: u234 :: u235 :: u236 :: u237 :: u238 :: u239 :: u240 :: u241 :: u242 :: u243 :: u244 :: u245 :: u246 :: u247 :: u248 :: u249 :: u250 :: u251 :: u252 :: u253 :: u254 :: u255 :: u256 :: u257 :: u258 :: u259 :: u260 :: u261 :: u262 :: u263 :: u264 :: u265 :: u266 :: u267 :: u268 :: u269 :: u270 :: u271 :: u272 :: u273 :: u274 :: u275 :: u276 :: u277 :: u278 :: u279 :: u280 :: u281 :: u282 :: u283 :: u284 :: u285 :: u286 :: u287 :: u288 :: u289 :: u290 :: u291 :: u292 :: u293 :: u294 :: u295 :: u296 :: u297 :: u298 :: u299 :: u300 :: u301 :: []), defers := [] } W := by
  have HK := hide hK0
  have HCT := hide hct
  have HSD := hide hS
  have H4 := hide h4
  have H5 := hide h5
  obtain ⟨ra, rc, e4, -, -⟩ := h4.form
  obtain ⟨wa, wc, e5, -, -⟩ := h5.form
  have hq0 : (kk : Int) < (l.length : Int) := by omega
  clear hK0 hct hS h4 h5
  subst e4 e5
  refine wp_reg (fun _ => False) (R := fun V => Ch (fun _ => False) W V) (by kernel_rfl) (Ch.drew _) ?_
  rintro V hv zk
  have HV := hide hv
  clear hv
  have HG := hide (fun wq (zq : Ch (fun _ => False) V wq) (j : Nat) (u : Value) (hu : (rcF t.r)[j]? = some u) => ((HV.out.trans zq (fun _ _ h => h)).cell htg (fun h => h) (kk * 11 + j)).trans (HCT.out j u hu))
  apply tk 0 sx0 rfl (by kernel_rfl) (fun _ _ _ h => h) zk
  · intro wq zq
    go_simp
    try rfl
  go_frame
  apply tk 1 sx1 rfl (by kernel_rfl) (fun _ _ _ h => h) zk
  · intro wq zq
    go_simp
    try rfl
  go_frame
  apply tk 2 sx2 rfl (by kernel_rfl) (fun _ _ _ h => h) zk
  · intro wq zq
    go_simp
    try rfl
  go_frame
  apply tk 3 sx3 rfl (by kernel_rfl) (fun _ _ _ h => h) zk
  · intro wq zq
    go_simp
    try rfl
  go_frame
  apply tk 4 sx4 rfl (by kernel_rfl) (fun _ _ _ h => h) zk
  · intro wq zq
    go_simp
    try rfl
  go_frame
  apply tk 5 sx5 rfl (by kernel_rfl) (fun _ _ _ h => h) zk
  · intro wq zq
    go_simp
    try rfl
  go_frame
  apply tk 6 sx6 rfl (by kernel_rfl) (fun _ _ _ h => h) zk
  · intro wq zq
    go_simp
    try rfl
  go_frame
  apply tk 7 sx7 rfl (by kernel_rfl) (fun _ _ _ h => h) zk
  · intro wq zq
    go_simp
    try rfl
  go_frame
  apply tk 8 sx8 rfl (by kernel_rfl) (fun _ _ _ h => h) zk
  · intro wq zq
    go_simp
    try rfl
  go_frame
  apply sk 9 sx9 rfl (by kernel_rfl) (fun _ _ _ h => h) zk
  go_frame
  apply sk 10 sx10 rfl (by kernel_rfl) (fun _ _ _ h => h) zk
  go_frame
  apply sk 11 sx11 rfl (by kernel_rfl) (fun _ _ _ h => h) zk
  go_frame
  apply sk 12 sx12 rfl (by kernel_rfl) (fun _ _ _ h => h) zk
  go_frame
  apply sk 13 sx13 rfl (by kernel_rfl) (fun _ _ _ h => h) zk
  go_frame
  apply sk 14 sx14 rfl (by kernel_rfl) (fun _ _ _ h => h) zk
  go_frame
  apply tk 15 sx15 rfl (by kernel_rfl) (fun _ _ _ h => h) zk
  · intro wq zq
    go_simp
    try rfl
  go_frame
  apply tk 16 sx16 rfl (by kernel_rfl) (fun _ _ _ h => h) zk
  · intro wq zq
    go_simp
    try rfl
  go_frame
  apply tk 17 sx17 rfl (by kernel_rfl) (fun _ _ _ h => h) zk
  · intro wq zq
    go_simp
    try rfl
  go_frame
  apply tk 18 sx18 rfl (by kernel_rfl) (fun _ _ _ h => h) zk
  · intro wq zq
    go_simp
    try rfl
  go_frame
  apply tk 19 sx19 rfl (by kernel_rfl) (fun _ _ _ h => h) zk
  · intro wq zq
    go_simp
    try rfl
  go_frame
  apply tk 20 sx20 rfl (by kernel_rfl) (fun _ _ _ h => h) zk
  · intro wq zq
    go_simp
    try rfl
  go_frame
  apply tk 21 sx21 rfl (by kernel_rfl) (fun _ _ _ h => h) zk
  · intro wq zq
    go_simp
    try rfl
  go_frame
  apply tk 22 sx22 rfl (by kernel_rfl) (fun _ _ _ h => h) zk
  · intro wq zq
    go_simp
    try rfl
  go_frame
  apply tk 23 sx23 rfl (by kernel_rfl) (fun _ _ _ h => h) zk
  · intro wq zq
    have s0 : wq.cell? ⟨tg, kk * 11, none⟩ = _ := HG.out _ zq 0 (.int .u32 t.r.ms) rfl
    have s1 := HG.out _ zq 1 (.int .u32 t.r.mg) rfl
    go_simp
    try rfl
  go_frame
  apply tk 25 sx25 rfl (by kernel_rfl) (fun _ _ _ h => h) zk
  · intro wq zq
    go_simp
    try rfl
  go_frame
  refine rd 24 sx24 rfl (by kernel_rfl) fun K hK => ?_
  go_simp
  refine (has_is (H4.out.ch HV.out (fun _ _ h => h)) l4 t.r.ms t.r.mg).mono ?_
  rintro e V1 ⟨rfl, b6⟩
  have HC_V1 := hide (Ch.of_below (Q := fun _ => False) b6)
  clear b6
  rw [n4]
  go_wp2_with fail
  refine hK.out _ _ ?_ (fun zk => ?_)
  · exact HC_V1.out
  clear hK K
  try go_frame
  apply tk 26 sx26 rfl (by kernel_rfl) (fun _ _ _ h => h) zk
  · intro wq zq
    go_simp
    try rfl
  go_frame
  apply tk 27 sx27 rfl (by kernel_rfl) (fun _ _ _ h => h) zk
  · intro wq zq
    go_simp
    try rfl
  go_frame
  apply tk 28 sx28 rfl (by kernel_rfl) (fun _ _ _ h => h) zk
  · intro wq zq
    go_simp
    try rfl
  go_frame
  apply tk 29 sx29 rfl (by kernel_rfl) (fun _ _ _ h => h) zk
  · intro wq zq
    go_simp
    try rfl
  go_frame
  apply tk 30 sx30 rfl (by kernel_rfl) (fun _ _ _ h => h) zk
  · intro wq zq
    go_simp
    try rfl
  go_frame
  apply tk 31 sx31 rfl (by kernel_rfl) (fun _ _ _ h => h) zk
  · intro wq zq
    go_simp
    try rfl
  go_frame
  apply tk 32 sx32 rfl (by kernel_rfl) (fun _ _ _ h => h) zk
  · intro wq zq
    go_simp
    try rfl
  go_frame
  apply tk 33 sx33 rfl (by kernel_rfl) (fun _ _ _ h => h) zk
  · intro wq zq
    go_simp
    try rfl
  go_frame
  apply tk 34 sx34 rfl (by kernel_rfl) (fun _ _ _ h => h) zk
  · intro wq zq
    have s0 : wq.cell? ⟨tg, kk * 11, none⟩ = _ := HG.out _ zq 0 (.int .u32 t.r.ms) rfl
    have s1 := HG.out _ zq 1 (.int .u32 t.r.mg) rfl
    go_simp
    try rfl
  go_frame
  apply tk 36 sx36 rfl (by kernel_rfl) (fun _ _ _ h => h) zk
  · intro wq zq
    go_simp
    try rfl
  go_frame
  refine rd 35 sx35 rfl (by kernel_rfl) fun K hK => ?_
  go_simp
  refine (has_is (H5.out.ch (HV.out.trans HC_V1.out (fun _ _ h => h)) (fun _ _ h => h)) l5 t.r.ms t.r.mg).mono ?_
  rintro e V2 ⟨rfl, b6⟩
  have HC_V2 := hide (HC_V1.out.trans (Ch.of_below (Q := fun _ => False) b6) (fun _ _ h => h))
  clear b6
  rw [n5]
  go_wp2_with fail
  refine hK.out _ _ ?_ (fun zk => ?_)
  · exact HC_V2.out
  clear hK K
  try go_frame
  apply tk 37 sx37 rfl (by kernel_rfl) (fun _ _ _ h => h) zk
  · intro wq zq
    go_simp
    try rfl
  go_frame
  apply tk 38 sx38 rfl (by kernel_rfl) (fun _ _ _ h => h) zk
  · intro wq zq
    go_simp
    try rfl
  go_frame
  apply tk 39 sx39 rfl (by kernel_rfl) (fun _ _ _ h => h) zk
  · intro wq zq
    go_simp
    try rfl
  go_frame
  apply tk 40 sx40 rfl (by kernel_rfl) (fun _ _ _ h => h) zk
  · intro wq zq
    go_simp
    try rfl
  go_frame
  apply tk 42 sx42 rfl (by kernel_rfl) (fun _ _ _ h => h) zk
  · intro wq zq
    go_simp
    try rfl
  go_frame
  apply tk 43 sx43 rfl (by kernel_rfl) (fun _ _ _ h => h) zk
  · intro wq zq
    go_simp
    try rfl
  go_frame
  apply tk 44 sx44 rfl (by kernel_rfl) (fun _ _ _ h => h) zk
  · intro wq zq
    go_simp
    try rfl
  go_frame
  apply tk 45 sx45 rfl (by kernel_rfl) (fun _ _ _ h => h) zk
  · intro wq zq
    go_simp
    try rfl
  go_frame
  apply tk 46 sx46 rfl (by kernel_rfl) (fun _ _ _ h => h) zk
  · intro wq zq
    have s0 : wq.cell? ⟨tg, kk * 11, none⟩ = _ := HG.out _ zq 0 (.int .u32 t.r.ms) rfl
    have s1 := HG.out _ zq 1 (.int .u32 t.r.mg) rfl
    go_simp
    try rfl
  go_frame
  apply tk 48 sx48 rfl (by kernel_rfl) (fun _ _ _ h => h) zk
  · intro wq zq
    go_simp
    try rfl
  go_frame
  have hall := face.all (HSD.out.quiet (HV.out.trans HC_V2.out (fun _ _ h => h))).bk hl1
  refine rd 41 sx41 rfl (by kernel_rfl) fun K hK => ?_
  go_simp
  refine (hall).mono ?_
  rintro e V3 ⟨av, rfl, h6, b6⟩
  have HC_V3 := hide (HC_V2.out.trans (Ch.of_below (Q := fun _ => False) b6) (fun _ _ h => h))
  have H6 := hide h6
  obtain ⟨aa, ac, e6, -, -⟩ := h6.form
  subst e6
  clear b6 h6
  go_wp2_with fail
  refine hK.out _ _ ?_ (fun zk => ?_)
  · exact HC_V3.out
  clear hK K
  try go_frame
  refine rd 47 sx47 rfl (by kernel_rfl) fun K hK => ?_
  go_simp
  refine (has_is H6.out (Nat.le_trans (sel_le _ _) hl1) t.r.ms t.r.mg).mono ?_
  rintro e V4 ⟨rfl, b6⟩
  have HC_V4 := hide (HC_V3.out.trans (Ch.of_below (Q := fun _ => False) b6) (fun _ _ h => h))
  clear b6
  rw [n6]
  go_wp2_with fail
  refine hK.out _ _ ?_ (fun zk => ?_)
  · exact HC_V4.out
  clear hK K
  try go_frame
  apply tk 49 sx49 rfl (by kernel_rfl) (fun _ _ _ h => h) zk
  · intro wq zq
    go_simp
    try rfl
  go_frame
  apply tk 50 sx50 rfl (by kernel_rfl) (fun _ _ _ h => h) zk
  · intro wq zq
    go_simp
    try rfl
  go_frame
  refine wpAnyH_done (by kernel_rfl) ?_ _
  exact HK.out _ _ _ _ _ _ _ _ _ _ _ _ _ _ _ _ _ _ _ _ _ _ _ _ _ _ _ _ _ _ _ _ _ _ _ _ _ _ _ _ _ _ _ _ _ _ _ _ _ _ _ (HV.out.trans HC_V4.out (fun _ _ h => h))

end Go.Proofs.Ythnnpipekeanoaa

namespace Go.Proofs.Ythnnpipekeanoaa
open Go.RowKit

theorem inRow_self (t : Wt) : inRow t.r.rs t.r.rg t.r.rd t = !t.o := by simp [inRow]
theorem isWho_self (t : Wt) : isWho t.r.ws t.r.wg t = !t.o := by simp [isWho]
theorem isNow_self (t : Wt) : isNow t = !t.o := rfl
theorem hasq {l : List Wt} {t : Wt} {q : Wt → Bool} {ovv : Int} (h : ∀ q, hasW (sel q l) t.r.ms t.r.mg = if q t then 1 else 0) (hq : q t = !t.o) (ho : (if t.o then 1 else 0) = ovv) : (hasW (sel q l) t.r.ms t.r.mg : Int) = 1 - ovv := by
  rw [h q, hq, ← ho]
  cases t.o <;> rfl

set_option maxRecDepth 100000 in
set_option maxHeartbeats 4000000 in
theorem r42 {u0 u1 u2 u3 u6 u7 u8 u9 u10 u11 u12 u13 u14 u21 u22 u23 u24 u25 u26 u27 u28 u29 u30 u31 u32 u33 u34 u35 u36 u37 u38 u39 u40 u41 u42 u43 u44 u45 u46 u47 u48 u49 u50 u51 u52 u53 u54 u55 u56 u57 u58 u59 u60 u61 u62 u63 u64 u65 u66 u67 u68 u69 u70 u71 u72 u73 u74 u75 u76 u77 u78 u79 u80 u81 u82 u83 u84 u85 u86 u87 u88 u89 u90 u91 u92 u93 u94 u95 u96 u97 u98 u99 u100 u101 u102 u103 u104 u105 u106 u107 u108 u109 u110 u111 u112 u113 u114 u115 u116 u117 u118 u119 u120 u121 u122 u123 u124 u125 u126 u127 u128 u129 u130 u131 u132 u133 u134 u135 u136 u137 u138 u139 u140 u141 u142 u143 u144 u145 u146 u147 u148 u149 u150 u151 u152 u153 u154 u155 u156 u157 u158 u159 u160 u161 u162 u163 u164 u165 u166 u167 u168 u169 u170 u171 u172 u173 u174 u175 u176 u177 u178 u179 u180 u181 u182 u183 u184 u185 u186 u187 u188 u189 u190 u191 u192 u193 u194 u195 u196 u197 u198 u199 u200 u201 u202 u203 u204 u205 u206 u207 u208 u209 u210 u211 u212 u213 u214 u215 u216 u217 u218 u219 u220 u221 u222 u223 u224 u225 u226 u227 u228 u229 u230 u231 u232 u233 u234 u235 u236 u237 u238 u239 u240 u241 u242 u243 u244 u245 u246 u247 u248 u249 u250 u251 u252 u253 u254 u255 u256 u257 u258 u259 u260 u261 u262 u263 u264 u265 u266 u267 u268 u269 u270 u271 u272 u273 u274 u275 u276 u277 u278 u279 u280 u281 u282 u283 u284 u285 u286 u287 u288 u289 u290 u291 u292 u293 u294 u295 u296 u297 u298 u299 u300 u301 : Value} {w0 W : World} {B B4 B5 : Nat} {F : Nat → Prop} {p : Nat} {ov : Value} {l : List Wt} {tg tc X kk : Nat} {rv wv : Value} {S4 S5 : List Rc} {t : Wt} {xr : Rc} {wn ec : Int} (hS : Sd w0 B F p (.slice (some ⟨tg, 0, none⟩) l.length tc) ov l W) (hl1 : l.length ≤ 100000) (hkk : kk < l.length)
    (hct : ∀ j u, (rcF t.r)[j]? = some u → W.cell? ⟨tg, kk * 11 + j, none⟩ = some u) (htg : tg < W.heap.size) (hX : W.heap[X]? = some (.cells #[.int .u32 xr.ms, .int .u32 xr.mg, .int .u32 xr.ws, .int .u32 xr.wg, .int .u32 xr.rs, .int .u32 xr.rg, .int .i64 xr.rd, .int .i64 xr.ar, .int .i64 xr.vn, .int .u32 xr.vs, .int .u32 xr.vg] 57 (0, 0))) (h4 : RcRow W B4 rv S4) (h5 : RcRow W B5 wv S5) (l4 : S4.length ≤ 100000) (l5 : S5.length ≤ 100000)
    (hw : wn = 1 - (if t.o then 1 else 0)) (he : ec = ecB (!t.o) 111) (hx : t.o = false → xr = t.r) (n4 : (hasW S4 t.r.ms t.r.mg : Int) = wn) (n5 : (hasW S5 t.r.ms t.r.mg : Int) = wn) (n6 : (hasW (sel isNow l) t.r.ms t.r.mg : Int) = wn)
    {K : Act → World → Prop} (hK0 : ∀ (u181 u182 u183 u184 u185 u186 u187 u188 u189 u190 u191 u192 u193 u194 u195 u196 u197 u198 u199 u200 u201 u202 u203 u204 u205 u206 u207 u208 u209 u210 u211 u212 u213 u214 u215 u216 u217 u218 u219 u220 u221 u222 u223 u224 u225 u226 u227 u228 u229 u230 : Value) (W' : World), Ch (fun _ => False) W W' → K { tmps := List.toArray (u0 :: u1 :: u2 :: u3 :: (.pointer (some ⟨p, 0, none⟩)) :: (.slice (some ⟨tg, 0, none⟩) l.length tc) :: u6 :: u7 :: u8 :: u9 :: u10 :: u11 :: u12 :: u13 :: u14 :: (.int .i64 (kk : Int)) :: (.int .i64 wn) :: (.pointer (some ⟨X, 0, none⟩)) :: (.int .i64 ec) :: (rv) :: (wv) :: u21 :: u22 :: u23 :: u24 :: u25 :: u26 :: u27 :: u28 :: u29 :: u30 :: u31 :: u32 :: u33 :: u34 :: u35 :: u36 :: u37 :: u38 :: u39 :: u40 :: u41 :: u42 :: u43 :: u44 :: u45 :: u46 :: u47 :: u48 :: u49 :: u50 :: u51 :: u52 :: u53 :: u54 :: u55 :: u56 :: u57 :: u58 :: u59 :: u60 :: u61 :: u62 :: u63 :: u64 :: u65 :: u66 :: u67 :: u68 :: u69 :: u70 :: u71 :: u72 :: u73 :: u74 :: u75 :: u76 :: u77 :: u78 :: u79 :: u80 :: u81 :: u82 :: u83 :: u84 :: u85 :: u86 :: u87 :: u88 :: u89 :: u90 :: u91 :: u92 :: u93 :: u94 :: u95 :: u96 :: u97 :: u98 :: u99 :: u100 :: u101 :: u102 :: u103 :: u104 :: u105 :: u106 :: u107 :: u108 :: u109 :: u110 :: u111 :: u112 :: u113 :: u114 :: u115 :: u116 :: u117 :: u118 :: u119 :: u120 :: u121 :: u122 :: u123 :: u124 :: u125 :: u126 :: u127 :: u128 :: u129 :: u130 :: u131 :: u132 :: u133 :: u134 :: u135 :: u136 :: u137 :: u138 :: u139 :: u140 :: u141 :: u142 :: u143 :: u144 :: u145 :: u146 :: u147 :: u148 :: u149 :: u150 :: u151 :: u152 :: u153 :: u154 :: u155 :: u156 :: u157 :: u158 :: u159 :: u160 :: u161 :: u162 :: u163 :: u164 :: u165 :: u166 :: u167 :: u168 :: u169 :: u170 :: u171 :: u172 :: u173 :: u174 :: u175 :: u176 :: u177 :: u178 :: u179 :: u180 :: u181 :: u182 :: u183 :: u184 :: u185 :: u186 :: u187 :: u188 :: u189 :: u190 :: u191 :: u192 :: u193 :: u194 :: u195 :: u196 :: u197 :: u198 :: u199 :: u200 :: u201 :: u202 :: u203 :: u204 :: u205 :: u206 :: u207 :: u208 :: u209 :: u210 :: u211 :: u212 :: u213 :: u214 :: u215 :: u216 :: u217 :: u218 :: u219 :: u220 :: u221 :: u222 :: u223 :: u224 :: u225 :: u226 :: u227 :: u228 :: u229 :: u230 :: (.bool false) :: u232 :: u233 :: u234 :: u235 :: u236 :: u237 :: u238 :: u239 :: u240 :: u241 :: u242 :: u243 :: u244 :: u245 :: u246 :: u247 :: u248 :: u249 :: u250 :: u251 :: u252 :: u253 :: u254 :: u255 :: u256 :: u257 :: u258 :: u259 :: u260 :: u261 :: u262 :: u263 :: u264 :: u265 :: u266 :: u267 :: u268 :: u269 :: u270 :: u271 :: u272 :: u273 :: u274 :: u275 :: u276 :: u277 :: u278 :: u279 :: u280 :: u281 :: u282 :: u283 :: u284 :: u285 :: u286 :: u287 :: u288 :: u289 :: u290 :: u291 :: u292 :: u293 :: u294 :: u295 :: u296 :: u297 :: u298 :: u299 :: u300 :: u301 :: []), defers := [] } W') :
    (Code.region 42 (List.toArray (sx0 :: sx1 :: sx2 :: sx3 :: sx4 :: sx5 :: sx6 :: sx7 :: sx8 :: sx9 :: sx10 :: sx11 :: sx12 :: sx13 :: sx14 :: sx15 :: sx16 :: sx17 :: sx18 :: sx19 :: sx20 :: sx21 :: sx22 :: sx23 :: sx24 :: sx25 :: sx26 :: sx27 :: sx28 :: sx29 :: sx30 :: sx31 :: sx32 :: sx33 :: sx34 :: sx35 :: sx36 :: sx37 :: sx38 :: sx39 :: sx40 :: sx41 :: sx42 :: sx43 :: sx44 :: sx45 :: sx46 :: sx47 :: sx48 :: sx49 :: sx50 :: [])) true).wp Try.prog (Exit.then K (fun _ _ _ => False)) { tmps := List.toArray (u0 :: u1 :: u2 :: u3 :: (.pointer (some ⟨p, 0, none⟩)) :: (.slice (some ⟨tg, 0, none⟩) l.length tc) :: u6 :: u7 :: u8 :: u9 :: u10 :: u11 :: u12 :: u13 :: u14 :: (.int .i64 (kk : Int)) :: (.int .i64 wn) :: (.pointer (some ⟨X, 0, none⟩)) :: (.int .i64 ec) :: (rv) :: (wv) :: u21 :: u22 :: u23 :: u24 :: u25 :: u26 :: u27 :: u28 :: u29 :: u30 :: u31 :: u32 :: u33 :: u34 :: u35 :: u36 :: u37 :: u38 :: u39 :: u40 :: u41 :: u42 :: u43 :: u44 :: u45 :: u46 :: u47 :: u48 :: u49 :: u50 :: u51 :: u52 :: u53 :: u54 :: u55 :: u56 :: u57 :: u58 :: u59 :: u60 :: u61 :: u62 :: u63 :: u64 :: u65 :: u66 :: u67 :: u68 :: u69 :: u70 :: u71 :: u72 :: u73 :: u74 :: u75 :: u76 :: u77 :: u78 :: u79 :: u80 :: u81 :: u82 :: u83 :: u84 :: u85 :: u86 :: u87 :: u88 :: u89 :: u90 :: u91 :: u92 :: u93 :: u94 :: u95 :: u96 :: u97 :: u98 :: u99 :: u100 :: u101 :: u102 :: u103 :: u104 :: u105 :: u106 :: u107 :: u108 :: u109 :: u110 :: u111 :: u112 :: u113 :: u114 :: u115 :: u116 :: u117 :: u118 :: u119 :: u120 :: u121 :: u122 :: u123 :: u124 :: u125 :: u126 :: u127 :: u128 :: u129 :: u130 :: u131 :: u132 :: u133 :: u134 :: u135 :: u136 :: u137 :: u138 :: u139 :: u140 :: u141 :: u142 :: u143 :: u144 :: u145 :: u146 :: u147 :: u148 :: u149 :: u150 :: u151 :: u152 :: u153 :: u154 :: u155 :: u156 :: u157 :: u158 :: u159 :: u160 :: u161 :: u162 :: u163 :: u164 :: u165 :: u166 :: u167 :: u168 :: u169 :: u170 :: u171 :: u172 :: u173 :: u174 :: u175 :: u176 :: u177 :: u178 :: u179 :: u180 :: u181 :: u182 :: u183 :: u184 :: u185 :: u186 :: u187 :: u188 :: u189 :: u190 :: u191 :: u192 :: u193 :: u194 :: u195 :: u196 :: u197 :: u198 :: u199 :: u200 :: u201 :: u202 :: u203 :: u204 :: u205 :: u206 :: u207 :: u208 :: u209 :: u210 :: u211 :: u212 :: u213 :: u214 :: u215 :: u216 :: u217 :: u218 :: u219 :: u220 :: u221 :: u222 :: u223 :: u224 :: u225 :: u226 :: u227 :: u228 :: u229 :: u230 :: u231 :: u232 :: u233 :: u234 :: u235 :: u236 :: u237 :: u238 :: u239 :: u240 :: u241 :: u242 :: u243 :: u244 :: u245 :: u246 :: u247 :: u248 :: u249 :: u250 :: u251 :: u252 :: u253 :: u254 :: u255 :: u256 :: u257 :: u258 :: u259 :: u260 :: u261 :: u262 :: u263 :: u264 :: u265 :: u266 :: u267 :: u268 :: u269 :: u270 :: u271 :: u272 :: u273 :: u274 :: u275 :: u276 :: u277 :: u278 :: u279 :: u280 :: u281 :: u282 :: u283 :: u284 :: u285 :: u286 :: u287 :: u288 :: u289 :: u290 :: u291 :: u292 :: u293 :: u294 :: u295 :: u296 :: u297 :: u298 :: u299 :: u300 :: u301 :: []), defers := [] } W := by
  cases ho : t.o with
  | false =>
    rw [ho] at hw he
    obtain rfl : wn = 1 := hw
    obtain rfl : ec = 0 := he
    obtain rfl := hx ho
    exact r42_false hS hl1 hkk hct htg hX h4 h5 l4 l5 (by omega) (by omega) (by omega) hK0
  | true =>
    rw [ho] at hw he
    obtain rfl : wn = 0 := hw
    obtain rfl : ec = 111 := he
    exact r42_true hS hl1 hkk hct htg h4 h5 l4 l5 (by omega) (by omega) (by omega) hK0

end Go.Proofs.Ythnnpipekeanoaa
