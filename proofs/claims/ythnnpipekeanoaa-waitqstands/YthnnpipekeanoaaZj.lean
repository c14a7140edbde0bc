/- Layer 11: WaitqStands: operations of three regions; on lists. Layer 11: WaitqStands: the first of a row. Layer 11: WaitqStands: who stands in the row. Layer 11: WaitqStands: the row as it was put. -/
import Derived.Test.YthnnpipekeanoaaSg
namespace Go.Proofs.Ythnnpipekeanoaa
open Go.RowKit

abbrev sy0 : Oper := { dst := some 242, op := Op.move (Operand.tmp 22), type := 4, pos := "law.go:210", after := #[], guard := none }
abbrev sy1 : Oper := { dst := some 243, op := Op.move (Operand.tmp 19), type := 28, pos := "law.go:210", after := #[], guard := none }
abbrev sy2 : Oper := { dst := some 244, op := Op.call { callee := Callee.builtin Builtin.len, args := #[Operand.tmp 243], argTypes := #[28] }, type := 3, pos := "law.go:210", after := #[{ on := 1, ground := Ground.data }], guard := none }
abbrev sy3 : Oper := { dst := some 245, op := Op.binOp BinOp.gtr 3 (Operand.tmp 244) (Operand.const (Value.int IntKind.i64 0)) 3, type := 4, pos := "law.go:210", after := #[{ on := 2, ground := Ground.data }], guard := none }
abbrev sy4 : Oper := { dst := some 246, op := Op.binOp BinOp.neq 4 (Operand.tmp 242) (Operand.tmp 245) 4, type := 4, pos := "law.go:210", after := #[{ on := 0, ground := Ground.data }, { on := 3, ground := Ground.data }], guard := none }
abbrev sy5 : Oper := { dst := some 247, op := Op.move (Operand.tmp 246), type := 4, pos := "law.go:210", after := #[{ on := 4, ground := Ground.data }], guard := none }
abbrev sy6 : Oper := { dst := some 248, op := Op.move (Operand.tmp 22), type := 4, pos := "law.go:210", after := #[{ on := 5, ground := Ground.guard }], guard := some (5, false) }
abbrev sy7 : Oper := { dst := some 249, op := Op.move (Operand.tmp 248), type := 4, pos := "law.go:210", after := #[{ on := 6, ground := Ground.data }, { on := 5, ground := Ground.chain }, { on := 5, ground := Ground.guard }], guard := some (5, false) }
abbrev sy8 : Oper := { dst := some 250, op := Op.load 57 (Operand.tmp 21), type := 57, pos := "law.go:210", after := #[{ on := 7, ground := Ground.guard }], guard := some (7, true) }
abbrev sy9 : Oper := { dst := some 251, op := Op.move (Operand.tmp 19), type := 28, pos := "law.go:210", after := #[{ on := 7, ground := Ground.guard }], guard := some (7, true) }
abbrev sy10 : Oper := { dst := some 252, op := Op.indexAddr 28 (Operand.tmp 251) (Operand.const (Value.int IntKind.i64 0)), type := 0, pos := "law.go:210", after := #[{ on := 9, ground := Ground.data }, { on := 7, ground := Ground.guard }], guard := some (7, true) }
abbrev sy11 : Oper := { dst := some 253, op := Op.load 57 (Operand.tmp 252), type := 57, pos := "law.go:210", after := #[{ on := 10, ground := Ground.data }, { on := 7, ground := Ground.guard }], guard := some (7, true) }
abbrev sy12 : Oper := { dst := some 254, op := Op.binOp BinOp.neq 57 (Operand.tmp 250) (Operand.tmp 253) 57, type := 4, pos := "law.go:210", after := #[{ on := 8, ground := Ground.data }, { on := 11, ground := Ground.data }, { on := 7, ground := Ground.guard }], guard := some (7, true) }
abbrev sy13 : Oper := { dst := some 255, op := Op.pick (Operand.tmp 249) (Operand.tmp 254) (Operand.const (Value.bool false)), type := 4, pos := "law.go:210", after := #[{ on := 7, ground := Ground.data }, { on := 12, ground := Ground.data }, { on := 5, ground := Ground.guard }], guard := some (5, false) }
abbrev sy14 : Oper := { dst := some 256, op := Op.pick (Operand.tmp 247) (Operand.const (Value.bool true)) (Operand.tmp 255), type := 4, pos := "law.go:210", after := #[{ on := 5, ground := Ground.data }, { on := 13, ground := Ground.data }], guard := none }
abbrev sz0 : Oper := { dst := some 263, op := Op.move (Operand.tmp 6), type := 29, pos := "law.go:215", after := #[], guard := none }
abbrev sz1 : Oper := { dst := some 264, op := Op.move (Operand.tmp 24), type := 3, pos := "law.go:215", after := #[], guard := none }
abbrev sz2 : Oper := { dst := some 265, op := Op.indexAddr 29 (Operand.tmp 263) (Operand.tmp 264), type := 0, pos := "law.go:215", after := #[{ on := 0, ground := Ground.data }, { on := 1, ground := Ground.data }], guard := none }
abbrev sz3 : Oper := { dst := some 266, op := Op.load 3 (Operand.tmp 265), type := 3, pos := "law.go:215", after := #[{ on := 2, ground := Ground.data }], guard := none }
abbrev sz4 : Oper := { dst := some 267, op := Op.binOp BinOp.eql 3 (Operand.tmp 266) (Operand.const (Value.int IntKind.i64 0)) 3, type := 4, pos := "law.go:215", after := #[{ on := 3, ground := Ground.data }], guard := none }
abbrev sz5 : Oper := { dst := some 268, op := Op.move (Operand.tmp 267), type := 4, pos := "law.go:215", after := #[{ on := 4, ground := Ground.data }], guard := none }
abbrev sz6 : Oper := { dst := some 269, op := Op.move (Operand.tmp 5), type := 28, pos := "law.go:215", after := #[{ on := 5, ground := Ground.guard }], guard := some (5, true) }
abbrev sz7 : Oper := { dst := some 270, op := Op.move (Operand.tmp 24), type := 3, pos := "law.go:215", after := #[{ on := 5, ground := Ground.guard }], guard := some (5, true) }
abbrev sz8 : Oper := { dst := some 271, op := Op.indexAddr 28 (Operand.tmp 269) (Operand.tmp 270), type := 0, pos := "law.go:215", after := #[{ on := 6, ground := Ground.data }, { on := 7, ground := Ground.data }, { on := 5, ground := Ground.guard }], guard := some (5, true) }
abbrev sz9 : Oper := { dst := some 272, op := Op.fieldAddr 57 (Operand.tmp 271) 2, type := 0, pos := "law.go:215", after := #[{ on := 8, ground := Ground.data }, { on := 5, ground := Ground.guard }], guard := some (5, true) }
abbrev sz10 : Oper := { dst := some 273, op := Op.load 44 (Operand.tmp 272), type := 44, pos := "law.go:215", after := #[{ on := 9, ground := Ground.data }, { on := 5, ground := Ground.guard }], guard := some (5, true) }
abbrev sz11 : Oper := { dst := some 274, op := Op.move (Operand.tmp 5), type := 28, pos := "law.go:215", after := #[{ on := 5, ground := Ground.guard }], guard := some (5, true) }
abbrev sz12 : Oper := { dst := some 275, op := Op.move (Operand.tmp 15), type := 3, pos := "law.go:215", after := #[{ on := 5, ground := Ground.guard }], guard := some (5, true) }
abbrev sz13 : Oper := { dst := some 276, op := Op.indexAddr 28 (Operand.tmp 274) (Operand.tmp 275), type := 0, pos := "law.go:215", after := #[{ on := 11, ground := Ground.data }, { on := 12, ground := Ground.data }, { on := 5, ground := Ground.guard }], guard := some (5, true) }
abbrev sz14 : Oper := { dst := some 277, op := Op.fieldAddr 57 (Operand.tmp 276) 2, type := 0, pos := "law.go:215", after := #[{ on := 13, ground := Ground.data }, { on := 5, ground := Ground.guard }], guard := some (5, true) }
abbrev sz15 : Oper := { dst := some 278, op := Op.load 44 (Operand.tmp 277), type := 44, pos := "law.go:215", after := #[{ on := 14, ground := Ground.data }, { on := 5, ground := Ground.guard }], guard := some (5, true) }
abbrev sz16 : Oper := { dst := some 279, op := Op.binOp BinOp.eql 44 (Operand.tmp 273) (Operand.tmp 278) 44, type := 4, pos := "law.go:215", after := #[{ on := 10, ground := Ground.data }, { on := 15, ground := Ground.data }, { on := 5, ground := Ground.guard }], guard := some (5, true) }
abbrev sz17 : Oper := { dst := some 280, op := Op.pick (Operand.tmp 268) (Operand.tmp 279) (Operand.const (Value.bool false)), type := 4, pos := "law.go:215", after := #[{ on := 5, ground := Ground.data }, { on := 16, ground := Ground.data }], guard := none }
abbrev sw0 : Oper := { dst := some 281, op := Op.move (Operand.tmp 23), type := 3, pos := "law.go:216", after := #[], guard := none }
abbrev sw1 : Oper := { dst := some 282, op := Op.move (Operand.tmp 19), type := 28, pos := "law.go:216", after := #[], guard := none }
abbrev sw2 : Oper := { dst := some 283, op := Op.call { callee := Callee.builtin Builtin.len, args := #[Operand.tmp 282], argTypes := #[28] }, type := 3, pos := "law.go:216", after := #[{ on := 1, ground := Ground.data }], guard := none }
abbrev sw3 : Oper := { dst := some 284, op := Op.binOp BinOp.geq 3 (Operand.tmp 281) (Operand.tmp 283) 3, type := 4, pos := "law.go:216", after := #[{ on := 0, ground := Ground.data }, { on := 2, ground := Ground.data }], guard := none }
abbrev sw4 : Oper := { dst := some 285, op := Op.move (Operand.tmp 284), type := 4, pos := "law.go:216", after := #[{ on := 3, ground := Ground.data }], guard := none }
abbrev sw5 : Oper := { dst := some 286, op := Op.move (Operand.tmp 19), type := 28, pos := "law.go:216", after := #[{ on := 4, ground := Ground.guard }], guard := some (4, false) }
abbrev sw6 : Oper := { dst := some 287, op := Op.move (Operand.tmp 23), type := 3, pos := "law.go:216", after := #[{ on := 4, ground := Ground.guard }], guard := some (4, false) }
abbrev sw7 : Oper := { dst := some 288, op := Op.indexAddr 28 (Operand.tmp 286) (Operand.tmp 287), type := 0, pos := "law.go:216", after := #[{ on := 5, ground := Ground.data }, { on := 6, ground := Ground.data }, { on := 4, ground := Ground.guard }], guard := some (4, false) }
abbrev sw8 : Oper := { dst := some 289, op := Op.load 57 (Operand.tmp 288), type := 57, pos := "law.go:216", after := #[{ on := 7, ground := Ground.data }, { on := 4, ground := Ground.guard }], guard := some (4, false) }
abbrev sw9 : Oper := { dst := some 290, op := Op.move (Operand.tmp 5), type := 28, pos := "law.go:216", after := #[{ on := 4, ground := Ground.guard }], guard := some (4, false) }
abbrev sw10 : Oper := { dst := some 291, op := Op.move (Operand.tmp 24), type := 3, pos := "law.go:216", after := #[{ on := 4, ground := Ground.guard }], guard := some (4, false) }
abbrev sw11 : Oper := { dst := some 292, op := Op.indexAddr 28 (Operand.tmp 290) (Operand.tmp 291), type := 0, pos := "law.go:216", after := #[{ on := 9, ground := Ground.data }, { on := 10, ground := Ground.data }, { on := 4, ground := Ground.guard }], guard := some (4, false) }
abbrev sw12 : Oper := { dst := some 293, op := Op.load 57 (Operand.tmp 292), type := 57, pos := "law.go:216", after := #[{ on := 11, ground := Ground.data }, { on := 4, ground := Ground.guard }], guard := some (4, false) }
abbrev sw13 : Oper := { dst := some 294, op := Op.binOp BinOp.neq 57 (Operand.tmp 289) (Operand.tmp 293) 57, type := 4, pos := "law.go:216", after := #[{ on := 8, ground := Ground.data }, { on := 12, ground := Ground.data }, { on := 4, ground := Ground.guard }], guard := some (4, false) }
abbrev sw14 : Oper := { dst := some 295, op := Op.pick (Operand.tmp 285) (Operand.const (Value.bool true)) (Operand.tmp 294), type := 4, pos := "law.go:216", after := #[{ on := 4, ground := Ground.data }, { on := 13, ground := Ground.data }], guard := none }

theorem sel_app (q : Wt → Bool) (a b : List Wt) : sel q (a ++ b) = sel q a ++ sel q b := by simp [sel]
theorem sel_next {l : List Wt} (q : Wt → Bool) {j : Nat} (hj : j < l.length) : sel q (l.take (j + 1)) = if q l[j] then sel q (l.take j) ++ [l[j].r] else sel q (l.take j) := by
  rw [List.take_succ_eq_append_getElem hj, sel_snoc]
theorem sel_at {l : List Wt} (q : Wt → Bool) {j : Nat} (hj : j < l.length) (hq : q l[j] = true) : ∃ h : (sel q (l.take j)).length < (sel q l).length, (sel q l)[(sel q (l.take j)).length] = l[j].r := by
  have h1 : l = l.take (j + 1) ++ l.drop (j + 1) := (List.take_append_drop _ _).symm
  have h2 := sel_next q hj
  rw [hq, if_pos rfl] at h2
  have h3 : sel q l = (sel q (l.take j) ++ [l[j].r]) ++ sel q (l.drop (j + 1)) := by
    rw [← h2, ← sel_app, ← h1]
  have h4 : (sel q (l.take j)).length < (sel q l).length := by
    rw [h3, List.length_append, List.length_append, List.length_singleton]
    omega
  refine ⟨h4, ?_⟩
  apply Option.some.inj
  rw [← List.getElem?_eq_getElem h4, h3, List.append_assoc, List.getElem?_append_right (Nat.le_refl _), Nat.sub_self]
  rfl

end Go.Proofs.Ythnnpipekeanoaa

namespace Go.Proofs.Ythnnpipekeanoaa
open Go.RowKit

set_option maxRecDepth 100000 in
set_option maxHeartbeats 16000000 in
theorem r45 {u0 u1 u2 u3 u4 u5 u6 u7 u8 u9 u10 u11 u12 u13 u14 u15 u16 u17 u18 u20 u23 u24 u25 u26 u27 u28 u29 u30 u31 u32 u33 u34 u35 u36 u37 u38 u39 u40 u41 u42 u43 u44 u45 u46 u47 u48 u49 u50 u51 u52 u53 u54 u55 u56 u57 u58 u59 u60 u61 u62 u63 u64 u65 u66 u67 u68 u69 u70 u71 u72 u73 u74 u75 u76 u77 u78 u79 u80 u81 u82 u83 u84 u85 u86 u87 u88 u89 u90 u91 u92 u93 u94 u95 u96 u97 u98 u99 u100 u101 u102 u103 u104 u105 u106 u107 u108 u109 u110 u111 u112 u113 u114 u115 u116 u117 u118 u119 u120 u121 u122 u123 u124 u125 u126 u127 u128 u129 u130 u131 u132 u133 u134 u135 u136 u137 u138 u139 u140 u141 u142 u143 u144 u145 u146 u147 u148 u149 u150 u151 u152 u153 u154 u155 u156 u157 u158 u159 u160 u161 u162 u163 u164 u165 u166 u167 u168 u169 u170 u171 u172 u173 u174 u175 u176 u177 u178 u179 u180 u181 u182 u183 u184 u185 u186 u187 u188 u189 u190 u191 u192 u193 u194 u195 u196 u197 u198 u199 u200 u201 u202 u203 u204 u205 u206 u207 u208 u209 u210 u211 u212 u213 u214 u215 u216 u217 u218 u219 u220 u221 u222 u223 u224 u225 u226 u227 u228 u229 u230 u231 u232 u233 u234 u235 u236 u237 u238 u239 u240 u241 u242 u243 u244 u245 u246 u247 u248 u249 u250 u251 u252 u253 u254 u255 u256 u257 u258 u259 u260 u261 u262 u263 u264 u265 u266 u267 u268 u269 u270 u271 u272 u273 u274 u275 u276 u277 u278 u279 u280 u281 u282 u283 u284 u285 u286 u287 u288 u289 u290 u291 u292 u293 u294 u295 u296 u297 u298 u299 u300 u301 : Value} {W : World} {B X rc : Nat} {ra : Option Addr} {S : List Rc} (hr : RcRow W B (.slice ra S.length rc) S) (hX : W.heap[X]? = some (.cells #[.int .u32 (S.headD zRc).ms, .int .u32 (S.headD zRc).mg, .int .u32 (S.headD zRc).ws, .int .u32 (S.headD zRc).wg, .int .u32 (S.headD zRc).rs, .int .u32 (S.headD zRc).rg, .int .i64 (S.headD zRc).rd, .int .i64 (S.headD zRc).ar, .int .i64 (S.headD zRc).vn, .int .u32 (S.headD zRc).vs, .int .u32 (S.headD zRc).vg] 57 (0, 0)))
    {K : Act → World → Prop} (hK0 : ∀ (u242 u243 u244 u245 u246 u247 u248 u249 u250 u251 u252 u253 u254 u255 : Value) (W' : World), Ch (fun _ => False) W W' → K { tmps := List.toArray (u0 :: u1 :: u2 :: u3 :: u4 :: u5 :: u6 :: u7 :: u8 :: u9 :: u10 :: u11 :: u12 :: u13 :: u14 :: u15 :: u16 :: u17 :: u18 :: (.slice ra S.length rc) :: u20 :: (.pointer (some ⟨X, 0, none⟩)) :: (.bool (!S.isEmpty)) :: u23 :: u24 :: u25 :: u26 :: u27 :: u28 :: u29 :: u30 :: u31 :: u32 :: u33 :: u34 :: u35 :: u36 :: u37 :: u38 :: u39 :: u40 :: u41 :: u42 :: u43 :: u44 :: u45 :: u46 :: u47 :: u48 :: u49 :: u50 :: u51 :: u52 :: u53 :: u54 :: u55 :: u56 :: u57 :: u58 :: u59 :: u60 :: u61 :: u62 :: u63 :: u64 :: u65 :: u66 :: u67 :: u68 :: u69 :: u70 :: u71 :: u72 :: u73 :: u74 :: u75 :: u76 :: u77 :: u78 :: u79 :: u80 :: u81 :: u82 :: u83 :: u84 :: u85 :: u86 :: u87 :: u88 :: u89 :: u90 :: u91 :: u92 :: u93 :: u94 :: u95 :: u96 :: u97 :: u98 :: u99 :: u100 :: u101 :: u102 :: u103 :: u104 :: u105 :: u106 :: u107 :: u108 :: u109 :: u110 :: u111 :: u112 :: u113 :: u114 :: u115 :: u116 :: u117 :: u118 :: u119 :: u120 :: u121 :: u122 :: u123 :: u124 :: u125 :: u126 :: u127 :: u128 :: u129 :: u130 :: u131 :: u132 :: u133 :: u134 :: u135 :: u136 :: u137 :: u138 :: u139 :: u140 :: u141 :: u142 :: u143 :: u144 :: u145 :: u146 :: u147 :: u148 :: u149 :: u150 :: u151 :: u152 :: u153 :: u154 :: u155 :: u156 :: u157 :: u158 :: u159 :: u160 :: u161 :: u162 :: u163 :: u164 :: u165 :: u166 :: u167 :: u168 :: u169 :: u170 :: u171 :: u172 :: u173 :: u174 :: u175 :: u176 :: u177 :: u178 :: u179 :: u180 :: u181 :: u182 :: u183 :: u184 :: u185 :: u186 :: u187 :: u188 :: u189 :: u190 :: u191 :: u192 :: u193 :: u194 :: u195 :: u196 :: u197 :: u198 :: u199 :: u200 :: u201 :: u202 :: u203 :: u204 :: u205 :: u206 :: u207 :: u208 :: u209 :: u210 :: u211 :: u212 :: u213 :: u214 :: u215 :: u216 :: u217 :: u218 :: u219 :: u220 :: u221 :: u222 :: u223 :: u224 :: u225 :: u226 :: u227 :: u228 :: u229 :: u230 :: u231 :: u232 :: u233 :: u234 :: u235 :: u236 :: u237 :: u238 :: u239 :: u240 :: u241 :: u242 :: u243 :: u244 :: u245 :: u246 :: u247 :: u248 :: u249 :: u250 :: u251 :: u252 :: u253 :: u254 :: u255 :: (.bool false) :: u257 :: u258 :: u259 :: u260 :: u261 :: u262 :: u263 :: u264 :: u265 :: u266 :: u267 :: u268 :: u269 :: u270 :: u271 :: u272 :: u273 :: u274 :: u275 :: u276 :: u277 :: u278 :: u279 :: u280 :: u281 :: u282 :: u283 :: u284 :: u285 :: u286 :: u287 :: u288 :: u289 :: u290 :: u291 :: u292 :: u293 :: u294 :: u295 :: u296 :: u297 :: u298 :: u299 :: u300 :: u301 :: []), defers := [] } W') :
    (Code.region 45 (List.toArray (sy0 :: sy1 :: sy2 :: sy3 :: sy4 :: sy5 :: sy6 :: sy7 :: sy8 :: sy9 :: sy10 :: sy11 :: sy12 :: sy13 :: sy14 :: [])) true).wp Try.prog (Exit.then K (fun _ _ _ => False)) { tmps := List.toArray (u0 :: u1 :: u2 :: u3 :: u4 :: u5 :: u6 :: u7 :: u8 :: u9 :: u10 :: u11 :: u12 :: u13 :: u14 :: u15 :: u16 :: u17 :: u18 :: (.slice ra S.length rc) :: u20 :: (.pointer (some ⟨X, 0, none⟩)) :: (.bool (!S.isEmpty)) :: u23 :: u24 :: u25 :: u26 :: u27 :: u28 :: u29 :: u30 :: u31 :: u32 :: u33 :: u34 :: u35 :: u36 :: u37 :: u38 :: u39 :: u40 :: u41 :: u42 :: u43 :: u44 :: u45 :: u46 :: u47 :: u48 :: u49 :: u50 :: u51 :: u52 :: u53 :: u54 :: u55 :: u56 :: u57 :: u58 :: u59 :: u60 :: u61 :: u62 :: u63 :: u64 :: u65 :: u66 :: u67 :: u68 :: u69 :: u70 :: u71 :: u72 :: u73 :: u74 :: u75 :: u76 :: u77 :: u78 :: u79 :: u80 :: u81 :: u82 :: u83 :: u84 :: u85 :: u86 :: u87 :: u88 :: u89 :: u90 :: u91 :: u92 :: u93 :: u94 :: u95 :: u96 :: u97 :: u98 :: u99 :: u100 :: u101 :: u102 :: u103 :: u104 :: u105 :: u106 :: u107 :: u108 :: u109 :: u110 :: u111 :: u112 :: u113 :: u114 :: u115 :: u116 :: u117 :: u118 :: u119 :: u120 :: u121 :: u122 :: u123 :: u124 :: u125 :: u126 :: u127 :: u128 :: u129 :: u130 :: u131 :: u132 :: u133 :: u134 :: u135 :: u136 :: u137 :: u138 :: u139 :: u140 :: u141 :: u142 :: u143 :: u144 :: u145 :: u146 :: u147 :: u148 :: u149 :: u150 :: u151 :: u152 :: u153 :: u154 :: u155 :: u156 :: u157 :: u158 :: u159 :: u160 :: u161 :: u162 :: u163 :: u164 :: u165 :: u166 :: u167 :: u168 :: u169 :: u170 :: u171 :: u172 :: u173 :: u174 :: u175 :: u176 :: u177 :: u178 :: u179 :: u180 :: u181 :: u182 :: u183 :: u184 :: u185 :: u186 :: u187 :: u188 :: u189 :: u190 :: u191 :: u192 :: u193 :: u194 :: u195 :: u196 :: u197 :: u198 :: u199 :: u200 :: u201 :: u202 :: u203 :: u204 :: u205 :: u206 :: u207 :: u208 :: u209 :: u210 :: u211 :: u212 :: u213 :: u214 :: u215 :: u216 :: u217 :: u218 :: u219 :: u220 :: u221 :: u222 :: u223 :: u224 :: u225 :: u226 :: u227 :: u228 :: u229 :: u230 :: u231 :: u232 :: u233 :: u234 :: u235 :: u236 :: u237 :: u238 :: u239 :: u240 :: u241 :: u242 :: u243 :: u244 :: u245 :: u246 :: u247 :: u248 :: u249 :: u250 :: u251 :: u252 :: u253 :: u254 :: u255 :: u256 :: u257 :: u258 :: u259 :: u260 :: u261 :: u262 :: u263 :: u264 :: u265 :: u266 :: u267 :: u268 :: u269 :: u270 :: u271 :: u272 :: u273 :: u274 :: u275 :: u276 :: u277 :: u278 :: u279 :: u280 :: u281 :: u282 :: u283 :: u284 :: u285 :: u286 :: u287 :: u288 :: u289 :: u290 :: u291 :: u292 :: u293 :: u294 :: u295 :: u296 :: u297 :: u298 :: u299 :: u300 :: u301 :: []), defers := [] } W := by
  have HK := hide hK0
  clear hK0
  cases S with
  | nil =>
    have e1 : (!([] : List Rc).isEmpty) = false := rfl
    have e2 : ([] : List Rc).length = 0 := rfl
    rw [e1, e2] at HK ⊢
    clear hX hr e1 e2
    refine wp_reg (fun _ => False) (R := fun V => Ch (fun _ => False) W V) (by kernel_rfl) (Ch.drew _) ?_
    rintro V hv zk
    have HV := hide hv
    clear hv
    apply tk 0 sy0 rfl (by kernel_rfl) (fun _ _ _ h => h) zk
    · intro wq zq
      go_simp
      try rfl
    go_frame
    apply tk 1 sy1 rfl (by kernel_rfl) (fun _ _ _ h => h) zk
    · intro wq zq
      go_simp
      try rfl
    go_frame
    apply tk 2 sy2 rfl (by kernel_rfl) (fun _ _ _ h => h) zk
    · intro wq zq
      go_simp
      try rfl
    go_frame
    apply tk 3 sy3 rfl (by kernel_rfl) (fun _ _ _ h => h) zk
    · intro wq zq
      go_simp
      try rfl
    go_frame
    apply tk 4 sy4 rfl (by kernel_rfl) (fun _ _ _ h => h) zk
    · intro wq zq
      go_simp
      try rfl
    go_frame
    apply tk 5 sy5 rfl (by kernel_rfl) (fun _ _ _ h => h) zk
    · intro wq zq
      go_simp
      try rfl
    go_frame
    apply tk 6 sy6 rfl (by kernel_rfl) (fun _ _ _ h => h) zk
    · intro wq zq
      go_simp
      try rfl
    go_frame
    apply tk 7 sy7 rfl (by kernel_rfl) (fun _ _ _ h => h) zk
    · intro wq zq
      go_simp
      try rfl
    go_frame
    apply sk 8 sy8 rfl (by kernel_rfl) (fun _ _ _ h => h) zk
    go_frame
    apply sk 9 sy9 rfl (by kernel_rfl) (fun _ _ _ h => h) zk
    go_frame
    apply sk 10 sy10 rfl (by kernel_rfl) (fun _ _ _ h => h) zk
    go_frame
    apply sk 11 sy11 rfl (by kernel_rfl) (fun _ _ _ h => h) zk
    go_frame
    apply sk 12 sy12 rfl (by kernel_rfl) (fun _ _ _ h => h) zk
    go_frame
    apply tk 13 sy13 rfl (by kernel_rfl) (fun _ _ _ h => h) zk
    · intro wq zq
      go_simp
      try rfl
    go_frame
    apply tk 14 sy14 rfl (by kernel_rfl) (fun _ _ _ h => h) zk
    · intro wq zq
      go_simp
      try rfl
    go_frame
    refine wpAnyH_done (by kernel_rfl) ?_ _
    exact HK.out _ _ _ _ _ _ _ _ _ _ _ _ _ _ _ HV.out
  | cons a S =>
    have e1 : (!(a :: S).isEmpty) = true := rfl
    have e2 : (a :: S).headD zRc = a := rfl
    rw [e1] at HK ⊢
    rw [e2] at hX
    obtain ⟨g, c, cur, e, -, -, -, -, -, hc⟩ := hr.at rcF_len (by rw [List.length_cons]; omega)
    injection e with e _ e'
    subst e e'
    have hl : (a :: S).length = S.length + 1 := rfl
    rw [hl] at HK ⊢
    have q0 : (0 : Int) < ((S.length + 1 : Nat) : Int) := by omega
    have q1 : decide ((0 : Int) < ((S.length + 1 : Nat) : Int)) = true := decide_eq_true (by omega)
    have q2 : 0 < S.length + 1 := by omega
    have y0 : W.cell? ⟨g, 0, none⟩ = some (.int .u32 a.ms) := by have := hc 0 (by rw [List.length_cons]; omega) 0 (.int .u32 a.ms) rfl; rwa [Nat.zero_mul, Nat.zero_add] at this
    have y1 : W.cell? ⟨g, 1, none⟩ = some (.int .u32 a.mg) := by have := hc 0 (by rw [List.length_cons]; omega) 1 (.int .u32 a.mg) rfl; rwa [Nat.zero_mul, Nat.zero_add] at this
    have y2 : W.cell? ⟨g, 2, none⟩ = some (.int .u32 a.ws) := by have := hc 0 (by rw [List.length_cons]; omega) 2 (.int .u32 a.ws) rfl; rwa [Nat.zero_mul, Nat.zero_add] at this
    have y3 : W.cell? ⟨g, 3, none⟩ = some (.int .u32 a.wg) := by have := hc 0 (by rw [List.length_cons]; omega) 3 (.int .u32 a.wg) rfl; rwa [Nat.zero_mul, Nat.zero_add] at this
    have y4 : W.cell? ⟨g, 4, none⟩ = some (.int .u32 a.rs) := by have := hc 0 (by rw [List.length_cons]; omega) 4 (.int .u32 a.rs) rfl; rwa [Nat.zero_mul, Nat.zero_add] at this
    have y5 : W.cell? ⟨g, 5, none⟩ = some (.int .u32 a.rg) := by have := hc 0 (by rw [List.length_cons]; omega) 5 (.int .u32 a.rg) rfl; rwa [Nat.zero_mul, Nat.zero_add] at this
    have y6 : W.cell? ⟨g, 6, none⟩ = some (.int .i64 a.rd) := by have := hc 0 (by rw [List.length_cons]; omega) 6 (.int .i64 a.rd) rfl; rwa [Nat.zero_mul, Nat.zero_add] at this
    have y7 : W.cell? ⟨g, 7, none⟩ = some (.int .i64 a.ar) := by have := hc 0 (by rw [List.length_cons]; omega) 7 (.int .i64 a.ar) rfl; rwa [Nat.zero_mul, Nat.zero_add] at this
    have y8 : W.cell? ⟨g, 8, none⟩ = some (.int .i64 a.vn) := by have := hc 0 (by rw [List.length_cons]; omega) 8 (.int .i64 a.vn) rfl; rwa [Nat.zero_mul, Nat.zero_add] at this
    have y9 : W.cell? ⟨g, 9, none⟩ = some (.int .u32 a.vs) := by have := hc 0 (by rw [List.length_cons]; omega) 9 (.int .u32 a.vs) rfl; rwa [Nat.zero_mul, Nat.zero_add] at this
    have y10 : W.cell? ⟨g, 10, none⟩ = some (.int .u32 a.vg) := by have := hc 0 (by rw [List.length_cons]; omega) 10 (.int .u32 a.vg) rfl; rwa [Nat.zero_mul, Nat.zero_add] at this
    have x0 : W.cell? ⟨X, 0, none⟩ = some (.int .u32 a.ms) := by simp [Lib.cell_of_heap hX]
    have x1 : W.cell? ⟨X, 1, none⟩ = some (.int .u32 a.mg) := by simp [Lib.cell_of_heap hX]
    have x2 : W.cell? ⟨X, 2, none⟩ = some (.int .u32 a.ws) := by simp [Lib.cell_of_heap hX]
    have x3 : W.cell? ⟨X, 3, none⟩ = some (.int .u32 a.wg) := by simp [Lib.cell_of_heap hX]
    have x4 : W.cell? ⟨X, 4, none⟩ = some (.int .u32 a.rs) := by simp [Lib.cell_of_heap hX]
    have x5 : W.cell? ⟨X, 5, none⟩ = some (.int .u32 a.rg) := by simp [Lib.cell_of_heap hX]
    have x6 : W.cell? ⟨X, 6, none⟩ = some (.int .i64 a.rd) := by simp [Lib.cell_of_heap hX]
    have x7 : W.cell? ⟨X, 7, none⟩ = some (.int .i64 a.ar) := by simp [Lib.cell_of_heap hX]
    have x8 : W.cell? ⟨X, 8, none⟩ = some (.int .i64 a.vn) := by simp [Lib.cell_of_heap hX]
    have x9 : W.cell? ⟨X, 9, none⟩ = some (.int .u32 a.vs) := by simp [Lib.cell_of_heap hX]
    have x10 : W.cell? ⟨X, 10, none⟩ = some (.int .u32 a.vg) := by simp [Lib.cell_of_heap hX]
    clear hc hX hr e1 e2 hl
    go_quiet (fail)
    exact HK.out _ _ _ _ _ _ _ _ _ _ _ _ _ _ _ (Ch.drewN _ _)

end Go.Proofs.Ythnnpipekeanoaa

namespace Go.Proofs.Ythnnpipekeanoaa
open Go.RowKit

set_option maxRecDepth 100000 in
set_option maxHeartbeats 16000000 in
theorem r51 {u0 u1 u2 u3 u4 u7 u8 u9 u10 u11 u12 u13 u14 u16 u17 u18 u19 u20 u21 u22 u23 u25 u26 u27 u28 u29 u30 u31 u32 u33 u34 u35 u36 u37 u38 u39 u40 u41 u42 u43 u44 u45 u46 u47 u48 u49 u50 u51 u52 u53 u54 u55 u56 u57 u58 u59 u60 u61 u62 u63 u64 u65 u66 u67 u68 u69 u70 u71 u72 u73 u74 u75 u76 u77 u78 u79 u80 u81 u82 u83 u84 u85 u86 u87 u88 u89 u90 u91 u92 u93 u94 u95 u96 u97 u98 u99 u100 u101 u102 u103 u104 u105 u106 u107 u108 u109 u110 u111 u112 u113 u114 u115 u116 u117 u118 u119 u120 u121 u122 u123 u124 u125 u126 u127 u128 u129 u130 u131 u132 u133 u134 u135 u136 u137 u138 u139 u140 u141 u142 u143 u144 u145 u146 u147 u148 u149 u150 u151 u152 u153 u154 u155 u156 u157 u158 u159 u160 u161 u162 u163 u164 u165 u166 u167 u168 u169 u170 u171 u172 u173 u174 u175 u176 u177 u178 u179 u180 u181 u182 u183 u184 u185 u186 u187 u188 u189 u190 u191 u192 u193 u194 u195 u196 u197 u198 u199 u200 u201 u202 u203 u204 u205 u206 u207 u208 u209 u210 u211 u212 u213 u214 u215 u216 u217 u218 u219 u220 u221 u222 u223 u224 u225 u226 u227 u228 u229 u230 u231 u232 u233 u234 u235 u236 u237 u238 u239 u240 u241 u242 u243 u244 u245 u246 u247 u248 u249 u250 u251 u252 u253 u254 u255 u256 u257 u258 u259 u260 u261 u262 u263 u264 u265 u266 u267 u268 u269 u270 u271 u272 u273 u274 u275 u276 u277 u278 u279 u280 u281 u282 u283 u284 u285 u286 u287 u288 u289 u290 u291 u292 u293 u294 u295 u296 u297 u298 u299 u300 u301 : Value} {W : World} {tg tc og oc n kk j : Nat} {t : Wt} {rs rg rd : Int} (htg : tg < W.heap.size) (hog : og < W.heap.size) (hj : j < n) (hkk : kk < n) (zo : W.cell? ⟨og, j, none⟩ = some (.int .i64 (if t.o then 1 else 0)))
    (z4 : W.cell? ⟨tg, j * 11 + 4, none⟩ = some (.int .u32 t.r.rs)) (z5 : W.cell? ⟨tg, j * 11 + 5, none⟩ = some (.int .u32 t.r.rg)) (z6 : W.cell? ⟨tg, j * 11 + 6, none⟩ = some (.int .i64 t.r.rd)) (y4 : W.cell? ⟨tg, kk * 11 + 4, none⟩ = some (.int .u32 rs)) (y5 : W.cell? ⟨tg, kk * 11 + 5, none⟩ = some (.int .u32 rg)) (y6 : W.cell? ⟨tg, kk * 11 + 6, none⟩ = some (.int .i64 rd))
    {K : Act → World → Prop} (hK0 : ∀ (u263 u264 u265 u266 u267 u268 u269 u270 u271 u272 u273 u274 u275 u276 u277 u278 u279 : Value) (W' : World), Ch (fun _ => False) W W' → K { tmps := List.toArray (u0 :: u1 :: u2 :: u3 :: u4 :: (.slice (some ⟨tg, 0, none⟩) n tc) :: (.slice (some ⟨og, 0, none⟩) n oc) :: u7 :: u8 :: u9 :: u10 :: u11 :: u12 :: u13 :: u14 :: (.int .i64 (kk : Int)) :: u16 :: u17 :: u18 :: u19 :: u20 :: u21 :: u22 :: u23 :: (.int .i64 (j : Int)) :: u25 :: u26 :: u27 :: u28 :: u29 :: u30 :: u31 :: u32 :: u33 :: u34 :: u35 :: u36 :: u37 :: u38 :: u39 :: u40 :: u41 :: u42 :: u43 :: u44 :: u45 :: u46 :: u47 :: u48 :: u49 :: u50 :: u51 :: u52 :: u53 :: u54 :: u55 :: u56 :: u57 :: u58 :: u59 :: u60 :: u61 :: u62 :: u63 :: u64 :: u65 :: u66 :: u67 :: u68 :: u69 :: u70 :: u71 :: u72 :: u73 :: u74 :: u75 :: u76 :: u77 :: u78 :: u79 :: u80 :: u81 :: u82 :: u83 :: u84 :: u85 :: u86 :: u87 :: u88 :: u89 :: u90 :: u91 :: u92 :: u93 :: u94 :: u95 :: u96 :: u97 :: u98 :: u99 :: u100 :: u101 :: u102 :: u103 :: u104 :: u105 :: u106 :: u107 :: u108 :: u109 :: u110 :: u111 :: u112 :: u113 :: u114 :: u115 :: u116 :: u117 :: u118 :: u119 :: u120 :: u121 :: u122 :: u123 :: u124 :: u125 :: u126 :: u127 :: u128 :: u129 :: u130 :: u131 :: u132 :: u133 :: u134 :: u135 :: u136 :: u137 :: u138 :: u139 :: u140 :: u141 :: u142 :: u143 :: u144 :: u145 :: u146 :: u147 :: u148 :: u149 :: u150 :: u151 :: u152 :: u153 :: u154 :: u155 :: u156 :: u157 :: u158 :: u159 :: u160 :: u161 :: u162 :: u163 :: u164 :: u165 :: u166 :: u167 :: u168 :: u169 :: u170 :: u171 :: u172 :: u173 :: u174 :: u175 :: u176 :: u177 :: u178 :: u179 :: u180 :: u181 :: u182 :: u183 :: u184 :: u185 :: u186 :: u187 :: u188 :: u189 :: u190 :: u191 :: u192 :: u193 :: u194 :: u195 :: u196 :: u197 :: u198 :: u199 :: u200 :: u201 :: u202 :: u203 :: u204 :: u205 :: u206 :: u207 :: u208 :: u209 :: u210 :: u211 :: u212 :: u213 :: u214 :: u215 :: u216 :: u217 :: u218 :: u219 :: u220 :: u221 :: u222 :: u223 :: u224 :: u225 :: u226 :: u227 :: u228 :: u229 :: u230 :: u231 :: u232 :: u233 :: u234 :: u235 :: u236 :: u237 :: u238 :: u239 :: u240 :: u241 :: u242 :: u243 :: u244 :: u245 :: u246 :: u247 :: u248 :: u249 :: u250 :: u251 :: u252 :: u253 :: u254 :: u255 :: u256 :: u257 :: u258 :: u259 :: u260 :: u261 :: u262 :: u263 :: u264 :: u265 :: u266 :: u267 :: u268 :: u269 :: u270 :: u271 :: u272 :: u273 :: u274 :: u275 :: u276 :: u277 :: u278 :: u279 :: (.bool (inRow rs rg rd t)) :: u281 :: u282 :: u283 :: u284 :: u285 :: u286 :: u287 :: u288 :: u289 :: u290 :: u291 :: u292 :: u293 :: u294 :: u295 :: u296 :: u297 :: u298 :: u299 :: u300 :: u301 :: []), defers := [] } W') :
    (Code.region 51 (List.toArray (sz0 :: sz1 :: sz2 :: sz3 :: sz4 :: sz5 :: sz6 :: sz7 :: sz8 :: sz9 :: sz10 :: sz11 :: sz12 :: sz13 :: sz14 :: sz15 :: sz16 :: sz17 :: [])) true).wp Try.prog (Exit.then K (fun _ _ _ => False)) { tmps := List.toArray (u0 :: u1 :: u2 :: u3 :: u4 :: (.slice (some ⟨tg, 0, none⟩) n tc) :: (.slice (some ⟨og, 0, none⟩) n oc) :: u7 :: u8 :: u9 :: u10 :: u11 :: u12 :: u13 :: u14 :: (.int .i64 (kk : Int)) :: u16 :: u17 :: u18 :: u19 :: u20 :: u21 :: u22 :: u23 :: (.int .i64 (j : Int)) :: u25 :: u26 :: u27 :: u28 :: u29 :: u30 :: u31 :: u32 :: u33 :: u34 :: u35 :: u36 :: u37 :: u38 :: u39 :: u40 :: u41 :: u42 :: u43 :: u44 :: u45 :: u46 :: u47 :: u48 :: u49 :: u50 :: u51 :: u52 :: u53 :: u54 :: u55 :: u56 :: u57 :: u58 :: u59 :: u60 :: u61 :: u62 :: u63 :: u64 :: u65 :: u66 :: u67 :: u68 :: u69 :: u70 :: u71 :: u72 :: u73 :: u74 :: u75 :: u76 :: u77 :: u78 :: u79 :: u80 :: u81 :: u82 :: u83 :: u84 :: u85 :: u86 :: u87 :: u88 :: u89 :: u90 :: u91 :: u92 :: u93 :: u94 :: u95 :: u96 :: u97 :: u98 :: u99 :: u100 :: u101 :: u102 :: u103 :: u104 :: u105 :: u106 :: u107 :: u108 :: u109 :: u110 :: u111 :: u112 :: u113 :: u114 :: u115 :: u116 :: u117 :: u118 :: u119 :: u120 :: u121 :: u122 :: u123 :: u124 :: u125 :: u126 :: u127 :: u128 :: u129 :: u130 :: u131 :: u132 :: u133 :: u134 :: u135 :: u136 :: u137 :: u138 :: u139 :: u140 :: u141 :: u142 :: u143 :: u144 :: u145 :: u146 :: u147 :: u148 :: u149 :: u150 :: u151 :: u152 :: u153 :: u154 :: u155 :: u156 :: u157 :: u158 :: u159 :: u160 :: u161 :: u162 :: u163 :: u164 :: u165 :: u166 :: u167 :: u168 :: u169 :: u170 :: u171 :: u172 :: u173 :: u174 :: u175 :: u176 :: u177 :: u178 :: u179 :: u180 :: u181 :: u182 :: u183 :: u184 :: u185 :: u186 :: u187 :: u188 :: u189 :: u190 :: u191 :: u192 :: u193 :: u194 :: u195 :: u196 :: u197 :: u198 :: u199 :: u200 :: u201 :: u202 :: u203 :: u204 :: u205 :: u206 :: u207 :: u208 :: u209 :: u210 :: u211 :: u212 :: u213 :: u214 :: u215 :: u216 :: u217 :: u218 :: u219 :: u220 :: u221 :: u222 :: u223 :: u224 :: u225 :: u226 :: u227 :: u228 :: u229 :: u230 :: u231 :: u232 :: u233 :: u234 :: u235 :: u236 :: u237 :: u238 :: u239 :: u240 :: u241 :: u242 :: u243 :: u244 :: u245 :: u246 :: u247 :: u248 :: u249 :: u250 :: u251 :: u252 :: u253 :: u254 :: u255 :: u256 :: u257 :: u258 :: u259 :: u260 :: u261 :: u262 :: u263 :: u264 :: u265 :: u266 :: u267 :: u268 :: u269 :: u270 :: u271 :: u272 :: u273 :: u274 :: u275 :: u276 :: u277 :: u278 :: u279 :: u280 :: u281 :: u282 :: u283 :: u284 :: u285 :: u286 :: u287 :: u288 :: u289 :: u290 :: u291 :: u292 :: u293 :: u294 :: u295 :: u296 :: u297 :: u298 :: u299 :: u300 :: u301 :: []), defers := [] } W := by
  have HK := hide hK0
  clear hK0
  have p1 : (j : Int) < (n : Int) := by omega
  have p2 : (kk : Int) < (n : Int) := by omega
  unfold inRow at HK
  cases ho : t.o with
  | true =>
    rw [ho] at HK
    rw [show (!true && (decide (t.r.rs = rs) && (decide (t.r.rg = rg) && decide (t.r.rd = rd)))) = false from rfl] at HK
    rw [ho] at zo
    replace zo : W.cell? ⟨og, j, none⟩ = some (.int .i64 1) := zo
    clear ho
    refine wp_reg (fun _ => False) (R := fun V => Ch (fun _ => False) W V) (by kernel_rfl) (Ch.drew _) ?_
    rintro V hv zk
    have HV := hide hv
    clear hv
    apply tk 0 sz0 rfl (by kernel_rfl) (fun _ _ _ h => h) zk
    · intro wq zq
      go_simp
      try rfl
    go_frame
    apply tk 1 sz1 rfl (by kernel_rfl) (fun _ _ _ h => h) zk
    · intro wq zq
      go_simp
      try rfl
    go_frame
    apply tk 2 sz2 rfl (by kernel_rfl) (fun _ _ _ h => h) zk
    · intro wq zq
      go_simp
      try rfl
    go_frame
    apply tk 3 sz3 rfl (by kernel_rfl) (fun _ _ _ h => h) zk
    · intro wq zq
      have zc := HV.out.trans zq (fun _ _ h => h)
      have s1 := (zc.cell hog (fun h => h) j).trans zo
      clear zc
      go_simp
      try rfl
    go_frame
    apply tk 4 sz4 rfl (by kernel_rfl) (fun _ _ _ h => h) zk
    · intro wq zq
      go_simp
      try rfl
    go_frame
    apply tk 5 sz5 rfl (by kernel_rfl) (fun _ _ _ h => h) zk
    · intro wq zq
      go_simp
      try rfl
    go_frame
    apply sk 6 sz6 rfl (by kernel_rfl) (fun _ _ _ h => h) zk
    go_frame
    apply sk 7 sz7 rfl (by kernel_rfl) (fun _ _ _ h => h) zk
    go_frame
    apply sk 8 sz8 rfl (by kernel_rfl) (fun _ _ _ h => h) zk
    go_frame
    apply sk 9 sz9 rfl (by kernel_rfl) (fun _ _ _ h => h) zk
    go_frame
    apply sk 10 sz10 rfl (by kernel_rfl) (fun _ _ _ h => h) zk
    go_frame
    apply sk 11 sz11 rfl (by kernel_rfl) (fun _ _ _ h => h) zk
    go_frame
    apply sk 12 sz12 rfl (by kernel_rfl) (fun _ _ _ h => h) zk
    go_frame
    apply sk 13 sz13 rfl (by kernel_rfl) (fun _ _ _ h => h) zk
    go_frame
    apply sk 14 sz14 rfl (by kernel_rfl) (fun _ _ _ h => h) zk
    go_frame
    apply sk 15 sz15 rfl (by kernel_rfl) (fun _ _ _ h => h) zk
    go_frame
    apply sk 16 sz16 rfl (by kernel_rfl) (fun _ _ _ h => h) zk
    go_frame
    apply tk 17 sz17 rfl (by kernel_rfl) (fun _ _ _ h => h) zk
    · intro wq zq
      go_simp
      try rfl
    go_frame
    refine wpAnyH_done (by kernel_rfl) ?_ _
    exact HK.out _ _ _ _ _ _ _ _ _ _ _ _ _ _ _ _ _ _ HV.out
  | false =>
    rw [ho] at zo HK
    replace zo : W.cell? ⟨og, j, none⟩ = some (.int .i64 0) := zo
    clear ho
    by_cases e1 : t.r.rs = rs
    · have q1 : (t.r.rs == rs) = true := by simpa using e1
      by_cases e2 : t.r.rg = rg
      · have q2 : (t.r.rg == rg) = true := by simpa using e2
        by_cases e3 : t.r.rd = rd
        · have q3 : (t.r.rd == rd) = true := by simpa using e3
          rw [show (!false && (decide (t.r.rs = rs) && (decide (t.r.rg = rg) && decide (t.r.rd = rd)))) = true by simp [e1, e2, e3]] at HK
          clear e1 e2 e3
          refine wp_reg (fun _ => False) (R := fun V => Ch (fun _ => False) W V) (by kernel_rfl) (Ch.drew _) ?_
          rintro V hv zk
          have HV := hide hv
          clear hv
          apply tk 0 sz0 rfl (by kernel_rfl) (fun _ _ _ h => h) zk
          · intro wq zq
            go_simp
            try rfl
          go_frame
          apply tk 1 sz1 rfl (by kernel_rfl) (fun _ _ _ h => h) zk
          · intro wq zq
            go_simp
            try rfl
          go_frame
          apply tk 2 sz2 rfl (by kernel_rfl) (fun _ _ _ h => h) zk
          · intro wq zq
            go_simp
            try rfl
          go_frame
          apply tk 3 sz3 rfl (by kernel_rfl) (fun _ _ _ h => h) zk
          · intro wq zq
            have zc := HV.out.trans zq (fun _ _ h => h)
            have s1 := (zc.cell hog (fun h => h) j).trans zo
            clear zc
            go_simp
            try rfl
          go_frame
          apply tk 4 sz4 rfl (by kernel_rfl) (fun _ _ _ h => h) zk
          · intro wq zq
            go_simp
            try rfl
          go_frame
          apply tk 5 sz5 rfl (by kernel_rfl) (fun _ _ _ h => h) zk
          · intro wq zq
            go_simp
            try rfl
          go_frame
          apply tk 6 sz6 rfl (by kernel_rfl) (fun _ _ _ h => h) zk
          · intro wq zq
            go_simp
            try rfl
          go_frame
          apply tk 7 sz7 rfl (by kernel_rfl) (fun _ _ _ h => h) zk
          · intro wq zq
            go_simp
            try rfl
          go_frame
          apply tk 8 sz8 rfl (by kernel_rfl) (fun _ _ _ h => h) zk
          · intro wq zq
            go_simp
            try rfl
          go_frame
          apply tk 9 sz9 rfl (by kernel_rfl) (fun _ _ _ h => h) zk
          · intro wq zq
            go_simp
            try rfl
          go_frame
          apply tk 10 sz10 rfl (by kernel_rfl) (fun _ _ _ h => h) zk
          · intro wq zq
            have zc := HV.out.trans zq (fun _ _ h => h)
            have s4 := (zc.cell htg (fun h => h) (j * 11 + 4)).trans z4
            have s5 := (zc.cell htg (fun h => h) (j * 11 + 5)).trans z5
            have s6 := (zc.cell htg (fun h => h) (j * 11 + 6)).trans z6
            clear zc
            go_simp
            try rfl
          go_frame
          apply tk 11 sz11 rfl (by kernel_rfl) (fun _ _ _ h => h) zk
          · intro wq zq
            go_simp
            try rfl
          go_frame
          apply tk 12 sz12 rfl (by kernel_rfl) (fun _ _ _ h => h) zk
          · intro wq zq
            go_simp
            try rfl
          go_frame
          apply tk 13 sz13 rfl (by kernel_rfl) (fun _ _ _ h => h) zk
          · intro wq zq
            go_simp
            try rfl
          go_frame
          apply tk 14 sz14 rfl (by kernel_rfl) (fun _ _ _ h => h) zk
          · intro wq zq
            go_simp
            try rfl
          go_frame
          apply tk 15 sz15 rfl (by kernel_rfl) (fun _ _ _ h => h) zk
          · intro wq zq
            have zc := HV.out.trans zq (fun _ _ h => h)
            have s4 := (zc.cell htg (fun h => h) (kk * 11 + 4)).trans y4
            have s5 := (zc.cell htg (fun h => h) (kk * 11 + 5)).trans y5
            have s6 := (zc.cell htg (fun h => h) (kk * 11 + 6)).trans y6
            clear zc
            go_simp
            try rfl
          go_frame
          apply tk 16 sz16 rfl (by kernel_rfl) (fun _ _ _ h => h) zk
          · intro wq zq
            go_simp
            try rfl
          go_frame
          apply tk 17 sz17 rfl (by kernel_rfl) (fun _ _ _ h => h) zk
          · intro wq zq
            go_simp
            try rfl
          go_frame
          refine wpAnyH_done (by kernel_rfl) ?_ _
          exact HK.out _ _ _ _ _ _ _ _ _ _ _ _ _ _ _ _ _ _ HV.out
        · have q3 : (t.r.rd == rd) = false := by simpa using e3
          rw [show (!false && (decide (t.r.rs = rs) && (decide (t.r.rg = rg) && decide (t.r.rd = rd)))) = false by simp [e3]] at HK
          clear e1 e2 e3
          refine wp_reg (fun _ => False) (R := fun V => Ch (fun _ => False) W V) (by kernel_rfl) (Ch.drew _) ?_
          rintro V hv zk
          have HV := hide hv
          clear hv
          apply tk 0 sz0 rfl (by kernel_rfl) (fun _ _ _ h => h) zk
          · intro wq zq
            go_simp
            try rfl
          go_frame
          apply tk 1 sz1 rfl (by kernel_rfl) (fun _ _ _ h => h) zk
          · intro wq zq
            go_simp
            try rfl
          go_frame
          apply tk 2 sz2 rfl (by kernel_rfl) (fun _ _ _ h => h) zk
          · intro wq zq
            go_simp
            try rfl
          go_frame
          apply tk 3 sz3 rfl (by kernel_rfl) (fun _ _ _ h => h) zk
          · intro wq zq
            have zc := HV.out.trans zq (fun _ _ h => h)
            have s1 := (zc.cell hog (fun h => h) j).trans zo
            clear zc
            go_simp
            try rfl
          go_frame
          apply tk 4 sz4 rfl (by kernel_rfl) (fun _ _ _ h => h) zk
          · intro wq zq
            go_simp
            try rfl
          go_frame
          apply tk 5 sz5 rfl (by kernel_rfl) (fun _ _ _ h => h) zk
          · intro wq zq
            go_simp
            try rfl
          go_frame
          apply tk 6 sz6 rfl (by kernel_rfl) (fun _ _ _ h => h) zk
          · intro wq zq
            go_simp
            try rfl
          go_frame
          apply tk 7 sz7 rfl (by kernel_rfl) (fun _ _ _ h => h) zk
          · intro wq zq
            go_simp
            try rfl
          go_frame
          apply tk 8 sz8 rfl (by kernel_rfl) (fun _ _ _ h => h) zk
          · intro wq zq
            go_simp
            try rfl
          go_frame
          apply tk 9 sz9 rfl (by kernel_rfl) (fun _ _ _ h => h) zk
          · intro wq zq
            go_simp
            try rfl
          go_frame
          apply tk 10 sz10 rfl (by kernel_rfl) (fun _ _ _ h => h) zk
          · intro wq zq
            have zc := HV.out.trans zq (fun _ _ h => h)
            have s4 := (zc.cell htg (fun h => h) (j * 11 + 4)).trans z4
            have s5 := (zc.cell htg (fun h => h) (j * 11 + 5)).trans z5
            have s6 := (zc.cell htg (fun h => h) (j * 11 + 6)).trans z6
            clear zc
            go_simp
            try rfl
          go_frame
          apply tk 11 sz11 rfl (by kernel_rfl) (fun _ _ _ h => h) zk
          · intro wq zq
            go_simp
            try rfl
          go_frame
          apply tk 12 sz12 rfl (by kernel_rfl) (fun _ _ _ h => h) zk
          · intro wq zq
            go_simp
            try rfl
          go_frame
          apply tk 13 sz13 rfl (by kernel_rfl) (fun _ _ _ h => h) zk
          · intro wq zq
            go_simp
            try rfl
          go_frame
          apply tk 14 sz14 rfl (by kernel_rfl) (fun _ _ _ h => h) zk
          · intro wq zq
            go_simp
            try rfl
          go_frame
          apply tk 15 sz15 rfl (by kernel_rfl) (fun _ _ _ h => h) zk
          · intro wq zq
            have zc := HV.out.trans zq (fun _ _ h => h)
            have s4 := (zc.cell htg (fun h => h) (kk * 11 + 4)).trans y4
            have s5 := (zc.cell htg (fun h => h) (kk * 11 + 5)).trans y5
            have s6 := (zc.cell htg (fun h => h) (kk * 11 + 6)).trans y6
            clear zc
            go_simp
            try rfl
          go_frame
          apply tk 16 sz16 rfl (by kernel_rfl) (fun _ _ _ h => h) zk
          · intro wq zq
            go_simp
            try rfl
          go_frame
          apply tk 17 sz17 rfl (by kernel_rfl) (fun _ _ _ h => h) zk
          · intro wq zq
            go_simp
            try rfl
          go_frame
          refine wpAnyH_done (by kernel_rfl) ?_ _
          exact HK.out _ _ _ _ _ _ _ _ _ _ _ _ _ _ _ _ _ _ HV.out
      · have q2 : (t.r.rg == rg) = false := by simpa using e2
        rw [show (!false && (decide (t.r.rs = rs) && (decide (t.r.rg = rg) && decide (t.r.rd = rd)))) = false by simp [e2]] at HK
        clear e1 e2
        refine wp_reg (fun _ => False) (R := fun V => Ch (fun _ => False) W V) (by kernel_rfl) (Ch.drew _) ?_
        rintro V hv zk
        have HV := hide hv
        clear hv
        apply tk 0 sz0 rfl (by kernel_rfl) (fun _ _ _ h => h) zk
        · intro wq zq
          go_simp
          try rfl
        go_frame
        apply tk 1 sz1 rfl (by kernel_rfl) (fun _ _ _ h => h) zk
        · intro wq zq
          go_simp
          try rfl
        go_frame
        apply tk 2 sz2 rfl (by kernel_rfl) (fun _ _ _ h => h) zk
        · intro wq zq
          go_simp
          try rfl
        go_frame
        apply tk 3 sz3 rfl (by kernel_rfl) (fun _ _ _ h => h) zk
        · intro wq zq
          have zc := HV.out.trans zq (fun _ _ h => h)
          have s1 := (zc.cell hog (fun h => h) j).trans zo
          clear zc
          go_simp
          try rfl
        go_frame
        apply tk 4 sz4 rfl (by kernel_rfl) (fun _ _ _ h => h) zk
        · intro wq zq
          go_simp
          try rfl
        go_frame
        apply tk 5 sz5 rfl (by kernel_rfl) (fun _ _ _ h => h) zk
        · intro wq zq
          go_simp
          try rfl
        go_frame
        apply tk 6 sz6 rfl (by kernel_rfl) (fun _ _ _ h => h) zk
        · intro wq zq
          go_simp
          try rfl
        go_frame
        apply tk 7 sz7 rfl (by kernel_rfl) (fun _ _ _ h => h) zk
        · intro wq zq
          go_simp
          try rfl
        go_frame
        apply tk 8 sz8 rfl (by kernel_rfl) (fun _ _ _ h => h) zk
        · intro wq zq
          go_simp
          try rfl
        go_frame
        apply tk 9 sz9 rfl (by kernel_rfl) (fun _ _ _ h => h) zk
        · intro wq zq
          go_simp
          try rfl
        go_frame
        apply tk 10 sz10 rfl (by kernel_rfl) (fun _ _ _ h => h) zk
        · intro wq zq
          have zc := HV.out.trans zq (fun _ _ h => h)
          have s4 := (zc.cell htg (fun h => h) (j * 11 + 4)).trans z4
          have s5 := (zc.cell htg (fun h => h) (j * 11 + 5)).trans z5
          have s6 := (zc.cell htg (fun h => h) (j * 11 + 6)).trans z6
          clear zc
          go_simp
          try rfl
        go_frame
        apply tk 11 sz11 rfl (by kernel_rfl) (fun _ _ _ h => h) zk
        · intro wq zq
          go_simp
          try rfl
        go_frame
        apply tk 12 sz12 rfl (by kernel_rfl) (fun _ _ _ h => h) zk
        · intro wq zq
          go_simp
          try rfl
        go_frame
        apply tk 13 sz13 rfl (by kernel_rfl) (fun _ _ _ h => h) zk
        · intro wq zq
          go_simp
          try rfl
        go_frame
        apply tk 14 sz14 rfl (by kernel_rfl) (fun _ _ _ h => h) zk
        · intro wq zq
          go_simp
          try rfl
        go_frame
        apply tk 15 sz15 rfl (by kernel_rfl) (fun _ _ _ h => h) zk
        · intro wq zq
          have zc := HV.out.trans zq (fun _ _ h => h)
          have s4 := (zc.cell htg (fun h => h) (kk * 11 + 4)).trans y4
          have s5 := (zc.cell htg (fun h => h) (kk * 11 + 5)).trans y5
          have s6 := (zc.cell htg (fun h => h) (kk * 11 + 6)).trans y6
          clear zc
          go_simp
          try rfl
        go_frame
        apply tk 16 sz16 rfl (by kernel_rfl) (fun _ _ _ h => h) zk
        · intro wq zq
          go_simp
          try rfl
        go_frame
        apply tk 17 sz17 rfl (by kernel_rfl) (fun _ _ _ h => h) zk
        · intro wq zq
          go_simp
          try rfl
        go_frame
        refine wpAnyH_done (by kernel_rfl) ?_ _
        exact HK.out _ _ _ _ _ _ _ _ _ _ _ _ _ _ _ _ _ _ HV.out
    · have q1 : (t.r.rs == rs) = false := by simpa using e1
      rw [show (!false && (decide (t.r.rs = rs) && (decide (t.r.rg = rg) && decide (t.r.rd = rd)))) = false by simp [e1]] at HK
      clear e1
      refine wp_reg (fun _ => False) (R := fun V => Ch (fun _ => False) W V) (by kernel_rfl) (Ch.drew _) ?_
      rintro V hv zk
      have HV := hide hv
      clear hv
      apply tk 0 sz0 rfl (by kernel_rfl) (fun _ _ _ h => h) zk
      · intro wq zq
        go_simp
        try rfl
      go_frame
      apply tk 1 sz1 rfl (by kernel_rfl) (fun _ _ _ h => h) zk
      · intro wq zq
        go_simp
        try rfl
      go_frame
      apply tk 2 sz2 rfl (by kernel_rfl) (fun _ _ _ h => h) zk
      · intro wq zq
        go_simp
        try rfl
      go_frame
      apply tk 3 sz3 rfl (by kernel_rfl) (fun _ _ _ h => h) zk
      · intro wq zq
        have zc := HV.out.trans zq (fun _ _ h => h)
        have s1 := (zc.cell hog (fun h => h) j).trans zo
        clear zc
        go_simp
        try rfl
      go_frame
      apply tk 4 sz4 rfl (by kernel_rfl) (fun _ _ _ h => h) zk
      · intro wq zq
        go_simp
        try rfl
      go_frame
      apply tk 5 sz5 rfl (by kernel_rfl) (fun _ _ _ h => h) zk
      · intro wq zq
        go_simp
        try rfl
      go_frame
      apply tk 6 sz6 rfl (by kernel_rfl) (fun _ _ _ h => h) zk
      · intro wq zq
        go_simp
        try rfl
      go_frame
      apply tk 7 sz7 rfl (by kernel_rfl) (fun _ _ _ h => h) zk
      · intro wq zq
        go_simp
        try rfl
      go_frame
      apply tk 8 sz8 rfl (by kernel_rfl) (fun _ _ _ h => h) zk
      · intro wq zq
        go_simp
        try rfl
      go_frame
      apply tk 9 sz9 rfl (by kernel_rfl) (fun _ _ _ h => h) zk
      · intro wq zq
        go_simp
        try rfl
      go_frame
      apply tk 10 sz10 rfl (by kernel_rfl) (fun _ _ _ h => h) zk
      · intro wq zq
        have zc := HV.out.trans zq (fun _ _ h => h)
        have s4 := (zc.cell htg (fun h => h) (j * 11 + 4)).trans z4
        have s5 := (zc.cell htg (fun h => h) (j * 11 + 5)).trans z5
        have s6 := (zc.cell htg (fun h => h) (j * 11 + 6)).trans z6
        clear zc
        go_simp
        try rfl
      go_frame
      apply tk 11 sz11 rfl (by kernel_rfl) (fun _ _ _ h => h) zk
      · intro wq zq
        go_simp
        try rfl
      go_frame
      apply tk 12 sz12 rfl (by kernel_rfl) (fun _ _ _ h => h) zk
      · intro wq zq
        go_simp
        try rfl
      go_frame
      apply tk 13 sz13 rfl (by kernel_rfl) (fun _ _ _ h => h) zk
      · intro wq zq
        go_simp
        try rfl
      go_frame
      apply tk 14 sz14 rfl (by kernel_rfl) (fun _ _ _ h => h) zk
      · intro wq zq
        go_simp
        try rfl
      go_frame
      apply tk 15 sz15 rfl (by kernel_rfl) (fun _ _ _ h => h) zk
      · intro wq zq
        have zc := HV.out.trans zq (fun _ _ h => h)
        have s4 := (zc.cell htg (fun h => h) (kk * 11 + 4)).trans y4
        have s5 := (zc.cell htg (fun h => h) (kk * 11 + 5)).trans y5
        have s6 := (zc.cell htg (fun h => h) (kk * 11 + 6)).trans y6
        clear zc
        go_simp
        try rfl
      go_frame
      apply tk 16 sz16 rfl (by kernel_rfl) (fun _ _ _ h => h) zk
      · intro wq zq
        go_simp
        try rfl
      go_frame
      apply tk 17 sz17 rfl (by kernel_rfl) (fun _ _ _ h => h) zk
      · intro wq zq
        go_simp
        try rfl
      go_frame
      refine wpAnyH_done (by kernel_rfl) ?_ _
      exact HK.out _ _ _ _ _ _ _ _ _ _ _ _ _ _ _ _ _ _ HV.out

end Go.Proofs.Ythnnpipekeanoaa

namespace Go.Proofs.Ythnnpipekeanoaa
open Go.RowKit

set_option maxRecDepth 100000 in
set_option maxHeartbeats 16000000 in
theorem r52 {u0 u1 u2 u3 u4 u6 u7 u8 u9 u10 u11 u12 u13 u14 u15 u16 u17 u18 u20 u21 u22 u25 u26 u27 u28 u29 u30 u31 u32 u33 u34 u35 u36 u37 u38 u39 u40 u41 u42 u43 u44 u45 u46 u47 u48 u49 u50 u51 u52 u53 u54 u55 u56 u57 u58 u59 u60 u61 u62 u63 u64 u65 u66 u67 u68 u69 u70 u71 u72 u73 u74 u75 u76 u77 u78 u79 u80 u81 u82 u83 u84 u85 u86 u87 u88 u89 u90 u91 u92 u93 u94 u95 u96 u97 u98 u99 u100 u101 u102 u103 u104 u105 u106 u107 u108 u109 u110 u111 u112 u113 u114 u115 u116 u117 u118 u119 u120 u121 u122 u123 u124 u125 u126 u127 u128 u129 u130 u131 u132 u133 u134 u135 u136 u137 u138 u139 u140 u141 u142 u143 u144 u145 u146 u147 u148 u149 u150 u151 u152 u153 u154 u155 u156 u157 u158 u159 u160 u161 u162 u163 u164 u165 u166 u167 u168 u169 u170 u171 u172 u173 u174 u175 u176 u177 u178 u179 u180 u181 u182 u183 u184 u185 u186 u187 u188 u189 u190 u191 u192 u193 u194 u195 u196 u197 u198 u199 u200 u201 u202 u203 u204 u205 u206 u207 u208 u209 u210 u211 u212 u213 u214 u215 u216 u217 u218 u219 u220 u221 u222 u223 u224 u225 u226 u227 u228 u229 u230 u231 u232 u233 u234 u235 u236 u237 u238 u239 u240 u241 u242 u243 u244 u245 u246 u247 u248 u249 u250 u251 u252 u253 u254 u255 u256 u257 u258 u259 u260 u261 u262 u263 u264 u265 u266 u267 u268 u269 u270 u271 u272 u273 u274 u275 u276 u277 u278 u279 u280 u281 u282 u283 u284 u285 u286 u287 u288 u289 u290 u291 u292 u293 u294 u295 u296 u297 u298 u299 u300 u301 : Value} {W : World} {tg tc n j a sl rc g : Nat} {r : Rc} (hj : j < n) (ha : a < sl)
    (z0 : W.cell? ⟨tg, j * 11, none⟩ = some (.int .u32 r.ms)) (z1 : W.cell? ⟨tg, j * 11 + 1, none⟩ = some (.int .u32 r.mg)) (z2 : W.cell? ⟨tg, j * 11 + 2, none⟩ = some (.int .u32 r.ws)) (z3 : W.cell? ⟨tg, j * 11 + 3, none⟩ = some (.int .u32 r.wg)) (z4 : W.cell? ⟨tg, j * 11 + 4, none⟩ = some (.int .u32 r.rs)) (z5 : W.cell? ⟨tg, j * 11 + 5, none⟩ = some (.int .u32 r.rg)) (z6 : W.cell? ⟨tg, j * 11 + 6, none⟩ = some (.int .i64 r.rd)) (z7 : W.cell? ⟨tg, j * 11 + 7, none⟩ = some (.int .i64 r.ar)) (z8 : W.cell? ⟨tg, j * 11 + 8, none⟩ = some (.int .i64 r.vn)) (z9 : W.cell? ⟨tg, j * 11 + 9, none⟩ = some (.int .u32 r.vs)) (z10 : W.cell? ⟨tg, j * 11 + 10, none⟩ = some (.int .u32 r.vg))
    (y0 : W.cell? ⟨g, a * 11, none⟩ = some (.int .u32 r.ms)) (y1 : W.cell? ⟨g, a * 11 + 1, none⟩ = some (.int .u32 r.mg)) (y2 : W.cell? ⟨g, a * 11 + 2, none⟩ = some (.int .u32 r.ws)) (y3 : W.cell? ⟨g, a * 11 + 3, none⟩ = some (.int .u32 r.wg)) (y4 : W.cell? ⟨g, a * 11 + 4, none⟩ = some (.int .u32 r.rs)) (y5 : W.cell? ⟨g, a * 11 + 5, none⟩ = some (.int .u32 r.rg)) (y6 : W.cell? ⟨g, a * 11 + 6, none⟩ = some (.int .i64 r.rd)) (y7 : W.cell? ⟨g, a * 11 + 7, none⟩ = some (.int .i64 r.ar)) (y8 : W.cell? ⟨g, a * 11 + 8, none⟩ = some (.int .i64 r.vn)) (y9 : W.cell? ⟨g, a * 11 + 9, none⟩ = some (.int .u32 r.vs)) (y10 : W.cell? ⟨g, a * 11 + 10, none⟩ = some (.int .u32 r.vg))
    {K : Act → World → Prop} (hK0 : ∀ (u281 u282 u283 u284 u285 u286 u287 u288 u289 u290 u291 u292 u293 u294 : Value) (W' : World), Ch (fun _ => False) W W' → K { tmps := List.toArray (u0 :: u1 :: u2 :: u3 :: u4 :: (.slice (some ⟨tg, 0, none⟩) n tc) :: u6 :: u7 :: u8 :: u9 :: u10 :: u11 :: u12 :: u13 :: u14 :: u15 :: u16 :: u17 :: u18 :: (.slice (some ⟨g, 0, none⟩) sl rc) :: u20 :: u21 :: u22 :: (.int .i64 (a : Int)) :: (.int .i64 (j : Int)) :: u25 :: u26 :: u27 :: u28 :: u29 :: u30 :: u31 :: u32 :: u33 :: u34 :: u35 :: u36 :: u37 :: u38 :: u39 :: u40 :: u41 :: u42 :: u43 :: u44 :: u45 :: u46 :: u47 :: u48 :: u49 :: u50 :: u51 :: u52 :: u53 :: u54 :: u55 :: u56 :: u57 :: u58 :: u59 :: u60 :: u61 :: u62 :: u63 :: u64 :: u65 :: u66 :: u67 :: u68 :: u69 :: u70 :: u71 :: u72 :: u73 :: u74 :: u75 :: u76 :: u77 :: u78 :: u79 :: u80 :: u81 :: u82 :: u83 :: u84 :: u85 :: u86 :: u87 :: u88 :: u89 :: u90 :: u91 :: u92 :: u93 :: u94 :: u95 :: u96 :: u97 :: u98 :: u99 :: u100 :: u101 :: u102 :: u103 :: u104 :: u105 :: u106 :: u107 :: u108 :: u109 :: u110 :: u111 :: u112 :: u113 :: u114 :: u115 :: u116 :: u117 :: u118 :: u119 :: u120 :: u121 :: u122 :: u123 :: u124 :: u125 :: u126 :: u127 :: u128 :: u129 :: u130 :: u131 :: u132 :: u133 :: u134 :: u135 :: u136 :: u137 :: u138 :: u139 :: u140 :: u141 :: u142 :: u143 :: u144 :: u145 :: u146 :: u147 :: u148 :: u149 :: u150 :: u151 :: u152 :: u153 :: u154 :: u155 :: u156 :: u157 :: u158 :: u159 :: u160 :: u161 :: u162 :: u163 :: u164 :: u165 :: u166 :: u167 :: u168 :: u169 :: u170 :: u171 :: u172 :: u173 :: u174 :: u175 :: u176 :: u177 :: u178 :: u179 :: u180 :: u181 :: u182 :: u183 :: u184 :: u185 :: u186 :: u187 :: u188 :: u189 :: u190 :: u191 :: u192 :: u193 :: u194 :: u195 :: u196 :: u197 :: u198 :: u199 :: u200 :: u201 :: u202 :: u203 :: u204 :: u205 :: u206 :: u207 :: u208 :: u209 :: u210 :: u211 :: u212 :: u213 :: u214 :: u215 :: u216 :: u217 :: u218 :: u219 :: u220 :: u221 :: u222 :: u223 :: u224 :: u225 :: u226 :: u227 :: u228 :: u229 :: u230 :: u231 :: u232 :: u233 :: u234 :: u235 :: u236 :: u237 :: u238 :: u239 :: u240 :: u241 :: u242 :: u243 :: u244 :: u245 :: u246 :: u247 :: u248 :: u249 :: u250 :: u251 :: u252 :: u253 :: u254 :: u255 :: u256 :: u257 :: u258 :: u259 :: u260 :: u261 :: u262 :: u263 :: u264 :: u265 :: u266 :: u267 :: u268 :: u269 :: u270 :: u271 :: u272 :: u273 :: u274 :: u275 :: u276 :: u277 :: u278 :: u279 :: u280 :: u281 :: u282 :: u283 :: u284 :: u285 :: u286 :: u287 :: u288 :: u289 :: u290 :: u291 :: u292 :: u293 :: u294 :: (.bool false) :: u296 :: u297 :: u298 :: u299 :: u300 :: u301 :: []), defers := [] } W') :
    (Code.region 52 (List.toArray (sw0 :: sw1 :: sw2 :: sw3 :: sw4 :: sw5 :: sw6 :: sw7 :: sw8 :: sw9 :: sw10 :: sw11 :: sw12 :: sw13 :: sw14 :: [])) true).wp Try.prog (Exit.then K (fun _ _ _ => False)) { tmps := List.toArray (u0 :: u1 :: u2 :: u3 :: u4 :: (.slice (some ⟨tg, 0, none⟩) n tc) :: u6 :: u7 :: u8 :: u9 :: u10 :: u11 :: u12 :: u13 :: u14 :: u15 :: u16 :: u17 :: u18 :: (.slice (some ⟨g, 0, none⟩) sl rc) :: u20 :: u21 :: u22 :: (.int .i64 (a : Int)) :: (.int .i64 (j : Int)) :: u25 :: u26 :: u27 :: u28 :: u29 :: u30 :: u31 :: u32 :: u33 :: u34 :: u35 :: u36 :: u37 :: u38 :: u39 :: u40 :: u41 :: u42 :: u43 :: u44 :: u45 :: u46 :: u47 :: u48 :: u49 :: u50 :: u51 :: u52 :: u53 :: u54 :: u55 :: u56 :: u57 :: u58 :: u59 :: u60 :: u61 :: u62 :: u63 :: u64 :: u65 :: u66 :: u67 :: u68 :: u69 :: u70 :: u71 :: u72 :: u73 :: u74 :: u75 :: u76 :: u77 :: u78 :: u79 :: u80 :: u81 :: u82 :: u83 :: u84 :: u85 :: u86 :: u87 :: u88 :: u89 :: u90 :: u91 :: u92 :: u93 :: u94 :: u95 :: u96 :: u97 :: u98 :: u99 :: u100 :: u101 :: u102 :: u103 :: u104 :: u105 :: u106 :: u107 :: u108 :: u109 :: u110 :: u111 :: u112 :: u113 :: u114 :: u115 :: u116 :: u117 :: u118 :: u119 :: u120 :: u121 :: u122 :: u123 :: u124 :: u125 :: u126 :: u127 :: u128 :: u129 :: u130 :: u131 :: u132 :: u133 :: u134 :: u135 :: u136 :: u137 :: u138 :: u139 :: u140 :: u141 :: u142 :: u143 :: u144 :: u145 :: u146 :: u147 :: u148 :: u149 :: u150 :: u151 :: u152 :: u153 :: u154 :: u155 :: u156 :: u157 :: u158 :: u159 :: u160 :: u161 :: u162 :: u163 :: u164 :: u165 :: u166 :: u167 :: u168 :: u169 :: u170 :: u171 :: u172 :: u173 :: u174 :: u175 :: u176 :: u177 :: u178 :: u179 :: u180 :: u181 :: u182 :: u183 :: u184 :: u185 :: u186 :: u187 :: u188 :: u189 :: u190 :: u191 :: u192 :: u193 :: u194 :: u195 :: u196 :: u197 :: u198 :: u199 :: u200 :: u201 :: u202 :: u203 :: u204 :: u205 :: u206 :: u207 :: u208 :: u209 :: u210 :: u211 :: u212 :: u213 :: u214 :: u215 :: u216 :: u217 :: u218 :: u219 :: u220 :: u221 :: u222 :: u223 :: u224 :: u225 :: u226 :: u227 :: u228 :: u229 :: u230 :: u231 :: u232 :: u233 :: u234 :: u235 :: u236 :: u237 :: u238 :: u239 :: u240 :: u241 :: u242 :: u243 :: u244 :: u245 :: u246 :: u247 :: u248 :: u249 :: u250 :: u251 :: u252 :: u253 :: u254 :: u255 :: u256 :: u257 :: u258 :: u259 :: u260 :: u261 :: u262 :: u263 :: u264 :: u265 :: u266 :: u267 :: u268 :: u269 :: u270 :: u271 :: u272 :: u273 :: u274 :: u275 :: u276 :: u277 :: u278 :: u279 :: u280 :: u281 :: u282 :: u283 :: u284 :: u285 :: u286 :: u287 :: u288 :: u289 :: u290 :: u291 :: u292 :: u293 :: u294 :: u295 :: u296 :: u297 :: u298 :: u299 :: u300 :: u301 :: []), defers := [] } W := by
  have HK := hide hK0
  clear hK0
  have p1 : (j : Int) < (n : Int) := by omega
  have p2 : (a : Int) < (sl : Int) := by omega
  have p3 : decide ((sl : Int) ≤ (a : Int)) = false := decide_eq_false (by omega)
  have p4 : ¬ sl ≤ a := by omega
  go_quiet (fail)
  exact HK.out _ _ _ _ _ _ _ _ _ _ _ _ _ _ _ (Ch.drewN _ _)

end Go.Proofs.Ythnnpipekeanoaa
