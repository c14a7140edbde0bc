/- Layer 16: LocksTurn: what is looked at behind a Lock, an Unlock. -/
import Derived.Test.YtoabhmpakcgloaaZlf
namespace Go.Proofs.Ytoabhmpakcgloaa
open Go.RowKit
abbrev pulb0 : Oper := { dst := some 119, op := Op.move (Operand.tmp 16), type := 27, pos := "law.go:186", after := #[], guard := none }
abbrev pulb1 : Oper := { dst := some 120, op := Op.binOp BinOp.neq 27 (Operand.tmp 119) (Operand.const (Value.int IntKind.i64 0)) 27, type := 4, pos := "law.go:186", after := #[{ on := 0, ground := Ground.data }], guard := none }
abbrev pulb2 : Oper := { dst := some 121, op := Op.move (Operand.tmp 120), type := 4, pos := "law.go:186", after := #[{ on := 1, ground := Ground.data }], guard := none }
abbrev pulb3 : Oper := { dst := some 122, op := Op.fieldAddr 46 (Operand.tmp 15) 0, type := 0, pos := "law.go:186", after := #[{ on := 2, ground := Ground.guard }], guard := some (2, false) }
abbrev pulb4 : Oper := { dst := some 123, op := Op.load 41 (Operand.tmp 122), type := 41, pos := "law.go:186", after := #[{ on := 3, ground := Ground.data }, { on := 2, ground := Ground.guard }], guard := some (2, false) }
abbrev pulb5 : Oper := { dst := some 124, op := Op.binOp BinOp.eql 41 (Operand.tmp 123) (Operand.const (Value.int IntKind.i64 0)) 41, type := 4, pos := "law.go:186", after := #[{ on := 4, ground := Ground.data }, { on := 2, ground := Ground.guard }], guard := some (2, false) }
abbrev pulb6 : Oper := { dst := some 125, op := Op.move (Operand.tmp 10), type := 3, pos := "law.go:186", after := #[{ on := 2, ground := Ground.guard }], guard := some (2, false) }
abbrev pulb7 : Oper := { dst := some 126, op := Op.indexAddr 31 (Operand.tmp 7) (Operand.tmp 125), type := 0, pos := "law.go:186", after := #[{ on := 6, ground := Ground.data }, { on := 2, ground := Ground.guard }], guard := some (2, false) }
abbrev pulb8 : Oper := { dst := some 127, op := Op.load 30 (Operand.tmp 126), type := 30, pos := "law.go:186", after := #[{ on := 7, ground := Ground.data }, { on := 2, ground := Ground.guard }], guard := some (2, false) }
abbrev pulb9 : Oper := { dst := some 128, op := Op.call { callee := Callee.builtin Builtin.len, args := #[Operand.tmp 127], argTypes := #[30] }, type := 3, pos := "law.go:186", after := #[{ on := 8, ground := Ground.data }, { on := 2, ground := Ground.guard }], guard := some (2, false) }
abbrev pulb10 : Oper := { dst := some 129, op := Op.binOp BinOp.eql 3 (Operand.tmp 128) (Operand.const (Value.int IntKind.i64 0)) 3, type := 4, pos := "law.go:186", after := #[{ on := 9, ground := Ground.data }, { on := 2, ground := Ground.guard }], guard := some (2, false) }
abbrev pulb11 : Oper := { dst := some 130, op := Op.binOp BinOp.neq 4 (Operand.tmp 124) (Operand.tmp 129) 4, type := 4, pos := "law.go:186", after := #[{ on := 5, ground := Ground.data }, { on := 10, ground := Ground.data }, { on := 2, ground := Ground.guard }], guard := some (2, false) }
abbrev pulb12 : Oper := { dst := some 131, op := Op.pick (Operand.tmp 121) (Operand.const (Value.bool true)) (Operand.tmp 130), type := 4, pos := "law.go:186", after := #[{ on := 2, ground := Ground.data }, { on := 11, ground := Ground.data }], guard := none }
abbrev pulb13 : Oper := { dst := some 132, op := Op.move (Operand.tmp 131), type := 4, pos := "law.go:186", after := #[{ on := 12, ground := Ground.data }, { on := 2, ground := Ground.chain }], guard := none }
abbrev pulb14 : Oper := { dst := some 133, op := Op.fieldAddr 46 (Operand.tmp 15) 0, type := 0, pos := "law.go:186", after := #[{ on := 13, ground := Ground.guard }], guard := some (13, false) }
abbrev pulb15 : Oper := { dst := some 134, op := Op.load 41 (Operand.tmp 133), type := 41, pos := "law.go:186", after := #[{ on := 14, ground := Ground.data }, { on := 13, ground := Ground.guard }], guard := some (13, false) }
abbrev pulb16 : Oper := { dst := some 135, op := Op.binOp BinOp.eql 41 (Operand.tmp 134) (Operand.const (Value.int IntKind.i64 1)) 41, type := 4, pos := "law.go:186", after := #[{ on := 15, ground := Ground.data }, { on := 13, ground := Ground.guard }], guard := some (13, false) }
abbrev pulb17 : Oper := { dst := some 136, op := Op.move (Operand.tmp 10), type := 3, pos := "law.go:186", after := #[{ on := 13, ground := Ground.guard }], guard := some (13, false) }
abbrev pulb18 : Oper := { dst := some 137, op := Op.indexAddr 31 (Operand.tmp 7) (Operand.tmp 136), type := 0, pos := "law.go:186", after := #[{ on := 17, ground := Ground.data }, { on := 13, ground := Ground.guard }], guard := some (13, false) }
abbrev pulb19 : Oper := { dst := some 138, op := Op.load 30 (Operand.tmp 137), type := 30, pos := "law.go:186", after := #[{ on := 18, ground := Ground.data }, { on := 13, ground := Ground.guard }], guard := some (13, false) }
abbrev pulb20 : Oper := { dst := some 139, op := Op.call { callee := Callee.builtin Builtin.len, args := #[Operand.tmp 138], argTypes := #[30] }, type := 3, pos := "law.go:186", after := #[{ on := 19, ground := Ground.data }, { on := 13, ground := Ground.guard }], guard := some (13, false) }
abbrev pulb21 : Oper := { dst := some 140, op := Op.binOp BinOp.gtr 3 (Operand.tmp 139) (Operand.const (Value.int IntKind.i64 0)) 3, type := 4, pos := "law.go:186", after := #[{ on := 20, ground := Ground.data }, { on := 13, ground := Ground.guard }], guard := some (13, false) }
abbrev pulb22 : Oper := { dst := some 141, op := Op.binOp BinOp.neq 4 (Operand.tmp 135) (Operand.tmp 140) 4, type := 4, pos := "law.go:186", after := #[{ on := 16, ground := Ground.data }, { on := 21, ground := Ground.data }, { on := 13, ground := Ground.guard }], guard := some (13, false) }
abbrev pulb23 : Oper := { dst := some 142, op := Op.pick (Operand.tmp 132) (Operand.const (Value.bool true)) (Operand.tmp 141), type := 4, pos := "law.go:186", after := #[{ on := 13, ground := Ground.data }, { on := 22, ground := Ground.data }], guard := none }
abbrev pulb24 : Oper := { dst := some 143, op := Op.move (Operand.tmp 142), type := 4, pos := "law.go:186", after := #[{ on := 23, ground := Ground.data }, { on := 13, ground := Ground.chain }], guard := none }
abbrev pulb25 : Oper := { dst := some 144, op := Op.fieldAddr 46 (Operand.tmp 15) 3, type := 0, pos := "law.go:186", after := #[{ on := 24, ground := Ground.guard }], guard := some (24, false) }
abbrev pulb26 : Oper := { dst := some 145, op := Op.load 44 (Operand.tmp 144), type := 44, pos := "law.go:186", after := #[{ on := 25, ground := Ground.data }, { on := 24, ground := Ground.guard }], guard := some (24, false) }
abbrev pulb27 : Oper := { dst := some 146, op := Op.call { callee := Callee.builtin Builtin.len, args := #[Operand.tmp 145], argTypes := #[44] }, type := 3, pos := "law.go:186", after := #[{ on := 26, ground := Ground.data }, { on := 24, ground := Ground.guard }], guard := some (24, false) }
abbrev pulb28 : Oper := { dst := some 147, op := Op.binOp BinOp.gtr 3 (Operand.tmp 146) (Operand.const (Value.int IntKind.i64 0)) 3, type := 4, pos := "law.go:186", after := #[{ on := 27, ground := Ground.data }, { on := 24, ground := Ground.guard }], guard := some (24, false) }
abbrev pulb29 : Oper := { dst := some 148, op := Op.pick (Operand.tmp 143) (Operand.const (Value.bool true)) (Operand.tmp 147), type := 4, pos := "law.go:186", after := #[{ on := 24, ground := Ground.data }, { on := 28, ground := Ground.data }], guard := none }

set_option maxRecDepth 100000 in
set_option maxHeartbeats 8000000 in
theorem pt_lb {W : World} {A D j c : Nat} {a : Option Addr} (hj : j < 3) (hX : ∀ wq, Ch (fun _ => False) W wq → wq.cell? ⟨D, 0, none⟩ = some (.int .i64 0) ∧ wq.cell? ⟨D, 5, none⟩ = some (.slice none 0 0) ∧ wq.cell? ⟨A, j, none⟩ = some (.slice a 0 c)) {u0 u1 u2 u3 u4 u5 u6 u8 u9 u11 u12 u13 u14 u17 u18 u19 u20 u21 u22 u23 u24 u25 u26 u27 u28 u29 u30 u31 u32 u33 u34 u35 u36 u37 u38 u39 u40 u41 u42 u43 u44 u45 u46 u47 u48 u49 u50 u51 u52 u53 u54 u55 u56 u57 u58 u59 u60 u61 u62 u63 u64 u65 u66 u67 u68 u69 u70 u71 u72 u73 u74 u75 u76 u77 u78 u79 u80 u81 u82 u83 u84 u85 u86 u87 u88 u89 u90 u91 u92 u93 u94 u95 u96 u97 u98 u99 u100 u101 u102 u103 u104 u105 u106 u107 u108 u109 u110 u111 u112 u113 u114 u115 u116 u117 u118 u119 u120 u121 u122 u123 u124 u125 u126 u127 u128 u129 u130 u131 u132 u133 u134 u135 u136 u137 u138 u139 u140 u141 u142 u143 u144 u145 u146 u147 u148 u149 u150 u151 u152 u153 u154 u155 u156 u157 u158 u159 u160 u161 u162 u163 u164 u165 u166 u167 u168 u169 u170 u171 u172 u173 u174 u175 u176 u177 u178 u179 u180 u181 u182 u183 u184 u185 u186 u187 u188 u189 u190 u191 u192 u193 u194 u195 u196 u197 u198 u199 u200 u201 u202 u203 u204 u205 u206 u207 u208 u209 u210 u211 u212 u213 u214 u215 u216 u217 u218 u219 u220 u221 u222 u223 u224 u225 u226 u227 u228 u229 u230 u231 u232 u233 u234 u235 u236 u237 u238 u239 u240 u241 u242 u243 u244 u245 u246 u247 u248 u249 u250 u251 u252 u253 u254 u255 u256 u257 u258 u259 u260 u261 u262 u263 u264 u265 u266 u267 u268 u269 u270 u271 u272 u273 u274 : Value} {K : Act → World → Prop}
    (hK0 : ∀ (w' : World) (t119 t120 t121 t122 t123 t124 t125 t126 t127 t128 t129 t130 t131 t132 t133 t134 t135 t136 t137 t138 t139 t140 t141 t142 t143 t144 t145 t146 t147 : Value), Ch (fun _ => False) W w' → K { tmps := List.toArray (u0 :: u1 :: u2 :: u3 :: u4 :: u5 :: u6 :: (.pointer (some ⟨A, 0, none⟩)) :: u8 :: u9 :: (.int .i64 (j : Int)) :: u11 :: u12 :: u13 :: u14 :: (.pointer (some ⟨D, 0, none⟩)) :: (.int .i64 0) :: u17 :: u18 :: u19 :: u20 :: u21 :: u22 :: u23 :: u24 :: u25 :: u26 :: u27 :: u28 :: u29 :: u30 :: u31 :: u32 :: u33 :: u34 :: u35 :: u36 :: u37 :: u38 :: u39 :: u40 :: u41 :: u42 :: u43 :: u44 :: u45 :: u46 :: u47 :: u48 :: u49 :: u50 :: u51 :: u52 :: u53 :: u54 :: u55 :: u56 :: u57 :: u58 :: u59 :: u60 :: u61 :: u62 :: u63 :: u64 :: u65 :: u66 :: u67 :: u68 :: u69 :: u70 :: u71 :: u72 :: u73 :: u74 :: u75 :: u76 :: u77 :: u78 :: u79 :: u80 :: u81 :: u82 :: u83 :: u84 :: u85 :: u86 :: u87 :: u88 :: u89 :: u90 :: u91 :: u92 :: u93 :: u94 :: u95 :: u96 :: u97 :: u98 :: u99 :: u100 :: u101 :: u102 :: u103 :: u104 :: u105 :: u106 :: u107 :: u108 :: u109 :: u110 :: u111 :: u112 :: u113 :: u114 :: u115 :: u116 :: u117 :: u118 :: (t119) :: (t120) :: (t121) :: (t122) :: (t123) :: (t124) :: (t125) :: (t126) :: (t127) :: (t128) :: (t129) :: (t130) :: (t131) :: (t132) :: (t133) :: (t134) :: (t135) :: (t136) :: (t137) :: (t138) :: (t139) :: (t140) :: (t141) :: (t142) :: (t143) :: (t144) :: (t145) :: (t146) :: (t147) :: (.bool false) :: u149 :: u150 :: u151 :: u152 :: u153 :: u154 :: u155 :: u156 :: u157 :: u158 :: u159 :: u160 :: u161 :: u162 :: u163 :: u164 :: u165 :: u166 :: u167 :: u168 :: u169 :: u170 :: u171 :: u172 :: u173 :: u174 :: u175 :: u176 :: u177 :: u178 :: u179 :: u180 :: u181 :: u182 :: u183 :: u184 :: u185 :: u186 :: u187 :: u188 :: u189 :: u190 :: u191 :: u192 :: u193 :: u194 :: u195 :: u196 :: u197 :: u198 :: u199 :: u200 :: u201 :: u202 :: u203 :: u204 :: u205 :: u206 :: u207 :: u208 :: u209 :: u210 :: u211 :: u212 :: u213 :: u214 :: u215 :: u216 :: u217 :: u218 :: u219 :: u220 :: u221 :: u222 :: u223 :: u224 :: u225 :: u226 :: u227 :: u228 :: u229 :: u230 :: u231 :: u232 :: u233 :: u234 :: u235 :: u236 :: u237 :: u238 :: u239 :: u240 :: u241 :: u242 :: u243 :: u244 :: u245 :: u246 :: u247 :: u248 :: u249 :: u250 :: u251 :: u252 :: u253 :: u254 :: u255 :: u256 :: u257 :: u258 :: u259 :: u260 :: u261 :: u262 :: u263 :: u264 :: u265 :: u266 :: u267 :: u268 :: u269 :: u270 :: u271 :: u272 :: u273 :: u274 :: []), defers := [] } w') :
    (Code.region 30 (List.toArray (pulb0 :: pulb1 :: pulb2 :: pulb3 :: pulb4 :: pulb5 :: pulb6 :: pulb7 :: pulb8 :: pulb9 :: pulb10 :: pulb11 :: pulb12 :: pulb13 :: pulb14 :: pulb15 :: pulb16 :: pulb17 :: pulb18 :: pulb19 :: pulb20 :: pulb21 :: pulb22 :: pulb23 :: pulb24 :: pulb25 :: pulb26 :: pulb27 :: pulb28 :: pulb29 :: [])) true).wp Try.prog (Exit.then K (fun _ _ _ => False)) { tmps := List.toArray (u0 :: u1 :: u2 :: u3 :: u4 :: u5 :: u6 :: (.pointer (some ⟨A, 0, none⟩)) :: u8 :: u9 :: (.int .i64 (j : Int)) :: u11 :: u12 :: u13 :: u14 :: (.pointer (some ⟨D, 0, none⟩)) :: (.int .i64 0) :: u17 :: u18 :: u19 :: u20 :: u21 :: u22 :: u23 :: u24 :: u25 :: u26 :: u27 :: u28 :: u29 :: u30 :: u31 :: u32 :: u33 :: u34 :: u35 :: u36 :: u37 :: u38 :: u39 :: u40 :: u41 :: u42 :: u43 :: u44 :: u45 :: u46 :: u47 :: u48 :: u49 :: u50 :: u51 :: u52 :: u53 :: u54 :: u55 :: u56 :: u57 :: u58 :: u59 :: u60 :: u61 :: u62 :: u63 :: u64 :: u65 :: u66 :: u67 :: u68 :: u69 :: u70 :: u71 :: u72 :: u73 :: u74 :: u75 :: u76 :: u77 :: u78 :: u79 :: u80 :: u81 :: u82 :: u83 :: u84 :: u85 :: u86 :: u87 :: u88 :: u89 :: u90 :: u91 :: u92 :: u93 :: u94 :: u95 :: u96 :: u97 :: u98 :: u99 :: u100 :: u101 :: u102 :: u103 :: u104 :: u105 :: u106 :: u107 :: u108 :: u109 :: u110 :: u111 :: u112 :: u113 :: u114 :: u115 :: u116 :: u117 :: u118 :: u119 :: u120 :: u121 :: u122 :: u123 :: u124 :: u125 :: u126 :: u127 :: u128 :: u129 :: u130 :: u131 :: u132 :: u133 :: u134 :: u135 :: u136 :: u137 :: u138 :: u139 :: u140 :: u141 :: u142 :: u143 :: u144 :: u145 :: u146 :: u147 :: u148 :: u149 :: u150 :: u151 :: u152 :: u153 :: u154 :: u155 :: u156 :: u157 :: u158 :: u159 :: u160 :: u161 :: u162 :: u163 :: u164 :: u165 :: u166 :: u167 :: u168 :: u169 :: u170 :: u171 :: u172 :: u173 :: u174 :: u175 :: u176 :: u177 :: u178 :: u179 :: u180 :: u181 :: u182 :: u183 :: u184 :: u185 :: u186 :: u187 :: u188 :: u189 :: u190 :: u191 :: u192 :: u193 :: u194 :: u195 :: u196 :: u197 :: u198 :: u199 :: u200 :: u201 :: u202 :: u203 :: u204 :: u205 :: u206 :: u207 :: u208 :: u209 :: u210 :: u211 :: u212 :: u213 :: u214 :: u215 :: u216 :: u217 :: u218 :: u219 :: u220 :: u221 :: u222 :: u223 :: u224 :: u225 :: u226 :: u227 :: u228 :: u229 :: u230 :: u231 :: u232 :: u233 :: u234 :: u235 :: u236 :: u237 :: u238 :: u239 :: u240 :: u241 :: u242 :: u243 :: u244 :: u245 :: u246 :: u247 :: u248 :: u249 :: u250 :: u251 :: u252 :: u253 :: u254 :: u255 :: u256 :: u257 :: u258 :: u259 :: u260 :: u261 :: u262 :: u263 :: u264 :: u265 :: u266 :: u267 :: u268 :: u269 :: u270 :: u271 :: u272 :: u273 :: u274 :: []), defers := [] } W := by
  have HK := hide hK0
  have HX0 := hide hX
  clear hK0 hX
  have z0 : (0 : Int) ≤ (j : Int) := by omega
  have z1 : (j : Int) < 3 := by omega
  refine wp_reg (fun _ => False) (R := fun V => Ch (fun _ => False) W V) (by kernel_rfl) (Ch.drew _) (fun V0 cV zk => ?_)
  have CV := hide cV
  clear cV
  have HX := hide (fun wq (k0 : Ch (fun _ => False) V0 wq) => HX0.out wq (CV.out.trans k0 (fun _ _ h => h)))
  apply tk 0 pulb0 rfl (by kernel_rfl) (fun _ _ _ h => h) zk
  · intro wq zq
    go_simp
    try rfl
  go_frame
  apply tk 1 pulb1 rfl (by kernel_rfl) (fun _ _ _ h => h) zk
  · intro wq zq
    go_simp
    try rfl
  go_frame
  apply tk 2 pulb2 rfl (by kernel_rfl) (fun _ _ _ h => h) zk
  · intro wq zq
    go_simp
    try rfl
  go_frame
  apply tk 3 pulb3 rfl (by kernel_rfl) (fun _ _ _ h => h) zk
  · intro wq zq
    go_simp
    try rfl
  go_frame
  apply tk 4 pulb4 rfl (by kernel_rfl) (fun _ _ _ h => h) zk
  · intro wq zq
    obtain ⟨s0, s1, s2⟩ := HX.out _ zq
    go_simp
    try rfl
  go_frame
  apply tk 5 pulb5 rfl (by kernel_rfl) (fun _ _ _ h => h) zk
  · intro wq zq
    go_simp
    try rfl
  go_frame
  apply tk 6 pulb6 rfl (by kernel_rfl) (fun _ _ _ h => h) zk
  · intro wq zq
    go_simp
    try rfl
  go_frame
  apply tk 7 pulb7 rfl (by kernel_rfl) (fun _ _ _ h => h) zk
  · intro wq zq
    obtain ⟨s0, s1, s2⟩ := HX.out _ zq
    go_simp
    try rfl
  go_frame
  apply tk 8 pulb8 rfl (by kernel_rfl) (fun _ _ _ h => h) zk
  · intro wq zq
    obtain ⟨s0, s1, s2⟩ := HX.out _ zq
    go_simp
    try rfl
  go_frame
  apply tk 9 pulb9 rfl (by kernel_rfl) (fun _ _ _ h => h) zk
  · intro wq zq
    go_simp
    try rfl
  go_frame
  apply tk 10 pulb10 rfl (by kernel_rfl) (fun _ _ _ h => h) zk
  · intro wq zq
    go_simp
    try rfl
  go_frame
  apply tk 11 pulb11 rfl (by kernel_rfl) (fun _ _ _ h => h) zk
  · intro wq zq
    go_simp
    try rfl
  go_frame
  apply tk 12 pulb12 rfl (by kernel_rfl) (fun _ _ _ h => h) zk
  · intro wq zq
    go_simp
    try rfl
  go_frame
  apply tk 13 pulb13 rfl (by kernel_rfl) (fun _ _ _ h => h) zk
  · intro wq zq
    go_simp
    try rfl
  go_frame
  apply tk 14 pulb14 rfl (by kernel_rfl) (fun _ _ _ h => h) zk
  · intro wq zq
    go_simp
    try rfl
  go_frame
  apply tk 15 pulb15 rfl (by kernel_rfl) (fun _ _ _ h => h) zk
  · intro wq zq
    obtain ⟨s0, s1, s2⟩ := HX.out _ zq
    go_simp
    try rfl
  go_frame
  apply tk 16 pulb16 rfl (by kernel_rfl) (fun _ _ _ h => h) zk
  · intro wq zq
    go_simp
    try rfl
  go_frame
  apply tk 17 pulb17 rfl (by kernel_rfl) (fun _ _ _ h => h) zk
  · intro wq zq
    go_simp
    try rfl
  go_frame
  apply tk 18 pulb18 rfl (by kernel_rfl) (fun _ _ _ h => h) zk
  · intro wq zq
    obtain ⟨s0, s1, s2⟩ := HX.out _ zq
    go_simp
    try rfl
  go_frame
  apply tk 19 pulb19 rfl (by kernel_rfl) (fun _ _ _ h => h) zk
  · intro wq zq
    obtain ⟨s0, s1, s2⟩ := HX.out _ zq
    go_simp
    try rfl
  go_frame
  apply tk 20 pulb20 rfl (by kernel_rfl) (fun _ _ _ h => h) zk
  · intro wq zq
    go_simp
    try rfl
  go_frame
  apply tk 21 pulb21 rfl (by kernel_rfl) (fun _ _ _ h => h) zk
  · intro wq zq
    go_simp
    try rfl
  go_frame
  apply tk 22 pulb22 rfl (by kernel_rfl) (fun _ _ _ h => h) zk
  · intro wq zq
    go_simp
    try rfl
  go_frame
  apply tk 23 pulb23 rfl (by kernel_rfl) (fun _ _ _ h => h) zk
  · intro wq zq
    go_simp
    try rfl
  go_frame
  apply tk 24 pulb24 rfl (by kernel_rfl) (fun _ _ _ h => h) zk
  · intro wq zq
    go_simp
    try rfl
  go_frame
  apply tk 25 pulb25 rfl (by kernel_rfl) (fun _ _ _ h => h) zk
  · intro wq zq
    go_simp
    try rfl
  go_frame
  apply tk 26 pulb26 rfl (by kernel_rfl) (fun _ _ _ h => h) zk
  · intro wq zq
    obtain ⟨s0, s1, s2⟩ := HX.out _ zq
    go_simp
    try rfl
  go_frame
  apply tk 27 pulb27 rfl (by kernel_rfl) (fun _ _ _ h => h) zk
  · intro wq zq
    go_simp
    try rfl
  go_frame
  apply tk 28 pulb28 rfl (by kernel_rfl) (fun _ _ _ h => h) zk
  · intro wq zq
    go_simp
    try rfl
  go_frame
  apply tk 29 pulb29 rfl (by kernel_rfl) (fun _ _ _ h => h) zk
  · intro wq zq
    go_simp
    try rfl
  go_frame
  refine wpAnyH_done (by kernel_rfl) ?_ _
  exact HK.out _ _ _ _ _ _ _ _ _ _ _ _ _ _ _ _ _ _ _ _ _ _ _ _ _ _ _ _ _ _ CV.out

abbrev pulc0 : Oper := { dst := some 119, op := Op.move (Operand.tmp 16), type := 27, pos := "law.go:186", after := #[], guard := none }
abbrev pulc1 : Oper := { dst := some 120, op := Op.binOp BinOp.neq 27 (Operand.tmp 119) (Operand.const (Value.int IntKind.i64 0)) 27, type := 4, pos := "law.go:186", after := #[{ on := 0, ground := Ground.data }], guard := none }
abbrev pulc2 : Oper := { dst := some 121, op := Op.move (Operand.tmp 120), type := 4, pos := "law.go:186", after := #[{ on := 1, ground := Ground.data }], guard := none }
abbrev pulc3 : Oper := { dst := some 122, op := Op.fieldAddr 46 (Operand.tmp 15) 0, type := 0, pos := "law.go:186", after := #[{ on := 2, ground := Ground.guard }], guard := some (2, false) }
abbrev pulc4 : Oper := { dst := some 123, op := Op.load 41 (Operand.tmp 122), type := 41, pos := "law.go:186", after := #[{ on := 3, ground := Ground.data }, { on := 2, ground := Ground.guard }], guard := some (2, false) }
abbrev pulc5 : Oper := { dst := some 124, op := Op.binOp BinOp.eql 41 (Operand.tmp 123) (Operand.const (Value.int IntKind.i64 0)) 41, type := 4, pos := "law.go:186", after := #[{ on := 4, ground := Ground.data }, { on := 2, ground := Ground.guard }], guard := some (2, false) }
abbrev pulc6 : Oper := { dst := some 125, op := Op.move (Operand.tmp 10), type := 3, pos := "law.go:186", after := #[{ on := 2, ground := Ground.guard }], guard := some (2, false) }
abbrev pulc7 : Oper := { dst := some 126, op := Op.indexAddr 31 (Operand.tmp 7) (Operand.tmp 125), type := 0, pos := "law.go:186", after := #[{ on := 6, ground := Ground.data }, { on := 2, ground := Ground.guard }], guard := some (2, false) }
abbrev pulc8 : Oper := { dst := some 127, op := Op.load 30 (Operand.tmp 126), type := 30, pos := "law.go:186", after := #[{ on := 7, ground := Ground.data }, { on := 2, ground := Ground.guard }], guard := some (2, false) }
abbrev pulc9 : Oper := { dst := some 128, op := Op.call { callee := Callee.builtin Builtin.len, args := #[Operand.tmp 127], argTypes := #[30] }, type := 3, pos := "law.go:186", after := #[{ on := 8, ground := Ground.data }, { on := 2, ground := Ground.guard }], guard := some (2, false) }
abbrev pulc10 : Oper := { dst := some 129, op := Op.binOp BinOp.eql 3 (Operand.tmp 128) (Operand.const (Value.int IntKind.i64 0)) 3, type := 4, pos := "law.go:186", after := #[{ on := 9, ground := Ground.data }, { on := 2, ground := Ground.guard }], guard := some (2, false) }
abbrev pulc11 : Oper := { dst := some 130, op := Op.binOp BinOp.neq 4 (Operand.tmp 124) (Operand.tmp 129) 4, type := 4, pos := "law.go:186", after := #[{ on := 5, ground := Ground.data }, { on := 10, ground := Ground.data }, { on := 2, ground := Ground.guard }], guard := some (2, false) }
abbrev pulc12 : Oper := { dst := some 131, op := Op.pick (Operand.tmp 121) (Operand.const (Value.bool true)) (Operand.tmp 130), type := 4, pos := "law.go:186", after := #[{ on := 2, ground := Ground.data }, { on := 11, ground := Ground.data }], guard := none }
abbrev pulc13 : Oper := { dst := some 132, op := Op.move (Operand.tmp 131), type := 4, pos := "law.go:186", after := #[{ on := 12, ground := Ground.data }, { on := 2, ground := Ground.chain }], guard := none }
abbrev pulc14 : Oper := { dst := some 133, op := Op.fieldAddr 46 (Operand.tmp 15) 0, type := 0, pos := "law.go:186", after := #[{ on := 13, ground := Ground.guard }], guard := some (13, false) }
abbrev pulc15 : Oper := { dst := some 134, op := Op.load 41 (Operand.tmp 133), type := 41, pos := "law.go:186", after := #[{ on := 14, ground := Ground.data }, { on := 13, ground := Ground.guard }], guard := some (13, false) }
abbrev pulc16 : Oper := { dst := some 135, op := Op.binOp BinOp.eql 41 (Operand.tmp 134) (Operand.const (Value.int IntKind.i64 1)) 41, type := 4, pos := "law.go:186", after := #[{ on := 15, ground := Ground.data }, { on := 13, ground := Ground.guard }], guard := some (13, false) }
abbrev pulc17 : Oper := { dst := some 136, op := Op.move (Operand.tmp 10), type := 3, pos := "law.go:186", after := #[{ on := 13, ground := Ground.guard }], guard := some (13, false) }
abbrev pulc18 : Oper := { dst := some 137, op := Op.indexAddr 31 (Operand.tmp 7) (Operand.tmp 136), type := 0, pos := "law.go:186", after := #[{ on := 17, ground := Ground.data }, { on := 13, ground := Ground.guard }], guard := some (13, false) }
abbrev pulc19 : Oper := { dst := some 138, op := Op.load 30 (Operand.tmp 137), type := 30, pos := "law.go:186", after := #[{ on := 18, ground := Ground.data }, { on := 13, ground := Ground.guard }], guard := some (13, false) }
abbrev pulc20 : Oper := { dst := some 139, op := Op.call { callee := Callee.builtin Builtin.len, args := #[Operand.tmp 138], argTypes := #[30] }, type := 3, pos := "law.go:186", after := #[{ on := 19, ground := Ground.data }, { on := 13, ground := Ground.guard }], guard := some (13, false) }
abbrev pulc21 : Oper := { dst := some 140, op := Op.binOp BinOp.gtr 3 (Operand.tmp 139) (Operand.const (Value.int IntKind.i64 0)) 3, type := 4, pos := "law.go:186", after := #[{ on := 20, ground := Ground.data }, { on := 13, ground := Ground.guard }], guard := some (13, false) }
abbrev pulc22 : Oper := { dst := some 141, op := Op.binOp BinOp.neq 4 (Operand.tmp 135) (Operand.tmp 140) 4, type := 4, pos := "law.go:186", after := #[{ on := 16, ground := Ground.data }, { on := 21, ground := Ground.data }, { on := 13, ground := Ground.guard }], guard := some (13, false) }
abbrev pulc23 : Oper := { dst := some 142, op := Op.pick (Operand.tmp 132) (Operand.const (Value.bool true)) (Operand.tmp 141), type := 4, pos := "law.go:186", after := #[{ on := 13, ground := Ground.data }, { on := 22, ground := Ground.data }], guard := none }
abbrev pulc24 : Oper := { dst := some 143, op := Op.move (Operand.tmp 142), type := 4, pos := "law.go:186", after := #[{ on := 23, ground := Ground.data }, { on := 13, ground := Ground.chain }], guard := none }
abbrev pulc25 : Oper := { dst := some 144, op := Op.fieldAddr 46 (Operand.tmp 15) 3, type := 0, pos := "law.go:186", after := #[{ on := 24, ground := Ground.guard }], guard := some (24, false) }
abbrev pulc26 : Oper := { dst := some 145, op := Op.load 44 (Operand.tmp 144), type := 44, pos := "law.go:186", after := #[{ on := 25, ground := Ground.data }, { on := 24, ground := Ground.guard }], guard := some (24, false) }
abbrev pulc27 : Oper := { dst := some 146, op := Op.call { callee := Callee.builtin Builtin.len, args := #[Operand.tmp 145], argTypes := #[44] }, type := 3, pos := "law.go:186", after := #[{ on := 26, ground := Ground.data }, { on := 24, ground := Ground.guard }], guard := some (24, false) }
abbrev pulc28 : Oper := { dst := some 147, op := Op.binOp BinOp.gtr 3 (Operand.tmp 146) (Operand.const (Value.int IntKind.i64 0)) 3, type := 4, pos := "law.go:186", after := #[{ on := 27, ground := Ground.data }, { on := 24, ground := Ground.guard }], guard := some (24, false) }
abbrev pulc29 : Oper := { dst := some 148, op := Op.pick (Operand.tmp 143) (Operand.const (Value.bool true)) (Operand.tmp 147), type := 4, pos := "law.go:186", after := #[{ on := 24, ground := Ground.data }, { on := 28, ground := Ground.data }], guard := none }

set_option maxRecDepth 100000 in
set_option maxHeartbeats 8000000 in
theorem pt_lc {W : World} {A D j c n : Nat} {a : Option Addr} (hj : j < 3) (hn : 0 < n) (hX : ∀ wq, Ch (fun _ => False) W wq → wq.cell? ⟨D, 0, none⟩ = some (.int .i64 1) ∧ wq.cell? ⟨D, 5, none⟩ = some (.slice none 0 0) ∧ wq.cell? ⟨A, j, none⟩ = some (.slice a n c)) {u0 u1 u2 u3 u4 u5 u6 u8 u9 u11 u12 u13 u14 u17 u18 u19 u20 u21 u22 u23 u24 u25 u26 u27 u28 u29 u30 u31 u32 u33 u34 u35 u36 u37 u38 u39 u40 u41 u42 u43 u44 u45 u46 u47 u48 u49 u50 u51 u52 u53 u54 u55 u56 u57 u58 u59 u60 u61 u62 u63 u64 u65 u66 u67 u68 u69 u70 u71 u72 u73 u74 u75 u76 u77 u78 u79 u80 u81 u82 u83 u84 u85 u86 u87 u88 u89 u90 u91 u92 u93 u94 u95 u96 u97 u98 u99 u100 u101 u102 u103 u104 u105 u106 u107 u108 u109 u110 u111 u112 u113 u114 u115 u116 u117 u118 u119 u120 u121 u122 u123 u124 u125 u126 u127 u128 u129 u130 u131 u132 u133 u134 u135 u136 u137 u138 u139 u140 u141 u142 u143 u144 u145 u146 u147 u148 u149 u150 u151 u152 u153 u154 u155 u156 u157 u158 u159 u160 u161 u162 u163 u164 u165 u166 u167 u168 u169 u170 u171 u172 u173 u174 u175 u176 u177 u178 u179 u180 u181 u182 u183 u184 u185 u186 u187 u188 u189 u190 u191 u192 u193 u194 u195 u196 u197 u198 u199 u200 u201 u202 u203 u204 u205 u206 u207 u208 u209 u210 u211 u212 u213 u214 u215 u216 u217 u218 u219 u220 u221 u222 u223 u224 u225 u226 u227 u228 u229 u230 u231 u232 u233 u234 u235 u236 u237 u238 u239 u240 u241 u242 u243 u244 u245 u246 u247 u248 u249 u250 u251 u252 u253 u254 u255 u256 u257 u258 u259 u260 u261 u262 u263 u264 u265 u266 u267 u268 u269 u270 u271 u272 u273 u274 : Value} {K : Act → World → Prop}
    (hK0 : ∀ (w' : World) (t119 t120 t121 t122 t123 t124 t125 t126 t127 t128 t129 t130 t131 t132 t133 t134 t135 t136 t137 t138 t139 t140 t141 t142 t143 t144 t145 t146 t147 : Value), Ch (fun _ => False) W w' → K { tmps := List.toArray (u0 :: u1 :: u2 :: u3 :: u4 :: u5 :: u6 :: (.pointer (some ⟨A, 0, none⟩)) :: u8 :: u9 :: (.int .i64 (j : Int)) :: u11 :: u12 :: u13 :: u14 :: (.pointer (some ⟨D, 0, none⟩)) :: (.int .i64 0) :: u17 :: u18 :: u19 :: u20 :: u21 :: u22 :: u23 :: u24 :: u25 :: u26 :: u27 :: u28 :: u29 :: u30 :: u31 :: u32 :: u33 :: u34 :: u35 :: u36 :: u37 :: u38 :: u39 :: u40 :: u41 :: u42 :: u43 :: u44 :: u45 :: u46 :: u47 :: u48 :: u49 :: u50 :: u51 :: u52 :: u53 :: u54 :: u55 :: u56 :: u57 :: u58 :: u59 :: u60 :: u61 :: u62 :: u63 :: u64 :: u65 :: u66 :: u67 :: u68 :: u69 :: u70 :: u71 :: u72 :: u73 :: u74 :: u75 :: u76 :: u77 :: u78 :: u79 :: u80 :: u81 :: u82 :: u83 :: u84 :: u85 :: u86 :: u87 :: u88 :: u89 :: u90 :: u91 :: u92 :: u93 :: u94 :: u95 :: u96 :: u97 :: u98 :: u99 :: u100 :: u101 :: u102 :: u103 :: u104 :: u105 :: u106 :: u107 :: u108 :: u109 :: u110 :: u111 :: u112 :: u113 :: u114 :: u115 :: u116 :: u117 :: u118 :: (t119) :: (t120) :: (t121) :: (t122) :: (t123) :: (t124) :: (t125) :: (t126) :: (t127) :: (t128) :: (t129) :: (t130) :: (t131) :: (t132) :: (t133) :: (t134) :: (t135) :: (t136) :: (t137) :: (t138) :: (t139) :: (t140) :: (t141) :: (t142) :: (t143) :: (t144) :: (t145) :: (t146) :: (t147) :: (.bool false) :: u149 :: u150 :: u151 :: u152 :: u153 :: u154 :: u155 :: u156 :: u157 :: u158 :: u159 :: u160 :: u161 :: u162 :: u163 :: u164 :: u165 :: u166 :: u167 :: u168 :: u169 :: u170 :: u171 :: u172 :: u173 :: u174 :: u175 :: u176 :: u177 :: u178 :: u179 :: u180 :: u181 :: u182 :: u183 :: u184 :: u185 :: u186 :: u187 :: u188 :: u189 :: u190 :: u191 :: u192 :: u193 :: u194 :: u195 :: u196 :: u197 :: u198 :: u199 :: u200 :: u201 :: u202 :: u203 :: u204 :: u205 :: u206 :: u207 :: u208 :: u209 :: u210 :: u211 :: u212 :: u213 :: u214 :: u215 :: u216 :: u217 :: u218 :: u219 :: u220 :: u221 :: u222 :: u223 :: u224 :: u225 :: u226 :: u227 :: u228 :: u229 :: u230 :: u231 :: u232 :: u233 :: u234 :: u235 :: u236 :: u237 :: u238 :: u239 :: u240 :: u241 :: u242 :: u243 :: u244 :: u245 :: u246 :: u247 :: u248 :: u249 :: u250 :: u251 :: u252 :: u253 :: u254 :: u255 :: u256 :: u257 :: u258 :: u259 :: u260 :: u261 :: u262 :: u263 :: u264 :: u265 :: u266 :: u267 :: u268 :: u269 :: u270 :: u271 :: u272 :: u273 :: u274 :: []), defers := [] } w') :
    (Code.region 30 (List.toArray (pulc0 :: pulc1 :: pulc2 :: pulc3 :: pulc4 :: pulc5 :: pulc6 :: pulc7 :: pulc8 :: pulc9 :: pulc10 :: pulc11 :: pulc12 :: pulc13 :: pulc14 :: pulc15 :: pulc16 :: pulc17 :: pulc18 :: pulc19 :: pulc20 :: pulc21 :: pulc22 :: pulc23 :: pulc24 :: pulc25 :: pulc26 :: pulc27 :: pulc28 :: pulc29 :: [])) true).wp Try.prog (Exit.then K (fun _ _ _ => False)) { tmps := List.toArray (u0 :: u1 :: u2 :: u3 :: u4 :: u5 :: u6 :: (.pointer (some ⟨A, 0, none⟩)) :: u8 :: u9 :: (.int .i64 (j : Int)) :: u11 :: u12 :: u13 :: u14 :: (.pointer (some ⟨D, 0, none⟩)) :: (.int .i64 0) :: u17 :: u18 :: u19 :: u20 :: u21 :: u22 :: u23 :: u24 :: u25 :: u26 :: u27 :: u28 :: u29 :: u30 :: u31 :: u32 :: u33 :: u34 :: u35 :: u36 :: u37 :: u38 :: u39 :: u40 :: u41 :: u42 :: u43 :: u44 :: u45 :: u46 :: u47 :: u48 :: u49 :: u50 :: u51 :: u52 :: u53 :: u54 :: u55 :: u56 :: u57 :: u58 :: u59 :: u60 :: u61 :: u62 :: u63 :: u64 :: u65 :: u66 :: u67 :: u68 :: u69 :: u70 :: u71 :: u72 :: u73 :: u74 :: u75 :: u76 :: u77 :: u78 :: u79 :: u80 :: u81 :: u82 :: u83 :: u84 :: u85 :: u86 :: u87 :: u88 :: u89 :: u90 :: u91 :: u92 :: u93 :: u94 :: u95 :: u96 :: u97 :: u98 :: u99 :: u100 :: u101 :: u102 :: u103 :: u104 :: u105 :: u106 :: u107 :: u108 :: u109 :: u110 :: u111 :: u112 :: u113 :: u114 :: u115 :: u116 :: u117 :: u118 :: u119 :: u120 :: u121 :: u122 :: u123 :: u124 :: u125 :: u126 :: u127 :: u128 :: u129 :: u130 :: u131 :: u132 :: u133 :: u134 :: u135 :: u136 :: u137 :: u138 :: u139 :: u140 :: u141 :: u142 :: u143 :: u144 :: u145 :: u146 :: u147 :: u148 :: u149 :: u150 :: u151 :: u152 :: u153 :: u154 :: u155 :: u156 :: u157 :: u158 :: u159 :: u160 :: u161 :: u162 :: u163 :: u164 :: u165 :: u166 :: u167 :: u168 :: u169 :: u170 :: u171 :: u172 :: u173 :: u174 :: u175 :: u176 :: u177 :: u178 :: u179 :: u180 :: u181 :: u182 :: u183 :: u184 :: u185 :: u186 :: u187 :: u188 :: u189 :: u190 :: u191 :: u192 :: u193 :: u194 :: u195 :: u196 :: u197 :: u198 :: u199 :: u200 :: u201 :: u202 :: u203 :: u204 :: u205 :: u206 :: u207 :: u208 :: u209 :: u210 :: u211 :: u212 :: u213 :: u214 :: u215 :: u216 :: u217 :: u218 :: u219 :: u220 :: u221 :: u222 :: u223 :: u224 :: u225 :: u226 :: u227 :: u228 :: u229 :: u230 :: u231 :: u232 :: u233 :: u234 :: u235 :: u236 :: u237 :: u238 :: u239 :: u240 :: u241 :: u242 :: u243 :: u244 :: u245 :: u246 :: u247 :: u248 :: u249 :: u250 :: u251 :: u252 :: u253 :: u254 :: u255 :: u256 :: u257 :: u258 :: u259 :: u260 :: u261 :: u262 :: u263 :: u264 :: u265 :: u266 :: u267 :: u268 :: u269 :: u270 :: u271 :: u272 :: u273 :: u274 :: []), defers := [] } W := by
  have HK := hide hK0
  have HX0 := hide hX
  clear hK0 hX
  have z0 : (0 : Int) ≤ (j : Int) := by omega
  have z1 : (j : Int) < 3 := by omega
  have k2 : (0 : Int) < (n : Int) := by omega
  have k3 : ((n : Int) == 0) = false := by simp; omega
  have k4 : ¬ n = 0 := by omega
  refine wp_reg (fun _ => False) (R := fun V => Ch (fun _ => False) W V) (by kernel_rfl) (Ch.drew _) (fun V0 cV zk => ?_)
  have CV := hide cV
  clear cV
  have HX := hide (fun wq (k0 : Ch (fun _ => False) V0 wq) => HX0.out wq (CV.out.trans k0 (fun _ _ h => h)))
  apply tk 0 pulc0 rfl (by kernel_rfl) (fun _ _ _ h => h) zk
  · intro wq zq
    go_simp
    try rfl
  go_frame
  apply tk 1 pulc1 rfl (by kernel_rfl) (fun _ _ _ h => h) zk
  · intro wq zq
    go_simp
    try rfl
  go_frame
  apply tk 2 pulc2 rfl (by kernel_rfl) (fun _ _ _ h => h) zk
  · intro wq zq
    go_simp
    try rfl
  go_frame
  apply tk 3 pulc3 rfl (by kernel_rfl) (fun _ _ _ h => h) zk
  · intro wq zq
    go_simp
    try rfl
  go_frame
  apply tk 4 pulc4 rfl (by kernel_rfl) (fun _ _ _ h => h) zk
  · intro wq zq
    obtain ⟨s0, s1, s2⟩ := HX.out _ zq
    go_simp
    try rfl
  go_frame
  apply tk 5 pulc5 rfl (by kernel_rfl) (fun _ _ _ h => h) zk
  · intro wq zq
    go_simp
    try rfl
  go_frame
  apply tk 6 pulc6 rfl (by kernel_rfl) (fun _ _ _ h => h) zk
  · intro wq zq
    go_simp
    try rfl
  go_frame
  apply tk 7 pulc7 rfl (by kernel_rfl) (fun _ _ _ h => h) zk
  · intro wq zq
    obtain ⟨s0, s1, s2⟩ := HX.out _ zq
    go_simp
    try rfl
  go_frame
  apply tk 8 pulc8 rfl (by kernel_rfl) (fun _ _ _ h => h) zk
  · intro wq zq
    obtain ⟨s0, s1, s2⟩ := HX.out _ zq
    go_simp
    try rfl
  go_frame
  apply tk 9 pulc9 rfl (by kernel_rfl) (fun _ _ _ h => h) zk
  · intro wq zq
    go_simp
    try rfl
  go_frame
  apply tk 10 pulc10 rfl (by kernel_rfl) (fun _ _ _ h => h) zk
  · intro wq zq
    go_simp
    try rfl
  go_frame
  apply tk 11 pulc11 rfl (by kernel_rfl) (fun _ _ _ h => h) zk
  · intro wq zq
    go_simp
    try rfl
  go_frame
  apply tk 12 pulc12 rfl (by kernel_rfl) (fun _ _ _ h => h) zk
  · intro wq zq
    go_simp
    try rfl
  go_frame
  apply tk 13 pulc13 rfl (by kernel_rfl) (fun _ _ _ h => h) zk
  · intro wq zq
    go_simp
    try rfl
  go_frame
  apply tk 14 pulc14 rfl (by kernel_rfl) (fun _ _ _ h => h) zk
  · intro wq zq
    go_simp
    try rfl
  go_frame
  apply tk 15 pulc15 rfl (by kernel_rfl) (fun _ _ _ h => h) zk
  · intro wq zq
    obtain ⟨s0, s1, s2⟩ := HX.out _ zq
    go_simp
    try rfl
  go_frame
  apply tk 16 pulc16 rfl (by kernel_rfl) (fun _ _ _ h => h) zk
  · intro wq zq
    go_simp
    try rfl
  go_frame
  apply tk 17 pulc17 rfl (by kernel_rfl) (fun _ _ _ h => h) zk
  · intro wq zq
    go_simp
    try rfl
  go_frame
  apply tk 18 pulc18 rfl (by kernel_rfl) (fun _ _ _ h => h) zk
  · intro wq zq
    obtain ⟨s0, s1, s2⟩ := HX.out _ zq
    go_simp
    try rfl
  go_frame
  apply tk 19 pulc19 rfl (by kernel_rfl) (fun _ _ _ h => h) zk
  · intro wq zq
    obtain ⟨s0, s1, s2⟩ := HX.out _ zq
    go_simp
    try rfl
  go_frame
  apply tk 20 pulc20 rfl (by kernel_rfl) (fun _ _ _ h => h) zk
  · intro wq zq
    go_simp
    try rfl
  go_frame
  apply tk 21 pulc21 rfl (by kernel_rfl) (fun _ _ _ h => h) zk
  · intro wq zq
    go_simp
    try rfl
  go_frame
  apply tk 22 pulc22 rfl (by kernel_rfl) (fun _ _ _ h => h) zk
  · intro wq zq
    go_simp
    try rfl
  go_frame
  apply tk 23 pulc23 rfl (by kernel_rfl) (fun _ _ _ h => h) zk
  · intro wq zq
    go_simp
    try rfl
  go_frame
  apply tk 24 pulc24 rfl (by kernel_rfl) (fun _ _ _ h => h) zk
  · intro wq zq
    go_simp
    try rfl
  go_frame
  apply tk 25 pulc25 rfl (by kernel_rfl) (fun _ _ _ h => h) zk
  · intro wq zq
    go_simp
    try rfl
  go_frame
  apply tk 26 pulc26 rfl (by kernel_rfl) (fun _ _ _ h => h) zk
  · intro wq zq
    obtain ⟨s0, s1, s2⟩ := HX.out _ zq
    go_simp
    try rfl
  go_frame
  apply tk 27 pulc27 rfl (by kernel_rfl) (fun _ _ _ h => h) zk
  · intro wq zq
    go_simp
    try rfl
  go_frame
  apply tk 28 pulc28 rfl (by kernel_rfl) (fun _ _ _ h => h) zk
  · intro wq zq
    go_simp
    try rfl
  go_frame
  apply tk 29 pulc29 rfl (by kernel_rfl) (fun _ _ _ h => h) zk
  · intro wq zq
    go_simp
    try rfl
  go_frame
  refine wpAnyH_done (by kernel_rfl) ?_ _
  exact HK.out _ _ _ _ _ _ _ _ _ _ _ _ _ _ _ _ _ _ _ _ _ _ _ _ _ _ _ _ _ _ CV.out

abbrev puud0 : Oper := { dst := some 165, op := Op.move (Operand.tmp 18), type := 27, pos := "law.go:192", after := #[], guard := none }
abbrev puud1 : Oper := { dst := some 166, op := Op.binOp BinOp.neq 27 (Operand.tmp 165) (Operand.const (Value.int IntKind.i64 0)) 27, type := 4, pos := "law.go:192", after := #[{ on := 0, ground := Ground.data }], guard := none }
abbrev puud2 : Oper := { dst := some 167, op := Op.move (Operand.tmp 166), type := 4, pos := "law.go:192", after := #[{ on := 1, ground := Ground.data }], guard := none }
abbrev puud3 : Oper := { dst := some 168, op := Op.fieldAddr 46 (Operand.tmp 17) 0, type := 0, pos := "law.go:192", after := #[{ on := 2, ground := Ground.guard }], guard := some (2, false) }
abbrev puud4 : Oper := { dst := some 169, op := Op.load 41 (Operand.tmp 168), type := 41, pos := "law.go:192", after := #[{ on := 3, ground := Ground.data }, { on := 2, ground := Ground.guard }], guard := some (2, false) }
abbrev puud5 : Oper := { dst := some 170, op := Op.binOp BinOp.eql 41 (Operand.tmp 169) (Operand.const (Value.int IntKind.i64 15)) 41, type := 4, pos := "law.go:192", after := #[{ on := 4, ground := Ground.data }, { on := 2, ground := Ground.guard }], guard := some (2, false) }
abbrev puud6 : Oper := { dst := some 171, op := Op.move (Operand.tmp 10), type := 3, pos := "law.go:192", after := #[{ on := 2, ground := Ground.guard }], guard := some (2, false) }
abbrev puud7 : Oper := { dst := some 172, op := Op.indexAddr 31 (Operand.tmp 7) (Operand.tmp 171), type := 0, pos := "law.go:192", after := #[{ on := 6, ground := Ground.data }, { on := 2, ground := Ground.guard }], guard := some (2, false) }
abbrev puud8 : Oper := { dst := some 173, op := Op.load 30 (Operand.tmp 172), type := 30, pos := "law.go:192", after := #[{ on := 7, ground := Ground.data }, { on := 2, ground := Ground.guard }], guard := some (2, false) }
abbrev puud9 : Oper := { dst := some 174, op := Op.call { callee := Callee.builtin Builtin.len, args := #[Operand.tmp 173], argTypes := #[30] }, type := 3, pos := "law.go:192", after := #[{ on := 8, ground := Ground.data }, { on := 2, ground := Ground.guard }], guard := some (2, false) }
abbrev puud10 : Oper := { dst := some 175, op := Op.binOp BinOp.eql 3 (Operand.tmp 174) (Operand.const (Value.int IntKind.i64 0)) 3, type := 4, pos := "law.go:192", after := #[{ on := 9, ground := Ground.data }, { on := 2, ground := Ground.guard }], guard := some (2, false) }
abbrev puud11 : Oper := { dst := some 176, op := Op.binOp BinOp.neq 4 (Operand.tmp 170) (Operand.tmp 175) 4, type := 4, pos := "law.go:192", after := #[{ on := 5, ground := Ground.data }, { on := 10, ground := Ground.data }, { on := 2, ground := Ground.guard }], guard := some (2, false) }
abbrev puud12 : Oper := { dst := some 177, op := Op.pick (Operand.tmp 167) (Operand.const (Value.bool true)) (Operand.tmp 176), type := 4, pos := "law.go:192", after := #[{ on := 2, ground := Ground.data }, { on := 11, ground := Ground.data }], guard := none }

set_option maxRecDepth 100000 in
set_option maxHeartbeats 8000000 in
theorem pt_ud {W : World} {A D j c : Nat} {a : Option Addr} (hj : j < 3) (hX : ∀ wq, Ch (fun _ => False) W wq → wq.cell? ⟨D, 0, none⟩ = some (.int .i64 15) ∧ wq.cell? ⟨A, j, none⟩ = some (.slice a 0 c)) {u0 u1 u2 u3 u4 u5 u6 u8 u9 u11 u12 u13 u14 u15 u16 u19 u20 u21 u22 u23 u24 u25 u26 u27 u28 u29 u30 u31 u32 u33 u34 u35 u36 u37 u38 u39 u40 u41 u42 u43 u44 u45 u46 u47 u48 u49 u50 u51 u52 u53 u54 u55 u56 u57 u58 u59 u60 u61 u62 u63 u64 u65 u66 u67 u68 u69 u70 u71 u72 u73 u74 u75 u76 u77 u78 u79 u80 u81 u82 u83 u84 u85 u86 u87 u88 u89 u90 u91 u92 u93 u94 u95 u96 u97 u98 u99 u100 u101 u102 u103 u104 u105 u106 u107 u108 u109 u110 u111 u112 u113 u114 u115 u116 u117 u118 u119 u120 u121 u122 u123 u124 u125 u126 u127 u128 u129 u130 u131 u132 u133 u134 u135 u136 u137 u138 u139 u140 u141 u142 u143 u144 u145 u146 u147 u148 u149 u150 u151 u152 u153 u154 u155 u156 u157 u158 u159 u160 u161 u162 u163 u164 u165 u166 u167 u168 u169 u170 u171 u172 u173 u174 u175 u176 u177 u178 u179 u180 u181 u182 u183 u184 u185 u186 u187 u188 u189 u190 u191 u192 u193 u194 u195 u196 u197 u198 u199 u200 u201 u202 u203 u204 u205 u206 u207 u208 u209 u210 u211 u212 u213 u214 u215 u216 u217 u218 u219 u220 u221 u222 u223 u224 u225 u226 u227 u228 u229 u230 u231 u232 u233 u234 u235 u236 u237 u238 u239 u240 u241 u242 u243 u244 u245 u246 u247 u248 u249 u250 u251 u252 u253 u254 u255 u256 u257 u258 u259 u260 u261 u262 u263 u264 u265 u266 u267 u268 u269 u270 u271 u272 u273 u274 : Value} {K : Act → World → Prop}
    (hK0 : ∀ (w' : World) (t165 t166 t167 t168 t169 t170 t171 t172 t173 t174 t175 t176 : Value), Ch (fun _ => False) W w' → K { tmps := List.toArray (u0 :: u1 :: u2 :: u3 :: u4 :: u5 :: u6 :: (.pointer (some ⟨A, 0, none⟩)) :: u8 :: u9 :: (.int .i64 (j : Int)) :: u11 :: u12 :: u13 :: u14 :: u15 :: u16 :: (.pointer (some ⟨D, 0, none⟩)) :: (.int .i64 0) :: u19 :: u20 :: u21 :: u22 :: u23 :: u24 :: u25 :: u26 :: u27 :: u28 :: u29 :: u30 :: u31 :: u32 :: u33 :: u34 :: u35 :: u36 :: u37 :: u38 :: u39 :: u40 :: u41 :: u42 :: u43 :: u44 :: u45 :: u46 :: u47 :: u48 :: u49 :: u50 :: u51 :: u52 :: u53 :: u54 :: u55 :: u56 :: u57 :: u58 :: u59 :: u60 :: u61 :: u62 :: u63 :: u64 :: u65 :: u66 :: u67 :: u68 :: u69 :: u70 :: u71 :: u72 :: u73 :: u74 :: u75 :: u76 :: u77 :: u78 :: u79 :: u80 :: u81 :: u82 :: u83 :: u84 :: u85 :: u86 :: u87 :: u88 :: u89 :: u90 :: u91 :: u92 :: u93 :: u94 :: u95 :: u96 :: u97 :: u98 :: u99 :: u100 :: u101 :: u102 :: u103 :: u104 :: u105 :: u106 :: u107 :: u108 :: u109 :: u110 :: u111 :: u112 :: u113 :: u114 :: u115 :: u116 :: u117 :: u118 :: u119 :: u120 :: u121 :: u122 :: u123 :: u124 :: u125 :: u126 :: u127 :: u128 :: u129 :: u130 :: u131 :: u132 :: u133 :: u134 :: u135 :: u136 :: u137 :: u138 :: u139 :: u140 :: u141 :: u142 :: u143 :: u144 :: u145 :: u146 :: u147 :: u148 :: u149 :: u150 :: u151 :: u152 :: u153 :: u154 :: u155 :: u156 :: u157 :: u158 :: u159 :: u160 :: u161 :: u162 :: u163 :: u164 :: (t165) :: (t166) :: (t167) :: (t168) :: (t169) :: (t170) :: (t171) :: (t172) :: (t173) :: (t174) :: (t175) :: (t176) :: (.bool false) :: u178 :: u179 :: u180 :: u181 :: u182 :: u183 :: u184 :: u185 :: u186 :: u187 :: u188 :: u189 :: u190 :: u191 :: u192 :: u193 :: u194 :: u195 :: u196 :: u197 :: u198 :: u199 :: u200 :: u201 :: u202 :: u203 :: u204 :: u205 :: u206 :: u207 :: u208 :: u209 :: u210 :: u211 :: u212 :: u213 :: u214 :: u215 :: u216 :: u217 :: u218 :: u219 :: u220 :: u221 :: u222 :: u223 :: u224 :: u225 :: u226 :: u227 :: u228 :: u229 :: u230 :: u231 :: u232 :: u233 :: u234 :: u235 :: u236 :: u237 :: u238 :: u239 :: u240 :: u241 :: u242 :: u243 :: u244 :: u245 :: u246 :: u247 :: u248 :: u249 :: u250 :: u251 :: u252 :: u253 :: u254 :: u255 :: u256 :: u257 :: u258 :: u259 :: u260 :: u261 :: u262 :: u263 :: u264 :: u265 :: u266 :: u267 :: u268 :: u269 :: u270 :: u271 :: u272 :: u273 :: u274 :: []), defers := [] } w') :
    (Code.region 34 (List.toArray (puud0 :: puud1 :: puud2 :: puud3 :: puud4 :: puud5 :: puud6 :: puud7 :: puud8 :: puud9 :: puud10 :: puud11 :: puud12 :: [])) true).wp Try.prog (Exit.then K (fun _ _ _ => False)) { tmps := List.toArray (u0 :: u1 :: u2 :: u3 :: u4 :: u5 :: u6 :: (.pointer (some ⟨A, 0, none⟩)) :: u8 :: u9 :: (.int .i64 (j : Int)) :: u11 :: u12 :: u13 :: u14 :: u15 :: u16 :: (.pointer (some ⟨D, 0, none⟩)) :: (.int .i64 0) :: u19 :: u20 :: u21 :: u22 :: u23 :: u24 :: u25 :: u26 :: u27 :: u28 :: u29 :: u30 :: u31 :: u32 :: u33 :: u34 :: u35 :: u36 :: u37 :: u38 :: u39 :: u40 :: u41 :: u42 :: u43 :: u44 :: u45 :: u46 :: u47 :: u48 :: u49 :: u50 :: u51 :: u52 :: u53 :: u54 :: u55 :: u56 :: u57 :: u58 :: u59 :: u60 :: u61 :: u62 :: u63 :: u64 :: u65 :: u66 :: u67 :: u68 :: u69 :: u70 :: u71 :: u72 :: u73 :: u74 :: u75 :: u76 :: u77 :: u78 :: u79 :: u80 :: u81 :: u82 :: u83 :: u84 :: u85 :: u86 :: u87 :: u88 :: u89 :: u90 :: u91 :: u92 :: u93 :: u94 :: u95 :: u96 :: u97 :: u98 :: u99 :: u100 :: u101 :: u102 :: u103 :: u104 :: u105 :: u106 :: u107 :: u108 :: u109 :: u110 :: u111 :: u112 :: u113 :: u114 :: u115 :: u116 :: u117 :: u118 :: u119 :: u120 :: u121 :: u122 :: u123 :: u124 :: u125 :: u126 :: u127 :: u128 :: u129 :: u130 :: u131 :: u132 :: u133 :: u134 :: u135 :: u136 :: u137 :: u138 :: u139 :: u140 :: u141 :: u142 :: u143 :: u144 :: u145 :: u146 :: u147 :: u148 :: u149 :: u150 :: u151 :: u152 :: u153 :: u154 :: u155 :: u156 :: u157 :: u158 :: u159 :: u160 :: u161 :: u162 :: u163 :: u164 :: u165 :: u166 :: u167 :: u168 :: u169 :: u170 :: u171 :: u172 :: u173 :: u174 :: u175 :: u176 :: u177 :: u178 :: u179 :: u180 :: u181 :: u182 :: u183 :: u184 :: u185 :: u186 :: u187 :: u188 :: u189 :: u190 :: u191 :: u192 :: u193 :: u194 :: u195 :: u196 :: u197 :: u198 :: u199 :: u200 :: u201 :: u202 :: u203 :: u204 :: u205 :: u206 :: u207 :: u208 :: u209 :: u210 :: u211 :: u212 :: u213 :: u214 :: u215 :: u216 :: u217 :: u218 :: u219 :: u220 :: u221 :: u222 :: u223 :: u224 :: u225 :: u226 :: u227 :: u228 :: u229 :: u230 :: u231 :: u232 :: u233 :: u234 :: u235 :: u236 :: u237 :: u238 :: u239 :: u240 :: u241 :: u242 :: u243 :: u244 :: u245 :: u246 :: u247 :: u248 :: u249 :: u250 :: u251 :: u252 :: u253 :: u254 :: u255 :: u256 :: u257 :: u258 :: u259 :: u260 :: u261 :: u262 :: u263 :: u264 :: u265 :: u266 :: u267 :: u268 :: u269 :: u270 :: u271 :: u272 :: u273 :: u274 :: []), defers := [] } W := by
  have HK := hide hK0
  have HX0 := hide hX
  clear hK0 hX
  have z0 : (0 : Int) ≤ (j : Int) := by omega
  have z1 : (j : Int) < 3 := by omega
  refine wp_reg (fun _ => False) (R := fun V => Ch (fun _ => False) W V) (by kernel_rfl) (Ch.drew _) (fun V0 cV zk => ?_)
  have CV := hide cV
  clear cV
  have HX := hide (fun wq (k0 : Ch (fun _ => False) V0 wq) => HX0.out wq (CV.out.trans k0 (fun _ _ h => h)))
  apply tk 0 puud0 rfl (by kernel_rfl) (fun _ _ _ h => h) zk
  · intro wq zq
    go_simp
    try rfl
  go_frame
  apply tk 1 puud1 rfl (by kernel_rfl) (fun _ _ _ h => h) zk
  · intro wq zq
    go_simp
    try rfl
  go_frame
  apply tk 2 puud2 rfl (by kernel_rfl) (fun _ _ _ h => h) zk
  · intro wq zq
    go_simp
    try rfl
  go_frame
  apply tk 3 puud3 rfl (by kernel_rfl) (fun _ _ _ h => h) zk
  · intro wq zq
    go_simp
    try rfl
  go_frame
  apply tk 4 puud4 rfl (by kernel_rfl) (fun _ _ _ h => h) zk
  · intro wq zq
    obtain ⟨s0, s1⟩ := HX.out _ zq
    go_simp
    try rfl
  go_frame
  apply tk 5 puud5 rfl (by kernel_rfl) (fun _ _ _ h => h) zk
  · intro wq zq
    go_simp
    try rfl
  go_frame
  apply tk 6 puud6 rfl (by kernel_rfl) (fun _ _ _ h => h) zk
  · intro wq zq
    go_simp
    try rfl
  go_frame
  apply tk 7 puud7 rfl (by kernel_rfl) (fun _ _ _ h => h) zk
  · intro wq zq
    obtain ⟨s0, s1⟩ := HX.out _ zq
    go_simp
    try rfl
  go_frame
  apply tk 8 puud8 rfl (by kernel_rfl) (fun _ _ _ h => h) zk
  · intro wq zq
    obtain ⟨s0, s1⟩ := HX.out _ zq
    go_simp
    try rfl
  go_frame
  apply tk 9 puud9 rfl (by kernel_rfl) (fun _ _ _ h => h) zk
  · intro wq zq
    go_simp
    try rfl
  go_frame
  apply tk 10 puud10 rfl (by kernel_rfl) (fun _ _ _ h => h) zk
  · intro wq zq
    go_simp
    try rfl
  go_frame
  apply tk 11 puud11 rfl (by kernel_rfl) (fun _ _ _ h => h) zk
  · intro wq zq
    go_simp
    try rfl
  go_frame
  apply tk 12 puud12 rfl (by kernel_rfl) (fun _ _ _ h => h) zk
  · intro wq zq
    go_simp
    try rfl
  go_frame
  refine wpAnyH_done (by kernel_rfl) ?_ _
  exact HK.out _ _ _ _ _ _ _ _ _ _ _ _ _ CV.out

abbrev puuu0 : Oper := { dst := some 165, op := Op.move (Operand.tmp 18), type := 27, pos := "law.go:192", after := #[], guard := none }
abbrev puuu1 : Oper := { dst := some 166, op := Op.binOp BinOp.neq 27 (Operand.tmp 165) (Operand.const (Value.int IntKind.i64 0)) 27, type := 4, pos := "law.go:192", after := #[{ on := 0, ground := Ground.data }], guard := none }
abbrev puuu2 : Oper := { dst := some 167, op := Op.move (Operand.tmp 166), type := 4, pos := "law.go:192", after := #[{ on := 1, ground := Ground.data }], guard := none }
abbrev puuu3 : Oper := { dst := some 168, op := Op.fieldAddr 46 (Operand.tmp 17) 0, type := 0, pos := "law.go:192", after := #[{ on := 2, ground := Ground.guard }], guard := some (2, false) }
abbrev puuu4 : Oper := { dst := some 169, op := Op.load 41 (Operand.tmp 168), type := 41, pos := "law.go:192", after := #[{ on := 3, ground := Ground.data }, { on := 2, ground := Ground.guard }], guard := some (2, false) }
abbrev puuu5 : Oper := { dst := some 170, op := Op.binOp BinOp.eql 41 (Operand.tmp 169) (Operand.const (Value.int IntKind.i64 15)) 41, type := 4, pos := "law.go:192", after := #[{ on := 4, ground := Ground.data }, { on := 2, ground := Ground.guard }], guard := some (2, false) }
abbrev puuu6 : Oper := { dst := some 171, op := Op.move (Operand.tmp 10), type := 3, pos := "law.go:192", after := #[{ on := 2, ground := Ground.guard }], guard := some (2, false) }
abbrev puuu7 : Oper := { dst := some 172, op := Op.indexAddr 31 (Operand.tmp 7) (Operand.tmp 171), type := 0, pos := "law.go:192", after := #[{ on := 6, ground := Ground.data }, { on := 2, ground := Ground.guard }], guard := some (2, false) }
abbrev puuu8 : Oper := { dst := some 173, op := Op.load 30 (Operand.tmp 172), type := 30, pos := "law.go:192", after := #[{ on := 7, ground := Ground.data }, { on := 2, ground := Ground.guard }], guard := some (2, false) }
abbrev puuu9 : Oper := { dst := some 174, op := Op.call { callee := Callee.builtin Builtin.len, args := #[Operand.tmp 173], argTypes := #[30] }, type := 3, pos := "law.go:192", after := #[{ on := 8, ground := Ground.data }, { on := 2, ground := Ground.guard }], guard := some (2, false) }
abbrev puuu10 : Oper := { dst := some 175, op := Op.binOp BinOp.eql 3 (Operand.tmp 174) (Operand.const (Value.int IntKind.i64 0)) 3, type := 4, pos := "law.go:192", after := #[{ on := 9, ground := Ground.data }, { on := 2, ground := Ground.guard }], guard := some (2, false) }
abbrev puuu11 : Oper := { dst := some 176, op := Op.binOp BinOp.neq 4 (Operand.tmp 170) (Operand.tmp 175) 4, type := 4, pos := "law.go:192", after := #[{ on := 5, ground := Ground.data }, { on := 10, ground := Ground.data }, { on := 2, ground := Ground.guard }], guard := some (2, false) }
abbrev puuu12 : Oper := { dst := some 177, op := Op.pick (Operand.tmp 167) (Operand.const (Value.bool true)) (Operand.tmp 176), type := 4, pos := "law.go:192", after := #[{ on := 2, ground := Ground.data }, { on := 11, ground := Ground.data }], guard := none }

set_option maxRecDepth 100000 in
set_option maxHeartbeats 8000000 in
theorem pt_uu {W : World} {A D j c n : Nat} {a : Option Addr} (hj : j < 3) (hn : 0 < n) (hX : ∀ wq, Ch (fun _ => False) W wq → wq.cell? ⟨D, 0, none⟩ = some (.int .i64 0) ∧ wq.cell? ⟨A, j, none⟩ = some (.slice a n c)) {u0 u1 u2 u3 u4 u5 u6 u8 u9 u11 u12 u13 u14 u15 u16 u19 u20 u21 u22 u23 u24 u25 u26 u27 u28 u29 u30 u31 u32 u33 u34 u35 u36 u37 u38 u39 u40 u41 u42 u43 u44 u45 u46 u47 u48 u49 u50 u51 u52 u53 u54 u55 u56 u57 u58 u59 u60 u61 u62 u63 u64 u65 u66 u67 u68 u69 u70 u71 u72 u73 u74 u75 u76 u77 u78 u79 u80 u81 u82 u83 u84 u85 u86 u87 u88 u89 u90 u91 u92 u93 u94 u95 u96 u97 u98 u99 u100 u101 u102 u103 u104 u105 u106 u107 u108 u109 u110 u111 u112 u113 u114 u115 u116 u117 u118 u119 u120 u121 u122 u123 u124 u125 u126 u127 u128 u129 u130 u131 u132 u133 u134 u135 u136 u137 u138 u139 u140 u141 u142 u143 u144 u145 u146 u147 u148 u149 u150 u151 u152 u153 u154 u155 u156 u157 u158 u159 u160 u161 u162 u163 u164 u165 u166 u167 u168 u169 u170 u171 u172 u173 u174 u175 u176 u177 u178 u179 u180 u181 u182 u183 u184 u185 u186 u187 u188 u189 u190 u191 u192 u193 u194 u195 u196 u197 u198 u199 u200 u201 u202 u203 u204 u205 u206 u207 u208 u209 u210 u211 u212 u213 u214 u215 u216 u217 u218 u219 u220 u221 u222 u223 u224 u225 u226 u227 u228 u229 u230 u231 u232 u233 u234 u235 u236 u237 u238 u239 u240 u241 u242 u243 u244 u245 u246 u247 u248 u249 u250 u251 u252 u253 u254 u255 u256 u257 u258 u259 u260 u261 u262 u263 u264 u265 u266 u267 u268 u269 u270 u271 u272 u273 u274 : Value} {K : Act → World → Prop}
    (hK0 : ∀ (w' : World) (t165 t166 t167 t168 t169 t170 t171 t172 t173 t174 t175 t176 : Value), Ch (fun _ => False) W w' → K { tmps := List.toArray (u0 :: u1 :: u2 :: u3 :: u4 :: u5 :: u6 :: (.pointer (some ⟨A, 0, none⟩)) :: u8 :: u9 :: (.int .i64 (j : Int)) :: u11 :: u12 :: u13 :: u14 :: u15 :: u16 :: (.pointer (some ⟨D, 0, none⟩)) :: (.int .i64 0) :: u19 :: u20 :: u21 :: u22 :: u23 :: u24 :: u25 :: u26 :: u27 :: u28 :: u29 :: u30 :: u31 :: u32 :: u33 :: u34 :: u35 :: u36 :: u37 :: u38 :: u39 :: u40 :: u41 :: u42 :: u43 :: u44 :: u45 :: u46 :: u47 :: u48 :: u49 :: u50 :: u51 :: u52 :: u53 :: u54 :: u55 :: u56 :: u57 :: u58 :: u59 :: u60 :: u61 :: u62 :: u63 :: u64 :: u65 :: u66 :: u67 :: u68 :: u69 :: u70 :: u71 :: u72 :: u73 :: u74 :: u75 :: u76 :: u77 :: u78 :: u79 :: u80 :: u81 :: u82 :: u83 :: u84 :: u85 :: u86 :: u87 :: u88 :: u89 :: u90 :: u91 :: u92 :: u93 :: u94 :: u95 :: u96 :: u97 :: u98 :: u99 :: u100 :: u101 :: u102 :: u103 :: u104 :: u105 :: u106 :: u107 :: u108 :: u109 :: u110 :: u111 :: u112 :: u113 :: u114 :: u115 :: u116 :: u117 :: u118 :: u119 :: u120 :: u121 :: u122 :: u123 :: u124 :: u125 :: u126 :: u127 :: u128 :: u129 :: u130 :: u131 :: u132 :: u133 :: u134 :: u135 :: u136 :: u137 :: u138 :: u139 :: u140 :: u141 :: u142 :: u143 :: u144 :: u145 :: u146 :: u147 :: u148 :: u149 :: u150 :: u151 :: u152 :: u153 :: u154 :: u155 :: u156 :: u157 :: u158 :: u159 :: u160 :: u161 :: u162 :: u163 :: u164 :: (t165) :: (t166) :: (t167) :: (t168) :: (t169) :: (t170) :: (t171) :: (t172) :: (t173) :: (t174) :: (t175) :: (t176) :: (.bool false) :: u178 :: u179 :: u180 :: u181 :: u182 :: u183 :: u184 :: u185 :: u186 :: u187 :: u188 :: u189 :: u190 :: u191 :: u192 :: u193 :: u194 :: u195 :: u196 :: u197 :: u198 :: u199 :: u200 :: u201 :: u202 :: u203 :: u204 :: u205 :: u206 :: u207 :: u208 :: u209 :: u210 :: u211 :: u212 :: u213 :: u214 :: u215 :: u216 :: u217 :: u218 :: u219 :: u220 :: u221 :: u222 :: u223 :: u224 :: u225 :: u226 :: u227 :: u228 :: u229 :: u230 :: u231 :: u232 :: u233 :: u234 :: u235 :: u236 :: u237 :: u238 :: u239 :: u240 :: u241 :: u242 :: u243 :: u244 :: u245 :: u246 :: u247 :: u248 :: u249 :: u250 :: u251 :: u252 :: u253 :: u254 :: u255 :: u256 :: u257 :: u258 :: u259 :: u260 :: u261 :: u262 :: u263 :: u264 :: u265 :: u266 :: u267 :: u268 :: u269 :: u270 :: u271 :: u272 :: u273 :: u274 :: []), defers := [] } w') :
    (Code.region 34 (List.toArray (puuu0 :: puuu1 :: puuu2 :: puuu3 :: puuu4 :: puuu5 :: puuu6 :: puuu7 :: puuu8 :: puuu9 :: puuu10 :: puuu11 :: puuu12 :: [])) true).wp Try.prog (Exit.then K (fun _ _ _ => False)) { tmps := List.toArray (u0 :: u1 :: u2 :: u3 :: u4 :: u5 :: u6 :: (.pointer (some ⟨A, 0, none⟩)) :: u8 :: u9 :: (.int .i64 (j : Int)) :: u11 :: u12 :: u13 :: u14 :: u15 :: u16 :: (.pointer (some ⟨D, 0, none⟩)) :: (.int .i64 0) :: u19 :: u20 :: u21 :: u22 :: u23 :: u24 :: u25 :: u26 :: u27 :: u28 :: u29 :: u30 :: u31 :: u32 :: u33 :: u34 :: u35 :: u36 :: u37 :: u38 :: u39 :: u40 :: u41 :: u42 :: u43 :: u44 :: u45 :: u46 :: u47 :: u48 :: u49 :: u50 :: u51 :: u52 :: u53 :: u54 :: u55 :: u56 :: u57 :: u58 :: u59 :: u60 :: u61 :: u62 :: u63 :: u64 :: u65 :: u66 :: u67 :: u68 :: u69 :: u70 :: u71 :: u72 :: u73 :: u74 :: u75 :: u76 :: u77 :: u78 :: u79 :: u80 :: u81 :: u82 :: u83 :: u84 :: u85 :: u86 :: u87 :: u88 :: u89 :: u90 :: u91 :: u92 :: u93 :: u94 :: u95 :: u96 :: u97 :: u98 :: u99 :: u100 :: u101 :: u102 :: u103 :: u104 :: u105 :: u106 :: u107 :: u108 :: u109 :: u110 :: u111 :: u112 :: u113 :: u114 :: u115 :: u116 :: u117 :: u118 :: u119 :: u120 :: u121 :: u122 :: u123 :: u124 :: u125 :: u126 :: u127 :: u128 :: u129 :: u130 :: u131 :: u132 :: u133 :: u134 :: u135 :: u136 :: u137 :: u138 :: u139 :: u140 :: u141 :: u142 :: u143 :: u144 :: u145 :: u146 :: u147 :: u148 :: u149 :: u150 :: u151 :: u152 :: u153 :: u154 :: u155 :: u156 :: u157 :: u158 :: u159 :: u160 :: u161 :: u162 :: u163 :: u164 :: u165 :: u166 :: u167 :: u168 :: u169 :: u170 :: u171 :: u172 :: u173 :: u174 :: u175 :: u176 :: u177 :: u178 :: u179 :: u180 :: u181 :: u182 :: u183 :: u184 :: u185 :: u186 :: u187 :: u188 :: u189 :: u190 :: u191 :: u192 :: u193 :: u194 :: u195 :: u196 :: u197 :: u198 :: u199 :: u200 :: u201 :: u202 :: u203 :: u204 :: u205 :: u206 :: u207 :: u208 :: u209 :: u210 :: u211 :: u212 :: u213 :: u214 :: u215 :: u216 :: u217 :: u218 :: u219 :: u220 :: u221 :: u222 :: u223 :: u224 :: u225 :: u226 :: u227 :: u228 :: u229 :: u230 :: u231 :: u232 :: u233 :: u234 :: u235 :: u236 :: u237 :: u238 :: u239 :: u240 :: u241 :: u242 :: u243 :: u244 :: u245 :: u246 :: u247 :: u248 :: u249 :: u250 :: u251 :: u252 :: u253 :: u254 :: u255 :: u256 :: u257 :: u258 :: u259 :: u260 :: u261 :: u262 :: u263 :: u264 :: u265 :: u266 :: u267 :: u268 :: u269 :: u270 :: u271 :: u272 :: u273 :: u274 :: []), defers := [] } W := by
  have HK := hide hK0
  have HX0 := hide hX
  clear hK0 hX
  have z0 : (0 : Int) ≤ (j : Int) := by omega
  have z1 : (j : Int) < 3 := by omega
  have k2 : (0 : Int) < (n : Int) := by omega
  have k3 : ((n : Int) == 0) = false := by simp; omega
  have k4 : ¬ n = 0 := by omega
  refine wp_reg (fun _ => False) (R := fun V => Ch (fun _ => False) W V) (by kernel_rfl) (Ch.drew _) (fun V0 cV zk => ?_)
  have CV := hide cV
  clear cV
  have HX := hide (fun wq (k0 : Ch (fun _ => False) V0 wq) => HX0.out wq (CV.out.trans k0 (fun _ _ h => h)))
  apply tk 0 puuu0 rfl (by kernel_rfl) (fun _ _ _ h => h) zk
  · intro wq zq
    go_simp
    try rfl
  go_frame
  apply tk 1 puuu1 rfl (by kernel_rfl) (fun _ _ _ h => h) zk
  · intro wq zq
    go_simp
    try rfl
  go_frame
  apply tk 2 puuu2 rfl (by kernel_rfl) (fun _ _ _ h => h) zk
  · intro wq zq
    go_simp
    try rfl
  go_frame
  apply tk 3 puuu3 rfl (by kernel_rfl) (fun _ _ _ h => h) zk
  · intro wq zq
    go_simp
    try rfl
  go_frame
  apply tk 4 puuu4 rfl (by kernel_rfl) (fun _ _ _ h => h) zk
  · intro wq zq
    obtain ⟨s0, s1⟩ := HX.out _ zq
    go_simp
    try rfl
  go_frame
  apply tk 5 puuu5 rfl (by kernel_rfl) (fun _ _ _ h => h) zk
  · intro wq zq
    go_simp
    try rfl
  go_frame
  apply tk 6 puuu6 rfl (by kernel_rfl) (fun _ _ _ h => h) zk
  · intro wq zq
    go_simp
    try rfl
  go_frame
  apply tk 7 puuu7 rfl (by kernel_rfl) (fun _ _ _ h => h) zk
  · intro wq zq
    obtain ⟨s0, s1⟩ := HX.out _ zq
    go_simp
    try rfl
  go_frame
  apply tk 8 puuu8 rfl (by kernel_rfl) (fun _ _ _ h => h) zk
  · intro wq zq
    obtain ⟨s0, s1⟩ := HX.out _ zq
    go_simp
    try rfl
  go_frame
  apply tk 9 puuu9 rfl (by kernel_rfl) (fun _ _ _ h => h) zk
  · intro wq zq
    go_simp
    try rfl
  go_frame
  apply tk 10 puuu10 rfl (by kernel_rfl) (fun _ _ _ h => h) zk
  · intro wq zq
    go_simp
    try rfl
  go_frame
  apply tk 11 puuu11 rfl (by kernel_rfl) (fun _ _ _ h => h) zk
  · intro wq zq
    go_simp
    try rfl
  go_frame
  apply tk 12 puuu12 rfl (by kernel_rfl) (fun _ _ _ h => h) zk
  · intro wq zq
    go_simp
    try rfl
  go_frame
  refine wpAnyH_done (by kernel_rfl) ?_ _
  exact HK.out _ _ _ _ _ _ _ _ _ _ _ _ _ CV.out

abbrev puvd0 : Oper := { dst := some 189, op := Op.fieldAddr 46 (Operand.tmp 17) 3, type := 0, pos := "law.go:198", after := #[], guard := none }
abbrev puvd1 : Oper := { dst := some 190, op := Op.load 44 (Operand.tmp 189), type := 44, pos := "law.go:198", after := #[{ on := 0, ground := Ground.data }], guard := none }
abbrev puvd2 : Oper := { dst := some 191, op := Op.call { callee := Callee.builtin Builtin.len, args := #[Operand.tmp 190], argTypes := #[44] }, type := 3, pos := "law.go:198", after := #[{ on := 1, ground := Ground.data }], guard := none }
abbrev puvd3 : Oper := { dst := some 192, op := Op.binOp BinOp.gtr 3 (Operand.tmp 191) (Operand.const (Value.int IntKind.i64 0)) 3, type := 4, pos := "law.go:198", after := #[{ on := 2, ground := Ground.data }], guard := none }
abbrev puvd4 : Oper := { dst := some 193, op := Op.fieldAddr 46 (Operand.tmp 17) 0, type := 0, pos := "law.go:198", after := #[], guard := none }
abbrev puvd5 : Oper := { dst := some 194, op := Op.load 41 (Operand.tmp 193), type := 41, pos := "law.go:198", after := #[{ on := 4, ground := Ground.data }], guard := none }
abbrev puvd6 : Oper := { dst := some 195, op := Op.binOp BinOp.eql 41 (Operand.tmp 194) (Operand.const (Value.int IntKind.i64 0)) 41, type := 4, pos := "law.go:198", after := #[{ on := 5, ground := Ground.data }], guard := none }
abbrev puvd7 : Oper := { dst := some 196, op := Op.move (Operand.tmp 195), type := 4, pos := "law.go:198", after := #[{ on := 6, ground := Ground.data }], guard := none }
abbrev puvd8 : Oper := { dst := some 197, op := Op.move (Operand.tmp 10), type := 3, pos := "law.go:198", after := #[{ on := 7, ground := Ground.guard }], guard := some (7, true) }
abbrev puvd9 : Oper := { dst := some 198, op := Op.indexAddr 31 (Operand.tmp 7) (Operand.tmp 197), type := 0, pos := "law.go:198", after := #[{ on := 8, ground := Ground.data }, { on := 7, ground := Ground.guard }], guard := some (7, true) }
abbrev puvd10 : Oper := { dst := some 199, op := Op.load 30 (Operand.tmp 198), type := 30, pos := "law.go:198", after := #[{ on := 9, ground := Ground.data }, { on := 7, ground := Ground.guard }], guard := some (7, true) }
abbrev puvd11 : Oper := { dst := some 200, op := Op.call { callee := Callee.builtin Builtin.len, args := #[Operand.tmp 199], argTypes := #[30] }, type := 3, pos := "law.go:198", after := #[{ on := 10, ground := Ground.data }, { on := 7, ground := Ground.guard }], guard := some (7, true) }
abbrev puvd12 : Oper := { dst := some 201, op := Op.binOp BinOp.gtr 3 (Operand.tmp 200) (Operand.const (Value.int IntKind.i64 0)) 3, type := 4, pos := "law.go:198", after := #[{ on := 11, ground := Ground.data }, { on := 7, ground := Ground.guard }], guard := some (7, true) }
abbrev puvd13 : Oper := { dst := some 202, op := Op.pick (Operand.tmp 196) (Operand.tmp 201) (Operand.const (Value.bool false)), type := 4, pos := "law.go:198", after := #[{ on := 7, ground := Ground.data }, { on := 12, ground := Ground.data }], guard := none }
abbrev puvd14 : Oper := { dst := some 203, op := Op.binOp BinOp.neq 4 (Operand.tmp 192) (Operand.tmp 202) 4, type := 4, pos := "law.go:198", after := #[{ on := 3, ground := Ground.data }, { on := 13, ground := Ground.data }], guard := none }
abbrev puvd15 : Oper := { dst := some 204, op := Op.move (Operand.tmp 203), type := 4, pos := "law.go:198", after := #[{ on := 14, ground := Ground.data }, { on := 7, ground := Ground.chain }], guard := none }
abbrev puvd16 : Oper := { dst := some 205, op := Op.fieldAddr 46 (Operand.tmp 17) 3, type := 0, pos := "law.go:198", after := #[{ on := 15, ground := Ground.guard }], guard := some (15, false) }
abbrev puvd17 : Oper := { dst := some 206, op := Op.load 44 (Operand.tmp 205), type := 44, pos := "law.go:198", after := #[{ on := 16, ground := Ground.data }, { on := 15, ground := Ground.guard }], guard := some (15, false) }
abbrev puvd18 : Oper := { dst := some 207, op := Op.call { callee := Callee.builtin Builtin.len, args := #[Operand.tmp 206], argTypes := #[44] }, type := 3, pos := "law.go:198", after := #[{ on := 17, ground := Ground.data }, { on := 15, ground := Ground.guard }], guard := some (15, false) }
abbrev puvd19 : Oper := { dst := some 208, op := Op.binOp BinOp.gtr 3 (Operand.tmp 207) (Operand.const (Value.int IntKind.i64 0)) 3, type := 4, pos := "law.go:198", after := #[{ on := 18, ground := Ground.data }, { on := 15, ground := Ground.guard }], guard := some (15, false) }
abbrev puvd20 : Oper := { dst := some 209, op := Op.move (Operand.tmp 208), type := 4, pos := "law.go:198", after := #[{ on := 19, ground := Ground.data }, { on := 15, ground := Ground.chain }, { on := 15, ground := Ground.guard }], guard := some (15, false) }
abbrev puvd21 : Oper := { dst := some 210, op := Op.fieldAddr 46 (Operand.tmp 17) 3, type := 0, pos := "law.go:198", after := #[{ on := 20, ground := Ground.guard }], guard := some (20, true) }
abbrev puvd22 : Oper := { dst := some 211, op := Op.load 44 (Operand.tmp 210), type := 44, pos := "law.go:198", after := #[{ on := 21, ground := Ground.data }, { on := 20, ground := Ground.guard }], guard := some (20, true) }
abbrev puvd23 : Oper := { dst := some 212, op := Op.indexAddr 44 (Operand.tmp 211) (Operand.const (Value.int IntKind.i64 0)), type := 0, pos := "law.go:198", after := #[{ on := 22, ground := Ground.data }, { on := 20, ground := Ground.guard }], guard := some (20, true) }
abbrev puvd24 : Oper := { dst := some 213, op := Op.fieldAddr 53 (Operand.tmp 212) 0, type := 0, pos := "law.go:198", after := #[{ on := 23, ground := Ground.data }, { on := 20, ground := Ground.guard }], guard := some (20, true) }
abbrev puvd25 : Oper := { dst := some 214, op := Op.load 35 (Operand.tmp 213), type := 35, pos := "law.go:198", after := #[{ on := 24, ground := Ground.data }, { on := 20, ground := Ground.guard }], guard := some (20, true) }
abbrev puvd26 : Oper := { dst := some 215, op := Op.move (Operand.tmp 10), type := 3, pos := "law.go:198", after := #[{ on := 20, ground := Ground.guard }], guard := some (20, true) }
abbrev puvd27 : Oper := { dst := some 216, op := Op.indexAddr 31 (Operand.tmp 7) (Operand.tmp 215), type := 0, pos := "law.go:198", after := #[{ on := 26, ground := Ground.data }, { on := 20, ground := Ground.guard }], guard := some (20, true) }
abbrev puvd28 : Oper := { dst := some 217, op := Op.load 30 (Operand.tmp 216), type := 30, pos := "law.go:198", after := #[{ on := 27, ground := Ground.data }, { on := 20, ground := Ground.guard }], guard := some (20, true) }
abbrev puvd29 : Oper := { dst := some 218, op := Op.indexAddr 30 (Operand.tmp 217) (Operand.const (Value.int IntKind.i64 0)), type := 0, pos := "law.go:198", after := #[{ on := 28, ground := Ground.data }, { on := 20, ground := Ground.guard }], guard := some (20, true) }
abbrev puvd30 : Oper := { dst := some 219, op := Op.load 35 (Operand.tmp 218), type := 35, pos := "law.go:198", after := #[{ on := 29, ground := Ground.data }, { on := 20, ground := Ground.guard }], guard := some (20, true) }
abbrev puvd31 : Oper := { dst := some 220, op := Op.binOp BinOp.neq 35 (Operand.tmp 214) (Operand.tmp 219) 35, type := 4, pos := "law.go:198", after := #[{ on := 25, ground := Ground.data }, { on := 30, ground := Ground.data }, { on := 20, ground := Ground.guard }], guard := some (20, true) }
abbrev puvd32 : Oper := { dst := some 221, op := Op.pick (Operand.tmp 209) (Operand.tmp 220) (Operand.const (Value.bool false)), type := 4, pos := "law.go:198", after := #[{ on := 20, ground := Ground.data }, { on := 31, ground := Ground.data }, { on := 15, ground := Ground.guard }], guard := some (15, false) }
abbrev puvd33 : Oper := { dst := some 222, op := Op.pick (Operand.tmp 204) (Operand.const (Value.bool true)) (Operand.tmp 221), type := 4, pos := "law.go:198", after := #[{ on := 15, ground := Ground.data }, { on := 32, ground := Ground.data }], guard := none }

set_option maxRecDepth 100000 in
set_option maxHeartbeats 8000000 in
theorem pt_vd {W : World} {A D c2 : Nat} {a2 : Option Addr} {j : Nat}  (hX : ∀ wq, Ch (fun _ => False) W wq → wq.cell? ⟨D, 0, none⟩ = some (.int .i64 15) ∧ wq.cell? ⟨D, 5, none⟩ = some (.slice a2 0 c2)) {u0 u1 u2 u3 u4 u5 u6 u8 u9 u11 u12 u13 u14 u15 u16 u18 u19 u20 u21 u22 u23 u24 u25 u26 u27 u28 u29 u30 u31 u32 u33 u34 u35 u36 u37 u38 u39 u40 u41 u42 u43 u44 u45 u46 u47 u48 u49 u50 u51 u52 u53 u54 u55 u56 u57 u58 u59 u60 u61 u62 u63 u64 u65 u66 u67 u68 u69 u70 u71 u72 u73 u74 u75 u76 u77 u78 u79 u80 u81 u82 u83 u84 u85 u86 u87 u88 u89 u90 u91 u92 u93 u94 u95 u96 u97 u98 u99 u100 u101 u102 u103 u104 u105 u106 u107 u108 u109 u110 u111 u112 u113 u114 u115 u116 u117 u118 u119 u120 u121 u122 u123 u124 u125 u126 u127 u128 u129 u130 u131 u132 u133 u134 u135 u136 u137 u138 u139 u140 u141 u142 u143 u144 u145 u146 u147 u148 u149 u150 u151 u152 u153 u154 u155 u156 u157 u158 u159 u160 u161 u162 u163 u164 u165 u166 u167 u168 u169 u170 u171 u172 u173 u174 u175 u176 u177 u178 u179 u180 u181 u182 u183 u184 u185 u186 u187 u188 u189 u190 u191 u192 u193 u194 u195 u196 u197 u198 u199 u200 u201 u202 u203 u204 u205 u206 u207 u208 u209 u210 u211 u212 u213 u214 u215 u216 u217 u218 u219 u220 u221 u222 u223 u224 u225 u226 u227 u228 u229 u230 u231 u232 u233 u234 u235 u236 u237 u238 u239 u240 u241 u242 u243 u244 u245 u246 u247 u248 u249 u250 u251 u252 u253 u254 u255 u256 u257 u258 u259 u260 u261 u262 u263 u264 u265 u266 u267 u268 u269 u270 u271 u272 u273 u274 : Value} {K : Act → World → Prop}
    (hK0 : ∀ (w' : World) (t189 t190 t191 t192 t193 t194 t195 t196 t197 t198 t199 t200 t201 t202 t203 t204 t205 t206 t207 t208 t209 t210 t211 t212 t213 t214 t215 t216 t217 t218 t219 t220 t221 : Value), Ch (fun _ => False) W w' → K { tmps := List.toArray (u0 :: u1 :: u2 :: u3 :: u4 :: u5 :: u6 :: (.pointer (some ⟨A, 0, none⟩)) :: u8 :: u9 :: (.int .i64 (j : Int)) :: u11 :: u12 :: u13 :: u14 :: u15 :: u16 :: (.pointer (some ⟨D, 0, none⟩)) :: u18 :: u19 :: u20 :: u21 :: u22 :: u23 :: u24 :: u25 :: u26 :: u27 :: u28 :: u29 :: u30 :: u31 :: u32 :: u33 :: u34 :: u35 :: u36 :: u37 :: u38 :: u39 :: u40 :: u41 :: u42 :: u43 :: u44 :: u45 :: u46 :: u47 :: u48 :: u49 :: u50 :: u51 :: u52 :: u53 :: u54 :: u55 :: u56 :: u57 :: u58 :: u59 :: u60 :: u61 :: u62 :: u63 :: u64 :: u65 :: u66 :: u67 :: u68 :: u69 :: u70 :: u71 :: u72 :: u73 :: u74 :: u75 :: u76 :: u77 :: u78 :: u79 :: u80 :: u81 :: u82 :: u83 :: u84 :: u85 :: u86 :: u87 :: u88 :: u89 :: u90 :: u91 :: u92 :: u93 :: u94 :: u95 :: u96 :: u97 :: u98 :: u99 :: u100 :: u101 :: u102 :: u103 :: u104 :: u105 :: u106 :: u107 :: u108 :: u109 :: u110 :: u111 :: u112 :: u113 :: u114 :: u115 :: u116 :: u117 :: u118 :: u119 :: u120 :: u121 :: u122 :: u123 :: u124 :: u125 :: u126 :: u127 :: u128 :: u129 :: u130 :: u131 :: u132 :: u133 :: u134 :: u135 :: u136 :: u137 :: u138 :: u139 :: u140 :: u141 :: u142 :: u143 :: u144 :: u145 :: u146 :: u147 :: u148 :: u149 :: u150 :: u151 :: u152 :: u153 :: u154 :: u155 :: u156 :: u157 :: u158 :: u159 :: u160 :: u161 :: u162 :: u163 :: u164 :: u165 :: u166 :: u167 :: u168 :: u169 :: u170 :: u171 :: u172 :: u173 :: u174 :: u175 :: u176 :: u177 :: u178 :: u179 :: u180 :: u181 :: u182 :: u183 :: u184 :: u185 :: u186 :: u187 :: u188 :: (t189) :: (t190) :: (t191) :: (t192) :: (t193) :: (t194) :: (t195) :: (t196) :: (t197) :: (t198) :: (t199) :: (t200) :: (t201) :: (t202) :: (t203) :: (t204) :: (t205) :: (t206) :: (t207) :: (t208) :: (t209) :: (t210) :: (t211) :: (t212) :: (t213) :: (t214) :: (t215) :: (t216) :: (t217) :: (t218) :: (t219) :: (t220) :: (t221) :: (.bool false) :: u223 :: u224 :: u225 :: u226 :: u227 :: u228 :: u229 :: u230 :: u231 :: u232 :: u233 :: u234 :: u235 :: u236 :: u237 :: u238 :: u239 :: u240 :: u241 :: u242 :: u243 :: u244 :: u245 :: u246 :: u247 :: u248 :: u249 :: u250 :: u251 :: u252 :: u253 :: u254 :: u255 :: u256 :: u257 :: u258 :: u259 :: u260 :: u261 :: u262 :: u263 :: u264 :: u265 :: u266 :: u267 :: u268 :: u269 :: u270 :: u271 :: u272 :: u273 :: u274 :: []), defers := [] } w') :
    (Code.region 38 (List.toArray (puvd0 :: puvd1 :: puvd2 :: puvd3 :: puvd4 :: puvd5 :: puvd6 :: puvd7 :: puvd8 :: puvd9 :: puvd10 :: puvd11 :: puvd12 :: puvd13 :: puvd14 :: puvd15 :: puvd16 :: puvd17 :: puvd18 :: puvd19 :: puvd20 :: puvd21 :: puvd22 :: puvd23 :: puvd24 :: puvd25 :: puvd26 :: puvd27 :: puvd28 :: puvd29 :: puvd30 :: puvd31 :: puvd32 :: puvd33 :: [])) true).wp Try.prog (Exit.then K (fun _ _ _ => False)) { tmps := List.toArray (u0 :: u1 :: u2 :: u3 :: u4 :: u5 :: u6 :: (.pointer (some ⟨A, 0, none⟩)) :: u8 :: u9 :: (.int .i64 (j : Int)) :: u11 :: u12 :: u13 :: u14 :: u15 :: u16 :: (.pointer (some ⟨D, 0, none⟩)) :: u18 :: u19 :: u20 :: u21 :: u22 :: u23 :: u24 :: u25 :: u26 :: u27 :: u28 :: u29 :: u30 :: u31 :: u32 :: u33 :: u34 :: u35 :: u36 :: u37 :: u38 :: u39 :: u40 :: u41 :: u42 :: u43 :: u44 :: u45 :: u46 :: u47 :: u48 :: u49 :: u50 :: u51 :: u52 :: u53 :: u54 :: u55 :: u56 :: u57 :: u58 :: u59 :: u60 :: u61 :: u62 :: u63 :: u64 :: u65 :: u66 :: u67 :: u68 :: u69 :: u70 :: u71 :: u72 :: u73 :: u74 :: u75 :: u76 :: u77 :: u78 :: u79 :: u80 :: u81 :: u82 :: u83 :: u84 :: u85 :: u86 :: u87 :: u88 :: u89 :: u90 :: u91 :: u92 :: u93 :: u94 :: u95 :: u96 :: u97 :: u98 :: u99 :: u100 :: u101 :: u102 :: u103 :: u104 :: u105 :: u106 :: u107 :: u108 :: u109 :: u110 :: u111 :: u112 :: u113 :: u114 :: u115 :: u116 :: u117 :: u118 :: u119 :: u120 :: u121 :: u122 :: u123 :: u124 :: u125 :: u126 :: u127 :: u128 :: u129 :: u130 :: u131 :: u132 :: u133 :: u134 :: u135 :: u136 :: u137 :: u138 :: u139 :: u140 :: u141 :: u142 :: u143 :: u144 :: u145 :: u146 :: u147 :: u148 :: u149 :: u150 :: u151 :: u152 :: u153 :: u154 :: u155 :: u156 :: u157 :: u158 :: u159 :: u160 :: u161 :: u162 :: u163 :: u164 :: u165 :: u166 :: u167 :: u168 :: u169 :: u170 :: u171 :: u172 :: u173 :: u174 :: u175 :: u176 :: u177 :: u178 :: u179 :: u180 :: u181 :: u182 :: u183 :: u184 :: u185 :: u186 :: u187 :: u188 :: u189 :: u190 :: u191 :: u192 :: u193 :: u194 :: u195 :: u196 :: u197 :: u198 :: u199 :: u200 :: u201 :: u202 :: u203 :: u204 :: u205 :: u206 :: u207 :: u208 :: u209 :: u210 :: u211 :: u212 :: u213 :: u214 :: u215 :: u216 :: u217 :: u218 :: u219 :: u220 :: u221 :: u222 :: u223 :: u224 :: u225 :: u226 :: u227 :: u228 :: u229 :: u230 :: u231 :: u232 :: u233 :: u234 :: u235 :: u236 :: u237 :: u238 :: u239 :: u240 :: u241 :: u242 :: u243 :: u244 :: u245 :: u246 :: u247 :: u248 :: u249 :: u250 :: u251 :: u252 :: u253 :: u254 :: u255 :: u256 :: u257 :: u258 :: u259 :: u260 :: u261 :: u262 :: u263 :: u264 :: u265 :: u266 :: u267 :: u268 :: u269 :: u270 :: u271 :: u272 :: u273 :: u274 :: []), defers := [] } W := by
  have HK := hide hK0
  have HX0 := hide hX
  clear hK0 hX
  refine wp_reg (fun _ => False) (R := fun V => Ch (fun _ => False) W V) (by kernel_rfl) (Ch.drew _) (fun V0 cV zk => ?_)
  have CV := hide cV
  clear cV
  have HX := hide (fun wq (k0 : Ch (fun _ => False) V0 wq) => HX0.out wq (CV.out.trans k0 (fun _ _ h => h)))
  apply tk 0 puvd0 rfl (by kernel_rfl) (fun _ _ _ h => h) zk
  · intro wq zq
    go_simp
    try rfl
  go_frame
  apply tk 1 puvd1 rfl (by kernel_rfl) (fun _ _ _ h => h) zk
  · intro wq zq
    obtain ⟨s0, s1⟩ := HX.out _ zq
    go_simp
    try rfl
  go_frame
  apply tk 2 puvd2 rfl (by kernel_rfl) (fun _ _ _ h => h) zk
  · intro wq zq
    go_simp
    try rfl
  go_frame
  apply tk 3 puvd3 rfl (by kernel_rfl) (fun _ _ _ h => h) zk
  · intro wq zq
    go_simp
    try rfl
  go_frame
  apply tk 4 puvd4 rfl (by kernel_rfl) (fun _ _ _ h => h) zk
  · intro wq zq
    go_simp
    try rfl
  go_frame
  apply tk 5 puvd5 rfl (by kernel_rfl) (fun _ _ _ h => h) zk
  · intro wq zq
    obtain ⟨s0, s1⟩ := HX.out _ zq
    go_simp
    try rfl
  go_frame
  apply tk 6 puvd6 rfl (by kernel_rfl) (fun _ _ _ h => h) zk
  · intro wq zq
    go_simp
    try rfl
  go_frame
  apply tk 7 puvd7 rfl (by kernel_rfl) (fun _ _ _ h => h) zk
  · intro wq zq
    go_simp
    try rfl
  go_frame
  apply sk 8 puvd8 rfl (by kernel_rfl) (fun _ _ _ h => h) zk
  go_frame
  apply sk 9 puvd9 rfl (by kernel_rfl) (fun _ _ _ h => h) zk
  go_frame
  apply sk 10 puvd10 rfl (by kernel_rfl) (fun _ _ _ h => h) zk
  go_frame
  apply sk 11 puvd11 rfl (by kernel_rfl) (fun _ _ _ h => h) zk
  go_frame
  apply sk 12 puvd12 rfl (by kernel_rfl) (fun _ _ _ h => h) zk
  go_frame
  apply tk 13 puvd13 rfl (by kernel_rfl) (fun _ _ _ h => h) zk
  · intro wq zq
    go_simp
    try rfl
  go_frame
  apply tk 14 puvd14 rfl (by kernel_rfl) (fun _ _ _ h => h) zk
  · intro wq zq
    go_simp
    try rfl
  go_frame
  apply tk 15 puvd15 rfl (by kernel_rfl) (fun _ _ _ h => h) zk
  · intro wq zq
    go_simp
    try rfl
  go_frame
  apply tk 16 puvd16 rfl (by kernel_rfl) (fun _ _ _ h => h) zk
  · intro wq zq
    go_simp
    try rfl
  go_frame
  apply tk 17 puvd17 rfl (by kernel_rfl) (fun _ _ _ h => h) zk
  · intro wq zq
    obtain ⟨s0, s1⟩ := HX.out _ zq
    go_simp
    try rfl
  go_frame
  apply tk 18 puvd18 rfl (by kernel_rfl) (fun _ _ _ h => h) zk
  · intro wq zq
    go_simp
    try rfl
  go_frame
  apply tk 19 puvd19 rfl (by kernel_rfl) (fun _ _ _ h => h) zk
  · intro wq zq
    go_simp
    try rfl
  go_frame
  apply tk 20 puvd20 rfl (by kernel_rfl) (fun _ _ _ h => h) zk
  · intro wq zq
    go_simp
    try rfl
  go_frame
  apply sk 21 puvd21 rfl (by kernel_rfl) (fun _ _ _ h => h) zk
  go_frame
  apply sk 22 puvd22 rfl (by kernel_rfl) (fun _ _ _ h => h) zk
  go_frame
  apply sk 23 puvd23 rfl (by kernel_rfl) (fun _ _ _ h => h) zk
  go_frame
  apply sk 24 puvd24 rfl (by kernel_rfl) (fun _ _ _ h => h) zk
  go_frame
  apply sk 25 puvd25 rfl (by kernel_rfl) (fun _ _ _ h => h) zk
  go_frame
  apply sk 26 puvd26 rfl (by kernel_rfl) (fun _ _ _ h => h) zk
  go_frame
  apply sk 27 puvd27 rfl (by kernel_rfl) (fun _ _ _ h => h) zk
  go_frame
  apply sk 28 puvd28 rfl (by kernel_rfl) (fun _ _ _ h => h) zk
  go_frame
  apply sk 29 puvd29 rfl (by kernel_rfl) (fun _ _ _ h => h) zk
  go_frame
  apply sk 30 puvd30 rfl (by kernel_rfl) (fun _ _ _ h => h) zk
  go_frame
  apply sk 31 puvd31 rfl (by kernel_rfl) (fun _ _ _ h => h) zk
  go_frame
  apply tk 32 puvd32 rfl (by kernel_rfl) (fun _ _ _ h => h) zk
  · intro wq zq
    go_simp
    try rfl
  go_frame
  apply tk 33 puvd33 rfl (by kernel_rfl) (fun _ _ _ h => h) zk
  · intro wq zq
    go_simp
    try rfl
  go_frame
  refine wpAnyH_done (by kernel_rfl) ?_ _
  exact HK.out _ _ _ _ _ _ _ _ _ _ _ _ _ _ _ _ _ _ _ _ _ _ _ _ _ _ _ _ _ _ _ _ _ _ CV.out

abbrev puv00 : Oper := { dst := some 189, op := Op.fieldAddr 46 (Operand.tmp 17) 3, type := 0, pos := "law.go:198", after := #[], guard := none }
abbrev puv01 : Oper := { dst := some 190, op := Op.load 44 (Operand.tmp 189), type := 44, pos := "law.go:198", after := #[{ on := 0, ground := Ground.data }], guard := none }
abbrev puv02 : Oper := { dst := some 191, op := Op.call { callee := Callee.builtin Builtin.len, args := #[Operand.tmp 190], argTypes := #[44] }, type := 3, pos := "law.go:198", after := #[{ on := 1, ground := Ground.data }], guard := none }
abbrev puv03 : Oper := { dst := some 192, op := Op.binOp BinOp.gtr 3 (Operand.tmp 191) (Operand.const (Value.int IntKind.i64 0)) 3, type := 4, pos := "law.go:198", after := #[{ on := 2, ground := Ground.data }], guard := none }
abbrev puv04 : Oper := { dst := some 193, op := Op.fieldAddr 46 (Operand.tmp 17) 0, type := 0, pos := "law.go:198", after := #[], guard := none }
abbrev puv05 : Oper := { dst := some 194, op := Op.load 41 (Operand.tmp 193), type := 41, pos := "law.go:198", after := #[{ on := 4, ground := Ground.data }], guard := none }
abbrev puv06 : Oper := { dst := some 195, op := Op.binOp BinOp.eql 41 (Operand.tmp 194) (Operand.const (Value.int IntKind.i64 0)) 41, type := 4, pos := "law.go:198", after := #[{ on := 5, ground := Ground.data }], guard := none }
abbrev puv07 : Oper := { dst := some 196, op := Op.move (Operand.tmp 195), type := 4, pos := "law.go:198", after := #[{ on := 6, ground := Ground.data }], guard := none }
abbrev puv08 : Oper := { dst := some 197, op := Op.move (Operand.tmp 10), type := 3, pos := "law.go:198", after := #[{ on := 7, ground := Ground.guard }], guard := some (7, true) }
abbrev puv09 : Oper := { dst := some 198, op := Op.indexAddr 31 (Operand.tmp 7) (Operand.tmp 197), type := 0, pos := "law.go:198", after := #[{ on := 8, ground := Ground.data }, { on := 7, ground := Ground.guard }], guard := some (7, true) }
abbrev puv010 : Oper := { dst := some 199, op := Op.load 30 (Operand.tmp 198), type := 30, pos := "law.go:198", after := #[{ on := 9, ground := Ground.data }, { on := 7, ground := Ground.guard }], guard := some (7, true) }
abbrev puv011 : Oper := { dst := some 200, op := Op.call { callee := Callee.builtin Builtin.len, args := #[Operand.tmp 199], argTypes := #[30] }, type := 3, pos := "law.go:198", after := #[{ on := 10, ground := Ground.data }, { on := 7, ground := Ground.guard }], guard := some (7, true) }
abbrev puv012 : Oper := { dst := some 201, op := Op.binOp BinOp.gtr 3 (Operand.tmp 200) (Operand.const (Value.int IntKind.i64 0)) 3, type := 4, pos := "law.go:198", after := #[{ on := 11, ground := Ground.data }, { on := 7, ground := Ground.guard }], guard := some (7, true) }
abbrev puv013 : Oper := { dst := some 202, op := Op.pick (Operand.tmp 196) (Operand.tmp 201) (Operand.const (Value.bool false)), type := 4, pos := "law.go:198", after := #[{ on := 7, ground := Ground.data }, { on := 12, ground := Ground.data }], guard := none }
abbrev puv014 : Oper := { dst := some 203, op := Op.binOp BinOp.neq 4 (Operand.tmp 192) (Operand.tmp 202) 4, type := 4, pos := "law.go:198", after := #[{ on := 3, ground := Ground.data }, { on := 13, ground := Ground.data }], guard := none }
abbrev puv015 : Oper := { dst := some 204, op := Op.move (Operand.tmp 203), type := 4, pos := "law.go:198", after := #[{ on := 14, ground := Ground.data }, { on := 7, ground := Ground.chain }], guard := none }
abbrev puv016 : Oper := { dst := some 205, op := Op.fieldAddr 46 (Operand.tmp 17) 3, type := 0, pos := "law.go:198", after := #[{ on := 15, ground := Ground.guard }], guard := some (15, false) }
abbrev puv017 : Oper := { dst := some 206, op := Op.load 44 (Operand.tmp 205), type := 44, pos := "law.go:198", after := #[{ on := 16, ground := Ground.data }, { on := 15, ground := Ground.guard }], guard := some (15, false) }
abbrev puv018 : Oper := { dst := some 207, op := Op.call { callee := Callee.builtin Builtin.len, args := #[Operand.tmp 206], argTypes := #[44] }, type := 3, pos := "law.go:198", after := #[{ on := 17, ground := Ground.data }, { on := 15, ground := Ground.guard }], guard := some (15, false) }
abbrev puv019 : Oper := { dst := some 208, op := Op.binOp BinOp.gtr 3 (Operand.tmp 207) (Operand.const (Value.int IntKind.i64 0)) 3, type := 4, pos := "law.go:198", after := #[{ on := 18, ground := Ground.data }, { on := 15, ground := Ground.guard }], guard := some (15, false) }
abbrev puv020 : Oper := { dst := some 209, op := Op.move (Operand.tmp 208), type := 4, pos := "law.go:198", after := #[{ on := 19, ground := Ground.data }, { on := 15, ground := Ground.chain }, { on := 15, ground := Ground.guard }], guard := some (15, false) }
abbrev puv021 : Oper := { dst := some 210, op := Op.fieldAddr 46 (Operand.tmp 17) 3, type := 0, pos := "law.go:198", after := #[{ on := 20, ground := Ground.guard }], guard := some (20, true) }
abbrev puv022 : Oper := { dst := some 211, op := Op.load 44 (Operand.tmp 210), type := 44, pos := "law.go:198", after := #[{ on := 21, ground := Ground.data }, { on := 20, ground := Ground.guard }], guard := some (20, true) }
abbrev puv023 : Oper := { dst := some 212, op := Op.indexAddr 44 (Operand.tmp 211) (Operand.const (Value.int IntKind.i64 0)), type := 0, pos := "law.go:198", after := #[{ on := 22, ground := Ground.data }, { on := 20, ground := Ground.guard }], guard := some (20, true) }
abbrev puv024 : Oper := { dst := some 213, op := Op.fieldAddr 53 (Operand.tmp 212) 0, type := 0, pos := "law.go:198", after := #[{ on := 23, ground := Ground.data }, { on := 20, ground := Ground.guard }], guard := some (20, true) }
abbrev puv025 : Oper := { dst := some 214, op := Op.load 35 (Operand.tmp 213), type := 35, pos := "law.go:198", after := #[{ on := 24, ground := Ground.data }, { on := 20, ground := Ground.guard }], guard := some (20, true) }
abbrev puv026 : Oper := { dst := some 215, op := Op.move (Operand.tmp 10), type := 3, pos := "law.go:198", after := #[{ on := 20, ground := Ground.guard }], guard := some (20, true) }
abbrev puv027 : Oper := { dst := some 216, op := Op.indexAddr 31 (Operand.tmp 7) (Operand.tmp 215), type := 0, pos := "law.go:198", after := #[{ on := 26, ground := Ground.data }, { on := 20, ground := Ground.guard }], guard := some (20, true) }
abbrev puv028 : Oper := { dst := some 217, op := Op.load 30 (Operand.tmp 216), type := 30, pos := "law.go:198", after := #[{ on := 27, ground := Ground.data }, { on := 20, ground := Ground.guard }], guard := some (20, true) }
abbrev puv029 : Oper := { dst := some 218, op := Op.indexAddr 30 (Operand.tmp 217) (Operand.const (Value.int IntKind.i64 0)), type := 0, pos := "law.go:198", after := #[{ on := 28, ground := Ground.data }, { on := 20, ground := Ground.guard }], guard := some (20, true) }
abbrev puv030 : Oper := { dst := some 219, op := Op.load 35 (Operand.tmp 218), type := 35, pos := "law.go:198", after := #[{ on := 29, ground := Ground.data }, { on := 20, ground := Ground.guard }], guard := some (20, true) }
abbrev puv031 : Oper := { dst := some 220, op := Op.binOp BinOp.neq 35 (Operand.tmp 214) (Operand.tmp 219) 35, type := 4, pos := "law.go:198", after := #[{ on := 25, ground := Ground.data }, { on := 30, ground := Ground.data }, { on := 20, ground := Ground.guard }], guard := some (20, true) }
abbrev puv032 : Oper := { dst := some 221, op := Op.pick (Operand.tmp 209) (Operand.tmp 220) (Operand.const (Value.bool false)), type := 4, pos := "law.go:198", after := #[{ on := 20, ground := Ground.data }, { on := 31, ground := Ground.data }, { on := 15, ground := Ground.guard }], guard := some (15, false) }
abbrev puv033 : Oper := { dst := some 222, op := Op.pick (Operand.tmp 204) (Operand.const (Value.bool true)) (Operand.tmp 221), type := 4, pos := "law.go:198", after := #[{ on := 15, ground := Ground.data }, { on := 32, ground := Ground.data }], guard := none }

set_option maxRecDepth 100000 in
set_option maxHeartbeats 8000000 in
theorem pt_v0 {W : World} {A D j c c2 : Nat} {a a2 : Option Addr} (hj : j < 3) (hX : ∀ wq, Ch (fun _ => False) W wq → wq.cell? ⟨D, 0, none⟩ = some (.int .i64 0) ∧ wq.cell? ⟨D, 5, none⟩ = some (.slice a2 0 c2) ∧ wq.cell? ⟨A, j, none⟩ = some (.slice a 0 c)) {u0 u1 u2 u3 u4 u5 u6 u8 u9 u11 u12 u13 u14 u15 u16 u18 u19 u20 u21 u22 u23 u24 u25 u26 u27 u28 u29 u30 u31 u32 u33 u34 u35 u36 u37 u38 u39 u40 u41 u42 u43 u44 u45 u46 u47 u48 u49 u50 u51 u52 u53 u54 u55 u56 u57 u58 u59 u60 u61 u62 u63 u64 u65 u66 u67 u68 u69 u70 u71 u72 u73 u74 u75 u76 u77 u78 u79 u80 u81 u82 u83 u84 u85 u86 u87 u88 u89 u90 u91 u92 u93 u94 u95 u96 u97 u98 u99 u100 u101 u102 u103 u104 u105 u106 u107 u108 u109 u110 u111 u112 u113 u114 u115 u116 u117 u118 u119 u120 u121 u122 u123 u124 u125 u126 u127 u128 u129 u130 u131 u132 u133 u134 u135 u136 u137 u138 u139 u140 u141 u142 u143 u144 u145 u146 u147 u148 u149 u150 u151 u152 u153 u154 u155 u156 u157 u158 u159 u160 u161 u162 u163 u164 u165 u166 u167 u168 u169 u170 u171 u172 u173 u174 u175 u176 u177 u178 u179 u180 u181 u182 u183 u184 u185 u186 u187 u188 u189 u190 u191 u192 u193 u194 u195 u196 u197 u198 u199 u200 u201 u202 u203 u204 u205 u206 u207 u208 u209 u210 u211 u212 u213 u214 u215 u216 u217 u218 u219 u220 u221 u222 u223 u224 u225 u226 u227 u228 u229 u230 u231 u232 u233 u234 u235 u236 u237 u238 u239 u240 u241 u242 u243 u244 u245 u246 u247 u248 u249 u250 u251 u252 u253 u254 u255 u256 u257 u258 u259 u260 u261 u262 u263 u264 u265 u266 u267 u268 u269 u270 u271 u272 u273 u274 : Value} {K : Act → World → Prop}
    (hK0 : ∀ (w' : World) (t189 t190 t191 t192 t193 t194 t195 t196 t197 t198 t199 t200 t201 t202 t203 t204 t205 t206 t207 t208 t209 t210 t211 t212 t213 t214 t215 t216 t217 t218 t219 t220 t221 : Value), Ch (fun _ => False) W w' → K { tmps := List.toArray (u0 :: u1 :: u2 :: u3 :: u4 :: u5 :: u6 :: (.pointer (some ⟨A, 0, none⟩)) :: u8 :: u9 :: (.int .i64 (j : Int)) :: u11 :: u12 :: u13 :: u14 :: u15 :: u16 :: (.pointer (some ⟨D, 0, none⟩)) :: u18 :: u19 :: u20 :: u21 :: u22 :: u23 :: u24 :: u25 :: u26 :: u27 :: u28 :: u29 :: u30 :: u31 :: u32 :: u33 :: u34 :: u35 :: u36 :: u37 :: u38 :: u39 :: u40 :: u41 :: u42 :: u43 :: u44 :: u45 :: u46 :: u47 :: u48 :: u49 :: u50 :: u51 :: u52 :: u53 :: u54 :: u55 :: u56 :: u57 :: u58 :: u59 :: u60 :: u61 :: u62 :: u63 :: u64 :: u65 :: u66 :: u67 :: u68 :: u69 :: u70 :: u71 :: u72 :: u73 :: u74 :: u75 :: u76 :: u77 :: u78 :: u79 :: u80 :: u81 :: u82 :: u83 :: u84 :: u85 :: u86 :: u87 :: u88 :: u89 :: u90 :: u91 :: u92 :: u93 :: u94 :: u95 :: u96 :: u97 :: u98 :: u99 :: u100 :: u101 :: u102 :: u103 :: u104 :: u105 :: u106 :: u107 :: u108 :: u109 :: u110 :: u111 :: u112 :: u113 :: u114 :: u115 :: u116 :: u117 :: u118 :: u119 :: u120 :: u121 :: u122 :: u123 :: u124 :: u125 :: u126 :: u127 :: u128 :: u129 :: u130 :: u131 :: u132 :: u133 :: u134 :: u135 :: u136 :: u137 :: u138 :: u139 :: u140 :: u141 :: u142 :: u143 :: u144 :: u145 :: u146 :: u147 :: u148 :: u149 :: u150 :: u151 :: u152 :: u153 :: u154 :: u155 :: u156 :: u157 :: u158 :: u159 :: u160 :: u161 :: u162 :: u163 :: u164 :: u165 :: u166 :: u167 :: u168 :: u169 :: u170 :: u171 :: u172 :: u173 :: u174 :: u175 :: u176 :: u177 :: u178 :: u179 :: u180 :: u181 :: u182 :: u183 :: u184 :: u185 :: u186 :: u187 :: u188 :: (t189) :: (t190) :: (t191) :: (t192) :: (t193) :: (t194) :: (t195) :: (t196) :: (t197) :: (t198) :: (t199) :: (t200) :: (t201) :: (t202) :: (t203) :: (t204) :: (t205) :: (t206) :: (t207) :: (t208) :: (t209) :: (t210) :: (t211) :: (t212) :: (t213) :: (t214) :: (t215) :: (t216) :: (t217) :: (t218) :: (t219) :: (t220) :: (t221) :: (.bool false) :: u223 :: u224 :: u225 :: u226 :: u227 :: u228 :: u229 :: u230 :: u231 :: u232 :: u233 :: u234 :: u235 :: u236 :: u237 :: u238 :: u239 :: u240 :: u241 :: u242 :: u243 :: u244 :: u245 :: u246 :: u247 :: u248 :: u249 :: u250 :: u251 :: u252 :: u253 :: u254 :: u255 :: u256 :: u257 :: u258 :: u259 :: u260 :: u261 :: u262 :: u263 :: u264 :: u265 :: u266 :: u267 :: u268 :: u269 :: u270 :: u271 :: u272 :: u273 :: u274 :: []), defers := [] } w') :
    (Code.region 38 (List.toArray (puv00 :: puv01 :: puv02 :: puv03 :: puv04 :: puv05 :: puv06 :: puv07 :: puv08 :: puv09 :: puv010 :: puv011 :: puv012 :: puv013 :: puv014 :: puv015 :: puv016 :: puv017 :: puv018 :: puv019 :: puv020 :: puv021 :: puv022 :: puv023 :: puv024 :: puv025 :: puv026 :: puv027 :: puv028 :: puv029 :: puv030 :: puv031 :: puv032 :: puv033 :: [])) true).wp Try.prog (Exit.then K (fun _ _ _ => False)) { tmps := List.toArray (u0 :: u1 :: u2 :: u3 :: u4 :: u5 :: u6 :: (.pointer (some ⟨A, 0, none⟩)) :: u8 :: u9 :: (.int .i64 (j : Int)) :: u11 :: u12 :: u13 :: u14 :: u15 :: u16 :: (.pointer (some ⟨D, 0, none⟩)) :: u18 :: u19 :: u20 :: u21 :: u22 :: u23 :: u24 :: u25 :: u26 :: u27 :: u28 :: u29 :: u30 :: u31 :: u32 :: u33 :: u34 :: u35 :: u36 :: u37 :: u38 :: u39 :: u40 :: u41 :: u42 :: u43 :: u44 :: u45 :: u46 :: u47 :: u48 :: u49 :: u50 :: u51 :: u52 :: u53 :: u54 :: u55 :: u56 :: u57 :: u58 :: u59 :: u60 :: u61 :: u62 :: u63 :: u64 :: u65 :: u66 :: u67 :: u68 :: u69 :: u70 :: u71 :: u72 :: u73 :: u74 :: u75 :: u76 :: u77 :: u78 :: u79 :: u80 :: u81 :: u82 :: u83 :: u84 :: u85 :: u86 :: u87 :: u88 :: u89 :: u90 :: u91 :: u92 :: u93 :: u94 :: u95 :: u96 :: u97 :: u98 :: u99 :: u100 :: u101 :: u102 :: u103 :: u104 :: u105 :: u106 :: u107 :: u108 :: u109 :: u110 :: u111 :: u112 :: u113 :: u114 :: u115 :: u116 :: u117 :: u118 :: u119 :: u120 :: u121 :: u122 :: u123 :: u124 :: u125 :: u126 :: u127 :: u128 :: u129 :: u130 :: u131 :: u132 :: u133 :: u134 :: u135 :: u136 :: u137 :: u138 :: u139 :: u140 :: u141 :: u142 :: u143 :: u144 :: u145 :: u146 :: u147 :: u148 :: u149 :: u150 :: u151 :: u152 :: u153 :: u154 :: u155 :: u156 :: u157 :: u158 :: u159 :: u160 :: u161 :: u162 :: u163 :: u164 :: u165 :: u166 :: u167 :: u168 :: u169 :: u170 :: u171 :: u172 :: u173 :: u174 :: u175 :: u176 :: u177 :: u178 :: u179 :: u180 :: u181 :: u182 :: u183 :: u184 :: u185 :: u186 :: u187 :: u188 :: u189 :: u190 :: u191 :: u192 :: u193 :: u194 :: u195 :: u196 :: u197 :: u198 :: u199 :: u200 :: u201 :: u202 :: u203 :: u204 :: u205 :: u206 :: u207 :: u208 :: u209 :: u210 :: u211 :: u212 :: u213 :: u214 :: u215 :: u216 :: u217 :: u218 :: u219 :: u220 :: u221 :: u222 :: u223 :: u224 :: u225 :: u226 :: u227 :: u228 :: u229 :: u230 :: u231 :: u232 :: u233 :: u234 :: u235 :: u236 :: u237 :: u238 :: u239 :: u240 :: u241 :: u242 :: u243 :: u244 :: u245 :: u246 :: u247 :: u248 :: u249 :: u250 :: u251 :: u252 :: u253 :: u254 :: u255 :: u256 :: u257 :: u258 :: u259 :: u260 :: u261 :: u262 :: u263 :: u264 :: u265 :: u266 :: u267 :: u268 :: u269 :: u270 :: u271 :: u272 :: u273 :: u274 :: []), defers := [] } W := by
  have HK := hide hK0
  have HX0 := hide hX
  clear hK0 hX
  have z0 : (0 : Int) ≤ (j : Int) := by omega
  have z1 : (j : Int) < 3 := by omega
  refine wp_reg (fun _ => False) (R := fun V => Ch (fun _ => False) W V) (by kernel_rfl) (Ch.drew _) (fun V0 cV zk => ?_)
  have CV := hide cV
  clear cV
  have HX := hide (fun wq (k0 : Ch (fun _ => False) V0 wq) => HX0.out wq (CV.out.trans k0 (fun _ _ h => h)))
  apply tk 0 puv00 rfl (by kernel_rfl) (fun _ _ _ h => h) zk
  · intro wq zq
    go_simp
    try rfl
  go_frame
  apply tk 1 puv01 rfl (by kernel_rfl) (fun _ _ _ h => h) zk
  · intro wq zq
    obtain ⟨s0, s1, s2⟩ := HX.out _ zq
    go_simp
    try rfl
  go_frame
  apply tk 2 puv02 rfl (by kernel_rfl) (fun _ _ _ h => h) zk
  · intro wq zq
    go_simp
    try rfl
  go_frame
  apply tk 3 puv03 rfl (by kernel_rfl) (fun _ _ _ h => h) zk
  · intro wq zq
    go_simp
    try rfl
  go_frame
  apply tk 4 puv04 rfl (by kernel_rfl) (fun _ _ _ h => h) zk
  · intro wq zq
    go_simp
    try rfl
  go_frame
  apply tk 5 puv05 rfl (by kernel_rfl) (fun _ _ _ h => h) zk
  · intro wq zq
    obtain ⟨s0, s1, s2⟩ := HX.out _ zq
    go_simp
    try rfl
  go_frame
  apply tk 6 puv06 rfl (by kernel_rfl) (fun _ _ _ h => h) zk
  · intro wq zq
    go_simp
    try rfl
  go_frame
  apply tk 7 puv07 rfl (by kernel_rfl) (fun _ _ _ h => h) zk
  · intro wq zq
    go_simp
    try rfl
  go_frame
  apply tk 8 puv08 rfl (by kernel_rfl) (fun _ _ _ h => h) zk
  · intro wq zq
    go_simp
    try rfl
  go_frame
  apply tk 9 puv09 rfl (by kernel_rfl) (fun _ _ _ h => h) zk
  · intro wq zq
    obtain ⟨s0, s1, s2⟩ := HX.out _ zq
    go_simp
    try rfl
  go_frame
  apply tk 10 puv010 rfl (by kernel_rfl) (fun _ _ _ h => h) zk
  · intro wq zq
    obtain ⟨s0, s1, s2⟩ := HX.out _ zq
    go_simp
    try rfl
  go_frame
  apply tk 11 puv011 rfl (by kernel_rfl) (fun _ _ _ h => h) zk
  · intro wq zq
    go_simp
    try rfl
  go_frame
  apply tk 12 puv012 rfl (by kernel_rfl) (fun _ _ _ h => h) zk
  · intro wq zq
    go_simp
    try rfl
  go_frame
  apply tk 13 puv013 rfl (by kernel_rfl) (fun _ _ _ h => h) zk
  · intro wq zq
    go_simp
    try rfl
  go_frame
  apply tk 14 puv014 rfl (by kernel_rfl) (fun _ _ _ h => h) zk
  · intro wq zq
    go_simp
    try rfl
  go_frame
  apply tk 15 puv015 rfl (by kernel_rfl) (fun _ _ _ h => h) zk
  · intro wq zq
    go_simp
    try rfl
  go_frame
  apply tk 16 puv016 rfl (by kernel_rfl) (fun _ _ _ h => h) zk
  · intro wq zq
    go_simp
    try rfl
  go_frame
  apply tk 17 puv017 rfl (by kernel_rfl) (fun _ _ _ h => h) zk
  · intro wq zq
    obtain ⟨s0, s1, s2⟩ := HX.out _ zq
    go_simp
    try rfl
  go_frame
  apply tk 18 puv018 rfl (by kernel_rfl) (fun _ _ _ h => h) zk
  · intro wq zq
    go_simp
    try rfl
  go_frame
  apply tk 19 puv019 rfl (by kernel_rfl) (fun _ _ _ h => h) zk
  · intro wq zq
    go_simp
    try rfl
  go_frame
  apply tk 20 puv020 rfl (by kernel_rfl) (fun _ _ _ h => h) zk
  · intro wq zq
    go_simp
    try rfl
  go_frame
  apply sk 21 puv021 rfl (by kernel_rfl) (fun _ _ _ h => h) zk
  go_frame
  apply sk 22 puv022 rfl (by kernel_rfl) (fun _ _ _ h => h) zk
  go_frame
  apply sk 23 puv023 rfl (by kernel_rfl) (fun _ _ _ h => h) zk
  go_frame
  apply sk 24 puv024 rfl (by kernel_rfl) (fun _ _ _ h => h) zk
  go_frame
  apply sk 25 puv025 rfl (by kernel_rfl) (fun _ _ _ h => h) zk
  go_frame
  apply sk 26 puv026 rfl (by kernel_rfl) (fun _ _ _ h => h) zk
  go_frame
  apply sk 27 puv027 rfl (by kernel_rfl) (fun _ _ _ h => h) zk
  go_frame
  apply sk 28 puv028 rfl (by kernel_rfl) (fun _ _ _ h => h) zk
  go_frame
  apply sk 29 puv029 rfl (by kernel_rfl) (fun _ _ _ h => h) zk
  go_frame
  apply sk 30 puv030 rfl (by kernel_rfl) (fun _ _ _ h => h) zk
  go_frame
  apply sk 31 puv031 rfl (by kernel_rfl) (fun _ _ _ h => h) zk
  go_frame
  apply tk 32 puv032 rfl (by kernel_rfl) (fun _ _ _ h => h) zk
  · intro wq zq
    go_simp
    try rfl
  go_frame
  apply tk 33 puv033 rfl (by kernel_rfl) (fun _ _ _ h => h) zk
  · intro wq zq
    go_simp
    try rfl
  go_frame
  refine wpAnyH_done (by kernel_rfl) ?_ _
  exact HK.out _ _ _ _ _ _ _ _ _ _ _ _ _ _ _ _ _ _ _ _ _ _ _ _ _ _ _ _ _ _ _ _ _ _ CV.out

abbrev puv10 : Oper := { dst := some 189, op := Op.fieldAddr 46 (Operand.tmp 17) 3, type := 0, pos := "law.go:198", after := #[], guard := none }
abbrev puv11 : Oper := { dst := some 190, op := Op.load 44 (Operand.tmp 189), type := 44, pos := "law.go:198", after := #[{ on := 0, ground := Ground.data }], guard := none }
abbrev puv12 : Oper := { dst := some 191, op := Op.call { callee := Callee.builtin Builtin.len, args := #[Operand.tmp 190], argTypes := #[44] }, type := 3, pos := "law.go:198", after := #[{ on := 1, ground := Ground.data }], guard := none }
abbrev puv13 : Oper := { dst := some 192, op := Op.binOp BinOp.gtr 3 (Operand.tmp 191) (Operand.const (Value.int IntKind.i64 0)) 3, type := 4, pos := "law.go:198", after := #[{ on := 2, ground := Ground.data }], guard := none }
abbrev puv14 : Oper := { dst := some 193, op := Op.fieldAddr 46 (Operand.tmp 17) 0, type := 0, pos := "law.go:198", after := #[], guard := none }
abbrev puv15 : Oper := { dst := some 194, op := Op.load 41 (Operand.tmp 193), type := 41, pos := "law.go:198", after := #[{ on := 4, ground := Ground.data }], guard := none }
abbrev puv16 : Oper := { dst := some 195, op := Op.binOp BinOp.eql 41 (Operand.tmp 194) (Operand.const (Value.int IntKind.i64 0)) 41, type := 4, pos := "law.go:198", after := #[{ on := 5, ground := Ground.data }], guard := none }
abbrev puv17 : Oper := { dst := some 196, op := Op.move (Operand.tmp 195), type := 4, pos := "law.go:198", after := #[{ on := 6, ground := Ground.data }], guard := none }
abbrev puv18 : Oper := { dst := some 197, op := Op.move (Operand.tmp 10), type := 3, pos := "law.go:198", after := #[{ on := 7, ground := Ground.guard }], guard := some (7, true) }
abbrev puv19 : Oper := { dst := some 198, op := Op.indexAddr 31 (Operand.tmp 7) (Operand.tmp 197), type := 0, pos := "law.go:198", after := #[{ on := 8, ground := Ground.data }, { on := 7, ground := Ground.guard }], guard := some (7, true) }
abbrev puv110 : Oper := { dst := some 199, op := Op.load 30 (Operand.tmp 198), type := 30, pos := "law.go:198", after := #[{ on := 9, ground := Ground.data }, { on := 7, ground := Ground.guard }], guard := some (7, true) }
abbrev puv111 : Oper := { dst := some 200, op := Op.call { callee := Callee.builtin Builtin.len, args := #[Operand.tmp 199], argTypes := #[30] }, type := 3, pos := "law.go:198", after := #[{ on := 10, ground := Ground.data }, { on := 7, ground := Ground.guard }], guard := some (7, true) }
abbrev puv112 : Oper := { dst := some 201, op := Op.binOp BinOp.gtr 3 (Operand.tmp 200) (Operand.const (Value.int IntKind.i64 0)) 3, type := 4, pos := "law.go:198", after := #[{ on := 11, ground := Ground.data }, { on := 7, ground := Ground.guard }], guard := some (7, true) }
abbrev puv113 : Oper := { dst := some 202, op := Op.pick (Operand.tmp 196) (Operand.tmp 201) (Operand.const (Value.bool false)), type := 4, pos := "law.go:198", after := #[{ on := 7, ground := Ground.data }, { on := 12, ground := Ground.data }], guard := none }
abbrev puv114 : Oper := { dst := some 203, op := Op.binOp BinOp.neq 4 (Operand.tmp 192) (Operand.tmp 202) 4, type := 4, pos := "law.go:198", after := #[{ on := 3, ground := Ground.data }, { on := 13, ground := Ground.data }], guard := none }
abbrev puv115 : Oper := { dst := some 204, op := Op.move (Operand.tmp 203), type := 4, pos := "law.go:198", after := #[{ on := 14, ground := Ground.data }, { on := 7, ground := Ground.chain }], guard := none }
abbrev puv116 : Oper := { dst := some 205, op := Op.fieldAddr 46 (Operand.tmp 17) 3, type := 0, pos := "law.go:198", after := #[{ on := 15, ground := Ground.guard }], guard := some (15, false) }
abbrev puv117 : Oper := { dst := some 206, op := Op.load 44 (Operand.tmp 205), type := 44, pos := "law.go:198", after := #[{ on := 16, ground := Ground.data }, { on := 15, ground := Ground.guard }], guard := some (15, false) }
abbrev puv118 : Oper := { dst := some 207, op := Op.call { callee := Callee.builtin Builtin.len, args := #[Operand.tmp 206], argTypes := #[44] }, type := 3, pos := "law.go:198", after := #[{ on := 17, ground := Ground.data }, { on := 15, ground := Ground.guard }], guard := some (15, false) }
abbrev puv119 : Oper := { dst := some 208, op := Op.binOp BinOp.gtr 3 (Operand.tmp 207) (Operand.const (Value.int IntKind.i64 0)) 3, type := 4, pos := "law.go:198", after := #[{ on := 18, ground := Ground.data }, { on := 15, ground := Ground.guard }], guard := some (15, false) }
abbrev puv120 : Oper := { dst := some 209, op := Op.move (Operand.tmp 208), type := 4, pos := "law.go:198", after := #[{ on := 19, ground := Ground.data }, { on := 15, ground := Ground.chain }, { on := 15, ground := Ground.guard }], guard := some (15, false) }
abbrev puv121 : Oper := { dst := some 210, op := Op.fieldAddr 46 (Operand.tmp 17) 3, type := 0, pos := "law.go:198", after := #[{ on := 20, ground := Ground.guard }], guard := some (20, true) }
abbrev puv122 : Oper := { dst := some 211, op := Op.load 44 (Operand.tmp 210), type := 44, pos := "law.go:198", after := #[{ on := 21, ground := Ground.data }, { on := 20, ground := Ground.guard }], guard := some (20, true) }
abbrev puv123 : Oper := { dst := some 212, op := Op.indexAddr 44 (Operand.tmp 211) (Operand.const (Value.int IntKind.i64 0)), type := 0, pos := "law.go:198", after := #[{ on := 22, ground := Ground.data }, { on := 20, ground := Ground.guard }], guard := some (20, true) }
abbrev puv124 : Oper := { dst := some 213, op := Op.fieldAddr 53 (Operand.tmp 212) 0, type := 0, pos := "law.go:198", after := #[{ on := 23, ground := Ground.data }, { on := 20, ground := Ground.guard }], guard := some (20, true) }
abbrev puv125 : Oper := { dst := some 214, op := Op.load 35 (Operand.tmp 213), type := 35, pos := "law.go:198", after := #[{ on := 24, ground := Ground.data }, { on := 20, ground := Ground.guard }], guard := some (20, true) }
abbrev puv126 : Oper := { dst := some 215, op := Op.move (Operand.tmp 10), type := 3, pos := "law.go:198", after := #[{ on := 20, ground := Ground.guard }], guard := some (20, true) }
abbrev puv127 : Oper := { dst := some 216, op := Op.indexAddr 31 (Operand.tmp 7) (Operand.tmp 215), type := 0, pos := "law.go:198", after := #[{ on := 26, ground := Ground.data }, { on := 20, ground := Ground.guard }], guard := some (20, true) }
abbrev puv128 : Oper := { dst := some 217, op := Op.load 30 (Operand.tmp 216), type := 30, pos := "law.go:198", after := #[{ on := 27, ground := Ground.data }, { on := 20, ground := Ground.guard }], guard := some (20, true) }
abbrev puv129 : Oper := { dst := some 218, op := Op.indexAddr 30 (Operand.tmp 217) (Operand.const (Value.int IntKind.i64 0)), type := 0, pos := "law.go:198", after := #[{ on := 28, ground := Ground.data }, { on := 20, ground := Ground.guard }], guard := some (20, true) }
abbrev puv130 : Oper := { dst := some 219, op := Op.load 35 (Operand.tmp 218), type := 35, pos := "law.go:198", after := #[{ on := 29, ground := Ground.data }, { on := 20, ground := Ground.guard }], guard := some (20, true) }
abbrev puv131 : Oper := { dst := some 220, op := Op.binOp BinOp.neq 35 (Operand.tmp 214) (Operand.tmp 219) 35, type := 4, pos := "law.go:198", after := #[{ on := 25, ground := Ground.data }, { on := 30, ground := Ground.data }, { on := 20, ground := Ground.guard }], guard := some (20, true) }
abbrev puv132 : Oper := { dst := some 221, op := Op.pick (Operand.tmp 209) (Operand.tmp 220) (Operand.const (Value.bool false)), type := 4, pos := "law.go:198", after := #[{ on := 20, ground := Ground.data }, { on := 31, ground := Ground.data }, { on := 15, ground := Ground.guard }], guard := some (15, false) }
abbrev puv133 : Oper := { dst := some 222, op := Op.pick (Operand.tmp 204) (Operand.const (Value.bool true)) (Operand.tmp 221), type := 4, pos := "law.go:198", after := #[{ on := 15, ground := Ground.data }, { on := 32, ground := Ground.data }], guard := none }

set_option maxRecDepth 100000 in
set_option maxHeartbeats 8000000 in
theorem pt_v1 {W : World} {A D j c c2 n lb lo nb : Nat} {x : Hnd} (hj : j < 3) (hn : 0 < n) (hX : ∀ wq, Ch (fun _ => False) W wq → wq.cell? ⟨D, 0, none⟩ = some (.int .i64 0) ∧ wq.cell? ⟨D, 5, none⟩ = some (.slice (some ⟨nb, 0, none⟩) 1 c2) ∧ wq.cell? ⟨A, j, none⟩ = some (.slice (some ⟨lb, lo, none⟩) n c) ∧ (wq.cell? ⟨nb, 0, none⟩ = some (.int .u32 x.1) ∧ wq.cell? ⟨nb, 1, none⟩ = some (.int .u32 x.2)) ∧ wq.cell? ⟨lb, lo, none⟩ = some (.int .u32 x.1) ∧ wq.cell? ⟨lb, lo + 1, none⟩ = some (.int .u32 x.2)) {u0 u1 u2 u3 u4 u5 u6 u8 u9 u11 u12 u13 u14 u15 u16 u18 u19 u20 u21 u22 u23 u24 u25 u26 u27 u28 u29 u30 u31 u32 u33 u34 u35 u36 u37 u38 u39 u40 u41 u42 u43 u44 u45 u46 u47 u48 u49 u50 u51 u52 u53 u54 u55 u56 u57 u58 u59 u60 u61 u62 u63 u64 u65 u66 u67 u68 u69 u70 u71 u72 u73 u74 u75 u76 u77 u78 u79 u80 u81 u82 u83 u84 u85 u86 u87 u88 u89 u90 u91 u92 u93 u94 u95 u96 u97 u98 u99 u100 u101 u102 u103 u104 u105 u106 u107 u108 u109 u110 u111 u112 u113 u114 u115 u116 u117 u118 u119 u120 u121 u122 u123 u124 u125 u126 u127 u128 u129 u130 u131 u132 u133 u134 u135 u136 u137 u138 u139 u140 u141 u142 u143 u144 u145 u146 u147 u148 u149 u150 u151 u152 u153 u154 u155 u156 u157 u158 u159 u160 u161 u162 u163 u164 u165 u166 u167 u168 u169 u170 u171 u172 u173 u174 u175 u176 u177 u178 u179 u180 u181 u182 u183 u184 u185 u186 u187 u188 u189 u190 u191 u192 u193 u194 u195 u196 u197 u198 u199 u200 u201 u202 u203 u204 u205 u206 u207 u208 u209 u210 u211 u212 u213 u214 u215 u216 u217 u218 u219 u220 u221 u222 u223 u224 u225 u226 u227 u228 u229 u230 u231 u232 u233 u234 u235 u236 u237 u238 u239 u240 u241 u242 u243 u244 u245 u246 u247 u248 u249 u250 u251 u252 u253 u254 u255 u256 u257 u258 u259 u260 u261 u262 u263 u264 u265 u266 u267 u268 u269 u270 u271 u272 u273 u274 : Value} {K : Act → World → Prop}
    (hK0 : ∀ (w' : World) (t189 t190 t191 t192 t193 t194 t195 t196 t197 t198 t199 t200 t201 t202 t203 t204 t205 t206 t207 t208 t209 t210 t211 t212 t213 t214 t215 t216 t217 t218 t219 t220 t221 : Value), Ch (fun _ => False) W w' → K { tmps := List.toArray (u0 :: u1 :: u2 :: u3 :: u4 :: u5 :: u6 :: (.pointer (some ⟨A, 0, none⟩)) :: u8 :: u9 :: (.int .i64 (j : Int)) :: u11 :: u12 :: u13 :: u14 :: u15 :: u16 :: (.pointer (some ⟨D, 0, none⟩)) :: u18 :: u19 :: u20 :: u21 :: u22 :: u23 :: u24 :: u25 :: u26 :: u27 :: u28 :: u29 :: u30 :: u31 :: u32 :: u33 :: u34 :: u35 :: u36 :: u37 :: u38 :: u39 :: u40 :: u41 :: u42 :: u43 :: u44 :: u45 :: u46 :: u47 :: u48 :: u49 :: u50 :: u51 :: u52 :: u53 :: u54 :: u55 :: u56 :: u57 :: u58 :: u59 :: u60 :: u61 :: u62 :: u63 :: u64 :: u65 :: u66 :: u67 :: u68 :: u69 :: u70 :: u71 :: u72 :: u73 :: u74 :: u75 :: u76 :: u77 :: u78 :: u79 :: u80 :: u81 :: u82 :: u83 :: u84 :: u85 :: u86 :: u87 :: u88 :: u89 :: u90 :: u91 :: u92 :: u93 :: u94 :: u95 :: u96 :: u97 :: u98 :: u99 :: u100 :: u101 :: u102 :: u103 :: u104 :: u105 :: u106 :: u107 :: u108 :: u109 :: u110 :: u111 :: u112 :: u113 :: u114 :: u115 :: u116 :: u117 :: u118 :: u119 :: u120 :: u121 :: u122 :: u123 :: u124 :: u125 :: u126 :: u127 :: u128 :: u129 :: u130 :: u131 :: u132 :: u133 :: u134 :: u135 :: u136 :: u137 :: u138 :: u139 :: u140 :: u141 :: u142 :: u143 :: u144 :: u145 :: u146 :: u147 :: u148 :: u149 :: u150 :: u151 :: u152 :: u153 :: u154 :: u155 :: u156 :: u157 :: u158 :: u159 :: u160 :: u161 :: u162 :: u163 :: u164 :: u165 :: u166 :: u167 :: u168 :: u169 :: u170 :: u171 :: u172 :: u173 :: u174 :: u175 :: u176 :: u177 :: u178 :: u179 :: u180 :: u181 :: u182 :: u183 :: u184 :: u185 :: u186 :: u187 :: u188 :: (t189) :: (t190) :: (t191) :: (t192) :: (t193) :: (t194) :: (t195) :: (t196) :: (t197) :: (t198) :: (t199) :: (t200) :: (t201) :: (t202) :: (t203) :: (t204) :: (t205) :: (t206) :: (t207) :: (t208) :: (t209) :: (t210) :: (t211) :: (t212) :: (t213) :: (t214) :: (t215) :: (t216) :: (t217) :: (t218) :: (t219) :: (t220) :: (t221) :: (.bool false) :: u223 :: u224 :: u225 :: u226 :: u227 :: u228 :: u229 :: u230 :: u231 :: u232 :: u233 :: u234 :: u235 :: u236 :: u237 :: u238 :: u239 :: u240 :: u241 :: u242 :: u243 :: u244 :: u245 :: u246 :: u247 :: u248 :: u249 :: u250 :: u251 :: u252 :: u253 :: u254 :: u255 :: u256 :: u257 :: u258 :: u259 :: u260 :: u261 :: u262 :: u263 :: u264 :: u265 :: u266 :: u267 :: u268 :: u269 :: u270 :: u271 :: u272 :: u273 :: u274 :: []), defers := [] } w') :
    (Code.region 38 (List.toArray (puv10 :: puv11 :: puv12 :: puv13 :: puv14 :: puv15 :: puv16 :: puv17 :: puv18 :: puv19 :: puv110 :: puv111 :: puv112 :: puv113 :: puv114 :: puv115 :: puv116 :: puv117 :: puv118 :: puv119 :: puv120 :: puv121 :: puv122 :: puv123 :: puv124 :: puv125 :: puv126 :: puv127 :: puv128 :: puv129 :: puv130 :: puv131 :: puv132 :: puv133 :: [])) true).wp Try.prog (Exit.then K (fun _ _ _ => False)) { tmps := List.toArray (u0 :: u1 :: u2 :: u3 :: u4 :: u5 :: u6 :: (.pointer (some ⟨A, 0, none⟩)) :: u8 :: u9 :: (.int .i64 (j : Int)) :: u11 :: u12 :: u13 :: u14 :: u15 :: u16 :: (.pointer (some ⟨D, 0, none⟩)) :: u18 :: u19 :: u20 :: u21 :: u22 :: u23 :: u24 :: u25 :: u26 :: u27 :: u28 :: u29 :: u30 :: u31 :: u32 :: u33 :: u34 :: u35 :: u36 :: u37 :: u38 :: u39 :: u40 :: u41 :: u42 :: u43 :: u44 :: u45 :: u46 :: u47 :: u48 :: u49 :: u50 :: u51 :: u52 :: u53 :: u54 :: u55 :: u56 :: u57 :: u58 :: u59 :: u60 :: u61 :: u62 :: u63 :: u64 :: u65 :: u66 :: u67 :: u68 :: u69 :: u70 :: u71 :: u72 :: u73 :: u74 :: u75 :: u76 :: u77 :: u78 :: u79 :: u80 :: u81 :: u82 :: u83 :: u84 :: u85 :: u86 :: u87 :: u88 :: u89 :: u90 :: u91 :: u92 :: u93 :: u94 :: u95 :: u96 :: u97 :: u98 :: u99 :: u100 :: u101 :: u102 :: u103 :: u104 :: u105 :: u106 :: u107 :: u108 :: u109 :: u110 :: u111 :: u112 :: u113 :: u114 :: u115 :: u116 :: u117 :: u118 :: u119 :: u120 :: u121 :: u122 :: u123 :: u124 :: u125 :: u126 :: u127 :: u128 :: u129 :: u130 :: u131 :: u132 :: u133 :: u134 :: u135 :: u136 :: u137 :: u138 :: u139 :: u140 :: u141 :: u142 :: u143 :: u144 :: u145 :: u146 :: u147 :: u148 :: u149 :: u150 :: u151 :: u152 :: u153 :: u154 :: u155 :: u156 :: u157 :: u158 :: u159 :: u160 :: u161 :: u162 :: u163 :: u164 :: u165 :: u166 :: u167 :: u168 :: u169 :: u170 :: u171 :: u172 :: u173 :: u174 :: u175 :: u176 :: u177 :: u178 :: u179 :: u180 :: u181 :: u182 :: u183 :: u184 :: u185 :: u186 :: u187 :: u188 :: u189 :: u190 :: u191 :: u192 :: u193 :: u194 :: u195 :: u196 :: u197 :: u198 :: u199 :: u200 :: u201 :: u202 :: u203 :: u204 :: u205 :: u206 :: u207 :: u208 :: u209 :: u210 :: u211 :: u212 :: u213 :: u214 :: u215 :: u216 :: u217 :: u218 :: u219 :: u220 :: u221 :: u222 :: u223 :: u224 :: u225 :: u226 :: u227 :: u228 :: u229 :: u230 :: u231 :: u232 :: u233 :: u234 :: u235 :: u236 :: u237 :: u238 :: u239 :: u240 :: u241 :: u242 :: u243 :: u244 :: u245 :: u246 :: u247 :: u248 :: u249 :: u250 :: u251 :: u252 :: u253 :: u254 :: u255 :: u256 :: u257 :: u258 :: u259 :: u260 :: u261 :: u262 :: u263 :: u264 :: u265 :: u266 :: u267 :: u268 :: u269 :: u270 :: u271 :: u272 :: u273 :: u274 :: []), defers := [] } W := by
  have HK := hide hK0
  have HX0 := hide hX
  clear hK0 hX
  have z0 : (0 : Int) ≤ (j : Int) := by omega
  have z1 : (j : Int) < 3 := by omega
  have k2 : (0 : Int) < (n : Int) := by omega
  have k3 : ((n : Int) == 0) = false := by simp; omega
  have k4 : 0 < n := by omega
  refine wp_reg (fun _ => False) (R := fun V => Ch (fun _ => False) W V) (by kernel_rfl) (Ch.drew _) (fun V0 cV zk => ?_)
  have CV := hide cV
  clear cV
  have HX := hide (fun wq (k0 : Ch (fun _ => False) V0 wq) => HX0.out wq (CV.out.trans k0 (fun _ _ h => h)))
  apply tk 0 puv10 rfl (by kernel_rfl) (fun _ _ _ h => h) zk
  · intro wq zq
    go_simp
    try rfl
  go_frame
  apply tk 1 puv11 rfl (by kernel_rfl) (fun _ _ _ h => h) zk
  · intro wq zq
    obtain ⟨s0, s1, s2, ⟨s3, s4⟩, s5, s6⟩ := HX.out _ zq
    go_simp
    try rfl
  go_frame
  apply tk 2 puv12 rfl (by kernel_rfl) (fun _ _ _ h => h) zk
  · intro wq zq
    go_simp
    try rfl
  go_frame
  apply tk 3 puv13 rfl (by kernel_rfl) (fun _ _ _ h => h) zk
  · intro wq zq
    go_simp
    try rfl
  go_frame
  apply tk 4 puv14 rfl (by kernel_rfl) (fun _ _ _ h => h) zk
  · intro wq zq
    go_simp
    try rfl
  go_frame
  apply tk 5 puv15 rfl (by kernel_rfl) (fun _ _ _ h => h) zk
  · intro wq zq
    obtain ⟨s0, s1, s2, ⟨s3, s4⟩, s5, s6⟩ := HX.out _ zq
    go_simp
    try rfl
  go_frame
  apply tk 6 puv16 rfl (by kernel_rfl) (fun _ _ _ h => h) zk
  · intro wq zq
    go_simp
    try rfl
  go_frame
  apply tk 7 puv17 rfl (by kernel_rfl) (fun _ _ _ h => h) zk
  · intro wq zq
    go_simp
    try rfl
  go_frame
  apply tk 8 puv18 rfl (by kernel_rfl) (fun _ _ _ h => h) zk
  · intro wq zq
    go_simp
    try rfl
  go_frame
  apply tk 9 puv19 rfl (by kernel_rfl) (fun _ _ _ h => h) zk
  · intro wq zq
    obtain ⟨s0, s1, s2, ⟨s3, s4⟩, s5, s6⟩ := HX.out _ zq
    go_simp
    try rfl
  go_frame
  apply tk 10 puv110 rfl (by kernel_rfl) (fun _ _ _ h => h) zk
  · intro wq zq
    obtain ⟨s0, s1, s2, ⟨s3, s4⟩, s5, s6⟩ := HX.out _ zq
    go_simp
    try rfl
  go_frame
  apply tk 11 puv111 rfl (by kernel_rfl) (fun _ _ _ h => h) zk
  · intro wq zq
    go_simp
    try rfl
  go_frame
  apply tk 12 puv112 rfl (by kernel_rfl) (fun _ _ _ h => h) zk
  · intro wq zq
    go_simp
    try rfl
  go_frame
  apply tk 13 puv113 rfl (by kernel_rfl) (fun _ _ _ h => h) zk
  · intro wq zq
    go_simp
    try rfl
  go_frame
  apply tk 14 puv114 rfl (by kernel_rfl) (fun _ _ _ h => h) zk
  · intro wq zq
    go_simp
    try rfl
  go_frame
  apply tk 15 puv115 rfl (by kernel_rfl) (fun _ _ _ h => h) zk
  · intro wq zq
    go_simp
    try rfl
  go_frame
  apply tk 16 puv116 rfl (by kernel_rfl) (fun _ _ _ h => h) zk
  · intro wq zq
    go_simp
    try rfl
  go_frame
  apply tk 17 puv117 rfl (by kernel_rfl) (fun _ _ _ h => h) zk
  · intro wq zq
    obtain ⟨s0, s1, s2, ⟨s3, s4⟩, s5, s6⟩ := HX.out _ zq
    go_simp
    try rfl
  go_frame
  apply tk 18 puv118 rfl (by kernel_rfl) (fun _ _ _ h => h) zk
  · intro wq zq
    go_simp
    try rfl
  go_frame
  apply tk 19 puv119 rfl (by kernel_rfl) (fun _ _ _ h => h) zk
  · intro wq zq
    go_simp
    try rfl
  go_frame
  apply tk 20 puv120 rfl (by kernel_rfl) (fun _ _ _ h => h) zk
  · intro wq zq
    go_simp
    try rfl
  go_frame
  apply tk 21 puv121 rfl (by kernel_rfl) (fun _ _ _ h => h) zk
  · intro wq zq
    go_simp
    try rfl
  go_frame
  apply tk 22 puv122 rfl (by kernel_rfl) (fun _ _ _ h => h) zk
  · intro wq zq
    obtain ⟨s0, s1, s2, ⟨s3, s4⟩, s5, s6⟩ := HX.out _ zq
    go_simp
    try rfl
  go_frame
  apply tk 23 puv123 rfl (by kernel_rfl) (fun _ _ _ h => h) zk
  · intro wq zq
    obtain ⟨s0, s1, s2, ⟨s3, s4⟩, s5, s6⟩ := HX.out _ zq
    go_simp
    try rfl
  go_frame
  apply tk 24 puv124 rfl (by kernel_rfl) (fun _ _ _ h => h) zk
  · intro wq zq
    go_simp
    try rfl
  go_frame
  apply tk 25 puv125 rfl (by kernel_rfl) (fun _ _ _ h => h) zk
  · intro wq zq
    obtain ⟨s0, s1, s2, ⟨s3, s4⟩, s5, s6⟩ := HX.out _ zq
    go_simp
    try rfl
  go_frame
  apply tk 26 puv126 rfl (by kernel_rfl) (fun _ _ _ h => h) zk
  · intro wq zq
    go_simp
    try rfl
  go_frame
  apply tk 27 puv127 rfl (by kernel_rfl) (fun _ _ _ h => h) zk
  · intro wq zq
    obtain ⟨s0, s1, s2, ⟨s3, s4⟩, s5, s6⟩ := HX.out _ zq
    go_simp
    try rfl
  go_frame
  apply tk 28 puv128 rfl (by kernel_rfl) (fun _ _ _ h => h) zk
  · intro wq zq
    obtain ⟨s0, s1, s2, ⟨s3, s4⟩, s5, s6⟩ := HX.out _ zq
    go_simp
    try rfl
  go_frame
  apply tk 29 puv129 rfl (by kernel_rfl) (fun _ _ _ h => h) zk
  · intro wq zq
    obtain ⟨s0, s1, s2, ⟨s3, s4⟩, s5, s6⟩ := HX.out _ zq
    go_simp
    try rfl
  go_frame
  apply tk 30 puv130 rfl (by kernel_rfl) (fun _ _ _ h => h) zk
  · intro wq zq
    obtain ⟨s0, s1, s2, ⟨s3, s4⟩, s5, s6⟩ := HX.out _ zq
    go_simp
    try rfl
  go_frame
  apply tk 31 puv131 rfl (by kernel_rfl) (fun _ _ _ h => h) zk
  · intro wq zq
    go_simp
    try rfl
  go_frame
  apply tk 32 puv132 rfl (by kernel_rfl) (fun _ _ _ h => h) zk
  · intro wq zq
    go_simp
    try rfl
  go_frame
  apply tk 33 puv133 rfl (by kernel_rfl) (fun _ _ _ h => h) zk
  · intro wq zq
    go_simp
    try rfl
  go_frame
  refine wpAnyH_done (by kernel_rfl) ?_ _
  exact HK.out _ _ _ _ _ _ _ _ _ _ _ _ _ _ _ _ _ _ _ _ _ _ _ _ _ _ _ _ _ _ _ _ _ _ CV.out

end Go.Proofs.Ytoabhmpakcgloaa
