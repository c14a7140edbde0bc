/- Layer 10: SlotsSeen: what is asked of each thing that the range tells. -/
import Derived.Test.YtjilnmeegolpkaaKf
namespace Go.Proofs.Ytjilnmeegolpkaa
open Go.RowKit Go.Shelf

attribute [local go_sem] Oper.semAt_some

abbrev rx0 : Oper := { dst := some 77, op := Op.load 4 (Operand.tmp 15), type := 4, pos := "law.go:246", after := #[], guard := none }
abbrev rx1 : Oper := { dst := some 78, op := Op.move (Operand.tmp 77), type := 4, pos := "law.go:246", after := #[{ on := 0, ground := Ground.data }], guard := none }
abbrev rx2 : Oper := { dst := some 79, op := Op.load 3 (Operand.tmp 14), type := 3, pos := "law.go:246", after := #[{ on := 1, ground := Ground.guard }], guard := some (1, true) }
abbrev rx3 : Oper := { dst := some 80, op := Op.load 33 (Operand.tmp 10), type := 33, pos := "law.go:246", after := #[{ on := 1, ground := Ground.guard }], guard := some (1, true) }
abbrev rx4 : Oper := { dst := some 81, op := Op.call { callee := Callee.builtin Builtin.len, args := #[Operand.tmp 80], argTypes := #[33] }, type := 3, pos := "law.go:246", after := #[{ on := 3, ground := Ground.data }, { on := 1, ground := Ground.guard }], guard := some (1, true) }
abbrev rx5 : Oper := { dst := some 82, op := Op.binOp BinOp.lss 3 (Operand.tmp 79) (Operand.tmp 81) 3, type := 4, pos := "law.go:246", after := #[{ on := 2, ground := Ground.data }, { on := 4, ground := Ground.data }, { on := 1, ground := Ground.guard }], guard := some (1, true) }
abbrev rx6 : Oper := { dst := some 83, op := Op.pick (Operand.tmp 78) (Operand.tmp 82) (Operand.const (Value.bool false)), type := 4, pos := "law.go:246", after := #[{ on := 1, ground := Ground.data }, { on := 5, ground := Ground.data }], guard := none }
abbrev rx7 : Oper := { dst := some 84, op := Op.move (Operand.tmp 83), type := 4, pos := "law.go:246", after := #[{ on := 6, ground := Ground.data }, { on := 1, ground := Ground.chain }], guard := none }
abbrev rx8 : Oper := { dst := some 85, op := Op.load 39 (Operand.tmp 17), type := 39, pos := "law.go:246", after := #[{ on := 7, ground := Ground.guard }], guard := some (7, true) }
abbrev rx9 : Oper := { dst := some 86, op := Op.load 33 (Operand.tmp 10), type := 33, pos := "law.go:246", after := #[{ on := 7, ground := Ground.guard }], guard := some (7, true) }
abbrev rx10 : Oper := { dst := some 87, op := Op.load 3 (Operand.tmp 14), type := 3, pos := "law.go:246", after := #[{ on := 7, ground := Ground.guard }], guard := some (7, true) }
abbrev rx11 : Oper := { dst := some 88, op := Op.indexAddr 33 (Operand.tmp 86) (Operand.tmp 87), type := 0, pos := "law.go:246", after := #[{ on := 9, ground := Ground.data }, { on := 10, ground := Ground.data }, { on := 7, ground := Ground.guard }], guard := some (7, true) }
abbrev rx12 : Oper := { dst := some 89, op := Op.load 39 (Operand.tmp 88), type := 39, pos := "law.go:246", after := #[{ on := 11, ground := Ground.data }, { on := 7, ground := Ground.guard }], guard := some (7, true) }
abbrev rx13 : Oper := { dst := some 90, op := Op.binOp BinOp.eql 39 (Operand.tmp 85) (Operand.tmp 89) 39, type := 4, pos := "law.go:246", after := #[{ on := 8, ground := Ground.data }, { on := 12, ground := Ground.data }, { on := 7, ground := Ground.guard }], guard := some (7, true) }
abbrev rx14 : Oper := { dst := some 91, op := Op.pick (Operand.tmp 84) (Operand.tmp 90) (Operand.const (Value.bool false)), type := 4, pos := "law.go:246", after := #[{ on := 7, ground := Ground.data }, { on := 13, ground := Ground.data }], guard := none }
abbrev rx15 : Oper := { dst := some 92, op := Op.move (Operand.tmp 91), type := 4, pos := "law.go:246", after := #[{ on := 14, ground := Ground.data }, { on := 7, ground := Ground.chain }], guard := none }
abbrev rx16 : Oper := { dst := some 93, op := Op.fieldAddr 62 (Operand.tmp 18) 0, type := 0, pos := "law.go:246", after := #[{ on := 15, ground := Ground.guard }], guard := some (15, true) }
abbrev rx17 : Oper := { dst := some 94, op := Op.load 9 (Operand.tmp 93), type := 9, pos := "law.go:246", after := #[{ on := 16, ground := Ground.data }, { on := 15, ground := Ground.guard }], guard := some (15, true) }
abbrev rx18 : Oper := { dst := some 95, op := Op.load 57 (Operand.tmp 3), type := 57, pos := "law.go:246", after := #[{ on := 15, ground := Ground.guard }], guard := some (15, true) }
abbrev rx19 : Oper := { dst := some 96, op := Op.load 3 (Operand.tmp 14), type := 3, pos := "law.go:246", after := #[{ on := 15, ground := Ground.guard }], guard := some (15, true) }
abbrev rx20 : Oper := { dst := some 97, op := Op.indexAddr 57 (Operand.tmp 95) (Operand.tmp 96), type := 0, pos := "law.go:246", after := #[{ on := 18, ground := Ground.data }, { on := 19, ground := Ground.data }, { on := 15, ground := Ground.guard }], guard := some (15, true) }
abbrev rx21 : Oper := { dst := some 98, op := Op.load 9 (Operand.tmp 97), type := 9, pos := "law.go:246", after := #[{ on := 20, ground := Ground.data }, { on := 15, ground := Ground.guard }], guard := some (15, true) }
abbrev rx22 : Oper := { dst := some 99, op := Op.binOp BinOp.eql 9 (Operand.tmp 94) (Operand.tmp 98) 9, type := 4, pos := "law.go:246", after := #[{ on := 17, ground := Ground.data }, { on := 21, ground := Ground.data }, { on := 15, ground := Ground.guard }], guard := some (15, true) }
abbrev rx23 : Oper := { dst := some 100, op := Op.pick (Operand.tmp 92) (Operand.tmp 99) (Operand.const (Value.bool false)), type := 4, pos := "law.go:246", after := #[{ on := 15, ground := Ground.data }, { on := 22, ground := Ground.data }], guard := none }
abbrev rx24 : Oper := { dst := some 101, op := Op.move (Operand.tmp 100), type := 4, pos := "law.go:246", after := #[{ on := 23, ground := Ground.data }, { on := 15, ground := Ground.chain }], guard := none }
abbrev rx25 : Oper := { dst := some 102, op := Op.fieldAddr 62 (Operand.tmp 18) 1, type := 0, pos := "law.go:246", after := #[{ on := 24, ground := Ground.guard }], guard := some (24, true) }
abbrev rx26 : Oper := { dst := some 103, op := Op.load 49 (Operand.tmp 102), type := 49, pos := "law.go:246", after := #[{ on := 25, ground := Ground.data }, { on := 24, ground := Ground.guard }], guard := some (24, true) }
abbrev rx27 : Oper := { dst := some 104, op := Op.call { callee := Callee.builtin Builtin.len, args := #[Operand.tmp 103], argTypes := #[49] }, type := 3, pos := "law.go:246", after := #[{ on := 26, ground := Ground.data }, { on := 24, ground := Ground.guard }], guard := some (24, true) }
abbrev rx28 : Oper := { dst := some 105, op := Op.binOp BinOp.eql 3 (Operand.tmp 104) (Operand.const (Value.int IntKind.i64 1)) 3, type := 4, pos := "law.go:246", after := #[{ on := 27, ground := Ground.data }, { on := 24, ground := Ground.guard }], guard := some (24, true) }
abbrev rx29 : Oper := { dst := some 106, op := Op.pick (Operand.tmp 101) (Operand.tmp 105) (Operand.const (Value.bool false)), type := 4, pos := "law.go:246", after := #[{ on := 24, ground := Ground.data }, { on := 28, ground := Ground.data }], guard := none }
abbrev rx30 : Oper := { dst := some 107, op := Op.move (Operand.tmp 106), type := 4, pos := "law.go:246", after := #[{ on := 29, ground := Ground.data }, { on := 24, ground := Ground.chain }], guard := none }
abbrev rx31 : Oper := { dst := some 108, op := Op.fieldAddr 62 (Operand.tmp 18) 1, type := 0, pos := "law.go:246", after := #[{ on := 30, ground := Ground.guard }], guard := some (30, true) }
abbrev rx32 : Oper := { dst := some 109, op := Op.load 49 (Operand.tmp 108), type := 49, pos := "law.go:246", after := #[{ on := 31, ground := Ground.data }, { on := 30, ground := Ground.guard }], guard := some (30, true) }
abbrev rx33 : Oper := { dst := some 110, op := Op.indexAddr 49 (Operand.tmp 109) (Operand.const (Value.int IntKind.i64 0)), type := 0, pos := "law.go:246", after := #[{ on := 32, ground := Ground.data }, { on := 30, ground := Ground.guard }], guard := some (30, true) }
abbrev rx34 : Oper := { dst := some 111, op := Op.load 3 (Operand.tmp 110), type := 3, pos := "law.go:246", after := #[{ on := 33, ground := Ground.data }, { on := 30, ground := Ground.guard }], guard := some (30, true) }
abbrev rx35 : Oper := { dst := some 112, op := Op.load 3 (Operand.tmp 14), type := 3, pos := "law.go:246", after := #[{ on := 30, ground := Ground.guard }], guard := some (30, true) }
abbrev rx36 : Oper := { dst := some 113, op := Op.binOp BinOp.eql 3 (Operand.tmp 111) (Operand.tmp 112) 3, type := 4, pos := "law.go:246", after := #[{ on := 34, ground := Ground.data }, { on := 35, ground := Ground.data }, { on := 30, ground := Ground.guard }], guard := some (30, true) }
abbrev rx37 : Oper := { dst := some 114, op := Op.pick (Operand.tmp 107) (Operand.tmp 113) (Operand.const (Value.bool false)), type := 4, pos := "law.go:246", after := #[{ on := 30, ground := Ground.data }, { on := 36, ground := Ground.data }], guard := none }
abbrev rx38 : Oper := { dst := none, op := Op.store 4 (Operand.tmp 15) (Operand.tmp 114), type := 0, pos := "law.go:246", after := #[{ on := 37, ground := Ground.data }, { on := 30, ground := Ground.chain }, { on := 0, ground := Ground.phase }, { on := 1, ground := Ground.phase }, { on := 2, ground := Ground.phase }, { on := 3, ground := Ground.phase }, { on := 4, ground := Ground.phase }, { on := 5, ground := Ground.phase }, { on := 6, ground := Ground.phase }, { on := 7, ground := Ground.phase }, { on := 8, ground := Ground.phase }, { on := 9, ground := Ground.phase }, { on := 10, ground := Ground.phase }, { on := 11, ground := Ground.phase }, { on := 12, ground := Ground.phase }, { on := 13, ground := Ground.phase }, { on := 14, ground := Ground.phase }, { on := 15, ground := Ground.phase }, { on := 16, ground := Ground.phase }, { on := 17, ground := Ground.phase }, { on := 18, ground := Ground.phase }, { on := 19, ground := Ground.phase }, { on := 20, ground := Ground.phase }, { on := 21, ground := Ground.phase }, { on := 22, ground := Ground.phase }, { on := 23, ground := Ground.phase }, { on := 24, ground := Ground.phase }, { on := 25, ground := Ground.phase }, { on := 26, ground := Ground.phase }, { on := 27, ground := Ground.phase }, { on := 28, ground := Ground.phase }, { on := 29, ground := Ground.phase }, { on := 30, ground := Ground.phase }, { on := 31, ground := Ground.phase }, { on := 32, ground := Ground.phase }, { on := 33, ground := Ground.phase }, { on := 34, ground := Ground.phase }, { on := 35, ground := Ground.phase }, { on := 36, ground := Ground.phase }, { on := 37, ground := Ground.phase }], guard := none }

set_option maxRecDepth 100000 in
set_option maxHeartbeats 8000000 in
theorem seen_r19 {u0 u1 u2 u4 u5 u6 u7 u8 u9 u11 u12 u13 u16 u19 u20 u21 u22 u23 u24 u25 u26 u27 u28 u29 u30 u31 u32 u33 u34 u35 u36 u37 u38 u39 u40 u41 u42 u43 u44 u45 u46 u47 u48 u49 u50 u51 u52 u53 u54 u55 u56 u57 u58 u59 u60 u61 u62 u63 u64 u65 u66 u67 u68 u69 u70 u71 u72 u73 u74 u75 u76 u77 u78 u79 u80 u81 u82 u83 u84 u85 u86 u87 u88 u89 u90 u91 u92 u93 u94 u95 u96 u97 u98 u99 u100 u101 u102 u103 u104 u105 u106 u107 u108 u109 u110 u111 u112 u113 u114 u115 u116 u117 u118 u119 u120 u121 u122 u123 u124 u125 u126 u127 u128 u129 u130 u131 u132 u133 u134 u135 u136 u137 u138 u139 u140 u141 u142 u143 u144 u145 u146 u147 u148 u149 u150 u151 u152 u153 u154 u155 u156 u157 u158 u159 u160 u161 u162 u163 u164 u165 u166 u167 u168 u169 u170 u171 u172 u173 u174 u175 u176 u177 u178 u179 u180 u181 u182 u183 u184 u185 u186 u187 u188 u189 u190 u191 u192 u193 u194 u195 u196 u197 u198 u199 u200 u201 u202 u203 u204 u205 u206 u207 u208 u209 u210 u211 u212 : Value} {w0 W : World} {ss : List ByteArray} {ov iv : Value} {lb lo lc hc p g a8 a10 B m i lp n hb n14 o15 A X b : Nat} {F : Nat → Prop} {l : List (ThG Pa)} (h : Sn w0 (.slice (some ⟨lb, lo, none⟩) ss.length lc) ov iv p g a8 a10 B F W l (.slice (some ⟨hb, 0, none⟩) m hc) m) (hi : i < m) (hi2 : i < ss.length) (hlb : lb < w0.heap.size) (hstr : w0.cell? ⟨lb, lo + i, none⟩ = some (.string ss[i]))
    (bn : Boxed W n14 3 (.int .i64 (i : Int))) (bo : Boxed W o15 4 (.bool true)) (bA : W.heap[A]? = some (.cells #[.int .u32 ((i : Int) + 1), .int .u32 1] 39 (0, 0))) (bX : W.heap[X]? = some (.cells #[.string ss[i], .slice (some ⟨b, 0, none⟩) 1 1] 62 (0, 0))) (bb : Boxed W b 3 (.int .i64 (i : Int))) (ho : B ≤ o15)
    {K : Act → World → Prop} (hK0 : ∀ (u77 u78 u79 u80 u81 u82 u83 u84 u85 u86 u87 u88 u89 u90 u91 u92 u93 u94 u95 u96 u97 u98 u99 u100 u101 u102 u103 u104 u105 u106 u107 u108 u109 u110 u111 u112 u113 u114 : Value), K { tmps := List.toArray (u0 :: u1 :: u2 :: (.pointer (some ⟨w0.heap.size, 0, none⟩)) :: u4 :: u5 :: u6 :: u7 :: u8 :: u9 :: (.pointer (some ⟨a10, 0, none⟩)) :: u11 :: u12 :: u13 :: (.pointer (some ⟨n14, 0, none⟩)) :: (.pointer (some ⟨o15, 0, none⟩)) :: u16 :: (.pointer (some ⟨A, 0, none⟩)) :: (.pointer (some ⟨X, 0, none⟩)) :: u19 :: u20 :: u21 :: u22 :: u23 :: u24 :: u25 :: u26 :: u27 :: u28 :: u29 :: u30 :: u31 :: u32 :: u33 :: u34 :: u35 :: u36 :: u37 :: u38 :: u39 :: u40 :: u41 :: u42 :: u43 :: u44 :: u45 :: u46 :: u47 :: u48 :: u49 :: u50 :: u51 :: u52 :: u53 :: u54 :: u55 :: u56 :: u57 :: u58 :: u59 :: u60 :: u61 :: u62 :: u63 :: u64 :: u65 :: u66 :: u67 :: u68 :: u69 :: u70 :: u71 :: u72 :: u73 :: u74 :: u75 :: u76 :: u77 :: u78 :: u79 :: u80 :: u81 :: u82 :: u83 :: u84 :: u85 :: u86 :: u87 :: u88 :: u89 :: u90 :: u91 :: u92 :: u93 :: u94 :: u95 :: u96 :: u97 :: u98 :: u99 :: u100 :: u101 :: u102 :: u103 :: u104 :: u105 :: u106 :: u107 :: u108 :: u109 :: u110 :: u111 :: u112 :: u113 :: u114 :: u115 :: u116 :: u117 :: u118 :: u119 :: u120 :: u121 :: u122 :: u123 :: u124 :: u125 :: u126 :: u127 :: u128 :: u129 :: u130 :: u131 :: u132 :: u133 :: u134 :: u135 :: u136 :: u137 :: u138 :: u139 :: u140 :: u141 :: u142 :: u143 :: u144 :: u145 :: u146 :: u147 :: u148 :: u149 :: u150 :: u151 :: u152 :: u153 :: u154 :: u155 :: u156 :: u157 :: u158 :: u159 :: u160 :: u161 :: u162 :: u163 :: u164 :: u165 :: u166 :: u167 :: u168 :: u169 :: u170 :: u171 :: u172 :: u173 :: u174 :: u175 :: u176 :: u177 :: u178 :: u179 :: u180 :: u181 :: u182 :: u183 :: u184 :: u185 :: u186 :: u187 :: u188 :: u189 :: u190 :: u191 :: u192 :: u193 :: u194 :: u195 :: u196 :: u197 :: u198 :: u199 :: u200 :: u201 :: u202 :: u203 :: u204 :: u205 :: u206 :: u207 :: u208 :: u209 :: u210 :: u211 :: u212 :: []), defers := [] } (W.setCell ⟨o15, 0, none⟩ (.bool true)).drew) :
    (Code.region 19 #[rx0, rx1, rx2, rx3, rx4, rx5, rx6, rx7, rx8, rx9, rx10, rx11, rx12, rx13, rx14, rx15, rx16, rx17, rx18, rx19, rx20, rx21, rx22, rx23, rx24, rx25, rx26, rx27, rx28, rx29, rx30, rx31, rx32, rx33, rx34, rx35, rx36, rx37, rx38] true).wpIn (Fence.wide.inRound lp) n Try.prog (Exit.then K (fun _ _ _ => False)) { tmps := List.toArray (u0 :: u1 :: u2 :: (.pointer (some ⟨w0.heap.size, 0, none⟩)) :: u4 :: u5 :: u6 :: u7 :: u8 :: u9 :: (.pointer (some ⟨a10, 0, none⟩)) :: u11 :: u12 :: u13 :: (.pointer (some ⟨n14, 0, none⟩)) :: (.pointer (some ⟨o15, 0, none⟩)) :: u16 :: (.pointer (some ⟨A, 0, none⟩)) :: (.pointer (some ⟨X, 0, none⟩)) :: u19 :: u20 :: u21 :: u22 :: u23 :: u24 :: u25 :: u26 :: u27 :: u28 :: u29 :: u30 :: u31 :: u32 :: u33 :: u34 :: u35 :: u36 :: u37 :: u38 :: u39 :: u40 :: u41 :: u42 :: u43 :: u44 :: u45 :: u46 :: u47 :: u48 :: u49 :: u50 :: u51 :: u52 :: u53 :: u54 :: u55 :: u56 :: u57 :: u58 :: u59 :: u60 :: u61 :: u62 :: u63 :: u64 :: u65 :: u66 :: u67 :: u68 :: u69 :: u70 :: u71 :: u72 :: u73 :: u74 :: u75 :: u76 :: u77 :: u78 :: u79 :: u80 :: u81 :: u82 :: u83 :: u84 :: u85 :: u86 :: u87 :: u88 :: u89 :: u90 :: u91 :: u92 :: u93 :: u94 :: u95 :: u96 :: u97 :: u98 :: u99 :: u100 :: u101 :: u102 :: u103 :: u104 :: u105 :: u106 :: u107 :: u108 :: u109 :: u110 :: u111 :: u112 :: u113 :: u114 :: u115 :: u116 :: u117 :: u118 :: u119 :: u120 :: u121 :: u122 :: u123 :: u124 :: u125 :: u126 :: u127 :: u128 :: u129 :: u130 :: u131 :: u132 :: u133 :: u134 :: u135 :: u136 :: u137 :: u138 :: u139 :: u140 :: u141 :: u142 :: u143 :: u144 :: u145 :: u146 :: u147 :: u148 :: u149 :: u150 :: u151 :: u152 :: u153 :: u154 :: u155 :: u156 :: u157 :: u158 :: u159 :: u160 :: u161 :: u162 :: u163 :: u164 :: u165 :: u166 :: u167 :: u168 :: u169 :: u170 :: u171 :: u172 :: u173 :: u174 :: u175 :: u176 :: u177 :: u178 :: u179 :: u180 :: u181 :: u182 :: u183 :: u184 :: u185 :: u186 :: u187 :: u188 :: u189 :: u190 :: u191 :: u192 :: u193 :: u194 :: u195 :: u196 :: u197 :: u198 :: u199 :: u200 :: u201 :: u202 :: u203 :: u204 :: u205 :: u206 :: u207 :: u208 :: u209 :: u210 :: u211 :: u212 :: []), defers := [] } W := by
  have hat := h.hat i hi W (Ch.refl _ _)
  obtain ⟨-, hbl, cur, e2⟩ := own_in h.hs (g := hb) rfl
  have hlo := h.lB
  have HC := hide (show ∀ wq, Ch (fun x => x = o15) W wq → wq.cell? ⟨n14, 0, none⟩ = some (.int .i64 (i : Int)) ∧ wq.cell? ⟨a10, 0, none⟩ = some (.slice (some ⟨hb, 0, none⟩) m hc) ∧ (wq.cell? ⟨A, 0, none⟩ = some (.int .u32 ((i : Int) + 1)) ∧ wq.cell? ⟨A, 1, none⟩ = some (.int .u32 1)) ∧ (wq.cell? ⟨hb, i * 2, none⟩ = some (.int .u32 ((i : Int) + 1)) ∧ wq.cell? ⟨hb, i * 2 + 1, none⟩ = some (.int .u32 1)) ∧
      (wq.cell? ⟨X, 0, none⟩ = some (.string ss[i]) ∧ wq.cell? ⟨X, 1, none⟩ = some (.slice (some ⟨b, 0, none⟩) 1 1)) ∧ wq.cell? ⟨w0.heap.size, 0, none⟩ = some (.slice (some ⟨lb, lo, none⟩) ss.length lc) ∧ wq.cell? ⟨lb, lo + i, none⟩ = some (.string ss[i]) ∧ wq.cell? ⟨b, 0, none⟩ = some (.int .i64 (i : Int)) from fun wq k => by
    have a1 := Lib.cell_of_heap (k.box bA (fun e => blk_ne bA bo (by decide) e))
    have a2 := Lib.cell_of_heap (k.box bX (fun e => blk_ne bX bo (by decide) e))
    have nh : ¬ hb = o15 := fun e => blk_ne e2 bo (by decide) e
    exact ⟨Boxed.cell (k.box bn (fun e => blk_ne bn bo (by decide) e)), Boxed.cell (k.box h.bh (fun e => blk_ne h.bh bo (by decide) e)), ⟨by simp [a1], by simp [a1]⟩, ⟨(k.cell hbl nh _).trans hat.1, (k.cell hbl nh _).trans hat.2⟩, ⟨by simp [a2], by simp [a2]⟩, Boxed.cell (k.box h.b0 (fun e => blk_ne h.b0 bo (by decide) e)),
      ((k.below (N := w0.heap.size) h.be.size (fun x hx e => by omega)).cell (p := ⟨lb, lo + i, none⟩) hlb).trans ((h.be.cell (p := ⟨lb, lo + i, none⟩) hlb).trans hstr), Boxed.cell (k.box bb (fun e => blk_ne bb bo (by decide) e))⟩)
  have HK := hide hK0
  have o0 := bo.cell
  have o1 := bo.frozen
  have q1 : decide ((i : Int) < (m : Int)) = true := decide_eq_true (by omega)
  have q2 : decide ((i : Int) < (ss.length : Int)) = true := decide_eq_true (by omega)
  generalize ss[i] = sv at *
  clear hK0 h hat hstr bn bo bA bX bb e2
  refine region_round (S := Ch (fun x => x = o15) W) (by kernel_rfl) (by kernel_rfl) ?_ (Ch.drew _) (fun zk => ?_)
  · rintro ⟨_, _, h⟩
    exact h
  refine rd 0 rx0 rfl (by kernel_rfl) fun K hK => ?_
  go_simp
  refine hK.out _ _ ?_ (fun zk => ?_)
  · exact zk
  clear hK K
  try go_frame
  refine rd 1 rx1 rfl (by kernel_rfl) fun K hK => ?_
  go_simp
  refine hK.out _ _ ?_ (fun zk => ?_)
  · exact zk
  clear hK K
  try go_frame
  apply tk 2 rx2 rfl (by kernel_rfl) (fun _ _ _ h => h) zk
  · intro wq zq
    have s1 := (HC.out _ zq).1
    go_simp
    try rfl
  go_frame
  apply tk 3 rx3 rfl (by kernel_rfl) (fun _ _ _ h => h) zk
  · intro wq zq
    have s1 := (HC.out _ zq).2.1
    go_simp
    try rfl
  go_frame
  apply tk 4 rx4 rfl (by kernel_rfl) (fun _ _ _ h => h) zk
  · intro wq zq
    go_simp
    try rfl
  go_frame
  apply tk 5 rx5 rfl (by kernel_rfl) (fun _ _ _ h => h) zk
  · intro wq zq
    go_simp
    try rfl
  go_frame
  apply tk 6 rx6 rfl (by kernel_rfl) (fun _ _ _ h => h) zk
  · intro wq zq
    go_simp
    try rfl
  go_frame
  apply tk 7 rx7 rfl (by kernel_rfl) (fun _ _ _ h => h) zk
  · intro wq zq
    go_simp
    try rfl
  go_frame
  apply tk 8 rx8 rfl (by kernel_rfl) (fun _ _ _ h => h) zk
  · intro wq zq
    obtain ⟨s1, s2⟩ := (HC.out _ zq).2.2.1
    go_simp
    try rfl
  go_frame
  apply tk 9 rx9 rfl (by kernel_rfl) (fun _ _ _ h => h) zk
  · intro wq zq
    have s1 := (HC.out _ zq).2.1
    go_simp
    try rfl
  go_frame
  apply tk 10 rx10 rfl (by kernel_rfl) (fun _ _ _ h => h) zk
  · intro wq zq
    have s1 := (HC.out _ zq).1
    go_simp
    try rfl
  go_frame
  apply tk 11 rx11 rfl (by kernel_rfl) (fun _ _ _ h => h) zk
  · intro wq zq
    go_simp
    try rfl
  go_frame
  apply tk 12 rx12 rfl (by kernel_rfl) (fun _ _ _ h => h) zk
  · intro wq zq
    obtain ⟨s1, s2⟩ := (HC.out _ zq).2.2.2.1
    go_simp
    try rfl
  go_frame
  apply tk 13 rx13 rfl (by kernel_rfl) (fun _ _ _ h => h) zk
  · intro wq zq
    go_simp
    try rfl
  go_frame
  apply tk 14 rx14 rfl (by kernel_rfl) (fun _ _ _ h => h) zk
  · intro wq zq
    go_simp
    try rfl
  go_frame
  apply tk 15 rx15 rfl (by kernel_rfl) (fun _ _ _ h => h) zk
  · intro wq zq
    go_simp
    try rfl
  go_frame
  apply tk 16 rx16 rfl (by kernel_rfl) (fun _ _ _ h => h) zk
  · intro wq zq
    go_simp
    try rfl
  go_frame
  apply tk 17 rx17 rfl (by kernel_rfl) (fun _ _ _ h => h) zk
  · intro wq zq
    obtain ⟨s1, s2⟩ := (HC.out _ zq).2.2.2.2.1
    go_simp
    try rfl
  go_frame
  apply tk 18 rx18 rfl (by kernel_rfl) (fun _ _ _ h => h) zk
  · intro wq zq
    have s1 := (HC.out _ zq).2.2.2.2.2.1
    go_simp
    try rfl
  go_frame
  apply tk 19 rx19 rfl (by kernel_rfl) (fun _ _ _ h => h) zk
  · intro wq zq
    have s1 := (HC.out _ zq).1
    go_simp
    try rfl
  go_frame
  apply tk 20 rx20 rfl (by kernel_rfl) (fun _ _ _ h => h) zk
  · intro wq zq
    go_simp
    try rfl
  go_frame
  apply tk 21 rx21 rfl (by kernel_rfl) (fun _ _ _ h => h) zk
  · intro wq zq
    have s1 := (HC.out _ zq).2.2.2.2.2.2.1
    go_simp
    try rfl
  go_frame
  apply tk 22 rx22 rfl (by kernel_rfl) (fun _ _ _ h => h) zk
  · intro wq zq
    go_simp
    try rfl
  go_frame
  apply tk 23 rx23 rfl (by kernel_rfl) (fun _ _ _ h => h) zk
  · intro wq zq
    go_simp
    try rfl
  go_frame
  apply tk 24 rx24 rfl (by kernel_rfl) (fun _ _ _ h => h) zk
  · intro wq zq
    go_simp
    try rfl
  go_frame
  apply tk 25 rx25 rfl (by kernel_rfl) (fun _ _ _ h => h) zk
  · intro wq zq
    go_simp
    try rfl
  go_frame
  apply tk 26 rx26 rfl (by kernel_rfl) (fun _ _ _ h => h) zk
  · intro wq zq
    obtain ⟨s1, s2⟩ := (HC.out _ zq).2.2.2.2.1
    go_simp
    try rfl
  go_frame
  apply tk 27 rx27 rfl (by kernel_rfl) (fun _ _ _ h => h) zk
  · intro wq zq
    go_simp
    try rfl
  go_frame
  apply tk 28 rx28 rfl (by kernel_rfl) (fun _ _ _ h => h) zk
  · intro wq zq
    go_simp
    try rfl
  go_frame
  apply tk 29 rx29 rfl (by kernel_rfl) (fun _ _ _ h => h) zk
  · intro wq zq
    go_simp
    try rfl
  go_frame
  apply tk 30 rx30 rfl (by kernel_rfl) (fun _ _ _ h => h) zk
  · intro wq zq
    go_simp
    try rfl
  go_frame
  apply tk 31 rx31 rfl (by kernel_rfl) (fun _ _ _ h => h) zk
  · intro wq zq
    go_simp
    try rfl
  go_frame
  apply tk 32 rx32 rfl (by kernel_rfl) (fun _ _ _ h => h) zk
  · intro wq zq
    obtain ⟨s1, s2⟩ := (HC.out _ zq).2.2.2.2.1
    go_simp
    try rfl
  go_frame
  apply tk 33 rx33 rfl (by kernel_rfl) (fun _ _ _ h => h) zk
  · intro wq zq
    go_simp
    try rfl
  go_frame
  apply tk 34 rx34 rfl (by kernel_rfl) (fun _ _ _ h => h) zk
  · intro wq zq
    have s1 := (HC.out _ zq).2.2.2.2.2.2.2
    go_simp
    try rfl
  go_frame
  apply tk 35 rx35 rfl (by kernel_rfl) (fun _ _ _ h => h) zk
  · intro wq zq
    have s1 := (HC.out _ zq).1
    go_simp
    try rfl
  go_frame
  apply tk 36 rx36 rfl (by kernel_rfl) (fun _ _ _ h => h) zk
  · intro wq zq
    go_simp
    try rfl
  go_frame
  apply tk 37 rx37 rfl (by kernel_rfl) (fun _ _ _ h => h) zk
  · intro wq zq
    go_simp
    try rfl
  go_frame
  refine rd 38 rx38 rfl (by kernel_rfl) fun K hK => ?_
  go_simp
  refine hK.out _ _ ?_ (fun zk => ?_)
  · exact zk.trans (Ch.set (Q := fun x => x = o15) _ rfl _ _) (fun _ _ h => h)
  clear hK K
  try go_frame
  refine wpAnyH_done (by kernel_rfl) ?_ _
  apply HK.out

end Go.Proofs.Ytjilnmeegolpkaa
