/- Layer 10: SlotsSeen: a round of the range. -/
import Derived.Test.YtjilnmeegolpkaaKg
namespace Go.Proofs.Ytjilnmeegolpkaa
open Go.RowKit Go.Shelf

attribute [local go_sem] Oper.semAt_some

/-- the round with other loops in it -/
def putLoops : Code → Code → Code
  | .block k (.seq a (.seq b (.seq c (.cond t _ e)))), r => .block k (.seq a (.seq b (.seq c (.cond t r e))))
  | c, _ => c
noncomputable def roundCode : Code := cBody (cBlk (cSnd (cFst (cSnd (cSnd (cSnd (rest6 (Try.f5.body.getD .skip))))))))

set_option maxRecDepth 100000 in
set_option maxHeartbeats 8000000 in
theorem seen_body {u0 u1 u2 u4 u5 u6 u7 u8 u9 u11 u12 u13 u16 u19 u20 u21 u22 u23 u24 u25 u26 u27 u28 u29 u30 u31 u32 u33 u34 u35 u36 u37 u38 u39 u40 u41 u42 u43 u44 u45 u46 u47 u48 u49 u50 u51 u52 u53 u54 u55 u56 u57 u58 u59 u60 u61 u62 u63 u64 u65 u66 u67 u68 u69 u70 u71 u72 u73 u74 u75 u76 u77 u78 u79 u80 u81 u82 u83 u84 u85 u86 u87 u88 u89 u90 u91 u92 u93 u94 u95 u96 u97 u98 u99 u100 u101 u102 u103 u104 u105 u106 u107 u108 u109 u110 u111 u112 u113 u114 u115 u116 u117 u118 u119 u120 u121 u122 u123 u124 u125 u126 u127 u128 u129 u130 u131 u132 u133 u134 u135 u136 u137 u138 u139 u140 u141 u142 u143 u144 u145 u146 u147 u148 u149 u150 u151 u152 u153 u154 u155 u156 u157 u158 u159 u160 u161 u162 u163 u164 u165 u166 u167 u168 u169 u170 u171 u172 u173 u174 u175 u176 u177 u178 u179 u180 u181 u182 u183 u184 u185 u186 u187 u188 u189 u190 u191 u192 u193 u194 u195 u196 u197 u198 u199 u200 u201 u202 u203 u204 u205 u206 u207 u208 u209 u210 u211 u212 : Value} {w0 W : World} {ss : List ByteArray} {ov iv : Value} {lb lo lc hc p g a8 a10 B m i lp n hb n14 o15 A X b : Nat} {F : Nat → Prop} {l : List (ThG Pa)} (h : Sn w0 (.slice (some ⟨lb, lo, none⟩) ss.length lc) ov iv p g a8 a10 B F W l (.slice (some ⟨hb, 0, none⟩) m hc) m) (hi : i < m) (hm2 : m ≤ 100) (hi2 : i < ss.length) (hlb : lb < w0.heap.size) (hstr : w0.cell? ⟨lb, lo + i, none⟩ = some (.string ss[i]))
    (bn : Boxed W n14 3 (.int .i64 (i : Int))) (bo : Boxed W o15 4 (.bool true)) (bA : W.heap[A]? = some (.cells #[.int .u32 ((i : Int) + 1), .int .u32 1] 39 (0, 0))) (bX : W.heap[X]? = some (.cells #[.string ss[i], .slice (some ⟨b, 0, none⟩) 1 1] 62 (0, 0))) (bb : Boxed W b 3 (.int .i64 (i : Int))) (ho : B ≤ o15)
    {Q : Exit → Act → World → Prop} {LC : Code} (h0 : i = 0 → ∀ (u77 u78 u79 u80 u81 u82 u83 u84 u85 u86 u87 u88 u89 u90 u91 u92 u93 u94 u95 u96 u97 u98 u99 u100 u101 u102 u103 u104 u105 u106 u107 u108 u109 u110 u111 u112 u113 u114 u115 u116 u117 u118 : Value), LC.wpIn (Fence.wide.inRound lp) n Try.prog (Exit.inBlock 3 Q) { tmps := List.toArray (u0 :: u1 :: u2 :: (.pointer (some ⟨w0.heap.size, 0, none⟩)) :: u4 :: u5 :: u6 :: u7 :: u8 :: u9 :: (.pointer (some ⟨a10, 0, none⟩)) :: u11 :: u12 :: u13 :: (.pointer (some ⟨n14, 0, none⟩)) :: (.pointer (some ⟨o15, 0, none⟩)) :: u16 :: (.pointer (some ⟨A, 0, none⟩)) :: (.pointer (some ⟨X, 0, none⟩)) :: u19 :: u20 :: u21 :: u22 :: u23 :: u24 :: u25 :: u26 :: u27 :: u28 :: u29 :: u30 :: u31 :: u32 :: u33 :: u34 :: u35 :: u36 :: u37 :: u38 :: u39 :: u40 :: u41 :: u42 :: u43 :: u44 :: u45 :: u46 :: u47 :: u48 :: u49 :: u50 :: u51 :: u52 :: u53 :: u54 :: u55 :: u56 :: u57 :: u58 :: u59 :: u60 :: u61 :: u62 :: u63 :: u64 :: u65 :: u66 :: u67 :: u68 :: u69 :: u70 :: u71 :: u72 :: u73 :: u74 :: u75 :: u76 :: u77 :: u78 :: u79 :: u80 :: u81 :: u82 :: u83 :: u84 :: u85 :: u86 :: u87 :: u88 :: u89 :: u90 :: u91 :: u92 :: u93 :: u94 :: u95 :: u96 :: u97 :: u98 :: u99 :: u100 :: u101 :: u102 :: u103 :: u104 :: u105 :: u106 :: u107 :: u108 :: u109 :: u110 :: u111 :: u112 :: u113 :: u114 :: u115 :: u116 :: u117 :: u118 :: u119 :: u120 :: u121 :: u122 :: u123 :: u124 :: u125 :: u126 :: u127 :: u128 :: u129 :: u130 :: u131 :: u132 :: u133 :: u134 :: u135 :: u136 :: u137 :: u138 :: u139 :: u140 :: u141 :: u142 :: u143 :: u144 :: u145 :: u146 :: u147 :: u148 :: u149 :: u150 :: u151 :: u152 :: u153 :: u154 :: u155 :: u156 :: u157 :: u158 :: u159 :: u160 :: u161 :: u162 :: u163 :: u164 :: u165 :: u166 :: u167 :: u168 :: u169 :: u170 :: u171 :: u172 :: u173 :: u174 :: u175 :: u176 :: u177 :: u178 :: u179 :: u180 :: u181 :: u182 :: u183 :: u184 :: u185 :: u186 :: u187 :: u188 :: u189 :: u190 :: u191 :: u192 :: u193 :: u194 :: u195 :: u196 :: u197 :: u198 :: u199 :: u200 :: u201 :: u202 :: u203 :: u204 :: u205 :: u206 :: u207 :: u208 :: u209 :: u210 :: u211 :: u212 :: []), defers := [] } ((W.setCell ⟨o15, 0, none⟩ (.bool true)).drew.setCell ⟨n14, 0, none⟩ (.int .i64 ((i : Int) + 1)))) (h1 : i ≠ 0 → ∀ a', Q .normal a' ((W.setCell ⟨o15, 0, none⟩ (.bool true)).drew.setCell ⟨n14, 0, none⟩ (.int .i64 ((i : Int) + 1)))) :
    (putLoops roundCode LC).wpIn (Fence.wide.inRound lp) n Try.prog Q { tmps := List.toArray (u0 :: u1 :: u2 :: (.pointer (some ⟨w0.heap.size, 0, none⟩)) :: u4 :: u5 :: u6 :: u7 :: u8 :: u9 :: (.pointer (some ⟨a10, 0, none⟩)) :: u11 :: u12 :: u13 :: (.pointer (some ⟨n14, 0, none⟩)) :: (.pointer (some ⟨o15, 0, none⟩)) :: u16 :: (.pointer (some ⟨A, 0, none⟩)) :: (.pointer (some ⟨X, 0, none⟩)) :: u19 :: u20 :: u21 :: u22 :: u23 :: u24 :: u25 :: u26 :: u27 :: u28 :: u29 :: u30 :: u31 :: u32 :: u33 :: u34 :: u35 :: u36 :: u37 :: u38 :: u39 :: u40 :: u41 :: u42 :: u43 :: u44 :: u45 :: u46 :: u47 :: u48 :: u49 :: u50 :: u51 :: u52 :: u53 :: u54 :: u55 :: u56 :: u57 :: u58 :: u59 :: u60 :: u61 :: u62 :: u63 :: u64 :: u65 :: u66 :: u67 :: u68 :: u69 :: u70 :: u71 :: u72 :: u73 :: u74 :: u75 :: u76 :: u77 :: u78 :: u79 :: u80 :: u81 :: u82 :: u83 :: u84 :: u85 :: u86 :: u87 :: u88 :: u89 :: u90 :: u91 :: u92 :: u93 :: u94 :: u95 :: u96 :: u97 :: u98 :: u99 :: u100 :: u101 :: u102 :: u103 :: u104 :: u105 :: u106 :: u107 :: u108 :: u109 :: u110 :: u111 :: u112 :: u113 :: u114 :: u115 :: u116 :: u117 :: u118 :: u119 :: u120 :: u121 :: u122 :: u123 :: u124 :: u125 :: u126 :: u127 :: u128 :: u129 :: u130 :: u131 :: u132 :: u133 :: u134 :: u135 :: u136 :: u137 :: u138 :: u139 :: u140 :: u141 :: u142 :: u143 :: u144 :: u145 :: u146 :: u147 :: u148 :: u149 :: u150 :: u151 :: u152 :: u153 :: u154 :: u155 :: u156 :: u157 :: u158 :: u159 :: u160 :: u161 :: u162 :: u163 :: u164 :: u165 :: u166 :: u167 :: u168 :: u169 :: u170 :: u171 :: u172 :: u173 :: u174 :: u175 :: u176 :: u177 :: u178 :: u179 :: u180 :: u181 :: u182 :: u183 :: u184 :: u185 :: u186 :: u187 :: u188 :: u189 :: u190 :: u191 :: u192 :: u193 :: u194 :: u195 :: u196 :: u197 :: u198 :: u199 :: u200 :: u201 :: u202 :: u203 :: u204 :: u205 :: u206 :: u207 :: u208 :: u209 :: u210 :: u211 :: u212 :: []), defers := [] } W := by
  have bo2 : Boxed (W.setCell ⟨o15, 0, none⟩ (.bool true)) o15 4 (.bool true) := bo.set _
  have bn2 : Boxed (W.setCell ⟨o15, 0, none⟩ (.bool true)) n14 3 (.int .i64 (i : Int)) := bn.other (fun e => blk_ne bn bo (by decide) e) _
  obtain ⟨V, hV⟩ : ∃ V, (W.setCell ⟨o15, 0, none⟩ (.bool true)).drew = V := ⟨_, rfl⟩
  have c0 : V.cell? ⟨n14, 0, none⟩ = some (.int .i64 (i : Int)) := by rw [← hV]; exact bn2.cell
  have c1 : V.frozen? ⟨n14, 0, none⟩ = false := by rw [← hV]; exact bn2.frozen
  have H0 := hide h0
  have H1 := hide h1
  have HH := hide h
  have Hs := hide hstr
  have Hn := hide bn
  have Ho := hide bo
  have HA := hide bA
  have HX := hide bX
  have Hb := hide bb
  clear h0 h1 bo2 bn2 bn bo bA bX bb h hstr
  dsimp only [putLoops, roundCode, cSnd, cFst, cBlk, cBody, rest6, Try.f5, Option.getD]
  gi_wp2
  refine wpIn_then (seen_r19 HH.out hi hi2 hlb Hs.out Hn.out Ho.out HA.out HX.out Hb.out ho ?_)
  intro u77 u78 u79 u80 u81 u82 u83 u84 u85 u86 u87 u88 u89 u90 u91 u92 u93 u94 u95 u96 u97 u98 u99 u100 u101 u102 u103 u104 u105 u106 u107 u108 u109 u110 u111 u112 u113 u114
  rw [hV]
  by_cases hz : i = 0
  · have q : ((i : Int) + 1 == 1) = true := by simp [hz]
    have HZ := hide hz
    clear hz
    gi_wp2
    have := H0.out HZ.out
    rw [hV] at this
    apply this
  · have q : ((i : Int) + 1 == 1) = false := beq_false_of_ne (by omega)
    have HZ := hide hz
    clear hz
    gi_wp2
    have := H1.out HZ.out
    rw [hV] at this
    apply this

end Go.Proofs.Ytjilnmeegolpkaa
