/- WaitqStands for every script: each wait stands in its row, in Of of who waits and in All just once, from its Put until it is cut or left, and never again; of one row those that were put first stand ahead. There are no conditions. Layer 11: WaitqStands: the law's code in two parts; an op that came in. Layer 11: WaitqStands: the script is played. Layer 11: WaitqStands: all that was told is looked at. Layer 11: WaitqStands' walk. Layer 11: arguments that came in: rows, handles. -/
import Derived.Test.YthnnpipekeanoaaSg
import Derived.Test.YthnnpipekeanoaaZh
import Derived.Test.YthnnpipekeanoaaZj
import Derived.Test.YthnnpipekeanoaaXa
import Derived.ProofKit
import Derived.OpenShut
import Derived.ShutString
import Derived.JoinedCond
import Derived.Deep.DeepHandedRow
import Derived.Deep.SlicePairs
import Derived.Carry
import Derived.ChangeOld
import Derived.Below
namespace Go.Proofs.Ythnnpipekeanoaa
open Go.RowKit

def OpAt (w : World) (b o : Nat) (y : Oq) : Prop := (∀ j u, (opF y)[j]? = some u → w.cell? ⟨b, o + j, none⟩ = some u) ∧ y.Fit

def tailN : Nat → Code → Code → Code
  | 0, _, r => r
  | n + 1, .seq a b, r => .seq a (tailN n b r)
  | _ + 1, c, _ => c
def restN : Nat → Code → Code
  | 0, c => c
  | n + 1, .seq _ b => restN n b
  | _ + 1, c => c

end Go.Proofs.Ythnnpipekeanoaa

namespace Go.Proofs.Ythnnpipekeanoaa
open Go.RowKit

set_option maxRecDepth 100000 in
set_option maxHeartbeats 16000000 in
theorem stands_first {Q : Exit → Act → World → Prop} {REST : Code} (w : World) {sc : List Oq} {sa : Option Addr} {sk b0 o0 : Nat} (hlm : sc.length ≤ 9223372036854775807) (hA : 0 < sc.length → sa = some ⟨b0, o0, none⟩ ∧ b0 < w.heap.size) (hat : ∀ i (h : i < sc.length), OpAt w b0 (o0 + i * 14) sc[i])
    (hR : ∀ (B p : Nat) (F : Nat → Prop) (l : List Wt) (ta oa : Option Addr) (tc oc : Nat) (W : World) (u0 u1 u2 u3 u7 u8 u9 u10 u11 u12 u13 u14 u15 u16 u17 u18 u19 u20 u21 u22 u23 u24 u25 u26 u27 u28 u29 u30 u31 u32 u33 u34 u35 u36 u37 u38 u39 u40 u41 u42 u43 u44 u45 u46 u47 u48 u49 u50 u51 u52 u53 u54 u55 u56 u57 u58 u59 u60 u61 u62 u63 u64 u65 u66 u67 u68 u69 u70 u71 u72 u73 u74 u75 u76 u77 u78 u79 u80 u81 u82 u83 u84 u85 u86 u87 u88 u89 u90 u91 u92 u93 u94 u95 u96 u97 u98 u99 u100 u101 u102 u103 u104 u105 u106 u107 u108 u109 u110 u111 u112 u113 u114 u115 u116 u117 u118 u119 u120 u121 u122 u123 u124 u125 u126 u127 u128 u129 u130 u131 u132 u133 u134 u135 u136 u137 u138 u139 u140 u141 u142 u143 u144 u145 u146 u147 u148 u149 u150 u151 u152 u153 u154 u155 u156 u157 u158 u159 u160 u161 u162 u163 u164 u165 u166 u167 u168 u169 u170 u171 u172 u173 u174 u175 u176 u177 u178 u179 u180 u181 u182 u183 u184 u185 u186 u187 u188 u189 u190 u191 u192 u193 u194 u195 u196 u197 u198 u199 u200 u201 u202 u203 u204 u205 u206 u207 u208 u209 u210 u211 u212 u213 u214 u215 u216 u217 u218 u219 u220 u221 u222 u223 u224 u225 u226 u227 u228 u229 u230 u231 u232 u233 u234 u235 u236 u237 u238 u239 u240 u241 u242 u243 u244 u245 u246 u247 u248 u249 u250 u251 u252 u253 u254 u255 u256 u257 u258 u259 u260 u261 u262 u263 u264 u265 u266 u267 u268 u269 u270 u271 u272 u273 u274 u275 u276 u277 u278 u279 u280 u281 u282 u283 u284 u285 u286 u287 u288 u289 u290 u291 u292 u293 u294 u295 u296 u297 u298 u299 u300 u301 : Value), l.length ≤ 600 → Sd w B F p (.slice ta l.length tc) (.slice oa l.length oc) l W → REST.wp Try.prog Q { tmps := List.toArray (u0 :: u1 :: u2 :: u3 :: (.pointer (some ⟨p, 0, none⟩)) :: (.slice ta l.length tc) :: (.slice oa l.length oc) :: u7 :: u8 :: u9 :: u10 :: u11 :: u12 :: u13 :: u14 :: u15 :: u16 :: u17 :: u18 :: u19 :: u20 :: u21 :: u22 :: u23 :: u24 :: u25 :: u26 :: u27 :: u28 :: u29 :: u30 :: u31 :: u32 :: u33 :: u34 :: u35 :: u36 :: u37 :: u38 :: u39 :: u40 :: u41 :: u42 :: u43 :: u44 :: u45 :: u46 :: u47 :: u48 :: u49 :: u50 :: u51 :: u52 :: u53 :: u54 :: u55 :: u56 :: u57 :: u58 :: u59 :: u60 :: u61 :: u62 :: u63 :: u64 :: u65 :: u66 :: u67 :: u68 :: u69 :: u70 :: u71 :: u72 :: u73 :: u74 :: u75 :: u76 :: u77 :: u78 :: u79 :: u80 :: u81 :: u82 :: u83 :: u84 :: u85 :: u86 :: u87 :: u88 :: u89 :: u90 :: u91 :: u92 :: u93 :: u94 :: u95 :: u96 :: u97 :: u98 :: u99 :: u100 :: u101 :: u102 :: u103 :: u104 :: u105 :: u106 :: u107 :: u108 :: u109 :: u110 :: u111 :: u112 :: u113 :: u114 :: u115 :: u116 :: u117 :: u118 :: u119 :: u120 :: u121 :: u122 :: u123 :: u124 :: u125 :: u126 :: u127 :: u128 :: u129 :: u130 :: u131 :: u132 :: u133 :: u134 :: u135 :: u136 :: u137 :: u138 :: u139 :: u140 :: u141 :: u142 :: u143 :: u144 :: u145 :: u146 :: u147 :: u148 :: u149 :: u150 :: u151 :: u152 :: u153 :: u154 :: u155 :: u156 :: u157 :: u158 :: u159 :: u160 :: u161 :: u162 :: u163 :: u164 :: u165 :: u166 :: u167 :: u168 :: u169 :: u170 :: u171 :: u172 :: u173 :: u174 :: u175 :: u176 :: u177 :: u178 :: u179 :: u180 :: u181 :: u182 :: u183 :: u184 :: u185 :: u186 :: u187 :: u188 :: u189 :: u190 :: u191 :: u192 :: u193 :: u194 :: u195 :: u196 :: u197 :: u198 :: u199 :: u200 :: u201 :: u202 :: u203 :: u204 :: u205 :: u206 :: u207 :: u208 :: u209 :: u210 :: u211 :: u212 :: u213 :: u214 :: u215 :: u216 :: u217 :: u218 :: u219 :: u220 :: u221 :: u222 :: u223 :: u224 :: u225 :: u226 :: u227 :: u228 :: u229 :: u230 :: u231 :: u232 :: u233 :: u234 :: u235 :: u236 :: u237 :: u238 :: u239 :: u240 :: u241 :: u242 :: u243 :: u244 :: u245 :: u246 :: u247 :: u248 :: u249 :: u250 :: u251 :: u252 :: u253 :: u254 :: u255 :: u256 :: u257 :: u258 :: u259 :: u260 :: u261 :: u262 :: u263 :: u264 :: u265 :: u266 :: u267 :: u268 :: u269 :: u270 :: u271 :: u272 :: u273 :: u274 :: u275 :: u276 :: u277 :: u278 :: u279 :: u280 :: u281 :: u282 :: u283 :: u284 :: u285 :: u286 :: u287 :: u288 :: u289 :: u290 :: u291 :: u292 :: u293 :: u294 :: u295 :: u296 :: u297 :: u298 :: u299 :: u300 :: u301 :: []), defers := [] } W) :
    (tailN 7 (Try.f4.body.getD .skip) REST).wp Try.prog Q { tmps := List.toArray (.slice sa sc.length sk :: undef :: undef :: undef :: undef :: undef :: undef :: undef :: undef :: undef :: undef :: undef :: undef :: undef :: undef :: undef :: undef :: undef :: undef :: undef :: undef :: undef :: undef :: undef :: undef :: undef :: undef :: undef :: undef :: undef :: undef :: undef :: undef :: undef :: undef :: undef :: undef :: undef :: undef :: undef :: undef :: undef :: undef :: undef :: undef :: undef :: undef :: undef :: undef :: undef :: undef :: undef :: undef :: undef :: undef :: undef :: undef :: undef :: undef :: undef :: undef :: undef :: undef :: undef :: undef :: undef :: undef :: undef :: undef :: undef :: undef :: undef :: undef :: undef :: undef :: undef :: undef :: undef :: undef :: undef :: undef :: undef :: undef :: undef :: undef :: undef :: undef :: undef :: undef :: undef :: undef :: undef :: undef :: undef :: undef :: undef :: undef :: undef :: undef :: undef :: undef :: undef :: undef :: undef :: undef :: undef :: undef :: undef :: undef :: undef :: undef :: undef :: undef :: undef :: undef :: undef :: undef :: undef :: undef :: undef :: undef :: undef :: undef :: undef :: undef :: undef :: undef :: undef :: undef :: undef :: undef :: undef :: undef :: undef :: undef :: undef :: undef :: undef :: undef :: undef :: undef :: undef :: undef :: undef :: undef :: undef :: undef :: undef :: undef :: undef :: undef :: undef :: undef :: undef :: undef :: undef :: undef :: undef :: undef :: undef :: undef :: undef :: undef :: undef :: undef :: undef :: undef :: undef :: undef :: undef :: undef :: undef :: undef :: undef :: undef :: undef :: undef :: undef :: undef :: undef :: undef :: undef :: undef :: undef :: undef :: undef :: undef :: undef :: undef :: undef :: undef :: undef :: undef :: undef :: undef :: undef :: undef :: undef :: undef :: undef :: undef :: undef :: undef :: undef :: undef :: undef :: undef :: undef :: undef :: undef :: undef :: undef :: undef :: undef :: undef :: undef :: undef :: undef :: undef :: undef :: undef :: undef :: undef :: undef :: undef :: undef :: undef :: undef :: undef :: undef :: undef :: undef :: undef :: undef :: undef :: undef :: undef :: undef :: undef :: undef :: undef :: undef :: undef :: undef :: undef :: undef :: undef :: undef :: undef :: undef :: undef :: undef :: undef :: undef :: undef :: undef :: undef :: undef :: undef :: undef :: undef :: undef :: undef :: undef :: undef :: undef :: undef :: undef :: undef :: undef :: undef :: undef :: undef :: undef :: undef :: undef :: undef :: undef :: undef :: undef :: undef :: undef :: undef :: undef :: undef :: undef :: undef :: undef :: undef :: undef :: undef :: undef :: undef :: undef :: undef :: undef :: undef :: undef :: undef :: undef :: undef :: undef :: []), defers := [] } w := by
  have HL := hide (And.intro hA hat)
  have HR := hide hR
  clear hA hat hR
  dsimp only [tailN, Try.f4, Option.getD]
  go_wp2_with fail
  refine (awake_is w).mono ?_
  rintro e w1 ⟨rfl, b1⟩
  have HB1 := hide b1
  clear b1
  go_wp2_with fail
  refine (face.new w1).mono ?_
  rintro e w2 ⟨p, F, rfl, h2, b2⟩
  have HS := hide (show Sd w w1.heap.size F p (.slice none 0 0) (.slice none 0 0) [] w2 from ⟨h2, Row.nil _ _, Row.nil _ _, HB1.out.trans (b2.mono HB1.out.size), HB1.out.size, b2.size, Apt.nil, fun t ht => by cases ht⟩)
  clear h2 b2
  go_wp2_with fail
  go_loopw [5, 6, 7] (fun tv ov iv wr => ∃ (i : Nat) (l : List Wt) (F : Nat → Prop), iv = .int .i64 (i : Int) ∧ i ≤ sc.length ∧ i ≤ 600 ∧ l.length ≤ i ∧ Hid (Sd w w1.heap.size F p tv ov l wr)) (fun _ _ iv _ => 600 - (intOf iv).toNat)
  case atStart => exact ⟨0, [], F, rfl, Nat.zero_le _, Nat.zero_le _, Nat.le_refl _, HS⟩
  case round =>
    clear HS
    obtain ⟨i, l, F, rfl, hi, hi6, hli, HS⟩ := hrel
    obtain ⟨ta, tc, oa, oc, e1, e2⟩ := HS.out.len
    subst e1 e2
    by_cases hlt : i < sc.length
    · have q1 : decide ((i : Int) < (sc.length : Int)) = true := decide_eq_true (by omega)
      by_cases h6 : i < 600
      · have q2 : decide ((i : Int) < 600) = true := decide_eq_true (by omega)
        obtain ⟨hA, hat⟩ := HL.out
        obtain ⟨rfl, hb0⟩ := hA (by omega)
        obtain ⟨hy, hfit⟩ := hat i hlt
        generalize sc[i] = o at hy hfit
        have HFT := hide hfit
        have hy := hide (fun j u hu => (HS.out.fr.cell (p := ⟨b0, o0 + i * 14 + j, none⟩) hb0).trans (hy j u hu))
        have y0 : wr.cell? ⟨b0, o0 + i * 14, none⟩ = _ := hy.out 0 (.int .i64 o.k) rfl
        have y1 := hy.out 1 (.int .i64 o.wh) rfl
        have y2 := hy.out 2 (.int .i64 o.ar) rfl
        have y3 := hy.out 3 (.int .u32 o.rs) rfl
        have y4 := hy.out 4 (.int .u32 o.rg) rfl
        have y5 := hy.out 5 (.int .i64 o.rd) rfl
        have y6 := hy.out 6 (.int .u32 o.ws) rfl
        have y7 := hy.out 7 (.int .u32 o.wg) rfl
        have y8 := hy.out 8 (.int .u32 o.ms) rfl
        have y9 := hy.out 9 (.int .u32 o.mg) rfl
        have y10 := hy.out 10 (.bool o.hd) rfl
        have y11 := hy.out 11 (.int .i64 o.vn) rfl
        have y12 := hy.out 12 (.int .u32 o.vs) rfl
        have y13 := hy.out 13 (.int .u32 o.vg) rfl
        clear hA hat hfit hy
        obtain ⟨W, hW⟩ : ∃ W, wr.alloc (.cells #[.int .i64 o.k, .int .i64 o.wh, .int .i64 o.ar, .int .u32 o.rs, .int .u32 o.rg, .int .i64 o.rd, .int .u32 o.ws, .int .u32 o.wg, .int .u32 o.ms, .int .u32 o.mg, .bool o.hd, .int .i64 o.vn, .int .u32 o.vs, .int .u32 o.vg] 48) = W := ⟨_, rfl⟩
        have cW : Ch (fun _ => False) wr W := by rw [← hW]; exact Ch.alloc _ _
        have bO : W.heap[wr.heap.size]? = some (.cells #[.int .i64 o.k, .int .i64 o.wh, .int .i64 o.ar, .int .u32 o.rs, .int .u32 o.rg, .int .i64 o.rd, .int .u32 o.ws, .int .u32 o.wg, .int .u32 o.ms, .int .u32 o.mg, .bool o.hd, .int .i64 o.vn, .int .u32 o.vs, .int .u32 o.vg] 48 (0, 0)) := by rw [← hW]; exact heap_new _ _
        have HO := hide bO
        have HSW := hide (HS.out.quiet cW)
        have eI : IntKind.i64.wrap ((i : Int) + 1) = (i : Int) + 1 := by rw [IntKind.wrap_i64]; omega
        have k0 : W.cell? ⟨wr.heap.size, 0, none⟩ = some (.int .i64 o.k) := by simp [Lib.cell_of_heap bO]
        clear cW bO HS
        by_cases hk2 : o.k = 2
        · have p2 : (o.k == 2) = true := by simp [hk2]
          clear hk2
          by_cases h0 : 0 < l.length
          · have hk := (pkW_is (c := o.wh) h0 rfl).1
            have HPK := hide (pick_is HFT.out.wh.1 HFT.out.wh.2 h0 (by omega) W)
            obtain ⟨kk, hkk⟩ : ∃ kk, pkW o.wh l.length = kk := ⟨_, rfl⟩
            rw [hkk] at hk HPK
            clear hkk
            obtain ⟨tg, tc', og, oc', e1, e2, htg, hog, hct, hco, hne⟩ := HSW.out.at hk
            injection e1 with e1 _ e1'
            injection e2 with e2 _ e2'
            subst e1 e1' e2 e2'
            obtain ⟨hcm, hfn⟩ := cut_marks HSW.out.apt hk
            have z0 : W.cell? ⟨tg, kk * 11, none⟩ = _ := hct kk hk 0 (.int .u32 l[kk].r.ms) rfl
            have z1 := hct kk hk 1 (.int .u32 l[kk].r.mg) rfl
            have zo := hco kk hk
            have hft := HSW.out.fit _ (List.getElem_mem hk)
            have HCU := hide (face.cut l[kk].r.ms l[kk].r.mg hft.ms hft.mg HSW.out.bk (by omega))
            rw [hfn] at HCU
            have HCM := hide hcm
            generalize l[kk] = t at z0 z1 zo HCU HCM
            have k1 : W.cell? ⟨wr.heap.size, 1, none⟩ = some (.int .i64 o.wh) := by simp [Lib.cell_of_heap HO.out]
            have hq0 : (kk : Int) < (l.length : Int) := by omega
            have hogF := HSW.out.no og rfl
            have HOF := hide hogF
            clear hct hco hcm hfn hft hogF
            go_wp2_with (first | rw [hW] | (go_at_call 14; refine HPK.out.mono ?_; rintro e W ⟨rfl, rfl⟩) | (go_at_call 15; fail))
            clear hW k0 k1 z0 z1 HPK
            refine HCU.out.mono ?_
            rintro e W3 ⟨F3, rfl, h3, c3, -⟩
            have zo3 := (c3.cell hog HOF.out kk).trans zo
            obtain ⟨-, h2', -, -⟩ := HSW.out.book c3
            obtain ⟨-, -, cur, hcur⟩ := own_in h2' (g := og) rfl
            have fz : W3.frozen? ⟨og, kk, none⟩ = false := by simp [World.frozen?, hcur]
            have HM := hide (HSW.out.mark h3 c3 (cutW_r _ _ _) HCM.out hk)
            have HLN := hide (show (cutW l t.r.ms t.r.mg).length ≤ i + 1 by have := congrArg List.length (cutW_r l t.r.ms t.r.mg); rw [List.length_map, List.length_map] at this; omega)
            clear h3 c3 h2' hcur zo HSW HCM HCU HO HFT y0 y1 y2 y3 y4 y5 y6 y7 y8 y9 y10 y11 y12 y13
            cases ho : t.o with
            | false =>
              rw [ho] at zo3
              have zo3 : W3.cell? ⟨og, kk, none⟩ = some (.int .i64 0) := zo3
              rw [show ecB (!false) 111 = 0 from rfl]
              clear ho
              go_wp2_with fail
              go_roundw
              case rel => exact ⟨i + 1, _, F3, by go_num, by omega, by omega, HLN.out, HM⟩
              case measure => simp [intOf]; omega
            | true =>
              rw [ho] at zo3
              have zo3 : W3.cell? ⟨og, kk, none⟩ = some (.int .i64 1) := zo3
              rw [show ecB (!true) 111 = 111 from rfl]
              clear ho
              go_wp2_with fail
              go_roundw
              case rel => exact ⟨i + 1, _, F3, by go_num, by omega, by omega, HLN.out, HM⟩
              case measure => simp [intOf]; omega
          · clear HO HFT
            have q0 : ¬ 0 < l.length := h0
            go_wp2_with (rw [hW])
            go_roundw
            case rel => exact ⟨i + 1, l, F, by go_num, by omega, by omega, by omega, HSW⟩
            case measure => simp [intOf]; omega
        · have p2 : (o.k == 2) = false := by simp [hk2]
          clear hk2
          by_cases hk3 : o.k = 3
          · have p3 : (o.k == 3) = true := by simp [hk3]
            clear hk3
            have k6 : W.cell? ⟨wr.heap.size, 6, none⟩ = some (.int .u32 o.ws) := by simp [Lib.cell_of_heap HO.out]
            have k7 : W.cell? ⟨wr.heap.size, 7, none⟩ = some (.int .u32 o.wg) := by simp [Lib.cell_of_heap HO.out]
            have HWS := hide (And.intro HFT.out.ws HFT.out.wg)
            go_wp2_with (rw [hW])
            obtain ⟨wq, rfl⟩ : ∃ x, x = wr := ⟨_, rfl⟩
            have HSM := hide (show Sm w w1.heap.size F p (.slice ta l.length tc) (.slice oa l.length oc) l (mks l o.ws o.wg 0) wq.heap.size (.cells #[.int .i64 o.k, .int .i64 o.wh, .int .i64 o.ar, .int .u32 o.rs, .int .u32 o.rg, .int .i64 o.rd, .int .u32 o.ws, .int .u32 o.wg, .int .u32 o.ms, .int .u32 o.mg, .bool o.hd, .int .i64 o.vn, .int .u32 o.vs, .int .u32 o.vg] 48 (0, 0)) W by rw [mks_zero]; exact ⟨HSW.out.bk, HSW.out.told, HSW.out.over, HSW.out.fr, HSW.out.lo, HSW.out.hB, HO.out, HSW.out.apt, HSW.out.fit⟩)
            clear hW k0 k6 k7 HO HFT HSW y0 y1 y2 y3 y4 y5 y6 y7 y8 y9 y10 y11 y12 y13
            go_loopw [11, 12] (fun nv kv wr => ∃ kk : Nat, kv = .int .i64 (kk : Int) ∧ kk ≤ l.length ∧ nv = .int .i64 (leaN (l.take kk) o.ws o.wg : Int) ∧ Hid (Sm w w1.heap.size F p (.slice ta l.length tc) (.slice oa l.length oc) l (mks l o.ws o.wg kk) wq.heap.size (.cells #[.int .i64 o.k, .int .i64 o.wh, .int .i64 o.ar, .int .u32 o.rs, .int .u32 o.rg, .int .i64 o.rd, .int .u32 o.ws, .int .u32 o.wg, .int .u32 o.ms, .int .u32 o.mg, .bool o.hd, .int .i64 o.vn, .int .u32 o.vs, .int .u32 o.vg] 48 (0, 0)) wr)) (fun _ kv _ => l.length - (intOf kv).toNat)
            case atStart => exact ⟨0, rfl, Nat.zero_le _, rfl, HSM⟩
            case round =>
              clear HSM
              obtain ⟨kk, rfl, hkk, rfl, HM⟩ := hrel
              by_cases hlt2 : kk < l.length
              · have r1 : decide ((kk : Int) < (l.length : Int)) = true := decide_eq_true (by omega)
                obtain ⟨tg, tc', og, oc', cur, cur', e1, e2, htg, hog, hct, hco⟩ := HM.out.at (mks_len _ _ _ _) hlt2
                injection e1 with e1 _ e1'
                injection e2 with e2 _ e2'
                subst e1 e1' e2 e2'
                rw [mks_at _ _ hlt2] at hco
                have z2 := hct 2 (.int .u32 l[kk].r.ws) rfl
                have z3 := hct 3 (.int .u32 l[kk].r.wg) rfl
                have HAT := hide (mks_at o.ws o.wg hlt2)
                have HN := hide (leaN_next (s := o.ws) (g := o.wg) hlt2)
                have HX := hide (mks_next o.ws o.wg hlt2)
                have hnl := leaN_le (l.take kk) o.ws o.wg
                rw [List.length_take] at hnl
                have k6 : wr.cell? ⟨wq.heap.size, 6, none⟩ = some (.int .u32 o.ws) := by simp [Lib.cell_of_heap HM.out.box]
                have k7 : wr.cell? ⟨wq.heap.size, 7, none⟩ = some (.int .u32 o.wg) := by simp [Lib.cell_of_heap HM.out.box]
                have eK : IntKind.i64.wrap ((kk : Int) + 1) = (kk : Int) + 1 := by rw [IntKind.wrap_i64]; omega
                have hA : ¬ wq.heap.size = og := fun e => by
                  have h := HM.out.box
                  rw [e, hog] at h
                  injection h with h
                  injection h with _ h _
                  exact absurd h (by decide)
                have hq0 : (kk : Int) < (l.length : Int) := by omega
                have HWO := hide (show isWho o.ws o.wg l[kk] = (!l[kk].o && (decide (l[kk].r.ws = o.ws) && decide (l[kk].r.wg = o.wg))) from rfl)
                have fz : ∀ m, (wr.drewN m).frozen? ⟨og, kk, none⟩ = false := fun m => by simp [World.frozen?, hog]
                have zd : ∀ m, (wr.drewN m).cell? ⟨og, kk, none⟩ = wr.cell? ⟨og, kk, none⟩ := fun m => rfl
                have HMS := hide (fun nq => (HM.out.quiet (Ch.drewN (Q := fun _ => False) wr nq)))
                generalize l[kk] = t at z2 z3 hco HN HX HWO HAT
                generalize hln : leaN (l.take kk) o.ws o.wg = ln at HN hnl
                have eN : IntKind.i64.wrap ((ln : Int) + 1) = (ln : Int) + 1 := by rw [IntKind.wrap_i64]; omega
                clear hct HM htg hog hln hnl
                by_cases es : t.r.ws = o.ws
                · have qs : (t.r.ws == o.ws) = true := by simpa using es
                  by_cases eg : t.r.wg = o.wg
                  · have qg : (t.r.wg == o.wg) = true := by simpa using eg
                    cases ho : t.o with
                    | false =>
                      rw [ho] at hco
                      have hco : wr.cell? ⟨og, kk, none⟩ = some (.int .i64 0) := hco
                      have hw : isWho o.ws o.wg t = true := by rw [HWO.out, ho, es, eg]; simp
                      rw [hw, ho] at HX
                      rw [hw] at HN
                      clear HWO hw es eg ho
                      go_wp2_with fail
                      go_quiet (fail)
                      have HM2 := hide (show Sm w w1.heap.size F p (.slice (some ⟨tg, 0, none⟩) l.length tc) (.slice (some ⟨og, 0, none⟩) l.length oc) l (mks l o.ws o.wg (kk + 1)) wq.heap.size (.cells #[.int .i64 o.k, .int .i64 o.wh, .int .i64 o.ar, .int .u32 o.rs, .int .u32 o.rg, .int .i64 o.rd, .int .u32 o.ws, .int .u32 o.wg, .int .u32 o.ms, .int .u32 o.mg, .bool o.hd, .int .i64 o.vn, .int .u32 o.vs, .int .u32 o.vg] 48 (0, 0)) ((wr.drewN nq).setCell ⟨og, kk, none⟩ (.int .i64 1)) by rw [HX.out]; exact (HMS.out nq).set (mks_len _ _ _ _) (by rw [mks_len]; exact hlt2) hA)
                      have fz := fz nq
                      have hco : (wr.drewN nq).cell? ⟨og, kk, none⟩ = some (.int .i64 0) := hco
                      clear zd z2 z3 k6 k7 HMS
                      generalize wr.drewN nq = W5 at HM2 fz hco ⊢
                      go_wp2_with fail
                      go_roundw
                      case rel => exact ⟨kk + 1, by go_num, by omega, by rw [HN.out]; rfl, HM2⟩
                      case measure => simp [intOf]; omega
                    | true =>
                      rw [ho] at hco
                      have hco : wr.cell? ⟨og, kk, none⟩ = some (.int .i64 1) := hco
                      have hw : isWho o.ws o.wg t = false := by rw [HWO.out, ho]; rfl
                      rw [hw, ho] at HX
                      rw [hw] at HN
                      have HX2 := hide (show mks l o.ws o.wg (kk + 1) = mks l o.ws o.wg kk by
                        rw [HX.out]
                        refine List.ext_getElem (by simp) fun i h1 h2 => ?_
                        rw [List.getElem_set]
                        split
                        · rename_i e
                          subst e
                          rw [HAT.out]
                          simp [ho]
                        · rfl)
                      clear HWO hw
                      go_wp2_with fail
                      go_quiet (fail)
                      have HM2 := hide (HMS.out nq)
                      rw [← HX2.out] at HM2
                      clear zd z2 z3 k6 k7 HMS
                      generalize wr.drewN nq = W5 at HM2 ⊢
                      go_wp2_with fail
                      go_roundw
                      case rel => exact ⟨kk + 1, by go_num, by omega, by rw [HN.out]; rfl, HM2⟩
                      case measure => simp [intOf]; omega
                  · have qg : (t.r.wg == o.wg) = false := by simpa using eg
                    have hw : isWho o.ws o.wg t = false := by rw [HWO.out]; simp [eg]
                    cases ho : t.o
                    · rw [hw, ho] at HX
                      rw [hw] at HN
                      have HX2 := hide (show mks l o.ws o.wg (kk + 1) = mks l o.ws o.wg kk by
                        rw [HX.out]
                        refine List.ext_getElem (by simp) fun i h1 h2 => ?_
                        rw [List.getElem_set]
                        split
                        · rename_i e
                          subst e
                          rw [HAT.out]
                          simp [ho]
                        · rfl)
                      clear HWO hw
                      go_wp2_with fail
                      go_quiet (fail)
                      have HM2 := hide (HMS.out nq)
                      rw [← HX2.out] at HM2
                      clear zd z2 z3 k6 k7 HMS
                      generalize wr.drewN nq = W5 at HM2 ⊢
                      go_wp2_with fail
                      go_roundw
                      case rel => exact ⟨kk + 1, by go_num, by omega, by rw [HN.out]; rfl, HM2⟩
                      case measure => simp [intOf]; omega
                    · rw [hw, ho] at HX
                      rw [hw] at HN
                      have HX2 := hide (show mks l o.ws o.wg (kk + 1) = mks l o.ws o.wg kk by
                        rw [HX.out]
                        refine List.ext_getElem (by simp) fun i h1 h2 => ?_
                        rw [List.getElem_set]
                        split
                        · rename_i e
                          subst e
                          rw [HAT.out]
                          simp [ho]
                        · rfl)
                      clear HWO hw
                      go_wp2_with fail
                      go_quiet (fail)
                      have HM2 := hide (HMS.out nq)
                      rw [← HX2.out] at HM2
                      clear zd z2 z3 k6 k7 HMS
                      generalize wr.drewN nq = W5 at HM2 ⊢
                      go_wp2_with fail
                      go_roundw
                      case rel => exact ⟨kk + 1, by go_num, by omega, by rw [HN.out]; rfl, HM2⟩
                      case measure => simp [intOf]; omega
                · have qs : (t.r.ws == o.ws) = false := by simpa using es
                  have hw : isWho o.ws o.wg t = false := by rw [HWO.out]; simp [es]
                  cases ho : t.o
                  · rw [hw, ho] at HX
                    rw [hw] at HN
                    have HX2 := hide (show mks l o.ws o.wg (kk + 1) = mks l o.ws o.wg kk by
                      rw [HX.out]
                      refine List.ext_getElem (by simp) fun i h1 h2 => ?_
                      rw [List.getElem_set]
                      split
                      · rename_i e
                        subst e
                        rw [HAT.out]
                        simp [ho]
                      · rfl)
                    clear HWO hw
                    go_wp2_with fail
                    go_quiet (fail)
                    have HM2 := hide (HMS.out nq)
                    rw [← HX2.out] at HM2
                    clear zd z2 z3 k6 k7 HMS
                    generalize wr.drewN nq = W5 at HM2 ⊢
                    go_wp2_with fail
                    go_roundw
                    case rel => exact ⟨kk + 1, by go_num, by omega, by rw [HN.out]; rfl, HM2⟩
                    case measure => simp [intOf]; omega
                  · rw [hw, ho] at HX
                    rw [hw] at HN
                    have HX2 := hide (show mks l o.ws o.wg (kk + 1) = mks l o.ws o.wg kk by
                      rw [HX.out]
                      refine List.ext_getElem (by simp) fun i h1 h2 => ?_
                      rw [List.getElem_set]
                      split
                      · rename_i e
                        subst e
                        rw [HAT.out]
                        simp [ho]
                      · rfl)
                    clear HWO hw
                    go_wp2_with fail
                    go_quiet (fail)
                    have HM2 := hide (HMS.out nq)
                    rw [← HX2.out] at HM2
                    clear zd z2 z3 k6 k7 HMS
                    generalize wr.drewN nq = W5 at HM2 ⊢
                    go_wp2_with fail
                    go_roundw
                    case rel => exact ⟨kk + 1, by go_num, by omega, by rw [HN.out]; rfl, HM2⟩
                    case measure => simp [intOf]; omega
              · have r1 : decide ((kk : Int) < (l.length : Int)) = false := decide_eq_false (by omega)
                obtain rfl : kk = l.length := by omega
                have k6 : wr.cell? ⟨wq.heap.size, 6, none⟩ = some (.int .u32 o.ws) := by simp [Lib.cell_of_heap HM.out.box]
                have k7 : wr.cell? ⟨wq.heap.size, 7, none⟩ = some (.int .u32 o.wg) := by simp [Lib.cell_of_heap HM.out.box]
                have HLV := hide (face.leave o.ws o.wg HWS.out.1 HWS.out.2 HM.out.bk (by omega))
                rw [List.take_length]
                go_wp2_with fail
                refine HLV.out.mono ?_
                rintro e W3 ⟨F3, rfl, h3, c3, -⟩
                have HS3 := hide (show Sd w w1.heap.size F3 p (.slice ta l.length tc) (.slice oa l.length oc) (leaW l o.ws o.wg) W3 from ⟨h3, by rw [leaW_r]; exact HM.out.told.ch c3 (fun g hg e => by obtain ⟨_, _, cur, hc⟩ := own_in HM.out.told hg; exact HM.out.bk.nbox hc (by decide) (by decide) e), by rw [← mks_all]; exact HM.out.over.ch c3 (fun g hg e => by obtain ⟨_, _, cur, hc⟩ := own_in HM.out.over hg; exact HM.out.bk.nbox hc (by decide) (by decide) e), HM.out.fr.trans (c3.below HM.out.fr.size (fun b hb e => by have := (face.foot HM.out.bk b e).1; have := HM.out.lo; omega)), HM.out.lo, Nat.le_trans HM.out.hB c3.size, HM.out.apt.same (leaW_r _ _ _), fun t ht => by
                  have : t.r ∈ l.map Wt.r := by rw [← leaW_r l o.ws o.wg]; exact List.mem_map_of_mem ht
                  obtain ⟨u, hu, e⟩ := List.mem_map.1 this
                  rw [← e]
                  exact HM.out.fit u hu⟩)
                clear h3 c3 k6 k7 HM HLV
                go_wp2_with fail
                go_roundw
                case rel => exact ⟨i + 1, _, F3, by go_num, by omega, by omega, by rw [leaW_len]; omega, HS3⟩
                case measure => simp [intOf]; omega
          · have p3 : (o.k == 3) = false := by simp [hk3]
            clear hk3
            have k2 : W.cell? ⟨wr.heap.size, 2, none⟩ = some (.int .i64 o.ar) := by simp [Lib.cell_of_heap HO.out]
            have k3 : W.cell? ⟨wr.heap.size, 3, none⟩ = some (.int .u32 o.rs) := by simp [Lib.cell_of_heap HO.out]
            have k4 : W.cell? ⟨wr.heap.size, 4, none⟩ = some (.int .u32 o.rg) := by simp [Lib.cell_of_heap HO.out]
            have k5 : W.cell? ⟨wr.heap.size, 5, none⟩ = some (.int .i64 o.rd) := by simp [Lib.cell_of_heap HO.out]
            have k6 : W.cell? ⟨wr.heap.size, 6, none⟩ = some (.int .u32 o.ws) := by simp [Lib.cell_of_heap HO.out]
            have k7 : W.cell? ⟨wr.heap.size, 7, none⟩ = some (.int .u32 o.wg) := by simp [Lib.cell_of_heap HO.out]
            have k11 : W.cell? ⟨wr.heap.size, 11, none⟩ = some (.int .i64 o.vn) := by simp [Lib.cell_of_heap HO.out]
            have k12 : W.cell? ⟨wr.heap.size, 12, none⟩ = some (.int .u32 o.vs) := by simp [Lib.cell_of_heap HO.out]
            have k13 : W.cell? ⟨wr.heap.size, 13, none⟩ = some (.int .u32 o.vg) := by simp [Lib.cell_of_heap HO.out]
            have hl1 : l.length ≤ 100000 := by omega
            have HPU := hide (face.put o.rs o.rg o.rd o.ws o.wg o.ar o.vn o.vs o.vg HFT.out.rs HFT.out.rg HFT.out.rd HFT.out.ws HFT.out.wg HFT.out.ar HFT.out.vn HFT.out.vs HFT.out.vg HSW.out.bk hl1 HSW.out.hB)
            go_wp2_with (first | rw [hW] | (go_at_call 17; fail))
            clear hW k0 k2 k3 k4 k5 k6 k7 k11 k12 k13 y0 y1 y2 y3 y4 y5 y6 y7 y8 y9 y10 y11 y12 y13
            refine HPU.out.mono ?_
            rintro e W3 ⟨F3, rfl, h3, c3, -⟩
            have HB3 := hide (HSW.out.book c3)
            have hnb := HSW.out.bk.nbox HO.out (by decide) (by decide)
            have bO3 := c3.box HO.out hnb
            have H3 := hide h3
            obtain ⟨W4, hW4⟩ : ∃ W4, W3.alloc (.cells #[.int .u32 (psW l o.ws o.wg o.rd o.ar), .int .u32 (pgW l o.ws o.wg o.rd o.ar)] 41) = W4 := ⟨_, rfl⟩
            have c4 : Ch (fun _ => False) W3 W4 := by rw [← hW4]; exact Ch.alloc _ _
            have bM4 : W4.heap[W3.heap.size]? = some (.cells #[.int .u32 (psW l o.ws o.wg o.rd o.ar), .int .u32 (pgW l o.ws o.wg o.rd o.ar)] 41 (0, 0)) := by rw [← hW4]; exact heap_new _ _
            have bO4 := c4.box bO3 (fun h => h)
            by_cases hec : ecW l o.ws o.wg o.rd o.ar = 0
            · rw [hec]
              have ep : psW l o.ws o.wg o.rd o.ar = (slW l : Int) := if_pos hec
              have eg : pgW l o.ws o.wg o.rd o.ar = (genW l (slW l : Int) : Int) + 1 := if_pos hec
              have el : putW l o.rs o.rg o.rd o.ws o.wg o.ar o.vn o.vs o.vg = l ++ [⟨⟨slW l, (genW l (slW l : Int) : Int) + 1, o.ws, o.wg, o.rs, o.rg, o.rd, o.ar, o.vn, o.vs, o.vg⟩, false⟩] := if_pos hec
              have hus := psW_usT hl1 o.ws o.wg o.rd o.ar
              have hap := HSW.out.apt.put o.rs o.rg o.rd o.ws o.wg o.ar o.vn o.vs o.vg
              have hfr := HSW.out.apt.fresh
              rw [ep, eg] at hus bM4 hW4
              rw [el] at H3 hap
              rw [ep, eg]
              obtain ⟨s, hs⟩ : ∃ s : Int, (slW l : Int) = s := ⟨_, rfl⟩
              rw [hs] at hus bM4 hW4 H3 hap hfr ⊢
              obtain ⟨g, hg⟩ : ∃ g : Int, (genW l s : Int) + 1 = g := ⟨_, rfl⟩
              rw [hg] at hus bM4 hW4 H3 hap hfr ⊢
              obtain ⟨t, ht⟩ : ∃ t : Rc, t = ⟨s, g, o.ws, o.wg, o.rs, o.rg, o.rd, o.ar, o.vn, o.vs, o.vg⟩ := ⟨_, rfl⟩
              have HT := hide ht
              rw [← ht] at H3 hap
              have HAP := hide hap
              have HUS := hide hus
              have told4 := HB3.out.1.ch c4 (fun _ _ h => h)
              have HHS := hide (has_is told4 (by rw [List.length_map]; exact hl1) s g)
              rw [hfr] at HHS
              have m0 : W4.cell? ⟨W3.heap.size, 0, none⟩ = some (.int .u32 s) := by simp [Lib.cell_of_heap bM4]
              have m1 : W4.cell? ⟨W3.heap.size, 1, none⟩ = some (.int .u32 g) := by simp [Lib.cell_of_heap bM4]
              have HM4 := hide bM4
              have HO4 := hide bO4
              have HC4 := hide c4
              clear hec ep eg el hus hap hfr hs hg ht told4 bM4 bO4 bO3 c4 HPU hnb h3
              go_wp2_with (first | rw [hW4] | (go_at_call 18; fail))
              clear hW4 m0 m1
              refine HHS.out.mono ?_
              rintro e W5 ⟨rfl, b5⟩
              have c5 := Ch.of_below (Q := fun _ => False) b5
              have bM5 := c5.box HM4.out (fun h => h)
              have bO5 := c5.box HO4.out (fun h => h)
              have c35 := HC4.out.trans c5 (fun _ _ h => h)
              have HT5 := hide (HB3.out.1.ch c35 (fun _ _ h => h))
              have HV5 := hide (HB3.out.2.1.ch c35 (fun _ _ h => h))
              have HK5 := hide (face.ch H3.out c35 (fun _ _ h => h))
              have HF5 := hide (And.intro (HB3.out.2.2.1.trans (c35.below HB3.out.2.2.1.size (fun _ _ h => h))) (Nat.le_trans HB3.out.2.2.2 c35.size))
              have m0 : W5.cell? ⟨W3.heap.size, 0, none⟩ = some (.int .u32 s) := by simp [Lib.cell_of_heap bM5]
              have m1 : W5.cell? ⟨W3.heap.size, 1, none⟩ = some (.int .u32 g) := by simp [Lib.cell_of_heap bM5]
              have k2 : W5.cell? ⟨wr.heap.size, 2, none⟩ = some (.int .i64 o.ar) := by simp [Lib.cell_of_heap bO5]
              have k3 : W5.cell? ⟨wr.heap.size, 3, none⟩ = some (.int .u32 o.rs) := by simp [Lib.cell_of_heap bO5]
              have k4 : W5.cell? ⟨wr.heap.size, 4, none⟩ = some (.int .u32 o.rg) := by simp [Lib.cell_of_heap bO5]
              have k5 : W5.cell? ⟨wr.heap.size, 5, none⟩ = some (.int .i64 o.rd) := by simp [Lib.cell_of_heap bO5]
              have k6 : W5.cell? ⟨wr.heap.size, 6, none⟩ = some (.int .u32 o.ws) := by simp [Lib.cell_of_heap bO5]
              have k7 : W5.cell? ⟨wr.heap.size, 7, none⟩ = some (.int .u32 o.wg) := by simp [Lib.cell_of_heap bO5]
              have k11 : W5.cell? ⟨wr.heap.size, 11, none⟩ = some (.int .i64 o.vn) := by simp [Lib.cell_of_heap bO5]
              have k12 : W5.cell? ⟨wr.heap.size, 12, none⟩ = some (.int .u32 o.vs) := by simp [Lib.cell_of_heap bO5]
              have k13 : W5.cell? ⟨wr.heap.size, 13, none⟩ = some (.int .u32 o.vg) := by simp [Lib.cell_of_heap bO5]
              obtain ⟨i0, hi0, hz0, hz1, hz2⟩ := nf_open nfRc
              obtain ⟨i1, hi1, hy1, hy2, hy3⟩ := nf_open nfInt
              have HOW := hide (World.ownsRow.alloc HT5.out (.cells #[.int .u32 s, .int .u32 g, .int .u32 o.ws, .int .u32 o.wg, .int .u32 o.rs, .int .u32 o.rg, .int .i64 o.rd, .int .i64 o.ar, .int .i64 o.vn, .int .u32 o.vs, .int .u32 o.vg] 57))
              have HN1 := hide (row_new W5 (rcF ⟨s, g, o.ws, o.wg, o.rs, o.rg, o.rd, o.ar, o.vn, o.vs, o.vg⟩) 57 rfl)
              have HON := hide (rcF_one ⟨s, g, o.ws, o.wg, o.rs, o.rg, o.rd, o.ar, o.vn, o.vs, o.vg⟩)
              have HM1 := hide (show (l.map Wt.r).length + 1 ≤ maxLen by rw [List.length_map]; unfold maxLen; omega)
              have HM2 := hide (show ((l.map Wt.r).length + 1) * 56 ≤ 140737488355328 by rw [List.length_map]; omega)
              have HM3 := hide (show w1.heap.size ≤ (W5.alloc (.cells #[.int .u32 s, .int .u32 g, .int .u32 o.ws, .int .u32 o.wg, .int .u32 o.rs, .int .u32 o.rg, .int .i64 o.rd, .int .i64 o.ar, .int .i64 o.vn, .int .u32 o.vs, .int .u32 o.vg] 57)).heap.size by have := HF5.out.2; simp; omega)
              clear bM5 bO5 c35 c5 b5 HHS HM4 HO4 HC4 HB3 H3
              go_wp2_with (at_builtin; refine wpList_append_own_at _ rfl _ _ 28 rfl w1.heap.size 57 i0 (rcV zRc) 11 56 Try.underlying28 hi0 hz0 hz1 hz2 rfl (by decide) _ (l.map Wt.r).length ((l.map Wt.r).flatMap rcF) rfl HOW.out ⟨W5.heap.size, 0, none⟩ 1 1 (rcF ⟨s, g, o.ws, o.wg, o.rs, o.rg, o.rd, o.ar, o.vn, o.vs, o.vg⟩) rfl rfl HN1.out HON.out HM1.out HM2.out HM3.out ?_)
              intro v' W6 hown' hgrow _ hat
              have hO6 : RcRow W6 w1.heap.size v' (l.map Wt.r ++ [⟨s, g, o.ws, o.wg, o.rs, o.rg, o.rd, o.ar, o.vn, o.vs, o.vg⟩]) := Row.snoc (by rw [List.length_map]; exact hown')
              have c6 : Ch (fun x => (Value.slice ta l.length tc).ownBlock = some x) W5 W6 := (Ch.alloc _ _).trans (Ch.of_grown (Q := fun x => (Value.slice ta l.length tc).ownBlock = some x) hgrow (fun _ e => e)) (fun _ _ h => h)
              obtain ⟨ta', tc', e6, -, -⟩ := hO6.form
              rw [List.length_append, List.length_map, List.length_singleton] at e6
              subst e6
              have HO6 := hide hO6
              have HV6 := hide (HV5.out.ch c6 (fun g hg e => own_ne HT5.out HV5.out (by decide) g e hg))
              have HK6 := hide (face.ch HK5.out c6 (fun x hx e => by obtain ⟨_, _, cur, hc⟩ := own_in HT5.out e; exact HK5.out.nbox hc (by decide) (by decide) hx))
              have HF6 := hide (And.intro (HF5.out.1.trans (c6.below HF5.out.1.size (fun x hx e => by have := (own_in HT5.out e).1; have := HSW.out.lo; omega))) (Nat.le_trans HF5.out.2 c6.size))
              have HOW2 := hide (World.ownsRow.alloc HV6.out (.cells #[.int .i64 0] 3))
              have HN2 := hide (row_new W6 (ovF false) 3 rfl)
              have HON2 := hide (show ∀ u ∈ ovF false, u.oneCell' = true by simp [ovF, Value.oneCell'])
              have HM4 := hide (show (l.map Wt.o).length + 1 ≤ maxLen by rw [List.length_map]; unfold maxLen; omega)
              have HM5 := hide (show ((l.map Wt.o).length + 1) * 8 ≤ 140737488355328 by rw [List.length_map]; omega)
              have HM6 := hide (show w1.heap.size ≤ (W6.alloc (.cells #[.int .i64 0] 3)).heap.size by have := HF6.out.2; simp; omega)
              clear hO6 c6 hown' hgrow hat m0 m1 k2 k3 k4 k5 k6 k7 k11 k12 k13 HOW HN1 HON HM1 HM2 HM3 HK5 HF5
              go_wp2_with (at_builtin; refine wpList_append_own_at _ rfl _ _ 29 rfl w1.heap.size 3 i1 (.int .i64 0) 1 8 Try.underlying29 hi1 hy1 hy2 hy3 rfl (by decide) _ (l.map Wt.o).length ((l.map Wt.o).flatMap ovF) rfl HOW2.out ⟨W6.heap.size, 0, none⟩ 1 1 (ovF false) rfl rfl HN2.out HON2.out HM4.out HM5.out HM6.out ?_)
              intro v2 W7 hown2 hgrow2 _ hat2
              have hO7 : OvRow W7 w1.heap.size v2 (l.map Wt.o ++ [false]) := Row.snoc (by rw [List.length_map]; exact hown2)
              have c7 : Ch (fun x => (Value.slice oa l.length oc).ownBlock = some x) W6 W7 := (Ch.alloc _ _).trans (Ch.of_grown (Q := fun x => (Value.slice oa l.length oc).ownBlock = some x) hgrow2 (fun _ e => e)) (fun _ _ h => h)
              obtain ⟨oa', oc', e7, -, -⟩ := hO7.form
              rw [List.length_append, List.length_map, List.length_singleton] at e7
              subst e7
              have HS7 := hide (show Sd w w1.heap.size F3 p (.slice ta' (l.length + 1) tc') (.slice oa' (l.length + 1) oc') (l ++ [⟨t, false⟩]) W7 from ⟨face.ch HK6.out c7 (fun x hx e => by obtain ⟨_, _, cur, hc⟩ := own_in HV6.out e; exact HK6.out.nbox hc (by decide) (by decide) hx), by rw [List.map_append, HT.out]; exact HO6.out.ch c7 (fun g hg e => own_ne HO6.out HV6.out (by decide) g hg e), by rw [List.map_append]; exact hO7, HF6.out.1.trans (c7.below HF6.out.1.size (fun x hx e => by have := (own_in HV6.out e).1; have := HSW.out.lo; omega)), HSW.out.lo, Nat.le_trans HF6.out.2 c7.size, HAP.out, fun u hu => by
                rcases List.mem_append.1 hu with hu | hu
                · exact HSW.out.fit u hu
                · rw [List.mem_singleton.1 hu, HT.out]
                  exact ⟨HUS.out.1, HUS.out.2, HFT.out.ws, HFT.out.wg, HFT.out.rs, HFT.out.rg, HFT.out.rd⟩⟩)
              clear hO7 c7 hown2 hgrow2 hat2 HOW2 HN2 HON2 HM4 HM5 HM6 HK6 HF6 HO6 HV6 HT5 HV5 HSW
              go_wp2_with fail
              go_roundw
              case rel => exact ⟨i + 1, _, F3, by go_num, by omega, by omega, by rw [List.length_append, List.length_singleton]; omega, HS7⟩
              case measure => simp [intOf]; omega
            · have en : putW l o.rs o.rg o.rd o.ws o.wg o.ar o.vn o.vs o.vg = l := if_neg hec
              rw [en] at H3
              obtain ⟨ec, hecv⟩ : ∃ ec, ecW l o.ws o.wg o.rd o.ar = ec := ⟨_, rfl⟩
              rw [hecv] at hec ⊢
              have qe : (ec == 0) = false := by simpa using hec
              have HS4 := hide (show Sd w w1.heap.size F3 p (.slice ta l.length tc) (.slice oa l.length oc) l W4 from ⟨face.ch H3.out c4 (fun _ _ h => h), HB3.out.1.ch c4 (fun _ _ h => h), HB3.out.2.1.ch c4 (fun _ _ h => h), HB3.out.2.2.1.trans (c4.below HB3.out.2.2.1.size (fun _ _ h => h)), HSW.out.lo, Nat.le_trans HB3.out.2.2.2 c4.size, HSW.out.apt, HSW.out.fit⟩)
              clear en hecv hec c4 bM4 bO4 bO3 HB3 H3 HPU hnb h3 HSW HO HFT
              generalize psW l o.ws o.wg o.rd o.ar = ps at hW4 ⊢
              generalize pgW l o.ws o.wg o.rd o.ar = pg at hW4 ⊢
              go_wp2_with (rw [hW4])
              go_roundw
              case rel => exact ⟨i + 1, l, F3, by go_num, by omega, by omega, by omega, HS4⟩
              case measure => simp [intOf]; omega
      · have q2 : decide ((i : Int) < 600) = false := decide_eq_false (by omega)
        go_wp2_with fail
        exact HR.out _ _ _ _ _ _ _ _ _ _ _ _ _ _ _ _ _ _ _ _ _ _ _ _ _ _ _ _ _ _ _ _ _ _ _ _ _ _ _ _ _ _ _ _ _ _ _ _ _ _ _ _ _ _ _ _ _ _ _ _ _ _ _ _ _ _ _ _ _ _ _ _ _ _ _ _ _ _ _ _ _ _ _ _ _ _ _ _ _ _ _ _ _ _ _ _ _ _ _ _ _ _ _ _ _ _ _ _ _ _ _ _ _ _ _ _ _ _ _ _ _ _ _ _ _ _ _ _ _ _ _ _ _ _ _ _ _ _ _ _ _ _ _ _ _ _ _ _ _ _ _ _ _ _ _ _ _ _ _ _ _ _ _ _ _ _ _ _ _ _ _ _ _ _ _ _ _ _ _ _ _ _ _ _ _ _ _ _ _ _ _ _ _ _ _ _ _ _ _ _ _ _ _ _ _ _ _ _ _ _ _ _ _ _ _ _ _ _ _ _ _ _ _ _ _ _ _ _ _ _ _ _ _ _ _ _ _ _ _ _ _ _ _ _ _ _ _ _ _ _ _ _ _ _ _ _ _ _ _ _ _ _ _ _ _ _ _ _ _ _ _ _ _ _ _ _ _ _ _ _ _ _ _ _ _ _ _ _ _ _ _ _ _ _ _ _ _ _ _ _ _ _ _ _ _ _ _ _ (by omega) HS.out
    · have q1 : decide ((i : Int) < (sc.length : Int)) = false := decide_eq_false (by omega)
      go_wp2_with fail
      exact HR.out _ _ _ _ _ _ _ _ _ _ _ _ _ _ _ _ _ _ _ _ _ _ _ _ _ _ _ _ _ _ _ _ _ _ _ _ _ _ _ _ _ _ _ _ _ _ _ _ _ _ _ _ _ _ _ _ _ _ _ _ _ _ _ _ _ _ _ _ _ _ _ _ _ _ _ _ _ _ _ _ _ _ _ _ _ _ _ _ _ _ _ _ _ _ _ _ _ _ _ _ _ _ _ _ _ _ _ _ _ _ _ _ _ _ _ _ _ _ _ _ _ _ _ _ _ _ _ _ _ _ _ _ _ _ _ _ _ _ _ _ _ _ _ _ _ _ _ _ _ _ _ _ _ _ _ _ _ _ _ _ _ _ _ _ _ _ _ _ _ _ _ _ _ _ _ _ _ _ _ _ _ _ _ _ _ _ _ _ _ _ _ _ _ _ _ _ _ _ _ _ _ _ _ _ _ _ _ _ _ _ _ _ _ _ _ _ _ _ _ _ _ _ _ _ _ _ _ _ _ _ _ _ _ _ _ _ _ _ _ _ _ _ _ _ _ _ _ _ _ _ _ _ _ _ _ _ _ _ _ _ _ _ _ _ _ _ _ _ _ _ _ _ _ _ _ _ _ _ _ _ _ _ _ _ _ _ _ _ _ _ _ _ _ _ _ _ _ _ _ _ _ _ _ _ _ _ _ _ (by omega) HS.out

end Go.Proofs.Ythnnpipekeanoaa

namespace Go.Proofs.Ythnnpipekeanoaa
open Go.RowKit

set_option maxRecDepth 100000 in
set_option maxHeartbeats 16000000 in
theorem stands_second {u0 u1 u2 u3 u7 u8 u9 u10 u11 u12 u13 u14 u15 u16 u17 u18 u19 u20 u21 u22 u23 u24 u25 u26 u27 u28 u29 u30 u31 u32 u33 u34 u35 u36 u37 u38 u39 u40 u41 u42 u43 u44 u45 u46 u47 u48 u49 u50 u51 u52 u53 u54 u55 u56 u57 u58 u59 u60 u61 u62 u63 u64 u65 u66 u67 u68 u69 u70 u71 u72 u73 u74 u75 u76 u77 u78 u79 u80 u81 u82 u83 u84 u85 u86 u87 u88 u89 u90 u91 u92 u93 u94 u95 u96 u97 u98 u99 u100 u101 u102 u103 u104 u105 u106 u107 u108 u109 u110 u111 u112 u113 u114 u115 u116 u117 u118 u119 u120 u121 u122 u123 u124 u125 u126 u127 u128 u129 u130 u131 u132 u133 u134 u135 u136 u137 u138 u139 u140 u141 u142 u143 u144 u145 u146 u147 u148 u149 u150 u151 u152 u153 u154 u155 u156 u157 u158 u159 u160 u161 u162 u163 u164 u165 u166 u167 u168 u169 u170 u171 u172 u173 u174 u175 u176 u177 u178 u179 u180 u181 u182 u183 u184 u185 u186 u187 u188 u189 u190 u191 u192 u193 u194 u195 u196 u197 u198 u199 u200 u201 u202 u203 u204 u205 u206 u207 u208 u209 u210 u211 u212 u213 u214 u215 u216 u217 u218 u219 u220 u221 u222 u223 u224 u225 u226 u227 u228 u229 u230 u231 u232 u233 u234 u235 u236 u237 u238 u239 u240 u241 u242 u243 u244 u245 u246 u247 u248 u249 u250 u251 u252 u253 u254 u255 u256 u257 u258 u259 u260 u261 u262 u263 u264 u265 u266 u267 u268 u269 u270 u271 u272 u273 u274 u275 u276 u277 u278 u279 u280 u281 u282 u283 u284 u285 u286 u287 u288 u289 u290 u291 u292 u293 u294 u295 u296 u297 u298 u299 u300 u301 : Value} {w W : World} {B p : Nat} {F : Nat → Prop} {l : List Wt} {ta oa : Option Addr} {tc oc : Nat} (hl6 : l.length ≤ 600) (hS : Sd w B F p (.slice ta l.length tc) (.slice oa l.length oc) l W) :
    (restN 7 (Try.f4.body.getD .skip)).wp Try.prog (bodyPost Try.prog Try.f4 fun e w' => e = .returned (.bool true) ∧ Below w.heap.size w w') { tmps := List.toArray (u0 :: u1 :: u2 :: u3 :: (.pointer (some ⟨p, 0, none⟩)) :: (.slice ta l.length tc) :: (.slice oa l.length oc) :: u7 :: u8 :: u9 :: u10 :: u11 :: u12 :: u13 :: u14 :: u15 :: u16 :: u17 :: u18 :: u19 :: u20 :: u21 :: u22 :: u23 :: u24 :: u25 :: u26 :: u27 :: u28 :: u29 :: u30 :: u31 :: u32 :: u33 :: u34 :: u35 :: u36 :: u37 :: u38 :: u39 :: u40 :: u41 :: u42 :: u43 :: u44 :: u45 :: u46 :: u47 :: u48 :: u49 :: u50 :: u51 :: u52 :: u53 :: u54 :: u55 :: u56 :: u57 :: u58 :: u59 :: u60 :: u61 :: u62 :: u63 :: u64 :: u65 :: u66 :: u67 :: u68 :: u69 :: u70 :: u71 :: u72 :: u73 :: u74 :: u75 :: u76 :: u77 :: u78 :: u79 :: u80 :: u81 :: u82 :: u83 :: u84 :: u85 :: u86 :: u87 :: u88 :: u89 :: u90 :: u91 :: u92 :: u93 :: u94 :: u95 :: u96 :: u97 :: u98 :: u99 :: u100 :: u101 :: u102 :: u103 :: u104 :: u105 :: u106 :: u107 :: u108 :: u109 :: u110 :: u111 :: u112 :: u113 :: u114 :: u115 :: u116 :: u117 :: u118 :: u119 :: u120 :: u121 :: u122 :: u123 :: u124 :: u125 :: u126 :: u127 :: u128 :: u129 :: u130 :: u131 :: u132 :: u133 :: u134 :: u135 :: u136 :: u137 :: u138 :: u139 :: u140 :: u141 :: u142 :: u143 :: u144 :: u145 :: u146 :: u147 :: u148 :: u149 :: u150 :: u151 :: u152 :: u153 :: u154 :: u155 :: u156 :: u157 :: u158 :: u159 :: u160 :: u161 :: u162 :: u163 :: u164 :: u165 :: u166 :: u167 :: u168 :: u169 :: u170 :: u171 :: u172 :: u173 :: u174 :: u175 :: u176 :: u177 :: u178 :: u179 :: u180 :: u181 :: u182 :: u183 :: u184 :: u185 :: u186 :: u187 :: u188 :: u189 :: u190 :: u191 :: u192 :: u193 :: u194 :: u195 :: u196 :: u197 :: u198 :: u199 :: u200 :: u201 :: u202 :: u203 :: u204 :: u205 :: u206 :: u207 :: u208 :: u209 :: u210 :: u211 :: u212 :: u213 :: u214 :: u215 :: u216 :: u217 :: u218 :: u219 :: u220 :: u221 :: u222 :: u223 :: u224 :: u225 :: u226 :: u227 :: u228 :: u229 :: u230 :: u231 :: u232 :: u233 :: u234 :: u235 :: u236 :: u237 :: u238 :: u239 :: u240 :: u241 :: u242 :: u243 :: u244 :: u245 :: u246 :: u247 :: u248 :: u249 :: u250 :: u251 :: u252 :: u253 :: u254 :: u255 :: u256 :: u257 :: u258 :: u259 :: u260 :: u261 :: u262 :: u263 :: u264 :: u265 :: u266 :: u267 :: u268 :: u269 :: u270 :: u271 :: u272 :: u273 :: u274 :: u275 :: u276 :: u277 :: u278 :: u279 :: u280 :: u281 :: u282 :: u283 :: u284 :: u285 :: u286 :: u287 :: u288 :: u289 :: u290 :: u291 :: u292 :: u293 :: u294 :: u295 :: u296 :: u297 :: u298 :: u299 :: u300 :: u301 :: []), defers := [] } W := by
  have HS := hide hS
  clear hS
  dsimp only [restN, Try.f4, Option.getD]
  go_wp2_with fail
  go_loopw [15] (fun kv wr => ∃ kk : Nat, kv = .int .i64 (kk : Int) ∧ kk ≤ l.length ∧ Hid (Sd w B F p (.slice ta l.length tc) (.slice oa l.length oc) l wr)) (fun kv _ => l.length - (intOf kv).toNat)
  case atStart => exact ⟨0, rfl, Nat.zero_le _, HS⟩
  case round =>
    clear HS
    obtain ⟨kk, rfl, hkk, HS⟩ := hrel
    by_cases hlt2 : kk < l.length
    · have r1 : decide ((kk : Int) < (l.length : Int)) = true := decide_eq_true (by omega)
      obtain ⟨tg, tc', og, oc', e1, e2, htg, hog, hct, hco, hne⟩ := HS.out.at hlt2
      injection e1 with e1 _ e1'
      injection e2 with e2 _ e2'
      subst e1 e1' e2 e2'
      have hl1 : l.length ≤ 100000 := by omega
      have hq0 : (kk : Int) < (l.length : Int) := by omega
      have eK : IntKind.i64.wrap ((kk : Int) + 1) = (kk : Int) + 1 := by rw [IntKind.wrap_i64]; omega
      have zo := hco kk hlt2
      have hft := HS.out.fit _ (List.getElem_mem hlt2)
      have HFN := hide (cut_marks HS.out.apt hlt2).2
      have HGT := hide (HS.out.apt.got hlt2)
      have HHA := hide (fun q => HS.out.apt.has hlt2 q)
      have HCT := hide (hct kk hlt2)
      have HTL := hide hct
      have HOV := hide hco
      have HKT := hide (show ∀ V, Ch (fun _ => False) wr V → (∀ j u, (rcF l[kk].r)[j]? = some u → V.cell? ⟨tg, kk * 11 + j, none⟩ = some u) from fun V hc j u hu => (hc.cell htg (fun h => h) _).trans (hct kk hlt2 j u hu))
      obtain ⟨t, ht⟩ : ∃ t, l[kk] = t := ⟨_, rfl⟩
      rw [ht] at zo hft HFN HGT HHA HCT HKT
      have HTT := hide ht
      clear hct hco ht
      obtain ⟨ovv, hov⟩ : ∃ ovv : Int, (if t.o then 1 else 0) = ovv := ⟨_, rfl⟩
      obtain ⟨ec, hec⟩ : ∃ ec, ecB (!t.o) 111 = ec := ⟨_, rfl⟩
      have hovb : 0 ≤ ovv ∧ ovv ≤ 1 := by rw [← hov]; split <;> omega
      have eW : IntKind.i64.wrap (1 - ovv) = 1 - ovv := by rw [IntKind.wrap_i64]; omega
      rw [hov] at zo
      have HOO := hide (And.intro hov hec)
      clear hov hec hovb
      have z0 : wr.cell? ⟨tg, kk * 11, none⟩ = _ := HCT.out 0 (.int .u32 t.r.ms) rfl
      have z1 := HCT.out 1 (.int .u32 t.r.mg) rfl
      have HGE := hide (face.get t.r.ms t.r.mg hft.ms hft.mg HS.out.bk hl1)
      rw [HFN.out] at HGE
      go_wp2_with (go_at_call 19; fail)
      clear z0 z1
      refine HGE.out.mono ?_
      rintro e W2 ⟨rfl, b2⟩
      clear HGE
      rw [HOO.out.2]
      obtain ⟨xr, hxr⟩ : ∃ xr, gtW l t.r.ms t.r.mg = xr := ⟨_, rfl⟩
      have HXR := hide hxr
      rw [hxr]
      clear hxr
      obtain ⟨W3, hW3⟩ : ∃ W3, W2.alloc (.cells #[.int .u32 xr.ms, .int .u32 xr.mg, .int .u32 xr.ws, .int .u32 xr.wg, .int .u32 xr.rs, .int .u32 xr.rg, .int .i64 xr.rd, .int .i64 xr.ar, .int .i64 xr.vn, .int .u32 xr.vs, .int .u32 xr.vg] 57) = W3 := ⟨_, rfl⟩
      have c3 : Ch (fun _ => False) W2 W3 := by rw [← hW3]; exact Ch.alloc _ _
      have bX3 : W3.heap[W2.heap.size]? = some (.cells #[.int .u32 xr.ms, .int .u32 xr.mg, .int .u32 xr.ws, .int .u32 xr.wg, .int .u32 xr.rs, .int .u32 xr.rg, .int .i64 xr.rd, .int .i64 xr.ar, .int .i64 xr.vn, .int .u32 xr.vs, .int .u32 xr.vg] 57 (0, 0)) := by rw [← hW3]; exact heap_new _ _
      have HC3 := hide ((Ch.of_below (Q := fun _ => False) b2).trans c3 (fun _ _ h => h))
      have z4 : W3.cell? ⟨tg, kk * 11 + 4, none⟩ = some (.int .u32 t.r.rs) := HKT.out _ HC3.out 4 _ rfl
      have z5 : W3.cell? ⟨tg, kk * 11 + 5, none⟩ = some (.int .u32 t.r.rg) := HKT.out _ HC3.out 5 _ rfl
      have z6 : W3.cell? ⟨tg, kk * 11 + 6, none⟩ = some (.int .i64 t.r.rd) := HKT.out _ HC3.out 6 _ rfl
      have HS3 := hide (HS.out.quiet HC3.out)
      have HBX := hide bX3
      have HRW := hide (face.row t.r.rs t.r.rg t.r.rd hft.rs hft.rg hft.rd HS3.out.bk hl1)
      clear b2 c3 bX3
      go_wp2_with (first | rw [hW3] | (go_at_call 20; fail))
      clear hW3 z4 z5 z6
      refine HRW.out.mono ?_
      rintro e W4 ⟨rv, rfl, hr4, b4⟩
      clear HRW
      obtain ⟨ra, rc, hrv, -, -⟩ := hr4.form
      subst hrv
      have HC4 := hide (Ch.of_below (Q := fun _ => False) b4)
      have HR4 := hide hr4
      have z2 : W4.cell? ⟨tg, kk * 11 + 2, none⟩ = some (.int .u32 t.r.ws) := HKT.out _ (HC3.out.trans HC4.out (fun _ _ h => h)) 2 _ rfl
      have z3 : W4.cell? ⟨tg, kk * 11 + 3, none⟩ = some (.int .u32 t.r.wg) := HKT.out _ (HC3.out.trans HC4.out (fun _ _ h => h)) 3 _ rfl
      have HS4 := hide (HS3.out.quiet HC4.out)
      have HOF := hide (face.of t.r.ws t.r.wg hft.ws hft.wg HS4.out.bk hl1)
      clear hr4 b4 HS3
      go_wp2_with (go_at_call 21; fail)
      clear z2 z3
      refine HOF.out.mono ?_
      rintro e W5 ⟨wv, rfl, hw5, b5⟩
      clear HOF
      have HC5 := hide (Ch.of_below (Q := fun _ => False) b5)
      have HW5 := hide hw5
      have HS5 := hide (HS4.out.quiet HC5.out)
      clear hw5 b5 HS4
      go_wp2_with fail
      refine wp_anyH (r42 (w0 := w) (ov := .slice (some ⟨og, 0, none⟩) l.length oc) (t := t) HS5.out hl1 hlt2 (HKT.out _ ((HC3.out.trans HC4.out (fun _ _ h => h)).trans HC5.out (fun _ _ h => h))) (by have := HC3.out.size; have := HC4.out.size; have := HC5.out.size; omega) ((HC4.out.trans HC5.out (fun _ _ h => h)).box HBX.out (fun h => h)) (HR4.out.ch HC5.out (fun _ _ h => h)) HW5.out (Nat.le_trans (sel_le _ _) hl1) (Nat.le_trans (sel_le _ _) hl1) (by rw [HOO.out.1]) HOO.out.2.symm (fun h => by rw [← HXR.out]; exact HGT.out h) (hasq HHA.out (inRow_self t) HOO.out.1) (hasq HHA.out (isWho_self t) HOO.out.1) (hasq HHA.out (isNow_self t) HOO.out.1) ?_)
      intro v181 v182 v183 v184 v185 v186 v187 v188 v189 v190 v191 v192 v193 v194 v195 v196 v197 v198 v199 v200 v201 v202 v203 v204 v205 v206 v207 v208 v209 v210 v211 v212 v213 v214 v215 v216 v217 v218 v219 v220 v221 v222 v223 v224 v225 v226 v227 v228 v229 v230 W6 hc6
      have HC6 := hide (((HC3.out.trans HC4.out (fun _ _ h => h)).trans HC5.out (fun _ _ h => h)).trans hc6 (fun _ _ h => h))
      have HS6 := hide (HS5.out.quiet hc6)
      have HR6 := hide ((HR4.out.ch HC5.out (fun _ _ h => h)).ch hc6 (fun _ _ h => h))
      obtain ⟨S, hS⟩ : ∃ S, sel (inRow t.r.rs t.r.rg t.r.rd) l = S := ⟨_, rfl⟩
      have HFI := hide (face.first t.r.rs t.r.rg t.r.rd hft.rs hft.rg hft.rd HS6.out.bk hl1)
      obtain ⟨fr, hfr⟩ : ∃ fr, S.headD zRc = fr := ⟨_, rfl⟩
      obtain ⟨be, hbe⟩ : ∃ be, (!S.isEmpty) = be := ⟨_, rfl⟩
      rw [hS] at HFI HR6 ⊢
      rw [hfr, hbe] at HFI
      have HSQ := hide (And.intro hS (And.intro hfr hbe))
      have z4 : W6.cell? ⟨tg, kk * 11 + 4, none⟩ = some (.int .u32 t.r.rs) := HKT.out _ HC6.out 4 _ rfl
      have z5 : W6.cell? ⟨tg, kk * 11 + 5, none⟩ = some (.int .u32 t.r.rg) := HKT.out _ HC6.out 5 _ rfl
      have z6 : W6.cell? ⟨tg, kk * 11 + 6, none⟩ = some (.int .i64 t.r.rd) := HKT.out _ HC6.out 6 _ rfl
      have HSL := hide (show S.length ≤ 100000 by rw [← hS]; exact Nat.le_trans (sel_le _ _) hl1)
      clear hS hfr hbe hc6 HC3 HC4 HC5 HS5 HR4 HW5 HBX HXR HGT HFN HHA zo
      go_wp2_with (go_at_call 22; fail)
      clear z4 z5 z6
      refine HFI.out.mono ?_
      rintro e W7 ⟨rfl, b7⟩
      clear HFI
      obtain ⟨W8, hW8⟩ : ∃ W8, W7.alloc (.cells #[.int .u32 fr.ms, .int .u32 fr.mg, .int .u32 fr.ws, .int .u32 fr.wg, .int .u32 fr.rs, .int .u32 fr.rg, .int .i64 fr.rd, .int .i64 fr.ar, .int .i64 fr.vn, .int .u32 fr.vs, .int .u32 fr.vg] 57) = W8 := ⟨_, rfl⟩
      have c8 : Ch (fun _ => False) W7 W8 := by rw [← hW8]; exact Ch.alloc _ _
      have bF8 : W8.heap[W7.heap.size]? = some (.cells #[.int .u32 fr.ms, .int .u32 fr.mg, .int .u32 fr.ws, .int .u32 fr.wg, .int .u32 fr.rs, .int .u32 fr.rg, .int .i64 fr.rd, .int .i64 fr.ar, .int .i64 fr.vn, .int .u32 fr.vs, .int .u32 fr.vg] 57 (0, 0)) := by rw [← hW8]; exact heap_new _ _
      have c68 := (Ch.of_below (Q := fun _ => False) b7).trans c8 (fun _ _ h => h)
      have HC8 := hide (HC6.out.trans c68 (fun _ _ h => h))
      have HS8 := hide (HS6.out.quiet c68)
      have HR8 := hide (HR6.out.ch c68 (fun _ _ h => h))
      have HBF := hide bF8
      clear b7 c8 bF8 c68 HC6 HS6 HR6
      go_wp2_with (rw [hW8])
      clear hW8
      have hbe := HSQ.out.2.2
      subst hbe
      refine wp_anyH (r45 (S := S) (X := W7.heap.size) HR8.out (by rw [HSQ.out.2.1]; exact HBF.out) ?_)
      intro v242 v243 v244 v245 v246 v247 v248 v249 v250 v251 v252 v253 v254 v255 W9 hc9
      have HC9 := hide (HC8.out.trans hc9 (fun _ _ h => h))
      have HS9 := hide (HS8.out.quiet hc9)
      have HR9 := hide (HR8.out.ch hc9 (fun _ _ h => h))
      clear hc9 HC8 HS8 HR8 HBF
      go_wp2_with fail
      obtain ⟨wt, rfl⟩ : ∃ x, x = wr := ⟨_, rfl⟩
      go_loopw [23, 24] (fun av jv wr => ∃ j : Nat, jv = .int .i64 (j : Int) ∧ j ≤ l.length ∧ av = .int .i64 ((sel (inRow t.r.rs t.r.rg t.r.rd) (l.take j)).length : Int) ∧ Hid (Ch (fun _ => False) W9 wr)) (fun _ jv _ => l.length - (intOf jv).toNat)
      case atStart => exact ⟨0, rfl, Nat.zero_le _, rfl, hide (Ch.refl _ _)⟩
      case round =>
        obtain ⟨j, rfl, hj, rfl, HCJ⟩ := hrel
        by_cases hjl : j < l.length
        · have r2 : decide ((j : Int) < (l.length : Int)) = true := decide_eq_true (by omega)
          have cJ := HC9.out.trans HCJ.out (fun _ _ h => h)
          have HZZ := hide (fun m u hu => (cJ.cell htg (fun h => h) (j * 11 + m)).trans (HTL.out j hjl m u hu))
          have zo := (cJ.cell hog (fun h => h) j).trans (HOV.out j hjl)
          have HNX := hide (sel_next (inRow t.r.rs t.r.rg t.r.rd) hjl)
          have HAT := hide (sel_at (inRow t.r.rs t.r.rg t.r.rd) hjl)
          have hsz := cJ.size
          have y4 : wr.cell? ⟨tg, kk * 11 + 4, none⟩ = some (.int .u32 t.r.rs) := HKT.out _ cJ 4 _ rfl
          have y5 : wr.cell? ⟨tg, kk * 11 + 5, none⟩ = some (.int .u32 t.r.rg) := HKT.out _ cJ 5 _ rfl
          have y6 : wr.cell? ⟨tg, kk * 11 + 6, none⟩ = some (.int .i64 t.r.rd) := HKT.out _ cJ 6 _ rfl
          have HYY := hide (And.intro y4 (And.intro y5 y6))
          have HZO := hide zo
          have eJ : IntKind.i64.wrap ((j : Int) + 1) = (j : Int) + 1 := by rw [IntKind.wrap_i64]; omega
          rw [HSQ.out.1] at HAT
          generalize l[j] = tj at HZZ HZO HNX HAT
          have hln := sel_le (inRow t.r.rs t.r.rg t.r.rd) (l.take j)
          rw [List.length_take] at hln
          generalize hsj : (sel (inRow t.r.rs t.r.rg t.r.rd) (l.take j)).length = sj at HAT hln
          have HSJ := hide hsj
          have eA : IntKind.i64.wrap ((sj : Int) + 1) = (sj : Int) + 1 := by rw [IntKind.wrap_i64]; omega
          clear zo y4 y5 y6 cJ hsj
          go_wp2_with fail
          refine wp_anyH (r51 (t := tj) (rs := t.r.rs) (rg := t.r.rg) (rd := t.r.rd) (by omega) (by omega) hjl hlt2 HZO.out (HZZ.out 4 _ rfl) (HZZ.out 5 _ rfl) (HZZ.out 6 _ rfl) HYY.out.1 HYY.out.2.1 HYY.out.2.2 ?_)
          intro v263 v264 v265 v266 v267 v268 v269 v270 v271 v272 v273 v274 v275 v276 v277 v278 v279 W10 hc10
          have HC10 := hide hc10
          have HCJ2 := hide (HCJ.out.trans hc10 (fun _ _ h => h))
          clear hc10
          cases hq : inRow t.r.rs t.r.rg t.r.rd tj with
          | true =>
            obtain ⟨ha, hat⟩ := HAT.out hq
            rw [hq, if_pos rfl] at HNX
            have HR10 := hide (HR9.out.ch HCJ2.out (fun _ _ h => h))
            obtain ⟨rg, rcc, cur, er, -, -, -, -, -, hrc⟩ := HR10.out.at rcF_len (by omega)
            injection er with er _ er'
            subst er er'
            have HRC := hide (hrc sj ha)
            rw [hat] at HRC
            have HZ10 := hide (fun m u hu => (HC10.out.cell (by omega : tg < wr.heap.size) (fun h => h) (j * 11 + m)).trans (HZZ.out m u hu))
            clear hrc hat HAT
            go_wp2_with fail
            refine wp_anyH (r52 (r := tj.r) hjl ha (HZ10.out 0 (.int .u32 tj.r.ms) rfl) (HZ10.out 1 (.int .u32 tj.r.mg) rfl) (HZ10.out 2 (.int .u32 tj.r.ws) rfl) (HZ10.out 3 (.int .u32 tj.r.wg) rfl) (HZ10.out 4 (.int .u32 tj.r.rs) rfl) (HZ10.out 5 (.int .u32 tj.r.rg) rfl) (HZ10.out 6 (.int .i64 tj.r.rd) rfl) (HZ10.out 7 (.int .i64 tj.r.ar) rfl) (HZ10.out 8 (.int .i64 tj.r.vn) rfl) (HZ10.out 9 (.int .u32 tj.r.vs) rfl) (HZ10.out 10 (.int .u32 tj.r.vg) rfl) (HRC.out 0 (.int .u32 tj.r.ms) rfl) (HRC.out 1 (.int .u32 tj.r.mg) rfl) (HRC.out 2 (.int .u32 tj.r.ws) rfl) (HRC.out 3 (.int .u32 tj.r.wg) rfl) (HRC.out 4 (.int .u32 tj.r.rs) rfl) (HRC.out 5 (.int .u32 tj.r.rg) rfl) (HRC.out 6 (.int .i64 tj.r.rd) rfl) (HRC.out 7 (.int .i64 tj.r.ar) rfl) (HRC.out 8 (.int .i64 tj.r.vn) rfl) (HRC.out 9 (.int .u32 tj.r.vs) rfl) (HRC.out 10 (.int .u32 tj.r.vg) rfl) ?_)
            intro v281 v282 v283 v284 v285 v286 v287 v288 v289 v290 v291 v292 v293 v294 W11 hc11
            have HCJ3 := hide (HCJ2.out.trans hc11 (fun _ _ h => h))
            clear hc11
            go_wp2_with fail
            go_roundw
            case rel => exact ⟨j + 1, by go_num, by omega, by rw [HNX.out, List.length_append, List.length_singleton, HSJ.out]; go_num, HCJ3⟩
            case measure => simp [intOf]; omega
          | false =>
            rw [hq, if_neg (by decide)] at HNX
            go_wp2_with fail
            go_roundw
            case rel => exact ⟨j + 1, by go_num, by omega, by rw [HNX.out, HSJ.out], HCJ2⟩
            case measure => simp [intOf]; omega
        · have r2 : decide ((j : Int) < (l.length : Int)) = false := decide_eq_false (by omega)
          obtain rfl : j = l.length := by omega
          have HSE := hide (HS9.out.quiet HCJ.out)
          rw [List.take_length, HSQ.out.1]
          go_wp2_with fail
          go_roundw
          case rel => exact ⟨kk + 1, by go_num, by omega, HSE⟩
          case measure => simp [intOf]; omega
    · have r1 : decide ((kk : Int) < (l.length : Int)) = false := decide_eq_false (by omega)
      go_wp2_with fail
      go_ret
      exact ⟨rfl, HS.out.fr⟩

end Go.Proofs.Ythnnpipekeanoaa

namespace Go.Proofs.Ythnnpipekeanoaa
open Go.RowKit

set_option maxRecDepth 100000 in
set_option maxHeartbeats 4000000 in
theorem stands_is (w : World) {sc : List Oq} {sa : Option Addr} {sk b0 o0 : Nat} (hlm : sc.length ≤ 9223372036854775807) (hA : 0 < sc.length → sa = some ⟨b0, o0, none⟩ ∧ b0 < w.heap.size) (hat : ∀ i (h : i < sc.length), OpAt w b0 (o0 + i * 14) sc[i]) :
    Calls Try.prog 4 #[.slice sa sc.length sk] w fun e w' => e = .returned (.bool true) ∧ Below w.heap.size w w' := by
  go_enter Try.func4, Try.ntmps4
  refine (stands_first (REST := restN 7 (Try.f4.body.getD .skip)) w hlm hA hat ?_ : (tailN 7 (Try.f4.body.getD .skip) (restN 7 (Try.f4.body.getD .skip))).wp _ _ _ _)
  intro B p F l ta oa tc oc W u0 u1 u2 u3 u7 u8 u9 u10 u11 u12 u13 u14 u15 u16 u17 u18 u19 u20 u21 u22 u23 u24 u25 u26 u27 u28 u29 u30 u31 u32 u33 u34 u35 u36 u37 u38 u39 u40 u41 u42 u43 u44 u45 u46 u47 u48 u49 u50 u51 u52 u53 u54 u55 u56 u57 u58 u59 u60 u61 u62 u63 u64 u65 u66 u67 u68 u69 u70 u71 u72 u73 u74 u75 u76 u77 u78 u79 u80 u81 u82 u83 u84 u85 u86 u87 u88 u89 u90 u91 u92 u93 u94 u95 u96 u97 u98 u99 u100 u101 u102 u103 u104 u105 u106 u107 u108 u109 u110 u111 u112 u113 u114 u115 u116 u117 u118 u119 u120 u121 u122 u123 u124 u125 u126 u127 u128 u129 u130 u131 u132 u133 u134 u135 u136 u137 u138 u139 u140 u141 u142 u143 u144 u145 u146 u147 u148 u149 u150 u151 u152 u153 u154 u155 u156 u157 u158 u159 u160 u161 u162 u163 u164 u165 u166 u167 u168 u169 u170 u171 u172 u173 u174 u175 u176 u177 u178 u179 u180 u181 u182 u183 u184 u185 u186 u187 u188 u189 u190 u191 u192 u193 u194 u195 u196 u197 u198 u199 u200 u201 u202 u203 u204 u205 u206 u207 u208 u209 u210 u211 u212 u213 u214 u215 u216 u217 u218 u219 u220 u221 u222 u223 u224 u225 u226 u227 u228 u229 u230 u231 u232 u233 u234 u235 u236 u237 u238 u239 u240 u241 u242 u243 u244 u245 u246 u247 u248 u249 u250 u251 u252 u253 u254 u255 u256 u257 u258 u259 u260 u261 u262 u263 u264 u265 u266 u267 u268 u269 u270 u271 u272 u273 u274 u275 u276 u277 u278 u279 u280 u281 u282 u283 u284 u285 u286 u287 u288 u289 u290 u291 u292 u293 u294 u295 u296 u297 u298 u299 u300 u301 hl6 hS
  exact stands_second hl6 hS

end Go.Proofs.Ythnnpipekeanoaa

namespace Go.Proofs.Ythnnpipekeanoaa
open Go.ChangeShapes Go.WideShapes Go.ChangeAt Go.RowKit Go.Deep

theorem own_knob : ownKnob Try.prog.godebug = none := by kernel_rfl
theorem laid_out : laidOutB Try.prog = true := by kernel_rfl
theorem i64_of_wf {n : Int} (h : (Lit.int .i64 n).wf = true) : -9223372036854775808 ≤ n ∧ n ≤ 9223372036854775807 := by
  rw [show (Lit.int .i64 n).wf = (decide (-9223372036854775808 ≤ n) && decide (n ≤ 9223372036854775807)) from rfl, Bool.and_eq_true, decide_eq_true_eq, decide_eq_true_eq] at h
  exact h

theorem u32_of_wf {n : Int} (h : (Lit.int .u32 n).wf = true) : UsW n := by
  rw [show (Lit.int .u32 n).wf = (decide (0 ≤ n) && decide (n ≤ 4294967295)) from rfl, Bool.and_eq_true, decide_eq_true_eq, decide_eq_true_eq] at h
  exact h

section
variable {H : Type} {enc : TypeId × Value → H} {w : World} {base : Nat} {spare : Nat → Bool} {held : Bool} {fuel : Nat} {v : Value} {x : DataW H × List MemPlace}

theorem trod_i64 {t : TypeId} (hu : Try.prog.underlying t = some (.int .i64)) (h : DataW.trod enc Try.prog w base spare held fuel t [v] = some x) : ∃ z, v = .int .i64 z ∧ -9223372036854775808 ≤ z ∧ z ≤ 9223372036854775807 := by
  cases fuel with
  | zero => simp [DataW.trod] at h
  | succ n =>
    simp only [DataW.trod, hu] at h
    cases v <;> simp at h
    rename_i k b
    obtain ⟨⟨rfl, h2⟩, _⟩ := h
    exact ⟨b, rfl, i64_of_wf h2⟩
theorem trod_u32 {t : TypeId} (hu : Try.prog.underlying t = some (.int .u32)) (h : DataW.trod enc Try.prog w base spare held fuel t [v] = some x) : ∃ z, v = .int .u32 z ∧ UsW z := by
  cases fuel with
  | zero => simp [DataW.trod] at h
  | succ n =>
    simp only [DataW.trod, hu] at h
    cases v <;> simp at h
    rename_i k b
    obtain ⟨⟨rfl, h2⟩, _⟩ := h
    exact ⟨b, rfl, u32_of_wf h2⟩
theorem trod_bool (h : DataW.trod enc Try.prog w base spare held fuel 4 [v] = some x) : ∃ s, v = .bool s := by
  cases fuel with
  | zero => simp [DataW.trod] at h
  | succ n =>
    simp only [DataW.trod, Try.underlying4] at h
    cases v <;> simp at h
    rename_i s
    exact ⟨s, rfl⟩
end

theorem ceInt : Try.prog.cellsOf 3 = 1 := by kernel_rfl
theorem ceSide : Try.prog.cellsOf 42 = 1 := by kernel_rfl
theorem ceBool : Try.prog.cellsOf 4 = 1 := by kernel_rfl
theorem ceU32 : Try.prog.cellsOf 39 = 1 := by kernel_rfl
theorem ceHd : Try.prog.cellsOf 41 = 2 := by kernel_rfl
theorem ceRow : Try.prog.cellsOf 44 = 3 := by kernel_rfl

section
variable {H : Type} {enc : TypeId × Value → H} {W : World} {spare : Nat → Bool} {held : Bool}

set_option maxRecDepth 100000 in
theorem hd_in {n : Nat} {cs : List Value} {x : DataW H × List MemPlace} (hl : cs.length = 2) (h : DataW.trod enc Try.prog W 0 spare held n 41 cs = some x) : ∃ s g, cs = [.int .u32 s, .int .u32 g] ∧ UsW s ∧ UsW g := by
  obtain ⟨xs, k, hk, hxy, hlen, hxl, hf⟩ := DataW.trod_struct Try.underlying41 h
  match xs, hxl, cs, hl with
  | [y0, y1], _, [v0, v1], _ =>
    have g0 := hf 0 _ rfl
    have g1 := hf 1 _ rfl
    simp [ceU32] at g0 g1
    obtain ⟨z0, rfl, u0⟩ := trod_u32 Try.underlying39 g0
    obtain ⟨z1, rfl, u1⟩ := trod_u32 Try.underlying39 g1
    exact ⟨z0, z1, rfl, u0, u1⟩

set_option maxRecDepth 100000 in
theorem row_in {n : Nat} {cs : List Value} {x : DataW H × List MemPlace} (hl : cs.length = 3) (h : DataW.trod enc Try.prog W 0 spare held n 44 cs = some x) : ∃ s g d, cs = [.int .u32 s, .int .u32 g, .int .i64 d] ∧ UsW s ∧ UsW g ∧ I64 d := by
  obtain ⟨xs, k, hk, hxy, hlen, hxl, hf⟩ := DataW.trod_struct Try.underlying44 h
  match xs, hxl, cs, hl with
  | [y0, y1], _, [v0, v1, v2], _ =>
    have g0 := hf 0 _ rfl
    have g1 := hf 1 _ rfl
    simp [ceHd, ceSide] at g0 g1
    obtain ⟨s, g, e, us, ug⟩ := hd_in rfl g0
    cases e
    obtain ⟨z1, rfl, b1, b2⟩ := trod_i64 Try.underlying42 g1
    exact ⟨s, g, z1, rfl, us, ug, b1, b2⟩
end

set_option maxRecDepth 100000 in
theorem handle_in {H : Type} {enc : TypeId × Value → H} {W : World} {base : Nat} {v : Value} {d : DataW H} {ps : List MemPlace} (hv : Value.okWide Try.prog W .any base 41 v) (h : DataW.Trod enc Try.prog W 0 (fun _ => true) true 41 v d ps) : ∃ s g, v = .agg #[.int .u32 s, .int .u32 g] := by
  obtain ⟨cs, rfl, hsz⟩ := okWide_struct Try.underlying41 hv
  rw [ceHd] at hsz
  obtain ⟨n, hn⟩ := h
  obtain ⟨cl⟩ := cs
  obtain ⟨s, g, e, _, _⟩ := hd_in (cs := cl) hsz hn
  subst e
  exact ⟨s, g, rfl⟩

set_option maxRecDepth 100000 in
theorem rowv_in {H : Type} {enc : TypeId × Value → H} {W : World} {base : Nat} {v : Value} {d : DataW H} {ps : List MemPlace} (hv : Value.okWide Try.prog W .any base 44 v) (h : DataW.Trod enc Try.prog W 0 (fun _ => true) true 44 v d ps) : ∃ s g d, v = .agg #[.int .u32 s, .int .u32 g, .int .i64 d] := by
  obtain ⟨cs, rfl, hsz⟩ := okWide_struct Try.underlying44 hv
  rw [ceRow] at hsz
  obtain ⟨n, hn⟩ := h
  obtain ⟨cl⟩ := cs
  obtain ⟨s, g, d, e, _⟩ := row_in (cs := cl) hsz hn
  subst e
  exact ⟨s, g, d, rfl⟩

end Go.Proofs.Ythnnpipekeanoaa

namespace Go.Proofs.Ythnnpipekeanoaa
open Go.ChangeShapes Go.WideShapes Go.ChangeAt Go.RowKit Go.Deep

/-- a slice of n, from here on, in a block below N; a list of elements of k cells each -/
def Sq (N : Nat) (v : Value) (n b o : Nat) : Prop := ∃ a c, v = .slice a n c ∧ n ≤ c ∧ n ≤ 9223372036854775807 ∧ (0 < n → a = some ⟨b, o, none⟩ ∧ b < N)
def Lst {α : Type} (N k : Nat) (A : Nat → Nat → α → Prop) (v : Value) (l : List α) : Prop := ∃ b o, Sq N v l.length b o ∧ ∀ i (h : i < l.length), A b (o + i * k) l[i]
theorem choose_lt {α : Type} [Inhabited α] {n : Nat} {A : Nat → α → Prop} (h : ∀ i, i < n → ∃ y : α, A i y) : ∃ R : Nat → α, ∀ i, i < n → A i (R i) := by
  refine ⟨fun i => if hi : i < n then Classical.choose (h i hi) else default, fun i hi => ?_⟩
  dsimp only
  rw [dif_pos hi]
  exact Classical.choose_spec (h i hi)

set_option maxRecDepth 100000 in
theorem lst_of_trod {α : Type} [Inhabited α] {H : Type} {enc : TypeId × Value → H} {W : World} {spare : Nat → Bool} {held : Bool} {sT eT : TypeId} {K : Nat} (hK : 0 < K) (hu : Try.prog.underlying sT = some (.slice eT)) (hce : Try.prog.cellsOf eT = K) {A : Nat → Nat → α → Prop}
    (hel : ∀ n cs x, cs.length = K → DataW.trod enc Try.prog W 0 spare held n eT cs = some x → ∃ y : α, ∀ b o, (∀ j (h : j < cs.length), W.cell? ⟨b, o + j, none⟩ = some cs[j]) → A b o y) :
    ∀ n v x, DataW.trod enc Try.prog W 0 spare held n sT [v] = some x → ∃ l : List α, Lst W.heap.size K A v l := by
  intro n v x h
  rcases DataW.trod_slice hu h with ⟨e, _⟩ | ⟨a, len, cap, elems, rest, k, hk, e, _, _, hl, hc, hlen, hg, _, _⟩
  · obtain rfl : v = .slice none 0 0 := by simpa using e
    exact ⟨[], 0, 0, ⟨none, 0, rfl, Nat.le_refl _, Nat.zero_le _, fun h => absurd h (Nat.lt_irrefl _)⟩, fun i hi => absurd hi (Nat.not_lt_zero _)⟩
  · obtain rfl : v = .slice (some a) len cap := by simpa using e
    by_cases h0 : len = 0
    · subst h0
      exact ⟨[], 0, 0, ⟨some a, cap, rfl, Nat.zero_le _, Nat.zero_le _, fun h => absurd h (Nat.lt_irrefl _)⟩, fun i hi => absurd hi (Nat.not_lt_zero _)⟩
    rw [hce] at hg
    have hcs : ∀ i, i < len → ∃ cs : List Value, cs.length = K ∧ (∀ j (h : j < cs.length), W.cell? ((a.add (i * K)).add j) = some cs[j]) ∧ ∃ x, DataW.trod enc Try.prog W 0 spare held k eT cs = some x := by
      intro i hi
      have h1 := hg i hi
      rw [List.getElem?_eq_getElem (by omega)] at h1
      obtain ⟨cs, h2, h3⟩ := Option.bind_eq_some_iff.1 h1
      obtain ⟨_, hcl, hcell⟩ := World.cells?_some h2
      exact ⟨cs, hcl, fun j hj => (hcell j (by omega)).trans (List.getElem?_eq_getElem hj), _, h3⟩
    obtain ⟨b, off, spot⟩ := a
    have hspot : spot = none := by
      obtain ⟨cs, hcl, hcell, _⟩ := hcs 0 (by omega)
      have := World.cell?_spot (hcell 0 (by omega))
      simpa [Addr.add] using this
    subst hspot
    have hplain : ∀ i j, ((⟨b, off, none⟩ : Addr).add i).add j = ⟨b, off + i + j, none⟩ := by intro i j; unfold Addr.add; split <;> split <;> simp_all <;> omega
    have hb : b < W.heap.size := by
      obtain ⟨cs, hcl, hcell, _⟩ := hcs 0 (by omega)
      have c0 := hcell 0 (by omega)
      rw [hplain] at c0
      rcases Nat.lt_or_ge b W.heap.size with h1 | h1
      · exact h1
      · simp [World.cell?, Array.getElem?_eq_none h1] at c0
    have hA : ∀ i, i < len → ∃ y : α, A b (off + i * K) y := by
      intro i hi
      obtain ⟨cs, hcl, hcell, x, hx⟩ := hcs i hi
      obtain ⟨y, hy⟩ := hel k cs x hcl hx
      exact ⟨y, hy b (off + i * K) fun j hj => by have := hcell j hj; rwa [hplain] at this⟩
    obtain ⟨R, hR⟩ := choose_lt hA
    have hll : ((List.range len).map R).length = len := by simp
    have hmx : maxLen = 9223372036854775807 := rfl
    refine ⟨(List.range len).map R, b, off, ⟨some ⟨b, off, none⟩, cap, by rw [hll], by omega, by omega, fun _ => ⟨rfl, hb⟩⟩, fun i hi => ?_⟩
    rw [List.getElem_map, List.getElem_range]
    exact hR i (by omega)

def OpsAt (W : World) (v : Value) (l : List Oq) : Prop := ∃ a c b o, v = .slice a l.length c ∧ l.length ≤ c ∧ l.length ≤ 9223372036854775807 ∧ (0 < l.length → a = some ⟨b, o, none⟩ ∧ b < W.heap.size) ∧ ∀ i (h : i < l.length), OpAt W b (o + i * 14) l[i]
instance : Inhabited Oq := ⟨⟨0, 0, 0, 0, 0, 0, 0, 0, 0, 0, false, 0, 0, 0⟩⟩
theorem ceVal : Try.prog.cellsOf 46 = 3 := by kernel_rfl
theorem ceI64 : Try.prog.cellsOf 2 = 1 := by kernel_rfl
theorem ceOp : Try.prog.cellsOf 48 = 14 := by kernel_rfl

section
variable {H : Type} {enc : TypeId × Value → H} {W : World} {spare : Nat → Bool} {held : Bool}

set_option maxRecDepth 100000 in
theorem val_in {n : Nat} {cs : List Value} {x : DataW H × List MemPlace} (hl : cs.length = 3) (h : DataW.trod enc Try.prog W 0 spare held n 46 cs = some x) : ∃ d s g, cs = [.int .i64 d, .int .u32 s, .int .u32 g] ∧ I64 d ∧ UsW s ∧ UsW g := by
  obtain ⟨xs, k, hk, hxy, hlen, hxl, hf⟩ := DataW.trod_struct Try.underlying46 h
  match xs, hxl, cs, hl with
  | [y0, y1], _, [v0, v1, v2], _ =>
    have g0 := hf 0 _ rfl
    have g1 := hf 1 _ rfl
    simp [ceHd, ceI64] at g0 g1
    obtain ⟨z0, rfl, b1, b2⟩ := trod_i64 Try.underlying2 g0
    obtain ⟨s, g, e, us, ug⟩ := hd_in rfl g1
    cases e
    exact ⟨z0, s, g, rfl, ⟨b1, b2⟩, us, ug⟩

set_option maxRecDepth 100000 in
theorem oq_in {n : Nat} {cs : List Value} {x : DataW H × List MemPlace} (hl : cs.length = 14) (h : DataW.trod enc Try.prog W 0 spare held n 48 cs = some x) : ∃ y : Oq, cs = opF y ∧ y.Fit := by
  obtain ⟨xs, k, hk, hxy, hlen, hxl, hf⟩ := DataW.trod_struct Try.underlying48 h
  match xs, hxl, cs, hl with
  | [y0, y1, y2, y3, y4, y5, y6, y7], _, [v0, v1, v2, v3, v4, v5, v6, v7, v8, v9, v10, v11, v12, v13], _ =>
    have g0 := hf 0 _ rfl
    have g1 := hf 1 _ rfl
    have g2 := hf 2 _ rfl
    have g3 := hf 3 _ rfl
    have g4 := hf 4 _ rfl
    have g5 := hf 5 _ rfl
    have g6 := hf 6 _ rfl
    have g7 := hf 7 _ rfl
    simp [ceInt, ceHd, ceBool, ceRow, ceVal] at g0 g1 g2 g3 g4 g5 g6 g7
    obtain ⟨z0, rfl, a0⟩ := trod_i64 Try.underlying3 g0
    obtain ⟨z1, rfl, a1⟩ := trod_i64 Try.underlying3 g1
    obtain ⟨z2, rfl, a2⟩ := trod_i64 Try.underlying3 g2
    obtain ⟨r1, r2, r3, e, u1, u2, u3⟩ := row_in rfl g3
    cases e
    obtain ⟨s4, t4, e, u4, u5⟩ := hd_in rfl g4
    cases e
    obtain ⟨s5, t5, e, u6, u7⟩ := hd_in rfl g5
    cases e
    obtain ⟨z6, rfl⟩ := trod_bool g6
    obtain ⟨d7, s7, t7, e, u8, u9, u10⟩ := val_in rfl g7
    cases e
    exact ⟨⟨z0, z1, z2, r1, r2, r3, s4, t4, s5, t5, z6, d7, s7, t7⟩, rfl, ⟨a0, a1, a2, u1, u2, u3, u4, u5, u6, u7, u8, u9, u10⟩⟩

theorem ops_in (n : Nat) (v : Value) (x : DataW H × List MemPlace) (h : DataW.trod enc Try.prog W 0 spare held n 22 [v] = some x) : ∃ l : List Oq, OpsAt W v l := by
  obtain ⟨l, b, o, ⟨a, c, e, h1, h2, h3⟩, h4⟩ := lst_of_trod (A := OpAt W) (by decide) Try.underlying22 ceOp (fun n cs x hl h => by
    obtain ⟨y, rfl, hf⟩ := oq_in hl h
    refine ⟨y, fun b o hc => ⟨fun j u hu => ?_, hf⟩⟩
    obtain ⟨hj, e⟩ := List.getElem?_eq_some_iff.1 hu
    rw [← e]
    exact hc j hj) n v x h
  exact ⟨l, a, c, b, o, e, h1, h2, h3, h4⟩
end

set_option maxRecDepth 100000 in
theorem stands_lifted (os : Os) (started : os.Started) (H : Type) (enc : TypeId × Value → H) :
    ReturnsInHanded {} Try.checked os 4 .any (Rows.waitqStandsSpec.pre6 enc Try.prog Try.f4 Rows.waitqStandsRow.domain false) (Rows.waitqStandsSpec.post enc Try.prog Try.f4 false true false false) := by
  refine returnsInHanded_of_change (C := Try.checked) own_knob started (by kernel_rfl) Try.func4
    (ChangeSpec.witness6 (enc := enc) (C := Try.checked) false ⟨#[], #[.slice none 0 0], []⟩ 8 (by kernel_rfl) (by kernel_rfl) (by kernel_rfl) (by kernel_rfl)) ?_
  intro W base args ds gs before hval0 hW _ _
  have hval : ∀ (j : Nat) t v, Try.f4.params[j]? = some t → args[j]? = some v → Value.okWide Try.prog W .any base t v := hval0
  have hW' := hW
  obtain ⟨p, q, hA0, hV, rfl, hfz, hnd⟩ := hW
  have hA : DataW.TrodAll enc Try.prog W 0 (fun _ => true) true Try.f4.params.toList args.toList ds p := hA0
  rw [Try.params4] at hA hval
  obtain ⟨v1, vs1, d1, ds1, p1, q1, hargs, rfl, rfl, h1, r1⟩ := trodAll_cons hA
  obtain ⟨rfl, rfl, rfl⟩ := trodAll_nil r1
  obtain rfl : args = #[v1] := by cases args; simp_all
  obtain ⟨rfl, rfl⟩ := trodVars_none hV
  obtain ⟨sa, sl, sk, rfl⟩ := okWide_slice Try.underlying22 (hval 0 22 v1 rfl rfl)
  have k1 := h1
  have lt1 : ∀ x ∈ p1, x.block < W.heap.size := by obtain ⟨m, hm⟩ := k1; exact DataW.trod_lt m _ _ _ hm
  obtain ⟨n1, hn1⟩ := h1
  obtain ⟨sc, hsc⟩ := ops_in _ _ _ hn1
  clear hA0 hval0
  obtain ⟨a, c, b0, o0, e0, -, e2, e3, e4⟩ := hsc
  rw [e0]
  refine (stands_is W e2 e3 e4).mono fun e W' ⟨he, bel⟩ => ?_
  rw [e0] at k1 hW'
  subst he
  exact ⟨_, rfl, _, _, _, [], _, [], hW', trodAll_mk1 (shut_bool Try.underlying4 _), (trodAll_cons_mk (Below.trod laid_out (by kernel_rfl) (of_decide_eq_true (by kernel_rfl)) k1 bel lt1) trodAll_mk0), rfl, bel.frame _, fun h => by cases h⟩

theorem waitqStands_holds : Rows.WaitqStandsSaid :=
  OpenClaim.holds_of_wide 4 Try.f4 rfl rfl rfl rfl rfl rfl rfl ⟨rfl, rfl, rfl, rfl, rfl⟩ rfl rfl rfl rfl rfl (by kernel_rfl) Try.func4 (by kernel_rfl)
    (of_decide_eq_true (by kernel_rfl)) (by unfold Func.isWrapper; first | (rw [if_pos (by decide +kernel)]; kernel_rfl) | (rw [if_neg (by decide +kernel)]; exact ⟨rfl, rfl⟩))
    (fun os started H enc _ => stands_lifted os started H enc)

#print axioms waitqStands_holds
end Go.Proofs.Ythnnpipekeanoaa
