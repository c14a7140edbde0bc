/- Layer 10: SlotsSeen: all that is done to the table within the range. -/
import Derived.Test.YtjilnmeegolpkaaKe
namespace Go.Proofs.Ytjilnmeegolpkaa
open Go.RowKit Go.Shelf

attribute [local go_sem] Oper.semAt_some

def cSnd : Code → Code
  | .seq _ c => c
  | c => c
def cFst : Code → Code
  | .seq c _ => c
  | c => c
def cBlk : Code → Code
  | .block _ c => c
  | c => c
def cBody : Code → Code
  | .rangeFunc _ _ _ c => c
  | c => c
def cThen : Code → Code
  | .cond _ c _ => c
  | c => c
/-- the three loops within the range -/
noncomputable def loopsCode : Code := cThen (cSnd (cSnd (cSnd (cBlk (cBody (cBlk (cSnd (cFst (cSnd (cSnd (cSnd (rest6 (Try.f5.body.getD .skip)))))))))))))

theorem wpIn_any {Fe : Fence} {n : Nat} {P : Program} {c : Code} {Q : Exit → Act → World → Prop} {a : Act} {w : World} (h : c.wpIn Fe n P (Exit.then (fun a w => Q .normal a w) (fun _ _ _ => False)) a w) : c.wpIn Fe n P Q a w :=
  wpIn_mono h (fun e a w h => by cases e <;> first | exact h | exact (h : False).elim)

theorem Sn.box {w0 W : World} {lv ov iv hv' : Value} {p g a8 a10 B n o : Nat} {F : Nat → Prop} {l : List (ThG Pa)} (h : Sn w0 lv ov iv p g a8 a10 B F W l hv' n) {T : TypeId} {v : Value} (hb : Boxed W o T v) (ho : B ≤ o) (h1 : T ≠ 94) (h2 : T ≠ 97) (h3 : T ≠ 39) (h4 : T ≠ 58) (h5 : T ≠ 33) (u : Value) : Sn w0 lv ov iv p g a8 a10 B F (W.setCell ⟨o, 0, none⟩ u) l hv' n :=
  h.ch (Ch.set (Q := fun x => x = o) W rfl 0 u) (fun x _ e => by rw [e]; exact ho) (fun e => blk_ne hb h.b8 h4 e.symm) (fun e => blk_ne hb h.bh h5 e.symm) (fun x hx e => by subst e; exact h.nF hb h1 h2 hx)
    (fun x hx e => by subst e; obtain ⟨_, _, cur, e2⟩ := own_in h.hs hx; exact blk_ne hb e2 h3 rfl)

set_option maxRecDepth 100000 in
set_option maxHeartbeats 8000000 in
theorem seen_loops {u0 u1 u2 u3 u6 u7 u9 u11 u12 u13 u14 u16 u17 u18 u19 u20 u21 u22 u23 u24 u25 u26 u27 u28 u29 u30 u31 u32 u33 u34 u35 u36 u37 u38 u39 u40 u41 u42 u43 u44 u45 u46 u47 u48 u49 u50 u51 u52 u53 u54 u55 u56 u57 u58 u59 u60 u61 u62 u63 u64 u65 u66 u67 u68 u69 u70 u71 u72 u73 u74 u75 u76 u77 u78 u79 u80 u81 u82 u83 u84 u85 u86 u87 u88 u89 u90 u91 u92 u93 u94 u95 u96 u97 u98 u99 u100 u101 u102 u103 u104 u105 u106 u107 u108 u109 u110 u111 u112 u113 u114 u115 u116 u117 u118 u119 u120 u121 u122 u123 u124 u125 u126 u127 u128 u129 u130 u131 u132 u133 u134 u135 u136 u137 u138 u139 u140 u141 u142 u143 u144 u145 u146 u147 u148 u149 u150 u151 u152 u153 u154 u155 u156 u157 u158 u159 u160 u161 u162 u163 u164 u165 u166 u167 u168 u169 u170 u171 u172 u173 u174 u175 u176 u177 u178 u179 u180 u181 u182 u183 u184 u185 u186 u187 u188 u189 u190 u191 u192 u193 u194 u195 u196 u197 u198 u199 u200 u201 u202 u203 u204 u205 u206 u207 u208 u209 u210 u211 u212 : Value} {w0 W : World} {lv : Value} {os : List Int} {ins : List ByteArray} {oa ia : Option Addr} {oc ic hc p g a8 a10 B m lp n hb o15 ob oo ib io : Nat} {F : Nat → Prop} {l : List (ThG Pa)} (h : Sn w0 lv (.slice oa os.length oc) (.slice ia ins.length ic) p g a8 a10 B F W l (.slice (some ⟨hb, 0, none⟩) m hc) m) (hm : 0 < m) (hm2 : m ≤ 100) (hl : l.length ≤ 100) (ho : B ≤ o15) (bo : Boxed W o15 4 (.bool true))
    (hoa : 0 < os.length → oa = some ⟨ob, oo, none⟩ ∧ ob < w0.heap.size) (hom : os.length ≤ 9223372036854775807) (hos : ∀ i (h : i < os.length), w0.cell? ⟨ob, oo + i, none⟩ = some (.int .i64 os[i]) ∧ -9223372036854775808 ≤ os[i] ∧ os[i] ≤ 9223372036854775807)
    (hia : 0 < ins.length → ia = some ⟨ib, io, none⟩ ∧ ib < w0.heap.size) (him : ins.length ≤ 9223372036854775807) (his : ∀ i (h : i < ins.length), w0.cell? ⟨ib, io + i, none⟩ = some (.string ins[i]))
    {Q : Exit → Act → World → Prop} (hQ : ∀ a' W' l', Sn w0 lv (.slice oa os.length oc) (.slice ia ins.length ic) p g a8 a10 B F W' l' (.slice (some ⟨hb, 0, none⟩) m hc) m → l'.length ≤ 200 → Boxed W' o15 4 (.bool true) → Ch (fun x => F x ∨ x = o15) W W' → Q .normal a' W') :
    loopsCode.wpIn (Fence.wide.inRound lp) n Try.prog Q { tmps := List.toArray (u0 :: u1 :: u2 :: u3 :: (.pointer (some ⟨w0.heap.size + 1, 0, none⟩)) :: (.pointer (some ⟨w0.heap.size + 2, 0, none⟩)) :: u6 :: u7 :: (.pointer (some ⟨a8, 0, none⟩)) :: u9 :: (.pointer (some ⟨a10, 0, none⟩)) :: u11 :: u12 :: u13 :: u14 :: (.pointer (some ⟨o15, 0, none⟩)) :: u16 :: u17 :: u18 :: u19 :: u20 :: u21 :: u22 :: u23 :: u24 :: u25 :: u26 :: u27 :: u28 :: u29 :: u30 :: u31 :: u32 :: u33 :: u34 :: u35 :: u36 :: u37 :: u38 :: u39 :: u40 :: u41 :: u42 :: u43 :: u44 :: u45 :: u46 :: u47 :: u48 :: u49 :: u50 :: u51 :: u52 :: u53 :: u54 :: u55 :: u56 :: u57 :: u58 :: u59 :: u60 :: u61 :: u62 :: u63 :: u64 :: u65 :: u66 :: u67 :: u68 :: u69 :: u70 :: u71 :: u72 :: u73 :: u74 :: u75 :: u76 :: u77 :: u78 :: u79 :: u80 :: u81 :: u82 :: u83 :: u84 :: u85 :: u86 :: u87 :: u88 :: u89 :: u90 :: u91 :: u92 :: u93 :: u94 :: u95 :: u96 :: u97 :: u98 :: u99 :: u100 :: u101 :: u102 :: u103 :: u104 :: u105 :: u106 :: u107 :: u108 :: u109 :: u110 :: u111 :: u112 :: u113 :: u114 :: u115 :: u116 :: u117 :: u118 :: u119 :: u120 :: u121 :: u122 :: u123 :: u124 :: u125 :: u126 :: u127 :: u128 :: u129 :: u130 :: u131 :: u132 :: u133 :: u134 :: u135 :: u136 :: u137 :: u138 :: u139 :: u140 :: u141 :: u142 :: u143 :: u144 :: u145 :: u146 :: u147 :: u148 :: u149 :: u150 :: u151 :: u152 :: u153 :: u154 :: u155 :: u156 :: u157 :: u158 :: u159 :: u160 :: u161 :: u162 :: u163 :: u164 :: u165 :: u166 :: u167 :: u168 :: u169 :: u170 :: u171 :: u172 :: u173 :: u174 :: u175 :: u176 :: u177 :: u178 :: u179 :: u180 :: u181 :: u182 :: u183 :: u184 :: u185 :: u186 :: u187 :: u188 :: u189 :: u190 :: u191 :: u192 :: u193 :: u194 :: u195 :: u196 :: u197 :: u198 :: u199 :: u200 :: u201 :: u202 :: u203 :: u204 :: u205 :: u206 :: u207 :: u208 :: u209 :: u210 :: u211 :: u212 :: []), defers := [] } W := by
  have HOA := hide hoa
  have HOS := hide hos
  have HIA := hide hia
  have HIS := hide his
  have HQ := hide hQ
  have HS0 := hide h
  have HB0 := hide bo
  clear hoa hos hia his hQ h bo
  dsimp only [loopsCode, cThen, cSnd, cFst, cBlk, cBody, rest6, Try.f5, Option.getD]
  gi_wp2
  gi_loopw [19] (fun v wr => ∃ (i : Nat) (l' : List (ThG Pa)), v = .int .i64 (i : Int) ∧ i ≤ os.length ∧ Hid (Sn w0 lv (.slice oa os.length oc) (.slice ia ins.length ic) p g a8 a10 B F wr l' (.slice (some ⟨hb, 0, none⟩) m hc) m) ∧ l'.length ≤ 100 ∧ Hid (Boxed wr o15 4 (.bool true)) ∧ Hid (Ch (fun x => F x ∨ x = o15) W wr)) (fun v _ => os.length - (intOf v).toNat)
  case atStart => exact ⟨0, l, rfl, Nat.zero_le _, HS0, hl, HB0, hide (Ch.refl _ _)⟩
  case round =>
    clear HS0 HB0 hl
    obtain ⟨i, l', rfl, hi, HS, hl, HB, HC⟩ := hrel
    obtain ⟨V, rfl⟩ : ∃ V, V = wr := ⟨_, rfl⟩
    have y1 := HS.out.b1.cell
    by_cases hlt : i < os.length
    · have q1 : decide ((i : Int) < (os.length : Int)) = true := decide_eq_true (by omega)
      obtain ⟨rfl, hob⟩ := HOA.out (by omega)
      obtain ⟨hint, hbd⟩ := HOS.out i hlt
      gi_wp2
      refine wpIn_any (seen_r25 HS.out hm hm2 rfl hlt hob hint hbd ?_)
      intro k W' hk ht hc
      show Exit.inBlock _ _ _ _ _
      have HS2 := hide (HS.out.table hc ht)
      have HB2 := hide (show Boxed W' o15 4 (.bool true) from hc.box HB.out (HS.out.nF HB.out (by decide) (by decide)))
      have HC2 := hide (HC.out.trans hc (fun _ _ h => Or.inl h))
      clear ht hc y1
      gi_wp2
      go_roundw
      case rel => exact ⟨i + 1, _, by go_num, by omega, HS2, by rw [frd_len]; exact hl, HB2, HC2⟩
      case measure => simp [intOf]; omega
    · have q1 : decide ((i : Int) < (os.length : Int)) = false := decide_eq_false (by omega)
      gi_wp2
      clear y1 q1
      gi_loopw [20] (fun v wr => ∃ (i : Nat) (l' : List (ThG Pa)), v = .int .i64 (i : Int) ∧ (i ≤ ins.length ∧ i ≤ 100) ∧ Hid (Sn w0 lv (.slice oa os.length oc) (.slice ia ins.length ic) p g a8 a10 B F wr l' (.slice (some ⟨hb, 0, none⟩) m hc) m) ∧ l'.length ≤ 100 + i ∧ Hid (Boxed wr o15 4 (.bool true)) ∧ Hid (Ch (fun x => F x ∨ x = o15) W wr)) (fun v _ => ins.length + 1 - (intOf v).toNat)
      case atStart => exact ⟨0, l', rfl, ⟨Nat.zero_le _, Nat.zero_le _⟩, HS, hl, HB, HC⟩
      case round =>
        clear HS HB HC hl
        obtain ⟨j, l1, rfl, ⟨hj, hj2⟩, HS, hl, HB, HC⟩ := hrel
        obtain ⟨V2, rfl⟩ : ∃ V, V = wr := ⟨_, rfl⟩
        have y1 := HS.out.b2.cell
        by_cases hlj : j < ins.length ∧ j < 100
        · obtain ⟨hlt3, hlt2⟩ := hlj
          have q1 : decide ((j : Int) < (ins.length : Int)) = true := decide_eq_true (by omega)
          have q2 : decide ((j : Int) < 100) = true := decide_eq_true (by omega)
          obtain ⟨rfl, hib⟩ := HIA.out (by omega)
          have hstr := HIS.out j hlt3
          gi_wp2
          refine wpIn_then (seen_r29 HS.out (by omega) rfl hlt3 hib hstr ?_)
          intro A W' ht hc
          have HS2 := hide (HS.out.table hc ht)
          have hB2 : Boxed W' o15 4 (.bool true) := hc.box HB.out (HS.out.nF HB.out (by decide) (by decide))
          have HC2 := hide ((HC.out.trans hc (fun _ _ h => Or.inl h)).trans (Ch.set (Q := fun x => F x ∨ x = o15) W' (Or.inr rfl) 0 (.bool true)) (fun _ _ h => h))
          have z0 := hB2.cell
          have z1 := hB2.frozen
          have HB2 := hide hB2
          have hlen := tkd_len l1 500 (⟨ins[j], none, 0, 0⟩ : Pa)
          have hlen2 : (tkd l1 500 (⟨ins[j], none, 0, 0⟩ : Pa)).length ≤ l1.length + 1 := by rw [hlen]; split <;> omega
          clear ht hc y1 hB2 hlen
          gi_wp2
          go_roundw
          case rel => exact ⟨j + 1, _, by go_num, ⟨by omega, by omega⟩, hide (HS2.out.box HB2.out ho (by decide) (by decide) (by decide) (by decide) (by decide) _), by omega, hide (HB2.out.set _), HC2⟩
          case measure => simp [intOf]; omega
        · by_cases h1 : j < ins.length
          · have q1 : decide ((j : Int) < (ins.length : Int)) = true := decide_eq_true (by omega)
            have q2 : decide ((j : Int) < 100) = false := decide_eq_false (by omega)
            gi_wp2
            clear q1 q2 y1
            gi_loopw [23] (fun v wr => ∃ (i : Nat) (l' : List (ThG Pa)), v = .int .i64 (i : Int) ∧ i ≤ m ∧ Hid (Sn w0 lv (.slice oa os.length oc) (.slice ia ins.length ic) p g a8 a10 B F wr l' (.slice (some ⟨hb, 0, none⟩) m hc) m) ∧ l'.length ≤ 200 ∧ Hid (Boxed wr o15 4 (.bool true)) ∧ Hid (Ch (fun x => F x ∨ x = o15) W wr)) (fun v _ => m - (intOf v).toNat)
            case atStart => exact ⟨0, l1, rfl, Nat.zero_le _, HS, by omega, HB, HC⟩
            case round =>
              clear HS HB HC hl
              obtain ⟨k, l2, rfl, hk, HS, hl, HB, HC⟩ := hrel
              obtain ⟨V3, rfl⟩ : ∃ V, V = wr := ⟨_, rfl⟩
              have y1 := HS.out.bh.cell
              by_cases hlk : k < m
              · have q1 : decide ((k : Int) < (m : Int)) = true := decide_eq_true (by omega)
                gi_wp2
                refine wpIn_any (seen_r34 HS.out hm2 hlk ?_)
                intro W' ht hc
                show Exit.inBlock _ _ _ _ _
                have HS2 := hide (HS.out.table hc ht)
                have HB2 := hide (show Boxed W' o15 4 (.bool true) from hc.box HB.out (HS.out.nF HB.out (by decide) (by decide)))
                have HC2 := hide (HC.out.trans hc (fun _ _ h => Or.inl h))
                clear ht hc y1
                gi_wp2
                go_roundw
                case rel => exact ⟨k + 1, _, by go_num, by omega, HS2, by rw [std_len]; exact hl, HB2, HC2⟩
                case measure => simp [intOf]; omega
              · have q1 : decide ((k : Int) < (m : Int)) = false := decide_eq_false (by omega)
                gi_wp2
                exact HQ.out _ _ _ HS.out hl HB.out HC.out
          · have q1 : decide ((j : Int) < (ins.length : Int)) = false := decide_eq_false (by omega)
            gi_wp2
            clear q1 y1
            gi_loopw [23] (fun v wr => ∃ (i : Nat) (l' : List (ThG Pa)), v = .int .i64 (i : Int) ∧ i ≤ m ∧ Hid (Sn w0 lv (.slice oa os.length oc) (.slice ia ins.length ic) p g a8 a10 B F wr l' (.slice (some ⟨hb, 0, none⟩) m hc) m) ∧ l'.length ≤ 200 ∧ Hid (Boxed wr o15 4 (.bool true)) ∧ Hid (Ch (fun x => F x ∨ x = o15) W wr)) (fun v _ => m - (intOf v).toNat)
            case atStart => exact ⟨0, l1, rfl, Nat.zero_le _, HS, by omega, HB, HC⟩
            case round =>
              clear HS HB HC hl
              obtain ⟨k, l2, rfl, hk, HS, hl, HB, HC⟩ := hrel
              obtain ⟨V3, rfl⟩ : ∃ V, V = wr := ⟨_, rfl⟩
              have y1 := HS.out.bh.cell
              by_cases hlk : k < m
              · have q1 : decide ((k : Int) < (m : Int)) = true := decide_eq_true (by omega)
                gi_wp2
                refine wpIn_any (seen_r34 HS.out hm2 hlk ?_)
                intro W' ht hc
                show Exit.inBlock _ _ _ _ _
                have HS2 := hide (HS.out.table hc ht)
                have HB2 := hide (show Boxed W' o15 4 (.bool true) from hc.box HB.out (HS.out.nF HB.out (by decide) (by decide)))
                have HC2 := hide (HC.out.trans hc (fun _ _ h => Or.inl h))
                clear ht hc y1
                gi_wp2
                go_roundw
                case rel => exact ⟨k + 1, _, by go_num, by omega, HS2, by rw [std_len]; exact hl, HB2, HC2⟩
                case measure => simp [intOf]; omega
              · have q1 : decide ((k : Int) < (m : Int)) = false := decide_eq_false (by omega)
                gi_wp2
                exact HQ.out _ _ _ HS.out hl HB.out HC.out

end Go.Proofs.Ytjilnmeegolpkaa
