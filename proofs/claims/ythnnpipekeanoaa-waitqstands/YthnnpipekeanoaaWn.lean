/- Layer 11: the document's Put: slot and generation. -/
import Derived.Test.YthnnpipekeanoaaWl
namespace Go.Proofs.Ythnnpipekeanoaa
open Go.RowKit

variable {B b : Nat} {av ov : Value} {l : List Wt}

def tail5 : Code → Code → Code
  | .seq a (.seq b (.seq c (.seq d (.seq e _)))), r => .seq a (.seq b (.seq c (.seq d (.seq e r))))
  | c, _ => c
def rest5 : Code → Code
  | .seq _ (.seq _ (.seq _ (.seq _ (.seq _ r)))) => r
  | c => c

set_option maxRecDepth 100000 in
set_option maxHeartbeats 8000000 in
theorem rput_slot {u1 u2 u3 u4 u5 u6 u7 u8 u9 u10 u11 u12 u13 u14 u15 u16 u17 u18 u19 u20 u21 u22 u23 u24 u25 u26 u27 u28 u29 u30 u31 u32 u33 u34 u35 u36 u37 u38 u39 u40 u41 u42 u43 u44 u45 u46 u47 u48 u49 u50 u51 u52 u53 u54 u55 u56 u57 u58 u59 u60 u61 u62 u63 u64 u65 u66 u67 u68 u69 u70 u71 u72 u73 u74 u75 u76 u77 u78 u79 u80 u81 u82 u83 u84 u85 u86 u87 u88 u89 u90 u91 u92 u93 u94 u95 u96 u97 u98 u99 u100 u101 u102 u103 u104 u105 u106 u107 u108 u109 u110 u111 u112 u113 u114 u115 u116 u117 u118 u119 u120 u121 u122 u123 u124 u125 u126 u127 u128 u129 u130 u131 u132 u133 u134 u135 u136 u137 u138 u139 u140 u141 u142 u143 u144 u145 u146 u147 u148 u149 u150 u151 u152 u153 u154 u155 u156 u157 u158 u159 u160 u161 u162 u163 u164 u165 u166 u167 u168 : Value} {W0 : World} (h : DB W0 B b av ov l) (hl : l.length ≤ 100000) (hf : FitW l) {REST : Code} {Q : Exit → Act → World → Prop}
    (next : ∀ (u14 u15 u17 u79 u80 u81 u82 u83 u84 u85 u86 u87 u88 u89 u90 u91 u92 u93 u94 u95 u96 u97 u98 u99 u100 u101 u102 u103 u104 u105 u106 u107 u108 u109 u110 u111 u112 u113 u114 u115 u116 u117 u118 u119 u120 u121 u122 u123 u124 u125 u126 u127 u128 u129 u130 u131 u132 u133 u134 u135 u136 u137 u138 : Value), REST.wp Try.prog Q { tmps := List.toArray ((.pointer (some ⟨b, 0, none⟩)) :: u1 :: u2 :: u3 :: u4 :: u5 :: u6 :: u7 :: u8 :: u9 :: u10 :: u11 :: u12 :: (.int .i64 (slW l : Int)) :: u14 :: u15 :: (.int .i64 ((genW l (slW l : Int) : Int) + 1)) :: u17 :: u18 :: u19 :: u20 :: u21 :: u22 :: u23 :: u24 :: u25 :: u26 :: u27 :: u28 :: u29 :: u30 :: u31 :: u32 :: u33 :: u34 :: u35 :: u36 :: u37 :: u38 :: u39 :: u40 :: u41 :: u42 :: u43 :: u44 :: u45 :: u46 :: u47 :: u48 :: u49 :: u50 :: u51 :: u52 :: u53 :: u54 :: u55 :: u56 :: u57 :: u58 :: u59 :: u60 :: u61 :: u62 :: u63 :: u64 :: u65 :: u66 :: u67 :: u68 :: u69 :: u70 :: u71 :: u72 :: u73 :: u74 :: u75 :: u76 :: u77 :: u78 :: u79 :: u80 :: u81 :: u82 :: u83 :: u84 :: u85 :: u86 :: u87 :: u88 :: u89 :: u90 :: u91 :: u92 :: u93 :: u94 :: u95 :: u96 :: u97 :: u98 :: u99 :: u100 :: u101 :: u102 :: u103 :: u104 :: u105 :: u106 :: u107 :: u108 :: u109 :: u110 :: u111 :: u112 :: u113 :: u114 :: u115 :: u116 :: u117 :: u118 :: u119 :: u120 :: u121 :: u122 :: u123 :: u124 :: u125 :: u126 :: u127 :: u128 :: u129 :: u130 :: u131 :: u132 :: u133 :: u134 :: u135 :: u136 :: u137 :: u138 :: u139 :: u140 :: u141 :: u142 :: u143 :: u144 :: u145 :: u146 :: u147 :: u148 :: u149 :: u150 :: u151 :: u152 :: u153 :: u154 :: u155 :: u156 :: u157 :: u158 :: u159 :: u160 :: u161 :: u162 :: u163 :: u164 :: u165 :: u166 :: u167 :: u168 :: []), defers := [] } W0) :
    (tail5 (rest4 (Try.f23.body.getD .skip)) REST).wp Try.prog Q { tmps := List.toArray ((.pointer (some ⟨b, 0, none⟩)) :: u1 :: u2 :: u3 :: u4 :: u5 :: u6 :: u7 :: u8 :: u9 :: u10 :: u11 :: u12 :: u13 :: u14 :: u15 :: u16 :: u17 :: u18 :: u19 :: u20 :: u21 :: u22 :: u23 :: u24 :: u25 :: u26 :: u27 :: u28 :: u29 :: u30 :: u31 :: u32 :: u33 :: u34 :: u35 :: u36 :: u37 :: u38 :: u39 :: u40 :: u41 :: u42 :: u43 :: u44 :: u45 :: u46 :: u47 :: u48 :: u49 :: u50 :: u51 :: u52 :: u53 :: u54 :: u55 :: u56 :: u57 :: u58 :: u59 :: u60 :: u61 :: u62 :: u63 :: u64 :: u65 :: u66 :: u67 :: u68 :: u69 :: u70 :: u71 :: u72 :: u73 :: u74 :: u75 :: u76 :: u77 :: u78 :: u79 :: u80 :: u81 :: u82 :: u83 :: u84 :: u85 :: u86 :: u87 :: u88 :: u89 :: u90 :: u91 :: u92 :: u93 :: u94 :: u95 :: u96 :: u97 :: u98 :: u99 :: u100 :: u101 :: u102 :: u103 :: u104 :: u105 :: u106 :: u107 :: u108 :: u109 :: u110 :: u111 :: u112 :: u113 :: u114 :: u115 :: u116 :: u117 :: u118 :: u119 :: u120 :: u121 :: u122 :: u123 :: u124 :: u125 :: u126 :: u127 :: u128 :: u129 :: u130 :: u131 :: u132 :: u133 :: u134 :: u135 :: u136 :: u137 :: u138 :: u139 :: u140 :: u141 :: u142 :: u143 :: u144 :: u145 :: u146 :: u147 :: u148 :: u149 :: u150 :: u151 :: u152 :: u153 :: u154 :: u155 :: u156 :: u157 :: u158 :: u159 :: u160 :: u161 :: u162 :: u163 :: u164 :: u165 :: u166 :: u167 :: u168 :: []), defers := [] } W0 := by
  obtain ⟨hx0, hx1⟩ := h.cells
  obtain ⟨a, c, a', c', rfl, rfl, hc, hc', hm⟩ := h.forms
  have NX := hide next
  clear next
  dsimp only [tail5, rest4, Try.f23, Option.getD]
  go_wp2
  go_loopw [13, 14] (fun sv uv wr => ∃ (k : Nat) (q : Bool), sv = .int .i64 (k : Int) ∧ uv = .bool q ∧ Hid ((k = 0 ∧ q = true) ∨ ∃ k' : Nat, k = k' + 1 ∧ q = usdW l ((k' : Int) + 1) ∧ ∀ j : Nat, j < k' → usdW l ((j : Int) + 1) = true) ∧ wr = W0) (fun sv _ _ => l.length + 2 - (intOf sv).toNat)
  case atStart => exact ⟨0, true, rfl, rfl, hide (Or.inl ⟨rfl, rfl⟩), rfl⟩
  case round =>
    obtain ⟨k, q, rfl, rfl, HK, rfl⟩ := hrel
    obtain ⟨W, rfl⟩ : ∃ W, W = wr := ⟨_, rfl⟩
    cases q
    · obtain ⟨k', rfl, e1, e2⟩ := HK.out.resolve_left (fun e => by cases e.2)
      have HS := hide (slW_is e2 e1.symm)
      have hk := slW_le l
      rw [slW_is e2 e1.symm] at hk
      clear HK e1 e2
      go_wp2
      go_loopw [16, 17] (fun gv iv wr => ∃ i : Nat, i ≤ l.length ∧ iv = .int .i64 (i : Int) ∧ gv = .int .i64 ((genW (l.take i) ((k' : Int) + 1) : Int) + 1) ∧ wr = W) (fun _ iv _ => l.length - (intOf iv).toNat)
      case atStart => exact ⟨0, Nat.zero_le _, rfl, by simp [genW], rfl⟩
      case round =>
        obtain ⟨i, hi, rfl, rfl, rfl⟩ := hrel
        obtain ⟨W, rfl⟩ : ∃ W, W = wr := ⟨_, rfl⟩
        by_cases hlt : i < l.length
        · obtain ⟨ga, gc, oa, oc, e1, e2, k1, k2, -, -, hcell, -, -⟩ := h.at (by omega)
          cases e1
          cases e2
          have q1 : decide ((i : Int) < (l.length : Int)) = true := decide_eq_true (by omega)
          have y0 : W.cell? ⟨ga, i * 11, none⟩ = _ := hcell i hlt 0 (.int .u32 l[i].r.ms) rfl
          have hfit := hf _ (List.getElem_mem hlt)
          have HN := hide (genW_snoc (l.take i) l[i] ((k' : Int) + 1))
          rw [← List.take_succ_eq_append_getElem hlt] at HN
          have hle : genW (l.take i) ((k' : Int) + 1) ≤ i := Nat.le_trans (genW_le _ _) (List.length_take_le _ _)
          generalize l[i] = z at y0 HN hfit
          have e64 : IntKind.i64.wrap z.r.ms = z.r.ms := by rw [IntKind.wrap_i64]; omega
          clear hcell hfit
          by_cases em : z.r.ms = ((k' : Int) + 1)
          · have qm : (z.r.ms == ((k' : Int) + 1)) = true := by simpa using em
            have HM := hide em
            clear em
            go_wp2
            go_roundw
            case rel => exact ⟨i + 1, by omega, by go_num, by rw [HN.out, if_pos HM.out]; go_num, trivial⟩
            case measure => simp [intOf]; omega
          · have qm : (z.r.ms == ((k' : Int) + 1)) = false := by simpa using em
            have HM := hide em
            clear em
            go_wp2
            go_roundw
            case rel => exact ⟨i + 1, by omega, by go_num, by rw [HN.out, if_neg HM.out]; rfl, trivial⟩
            case measure => simp [intOf]; omega
        · have ek : l.take i = l := List.take_of_length_le (by omega)
          rw [ek]
          have q1 : decide ((i : Int) < (l.length : Int)) = false := decide_eq_false (by omega)
          go_wp2
          have := NX.out
          rw [HS.out] at this
          apply this
    · have hb : k ≤ l.length := by
        rcases HK.out with ⟨rfl, -⟩ | ⟨k', rfl, e1, e2⟩
        · omega
        · have := usd_many (l := l) (k' + 1) (fun j hj => by
            by_cases ej : j = k'
            · subst ej; exact e1.symm
            · exact e2 j (by omega))
          have := cntK_le l (k' + 1)
          omega
      have HALL := hide (show ∀ j : Nat, j < k → usdW l ((j : Int) + 1) = true from fun j hj => by
        rcases HK.out with ⟨rfl, -⟩ | ⟨k', rfl, e1, e2⟩
        · omega
        · by_cases ej : j = k'
          · subst ej; exact e1.symm
          · exact e2 j (by omega))
      clear HK
      go_wp2
      go_loopw [14, 15] (fun uv iv wr => ∃ i : Nat, i ≤ l.length ∧ iv = .int .i64 (i : Int) ∧ uv = .bool (usdW (l.take i) ((k : Int) + 1)) ∧ wr = W) (fun _ iv _ => l.length - (intOf iv).toNat)
      case atStart => exact ⟨0, Nat.zero_le _, rfl, by simp [usdW], rfl⟩
      case round =>
        obtain ⟨i, hi, rfl, rfl, rfl⟩ := hrel
        obtain ⟨W, rfl⟩ : ∃ W, W = wr := ⟨_, rfl⟩
        by_cases hlt : i < l.length
        · obtain ⟨ga, gc, oa, oc, e1, e2, k1, k2, -, -, hcell, hov, -⟩ := h.at (by omega)
          cases e1
          cases e2
          have q1 : decide ((i : Int) < (l.length : Int)) = true := decide_eq_true (by omega)
          have y0 : W.cell? ⟨ga, i * 11, none⟩ = _ := hcell i hlt 0 (.int .u32 l[i].r.ms) rfl
          have yo := hov i hlt
          have hfit := hf _ (List.getElem_mem hlt)
          have HN := hide (usdW_snoc (l.take i) l[i] ((k : Int) + 1))
          rw [← List.take_succ_eq_append_getElem hlt] at HN
          generalize l[i] = z at y0 yo HN hfit
          have e64 : IntKind.i64.wrap z.r.ms = z.r.ms := by rw [IntKind.wrap_i64]; omega
          clear hcell hov hfit
          cases hu : usdW (l.take i) ((k : Int) + 1)
          · cases hd : z.o
            · rw [hd] at yo
              by_cases em : z.r.ms = (k : Int) + 1
              · have qm : (z.r.ms == (k : Int) + 1) = true := by simpa using em
                have HM := hide em
                clear em
                go_wp2
                go_roundw
                case rel => exact ⟨i + 1, by omega, by go_num, by rw [HN.out, hu, hd, HM.out]; simp, trivial⟩
                case measure => simp [intOf]; omega
              · have qm : (z.r.ms == (k : Int) + 1) = false := by simpa using em
                have HM := hide em
                clear em
                go_wp2
                go_roundw
                case rel => exact ⟨i + 1, by omega, by go_num, by rw [HN.out, hu, hd, decide_eq_false HM.out]; rfl, trivial⟩
                case measure => simp [intOf]; omega
            · rw [hd] at yo
              go_wp2
              go_roundw
              case rel => exact ⟨i + 1, by omega, by go_num, by rw [HN.out, hu, hd]; rfl, trivial⟩
              case measure => simp [intOf]; omega
          · go_wp2
            go_roundw
            case rel => exact ⟨i + 1, by omega, by go_num, by rw [HN.out, hu]; rfl, trivial⟩
            case measure => simp [intOf]; omega
        · have ek : l.take i = l := List.take_of_length_le (by omega)
          rw [ek]
          have q1 : decide ((i : Int) < (l.length : Int)) = false := decide_eq_false (by omega)
          go_wp2
          go_roundw
          case rel => exact ⟨k + 1, usdW l ((k : Int) + 1), by go_num, rfl, hide (Or.inr ⟨k, rfl, rfl, HALL.out⟩), trivial⟩
          case measure => simp [intOf]; omega

end Go.Proofs.Ythnnpipekeanoaa
