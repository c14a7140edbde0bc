/- Layer 11: the document's Put: what it looks at first. -/
import Derived.Test.YthnnpipekeanoaaWk
namespace Go.Proofs.Ythnnpipekeanoaa
open Go.RowKit

variable {w : World} {B b : Nat} {av ov : Value} {l : List Wt}

def tail4 : Code → Code → Code
  | .seq a (.seq b (.seq c (.seq d _))), r => .seq a (.seq b (.seq c (.seq d r)))
  | c, _ => c
def rest4 : Code → Code
  | .seq _ (.seq _ (.seq _ (.seq _ r))) => r
  | c => c

/-- the four boxes of a Put -/
structure Pb (w w1 : World) (rs rg rd ws wg vn vs vg : Int) : Prop where
  c1 : Ch (fun _ => False) w w1
  s1 : w1.heap.size = w.heap.size + 4
  n0 : w1.heap[w.heap.size]? = some (.cells #[.int .u32 rs, .int .u32 rg, .int .i64 rd] 44 (0, 0))
  n1 : w1.heap[w.heap.size + 1]? = some (.cells #[.int .u32 ws, .int .u32 wg] 41 (0, 0))
  n2 : w1.heap[w.heap.size + 2]? = some (.cells #[.int .i64 vn, .int .u32 vs, .int .u32 vg] 46 (0, 0))
  n3 : w1.heap[w.heap.size + 3]? = some (.cells #[.int .u32 0, .int .u32 0] 41 (0, 0))

set_option maxRecDepth 100000 in
set_option maxHeartbeats 8000000 in
theorem rput_head (h : DB w B b av ov l) (hl : l.length ≤ 100000) (rs rg ar vn vs vg : Int) {rd ws wg : Int} (hw : ¬ (ws = 0 ∧ wg = 0)) (hr : 1 ≤ rd ∧ rd ≤ 4) {REST : Code} {Q : Exit → Act → World → Prop}
    (h113 : twW l ws wg ar = true → ∀ (tm : Array Value) (W' : World), tm[10]?.getD undef = .pointer (some ⟨w.heap.size + 3, 0, none⟩) → tm[11]?.getD undef = .int .i64 113 → W'.cell? ⟨w.heap.size + 3, 0, none⟩ = some (.int .u32 0) → W'.cell? ⟨w.heap.size + 3, 1, none⟩ = some (.int .u32 0) → Below w.heap.size w W' → Q .ret { tmps := tm, defers := [] } W')
    (next : twW l ws wg ar = false → ∀ w1, Pb w w1 rs rg rd ws wg vn vs vg → ∀ (u1 u2 u4 u5 u8 u11 u12 u13 u14 u15 u16 u17 u18 u19 u20 u21 u22 u23 u24 u25 u26 u27 u28 u29 u30 u31 u32 u33 u34 u35 u36 u37 u38 u39 u40 u41 u42 u43 u44 u45 u46 u47 u48 u49 u50 u51 u52 u53 u54 u55 u56 u57 u58 u59 u60 u61 u62 u63 u64 u65 u66 u67 u68 u69 u70 u71 u72 u73 u74 u75 u76 u77 u78 u79 u80 u81 u82 u83 u84 u85 u86 u87 u88 u89 u90 u91 u92 u93 u94 u95 u96 u97 u98 u99 u100 u101 u102 u103 u104 u105 u106 u107 u108 u109 u110 u111 u112 u113 u114 u115 u116 u117 u118 u119 u120 u121 u122 u123 u124 u125 u126 u127 u128 u129 u130 u131 u132 u133 u134 u135 u136 u137 u138 u139 u140 u141 u142 u143 u144 u145 u146 u147 u148 u149 u150 u151 u152 u153 u154 u155 u156 u157 u158 u159 u160 u161 u162 u163 u164 u165 u166 u167 u168 : Value) (W' : World), Ch (fun _ => False) w1 W' → REST.wp Try.prog Q { tmps := List.toArray ((.pointer (some ⟨b, 0, none⟩)) :: u1 :: u2 :: (.int .i64 ar) :: u4 :: u5 :: (.pointer (some ⟨w.heap.size, 0, none⟩)) :: (.pointer (some ⟨w.heap.size + 1, 0, none⟩)) :: u8 :: (.pointer (some ⟨w.heap.size + 2, 0, none⟩)) :: (.pointer (some ⟨w.heap.size + 3, 0, none⟩)) :: u11 :: u12 :: u13 :: u14 :: u15 :: u16 :: u17 :: u18 :: u19 :: u20 :: u21 :: u22 :: u23 :: u24 :: u25 :: u26 :: u27 :: u28 :: u29 :: u30 :: u31 :: u32 :: u33 :: u34 :: u35 :: u36 :: u37 :: u38 :: u39 :: u40 :: u41 :: u42 :: u43 :: u44 :: u45 :: u46 :: u47 :: u48 :: u49 :: u50 :: u51 :: u52 :: u53 :: u54 :: u55 :: u56 :: u57 :: u58 :: u59 :: u60 :: u61 :: u62 :: u63 :: u64 :: u65 :: u66 :: u67 :: u68 :: u69 :: u70 :: u71 :: u72 :: u73 :: u74 :: u75 :: u76 :: u77 :: u78 :: u79 :: u80 :: u81 :: u82 :: u83 :: u84 :: u85 :: u86 :: u87 :: u88 :: u89 :: u90 :: u91 :: u92 :: u93 :: u94 :: u95 :: u96 :: u97 :: u98 :: u99 :: u100 :: u101 :: u102 :: u103 :: u104 :: u105 :: u106 :: u107 :: u108 :: u109 :: u110 :: u111 :: u112 :: u113 :: u114 :: u115 :: u116 :: u117 :: u118 :: u119 :: u120 :: u121 :: u122 :: u123 :: u124 :: u125 :: u126 :: u127 :: u128 :: u129 :: u130 :: u131 :: u132 :: u133 :: u134 :: u135 :: u136 :: u137 :: u138 :: u139 :: u140 :: u141 :: u142 :: u143 :: u144 :: u145 :: u146 :: u147 :: u148 :: u149 :: u150 :: u151 :: u152 :: u153 :: u154 :: u155 :: u156 :: u157 :: u158 :: u159 :: u160 :: u161 :: u162 :: u163 :: u164 :: u165 :: u166 :: u167 :: u168 :: []), defers := [] } W') :
    (tail4 (Try.f23.body.getD .skip) REST).wp Try.prog Q { tmps := List.toArray ((.pointer (some ⟨b, 0, none⟩)) :: (rvW rs rg rd) :: (hvW ws wg) :: (.int .i64 ar) :: (.agg #[.int .i64 vn, .int .u32 vs, .int .u32 vg]) :: (undef) :: (undef) :: (undef) :: (undef) :: (undef) :: (undef) :: (undef) :: (undef) :: (undef) :: (undef) :: (undef) :: (undef) :: (undef) :: (undef) :: (undef) :: (undef) :: (undef) :: (undef) :: (undef) :: (undef) :: (undef) :: (undef) :: (undef) :: (undef) :: (undef) :: (undef) :: (undef) :: (undef) :: (undef) :: (undef) :: (undef) :: (undef) :: (undef) :: (undef) :: (undef) :: (undef) :: (undef) :: (undef) :: (undef) :: (undef) :: (undef) :: (undef) :: (undef) :: (undef) :: (undef) :: (undef) :: (undef) :: (undef) :: (undef) :: (undef) :: (undef) :: (undef) :: (undef) :: (undef) :: (undef) :: (undef) :: (undef) :: (undef) :: (undef) :: (undef) :: (undef) :: (undef) :: (undef) :: (undef) :: (undef) :: (undef) :: (undef) :: (undef) :: (undef) :: (undef) :: (undef) :: (undef) :: (undef) :: (undef) :: (undef) :: (undef) :: (undef) :: (undef) :: (undef) :: (undef) :: (undef) :: (undef) :: (undef) :: (undef) :: (undef) :: (undef) :: (undef) :: (undef) :: (undef) :: (undef) :: (undef) :: (undef) :: (undef) :: (undef) :: (undef) :: (undef) :: (undef) :: (undef) :: (undef) :: (undef) :: (undef) :: (undef) :: (undef) :: (undef) :: (undef) :: (undef) :: (undef) :: (undef) :: (undef) :: (undef) :: (undef) :: (undef) :: (undef) :: (undef) :: (undef) :: (undef) :: (undef) :: (undef) :: (undef) :: (undef) :: (undef) :: (undef) :: (undef) :: (undef) :: (undef) :: (undef) :: (undef) :: (undef) :: (undef) :: (undef) :: (undef) :: (undef) :: (undef) :: (undef) :: (undef) :: (undef) :: (undef) :: (undef) :: (undef) :: (undef) :: (undef) :: (undef) :: (undef) :: (undef) :: (undef) :: (undef) :: (undef) :: (undef) :: (undef) :: (undef) :: (undef) :: (undef) :: (undef) :: (undef) :: (undef) :: (undef) :: (undef) :: (undef) :: (undef) :: (undef) :: (undef) :: (undef) :: (undef) :: (undef) :: []), defers := [] } w := by
  obtain ⟨w1, hw1⟩ : ∃ w1, (((w.alloc (.cells #[.int .u32 rs, .int .u32 rg, .int .i64 rd] 44)).alloc (.cells #[.int .u32 ws, .int .u32 wg] 41)).alloc (.cells #[.int .i64 vn, .int .u32 vs, .int .u32 vg] 46)).alloc (.cells #[.int .u32 0, .int .u32 0] 41) = w1 := ⟨_, rfl⟩
  have c1 : Ch (fun _ => False) w w1 := by rw [← hw1]; exact (((Ch.alloc _ _).trans (Ch.alloc _ _) (fun _ _ h => h)).trans (Ch.alloc _ _) (fun _ _ h => h)).trans (Ch.alloc _ _) (fun _ _ h => h)
  have s1 : w1.heap.size = w.heap.size + 4 := by rw [← hw1]; simp
  have n0 : w1.heap[w.heap.size]? = some (.cells #[.int .u32 rs, .int .u32 rg, .int .i64 rd] 44 (0, 0)) := by
    rw [← hw1]
    exact (((Ch.alloc (Q := fun _ => False) _ _).trans (Ch.alloc _ _) (fun _ _ h => h)).trans (Ch.alloc _ _) (fun _ _ h => h)).box (heap_new w _) (fun h => h)
  have n1 : w1.heap[w.heap.size + 1]? = some (.cells #[.int .u32 ws, .int .u32 wg] 41 (0, 0)) := by
    rw [← hw1]
    have := heap_new (w.alloc (.cells #[.int .u32 rs, .int .u32 rg, .int .i64 rd] 44)) (.cells #[.int .u32 ws, .int .u32 wg] 41)
    rw [World.size_alloc] at this
    exact ((Ch.alloc (Q := fun _ => False) _ _).trans (Ch.alloc _ _) (fun _ _ h => h)).box this (fun h => h)
  have n2 : w1.heap[w.heap.size + 2]? = some (.cells #[.int .i64 vn, .int .u32 vs, .int .u32 vg] 46 (0, 0)) := by
    rw [← hw1]
    have := heap_new ((w.alloc (.cells #[.int .u32 rs, .int .u32 rg, .int .i64 rd] 44)).alloc (.cells #[.int .u32 ws, .int .u32 wg] 41)) (.cells #[.int .i64 vn, .int .u32 vs, .int .u32 vg] 46)
    rw [World.size_alloc, World.size_alloc] at this
    exact (Ch.alloc (Q := fun _ => False) _ _).box this (fun h => h)
  have n3 : w1.heap[w.heap.size + 3]? = some (.cells #[.int .u32 0, .int .u32 0] 41 (0, 0)) := by
    rw [← hw1]
    have := heap_new (((w.alloc (.cells #[.int .u32 rs, .int .u32 rg, .int .i64 rd] 44)).alloc (.cells #[.int .u32 ws, .int .u32 wg] 41)).alloc (.cells #[.int .i64 vn, .int .u32 vs, .int .u32 vg] 46)) (.cells #[.int .u32 0, .int .u32 0] 41)
    rw [World.size_alloc, World.size_alloc, World.size_alloc] at this
    exact this
  have a0 : w1.cell? ⟨w.heap.size, 0, none⟩ = some (.int .u32 rs) := by simp [Lib.cell_of_heap n0]
  have a1 : w1.cell? ⟨w.heap.size, 1, none⟩ = some (.int .u32 rg) := by simp [Lib.cell_of_heap n0]
  have a2 : w1.cell? ⟨w.heap.size, 2, none⟩ = some (.int .i64 rd) := by simp [Lib.cell_of_heap n0]
  have b0 : w1.cell? ⟨w.heap.size + 1, 0, none⟩ = some (.int .u32 ws) := by simp [Lib.cell_of_heap n1]
  have b1 : w1.cell? ⟨w.heap.size + 1, 1, none⟩ = some (.int .u32 wg) := by simp [Lib.cell_of_heap n1]
  have d0 : w1.cell? ⟨w.heap.size + 3, 0, none⟩ = some (.int .u32 0) := by simp [Lib.cell_of_heap n3]
  have d1 : w1.cell? ⟨w.heap.size + 3, 1, none⟩ = some (.int .u32 0) := by simp [Lib.cell_of_heap n3]
  have zf : ∀ j, w1.frozen? ⟨w.heap.size + 3, j, none⟩ = false := fun j => by simp [World.frozen?, n3]
  have HB1 := hide (c1.below (N := w.heap.size) (Nat.le_refl _) (fun _ _ h => h))
  have h1 := h.ch c1 (fun h => h) (fun _ _ h => h) (fun _ _ h => h)
  have H1 := hide h1
  have N1 := hide n1
  have N3 := hide n3
  have H113 := hide h113
  have NX := hide (fun e => next e w1 ⟨c1, s1, n0, n1, n2, n3⟩)
  have hm' : l.length ≤ 9223372036854775807 := by omega
  have q3 : decide (rd < 1) = false := decide_eq_false (by omega)
  have q4 : decide (4 < rd) = false := decide_eq_false (by omega)
  clear next h113 n0 n1 n2 n3 c1 hr
  obtain ⟨a, c, a', c', rfl, rfl, hc, hc', hm⟩ := h.forms
  dsimp only [tail4, Try.f23, Option.getD]
  by_cases e1 : ws = 0
  · have e2 : ¬ wg = 0 := fun e => hw ⟨e1, e⟩
    have p1 : (ws == 0) = true := by simpa using e1
    have p2 : (wg == 0) = false := by simpa using e2
    clear e1 e2 hw
    obtain ⟨hx0, hx1⟩ := h1.cells
    go_wp2
    go_loopw [12] (fun i wr => ∃ k : Nat, k ≤ l.length ∧ i = .int .i64 k ∧ Hid (∀ t ∈ l.take k, (isWho ws wg t && decide (t.r.ar = ar)) = false) ∧ Hid (Ch (fun _ => False) w1 wr)) (fun i _ => l.length - (intOf i).toNat)
    case atStart => exact ⟨0, Nat.zero_le _, rfl, hide (fun t ht => by simp at ht), hide (Ch.refl _ _)⟩
    case round =>
      clear a0 a1 a2 b0 b1 d0 d1 zf hx0 hx1
      obtain ⟨k, hk, rfl, HF, HC⟩ := hrel
      obtain ⟨W, rfl⟩ : ∃ W, W = wr := ⟨_, rfl⟩
      have h2 := H1.out.ch HC.out (fun h => h) (fun _ _ h => h) (fun _ _ h => h)
      obtain ⟨hx0, hx1⟩ := h2.cells
      have e1 := Lib.cell_of_heap (HC.out.box N1.out (fun h => h))
      have e3 := HC.out.box N3.out (fun h => h)
      have e3' := Lib.cell_of_heap e3
      have b0 : W.cell? ⟨w.heap.size + 1, 0, none⟩ = some (.int .u32 ws) := by simp [e1]
      have b1 : W.cell? ⟨w.heap.size + 1, 1, none⟩ = some (.int .u32 wg) := by simp [e1]
      have d0 : W.cell? ⟨w.heap.size + 3, 0, none⟩ = some (.int .u32 0) := by simp [e3']
      have d1 : W.cell? ⟨w.heap.size + 3, 1, none⟩ = some (.int .u32 0) := by simp [e3']
      have zf : ∀ j, W.frozen? ⟨w.heap.size + 3, j, none⟩ = false := fun j => by simp [World.frozen?, e3]
      clear e1 e3 e3'
      by_cases hlt : k < l.length
      · obtain ⟨ga, gc, oa, oc, e1, e2, k1, k2, -, -, hcell, hov, -⟩ := h2.at (by omega)
        cases e1
        cases e2
        have q1 : decide ((k : Int) < (l.length : Int)) = true := decide_eq_true (by omega)
        have y2 := hcell k hlt 2 (.int .u32 l[k].r.ws) rfl
        have y3 := hcell k hlt 3 (.int .u32 l[k].r.wg) rfl
        have y7 := hcell k hlt 7 (.int .i64 l[k].r.ar) rfl
        have yo := hov k hlt
        have HN := hide (show (isWho ws wg l[k] && decide (l[k].r.ar = ar)) = false → ∀ t ∈ l.take (k + 1), (isWho ws wg t && decide (t.r.ar = ar)) = false from fun hb t ht => by
          rw [List.take_succ_eq_append_getElem hlt] at ht
          rcases List.mem_append.1 ht with ht | ht
          · exact HF.out t ht
          · rw [List.mem_singleton.1 ht]; exact hb)
        have HY := hide (show (isWho ws wg l[k] && decide (l[k].r.ar = ar)) = true → twW l ws wg ar = true from fun hb => by
          unfold twW
          rw [List.any_eq_true]
          exact ⟨l[k], List.getElem_mem _, hb⟩)
        generalize l[k] = z at y2 y3 y7 yo HN HY
        clear hcell hov h2
        cases hd : z.o
        · rw [hd] at yo
          by_cases es : z.r.ws = ws
          · have qs : (z.r.ws == ws) = true := by simpa using es
            have HES := hide es
            clear es
            by_cases eg : z.r.wg = wg
            · have qg : (z.r.wg == wg) = true := by simpa using eg
              have HEG := hide eg
              clear eg
              by_cases ea : z.r.ar = ar
              · have qa : (z.r.ar == ar) = true := by simpa using ea
                have HEA := hide ea
                clear ea
                go_wp2
                go_quiet (fail)
                generalize hV : W.drewN nq = V
                have cV : Ch (fun _ => False) W V := by rw [← hV]; exact Ch.drewN _ _
                have CW : ∀ p, V.cell? p = W.cell? p := by rw [← hV]; exact fun _ => rfl
                have CZ : ∀ p, V.frozen? p = W.frozen? p := by rw [← hV]; exact fun _ => rfl
                have fzV := fun o => (CZ ⟨w.heap.size + 3, o, none⟩).trans (zf o)
                rw [← CW] at y2 y3 y7 yo hx0 hx1 b0 b1 d0 d1
                clear hV CW CZ
                have HQ := hide (show (isWho ws wg z && decide (z.r.ar = ar)) = true by simp [isWho, hd, HES.out, HEG.out, HEA.out])
                go_wp2
                refine H113.out (HY.out HQ.out) _ _ rfl rfl ?_ ?_ ?_
                · simp [go_sem, d0]
                · simp [go_sem, d1]
                · exact (((HB1.out.trans ((HC.out.trans cV (fun _ _ h => h)).below (N := w.heap.size) (by omega) (fun _ _ h => h))).setCell (p := ⟨w.heap.size + 3, 0, none⟩) (by simp) _).setCell (p := ⟨w.heap.size + 3, 1, none⟩) (by simp) _)
              · have qa : (z.r.ar == ar) = false := by simpa using ea
                have HEA := hide ea
                clear ea
                go_wp2
                go_quiet (fail)
                generalize hV : W.drewN nq = V
                have cV : Ch (fun _ => False) W V := by rw [← hV]; exact Ch.drewN _ _
                have CW : ∀ p, V.cell? p = W.cell? p := by rw [← hV]; exact fun _ => rfl
                have CZ : ∀ p, V.frozen? p = W.frozen? p := by rw [← hV]; exact fun _ => rfl
                have fzV := fun o => (CZ ⟨w.heap.size + 3, o, none⟩).trans (zf o)
                rw [← CW] at y2 y3 y7 yo hx0 hx1 b0 b1 d0 d1
                clear hV CW CZ
                have HQ := hide (show (isWho ws wg z && decide (z.r.ar = ar)) = false by simp [HEA.out])
                go_wp2
                go_roundw
                case rel => exact ⟨k + 1, by omega, by go_num, hide (fun t ht => (HN.out HQ.out t ht)), hide (HC.out.trans cV (fun _ _ h => h))⟩
                case measure => simp [intOf]; omega
            · have qg : (z.r.wg == wg) = false := by simpa using eg
              have HEG := hide eg
              clear eg
              go_wp2
              go_quiet (fail)
              generalize hV : W.drewN nq = V
              have cV : Ch (fun _ => False) W V := by rw [← hV]; exact Ch.drewN _ _
              have CW : ∀ p, V.cell? p = W.cell? p := by rw [← hV]; exact fun _ => rfl
              have CZ : ∀ p, V.frozen? p = W.frozen? p := by rw [← hV]; exact fun _ => rfl
              have fzV := fun o => (CZ ⟨w.heap.size + 3, o, none⟩).trans (zf o)
              rw [← CW] at y2 y3 y7 yo hx0 hx1 b0 b1 d0 d1
              clear hV CW CZ
              have HQ := hide (show (isWho ws wg z && decide (z.r.ar = ar)) = false by simp [isWho, HEG.out])
              go_wp2
              go_roundw
              case rel => exact ⟨k + 1, by omega, by go_num, hide (fun t ht => (HN.out HQ.out t ht)), hide (HC.out.trans cV (fun _ _ h => h))⟩
              case measure => simp [intOf]; omega
          · have qs : (z.r.ws == ws) = false := by simpa using es
            have HES := hide es
            clear es
            go_wp2
            go_quiet (fail)
            generalize hV : W.drewN nq = V
            have cV : Ch (fun _ => False) W V := by rw [← hV]; exact Ch.drewN _ _
            have CW : ∀ p, V.cell? p = W.cell? p := by rw [← hV]; exact fun _ => rfl
            have CZ : ∀ p, V.frozen? p = W.frozen? p := by rw [← hV]; exact fun _ => rfl
            have fzV := fun o => (CZ ⟨w.heap.size + 3, o, none⟩).trans (zf o)
            rw [← CW] at y2 y3 y7 yo hx0 hx1 b0 b1 d0 d1
            clear hV CW CZ
            have HQ := hide (show (isWho ws wg z && decide (z.r.ar = ar)) = false by simp [isWho, HES.out])
            go_wp2
            go_roundw
            case rel => exact ⟨k + 1, by omega, by go_num, hide (fun t ht => (HN.out HQ.out t ht)), hide (HC.out.trans cV (fun _ _ h => h))⟩
            case measure => simp [intOf]; omega
        · rw [hd] at yo
          go_wp2
          go_quiet (fail)
          generalize hV : W.drewN nq = V
          have cV : Ch (fun _ => False) W V := by rw [← hV]; exact Ch.drewN _ _
          have CW : ∀ p, V.cell? p = W.cell? p := by rw [← hV]; exact fun _ => rfl
          have CZ : ∀ p, V.frozen? p = W.frozen? p := by rw [← hV]; exact fun _ => rfl
          have fzV := fun o => (CZ ⟨w.heap.size + 3, o, none⟩).trans (zf o)
          rw [← CW] at y2 y3 y7 yo hx0 hx1 b0 b1 d0 d1
          clear hV CW CZ
          have HQ := hide (show (isWho ws wg z && decide (z.r.ar = ar)) = false by simp [isWho, hd])
          go_wp2
          go_roundw
          case rel => exact ⟨k + 1, by omega, by go_num, hide (fun t ht => (HN.out HQ.out t ht)), hide (HC.out.trans cV (fun _ _ h => h))⟩
          case measure => simp [intOf]; omega
      · have ek : l.take k = l := List.take_of_length_le (by omega)
        rw [ek] at HF
        have HE := hide (show twW l ws wg ar = false by unfold twW; rw [List.any_eq_false]; exact fun t ht => by rw [HF.out t ht]; simp)
        have q1 : decide ((k : Int) < (l.length : Int)) = false := decide_eq_false (by omega)
        go_wp2
        apply NX.out HE.out
        exact HC.out
  · have p1 : (ws == 0) = false := by simpa using e1
    clear e1 hw
    obtain ⟨hx0, hx1⟩ := h1.cells
    go_wp2
    go_loopw [12] (fun i wr => ∃ k : Nat, k ≤ l.length ∧ i = .int .i64 k ∧ Hid (∀ t ∈ l.take k, (isWho ws wg t && decide (t.r.ar = ar)) = false) ∧ Hid (Ch (fun _ => False) w1 wr)) (fun i _ => l.length - (intOf i).toNat)
    case atStart => exact ⟨0, Nat.zero_le _, rfl, hide (fun t ht => by simp at ht), hide (Ch.refl _ _)⟩
    case round =>
      clear a0 a1 a2 b0 b1 d0 d1 zf hx0 hx1
      obtain ⟨k, hk, rfl, HF, HC⟩ := hrel
      obtain ⟨W, rfl⟩ : ∃ W, W = wr := ⟨_, rfl⟩
      have h2 := H1.out.ch HC.out (fun h => h) (fun _ _ h => h) (fun _ _ h => h)
      obtain ⟨hx0, hx1⟩ := h2.cells
      have e1 := Lib.cell_of_heap (HC.out.box N1.out (fun h => h))
      have e3 := HC.out.box N3.out (fun h => h)
      have e3' := Lib.cell_of_heap e3
      have b0 : W.cell? ⟨w.heap.size + 1, 0, none⟩ = some (.int .u32 ws) := by simp [e1]
      have b1 : W.cell? ⟨w.heap.size + 1, 1, none⟩ = some (.int .u32 wg) := by simp [e1]
      have d0 : W.cell? ⟨w.heap.size + 3, 0, none⟩ = some (.int .u32 0) := by simp [e3']
      have d1 : W.cell? ⟨w.heap.size + 3, 1, none⟩ = some (.int .u32 0) := by simp [e3']
      have zf : ∀ j, W.frozen? ⟨w.heap.size + 3, j, none⟩ = false := fun j => by simp [World.frozen?, e3]
      clear e1 e3 e3'
      by_cases hlt : k < l.length
      · obtain ⟨ga, gc, oa, oc, e1, e2, k1, k2, -, -, hcell, hov, -⟩ := h2.at (by omega)
        cases e1
        cases e2
        have q1 : decide ((k : Int) < (l.length : Int)) = true := decide_eq_true (by omega)
        have y2 := hcell k hlt 2 (.int .u32 l[k].r.ws) rfl
        have y3 := hcell k hlt 3 (.int .u32 l[k].r.wg) rfl
        have y7 := hcell k hlt 7 (.int .i64 l[k].r.ar) rfl
        have yo := hov k hlt
        have HN := hide (show (isWho ws wg l[k] && decide (l[k].r.ar = ar)) = false → ∀ t ∈ l.take (k + 1), (isWho ws wg t && decide (t.r.ar = ar)) = false from fun hb t ht => by
          rw [List.take_succ_eq_append_getElem hlt] at ht
          rcases List.mem_append.1 ht with ht | ht
          · exact HF.out t ht
          · rw [List.mem_singleton.1 ht]; exact hb)
        have HY := hide (show (isWho ws wg l[k] && decide (l[k].r.ar = ar)) = true → twW l ws wg ar = true from fun hb => by
          unfold twW
          rw [List.any_eq_true]
          exact ⟨l[k], List.getElem_mem _, hb⟩)
        generalize l[k] = z at y2 y3 y7 yo HN HY
        clear hcell hov h2
        cases hd : z.o
        · rw [hd] at yo
          by_cases es : z.r.ws = ws
          · have qs : (z.r.ws == ws) = true := by simpa using es
            have HES := hide es
            clear es
            by_cases eg : z.r.wg = wg
            · have qg : (z.r.wg == wg) = true := by simpa using eg
              have HEG := hide eg
              clear eg
              by_cases ea : z.r.ar = ar
              · have qa : (z.r.ar == ar) = true := by simpa using ea
                have HEA := hide ea
                clear ea
                go_wp2
                go_quiet (fail)
                generalize hV : W.drewN nq = V
                have cV : Ch (fun _ => False) W V := by rw [← hV]; exact Ch.drewN _ _
                have CW : ∀ p, V.cell? p = W.cell? p := by rw [← hV]; exact fun _ => rfl
                have CZ : ∀ p, V.frozen? p = W.frozen? p := by rw [← hV]; exact fun _ => rfl
                have fzV := fun o => (CZ ⟨w.heap.size + 3, o, none⟩).trans (zf o)
                rw [← CW] at y2 y3 y7 yo hx0 hx1 b0 b1 d0 d1
                clear hV CW CZ
                have HQ := hide (show (isWho ws wg z && decide (z.r.ar = ar)) = true by simp [isWho, hd, HES.out, HEG.out, HEA.out])
                go_wp2
                refine H113.out (HY.out HQ.out) _ _ rfl rfl ?_ ?_ ?_
                · simp [go_sem, d0]
                · simp [go_sem, d1]
                · exact (((HB1.out.trans ((HC.out.trans cV (fun _ _ h => h)).below (N := w.heap.size) (by omega) (fun _ _ h => h))).setCell (p := ⟨w.heap.size + 3, 0, none⟩) (by simp) _).setCell (p := ⟨w.heap.size + 3, 1, none⟩) (by simp) _)
              · have qa : (z.r.ar == ar) = false := by simpa using ea
                have HEA := hide ea
                clear ea
                go_wp2
                go_quiet (fail)
                generalize hV : W.drewN nq = V
                have cV : Ch (fun _ => False) W V := by rw [← hV]; exact Ch.drewN _ _
                have CW : ∀ p, V.cell? p = W.cell? p := by rw [← hV]; exact fun _ => rfl
                have CZ : ∀ p, V.frozen? p = W.frozen? p := by rw [← hV]; exact fun _ => rfl
                have fzV := fun o => (CZ ⟨w.heap.size + 3, o, none⟩).trans (zf o)
                rw [← CW] at y2 y3 y7 yo hx0 hx1 b0 b1 d0 d1
                clear hV CW CZ
                have HQ := hide (show (isWho ws wg z && decide (z.r.ar = ar)) = false by simp [HEA.out])
                go_wp2
                go_roundw
                case rel => exact ⟨k + 1, by omega, by go_num, hide (fun t ht => (HN.out HQ.out t ht)), hide (HC.out.trans cV (fun _ _ h => h))⟩
                case measure => simp [intOf]; omega
            · have qg : (z.r.wg == wg) = false := by simpa using eg
              have HEG := hide eg
              clear eg
              go_wp2
              go_quiet (fail)
              generalize hV : W.drewN nq = V
              have cV : Ch (fun _ => False) W V := by rw [← hV]; exact Ch.drewN _ _
              have CW : ∀ p, V.cell? p = W.cell? p := by rw [← hV]; exact fun _ => rfl
              have CZ : ∀ p, V.frozen? p = W.frozen? p := by rw [← hV]; exact fun _ => rfl
              have fzV := fun o => (CZ ⟨w.heap.size + 3, o, none⟩).trans (zf o)
              rw [← CW] at y2 y3 y7 yo hx0 hx1 b0 b1 d0 d1
              clear hV CW CZ
              have HQ := hide (show (isWho ws wg z && decide (z.r.ar = ar)) = false by simp [isWho, HEG.out])
              go_wp2
              go_roundw
              case rel => exact ⟨k + 1, by omega, by go_num, hide (fun t ht => (HN.out HQ.out t ht)), hide (HC.out.trans cV (fun _ _ h => h))⟩
              case measure => simp [intOf]; omega
          · have qs : (z.r.ws == ws) = false := by simpa using es
            have HES := hide es
            clear es
            go_wp2
            go_quiet (fail)
            generalize hV : W.drewN nq = V
            have cV : Ch (fun _ => False) W V := by rw [← hV]; exact Ch.drewN _ _
            have CW : ∀ p, V.cell? p = W.cell? p := by rw [← hV]; exact fun _ => rfl
            have CZ : ∀ p, V.frozen? p = W.frozen? p := by rw [← hV]; exact fun _ => rfl
            have fzV := fun o => (CZ ⟨w.heap.size + 3, o, none⟩).trans (zf o)
            rw [← CW] at y2 y3 y7 yo hx0 hx1 b0 b1 d0 d1
            clear hV CW CZ
            have HQ := hide (show (isWho ws wg z && decide (z.r.ar = ar)) = false by simp [isWho, HES.out])
            go_wp2
            go_roundw
            case rel => exact ⟨k + 1, by omega, by go_num, hide (fun t ht => (HN.out HQ.out t ht)), hide (HC.out.trans cV (fun _ _ h => h))⟩
            case measure => simp [intOf]; omega
        · rw [hd] at yo
          go_wp2
          go_quiet (fail)
          generalize hV : W.drewN nq = V
          have cV : Ch (fun _ => False) W V := by rw [← hV]; exact Ch.drewN _ _
          have CW : ∀ p, V.cell? p = W.cell? p := by rw [← hV]; exact fun _ => rfl
          have CZ : ∀ p, V.frozen? p = W.frozen? p := by rw [← hV]; exact fun _ => rfl
          have fzV := fun o => (CZ ⟨w.heap.size + 3, o, none⟩).trans (zf o)
          rw [← CW] at y2 y3 y7 yo hx0 hx1 b0 b1 d0 d1
          clear hV CW CZ
          have HQ := hide (show (isWho ws wg z && decide (z.r.ar = ar)) = false by simp [isWho, hd])
          go_wp2
          go_roundw
          case rel => exact ⟨k + 1, by omega, by go_num, hide (fun t ht => (HN.out HQ.out t ht)), hide (HC.out.trans cV (fun _ _ h => h))⟩
          case measure => simp [intOf]; omega
      · have ek : l.take k = l := List.take_of_length_le (by omega)
        rw [ek] at HF
        have HE := hide (show twW l ws wg ar = false by unfold twW; rw [List.any_eq_false]; exact fun t ht => by rw [HF.out t ht]; simp)
        have q1 : decide ((k : Int) < (l.length : Int)) = false := decide_eq_false (by omega)
        go_wp2
        apply NX.out HE.out
        exact HC.out

end Go.Proofs.Ythnnpipekeanoaa
