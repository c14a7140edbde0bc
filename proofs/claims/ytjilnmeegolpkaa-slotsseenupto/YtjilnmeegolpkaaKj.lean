/- Layer 10: SlotsSeen: gone over again, and its end. -/
import Derived.Test.YtjilnmeegolpkaaKi
namespace Go.Proofs.Ytjilnmeegolpkaa
open Go.RowKit Go.Shelf

attribute [local go_sem] Oper.semAt_some

def rest4 : Code → Code
  | .seq _ (.seq _ (.seq _ (.seq _ r))) => r
  | c => c

abbrev re0 : Oper := { dst := some 206, op := Op.load 4 (Operand.tmp 15), type := 4, pos := "law.go:270", after := #[], guard := none }
abbrev re1 : Oper := { dst := some 207, op := Op.move (Operand.tmp 206), type := 4, pos := "law.go:270", after := #[{ on := 0, ground := Ground.data }], guard := none }
abbrev re2 : Oper := { dst := some 208, op := Op.load 3 (Operand.tmp 24), type := 3, pos := "law.go:270", after := #[{ on := 1, ground := Ground.guard }], guard := some (1, true) }
abbrev re3 : Oper := { dst := some 209, op := Op.load 58 (Operand.tmp 8), type := 58, pos := "law.go:270", after := #[{ on := 1, ground := Ground.guard }], guard := some (1, true) }
abbrev re4 : Oper := { dst := some 210, op := Op.call { callee := Callee.value (Operand.func 28), args := #[Operand.tmp 209], argTypes := #[58] }, type := 3, pos := "law.go:270", after := #[{ on := 3, ground := Ground.data }, { on := 1, ground := Ground.chain }, { on := 1, ground := Ground.guard }], guard := some (1, true) }
abbrev re5 : Oper := { dst := some 211, op := Op.binOp BinOp.eql 3 (Operand.tmp 208) (Operand.tmp 210) 3, type := 4, pos := "law.go:270", after := #[{ on := 2, ground := Ground.data }, { on := 4, ground := Ground.data }, { on := 1, ground := Ground.guard }], guard := some (1, true) }
abbrev re6 : Oper := { dst := some 212, op := Op.pick (Operand.tmp 207) (Operand.tmp 211) (Operand.const (Value.bool false)), type := 4, pos := "law.go:270", after := #[{ on := 1, ground := Ground.data }, { on := 5, ground := Ground.data }], guard := none }
abbrev re7 : Oper := { dst := some 6, op := Op.assign (Operand.tmp 212), type := 4, pos := "law.go:270", after := #[{ on := 6, ground := Ground.data }, { on := 4, ground := Ground.chain }, { on := 0, ground := Ground.phase }, { on := 1, ground := Ground.phase }, { on := 2, ground := Ground.phase }, { on := 3, ground := Ground.phase }, { on := 4, ground := Ground.phase }, { on := 5, ground := Ground.phase }, { on := 6, ground := Ground.phase }], guard := none }

set_option maxRecDepth 100000 in
set_option maxHeartbeats 8000000 in
theorem seen_end {u0 u1 u2 u6 u7 u9 u11 u12 u13 u17 u18 u19 u20 u21 u22 u23 u24 u25 u26 u27 u28 u29 u30 u31 u32 u33 u34 u35 u36 u37 u38 u39 u40 u41 u42 u43 u44 u45 u46 u47 u48 u49 u50 u51 u52 u53 u54 u55 u56 u57 u58 u59 u60 u61 u62 u63 u64 u65 u66 u67 u68 u69 u70 u71 u72 u73 u74 u75 u76 u77 u78 u79 u80 u81 u82 u83 u84 u85 u86 u87 u88 u89 u90 u91 u92 u93 u94 u95 u96 u97 u98 u99 u100 u101 u102 u103 u104 u105 u106 u107 u108 u109 u110 u111 u112 u113 u114 u115 u116 u117 u118 u119 u120 u121 u122 u123 u124 u125 u126 u127 u128 u129 u130 u131 u132 u133 u134 u135 u136 u137 u138 u139 u140 u141 u142 u143 u144 u145 u146 u147 u148 u149 u150 u151 u152 u153 u154 u155 u156 u157 u158 u159 u160 u161 u162 u163 u164 u165 u166 u167 u168 u169 u170 u171 u172 u173 u174 u175 u176 u177 u178 u179 u180 u181 u182 u183 u184 u185 u186 u187 u188 u189 u190 u191 u192 u193 u194 u195 u196 u197 u198 u199 u200 u201 u202 u203 u204 u205 u206 u207 u208 u209 u210 u211 u212 : Value} {w0 W : World} {ss ins : List ByteArray} {os : List Int} {la oa ia : Option Addr} {lc oc ic p g a8 a10 B D n14 o15 bx m : Nat} {F : Nat → Prop} {l : List (ThG Pa)} {hv' : Value} (h : Sn w0 (.slice la ss.length lc) (.slice oa os.length oc) (.slice ia ins.length ic) p g a8 a10 B F W l hv' m) (hl : l.length ≤ 200) (bn : Boxed W n14 3 (.int .i64 (m : Int))) (bo : Boxed W o15 4 (.bool true)) (ho : B ≤ o15) (bb : Boxed W bx 58 (.pointer (some ⟨p, 0, none⟩))) (hD : w0.heap.size ≤ D) (hdef : W.heap[D]? = some (.deferred (some []))) :
    (rest4 (rest6 (Try.f5.body.getD .skip))).wp Try.prog (bodyPostM Fence.wide 20 Try.prog Try.f5 (fun e w' => e = .returned (.bool true) ∧ Below w0.heap.size w0 w')) { tmps := List.toArray (u0 :: u1 :: u2 :: (.pointer (some ⟨w0.heap.size, 0, none⟩)) :: (.pointer (some ⟨w0.heap.size + 1, 0, none⟩)) :: (.pointer (some ⟨w0.heap.size + 2, 0, none⟩)) :: u6 :: u7 :: (.pointer (some ⟨a8, 0, none⟩)) :: u9 :: (.pointer (some ⟨a10, 0, none⟩)) :: u11 :: u12 :: u13 :: (.pointer (some ⟨n14, 0, none⟩)) :: (.pointer (some ⟨o15, 0, none⟩)) :: (.func (.func 42) #[] #[.pointer (some ⟨bx, 0, none⟩)]) :: u17 :: u18 :: u19 :: u20 :: u21 :: u22 :: u23 :: u24 :: u25 :: u26 :: u27 :: u28 :: u29 :: u30 :: u31 :: u32 :: u33 :: u34 :: u35 :: u36 :: u37 :: u38 :: u39 :: u40 :: u41 :: u42 :: u43 :: u44 :: u45 :: u46 :: u47 :: u48 :: u49 :: u50 :: u51 :: u52 :: u53 :: u54 :: u55 :: u56 :: u57 :: u58 :: u59 :: u60 :: u61 :: u62 :: u63 :: u64 :: u65 :: u66 :: u67 :: u68 :: u69 :: u70 :: u71 :: u72 :: u73 :: u74 :: u75 :: u76 :: u77 :: u78 :: u79 :: u80 :: u81 :: u82 :: u83 :: u84 :: u85 :: u86 :: u87 :: u88 :: u89 :: u90 :: u91 :: u92 :: u93 :: u94 :: u95 :: u96 :: u97 :: u98 :: u99 :: u100 :: u101 :: u102 :: u103 :: u104 :: u105 :: u106 :: u107 :: u108 :: u109 :: u110 :: u111 :: u112 :: u113 :: u114 :: u115 :: u116 :: u117 :: u118 :: u119 :: u120 :: u121 :: u122 :: u123 :: u124 :: u125 :: u126 :: u127 :: u128 :: u129 :: u130 :: u131 :: u132 :: u133 :: u134 :: u135 :: u136 :: u137 :: u138 :: u139 :: u140 :: u141 :: u142 :: u143 :: u144 :: u145 :: u146 :: u147 :: u148 :: u149 :: u150 :: u151 :: u152 :: u153 :: u154 :: u155 :: u156 :: u157 :: u158 :: u159 :: u160 :: u161 :: u162 :: u163 :: u164 :: u165 :: u166 :: u167 :: u168 :: u169 :: u170 :: u171 :: u172 :: u173 :: u174 :: u175 :: u176 :: u177 :: u178 :: u179 :: u180 :: u181 :: u182 :: u183 :: u184 :: u185 :: u186 :: u187 :: u188 :: u189 :: u190 :: u191 :: u192 :: u193 :: u194 :: u195 :: u196 :: u197 :: u198 :: u199 :: u200 :: u201 :: u202 :: u203 :: u204 :: u205 :: u206 :: u207 :: u208 :: u209 :: u210 :: u211 :: u212 :: []), defers := [{ target := .collected D, args := #[] }] } W := by
  obtain ⟨Q, hQ⟩ : ∃ Q, bodyPostM Fence.wide 20 Try.prog Try.f5 (fun e w' => e = .returned (.bool true) ∧ Below w0.heap.size w0 w') = Q := ⟨_, rfl⟩
  rw [hQ]
  have HQ := hide hQ
  clear hQ
  obtain ⟨ha, hc, e, -, -⟩ := h.hs.form
  rw [hsl_len] at e
  subst e
  have y1 := bo.cell
  have y2 := bn.cell
  have y3 := h.bh.cell
  obtain ⟨W2, hW2⟩ : ∃ W2, W.alloc (.cells #[.int .i64 0] 3) = W2 := ⟨_, rfl⟩
  have c2 : Ch (fun _ => False) W W2 := by rw [← hW2]; exact Ch.alloc _ _
  have s2 : W2.heap.size = W.heap.size + 1 := by rw [← hW2]; simp
  have H2 := hide (h.ch0 c2)
  have bm2 : Boxed W2 W.heap.size 3 (.int .i64 0) := by rw [← hW2]; exact Boxed.new W _ _
  have bo2 : Boxed W2 o15 4 (.bool true) := c2.box bo (fun h => h)
  have bb2 : Boxed W2 bx 58 (.pointer (some ⟨p, 0, none⟩)) := c2.box bb (fun h => h)
  have hd2 := c2.box hdef (fun h => h)
  have hlB := h.lB
  have hBW : B ≤ W.heap.size := by have := h.l8; have := h.b8.lt; omega
  have hoW := bo.lt
  have hDW := (Array.getElem?_eq_some_iff.1 hdef).1
  have hDo : D ≠ o15 := fun e => by
    subst e
    rw [show W.heap[D]? = some (.cells #[.bool true] 4 (0, 0)) from bo] at hdef
    cases hdef
  dsimp only [rest4, rest6, Try.f5, Option.getD]
  have HW2 := hide hW2
  clear h bn bo bb hdef c2 hW2
  go_wp2
  rw [HW2.out]
  clear HW2 y1 y2 y3
  rename_i K1 hK1
  have hseq := faceP.stops 19 (by decide) (PT := PTP) ⟨g, H2.out.tb⟩ (Sq := SqP) (B' := 0) (G := fun x => x = bx) ⟨rfl, bx, rfl, bb2, Nat.zero_le _, fun _ => Iff.rfl⟩
  refine (wpIn_wide (n := 20)).1 ?_
  refine range_is (by decide) (gf := 42) (lb := #[.pointer (some ⟨bx, 0, none⟩)]) rfl (enters_of Try.func42 (by kernel_rfl) rfl) hseq (fun h k => h.trans k) (fun W l o o' _ h hc _ => Kc.put W l o o' h hc) (fun i h => by simp)
    (fun i V => Boxed V W.heap.size 3 (.int .i64 (i : Int)) ∧ Boxed V o15 4 (.bool true) ∧ Ch (fun x => x = W.heap.size ∨ x = o15) W2 V) (fun _ _ _ => False) ?own (fun c => ownFrom_pure _ _) ⟨bm2, bo2, Ch.refl _ _⟩
    (fun i a' V => ∃ t : ThG Pa, (lvp l)[i]? = some t ∧ ∃ A X, W2.heap.size ≤ A ∧ W2.heap.size ≤ X ∧ V.heap[A]? = some (.cells #[.int .u32 t.s, .int .u32 t.g] 39 (0, 0)) ∧ V.heap[X]? = some (.cells #[.string t.x.A, .slice t.x.a t.x.n t.x.c] 62 (0, 0)) ∧ ∃ u175 u176 u177 u178 u179 u180 u181 u182 u183 u184 u185 : Value, a' = { tmps := List.toArray (u0 :: u1 :: u2 :: (.pointer (some ⟨w0.heap.size, 0, none⟩)) :: (.pointer (some ⟨w0.heap.size + 1, 0, none⟩)) :: (.pointer (some ⟨w0.heap.size + 2, 0, none⟩)) :: u6 :: u7 :: (.pointer (some ⟨a8, 0, none⟩)) :: u9 :: (.pointer (some ⟨a10, 0, none⟩)) :: u11 :: u12 :: u13 :: (.pointer (some ⟨n14, 0, none⟩)) :: (.pointer (some ⟨o15, 0, none⟩)) :: (.func (.func 42) #[] #[.pointer (some ⟨bx, 0, none⟩)]) :: u17 :: u18 :: u19 :: u20 :: u21 :: u22 :: u23 :: (.pointer (some ⟨W.heap.size, 0, none⟩)) :: (.pointer (some ⟨A, 0, none⟩)) :: (.pointer (some ⟨X, 0, none⟩)) :: u27 :: u28 :: u29 :: u30 :: u31 :: u32 :: u33 :: u34 :: u35 :: u36 :: u37 :: u38 :: u39 :: u40 :: u41 :: u42 :: u43 :: u44 :: u45 :: u46 :: u47 :: u48 :: u49 :: u50 :: u51 :: u52 :: u53 :: u54 :: u55 :: u56 :: u57 :: u58 :: u59 :: u60 :: u61 :: u62 :: u63 :: u64 :: u65 :: u66 :: u67 :: u68 :: u69 :: u70 :: u71 :: u72 :: u73 :: u74 :: u75 :: u76 :: u77 :: u78 :: u79 :: u80 :: u81 :: u82 :: u83 :: u84 :: u85 :: u86 :: u87 :: u88 :: u89 :: u90 :: u91 :: u92 :: u93 :: u94 :: u95 :: u96 :: u97 :: u98 :: u99 :: u100 :: u101 :: u102 :: u103 :: u104 :: u105 :: u106 :: u107 :: u108 :: u109 :: u110 :: u111 :: u112 :: u113 :: u114 :: u115 :: u116 :: u117 :: u118 :: u119 :: u120 :: u121 :: u122 :: u123 :: u124 :: u125 :: u126 :: u127 :: u128 :: u129 :: u130 :: u131 :: u132 :: u133 :: u134 :: u135 :: u136 :: u137 :: u138 :: u139 :: u140 :: u141 :: u142 :: u143 :: u144 :: u145 :: u146 :: u147 :: u148 :: u149 :: u150 :: u151 :: u152 :: u153 :: u154 :: u155 :: u156 :: u157 :: u158 :: u159 :: u160 :: u161 :: u162 :: u163 :: u164 :: u165 :: u166 :: u167 :: u168 :: u169 :: u170 :: u171 :: u172 :: u173 :: u174 :: u175 :: u176 :: u177 :: u178 :: u179 :: u180 :: u181 :: u182 :: u183 :: u184 :: u185 :: u186 :: u187 :: u188 :: u189 :: u190 :: u191 :: u192 :: u193 :: u194 :: u195 :: u196 :: u197 :: u198 :: u199 :: u200 :: u201 :: u202 :: u203 :: u204 :: u205 :: u206 :: u207 :: u208 :: u209 :: u210 :: u211 :: u212 :: []), defers := [] }) ?ownA ?assign ?body ?done (fun _ _ _ _ _ _ h => h.elim)
  case own =>
    rintro i X Y row ⟨h4, h5, h6⟩ hg hr
    obtain ⟨k1, k2⟩ := grown_cells hg hr
    exact ⟨k1.box h4 (k2 h4), k1.box h5 (k2 h5), h6.trans k1 (fun x hx e => by have := (hr x e).1; omega)⟩
  case ownA =>
    rintro i a' _ X Y row ⟨t, h0, A, Xb, hA, hX, h1, h2, h3⟩ hg hr
    obtain ⟨k1, k2⟩ := grown_cells hg hr
    exact ⟨t, h0, A, Xb, hA, hX, k1.box h1 (k2 h1), k1.box h2 (k2 h2), h3⟩
  case assign =>
    rintro lp i hi V K ⟨h4, h5, h6⟩ hK
    have hi' : i < (lvp l).length := by rw [List.length_map] at hi; exact hi
    obtain ⟨z, hz⟩ : ∃ z, (lvp l)[i] = z := ⟨_, rfl⟩
    rw [List.getElem_map, hz]
    gi_wp2
    have ca : Ch (fun _ => False) V ((V.alloc (.cells #[.int .u32 z.s, .int .u32 z.g] 39)).alloc (.cells #[.string z.x.A, .slice z.x.a z.x.n z.x.c] 62)) := (Ch.alloc _ _).trans (Ch.alloc _ _) (fun _ _ h => h)
    have hsz := h6.size
    refine hK _ _ (keeps_of_ch ca (fun _ h => h.elim)) (Kc.of_ch ca (fun _ h => h.elim)) ⟨ca.box h4 (fun h => h), ca.box h5 (fun h => h), h6.trans ca (fun _ _ h => h.elim)⟩ ⟨z, by rw [List.getElem?_eq_getElem hi', hz], V.heap.size, V.heap.size + 1, hsz, by omega, ?_, ?_, _, _, _, _, _, _, _, _, _, _, _, rfl⟩
    · exact (Ch.alloc (Q := fun _ => False) _ _).box (heap_new V _) (fun h => h)
    · have := heap_new (V.alloc (.cells #[.int .u32 z.s, .int .u32 z.g] 39)) (.cells #[.string z.x.A, .slice z.x.a z.x.n z.x.c] 62)
      rwa [World.size_alloc] at this
  case body =>
    rintro lp i hi a' V hlp - ⟨h4, h5, h6⟩ ⟨t, h0, A, Xb, hA, hX, hA', hX', v175, v176, v177, v178, v179, v180, v181, v182, v183, v184, v185, rfl⟩
    have ht : t ∈ lvp l := List.mem_of_getElem? h0
    obtain ⟨e1, e2⟩ := gtP_live H2.out.tb.wf ht
    have hts := H2.out.tb.wf.slot t (List.mem_filter.1 ht).1
    have nno : ¬ W.heap.size = o15 := by omega
    have SV := hide (H2.out.ch h6 (fun x _ e => by omega) (fun e => by
      rcases e with e | e
      · have := H2.out.b8; exact blk_ne this bm2 (by decide) e
      · exact blk_ne H2.out.b8 bo2 (by decide) e) (fun e => by
      rcases e with e | e
      · exact blk_ne H2.out.bh bm2 (by decide) e
      · exact blk_ne H2.out.bh bo2 (by decide) e) (fun x hx e => by
      rcases e with e | e
      · subst e; exact H2.out.nF bm2 (by decide) (by decide) hx
      · subst e; exact H2.out.nF bo2 (by decide) (by decide) hx) (fun x hx e => by
      obtain ⟨_, _, cur, e3⟩ := own_in H2.out.hs hx
      rcases e with e | e
      · subst e; exact blk_ne bm2 e3 (by decide) rfl
      · subst e; exact blk_ne bo2 e3 (by decide) rfl))
    have y8 := SV.out.b8.cell
    have z0 : V.cell? ⟨A, 0, none⟩ = some (.int .u32 t.s) := by simp [Lib.cell_of_heap hA']
    have z1 : V.cell? ⟨A, 1, none⟩ = some (.int .u32 t.g) := by simp [Lib.cell_of_heap hA']
    have hget := get_isP SV.out.tb (s := t.s) (G := t.g) ⟨by omega, by omega⟩
    rw [e1, e2] at hget
    have HG := hide hget
    clear hget e1 e2
    gi_wp2
    refine ⟨trivial, (CallsIn.inRound lp (callsIn_wide.2 HG.out)).mono ?_⟩
    rintro e V3 ⟨rfl, hb3⟩
    have c3 := Ch.of_below (Q := fun _ => False) hb3
    have bm3 : Boxed V3 W.heap.size 3 (.int .i64 (i : Int)) := c3.box h4 (fun h => h)
    have bo3 : Boxed V3 o15 4 (.bool true) := c3.box h5 (fun h => h)
    have bX3 := c3.box hX' (fun h => h)
    have k1 : ∀ o, (V3.alloc o).cell? ⟨o15, 0, none⟩ = some (.bool true) := fun o => (bo3.alloc o).cell
    have k2 : ∀ o, (V3.alloc o).frozen? ⟨o15, 0, none⟩ = false := fun o => (bo3.alloc o).frozen
    have k3 : ∀ o, (V3.alloc o).cell? ⟨W.heap.size, 0, none⟩ = some (.int .i64 (i : Int)) := fun o => (bm3.alloc o).cell
    have k4 : ∀ o, (V3.alloc o).frozen? ⟨W.heap.size, 0, none⟩ = false := fun o => (bm3.alloc o).frozen
    have k5 : ∀ o, (V3.alloc o).cell? ⟨Xb, 0, none⟩ = some (.string t.x.A) := fun o => by simp [Lib.cell_of_heap ((Ch.alloc (Q := fun _ => False) V3 o).box bX3 (fun h => h))]
    have hlen : (lvp l).length ≤ 200 := Nat.le_trans (List.length_filter_le _ _) hl
    have hi' : i < (lvp l).length := by rw [List.length_map] at hi; exact hi
    have FIN := hide (show ∀ o : Obj, KeepsFrom W2.heap.size V (((V3.alloc o).setCell ⟨o15, 0, none⟩ (.bool true)).setCell ⟨W.heap.size, 0, none⟩ (.int .i64 ((i : Int) + 1))) ∧ Kc W2.heap.size V (((V3.alloc o).setCell ⟨o15, 0, none⟩ (.bool true)).setCell ⟨W.heap.size, 0, none⟩ (.int .i64 ((i : Int) + 1))) ∧ Boxed (((V3.alloc o).setCell ⟨o15, 0, none⟩ (.bool true)).setCell ⟨W.heap.size, 0, none⟩ (.int .i64 ((i : Int) + 1))) W.heap.size 3 (.int .i64 ((i + 1 : Nat) : Int)) ∧ Boxed (((V3.alloc o).setCell ⟨o15, 0, none⟩ (.bool true)).setCell ⟨W.heap.size, 0, none⟩ (.int .i64 ((i : Int) + 1))) o15 4 (.bool true) ∧ Ch (fun x => x = W.heap.size ∨ x = o15) W2 (((V3.alloc o).setCell ⟨o15, 0, none⟩ (.bool true)).setCell ⟨W.heap.size, 0, none⟩ (.int .i64 ((i : Int) + 1))) from fun o => by
      have ct : Ch (fun x => x = W.heap.size ∨ x = o15) V (((V3.alloc o).setCell ⟨o15, 0, none⟩ (.bool true)).setCell ⟨W.heap.size, 0, none⟩ (.int .i64 ((i : Int) + 1))) := (((c3.trans (Ch.alloc (Q := fun _ => False) V3 o) (fun _ _ h => h)).mono (fun _ _ h => h.elim)).trans (Ch.set (Q := fun x => x = W.heap.size ∨ x = o15) _ (Or.inr rfl) 0 _) (fun _ _ h => h)).trans (Ch.set (Q := fun x => x = W.heap.size ∨ x = o15) _ (Or.inl rfl) 0 _) (fun _ _ h => h)
      have low : ∀ x, (x = W.heap.size ∨ x = o15) → x < W2.heap.size := fun x e => by omega
      exact ⟨keeps_of_ch ct low, Kc.of_ch ct low, by rw [show ((i + 1 : Nat) : Int) = (i : Int) + 1 by omega]; exact ((bm3.alloc o).other nno _).set _, ((bo3.alloc o).set _).other (fun e => nno e.symm) _, h6.trans ct (fun _ _ h => h)⟩)
    clear y8 z0 z1 hA' hX' h4 h5 h6 SV HG hb3 c3 bX3 bm3 bo3
    gi_wp2
    exact FIN.out _
  case done =>
    rintro D2 V hD2 ⟨h4, h5, h6⟩ hdef2
    rw [List.length_map, lvp_len] at h4
    refine hK1 _ _ ?_
    clear hK1
    have hVD : V.heap[D]? = some (.deferred (some [])) := h6.box hd2 (by omega)
    have TBV := hide (H2.out.tb.ch h6 (fun x hx e => by
      rcases e with e | e
      · subst e; exact H2.out.nF bm2 (by decide) (by decide) hx
      · subst e; exact H2.out.nF bo2 (by decide) (by decide) hx))
    have b8V : Boxed V a8 _ _ := h6.box H2.out.b8 (fun e => by
      rcases e with e | e
      · exact blk_ne H2.out.b8 bm2 (by decide) e
      · exact blk_ne H2.out.b8 bo2 (by decide) e)
    have BV := hide (H2.out.be.trans (h6.below H2.out.be.size (fun x hx e => by omega)))
    have HC := hide (show ∀ wq, Ch (fun _ => False) V wq → wq.cell? ⟨o15, 0, none⟩ = some (.bool true) ∧ wq.cell? ⟨W.heap.size, 0, none⟩ = some (.int .i64 (cnt l : Int)) ∧ wq.cell? ⟨a8, 0, none⟩ = some (.pointer (some ⟨p, 0, none⟩)) from fun wq k => ⟨Boxed.cell (k.box h5 (fun h => h)), Boxed.cell (k.box h4 (fun h => h)), Boxed.cell (k.box b8V (fun h => h))⟩)
    have hVs := h6.size
    clear h4 h5 h6 b8V hd2 bm2 bo2 bb2 hseq
    go_wp2
    refine wp_then ?_
    refine wp_region_held_drew (S := Ch (fun _ => False) V) (by kernel_rfl) (Ch.drew _) (fun zk => ?_)
    apply tk 0 re0 rfl (by kernel_rfl) (fun _ _ _ h => h) zk
    · intro wq zq
      have s0 := (HC.out _ zq).1
      go_simp
      try rfl
    go_frame
    apply tk 1 re1 rfl (by kernel_rfl) (fun _ _ _ h => h) zk
    · intro wq zq
      go_simp
      try rfl
    go_frame
    apply tk 2 re2 rfl (by kernel_rfl) (fun _ _ _ h => h) zk
    · intro wq zq
      have s0 := (HC.out _ zq).2.1
      go_simp
      try rfl
    go_frame
    apply tk 3 re3 rfl (by kernel_rfl) (fun _ _ _ h => h) zk
    · intro wq zq
      have s0 := (HC.out _ zq).2.2
      go_simp
      try rfl
    go_frame
    refine rd 4 re4 rfl (by kernel_rfl) fun K hK => ?_
    go_simp
    refine (count_isP (TBV.out.ch (Ch.drew (Q := fun _ => False) _) (fun _ _ h => h))).mono ?_
    rintro e w9 ⟨rfl, hb9⟩
    have Z9 := hide (zk.trans (Ch.of_below (Q := fun _ => False) hb9) (fun _ _ h => h))
    clear hb9
    go_wp2_with fail
    refine hK.out _ _ ?_ (fun zk => ?_)
    · exact Z9.out
    clear hK K
    try go_frame
    apply tk 5 re5 rfl (by kernel_rfl) (fun _ _ _ h => h) zk
    · intro wq zq
      go_simp
      try rfl
    go_frame
    apply tk 6 re6 rfl (by kernel_rfl) (fun _ _ _ h => h) zk
    · intro wq zq
      go_simp
      try rfl
    go_frame
    apply tk 7 re7 rfl (by kernel_rfl) (fun _ _ _ h => h) zk
    · intro wq zq
      go_simp
      try rfl
    go_frame
    refine wpAnyH_done (by kernel_rfl) ?_ _
    go_wp2
    have d2 : w9.heap[D2]? = some (.deferred (some [])) := Z9.out.box hdef2 (fun h => h)
    have d1 : w9.heap[D]? = some (.deferred (some [])) := Z9.out.box hVD (fun h => h)
    have hne : D ≠ D2 := by omega
    have d1' : (w9.putObj D2 (.deferred none)).heap[D]? = some (.deferred (some [])) := (World.putObj_heap_other hne).trans d1
    have B9 := BV.out.trans (Z9.out.below (N := w0.heap.size) BV.out.size (fun _ _ h => h))
    rw [← HQ.out]
    refine ⟨by simp, .inl ⟨_, _, rfl, run_takeDeferred d2, by simp, .inl ⟨_, _, rfl, run_takeDeferred d1', ?_⟩⟩⟩
    exact ⟨_, results_tmp rfl _ _ _, rfl, B9.trans ((belowK_b (w := w0) (Nat.le_refl _) w9 D2 _ _ (by have := H2.out.be.size; omega) d2 rfl rfl).trans (belowK_b (w := w0) (Nat.le_refl _) _ D _ _ hD d1' rfl rfl))⟩

end Go.Proofs.Ytjilnmeegolpkaa
