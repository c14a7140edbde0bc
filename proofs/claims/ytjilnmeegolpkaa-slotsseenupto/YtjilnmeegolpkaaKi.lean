/- Layer 10: SlotsSeen: the first range. -/
import Derived.Test.YtjilnmeegolpkaaKh
namespace Go.Proofs.Ytjilnmeegolpkaa
open Go.RowKit Go.Shelf

attribute [local go_sem] Oper.semAt_some

def tail4 : Code → Code → Code
  | .seq a (.seq b (.seq c (.seq d _))), r => .seq a (.seq b (.seq c (.seq d r)))
  | c, _ => c

/-- a turn of blocks that are no cells -/
theorem grown_cells {B : Nat} {X Y : World} {row : Option Nat} (hg : X.grownBy Y row) (hr : ∀ r, row = some r → B ≤ r ∧ ∃ o, X.heap[r]? = some o ∧ o.isCells = false) : Ch (fun x => row = some x) X Y ∧ ∀ {x : Nat} {cs : Array Value} {T : TypeId} {r : Nat × Nat}, X.heap[x]? = some (.cells cs T r) → ¬ row = some x :=
  ⟨Ch.of_grown hg (fun _ e => e), fun hx e => by
    obtain ⟨_, o, h1, h2⟩ := hr _ e
    rw [hx] at h1
    cases h1
    cases h2⟩
theorem Sn.grown {w0 X Y : World} {lv ov iv hv' : Value} {p g a8 a10 B n : Nat} {F : Nat → Prop} {l : List (ThG Pa)} (h : Sn w0 lv ov iv p g a8 a10 B F X l hv' n) {Q : Nat → Prop} (hc : Ch Q X Y) (hq : ∀ {x : Nat} {cs : Array Value} {T : TypeId} {r : Nat × Nat}, X.heap[x]? = some (.cells cs T r) → ¬ Q x) (hB : ∀ x, Q x → B ≤ x) : Sn w0 lv ov iv p g a8 a10 B F Y l hv' n :=
  h.ch hc (fun x _ e => hB x e) (hq h.b8) (hq h.bh) (fun x hx => by
    rcases (h.tb.foot x).1 hx with rfl | rfl
    · exact hq h.tb.box
    · obtain ⟨_, _, cur, e⟩ := h.tb.own
      exact hq e) (fun x hx => by
    obtain ⟨_, _, cur, e⟩ := own_in h.hs hx
    exact hq e)

set_option maxRecDepth 100000 in
set_option maxHeartbeats 8000000 in
theorem seen_range1 {u0 u1 u2 u6 u7 u9 u11 u12 u13 u14 u15 u16 u17 u18 u19 u20 u21 u22 u23 u24 u25 u26 u27 u28 u29 u30 u31 u32 u33 u34 u35 u36 u37 u38 u39 u40 u41 u42 u43 u44 u45 u46 u47 u48 u49 u50 u51 u52 u53 u54 u55 u56 u57 u58 u59 u60 u61 u62 u63 u64 u65 u66 u67 u68 u69 u70 u71 u72 u73 u74 u75 u76 u77 u78 u79 u80 u81 u82 u83 u84 u85 u86 u87 u88 u89 u90 u91 u92 u93 u94 u95 u96 u97 u98 u99 u100 u101 u102 u103 u104 u105 u106 u107 u108 u109 u110 u111 u112 u113 u114 u115 u116 u117 u118 u119 u120 u121 u122 u123 u124 u125 u126 u127 u128 u129 u130 u131 u132 u133 u134 u135 u136 u137 u138 u139 u140 u141 u142 u143 u144 u145 u146 u147 u148 u149 u150 u151 u152 u153 u154 u155 u156 u157 u158 u159 u160 u161 u162 u163 u164 u165 u166 u167 u168 u169 u170 u171 u172 u173 u174 u175 u176 u177 u178 u179 u180 u181 u182 u183 u184 u185 u186 u187 u188 u189 u190 u191 u192 u193 u194 u195 u196 u197 u198 u199 u200 u201 u202 u203 u204 u205 u206 u207 u208 u209 u210 u211 u212 : Value} {w0 W : World} {ss ins : List ByteArray} {os : List Int} {la oa ia : Option Addr} {lb lo lc ob oo oc ib io ic p g a8 a10 B : Nat} {F : Nat → Prop} {xs : List Pa} {hv' : Value} (h : Sn w0 (.slice la ss.length lc) (.slice oa os.length oc) (.slice ia ins.length ic) p g a8 a10 B F W (row1 xs) hv' xs.length) (ht : Tg W W.heap.size ss xs) (hx : xs.length ≤ 100)
    (hla : 0 < ss.length → la = some ⟨lb, lo, none⟩ ∧ lb < w0.heap.size) (hst : ∀ i (h : i < ss.length), StAt w0 lb (lo + i * 1) ss[i])
    (hoa : 0 < os.length → oa = some ⟨ob, oo, none⟩ ∧ ob < w0.heap.size) (hom : os.length ≤ 9223372036854775807) (hos : ∀ i (h : i < os.length), w0.cell? ⟨ob, oo + i, none⟩ = some (.int .i64 os[i]) ∧ -9223372036854775808 ≤ os[i] ∧ os[i] ≤ 9223372036854775807)
    (hia : 0 < ins.length → ia = some ⟨ib, io, none⟩ ∧ ib < w0.heap.size) (him : ins.length ≤ 9223372036854775807) (his : ∀ i (h : i < ins.length), w0.cell? ⟨ib, io + i, none⟩ = some (.string ins[i]))
    {REST2 : Code} {Q : Exit → Act → World → Prop}
    (next : ∀ (u0 u1 u2 u6 u7 u9 u11 u12 u13 u17 u18 u19 u20 u21 u22 u23 u24 u25 u26 u27 u28 u29 u30 u31 u32 u33 u34 u35 u36 u37 u38 u39 u40 u41 u42 u43 u44 u45 u46 u47 u48 u49 u50 u51 u52 u53 u54 u55 u56 u57 u58 u59 u60 u61 u62 u63 u64 u65 u66 u67 u68 u69 u70 u71 u72 u73 u74 u75 u76 u77 u78 u79 u80 u81 u82 u83 u84 u85 u86 u87 u88 u89 u90 u91 u92 u93 u94 u95 u96 u97 u98 u99 u100 u101 u102 u103 u104 u105 u106 u107 u108 u109 u110 u111 u112 u113 u114 u115 u116 u117 u118 u119 u120 u121 u122 u123 u124 u125 u126 u127 u128 u129 u130 u131 u132 u133 u134 u135 u136 u137 u138 u139 u140 u141 u142 u143 u144 u145 u146 u147 u148 u149 u150 u151 u152 u153 u154 u155 u156 u157 u158 u159 u160 u161 u162 u163 u164 u165 u166 u167 u168 u169 u170 u171 u172 u173 u174 u175 u176 u177 u178 u179 u180 u181 u182 u183 u184 u185 u186 u187 u188 u189 u190 u191 u192 u193 u194 u195 u196 u197 u198 u199 u200 u201 u202 u203 u204 u205 u206 u207 u208 u209 u210 u211 u212 : Value) (D n14 o15 bx : Nat) (W' : World) (l' : List (ThG Pa)), Sn w0 (.slice la ss.length lc) (.slice oa os.length oc) (.slice ia ins.length ic) p g a8 a10 B F W' l' hv' xs.length → l'.length ≤ 200 → Boxed W' n14 3 (.int .i64 (xs.length : Int)) → Boxed W' o15 4 (.bool true) → B ≤ o15 → Boxed W' bx 58 (.pointer (some ⟨p, 0, none⟩)) → w0.heap.size ≤ D → W'.heap[D]? = some (.deferred (some [])) → REST2.wp Try.prog Q { tmps := List.toArray (u0 :: u1 :: u2 :: (.pointer (some ⟨w0.heap.size, 0, none⟩)) :: (.pointer (some ⟨w0.heap.size + 1, 0, none⟩)) :: (.pointer (some ⟨w0.heap.size + 2, 0, none⟩)) :: u6 :: u7 :: (.pointer (some ⟨a8, 0, none⟩)) :: u9 :: (.pointer (some ⟨a10, 0, none⟩)) :: u11 :: u12 :: u13 :: (.pointer (some ⟨n14, 0, none⟩)) :: (.pointer (some ⟨o15, 0, none⟩)) :: (.func (.func 42) #[] #[.pointer (some ⟨bx, 0, none⟩)]) :: u17 :: u18 :: u19 :: u20 :: u21 :: u22 :: u23 :: u24 :: u25 :: u26 :: u27 :: u28 :: u29 :: u30 :: u31 :: u32 :: u33 :: u34 :: u35 :: u36 :: u37 :: u38 :: u39 :: u40 :: u41 :: u42 :: u43 :: u44 :: u45 :: u46 :: u47 :: u48 :: u49 :: u50 :: u51 :: u52 :: u53 :: u54 :: u55 :: u56 :: u57 :: u58 :: u59 :: u60 :: u61 :: u62 :: u63 :: u64 :: u65 :: u66 :: u67 :: u68 :: u69 :: u70 :: u71 :: u72 :: u73 :: u74 :: u75 :: u76 :: u77 :: u78 :: u79 :: u80 :: u81 :: u82 :: u83 :: u84 :: u85 :: u86 :: u87 :: u88 :: u89 :: u90 :: u91 :: u92 :: u93 :: u94 :: u95 :: u96 :: u97 :: u98 :: u99 :: u100 :: u101 :: u102 :: u103 :: u104 :: u105 :: u106 :: u107 :: u108 :: u109 :: u110 :: u111 :: u112 :: u113 :: u114 :: u115 :: u116 :: u117 :: u118 :: u119 :: u120 :: u121 :: u122 :: u123 :: u124 :: u125 :: u126 :: u127 :: u128 :: u129 :: u130 :: u131 :: u132 :: u133 :: u134 :: u135 :: u136 :: u137 :: u138 :: u139 :: u140 :: u141 :: u142 :: u143 :: u144 :: u145 :: u146 :: u147 :: u148 :: u149 :: u150 :: u151 :: u152 :: u153 :: u154 :: u155 :: u156 :: u157 :: u158 :: u159 :: u160 :: u161 :: u162 :: u163 :: u164 :: u165 :: u166 :: u167 :: u168 :: u169 :: u170 :: u171 :: u172 :: u173 :: u174 :: u175 :: u176 :: u177 :: u178 :: u179 :: u180 :: u181 :: u182 :: u183 :: u184 :: u185 :: u186 :: u187 :: u188 :: u189 :: u190 :: u191 :: u192 :: u193 :: u194 :: u195 :: u196 :: u197 :: u198 :: u199 :: u200 :: u201 :: u202 :: u203 :: u204 :: u205 :: u206 :: u207 :: u208 :: u209 :: u210 :: u211 :: u212 :: []), defers := [{ target := .collected D, args := #[] }] } W') :
    (tail4 (rest6 (Try.f5.body.getD .skip)) REST2).wp Try.prog Q { tmps := List.toArray (u0 :: u1 :: u2 :: (.pointer (some ⟨w0.heap.size, 0, none⟩)) :: (.pointer (some ⟨w0.heap.size + 1, 0, none⟩)) :: (.pointer (some ⟨w0.heap.size + 2, 0, none⟩)) :: u6 :: u7 :: (.pointer (some ⟨a8, 0, none⟩)) :: u9 :: (.pointer (some ⟨a10, 0, none⟩)) :: u11 :: u12 :: u13 :: u14 :: u15 :: u16 :: u17 :: u18 :: u19 :: u20 :: u21 :: u22 :: u23 :: u24 :: u25 :: u26 :: u27 :: u28 :: u29 :: u30 :: u31 :: u32 :: u33 :: u34 :: u35 :: u36 :: u37 :: u38 :: u39 :: u40 :: u41 :: u42 :: u43 :: u44 :: u45 :: u46 :: u47 :: u48 :: u49 :: u50 :: u51 :: u52 :: u53 :: u54 :: u55 :: u56 :: u57 :: u58 :: u59 :: u60 :: u61 :: u62 :: u63 :: u64 :: u65 :: u66 :: u67 :: u68 :: u69 :: u70 :: u71 :: u72 :: u73 :: u74 :: u75 :: u76 :: u77 :: u78 :: u79 :: u80 :: u81 :: u82 :: u83 :: u84 :: u85 :: u86 :: u87 :: u88 :: u89 :: u90 :: u91 :: u92 :: u93 :: u94 :: u95 :: u96 :: u97 :: u98 :: u99 :: u100 :: u101 :: u102 :: u103 :: u104 :: u105 :: u106 :: u107 :: u108 :: u109 :: u110 :: u111 :: u112 :: u113 :: u114 :: u115 :: u116 :: u117 :: u118 :: u119 :: u120 :: u121 :: u122 :: u123 :: u124 :: u125 :: u126 :: u127 :: u128 :: u129 :: u130 :: u131 :: u132 :: u133 :: u134 :: u135 :: u136 :: u137 :: u138 :: u139 :: u140 :: u141 :: u142 :: u143 :: u144 :: u145 :: u146 :: u147 :: u148 :: u149 :: u150 :: u151 :: u152 :: u153 :: u154 :: u155 :: u156 :: u157 :: u158 :: u159 :: u160 :: u161 :: u162 :: u163 :: u164 :: u165 :: u166 :: u167 :: u168 :: u169 :: u170 :: u171 :: u172 :: u173 :: u174 :: u175 :: u176 :: u177 :: u178 :: u179 :: u180 :: u181 :: u182 :: u183 :: u184 :: u185 :: u186 :: u187 :: u188 :: u189 :: u190 :: u191 :: u192 :: u193 :: u194 :: u195 :: u196 :: u197 :: u198 :: u199 :: u200 :: u201 :: u202 :: u203 :: u204 :: u205 :: u206 :: u207 :: u208 :: u209 :: u210 :: u211 :: u212 :: []), defers := [] } W := by
  obtain ⟨W1, hW1⟩ : ∃ W1, (W.alloc (.cells #[.int .i64 0] 3)).alloc (.cells #[.bool true] 4) = W1 := ⟨_, rfl⟩
  have c1 : Ch (fun _ => False) W W1 := by rw [← hW1]; exact (Ch.alloc _ _).trans (Ch.alloc _ _) (fun _ _ h => h)
  have s1 : W1.heap.size = W.heap.size + 2 := by rw [← hW1]; simp
  have bn1 : Boxed W1 W.heap.size 3 (.int .i64 0) := by rw [← hW1]; exact (Boxed.new W _ _).alloc _
  have bo1 : Boxed W1 (W.heap.size + 1) 4 (.bool true) := by rw [← hW1]; have := Boxed.new (W.alloc (.cells #[.int .i64 0] 3)) 4 (.bool true); rwa [World.size_alloc] at this
  have H1 := hide (h.ch0 c1)
  have y8 := H1.out.b8.cell
  have hBW : B ≤ W.heap.size := by have := h.l8; have := h.b8.lt; omega
  have HTG := hide (ht.ch c1 (fun _ _ _ _ h => h))
  have NX := hide next
  have HLA := hide hla
  have HST := hide hst
  have HOA := hide hoa
  have HOS := hide hos
  have HIA := hide hia
  have HIS := hide his
  have hlB := h.lB
  clear next hla hst hoa hos hia his h ht c1
  dsimp only [tail4, rest6, Try.f5, Option.getD]
  go_wp2_with fail
  refine (all_isP W1 (.pointer (some ⟨p, 0, none⟩)) rfl).mono ?_
  rintro e w2 ⟨rfl, hw2⟩
  have s2 : w2.heap.size = W1.heap.size + 1 := by rw [hw2]; simp
  have H2 := hide (show Sn w0 (.slice la ss.length lc) (.slice oa os.length oc) (.slice ia ins.length ic) p g a8 a10 B F w2 (row1 xs) hv' xs.length by rw [hw2]; exact H1.out.below (below1 _ _))
  have bn2 : Boxed w2 W.heap.size 3 (.int .i64 0) := by rw [hw2]; exact bn1.alloc _
  have bo2 : Boxed w2 (W.heap.size + 1) 4 (.bool true) := by rw [hw2]; exact bo1.alloc _
  have bx2 : Boxed w2 (W.heap.size + 2) 58 (.pointer (some ⟨p, 0, none⟩)) := by rw [hw2, ← s1]; exact Boxed.new W1 _ _
  have HT2 := hide (show Tg w2 W.heap.size ss xs by rw [hw2]; exact HTG.out.ch (Ch.alloc (Q := fun _ => False) _ _) (fun _ _ _ _ h => h))
  clear hw2 hW1 y8 H1 HTG bn1 bo1
  go_wp2
  rename_i K1 hK1
  have hseq := faceP.stops 19 (by decide) (PT := PTP) ⟨g, H2.out.tb⟩ (Sq := SqP) (B' := 0) (G := fun x => x = W.heap.size + 2) ⟨rfl, W.heap.size + 2, rfl, bx2, Nat.zero_le _, fun _ => Iff.rfl⟩
  rw [show lvp (row1 xs) = row1 xs from lvG_row1 xs] at hseq
  refine (wpIn_wide (n := 20)).1 ?_
  refine range_is (by decide) (gf := 42) (lb := #[.pointer (some ⟨W.heap.size + 2, 0, none⟩)]) rfl (enters_of Try.func42 (by kernel_rfl) rfl) hseq (fun h k => h.trans k) (fun W l o o' _ h hc _ => Kc.put W l o o' h hc) (fun i h => by simp)
    (fun i W' => ∃ l', Hid (Sn w0 (.slice la ss.length lc) (.slice oa os.length oc) (.slice ia ins.length ic) p g a8 a10 B F W' l' hv' xs.length) ∧ l'.length ≤ 200 ∧ (i = 0 → l'.length ≤ 100) ∧ Boxed W' W.heap.size 3 (.int .i64 (i : Int)) ∧ Boxed W' (W.heap.size + 1) 4 (.bool true) ∧ Ch (fun x => F x ∨ x = W.heap.size ∨ x = W.heap.size + 1) w2 W') (fun _ _ _ => False) ?own (fun c => ownFrom_pure _ _) ⟨row1 xs, H2, by rw [row1_len]; omega, fun _ => by rw [row1_len]; exact hx, bn2, bo2, Ch.refl _ _⟩
    (fun i a' W' => ∃ A X, w2.heap.size ≤ A ∧ w2.heap.size ≤ X ∧ ∃ hi : i < xs.length, W'.heap[A]? = some (.cells #[.int .u32 ((i : Int) + 1), .int .u32 1] 39 (0, 0)) ∧ W'.heap[X]? = some (.cells #[.string xs[i].A, .slice xs[i].a xs[i].n xs[i].c] 62 (0, 0)) ∧ a' = { tmps := List.toArray (u0 :: u1 :: u2 :: (.pointer (some ⟨w0.heap.size, 0, none⟩)) :: (.pointer (some ⟨w0.heap.size + 1, 0, none⟩)) :: (.pointer (some ⟨w0.heap.size + 2, 0, none⟩)) :: u6 :: u7 :: (.pointer (some ⟨a8, 0, none⟩)) :: u9 :: (.pointer (some ⟨a10, 0, none⟩)) :: u11 :: u12 :: u13 :: (.pointer (some ⟨W.heap.size, 0, none⟩)) :: (.pointer (some ⟨W.heap.size + 1, 0, none⟩)) :: (.func (.func 42) #[] #[.pointer (some ⟨W.heap.size + 2, 0, none⟩)]) :: (.pointer (some ⟨A, 0, none⟩)) :: (.pointer (some ⟨X, 0, none⟩)) :: u19 :: u20 :: u21 :: u22 :: u23 :: u24 :: u25 :: u26 :: u27 :: u28 :: u29 :: u30 :: u31 :: u32 :: u33 :: u34 :: u35 :: u36 :: u37 :: u38 :: u39 :: u40 :: u41 :: u42 :: u43 :: u44 :: u45 :: u46 :: u47 :: u48 :: u49 :: u50 :: u51 :: u52 :: u53 :: u54 :: u55 :: u56 :: u57 :: u58 :: u59 :: u60 :: u61 :: u62 :: u63 :: u64 :: u65 :: u66 :: u67 :: u68 :: u69 :: u70 :: u71 :: (.pointer (some ⟨p, 0, none⟩)) :: (.func (.func 42) #[] #[.pointer (some ⟨W.heap.size + 2, 0, none⟩)]) :: (.func (.func 42) #[] #[.pointer (some ⟨W.heap.size + 2, 0, none⟩)]) :: (hv ((i : Int) + 1) 1) :: (paV xs[i]) :: u77 :: u78 :: u79 :: u80 :: u81 :: u82 :: u83 :: u84 :: u85 :: u86 :: u87 :: u88 :: u89 :: u90 :: u91 :: u92 :: u93 :: u94 :: u95 :: u96 :: u97 :: u98 :: u99 :: u100 :: u101 :: u102 :: u103 :: u104 :: u105 :: u106 :: u107 :: u108 :: u109 :: u110 :: u111 :: u112 :: u113 :: u114 :: u115 :: u116 :: u117 :: u118 :: u119 :: u120 :: u121 :: u122 :: u123 :: u124 :: u125 :: u126 :: u127 :: u128 :: u129 :: u130 :: u131 :: u132 :: u133 :: u134 :: u135 :: u136 :: u137 :: u138 :: u139 :: u140 :: u141 :: u142 :: u143 :: u144 :: u145 :: u146 :: u147 :: u148 :: u149 :: u150 :: u151 :: u152 :: u153 :: u154 :: u155 :: u156 :: u157 :: u158 :: u159 :: u160 :: u161 :: u162 :: u163 :: u164 :: u165 :: u166 :: u167 :: u168 :: u169 :: u170 :: u171 :: u172 :: u173 :: u174 :: u175 :: u176 :: u177 :: u178 :: u179 :: u180 :: u181 :: u182 :: u183 :: u184 :: u185 :: u186 :: u187 :: u188 :: u189 :: u190 :: u191 :: u192 :: u193 :: u194 :: u195 :: u196 :: u197 :: u198 :: u199 :: u200 :: u201 :: u202 :: u203 :: u204 :: u205 :: u206 :: u207 :: u208 :: u209 :: u210 :: u211 :: u212 :: []), defers := [] }) ?ownA ?assign ?body ?done (fun _ _ _ _ _ _ h => h.elim)
  case own =>
    rintro i X Y row ⟨l', h1, h2, h3, h4, h5, h6⟩ hg hr
    obtain ⟨k1, k2⟩ := grown_cells hg hr
    exact ⟨l', hide (h1.out.grown k1 k2 (fun x e => by have := (hr x e).1; omega)), h2, h3, k1.box h4 (k2 h4), k1.box h5 (k2 h5), h6.trans k1 (fun x hx e => by have := (hr x e).1; omega)⟩
  case ownA =>
    rintro i a' _ X Y row ⟨A, Xb, hA, hX, hi, h1, h2, h3⟩ hg hr
    obtain ⟨k1, k2⟩ := grown_cells hg hr
    exact ⟨A, Xb, hA, hX, hi, k1.box h1 (k2 h1), k1.box h2 (k2 h2), h3⟩
  case assign =>
    rintro lp i hi W' K ⟨l', h1, h2, h3, h4, h5, h6⟩ hK
    have hi' : i < xs.length := by rw [List.length_map, row1_len] at hi; exact hi
    have e : ((row1 xs).map fun t => (#[.agg #[.int .u32 t.s, .int .u32 t.g], paV t.x] : Array Value))[i] = #[hv ((i : Int) + 1) 1, paV xs[i]] := by rw [List.getElem_map, row1_get]
    rw [e]
    obtain ⟨z, hz⟩ : ∃ z, xs[i] = z := ⟨_, rfl⟩
    rw [hz]
    gi_wp2
    have ca : Ch (fun _ => False) W' ((W'.alloc (.cells #[.int .u32 ((i : Int) + 1), .int .u32 1] 39)).alloc (.cells #[.string z.A, .slice z.a z.n z.c] 62)) := (Ch.alloc _ _).trans (Ch.alloc _ _) (fun _ _ h => h)
    have hsz := h6.size
    refine hK _ _ (keeps_of_ch ca (fun _ h => h.elim)) (Kc.of_ch ca (fun _ h => h.elim)) ⟨l', hide (h1.out.ch0 ca), h2, h3, ca.box h4 (fun h => h), ca.box h5 (fun h => h), h6.trans ca (fun _ _ h => h.elim)⟩ ⟨W'.heap.size, W'.heap.size + 1, hsz, by omega, hi', ?_, ?_, ?_⟩
    · exact (Ch.alloc (Q := fun _ => False) _ _).box (heap_new W' _) (fun h => h)
    · rw [hz]
      have := heap_new (W'.alloc (.cells #[.int .u32 ((i : Int) + 1), .int .u32 1] 39)) (.cells #[.string z.A, .slice z.a z.n z.c] 62)
      rwa [World.size_alloc] at this
    · rw [hz]
  case body =>
    rintro lp i hi a' W' hlp - ⟨l', h1, h2, h3, h4, h5, h6⟩ ⟨A, Xb, hA, hX, hi', hA', hX', rfl⟩
    obtain ⟨hb, hc, cur, e, -, -, -, -, -, -⟩ := h1.out.hs.at hdF_len (by rw [hsl_len]; omega)
    rw [hsl_len] at e
    subst e
    obtain ⟨b, hs, ex, hbN, hbb⟩ := (HT2.out.ch h6 (fun b v hbN hbx e => by
      rcases e with e | e | e
      · exact H2.out.nF hbx (by decide) (by decide) e
      · omega
      · omega)) i hi'
    rw [ex] at hX'
    obtain ⟨rfl, hlb⟩ := HLA.out (by omega)
    have hstr := HST.out i hs
    unfold StAt at hstr
    rw [Nat.mul_one] at hstr
    have nno : ¬ W.heap.size = W.heap.size + 1 := by omega
    have cs : Ch (fun x => x = W.heap.size ∨ x = W.heap.size + 1) W' ((W'.setCell ⟨W.heap.size + 1, 0, none⟩ (.bool true)).drew.setCell ⟨W.heap.size, 0, none⟩ (.int .i64 ((i : Int) + 1))) :=
      ((Ch.set (Q := fun x => x = W.heap.size ∨ x = W.heap.size + 1) W' (Or.inr rfl) 0 (.bool true)).trans (Ch.drew (Q := fun _ => False) _) (fun _ _ h => h.elim)).trans (Ch.set (Q := fun x => x = W.heap.size ∨ x = W.heap.size + 1) _ (Or.inl rfl) 0 _) (fun _ _ h => h)
    have bn' : Boxed ((W'.setCell ⟨W.heap.size + 1, 0, none⟩ (.bool true)).drew) W.heap.size 3 (.int .i64 (i : Int)) := h4.other nno _
    have bo' : Boxed ((W'.setCell ⟨W.heap.size + 1, 0, none⟩ (.bool true)).drew) (W.heap.size + 1) 4 (.bool true) := h5.set _
    have SB := hide (((h1.out.box h5 (by omega) (by decide) (by decide) (by decide) (by decide) (by decide) (.bool true)).ch0 (Ch.drew _)).box bn' hBW (by decide) (by decide) (by decide) (by decide) (by decide) (.int .i64 ((i : Int) + 1)))
    have bn3 := bn'.set (.int .i64 ((i : Int) + 1))
    have bo3 := bo'.other (B' := W.heap.size) (fun e => nno e.symm) (.int .i64 ((i : Int) + 1))
    have ec : ((i + 1 : Nat) : Int) = (i : Int) + 1 := by omega
    have lowF : ∀ x, F x → x < w2.heap.size := fun x hx => by
      rcases (H2.out.tb.foot x).1 hx with rfl | rfl
      · exact H2.out.tb.lt_p
      · exact H2.out.tb.own.2.1
    refine (seen_body (LC := loopsCode) h1.out hi' hx hs hlb hstr h4 h5 hA' hX' hbb (by omega) ?_ ?_ : (putLoops roundCode loopsCode).wpIn _ _ _ _ _ _)
    · intro hz
      intros
      refine seen_loops SB.out (by omega) hx (h3 hz) (by omega) bo3 HOA.out hom HOS.out HIA.out him HIS.out ?_
      intro a2 W2 l2 hS hl2 hbo hc2
      have ct : Ch (fun x => F x ∨ x = W.heap.size ∨ x = W.heap.size + 1) W' W2 := (cs.mono (fun _ _ h => Or.inr h)).trans hc2 (fun _ _ h => h.elim Or.inl (fun e => Or.inr (Or.inr e)))
      have lowQ : ∀ x, (F x ∨ x = W.heap.size ∨ x = W.heap.size + 1) → x < w2.heap.size := fun x e => e.elim (lowF x) (fun e => by omega)
      exact ⟨keeps_of_ch ct lowQ, Kc.of_ch ct lowQ, l2, hide hS, hl2, fun e => absurd e (Nat.succ_ne_zero i), by rw [ec]; exact hc2.box bn3 (fun e => e.elim (SB.out.nF bn3 (by decide) (by decide)) nno), hbo, h6.trans ct (fun _ _ h => h)⟩
    · intro hz a2
      have ct : Ch (fun x => F x ∨ x = W.heap.size ∨ x = W.heap.size + 1) W' _ := cs.mono (fun _ _ h => Or.inr h)
      have lowQ : ∀ x, (F x ∨ x = W.heap.size ∨ x = W.heap.size + 1) → x < w2.heap.size := fun x e => e.elim (lowF x) (fun e => by omega)
      exact ⟨keeps_of_ch ct lowQ, Kc.of_ch ct lowQ, l', SB, h2, fun e => absurd e (Nat.succ_ne_zero i), by rw [ec]; exact bn3, bo3, h6.trans ct (fun _ _ h => h)⟩
  case done =>
    rintro D W' hD ⟨l', h1, h2, h3, h4, h5, h6⟩ hdef
    rw [List.length_map, row1_len] at h4
    refine hK1 _ _ ?_
    clear hK1
    apply NX.out
    · exact h1.out
    · exact h2
    · exact h4
    · exact h5
    · omega
    · exact h6.box bx2 (fun e => by
        rcases e with e | e | e
        · exact H2.out.nF bx2 (by decide) (by decide) e
        · omega
        · omega)
    · omega
    · exact hdef

end Go.Proofs.Ytjilnmeegolpkaa
