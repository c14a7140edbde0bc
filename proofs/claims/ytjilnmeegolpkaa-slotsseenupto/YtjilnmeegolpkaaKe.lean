/- Layer 10: SlotsSeen: what is done to the table within the range. -/
import Derived.Test.YtjilnmeegolpkaaKd
import Derived.Test.YtjilnmeegolpkaaBr
namespace Go.Proofs.Ytjilnmeegolpkaa
open Go.RowKit Go.Shelf

attribute [local go_sem] Oper.semAt_some

theorem wpIn_then {Fe : Fence} {n : Nat} {P : Program} {c : Code} {K : Act → World → Prop} {Q : Exit → Act → World → Prop} {a : Act} {w : World} (h : c.wpIn Fe n P (Exit.then K (fun _ _ _ => False)) a w) : c.wpIn Fe n P (Exit.then K Q) a w :=
  wpIn_mono h (fun e a w h => by cases e <;> first | exact h | exact (h : False).elim)
theorem Sn.nlow {w0 W : World} {lv ov iv hv' : Value} {p g a8 a10 B n : Nat} {F : Nat → Prop} {l : List (ThG Pa)} (h : Sn w0 lv ov iv p g a8 a10 B F W l hv' n) (x : Nat) (hx : x < w0.heap.size + 3) : ¬ F x := fun e => by
  have hl := h.lB
  rcases (h.tb.foot x).1 e with rfl | rfl
  · have := h.tb.low
    omega
  · have := h.tb.own.1
    omega
theorem Sn.hat {w0 W : World} {lv ov iv : Value} {p g a8 a10 B m hb hc : Nat} {F : Nat → Prop} {l : List (ThG Pa)} (h : Sn w0 lv ov iv p g a8 a10 B F W l (.slice (some ⟨hb, 0, none⟩) m hc) m) (k : Nat) (hk : k < m) : ∀ wq, Ch F W wq → wq.cell? ⟨hb, k * 2, none⟩ = some (.int .u32 ((k : Int) + 1)) ∧ wq.cell? ⟨hb, k * 2 + 1, none⟩ = some (.int .u32 1) := fun wq hq => by
  obtain ⟨hb', c', cur, e, _, _, hbl, e2, _, hcell⟩ := h.hs.at hdF_len (by rw [hsl_len]; omega)
  injection e with e1 _ _
  injection e1 with e1
  injection e1 with e1 _
  subst e1
  have hk' : k < (hsl m).length := by rw [hsl_len]; exact hk
  have h1 := hcell k hk' 0 (.int .u32 ((k : Int) + 1)) (by rw [hsl_get]; rfl)
  have h2 := hcell k hk' 1 (.int .u32 1) (by rw [hsl_get]; rfl)
  have nf := h.nF e2 (by decide) (by decide)
  exact ⟨(hq.cell hbl nf _).trans h1, (hq.cell hbl nf _).trans h2⟩

abbrev rf0 : Oper := { dst := some 125, op := Op.load 58 (Operand.tmp 8), type := 58, pos := "law.go:250", after := #[], guard := none }
abbrev rf1 : Oper := { dst := some 126, op := Op.load 33 (Operand.tmp 10), type := 33, pos := "law.go:250", after := #[], guard := none }
abbrev rf2 : Oper := { dst := some 127, op := Op.load 49 (Operand.tmp 4), type := 49, pos := "law.go:250", after := #[], guard := none }
abbrev rf3 : Oper := { dst := some 128, op := Op.move (Operand.tmp 19), type := 3, pos := "law.go:250", after := #[], guard := none }
abbrev rf4 : Oper := { dst := some 129, op := Op.indexAddr 49 (Operand.tmp 127) (Operand.tmp 128), type := 0, pos := "law.go:250", after := #[{ on := 2, ground := Ground.data }, { on := 3, ground := Ground.data }], guard := none }
abbrev rf5 : Oper := { dst := some 130, op := Op.load 3 (Operand.tmp 129), type := 3, pos := "law.go:250", after := #[{ on := 4, ground := Ground.data }], guard := none }
abbrev rf6 : Oper := { dst := some 131, op := Op.load 33 (Operand.tmp 10), type := 33, pos := "law.go:250", after := #[], guard := none }
abbrev rf7 : Oper := { dst := some 132, op := Op.call { callee := Callee.builtin Builtin.len, args := #[Operand.tmp 131], argTypes := #[33] }, type := 3, pos := "law.go:250", after := #[{ on := 6, ground := Ground.data }], guard := none }
abbrev rf8 : Oper := { dst := some 133, op := Op.call { callee := Callee.value (Operand.func 16), args := #[Operand.tmp 130, Operand.tmp 132], argTypes := #[3, 3] }, type := 3, pos := "law.go:250", after := #[{ on := 5, ground := Ground.data }, { on := 7, ground := Ground.data }], guard := none }
abbrev rf9 : Oper := { dst := some 134, op := Op.indexAddr 33 (Operand.tmp 126) (Operand.tmp 133), type := 0, pos := "law.go:250", after := #[{ on := 1, ground := Ground.data }, { on := 8, ground := Ground.data }], guard := none }
abbrev rf10 : Oper := { dst := some 135, op := Op.load 39 (Operand.tmp 134), type := 39, pos := "law.go:250", after := #[{ on := 9, ground := Ground.data }], guard := none }
abbrev rf11 : Oper := { dst := some 136, op := Op.call { callee := Callee.value (Operand.func 25), args := #[Operand.tmp 125, Operand.tmp 135], argTypes := #[58, 39] }, type := 25, pos := "law.go:250", after := #[{ on := 0, ground := Ground.data }, { on := 10, ground := Ground.data }, { on := 8, ground := Ground.chain }], guard := none }

set_option maxRecDepth 100000 in
set_option maxHeartbeats 4000000 in
theorem seen_r25 {u0 u1 u2 u3 u5 u6 u7 u9 u11 u12 u13 u14 u15 u16 u17 u18 u20 u21 u22 u23 u24 u25 u26 u27 u28 u29 u30 u31 u32 u33 u34 u35 u36 u37 u38 u39 u40 u41 u42 u43 u44 u45 u46 u47 u48 u49 u50 u51 u52 u53 u54 u55 u56 u57 u58 u59 u60 u61 u62 u63 u64 u65 u66 u67 u68 u69 u70 u71 u72 u73 u74 u75 u76 u77 u78 u79 u80 u81 u82 u83 u84 u85 u86 u87 u88 u89 u90 u91 u92 u93 u94 u95 u96 u97 u98 u99 u100 u101 u102 u103 u104 u105 u106 u107 u108 u109 u110 u111 u112 u113 u114 u115 u116 u117 u118 u119 u120 u121 u122 u123 u124 u137 u138 u139 u140 u141 u142 u143 u144 u145 u146 u147 u148 u149 u150 u151 u152 u153 u154 u155 u156 u157 u158 u159 u160 u161 u162 u163 u164 u165 u166 u167 u168 u169 u170 u171 u172 u173 u174 u175 u176 u177 u178 u179 u180 u181 u182 u183 u184 u185 u186 u187 u188 u189 u190 u191 u192 u193 u194 u195 u196 u197 u198 u199 u200 u201 u202 u203 u204 u205 u206 u207 u208 u209 u210 u211 u212 : Value} {u125 u126 u127 u128 u129 u130 u131 u132 u133 u134 u135 u136 : Value} {w0 W : World} {lv : Value} {os : List Int} {ins : List ByteArray} {oa ia : Option Addr} {oc ic hc p g a8 a10 B m i lp n : Nat} {F : Nat → Prop} {l : List (ThG Pa)} {hb ob oo : Nat} (h : Sn w0 lv (.slice oa os.length oc) (.slice ia ins.length ic) p g a8 a10 B F W l (.slice (some ⟨hb, 0, none⟩) m hc) m) (hm : 0 < m) (hm2 : m ≤ 100) (hoa : oa = some ⟨ob, oo, none⟩) (hi : i < os.length) (hlb : ob < w0.heap.size) (hint : w0.cell? ⟨ob, oo + i, none⟩ = some (.int .i64 os[i])) (hob : -9223372036854775808 ≤ os[i] ∧ os[i] ≤ 9223372036854775807)
    {K : Act → World → Prop} (hK0 : ∀ k W', k < m → TbP W' B F p (frd l ((k : Int) + 1) 1) 500 g → Ch F W W' → K { tmps := List.toArray (u0 :: u1 :: u2 :: u3 :: (.pointer (some ⟨w0.heap.size + 1, 0, none⟩)) :: u5 :: u6 :: u7 :: (.pointer (some ⟨a8, 0, none⟩)) :: u9 :: (.pointer (some ⟨a10, 0, none⟩)) :: u11 :: u12 :: u13 :: u14 :: u15 :: u16 :: u17 :: u18 :: (.int .i64 (i : Int)) :: u20 :: u21 :: u22 :: u23 :: u24 :: u25 :: u26 :: u27 :: u28 :: u29 :: u30 :: u31 :: u32 :: u33 :: u34 :: u35 :: u36 :: u37 :: u38 :: u39 :: u40 :: u41 :: u42 :: u43 :: u44 :: u45 :: u46 :: u47 :: u48 :: u49 :: u50 :: u51 :: u52 :: u53 :: u54 :: u55 :: u56 :: u57 :: u58 :: u59 :: u60 :: u61 :: u62 :: u63 :: u64 :: u65 :: u66 :: u67 :: u68 :: u69 :: u70 :: u71 :: u72 :: u73 :: u74 :: u75 :: u76 :: u77 :: u78 :: u79 :: u80 :: u81 :: u82 :: u83 :: u84 :: u85 :: u86 :: u87 :: u88 :: u89 :: u90 :: u91 :: u92 :: u93 :: u94 :: u95 :: u96 :: u97 :: u98 :: u99 :: u100 :: u101 :: u102 :: u103 :: u104 :: u105 :: u106 :: u107 :: u108 :: u109 :: u110 :: u111 :: u112 :: u113 :: u114 :: u115 :: u116 :: u117 :: u118 :: u119 :: u120 :: u121 :: u122 :: u123 :: u124 :: (.pointer (some ⟨p, 0, none⟩)) :: ((.slice (some ⟨hb, 0, none⟩) m hc)) :: (.slice (some ⟨ob, oo, none⟩) os.length oc) :: (.int .i64 (i : Int)) :: (.pointer (some ⟨ob, oo + i, none⟩)) :: (.int .i64 os[i]) :: ((.slice (some ⟨hb, 0, none⟩) m hc)) :: (.int .i64 (m : Int)) :: (.int .i64 (k : Int)) :: (.pointer (some ⟨hb, k * 2, none⟩)) :: (hv ((k : Int) + 1) 1) :: (.int .i64 (ec (fnB l ((k : Int) + 1) 1) 102)) :: u137 :: u138 :: u139 :: u140 :: u141 :: u142 :: u143 :: u144 :: u145 :: u146 :: u147 :: u148 :: u149 :: u150 :: u151 :: u152 :: u153 :: u154 :: u155 :: u156 :: u157 :: u158 :: u159 :: u160 :: u161 :: u162 :: u163 :: u164 :: u165 :: u166 :: u167 :: u168 :: u169 :: u170 :: u171 :: u172 :: u173 :: u174 :: u175 :: u176 :: u177 :: u178 :: u179 :: u180 :: u181 :: u182 :: u183 :: u184 :: u185 :: u186 :: u187 :: u188 :: u189 :: u190 :: u191 :: u192 :: u193 :: u194 :: u195 :: u196 :: u197 :: u198 :: u199 :: u200 :: u201 :: u202 :: u203 :: u204 :: u205 :: u206 :: u207 :: u208 :: u209 :: u210 :: u211 :: u212 :: []), defers := [] } W') :
    (Code.region 25 #[rf0, rf1, rf2, rf3, rf4, rf5, rf6, rf7, rf8, rf9, rf10, rf11] true).wpIn (Fence.wide.inRound lp) n Try.prog (Exit.then K (fun _ _ _ => False)) { tmps := List.toArray (u0 :: u1 :: u2 :: u3 :: (.pointer (some ⟨w0.heap.size + 1, 0, none⟩)) :: u5 :: u6 :: u7 :: (.pointer (some ⟨a8, 0, none⟩)) :: u9 :: (.pointer (some ⟨a10, 0, none⟩)) :: u11 :: u12 :: u13 :: u14 :: u15 :: u16 :: u17 :: u18 :: (.int .i64 (i : Int)) :: u20 :: u21 :: u22 :: u23 :: u24 :: u25 :: u26 :: u27 :: u28 :: u29 :: u30 :: u31 :: u32 :: u33 :: u34 :: u35 :: u36 :: u37 :: u38 :: u39 :: u40 :: u41 :: u42 :: u43 :: u44 :: u45 :: u46 :: u47 :: u48 :: u49 :: u50 :: u51 :: u52 :: u53 :: u54 :: u55 :: u56 :: u57 :: u58 :: u59 :: u60 :: u61 :: u62 :: u63 :: u64 :: u65 :: u66 :: u67 :: u68 :: u69 :: u70 :: u71 :: u72 :: u73 :: u74 :: u75 :: u76 :: u77 :: u78 :: u79 :: u80 :: u81 :: u82 :: u83 :: u84 :: u85 :: u86 :: u87 :: u88 :: u89 :: u90 :: u91 :: u92 :: u93 :: u94 :: u95 :: u96 :: u97 :: u98 :: u99 :: u100 :: u101 :: u102 :: u103 :: u104 :: u105 :: u106 :: u107 :: u108 :: u109 :: u110 :: u111 :: u112 :: u113 :: u114 :: u115 :: u116 :: u117 :: u118 :: u119 :: u120 :: u121 :: u122 :: u123 :: u124 :: u125 :: u126 :: u127 :: u128 :: u129 :: u130 :: u131 :: u132 :: u133 :: u134 :: u135 :: u136 :: u137 :: u138 :: u139 :: u140 :: u141 :: u142 :: u143 :: u144 :: u145 :: u146 :: u147 :: u148 :: u149 :: u150 :: u151 :: u152 :: u153 :: u154 :: u155 :: u156 :: u157 :: u158 :: u159 :: u160 :: u161 :: u162 :: u163 :: u164 :: u165 :: u166 :: u167 :: u168 :: u169 :: u170 :: u171 :: u172 :: u173 :: u174 :: u175 :: u176 :: u177 :: u178 :: u179 :: u180 :: u181 :: u182 :: u183 :: u184 :: u185 :: u186 :: u187 :: u188 :: u189 :: u190 :: u191 :: u192 :: u193 :: u194 :: u195 :: u196 :: u197 :: u198 :: u199 :: u200 :: u201 :: u202 :: u203 :: u204 :: u205 :: u206 :: u207 :: u208 :: u209 :: u210 :: u211 :: u212 :: []), defers := [] } W := by
  subst hoa
  have HC := hide (show ∀ wq, Ch F W wq → wq.cell? ⟨a8, 0, none⟩ = some (.pointer (some ⟨p, 0, none⟩)) ∧ wq.cell? ⟨a10, 0, none⟩ = some (.slice (some ⟨hb, 0, none⟩) m hc) ∧ wq.cell? ⟨w0.heap.size + 1, 0, none⟩ = some (.slice (some ⟨ob, oo, none⟩) os.length oc) ∧ wq.cell? ⟨ob, oo + i, none⟩ = some (.int .i64 os[i]) from fun wq k =>
    ⟨Boxed.cell (k.box h.b8 (h.nF h.b8 (by decide) (by decide))), Boxed.cell (k.box h.bh (h.nF h.bh (by decide) (by decide))), Boxed.cell (k.box h.b1 (h.nF h.b1 (by decide) (by decide))), ((k.below (N := w0.heap.size) h.be.size (fun x hx e => h.nlow x (by omega) e)).cell (p := ⟨ob, oo + i, none⟩) hlb).trans ((h.be.cell (p := ⟨ob, oo + i, none⟩) hlb).trans hint)⟩)
  have HT := hide (show ∀ V, Ch (fun _ => False) W V → ∀ k, k < m → Calls Try.prog 25 #[.pointer (some ⟨p, 0, none⟩), hv ((k : Int) + 1) 1] V fun e w' => e = .returned (.int .i64 (ec (fnB l ((k : Int) + 1) 1) 102)) ∧ TbP w' B F p (frd l ((k : Int) + 1) 1) 500 g ∧ Ch F V w' from fun V hV k hk => free_isP (h.tb.ch hV (fun _ _ h => h)) ⟨by omega, by omega⟩)
  have HD := hide h.hat
  have HK := hide hK0
  have q1 : decide ((i : Int) < (os.length : Int)) = true := decide_eq_true (by omega)
  clear hK0 h hint
  refine region_round (S := Ch F W) (by kernel_rfl) (by kernel_rfl) ?_ (Ch.drew _) (fun zk => ?_)
  · rintro ⟨_, _, h⟩
    exact h
  apply tk 0 rf0 rfl (by kernel_rfl) (fun _ _ _ h => h) zk
  · intro wq zq
    have s0 := (HC.out _ zq).1
    go_simp
    try rfl
  go_frame
  apply tk 1 rf1 rfl (by kernel_rfl) (fun _ _ _ h => h) zk
  · intro wq zq
    have s0 := (HC.out _ zq).2.1
    go_simp
    try rfl
  go_frame
  apply tk 2 rf2 rfl (by kernel_rfl) (fun _ _ _ h => h) zk
  · intro wq zq
    have s0 := (HC.out _ zq).2.2.1
    go_simp
    try rfl
  go_frame
  apply tk 3 rf3 rfl (by kernel_rfl) (fun _ _ _ h => h) zk
  · intro wq zq
    go_simp
    try rfl
  go_frame
  apply tk 4 rf4 rfl (by kernel_rfl) (fun _ _ _ h => h) zk
  · intro wq zq
    go_simp
    try rfl
  go_frame
  apply tk 5 rf5 rfl (by kernel_rfl) (fun _ _ _ h => h) zk
  · intro wq zq
    have s0 := (HC.out _ zq).2.2.2
    go_simp
    try rfl
  go_frame
  apply tk 6 rf6 rfl (by kernel_rfl) (fun _ _ _ h => h) zk
  · intro wq zq
    have s0 := (HC.out _ zq).2.1
    go_simp
    try rfl
  go_frame
  apply tk 7 rf7 rfl (by kernel_rfl) (fun _ _ _ h => h) zk
  · intro wq zq
    go_simp
    try rfl
  go_frame
  refine rd 8 rf8 rfl (by kernel_rfl) fun K hK => ?_
  go_simp
  refine (pick_is hob.1 hob.2 hm (by omega) _).mono ?_
  rintro e w2 ⟨k, hk, rfl, rfl⟩
  have HH := hide (HD.out k hk)
  have q2 : decide ((k : Int) < (m : Int)) = true := decide_eq_true (by omega)
  go_wp2_with fail
  refine hK.out _ _ ?_ (fun zk => ?_)
  · exact zk
  clear hK K
  try go_frame
  apply tk 9 rf9 rfl (by kernel_rfl) (fun _ _ _ h => h) zk
  · intro wq zq
    go_simp
    try rfl
  go_frame
  apply tk 10 rf10 rfl (by kernel_rfl) (fun _ _ _ h => h) zk
  · intro wq zq
    obtain ⟨s0, s1⟩ := HH.out _ zq
    go_simp
    try rfl
  go_frame
  refine rd 11 rf11 rfl (by kernel_rfl) fun K hK => ?_
  go_simp
  refine (HT.out _ (Ch.drew _) k hk).mono ?_
  rintro e w3 ⟨rfl, ht3, hc3⟩
  have Z := hide (zk.trans hc3 (fun _ _ h => h))
  have T3 := hide ht3
  clear ht3 hc3
  go_wp2_with fail
  refine hK.out _ _ ?_ (fun zk => ?_)
  · exact Z.out
  clear hK K
  try go_frame
  refine wpAnyH_done (by kernel_rfl) ?_ _
  exact HK.out k _ hk T3.out Z.out
abbrev rt0 : Oper := { dst := some 148, op := Op.load 58 (Operand.tmp 8), type := 58, pos := "law.go:253", after := #[], guard := none }
abbrev rt1 : Oper := { dst := some 149, op := Op.load 57 (Operand.tmp 5), type := 57, pos := "law.go:253", after := #[], guard := none }
abbrev rt2 : Oper := { dst := some 150, op := Op.move (Operand.tmp 20), type := 3, pos := "law.go:253", after := #[], guard := none }
abbrev rt3 : Oper := { dst := some 151, op := Op.indexAddr 57 (Operand.tmp 149) (Operand.tmp 150), type := 0, pos := "law.go:253", after := #[{ on := 1, ground := Ground.data }, { on := 2, ground := Ground.data }], guard := none }
abbrev rt4 : Oper := { dst := some 152, op := Op.load 9 (Operand.tmp 151), type := 9, pos := "law.go:253", after := #[{ on := 3, ground := Ground.data }], guard := none }
abbrev rt5 : Oper := { dst := some 153, op := Op.build 62 #[(0, Operand.tmp 152)], type := 62, pos := "law.go:253", after := #[{ on := 4, ground := Ground.data }], guard := none }
abbrev rt6 : Oper := { dst := some 154, op := Op.call { callee := Callee.value (Operand.func 23), args := #[Operand.tmp 148, Operand.tmp 153], argTypes := #[58, 62] }, type := 50, pos := "law.go:253", after := #[{ on := 0, ground := Ground.data }, { on := 5, ground := Ground.data }], guard := none }
abbrev rt7 : Oper := { dst := some 147, op := Op.move (Operand.tmp 154), type := 50, pos := "law.go:253", after := #[{ on := 6, ground := Ground.data }], guard := none }
abbrev rt8 : Oper := { dst := some 155, op := Op.extract (Operand.tmp 147) 0, type := 39, pos := "law.go:253", after := #[{ on := 7, ground := Ground.data }], guard := none }
abbrev rt9 : Oper := { dst := some 156, op := Op.extract (Operand.tmp 147) 1, type := 25, pos := "law.go:253", after := #[{ on := 7, ground := Ground.data }, { on := 11, ground := Ground.gcOnly Departure.lateStores }], guard := none }
abbrev rt10 : Oper := { dst := some 21, op := Op.alloc 39, type := 0, pos := "law.go:253", after := #[], guard := none }
abbrev rt11 : Oper := { dst := none, op := Op.store 39 (Operand.tmp 21) (Operand.tmp 155), type := 0, pos := "law.go:253", after := #[{ on := 10, ground := Ground.data }, { on := 8, ground := Ground.data }, { on := 6, ground := Ground.chain }, { on := 0, ground := Ground.phase }, { on := 1, ground := Ground.phase }, { on := 2, ground := Ground.phase }, { on := 3, ground := Ground.phase }, { on := 4, ground := Ground.phase }, { on := 5, ground := Ground.phase }, { on := 6, ground := Ground.phase }, { on := 7, ground := Ground.phase }, { on := 8, ground := Ground.phase }, { on := 9, ground := Ground.textOnly Departure.lateStores }, { on := 10, ground := Ground.phase }], guard := none }
abbrev rt12 : Oper := { dst := some 22, op := Op.assign (Operand.tmp 156), type := 25, pos := "law.go:253", after := #[{ on := 9, ground := Ground.data }, { on := 11, ground := Ground.chain }, { on := 0, ground := Ground.phase }, { on := 1, ground := Ground.phase }, { on := 2, ground := Ground.phase }, { on := 3, ground := Ground.phase }, { on := 4, ground := Ground.phase }, { on := 5, ground := Ground.phase }, { on := 6, ground := Ground.phase }, { on := 7, ground := Ground.phase }, { on := 8, ground := Ground.phase }, { on := 9, ground := Ground.phase }, { on := 10, ground := Ground.phase }, { on := 11, ground := Ground.phase }], guard := none }

set_option maxRecDepth 100000 in
set_option maxHeartbeats 4000000 in
theorem seen_r29 {u0 u1 u2 u3 u4 u6 u7 u9 u10 u11 u12 u13 u14 u15 u16 u17 u18 u19 u23 u24 u25 u26 u27 u28 u29 u30 u31 u32 u33 u34 u35 u36 u37 u38 u39 u40 u41 u42 u43 u44 u45 u46 u47 u48 u49 u50 u51 u52 u53 u54 u55 u56 u57 u58 u59 u60 u61 u62 u63 u64 u65 u66 u67 u68 u69 u70 u71 u72 u73 u74 u75 u76 u77 u78 u79 u80 u81 u82 u83 u84 u85 u86 u87 u88 u89 u90 u91 u92 u93 u94 u95 u96 u97 u98 u99 u100 u101 u102 u103 u104 u105 u106 u107 u108 u109 u110 u111 u112 u113 u114 u115 u116 u117 u118 u119 u120 u121 u122 u123 u124 u125 u126 u127 u128 u129 u130 u131 u132 u133 u134 u135 u136 u137 u138 u139 u140 u141 u142 u143 u144 u145 u146 u157 u158 u159 u160 u161 u162 u163 u164 u165 u166 u167 u168 u169 u170 u171 u172 u173 u174 u175 u176 u177 u178 u179 u180 u181 u182 u183 u184 u185 u186 u187 u188 u189 u190 u191 u192 u193 u194 u195 u196 u197 u198 u199 u200 u201 u202 u203 u204 u205 u206 u207 u208 u209 u210 u211 u212 : Value} {u21 u22 u147 u148 u149 u150 u151 u152 u153 u154 u155 u156 : Value} {w0 W : World} {lv : Value} {os : List Int} {ins : List ByteArray} {oa ia : Option Addr} {oc ic p g a8 a10 B m i lp n : Nat} {F : Nat → Prop} {l : List (ThG Pa)} {hv' : Value} {ib io : Nat} (h : Sn w0 lv (.slice oa os.length oc) (.slice ia ins.length ic) p g a8 a10 B F W l hv' m) (hl : l.length ≤ 400) (hia : ia = some ⟨ib, io, none⟩) (hi : i < ins.length) (hlb : ib < w0.heap.size) (hstr : w0.cell? ⟨ib, io + i, none⟩ = some (.string ins[i]))
    {K : Act → World → Prop} (hK0 : ∀ A W', TbP W' B F p (tkd l 500 ⟨ins[i], none, 0, 0⟩) 500 g → Ch F W W' → K { tmps := List.toArray (u0 :: u1 :: u2 :: u3 :: u4 :: (.pointer (some ⟨w0.heap.size + 2, 0, none⟩)) :: u6 :: u7 :: (.pointer (some ⟨a8, 0, none⟩)) :: u9 :: u10 :: u11 :: u12 :: u13 :: u14 :: u15 :: u16 :: u17 :: u18 :: u19 :: (.int .i64 (i : Int)) :: (.pointer (some ⟨A, 0, none⟩)) :: (.int .i64 0) :: u23 :: u24 :: u25 :: u26 :: u27 :: u28 :: u29 :: u30 :: u31 :: u32 :: u33 :: u34 :: u35 :: u36 :: u37 :: u38 :: u39 :: u40 :: u41 :: u42 :: u43 :: u44 :: u45 :: u46 :: u47 :: u48 :: u49 :: u50 :: u51 :: u52 :: u53 :: u54 :: u55 :: u56 :: u57 :: u58 :: u59 :: u60 :: u61 :: u62 :: u63 :: u64 :: u65 :: u66 :: u67 :: u68 :: u69 :: u70 :: u71 :: u72 :: u73 :: u74 :: u75 :: u76 :: u77 :: u78 :: u79 :: u80 :: u81 :: u82 :: u83 :: u84 :: u85 :: u86 :: u87 :: u88 :: u89 :: u90 :: u91 :: u92 :: u93 :: u94 :: u95 :: u96 :: u97 :: u98 :: u99 :: u100 :: u101 :: u102 :: u103 :: u104 :: u105 :: u106 :: u107 :: u108 :: u109 :: u110 :: u111 :: u112 :: u113 :: u114 :: u115 :: u116 :: u117 :: u118 :: u119 :: u120 :: u121 :: u122 :: u123 :: u124 :: u125 :: u126 :: u127 :: u128 :: u129 :: u130 :: u131 :: u132 :: u133 :: u134 :: u135 :: u136 :: u137 :: u138 :: u139 :: u140 :: u141 :: u142 :: u143 :: u144 :: u145 :: u146 :: (.tuple #[hv (tkS l 500) (tkG l 500), .int .i64 0]) :: (.pointer (some ⟨p, 0, none⟩)) :: (.slice (some ⟨ib, io, none⟩) ins.length ic) :: (.int .i64 (i : Int)) :: (.pointer (some ⟨ib, io + i, none⟩)) :: (.string ins[i]) :: (.agg #[.string ins[i], .slice none 0 0]) :: (.tuple #[hv (tkS l 500) (tkG l 500), .int .i64 0]) :: (hv (tkS l 500) (tkG l 500)) :: (.int .i64 0) :: u157 :: u158 :: u159 :: u160 :: u161 :: u162 :: u163 :: u164 :: u165 :: u166 :: u167 :: u168 :: u169 :: u170 :: u171 :: u172 :: u173 :: u174 :: u175 :: u176 :: u177 :: u178 :: u179 :: u180 :: u181 :: u182 :: u183 :: u184 :: u185 :: u186 :: u187 :: u188 :: u189 :: u190 :: u191 :: u192 :: u193 :: u194 :: u195 :: u196 :: u197 :: u198 :: u199 :: u200 :: u201 :: u202 :: u203 :: u204 :: u205 :: u206 :: u207 :: u208 :: u209 :: u210 :: u211 :: u212 :: []), defers := [] } W') :
    (Code.region 29 #[rt0, rt1, rt2, rt3, rt4, rt5, rt6, rt7, rt8, rt9, rt10, rt11, rt12] true).wpIn (Fence.wide.inRound lp) n Try.prog (Exit.then K (fun _ _ _ => False)) { tmps := List.toArray (u0 :: u1 :: u2 :: u3 :: u4 :: (.pointer (some ⟨w0.heap.size + 2, 0, none⟩)) :: u6 :: u7 :: (.pointer (some ⟨a8, 0, none⟩)) :: u9 :: u10 :: u11 :: u12 :: u13 :: u14 :: u15 :: u16 :: u17 :: u18 :: u19 :: (.int .i64 (i : Int)) :: u21 :: u22 :: u23 :: u24 :: u25 :: u26 :: u27 :: u28 :: u29 :: u30 :: u31 :: u32 :: u33 :: u34 :: u35 :: u36 :: u37 :: u38 :: u39 :: u40 :: u41 :: u42 :: u43 :: u44 :: u45 :: u46 :: u47 :: u48 :: u49 :: u50 :: u51 :: u52 :: u53 :: u54 :: u55 :: u56 :: u57 :: u58 :: u59 :: u60 :: u61 :: u62 :: u63 :: u64 :: u65 :: u66 :: u67 :: u68 :: u69 :: u70 :: u71 :: u72 :: u73 :: u74 :: u75 :: u76 :: u77 :: u78 :: u79 :: u80 :: u81 :: u82 :: u83 :: u84 :: u85 :: u86 :: u87 :: u88 :: u89 :: u90 :: u91 :: u92 :: u93 :: u94 :: u95 :: u96 :: u97 :: u98 :: u99 :: u100 :: u101 :: u102 :: u103 :: u104 :: u105 :: u106 :: u107 :: u108 :: u109 :: u110 :: u111 :: u112 :: u113 :: u114 :: u115 :: u116 :: u117 :: u118 :: u119 :: u120 :: u121 :: u122 :: u123 :: u124 :: u125 :: u126 :: u127 :: u128 :: u129 :: u130 :: u131 :: u132 :: u133 :: u134 :: u135 :: u136 :: u137 :: u138 :: u139 :: u140 :: u141 :: u142 :: u143 :: u144 :: u145 :: u146 :: u147 :: u148 :: u149 :: u150 :: u151 :: u152 :: u153 :: u154 :: u155 :: u156 :: u157 :: u158 :: u159 :: u160 :: u161 :: u162 :: u163 :: u164 :: u165 :: u166 :: u167 :: u168 :: u169 :: u170 :: u171 :: u172 :: u173 :: u174 :: u175 :: u176 :: u177 :: u178 :: u179 :: u180 :: u181 :: u182 :: u183 :: u184 :: u185 :: u186 :: u187 :: u188 :: u189 :: u190 :: u191 :: u192 :: u193 :: u194 :: u195 :: u196 :: u197 :: u198 :: u199 :: u200 :: u201 :: u202 :: u203 :: u204 :: u205 :: u206 :: u207 :: u208 :: u209 :: u210 :: u211 :: u212 :: []), defers := [] } W := by
  subst hia
  have HC := hide (show ∀ wq, Ch F W wq → wq.cell? ⟨a8, 0, none⟩ = some (.pointer (some ⟨p, 0, none⟩)) ∧ wq.cell? ⟨w0.heap.size + 2, 0, none⟩ = some (.slice (some ⟨ib, io, none⟩) ins.length ic) ∧ wq.cell? ⟨ib, io + i, none⟩ = some (.string ins[i]) from fun wq k =>
    ⟨Boxed.cell (k.box h.b8 (h.nF h.b8 (by decide) (by decide))), Boxed.cell (k.box h.b2 (h.nF h.b2 (by decide) (by decide))), ((k.below (N := w0.heap.size) h.be.size (fun x hx e => h.nlow x (by omega) e)).cell (p := ⟨ib, io + i, none⟩) hlb).trans ((h.be.cell (p := ⟨ib, io + i, none⟩) hlb).trans hstr)⟩)
  have HT := hide (show ∀ V, Ch (fun _ => False) W V → Calls Try.prog 23 #[.pointer (some ⟨p, 0, none⟩), paV ⟨ins[i], none, 0, 0⟩] V fun e w' => e = .returned (.tuple #[hv (tkS l 500) (tkG l 500), .int .i64 0]) ∧ TbP w' B F p (tkd l 500 ⟨ins[i], none, 0, 0⟩) 500 g ∧ Ch F V w' from fun V k => by
    have := take_isP (h.tb.ch k (fun _ _ h => h)) ⟨ins[i], none, 0, 0⟩ (by omega)
    rw [room h.tb.wf (by omega)] at this
    exact this)
  have HNF := hide (show ∀ x, W.heap.size ≤ x → ¬ F x from fun x hx e => by rcases (h.tb.foot x).1 e with rfl | rfl <;> first | (have := h.tb.lt_p; omega) | (have := h.tb.own.2.1; omega))
  have HK := hide hK0
  have q1 : decide ((i : Int) < (ins.length : Int)) = true := decide_eq_true (by omega)
  clear hK0 h hstr
  refine region_round (S := Ch F W) (by kernel_rfl) (by kernel_rfl) ?_ (Ch.drew _) (fun zk => ?_)
  · rintro ⟨_, _, h⟩
    exact h
  apply tk 0 rt0 rfl (by kernel_rfl) (fun _ _ _ h => h) zk
  · intro wq zq
    have s0 := (HC.out _ zq).1
    go_simp
    try rfl
  go_frame
  apply tk 1 rt1 rfl (by kernel_rfl) (fun _ _ _ h => h) zk
  · intro wq zq
    have s0 := (HC.out _ zq).2.1
    go_simp
    try rfl
  go_frame
  apply tk 2 rt2 rfl (by kernel_rfl) (fun _ _ _ h => h) zk
  · intro wq zq
    go_simp
    try rfl
  go_frame
  apply tk 3 rt3 rfl (by kernel_rfl) (fun _ _ _ h => h) zk
  · intro wq zq
    go_simp
    try rfl
  go_frame
  apply tk 4 rt4 rfl (by kernel_rfl) (fun _ _ _ h => h) zk
  · intro wq zq
    have s0 := (HC.out _ zq).2.2
    go_simp
    try rfl
  go_frame
  apply tk 5 rt5 rfl (by kernel_rfl) (fun _ _ _ h => h) zk
  · intro wq zq
    go_simp
    try rfl
  go_frame
  refine wpAnyH_ready (rs := [6, 10]) (by kernel_rfl) (by simp) ?_
  refine AllReadyH.cons (o := rt6) rfl (fun K hK => ?_) (AllReadyH.cons (o := rt10) rfl (fun K hK => ?_) AllReadyH.nil)
  · go_simp
    refine (HT.out _ (Ch.drew _)).mono ?_
    rintro e w2 ⟨rfl, ht2, hc2⟩
    have Z := hide (zk.trans hc2 (fun _ _ h => h))
    have T2 := hide ht2
    have C2 := hide hc2
    clear ht2 hc2
    go_wp2_with fail
    refine hK.out _ _ ?_ (fun zk => ?_)
    · exact Z.out
    clear hK K
    try go_frame
    apply tk 7 rt7 rfl (by kernel_rfl) (fun _ _ _ h => h) zk
    · intro wq zq
      go_simp
      try rfl
    go_frame
    apply tk 8 rt8 rfl (by kernel_rfl) (fun _ _ _ h => h) zk
    · intro wq zq
      go_simp
      try rfl
    go_frame
    apply tk 9 rt9 rfl (by kernel_rfl) (fun _ _ _ h => h) zk
    · intro wq zq
      go_simp
      try rfl
    go_frame
    refine rd 10 rt10 rfl (by kernel_rfl) fun K hK => ?_
    go_simp
    refine hK.out _ _ ?_ (fun zk => ?_)
    · exact Z.out.trans (Ch.alloc (Q := F) _ _) (fun _ _ h => h)
    clear hK K
    try go_frame
    refine rd 11 rt11 rfl (by kernel_rfl) fun K hK => ?_
    go_simp
    refine hK.out _ _ ?_ (fun zk => ?_)
    · exact Z.out.trans (Ch.alloc (Q := F) _ _) (fun _ _ h => h)
    clear hK K
    try go_frame
    apply tk 12 rt12 rfl (by kernel_rfl) (fun _ _ _ h => h) zk
    · intro wq zq
      go_simp
      try rfl
    go_frame
    refine wpAnyH_done (by kernel_rfl) ?_ _
    exact HK.out w2.heap.size _ (T2.out.below (below1 _ _)) (Z.out.trans (Ch.alloc (Q := F) _ _) (fun _ _ h => h))
  · go_simp
    refine hK.out _ _ ?_ (fun zk => ?_)
    · exact zk.trans (Ch.alloc (Q := F) _ _) (fun _ _ h => h)
    clear hK K
    try go_frame
    refine rd 6 rt6 rfl (by kernel_rfl) fun K hK => ?_
    go_simp
    refine (HT.out _ ((Ch.alloc (Q := fun _ => False) W _).trans (Ch.drew _) (fun _ _ h => h))).mono ?_
    rintro e w2 ⟨rfl, ht2, hc2⟩
    have Z := hide (zk.trans hc2 (fun _ _ h => h))
    have T2 := hide ht2
    have C2 := hide hc2
    clear ht2 hc2
    go_wp2_with fail
    refine hK.out _ _ ?_ (fun zk => ?_)
    · exact Z.out
    clear hK K
    try go_frame
    apply tk 7 rt7 rfl (by kernel_rfl) (fun _ _ _ h => h) zk
    · intro wq zq
      go_simp
      try rfl
    go_frame
    apply tk 8 rt8 rfl (by kernel_rfl) (fun _ _ _ h => h) zk
    · intro wq zq
      go_simp
      try rfl
    go_frame
    apply tk 9 rt9 rfl (by kernel_rfl) (fun _ _ _ h => h) zk
    · intro wq zq
      go_simp
      try rfl
    go_frame
    have hn3 := hide (C2.out.box (heap_new W (.cells #[.int .u32 0, .int .u32 0] 39)) (HNF.out _ (Nat.le_refl _)))
    have n0 : w2.cell? ⟨W.heap.size, 0, none⟩ = some (.int .u32 0) := by simp [Lib.cell_of_heap hn3.out]
    have n1 : w2.cell? ⟨W.heap.size, 1, none⟩ = some (.int .u32 0) := by simp [Lib.cell_of_heap hn3.out]
    have nf : ∀ o, w2.frozen? ⟨W.heap.size, o, none⟩ = false := by simp [World.frozen?, hn3.out]
    have hs := hide (show Ch (fun x => x = W.heap.size) w2 ((w2.setCell ⟨W.heap.size, 0, none⟩ (.int .u32 (tkS l 500))).setCell ⟨W.heap.size, 1, none⟩ (.int .u32 (tkG l 500))) from (Ch.set (Q := fun x => x = W.heap.size) w2 rfl 0 _).trans (Ch.set (Q := fun x => x = W.heap.size) _ rfl 1 _) (fun _ _ h => h))
    have Z4 := hide (Z.out.trans hs.out (fun x hx e => by omega))
    refine rd 11 rt11 rfl (by kernel_rfl) fun K hK => ?_
    go_simp
    refine hK.out _ _ ?_ (fun zk => ?_)
    · exact Z4.out
    clear hK K
    try go_frame
    apply tk 12 rt12 rfl (by kernel_rfl) (fun _ _ _ h => h) zk
    · intro wq zq
      go_simp
      try rfl
    go_frame
    refine wpAnyH_done (by kernel_rfl) ?_ _
    exact HK.out (W.heap.size) _ (T2.out.ch hs.out (fun x hx e => by subst e; exact HNF.out _ (Nat.le_refl _) hx)) Z4.out

abbrev rs0 : Oper := { dst := some 168, op := Op.load 58 (Operand.tmp 8), type := 58, pos := "law.go:257", after := #[], guard := none }
abbrev rs1 : Oper := { dst := some 169, op := Op.load 33 (Operand.tmp 10), type := 33, pos := "law.go:257", after := #[], guard := none }
abbrev rs2 : Oper := { dst := some 170, op := Op.move (Operand.tmp 23), type := 3, pos := "law.go:257", after := #[], guard := none }
abbrev rs3 : Oper := { dst := some 171, op := Op.indexAddr 33 (Operand.tmp 169) (Operand.tmp 170), type := 0, pos := "law.go:257", after := #[{ on := 1, ground := Ground.data }, { on := 2, ground := Ground.data }], guard := none }
abbrev rs4 : Oper := { dst := some 172, op := Op.load 39 (Operand.tmp 171), type := 39, pos := "law.go:257", after := #[{ on := 3, ground := Ground.data }], guard := none }
abbrev rs5 : Oper := { dst := some 173, op := Op.build 62 #[(0, Operand.const (Value.string { data := #[111, 116, 104, 101, 114] }))], type := 62, pos := "law.go:257", after := #[], guard := none }
abbrev rs6 : Oper := { dst := some 174, op := Op.call { callee := Callee.value (Operand.func 26), args := #[Operand.tmp 168, Operand.tmp 172, Operand.tmp 173], argTypes := #[58, 39, 62] }, type := 25, pos := "law.go:257", after := #[{ on := 0, ground := Ground.data }, { on := 4, ground := Ground.data }, { on := 5, ground := Ground.data }], guard := none }

set_option maxRecDepth 100000 in
set_option maxHeartbeats 4000000 in
theorem seen_r34 {u0 u1 u2 u3 u4 u5 u6 u7 u9 u11 u12 u13 u14 u15 u16 u17 u18 u19 u20 u21 u22 u24 u25 u26 u27 u28 u29 u30 u31 u32 u33 u34 u35 u36 u37 u38 u39 u40 u41 u42 u43 u44 u45 u46 u47 u48 u49 u50 u51 u52 u53 u54 u55 u56 u57 u58 u59 u60 u61 u62 u63 u64 u65 u66 u67 u68 u69 u70 u71 u72 u73 u74 u75 u76 u77 u78 u79 u80 u81 u82 u83 u84 u85 u86 u87 u88 u89 u90 u91 u92 u93 u94 u95 u96 u97 u98 u99 u100 u101 u102 u103 u104 u105 u106 u107 u108 u109 u110 u111 u112 u113 u114 u115 u116 u117 u118 u119 u120 u121 u122 u123 u124 u125 u126 u127 u128 u129 u130 u131 u132 u133 u134 u135 u136 u137 u138 u139 u140 u141 u142 u143 u144 u145 u146 u147 u148 u149 u150 u151 u152 u153 u154 u155 u156 u157 u158 u159 u160 u161 u162 u163 u164 u165 u166 u167 u175 u176 u177 u178 u179 u180 u181 u182 u183 u184 u185 u186 u187 u188 u189 u190 u191 u192 u193 u194 u195 u196 u197 u198 u199 u200 u201 u202 u203 u204 u205 u206 u207 u208 u209 u210 u211 u212 : Value} {u168 u169 u170 u171 u172 u173 u174 : Value} {w0 W : World} {lv : Value} {os : List Int} {ins : List ByteArray} {oa ia : Option Addr} {oc ic hc p g a8 a10 B m i lp n : Nat} {F : Nat → Prop} {l : List (ThG Pa)} {hb : Nat} (h : Sn w0 lv (.slice oa os.length oc) (.slice ia ins.length ic) p g a8 a10 B F W l (.slice (some ⟨hb, 0, none⟩) m hc) m) (hm2 : m ≤ 100) (hi : i < m)
    {K : Act → World → Prop} (hK0 : ∀ W', TbP W' B F p (std l ((i : Int) + 1) 1 ⟨{ data := #[111, 116, 104, 101, 114] }, none, 0, 0⟩) 500 g → Ch F W W' → K { tmps := List.toArray (u0 :: u1 :: u2 :: u3 :: u4 :: u5 :: u6 :: u7 :: (.pointer (some ⟨a8, 0, none⟩)) :: u9 :: (.pointer (some ⟨a10, 0, none⟩)) :: u11 :: u12 :: u13 :: u14 :: u15 :: u16 :: u17 :: u18 :: u19 :: u20 :: u21 :: u22 :: (.int .i64 (i : Int)) :: u24 :: u25 :: u26 :: u27 :: u28 :: u29 :: u30 :: u31 :: u32 :: u33 :: u34 :: u35 :: u36 :: u37 :: u38 :: u39 :: u40 :: u41 :: u42 :: u43 :: u44 :: u45 :: u46 :: u47 :: u48 :: u49 :: u50 :: u51 :: u52 :: u53 :: u54 :: u55 :: u56 :: u57 :: u58 :: u59 :: u60 :: u61 :: u62 :: u63 :: u64 :: u65 :: u66 :: u67 :: u68 :: u69 :: u70 :: u71 :: u72 :: u73 :: u74 :: u75 :: u76 :: u77 :: u78 :: u79 :: u80 :: u81 :: u82 :: u83 :: u84 :: u85 :: u86 :: u87 :: u88 :: u89 :: u90 :: u91 :: u92 :: u93 :: u94 :: u95 :: u96 :: u97 :: u98 :: u99 :: u100 :: u101 :: u102 :: u103 :: u104 :: u105 :: u106 :: u107 :: u108 :: u109 :: u110 :: u111 :: u112 :: u113 :: u114 :: u115 :: u116 :: u117 :: u118 :: u119 :: u120 :: u121 :: u122 :: u123 :: u124 :: u125 :: u126 :: u127 :: u128 :: u129 :: u130 :: u131 :: u132 :: u133 :: u134 :: u135 :: u136 :: u137 :: u138 :: u139 :: u140 :: u141 :: u142 :: u143 :: u144 :: u145 :: u146 :: u147 :: u148 :: u149 :: u150 :: u151 :: u152 :: u153 :: u154 :: u155 :: u156 :: u157 :: u158 :: u159 :: u160 :: u161 :: u162 :: u163 :: u164 :: u165 :: u166 :: u167 :: (.pointer (some ⟨p, 0, none⟩)) :: ((.slice (some ⟨hb, 0, none⟩) m hc)) :: (.int .i64 (i : Int)) :: (.pointer (some ⟨hb, i * 2, none⟩)) :: (hv ((i : Int) + 1) 1) :: (.agg #[.string { data := #[111, 116, 104, 101, 114] }, .slice none 0 0]) :: (.int .i64 (ec (fnB l ((i : Int) + 1) 1) 102)) :: u175 :: u176 :: u177 :: u178 :: u179 :: u180 :: u181 :: u182 :: u183 :: u184 :: u185 :: u186 :: u187 :: u188 :: u189 :: u190 :: u191 :: u192 :: u193 :: u194 :: u195 :: u196 :: u197 :: u198 :: u199 :: u200 :: u201 :: u202 :: u203 :: u204 :: u205 :: u206 :: u207 :: u208 :: u209 :: u210 :: u211 :: u212 :: []), defers := [] } W') :
    (Code.region 34 #[rs0, rs1, rs2, rs3, rs4, rs5, rs6] true).wpIn (Fence.wide.inRound lp) n Try.prog (Exit.then K (fun _ _ _ => False)) { tmps := List.toArray (u0 :: u1 :: u2 :: u3 :: u4 :: u5 :: u6 :: u7 :: (.pointer (some ⟨a8, 0, none⟩)) :: u9 :: (.pointer (some ⟨a10, 0, none⟩)) :: u11 :: u12 :: u13 :: u14 :: u15 :: u16 :: u17 :: u18 :: u19 :: u20 :: u21 :: u22 :: (.int .i64 (i : Int)) :: u24 :: u25 :: u26 :: u27 :: u28 :: u29 :: u30 :: u31 :: u32 :: u33 :: u34 :: u35 :: u36 :: u37 :: u38 :: u39 :: u40 :: u41 :: u42 :: u43 :: u44 :: u45 :: u46 :: u47 :: u48 :: u49 :: u50 :: u51 :: u52 :: u53 :: u54 :: u55 :: u56 :: u57 :: u58 :: u59 :: u60 :: u61 :: u62 :: u63 :: u64 :: u65 :: u66 :: u67 :: u68 :: u69 :: u70 :: u71 :: u72 :: u73 :: u74 :: u75 :: u76 :: u77 :: u78 :: u79 :: u80 :: u81 :: u82 :: u83 :: u84 :: u85 :: u86 :: u87 :: u88 :: u89 :: u90 :: u91 :: u92 :: u93 :: u94 :: u95 :: u96 :: u97 :: u98 :: u99 :: u100 :: u101 :: u102 :: u103 :: u104 :: u105 :: u106 :: u107 :: u108 :: u109 :: u110 :: u111 :: u112 :: u113 :: u114 :: u115 :: u116 :: u117 :: u118 :: u119 :: u120 :: u121 :: u122 :: u123 :: u124 :: u125 :: u126 :: u127 :: u128 :: u129 :: u130 :: u131 :: u132 :: u133 :: u134 :: u135 :: u136 :: u137 :: u138 :: u139 :: u140 :: u141 :: u142 :: u143 :: u144 :: u145 :: u146 :: u147 :: u148 :: u149 :: u150 :: u151 :: u152 :: u153 :: u154 :: u155 :: u156 :: u157 :: u158 :: u159 :: u160 :: u161 :: u162 :: u163 :: u164 :: u165 :: u166 :: u167 :: u168 :: u169 :: u170 :: u171 :: u172 :: u173 :: u174 :: u175 :: u176 :: u177 :: u178 :: u179 :: u180 :: u181 :: u182 :: u183 :: u184 :: u185 :: u186 :: u187 :: u188 :: u189 :: u190 :: u191 :: u192 :: u193 :: u194 :: u195 :: u196 :: u197 :: u198 :: u199 :: u200 :: u201 :: u202 :: u203 :: u204 :: u205 :: u206 :: u207 :: u208 :: u209 :: u210 :: u211 :: u212 :: []), defers := [] } W := by
  have HC := hide (show ∀ wq, Ch F W wq → wq.cell? ⟨a8, 0, none⟩ = some (.pointer (some ⟨p, 0, none⟩)) ∧ wq.cell? ⟨a10, 0, none⟩ = some (.slice (some ⟨hb, 0, none⟩) m hc) from fun wq k =>
    ⟨Boxed.cell (k.box h.b8 (h.nF h.b8 (by decide) (by decide))), Boxed.cell (k.box h.bh (h.nF h.bh (by decide) (by decide)))⟩)
  have HT := hide (show ∀ V, Ch (fun _ => False) W V → Calls Try.prog 26 #[.pointer (some ⟨p, 0, none⟩), hv ((i : Int) + 1) 1, paV ⟨{ data := #[111, 116, 104, 101, 114] }, none, 0, 0⟩] V fun e w' => e = .returned (.int .i64 (ec (fnB l ((i : Int) + 1) 1) 102)) ∧ TbP w' B F p (std l ((i : Int) + 1) 1 ⟨{ data := #[111, 116, 104, 101, 114] }, none, 0, 0⟩) 500 g ∧ Ch F V w' from fun V hV => set_isP (h.tb.ch hV (fun _ _ h => h)) ⟨by omega, by omega⟩ _)
  have HH := hide (h.hat i hi)
  have HK := hide hK0
  have q1 : decide ((i : Int) < (m : Int)) = true := decide_eq_true (by omega)
  clear hK0 h
  refine region_round (S := Ch F W) (by kernel_rfl) (by kernel_rfl) ?_ (Ch.drew _) (fun zk => ?_)
  · rintro ⟨_, _, h⟩
    exact h
  apply tk 0 rs0 rfl (by kernel_rfl) (fun _ _ _ h => h) zk
  · intro wq zq
    have s0 := (HC.out _ zq).1
    go_simp
    try rfl
  go_frame
  apply tk 1 rs1 rfl (by kernel_rfl) (fun _ _ _ h => h) zk
  · intro wq zq
    have s0 := (HC.out _ zq).2
    go_simp
    try rfl
  go_frame
  apply tk 2 rs2 rfl (by kernel_rfl) (fun _ _ _ h => h) zk
  · intro wq zq
    go_simp
    try rfl
  go_frame
  apply tk 3 rs3 rfl (by kernel_rfl) (fun _ _ _ h => h) zk
  · intro wq zq
    go_simp
    try rfl
  go_frame
  apply tk 4 rs4 rfl (by kernel_rfl) (fun _ _ _ h => h) zk
  · intro wq zq
    obtain ⟨s0, s1⟩ := HH.out _ zq
    go_simp
    try rfl
  go_frame
  apply tk 5 rs5 rfl (by kernel_rfl) (fun _ _ _ h => h) zk
  · intro wq zq
    go_simp
    try rfl
  go_frame
  refine rd 6 rs6 rfl (by kernel_rfl) fun K hK => ?_
  go_simp
  refine (HT.out _ (Ch.drew _)).mono ?_
  rintro e w3 ⟨rfl, ht3, hc3⟩
  have Z := hide (zk.trans hc3 (fun _ _ h => h))
  have T3 := hide ht3
  clear ht3 hc3
  go_wp2_with fail
  refine hK.out _ _ ?_ (fun zk => ?_)
  · exact Z.out
  clear hK K
  try go_frame
  refine wpAnyH_done (by kernel_rfl) ?_ _
  exact HK.out _ T3.out Z.out

end Go.Proofs.Ytjilnmeegolpkaa
