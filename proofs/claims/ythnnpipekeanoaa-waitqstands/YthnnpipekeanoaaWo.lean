/- Layer 11: the document's Put: a wait more. -/
import Derived.Test.YthnnpipekeanoaaWn
import Derived.Test.YthnnpipekeanoaaTk
namespace Go.Proofs.Ythnnpipekeanoaa
open Go.RowKit

variable {w : World} {B b : Nat} {av ov : Value} {l : List Wt}

theorem wp_then {P : Program} {c : Code} {K : Act → World → Prop} {Q : Exit → Act → World → Prop} {a : Act} {w : World} (h : c.wp P (Exit.then K (fun _ _ _ => False)) a w) : c.wp P (Exit.then K Q) a w :=
  Code.wp_mono (fun e a w h => by cases e <;> first | exact h | exact (h : False).elim) h

abbrev pu0 : Oper := { dst := some 144, op := Op.move (Operand.tmp 0), type := 27, pos := "ref.go:41", after := #[], guard := none }
abbrev pu1 : Oper := { dst := some 145, op := Op.move (Operand.tmp 0), type := 27, pos := "ref.go:41", after := #[], guard := none }
abbrev pu2 : Oper := { dst := some 146, op := Op.nilCheck (Operand.tmp 145), type := 0, pos := "ref.go:41", after := #[{ on := 1, ground := Ground.data }], guard := none }
abbrev pu3 : Oper := { dst := some 147, op := Op.fieldAddr 31 (Operand.tmp 146) 0, type := 0, pos := "ref.go:41", after := #[{ on := 2, ground := Ground.data }], guard := none }
abbrev pu4 : Oper := { dst := some 148, op := Op.load 28 (Operand.tmp 147), type := 28, pos := "ref.go:41", after := #[{ on := 3, ground := Ground.data }], guard := none }
abbrev pu5 : Oper := { dst := some 149, op := Op.load 41 (Operand.tmp 18), type := 41, pos := "ref.go:41", after := #[], guard := none }
abbrev pu6 : Oper := { dst := some 150, op := Op.load 41 (Operand.tmp 7), type := 41, pos := "ref.go:41", after := #[], guard := none }
abbrev pu7 : Oper := { dst := some 151, op := Op.load 44 (Operand.tmp 6), type := 44, pos := "ref.go:41", after := #[], guard := none }
abbrev pu8 : Oper := { dst := some 152, op := Op.move (Operand.tmp 3), type := 3, pos := "ref.go:41", after := #[], guard := none }
abbrev pu9 : Oper := { dst := some 153, op := Op.load 46 (Operand.tmp 9), type := 46, pos := "ref.go:41", after := #[], guard := none }
abbrev pu10 : Oper := { dst := some 154, op := Op.build 57 #[(0, Operand.tmp 149), (1, Operand.tmp 150), (2, Operand.tmp 151), (3, Operand.tmp 152), (4, Operand.tmp 153)], type := 57, pos := "ref.go:41", after := #[{ on := 5, ground := Ground.data }, { on := 6, ground := Ground.data }, { on := 7, ground := Ground.data }, { on := 8, ground := Ground.data }, { on := 9, ground := Ground.data }], guard := none }
abbrev pu11 : Oper := { dst := some 155, op := Op.buildSlice 28 1 #[(0, Operand.tmp 154)], type := 28, pos := "ref.go:41", after := #[{ on := 10, ground := Ground.data }], guard := none }
abbrev pu12 : Oper := { dst := some 156, op := Op.call { callee := Callee.builtin Builtin.append, args := #[Operand.tmp 148, Operand.tmp 155], argTypes := #[28, 28] }, type := 28, pos := "ref.go:41", after := #[{ on := 4, ground := Ground.data }, { on := 11, ground := Ground.data }], guard := none }
abbrev pu13 : Oper := { dst := some 157, op := Op.nilCheck (Operand.tmp 144), type := 0, pos := "ref.go:41", after := #[{ on := 0, ground := Ground.data }, { on := 0, ground := Ground.phase }, { on := 1, ground := Ground.phase }, { on := 2, ground := Ground.phase }, { on := 3, ground := Ground.phase }, { on := 4, ground := Ground.phase }, { on := 5, ground := Ground.phase }, { on := 6, ground := Ground.phase }, { on := 7, ground := Ground.phase }, { on := 8, ground := Ground.phase }, { on := 9, ground := Ground.phase }, { on := 10, ground := Ground.phase }, { on := 11, ground := Ground.phase }, { on := 12, ground := Ground.phase }], guard := none }
abbrev pu14 : Oper := { dst := some 158, op := Op.fieldAddr 31 (Operand.tmp 157) 0, type := 0, pos := "ref.go:41", after := #[{ on := 13, ground := Ground.data }, { on := 0, ground := Ground.phase }, { on := 1, ground := Ground.phase }, { on := 2, ground := Ground.phase }, { on := 3, ground := Ground.phase }, { on := 4, ground := Ground.phase }, { on := 5, ground := Ground.phase }, { on := 6, ground := Ground.phase }, { on := 7, ground := Ground.phase }, { on := 8, ground := Ground.phase }, { on := 9, ground := Ground.phase }, { on := 10, ground := Ground.phase }, { on := 11, ground := Ground.phase }, { on := 12, ground := Ground.phase }], guard := none }
abbrev pu15 : Oper := { dst := none, op := Op.store 28 (Operand.tmp 158) (Operand.tmp 156), type := 0, pos := "ref.go:41", after := #[{ on := 14, ground := Ground.data }, { on := 12, ground := Ground.data }, { on := 12, ground := Ground.chain }, { on := 0, ground := Ground.phase }, { on := 1, ground := Ground.phase }, { on := 2, ground := Ground.phase }, { on := 3, ground := Ground.phase }, { on := 4, ground := Ground.phase }, { on := 5, ground := Ground.phase }, { on := 6, ground := Ground.phase }, { on := 7, ground := Ground.phase }, { on := 8, ground := Ground.phase }, { on := 9, ground := Ground.phase }, { on := 10, ground := Ground.phase }, { on := 11, ground := Ground.phase }, { on := 12, ground := Ground.phase }], guard := none }

set_option maxRecDepth 100000 in
set_option maxHeartbeats 8000000 in
theorem rput_r26 {u1 u2 u4 u5 u8 u10 u11 u12 u13 u14 u15 u16 u17 u19 u20 u21 u22 u23 u24 u25 u26 u27 u28 u29 u30 u31 u32 u33 u34 u35 u36 u37 u38 u39 u40 u41 u42 u43 u44 u45 u46 u47 u48 u49 u50 u51 u52 u53 u54 u55 u56 u57 u58 u59 u60 u61 u62 u63 u64 u65 u66 u67 u68 u69 u70 u71 u72 u73 u74 u75 u76 u77 u78 u79 u80 u81 u82 u83 u84 u85 u86 u87 u88 u89 u90 u91 u92 u93 u94 u95 u96 u97 u98 u99 u100 u101 u102 u103 u104 u105 u106 u107 u108 u109 u110 u111 u112 u113 u114 u115 u116 u117 u118 u119 u120 u121 u122 u123 u124 u125 u126 u127 u128 u129 u130 u131 u132 u133 u134 u135 u136 u137 u138 u139 u140 u141 u142 u143 u144 u145 u146 u147 u148 u149 u150 u151 u152 u153 u154 u155 u156 u157 u158 u159 u160 u161 u162 u163 u164 u165 u166 u167 u168 : Value} {W : World} (h : DB W B b av ov l) (hl : l.length ≤ 100000) (hB : B ≤ W.heap.size) {A0 A1 A2 A4 : Nat} {S G ws wg rs rg rd ar vn vs vg : Int} (n0 : W.heap[A0]? = some (.cells #[.int .u32 rs, .int .u32 rg, .int .i64 rd] 44 (0, 0))) (n1 : W.heap[A1]? = some (.cells #[.int .u32 ws, .int .u32 wg] 41 (0, 0))) (n2 : W.heap[A2]? = some (.cells #[.int .i64 vn, .int .u32 vs, .int .u32 vg] 46 (0, 0))) (n4 : W.heap[A4]? = some (.cells #[.int .u32 S, .int .u32 G] 41 (0, 0)))
    {K : Act → World → Prop} (hK0 : ∀ (av' : Value) (W' : World), W'.heap[b]? = some (.cells #[av', ov] 31 (0, 0)) → RcRow W' B av' (l.map Wt.r ++ [⟨S, G, ws, wg, rs, rg, rd, ar, vn, vs, vg⟩]) → OvRow W' B ov (l.map Wt.o) → Ch (fun y => y = b ∨ av.ownBlock = some y) W W' → (∀ x, av'.ownBlock = some x → av.ownBlock = some x ∨ W.heap.size ≤ x) → ∀ (u144 u145 u146 u147 u148 u149 u150 u151 u152 u153 u154 u155 u156 u157 u158 : Value), K { tmps := List.toArray ((.pointer (some ⟨b, 0, none⟩)) :: u1 :: u2 :: (.int .i64 ar) :: u4 :: u5 :: (.pointer (some ⟨A0, 0, none⟩)) :: (.pointer (some ⟨A1, 0, none⟩)) :: u8 :: (.pointer (some ⟨A2, 0, none⟩)) :: u10 :: u11 :: u12 :: u13 :: u14 :: u15 :: u16 :: u17 :: (.pointer (some ⟨A4, 0, none⟩)) :: u19 :: u20 :: u21 :: u22 :: u23 :: u24 :: u25 :: u26 :: u27 :: u28 :: u29 :: u30 :: u31 :: u32 :: u33 :: u34 :: u35 :: u36 :: u37 :: u38 :: u39 :: u40 :: u41 :: u42 :: u43 :: u44 :: u45 :: u46 :: u47 :: u48 :: u49 :: u50 :: u51 :: u52 :: u53 :: u54 :: u55 :: u56 :: u57 :: u58 :: u59 :: u60 :: u61 :: u62 :: u63 :: u64 :: u65 :: u66 :: u67 :: u68 :: u69 :: u70 :: u71 :: u72 :: u73 :: u74 :: u75 :: u76 :: u77 :: u78 :: u79 :: u80 :: u81 :: u82 :: u83 :: u84 :: u85 :: u86 :: u87 :: u88 :: u89 :: u90 :: u91 :: u92 :: u93 :: u94 :: u95 :: u96 :: u97 :: u98 :: u99 :: u100 :: u101 :: u102 :: u103 :: u104 :: u105 :: u106 :: u107 :: u108 :: u109 :: u110 :: u111 :: u112 :: u113 :: u114 :: u115 :: u116 :: u117 :: u118 :: u119 :: u120 :: u121 :: u122 :: u123 :: u124 :: u125 :: u126 :: u127 :: u128 :: u129 :: u130 :: u131 :: u132 :: u133 :: u134 :: u135 :: u136 :: u137 :: u138 :: u139 :: u140 :: u141 :: u142 :: u143 :: u144 :: u145 :: u146 :: u147 :: u148 :: u149 :: u150 :: u151 :: u152 :: u153 :: u154 :: u155 :: u156 :: u157 :: u158 :: u159 :: u160 :: u161 :: u162 :: u163 :: u164 :: u165 :: u166 :: u167 :: u168 :: []), defers := [] } W') :
    (Code.region 26 #[pu0, pu1, pu2, pu3, pu4, pu5, pu6, pu7, pu8, pu9, pu10, pu11, pu12, pu13, pu14, pu15] true).wp Try.prog (Exit.then K (fun _ _ _ => False)) { tmps := List.toArray ((.pointer (some ⟨b, 0, none⟩)) :: u1 :: u2 :: (.int .i64 ar) :: u4 :: u5 :: (.pointer (some ⟨A0, 0, none⟩)) :: (.pointer (some ⟨A1, 0, none⟩)) :: u8 :: (.pointer (some ⟨A2, 0, none⟩)) :: u10 :: u11 :: u12 :: u13 :: u14 :: u15 :: u16 :: u17 :: (.pointer (some ⟨A4, 0, none⟩)) :: u19 :: u20 :: u21 :: u22 :: u23 :: u24 :: u25 :: u26 :: u27 :: u28 :: u29 :: u30 :: u31 :: u32 :: u33 :: u34 :: u35 :: u36 :: u37 :: u38 :: u39 :: u40 :: u41 :: u42 :: u43 :: u44 :: u45 :: u46 :: u47 :: u48 :: u49 :: u50 :: u51 :: u52 :: u53 :: u54 :: u55 :: u56 :: u57 :: u58 :: u59 :: u60 :: u61 :: u62 :: u63 :: u64 :: u65 :: u66 :: u67 :: u68 :: u69 :: u70 :: u71 :: u72 :: u73 :: u74 :: u75 :: u76 :: u77 :: u78 :: u79 :: u80 :: u81 :: u82 :: u83 :: u84 :: u85 :: u86 :: u87 :: u88 :: u89 :: u90 :: u91 :: u92 :: u93 :: u94 :: u95 :: u96 :: u97 :: u98 :: u99 :: u100 :: u101 :: u102 :: u103 :: u104 :: u105 :: u106 :: u107 :: u108 :: u109 :: u110 :: u111 :: u112 :: u113 :: u114 :: u115 :: u116 :: u117 :: u118 :: u119 :: u120 :: u121 :: u122 :: u123 :: u124 :: u125 :: u126 :: u127 :: u128 :: u129 :: u130 :: u131 :: u132 :: u133 :: u134 :: u135 :: u136 :: u137 :: u138 :: u139 :: u140 :: u141 :: u142 :: u143 :: u144 :: u145 :: u146 :: u147 :: u148 :: u149 :: u150 :: u151 :: u152 :: u153 :: u154 :: u155 :: u156 :: u157 :: u158 :: u159 :: u160 :: u161 :: u162 :: u163 :: u164 :: u165 :: u166 :: u167 :: u168 :: []), defers := [] } W := by
  obtain ⟨i0, hi0, hz0, hz1, hz2⟩ := nf_open nfRc
  have nq : ∀ {x : Nat} {cs : Array Value} {T : TypeId}, W.heap[x]? = some (.cells cs T (0, 0)) → T ≠ 31 → T ≠ 57 → ¬ (x = b ∨ av.ownBlock = some x) := fun hx h1 h2 e => by
    rcases e with rfl | e
    · have e2 := h.box
      rw [hx] at e2
      injection e2 with e2
      injection e2 with _ e2 _
      exact h1 e2
    · exact own_box h.all hx (fun e => h2 e.symm) e
  have HC := hide (show ∀ wq, Ch (fun y => y = b ∨ av.ownBlock = some y) W wq → (wq.cell? ⟨A4, 0, none⟩ = some (.int .u32 S) ∧ wq.cell? ⟨A4, 1, none⟩ = some (.int .u32 G)) ∧ (wq.cell? ⟨A1, 0, none⟩ = some (.int .u32 ws) ∧ wq.cell? ⟨A1, 1, none⟩ = some (.int .u32 wg)) ∧ (wq.cell? ⟨A0, 0, none⟩ = some (.int .u32 rs) ∧ wq.cell? ⟨A0, 1, none⟩ = some (.int .u32 rg) ∧ wq.cell? ⟨A0, 2, none⟩ = some (.int .i64 rd)) ∧ (wq.cell? ⟨A2, 0, none⟩ = some (.int .i64 vn) ∧ wq.cell? ⟨A2, 1, none⟩ = some (.int .u32 vs) ∧ wq.cell? ⟨A2, 2, none⟩ = some (.int .u32 vg)) from fun wq k => by
    have e4 := Lib.cell_of_heap (k.box n4 (nq n4 (by decide) (by decide)))
    have e1 := Lib.cell_of_heap (k.box n1 (nq n1 (by decide) (by decide)))
    have e0 := Lib.cell_of_heap (k.box n0 (nq n0 (by decide) (by decide)))
    have e2 := Lib.cell_of_heap (k.box n2 (nq n2 (by decide) (by decide)))
    exact ⟨⟨by simp [e4], by simp [e4]⟩, ⟨by simp [e1], by simp [e1]⟩, ⟨by simp [e0], by simp [e0], by simp [e0]⟩, ⟨by simp [e2], by simp [e2], by simp [e2]⟩⟩)
  have hx0 := h.cells.1
  have HD := hide h
  have HK := hide hK0
  clear hK0 h n0 n1 n2 n4 nq
  refine wp_region_held_drew (S := Ch (fun y => y = b ∨ av.ownBlock = some y) W) (by kernel_rfl) (Ch.drew _) (fun zk => ?_)
  apply tk 0 pu0 rfl (by kernel_rfl) (fun _ _ _ h => h) zk
  · intro wq zq
    go_simp
    try rfl
  go_frame
  apply tk 1 pu1 rfl (by kernel_rfl) (fun _ _ _ h => h) zk
  · intro wq zq
    go_simp
    try rfl
  go_frame
  apply tk 2 pu2 rfl (by kernel_rfl) (fun _ _ _ h => h) zk
  · intro wq zq
    go_simp
    try rfl
  go_frame
  apply tk 3 pu3 rfl (by kernel_rfl) (fun _ _ _ h => h) zk
  · intro wq zq
    go_simp
    try rfl
  go_frame
  apply tk 5 pu5 rfl (by kernel_rfl) (fun _ _ _ h => h) zk
  · intro wq zq
    obtain ⟨s1, s2⟩ := (HC.out _ zq).1
    go_simp
    try rfl
  go_frame
  apply tk 6 pu6 rfl (by kernel_rfl) (fun _ _ _ h => h) zk
  · intro wq zq
    obtain ⟨s1, s2⟩ := (HC.out _ zq).2.1
    go_simp
    try rfl
  go_frame
  apply tk 7 pu7 rfl (by kernel_rfl) (fun _ _ _ h => h) zk
  · intro wq zq
    obtain ⟨s1, s2, s3⟩ := (HC.out _ zq).2.2.1
    go_simp
    try rfl
  go_frame
  apply tk 8 pu8 rfl (by kernel_rfl) (fun _ _ _ h => h) zk
  · intro wq zq
    go_simp
    try rfl
  go_frame
  apply tk 9 pu9 rfl (by kernel_rfl) (fun _ _ _ h => h) zk
  · intro wq zq
    obtain ⟨s1, s2, s3⟩ := (HC.out _ zq).2.2.2
    go_simp
    try rfl
  go_frame
  apply tk 10 pu10 rfl (by kernel_rfl) (fun _ _ _ h => h) zk
  · intro wq zq
    go_simp
    try rfl
  go_frame
  refine wpAnyH_ready (rs := [4, 11]) (by kernel_rfl) (by simp) ?_
  refine AllReadyH.cons (o := pu4) rfl (fun K hK => ?_) (AllReadyH.cons (o := pu11) rfl (fun K hK => ?_) AllReadyH.nil)
  · have s1 := hx0
    go_simp
    refine hK.out _ _ ?_ (fun zk => ?_)
    · exact zk
    clear hK K
    try go_frame
    clear s1
    refine Go.Proofs.Ythnnpipekeanoaa.rd 11 pu11 rfl (by kernel_rfl) fun K hK => ?_
    go_simp
    refine hK.out _ _ ?_ (fun zk => ?_)
    · exact zk.trans (Ch.alloc (Q := fun y => y = b ∨ av.ownBlock = some y) _ _) (fun _ _ h => h)
    clear hK K
    try go_frame
    have HDV := hide (HD.out.ch ((Ch.alloc (Q := fun _ => False) W (.cells #[.int .u32 S, .int .u32 G, .int .u32 ws, .int .u32 wg, .int .u32 rs, .int .u32 rg, .int .i64 rd, .int .i64 ar, .int .i64 vn, .int .u32 vs, .int .u32 vg] 57)).trans (Ch.drew (Q := fun _ => False) _) (fun _ _ h => h)) (fun h => h) (fun _ _ h => h) (fun _ _ h => h))
    refine Go.Proofs.Ythnnpipekeanoaa.rd 12 pu12 rfl (by kernel_rfl) fun K hK => ?_
    refine step_append_at rfl (.tmp 148) (.tmp 155) 28 rfl B 57 i0 (rcV zRc) 11 56 Try.underlying28 hi0 hz0 hz1 hz2 rfl (by decide) av l.length ((l.map Wt.r).flatMap rcF) rfl (by have := HDV.out.all; unfold RcRow Row at this; rw [List.length_map] at this; exact this) ⟨W.heap.size, 0, none⟩ 1 1 (rcF ⟨S, G, ws, wg, rs, rg, rd, ar, vn, vs, vg⟩) rfl rfl (row_new W (rcF ⟨S, G, ws, wg, rs, rg, rd, ar, vn, vs, vg⟩) 57 rfl) (rcF_one _) (by unfold maxLen; omega) (by omega) (by show B ≤ (W.alloc _).heap.size; simp; omega) ?_
    intro av2 W5 hr5 hg5 ho5
    have C5 := hide (Ch.of_grown (Q := fun y => av.ownBlock = some y) hg5 (fun _ e => e))
    have R5 := hide (show RcRow W5 B av2 (l.map Wt.r ++ [⟨S, G, ws, wg, rs, rg, rd, ar, vn, vs, vg⟩]) from Row.snoc (by rw [List.length_map]; exact hr5))
    have B5 := hide (C5.out.box HDV.out.box HDV.out.ne.2)
    have OV5 := hide (HDV.out.ov.ch C5.out (fun x hx => HDV.out.two x hx))
    obtain ⟨a5, n5, c5, e5⟩ := own_form hr5
    subst e5
    have y5 : W5.cell? ⟨b, 0, none⟩ = some av := by simp [Lib.cell_of_heap B5.out]
    have f5 : W5.frozen? ⟨b, 0, none⟩ = false := by simp [World.frozen?, B5.out]
    have Z5 := hide (zk.trans (C5.out.mono (fun _ _ h => Or.inr h)) (fun _ _ h => h))
    have HO5 := hide ho5
    clear hr5 hg5 ho5
    refine hK.out _ _ ?_ (fun zk => ?_)
    · exact Z5.out
    clear hK K
    try go_frame
    apply tk 13 pu13 rfl (by kernel_rfl) (fun _ _ _ h => h) zk
    · intro wq zq
      go_simp
      try rfl
    go_frame
    apply tk 14 pu14 rfl (by kernel_rfl) (fun _ _ _ h => h) zk
    · intro wq zq
      go_simp
      try rfl
    go_frame
    refine Go.Proofs.Ythnnpipekeanoaa.rd 15 pu15 rfl (by kernel_rfl) fun K hK => ?_
    go_simp
    refine hK.out _ _ ?_ (fun zk => ?_)
    · exact Z5.out.trans (Ch.set (Q := fun y => y = b ∨ av.ownBlock = some y) _ (Or.inl rfl) _ _) (fun _ _ h => h)
    clear hK K
    try go_frame
    refine wpAnyH_done (by kernel_rfl) ?_ _
    have c6 := Ch.set (Q := fun y => y = b) W5 rfl 0 (.slice a5 n5 c5)
    have key := HK.out (.slice a5 n5 c5) (W5.setCell ⟨b, 0, none⟩ (.slice a5 n5 c5)) (by rw [heap_set B5.out 0 _]; rfl) (R5.out.ch c6 (fun x hx e => by subst e; exact own_box R5.out B5.out (by decide) hx)) (OV5.out.ch c6 (fun x hx e => by subst e; exact own_box OV5.out B5.out (by decide) hx)) (Z5.out.trans (Ch.set (Q := fun y => y = b ∨ av.ownBlock = some y) _ (Or.inl rfl) _ _) (fun _ _ h => h)) (fun x hx => HO5.out.elim (fun e => Or.inl (e.symm.trans hx)) (fun e => Or.inr (by rw [e] at hx; injection hx with hx; rw [← hx]; show W.heap.size ≤ (W.alloc _).heap.size; simp)))
    apply key
  · go_simp
    refine hK.out _ _ ?_ (fun zk => ?_)
    · exact zk.trans (Ch.alloc (Q := fun y => y = b ∨ av.ownBlock = some y) _ _) (fun _ _ h => h)
    clear hK K
    try go_frame
    refine Go.Proofs.Ythnnpipekeanoaa.rd 4 pu4 rfl (by kernel_rfl) fun K hK => ?_
    have s1 : (W.alloc (.cells #[.int .u32 S, .int .u32 G, .int .u32 ws, .int .u32 wg, .int .u32 rs, .int .u32 rg, .int .i64 rd, .int .i64 ar, .int .i64 vn, .int .u32 vs, .int .u32 vg] 57)).cell? ⟨b, 0, none⟩ = some av := (HD.out.below (below1 _ _)).cells.1
    go_simp
    refine hK.out _ _ ?_ (fun zk => ?_)
    · exact zk
    clear hK K
    try go_frame
    clear s1
    have HDV := hide (HD.out.ch ((Ch.alloc (Q := fun _ => False) W (.cells #[.int .u32 S, .int .u32 G, .int .u32 ws, .int .u32 wg, .int .u32 rs, .int .u32 rg, .int .i64 rd, .int .i64 ar, .int .i64 vn, .int .u32 vs, .int .u32 vg] 57)).trans (Ch.drew (Q := fun _ => False) _) (fun _ _ h => h)) (fun h => h) (fun _ _ h => h) (fun _ _ h => h))
    refine Go.Proofs.Ythnnpipekeanoaa.rd 12 pu12 rfl (by kernel_rfl) fun K hK => ?_
    refine step_append_at rfl (.tmp 148) (.tmp 155) 28 rfl B 57 i0 (rcV zRc) 11 56 Try.underlying28 hi0 hz0 hz1 hz2 rfl (by decide) av l.length ((l.map Wt.r).flatMap rcF) rfl (by have := HDV.out.all; unfold RcRow Row at this; rw [List.length_map] at this; exact this) ⟨W.heap.size, 0, none⟩ 1 1 (rcF ⟨S, G, ws, wg, rs, rg, rd, ar, vn, vs, vg⟩) rfl rfl (row_new W (rcF ⟨S, G, ws, wg, rs, rg, rd, ar, vn, vs, vg⟩) 57 rfl) (rcF_one _) (by unfold maxLen; omega) (by omega) (by show B ≤ (W.alloc _).heap.size; simp; omega) ?_
    intro av2 W5 hr5 hg5 ho5
    have C5 := hide (Ch.of_grown (Q := fun y => av.ownBlock = some y) hg5 (fun _ e => e))
    have R5 := hide (show RcRow W5 B av2 (l.map Wt.r ++ [⟨S, G, ws, wg, rs, rg, rd, ar, vn, vs, vg⟩]) from Row.snoc (by rw [List.length_map]; exact hr5))
    have B5 := hide (C5.out.box HDV.out.box HDV.out.ne.2)
    have OV5 := hide (HDV.out.ov.ch C5.out (fun x hx => HDV.out.two x hx))
    obtain ⟨a5, n5, c5, e5⟩ := own_form hr5
    subst e5
    have y5 : W5.cell? ⟨b, 0, none⟩ = some av := by simp [Lib.cell_of_heap B5.out]
    have f5 : W5.frozen? ⟨b, 0, none⟩ = false := by simp [World.frozen?, B5.out]
    have Z5 := hide (zk.trans (C5.out.mono (fun _ _ h => Or.inr h)) (fun _ _ h => h))
    have HO5 := hide ho5
    clear hr5 hg5 ho5
    refine hK.out _ _ ?_ (fun zk => ?_)
    · exact Z5.out
    clear hK K
    try go_frame
    apply tk 13 pu13 rfl (by kernel_rfl) (fun _ _ _ h => h) zk
    · intro wq zq
      go_simp
      try rfl
    go_frame
    apply tk 14 pu14 rfl (by kernel_rfl) (fun _ _ _ h => h) zk
    · intro wq zq
      go_simp
      try rfl
    go_frame
    refine Go.Proofs.Ythnnpipekeanoaa.rd 15 pu15 rfl (by kernel_rfl) fun K hK => ?_
    go_simp
    refine hK.out _ _ ?_ (fun zk => ?_)
    · exact Z5.out.trans (Ch.set (Q := fun y => y = b ∨ av.ownBlock = some y) _ (Or.inl rfl) _ _) (fun _ _ h => h)
    clear hK K
    try go_frame
    refine wpAnyH_done (by kernel_rfl) ?_ _
    have c6 := Ch.set (Q := fun y => y = b) W5 rfl 0 (.slice a5 n5 c5)
    have key := HK.out (.slice a5 n5 c5) (W5.setCell ⟨b, 0, none⟩ (.slice a5 n5 c5)) (by rw [heap_set B5.out 0 _]; rfl) (R5.out.ch c6 (fun x hx e => by subst e; exact own_box R5.out B5.out (by decide) hx)) (OV5.out.ch c6 (fun x hx e => by subst e; exact own_box OV5.out B5.out (by decide) hx)) (Z5.out.trans (Ch.set (Q := fun y => y = b ∨ av.ownBlock = some y) _ (Or.inl rfl) _ _) (fun _ _ h => h)) (fun x hx => HO5.out.elim (fun e => Or.inl (e.symm.trans hx)) (fun e => Or.inr (by rw [e] at hx; injection hx with hx; rw [← hx]; show W.heap.size ≤ (W.alloc _).heap.size; simp)))
    apply key

end Go.Proofs.Ythnnpipekeanoaa
