/- Layer 10: SlotsSeen: one thing is taken. -/
import Derived.Test.YtjilnmeegolpkaaKa
import Derived.Test.YtjilnmeegolpkaaTk
namespace Go.Proofs.Ytjilnmeegolpkaa
open Go.RowKit Go.Shelf

abbrev r90 : Oper := { dst := some 55, op := Op.load 58 (Operand.tmp 8), type := 58, pos := "law.go:236", after := #[], guard := none }
abbrev r91 : Oper := { dst := some 56, op := Op.load 57 (Operand.tmp 3), type := 57, pos := "law.go:236", after := #[], guard := none }
abbrev r92 : Oper := { dst := some 57, op := Op.move (Operand.tmp 11), type := 3, pos := "law.go:236", after := #[], guard := none }
abbrev r93 : Oper := { dst := some 58, op := Op.indexAddr 57 (Operand.tmp 56) (Operand.tmp 57), type := 0, pos := "law.go:236", after := #[{ on := 1, ground := Ground.data }, { on := 2, ground := Ground.data }], guard := none }
abbrev r94 : Oper := { dst := some 59, op := Op.load 9 (Operand.tmp 58), type := 9, pos := "law.go:236", after := #[{ on := 3, ground := Ground.data }], guard := none }
abbrev r95 : Oper := { dst := some 60, op := Op.move (Operand.tmp 11), type := 3, pos := "law.go:236", after := #[], guard := none }
abbrev r96 : Oper := { dst := some 61, op := Op.buildSlice 49 1 #[(0, Operand.tmp 60)], type := 49, pos := "law.go:236", after := #[{ on := 5, ground := Ground.data }], guard := none }
abbrev r97 : Oper := { dst := some 62, op := Op.build 62 #[(0, Operand.tmp 59), (1, Operand.tmp 61)], type := 62, pos := "law.go:236", after := #[{ on := 4, ground := Ground.data }, { on := 6, ground := Ground.data }], guard := none }
abbrev r98 : Oper := { dst := some 63, op := Op.call { callee := Callee.value (Operand.func 23), args := #[Operand.tmp 55, Operand.tmp 62], argTypes := #[58, 62] }, type := 50, pos := "law.go:236", after := #[{ on := 0, ground := Ground.data }, { on := 7, ground := Ground.data }], guard := none }
abbrev r99 : Oper := { dst := some 54, op := Op.move (Operand.tmp 63), type := 50, pos := "law.go:236", after := #[{ on := 8, ground := Ground.data }], guard := none }
abbrev r910 : Oper := { dst := some 64, op := Op.extract (Operand.tmp 54) 0, type := 39, pos := "law.go:236", after := #[{ on := 9, ground := Ground.data }], guard := none }
abbrev r911 : Oper := { dst := some 65, op := Op.extract (Operand.tmp 54) 1, type := 25, pos := "law.go:236", after := #[{ on := 9, ground := Ground.data }, { on := 13, ground := Ground.gcOnly Departure.lateStores }], guard := none }
abbrev r912 : Oper := { dst := some 12, op := Op.alloc 39, type := 0, pos := "law.go:236", after := #[], guard := none }
abbrev r913 : Oper := { dst := none, op := Op.store 39 (Operand.tmp 12) (Operand.tmp 64), type := 0, pos := "law.go:236", after := #[{ on := 12, ground := Ground.data }, { on := 10, ground := Ground.data }, { on := 8, ground := Ground.chain }, { on := 0, ground := Ground.phase }, { on := 1, ground := Ground.phase }, { on := 2, ground := Ground.phase }, { on := 3, ground := Ground.phase }, { on := 4, ground := Ground.phase }, { on := 5, ground := Ground.phase }, { on := 6, ground := Ground.phase }, { on := 7, ground := Ground.phase }, { on := 8, ground := Ground.phase }, { on := 9, ground := Ground.phase }, { on := 10, ground := Ground.phase }, { on := 11, ground := Ground.textOnly Departure.lateStores }, { on := 12, ground := Ground.phase }], guard := none }
abbrev r914 : Oper := { dst := some 13, op := Op.assign (Operand.tmp 65), type := 25, pos := "law.go:236", after := #[{ on := 11, ground := Ground.data }, { on := 13, ground := Ground.chain }, { on := 0, ground := Ground.phase }, { on := 1, ground := Ground.phase }, { on := 2, ground := Ground.phase }, { on := 3, ground := Ground.phase }, { on := 4, ground := Ground.phase }, { on := 5, ground := Ground.phase }, { on := 6, ground := Ground.phase }, { on := 7, ground := Ground.phase }, { on := 8, ground := Ground.phase }, { on := 9, ground := Ground.phase }, { on := 10, ground := Ground.phase }, { on := 11, ground := Ground.phase }, { on := 12, ground := Ground.phase }, { on := 13, ground := Ground.phase }], guard := none }

set_option maxRecDepth 100000 in
set_option maxHeartbeats 4000000 in
theorem seen_r9 {u0 u1 u2 u4 u5 u6 u7 u9 u10 u14 u15 u16 u17 u18 u19 u20 u21 u22 u23 u24 u25 u26 u27 u28 u29 u30 u31 u32 u33 u34 u35 u36 u37 u38 u39 u40 u41 u42 u43 u44 u45 u46 u47 u48 u49 u50 u51 u52 u53 u66 u67 u68 u69 u70 u71 u72 u73 u74 u75 u76 u77 u78 u79 u80 u81 u82 u83 u84 u85 u86 u87 u88 u89 u90 u91 u92 u93 u94 u95 u96 u97 u98 u99 u100 u101 u102 u103 u104 u105 u106 u107 u108 u109 u110 u111 u112 u113 u114 u115 u116 u117 u118 u119 u120 u121 u122 u123 u124 u125 u126 u127 u128 u129 u130 u131 u132 u133 u134 u135 u136 u137 u138 u139 u140 u141 u142 u143 u144 u145 u146 u147 u148 u149 u150 u151 u152 u153 u154 u155 u156 u157 u158 u159 u160 u161 u162 u163 u164 u165 u166 u167 u168 u169 u170 u171 u172 u173 u174 u175 u176 u177 u178 u179 u180 u181 u182 u183 u184 u185 u186 u187 u188 u189 u190 u191 u192 u193 u194 u195 u196 u197 u198 u199 u200 u201 u202 u203 u204 u205 u206 u207 u208 u209 u210 u211 u212 : Value} {u12 u13 u54 u55 u56 u57 u58 u59 u60 u61 u62 u63 u64 u65 : Value} {w0 W : World} {ss : List ByteArray} {ov iv hv' : Value} {lb lo lc p g a8 a10 B i : Nat} {F : Nat → Prop} {xs : List Pa}
    (h : Sn w0 (.slice (some ⟨lb, lo, none⟩) ss.length lc) ov iv p g a8 a10 B F W (row1 xs) hv' i) (hx : xs.length = i) (hi : i < ss.length) (hi2 : i < 100) (hlb : lb < w0.heap.size) (hstr : w0.cell? ⟨lb, lo + i, none⟩ = some (.string ss[i]))
    {K : Act → World → Prop} (hK0 : ∀ A b W', W.heap.size ≤ A → W'.heap[A]? = some (.cells #[.int .u32 ((i : Int) + 1), .int .u32 1] 39) → W.heap.size ≤ b → Boxed W' b 3 (.int .i64 (i : Int)) → TbP W' B F p (row1 (xs ++ [⟨ss[i], some ⟨b, 0, none⟩, 1, 1⟩])) 500 g → Ch F W W' → K { tmps := List.toArray (u0 :: u1 :: u2 :: (.pointer (some ⟨w0.heap.size, 0, none⟩)) :: u4 :: u5 :: u6 :: u7 :: (.pointer (some ⟨a8, 0, none⟩)) :: u9 :: u10 :: (.int .i64 (i : Int)) :: (.pointer (some ⟨A, 0, none⟩)) :: (.int .i64 0) :: u14 :: u15 :: u16 :: u17 :: u18 :: u19 :: u20 :: u21 :: u22 :: u23 :: u24 :: u25 :: u26 :: u27 :: u28 :: u29 :: u30 :: u31 :: u32 :: u33 :: u34 :: u35 :: u36 :: u37 :: u38 :: u39 :: u40 :: u41 :: u42 :: u43 :: u44 :: u45 :: u46 :: u47 :: u48 :: u49 :: u50 :: u51 :: u52 :: u53 :: (.tuple #[hv ((i : Int) + 1) 1, .int .i64 0]) :: (.pointer (some ⟨p, 0, none⟩)) :: (.slice (some ⟨lb, lo, none⟩) ss.length lc) :: (.int .i64 (i : Int)) :: (.pointer (some ⟨lb, lo + i, none⟩)) :: (.string ss[i]) :: (.int .i64 (i : Int)) :: (.slice (some ⟨b, 0, none⟩) 1 1) :: (.agg #[.string ss[i], .slice (some ⟨b, 0, none⟩) 1 1]) :: (.tuple #[hv ((i : Int) + 1) 1, .int .i64 0]) :: (hv ((i : Int) + 1) 1) :: (.int .i64 0) :: u66 :: u67 :: u68 :: u69 :: u70 :: u71 :: u72 :: u73 :: u74 :: u75 :: u76 :: u77 :: u78 :: u79 :: u80 :: u81 :: u82 :: u83 :: u84 :: u85 :: u86 :: u87 :: u88 :: u89 :: u90 :: u91 :: u92 :: u93 :: u94 :: u95 :: u96 :: u97 :: u98 :: u99 :: u100 :: u101 :: u102 :: u103 :: u104 :: u105 :: u106 :: u107 :: u108 :: u109 :: u110 :: u111 :: u112 :: u113 :: u114 :: u115 :: u116 :: u117 :: u118 :: u119 :: u120 :: u121 :: u122 :: u123 :: u124 :: u125 :: u126 :: u127 :: u128 :: u129 :: u130 :: u131 :: u132 :: u133 :: u134 :: u135 :: u136 :: u137 :: u138 :: u139 :: u140 :: u141 :: u142 :: u143 :: u144 :: u145 :: u146 :: u147 :: u148 :: u149 :: u150 :: u151 :: u152 :: u153 :: u154 :: u155 :: u156 :: u157 :: u158 :: u159 :: u160 :: u161 :: u162 :: u163 :: u164 :: u165 :: u166 :: u167 :: u168 :: u169 :: u170 :: u171 :: u172 :: u173 :: u174 :: u175 :: u176 :: u177 :: u178 :: u179 :: u180 :: u181 :: u182 :: u183 :: u184 :: u185 :: u186 :: u187 :: u188 :: u189 :: u190 :: u191 :: u192 :: u193 :: u194 :: u195 :: u196 :: u197 :: u198 :: u199 :: u200 :: u201 :: u202 :: u203 :: u204 :: u205 :: u206 :: u207 :: u208 :: u209 :: u210 :: u211 :: u212 :: []), defers := [] } W') :
    (Code.region 9 #[r90, r91, r92, r93, r94, r95, r96, r97, r98, r99, r910, r911, r912, r913, r914] true).wp Try.prog (Exit.then K (fun _ _ _ => False)) { tmps := List.toArray (u0 :: u1 :: u2 :: (.pointer (some ⟨w0.heap.size, 0, none⟩)) :: u4 :: u5 :: u6 :: u7 :: (.pointer (some ⟨a8, 0, none⟩)) :: u9 :: u10 :: (.int .i64 (i : Int)) :: u12 :: u13 :: u14 :: u15 :: u16 :: u17 :: u18 :: u19 :: u20 :: u21 :: u22 :: u23 :: u24 :: u25 :: u26 :: u27 :: u28 :: u29 :: u30 :: u31 :: u32 :: u33 :: u34 :: u35 :: u36 :: u37 :: u38 :: u39 :: u40 :: u41 :: u42 :: u43 :: u44 :: u45 :: u46 :: u47 :: u48 :: u49 :: u50 :: u51 :: u52 :: u53 :: u54 :: u55 :: u56 :: u57 :: u58 :: u59 :: u60 :: u61 :: u62 :: u63 :: u64 :: u65 :: u66 :: u67 :: u68 :: u69 :: u70 :: u71 :: u72 :: u73 :: u74 :: u75 :: u76 :: u77 :: u78 :: u79 :: u80 :: u81 :: u82 :: u83 :: u84 :: u85 :: u86 :: u87 :: u88 :: u89 :: u90 :: u91 :: u92 :: u93 :: u94 :: u95 :: u96 :: u97 :: u98 :: u99 :: u100 :: u101 :: u102 :: u103 :: u104 :: u105 :: u106 :: u107 :: u108 :: u109 :: u110 :: u111 :: u112 :: u113 :: u114 :: u115 :: u116 :: u117 :: u118 :: u119 :: u120 :: u121 :: u122 :: u123 :: u124 :: u125 :: u126 :: u127 :: u128 :: u129 :: u130 :: u131 :: u132 :: u133 :: u134 :: u135 :: u136 :: u137 :: u138 :: u139 :: u140 :: u141 :: u142 :: u143 :: u144 :: u145 :: u146 :: u147 :: u148 :: u149 :: u150 :: u151 :: u152 :: u153 :: u154 :: u155 :: u156 :: u157 :: u158 :: u159 :: u160 :: u161 :: u162 :: u163 :: u164 :: u165 :: u166 :: u167 :: u168 :: u169 :: u170 :: u171 :: u172 :: u173 :: u174 :: u175 :: u176 :: u177 :: u178 :: u179 :: u180 :: u181 :: u182 :: u183 :: u184 :: u185 :: u186 :: u187 :: u188 :: u189 :: u190 :: u191 :: u192 :: u193 :: u194 :: u195 :: u196 :: u197 :: u198 :: u199 :: u200 :: u201 :: u202 :: u203 :: u204 :: u205 :: u206 :: u207 :: u208 :: u209 :: u210 :: u211 :: u212 :: []), defers := [] } W := by
  have hBw := h.lB
  have HC := hide (show ∀ wq, Ch F W wq → wq.cell? ⟨a8, 0, none⟩ = some (.pointer (some ⟨p, 0, none⟩)) ∧ wq.cell? ⟨w0.heap.size, 0, none⟩ = some (.slice (some ⟨lb, lo, none⟩) ss.length lc) ∧ wq.cell? ⟨lb, lo + i, none⟩ = some (.string ss[i]) from fun wq k =>
    ⟨Boxed.cell (k.box h.b8 (h.nF h.b8 (by decide) (by decide))), Boxed.cell (k.box h.b0 (h.nF h.b0 (by decide) (by decide))), ((k.below (N := w0.heap.size) h.be.size (fun x hx e => by rcases (h.tb.foot x).1 e with rfl | rfl <;> first | (have := h.tb.low; omega) | (have := h.tb.own.1; omega))).cell (p := ⟨lb, lo + i, none⟩) hlb).trans ((h.be.cell (p := ⟨lb, lo + i, none⟩) hlb).trans hstr)⟩)
  have HT := hide (fun V (k : Ch (fun _ => False) W V) b => show Calls Try.prog 23 #[.pointer (some ⟨p, 0, none⟩), paV ⟨ss[i], some ⟨b, 0, none⟩, 1, 1⟩] V fun e w' => e = .returned (.tuple #[hv ((i : Int) + 1) 1, .int .i64 0]) ∧ TbP w' B F p (row1 (xs ++ [⟨ss[i], some ⟨b, 0, none⟩, 1, 1⟩])) 500 g ∧ Ch F V w' by
    have := take_isP (h.tb.ch k (fun _ _ h => h)) ⟨ss[i], some ⟨b, 0, none⟩, 1, 1⟩ (by rw [row1_len]; omega)
    obtain ⟨e1, e2, e3, e4⟩ := row1_take xs (M := 500) (by omega) (⟨ss[i], some ⟨b, 0, none⟩, 1, 1⟩ : Pa)
    rw [e1, e2, e3, e4, hx] at this
    exact this)
  have HNF := hide (fun x (hx : W.heap.size ≤ x) (e : F x) => show False by rcases (h.tb.foot x).1 e with rfl | rfl <;> first | (have := h.tb.lt_p; omega) | (have := h.tb.own.2.1; omega))
  have HK := hide hK0
  have q1 : decide ((i : Int) < (ss.length : Int)) = true := decide_eq_true (by omega)
  clear hK0 h hstr hx
  refine wp_region_held_drew (S := Ch F W) (by kernel_rfl) (Ch.drew _) (fun zk => ?_)
  apply tk 0 r90 rfl (by kernel_rfl) (fun _ _ _ h => h) zk
  · intro wq zq
    have s0 := (HC.out _ zq).1
    go_simp
    try rfl
  go_frame
  apply tk 1 r91 rfl (by kernel_rfl) (fun _ _ _ h => h) zk
  · intro wq zq
    have s0 := (HC.out _ zq).2.1
    go_simp
    try rfl
  go_frame
  apply tk 2 r92 rfl (by kernel_rfl) (fun _ _ _ h => h) zk
  · intro wq zq
    go_simp
    try rfl
  go_frame
  apply tk 3 r93 rfl (by kernel_rfl) (fun _ _ _ h => h) zk
  · intro wq zq
    go_simp
    try rfl
  go_frame
  apply tk 4 r94 rfl (by kernel_rfl) (fun _ _ _ h => h) zk
  · intro wq zq
    have s0 := (HC.out _ zq).2.2
    go_simp
    try rfl
  go_frame
  apply tk 5 r95 rfl (by kernel_rfl) (fun _ _ _ h => h) zk
  · intro wq zq
    go_simp
    try rfl
  go_frame
  refine wpAnyH_ready (rs := [6, 12]) (by kernel_rfl) (by simp) ?_
  refine AllReadyH.cons (o := r96) rfl (fun K hK => ?_) (AllReadyH.cons (o := r912) rfl (fun K hK => ?_) AllReadyH.nil)
  · go_simp
    refine hK.out _ _ ?_ (fun zk => ?_)
    · exact zk.trans (Ch.alloc (Q := F) _ _) (fun _ _ h => h)
    clear hK K
    try go_frame
    apply tk 7 r97 rfl (by kernel_rfl) (fun _ _ _ h => h) zk
    · intro wq zq
      go_simp
      try rfl
    go_frame
    refine wpAnyH_ready (rs := [8, 12]) (by kernel_rfl) (by simp) ?_
    refine AllReadyH.cons (o := r98) rfl (fun K hK => ?_) (AllReadyH.cons (o := r912) rfl (fun K hK => ?_) AllReadyH.nil)
    · go_simp
      refine (HT.out _ ((Ch.alloc (Q := fun _ => False) W _).trans (Ch.drew _) (fun _ _ h => h)) _).mono ?_
      rintro e w2 ⟨rfl, ht2, hc2⟩
      have Z := hide (zk.trans hc2 (fun _ _ h => h))
      have T2 := hide ht2
      have C2 := hide hc2
      clear ht2 hc2
      go_wp2_with fail
      refine hK.out _ _ ?_ (fun zk => ?_)
      · exact Z.out
      clear hK K
      try go_frame
      apply tk 9 r99 rfl (by kernel_rfl) (fun _ _ _ h => h) zk
      · intro wq zq
        go_simp
        try rfl
      go_frame
      apply tk 10 r910 rfl (by kernel_rfl) (fun _ _ _ h => h) zk
      · intro wq zq
        go_simp
        try rfl
      go_frame
      apply tk 11 r911 rfl (by kernel_rfl) (fun _ _ _ h => h) zk
      · intro wq zq
        go_simp
        try rfl
      go_frame
      refine rd 12 r912 rfl (by kernel_rfl) fun K hK => ?_
      go_simp
      refine hK.out _ _ ?_ (fun zk => ?_)
      · exact Z.out.trans (Ch.alloc (Q := F) _ _) (fun _ _ h => h)
      clear hK K
      try go_frame
      refine rd 13 r913 rfl (by kernel_rfl) fun K hK => ?_
      go_simp
      refine hK.out _ _ ?_ (fun zk => ?_)
      · exact Z.out.trans (Ch.alloc (Q := F) _ _) (fun _ _ h => h)
      clear hK K
      try go_frame
      apply tk 14 r914 rfl (by kernel_rfl) (fun _ _ _ h => h) zk
      · intro wq zq
        go_simp
        try rfl
      go_frame
      refine wpAnyH_done (by kernel_rfl) ?_ _
      have hb := C2.out.box (heap_new W (.cells #[.int .i64 (i : Int)] 3)) (HNF.out _ (Nat.le_refl _))
      exact HK.out w2.heap.size W.heap.size _ Z.out.size (heap_new _ _) (Nat.le_refl _) (Boxed.alloc hb _) (T2.out.below (below1 _ _)) (Z.out.trans (Ch.alloc (Q := F) _ _) (fun _ _ h => h))
    · go_simp
      refine hK.out _ _ ?_ (fun zk => ?_)
      · exact zk.trans (Ch.alloc (Q := F) _ _) (fun _ _ h => h)
      clear hK K
      try go_frame
      refine rd 8 r98 rfl (by kernel_rfl) fun K hK => ?_
      go_simp
      refine (HT.out _ (((Ch.alloc (Q := fun _ => False) W _).trans (Ch.alloc _ _) (fun _ _ h => h)).trans (Ch.drew _) (fun _ _ h => h)) _).mono ?_
      rintro e w2 ⟨rfl, ht2, hc2⟩
      have Z := hide (zk.trans hc2 (fun _ _ h => h))
      have T2 := hide ht2
      have C2 := hide hc2
      clear ht2 hc2
      go_wp2_with fail
      refine hK.out _ _ ?_ (fun zk => ?_)
      · exact Z.out
      clear hK K
      try go_frame
      apply tk 9 r99 rfl (by kernel_rfl) (fun _ _ _ h => h) zk
      · intro wq zq
        go_simp
        try rfl
      go_frame
      apply tk 10 r910 rfl (by kernel_rfl) (fun _ _ _ h => h) zk
      · intro wq zq
        go_simp
        try rfl
      go_frame
      apply tk 11 r911 rfl (by kernel_rfl) (fun _ _ _ h => h) zk
      · intro wq zq
        go_simp
        try rfl
      go_frame
      have hn3 := hide (C2.out.box (show (((W.alloc (.cells #[.int .i64 (i : Int)] 3)).alloc (.cells #[.int .u32 0, .int .u32 0] 39)).drew).heap[W.heap.size + 1]? = some (.cells #[.int .u32 0, .int .u32 0] 39) by have := heap_new (W.alloc (.cells #[.int .i64 (i : Int)] 3)) (.cells #[.int .u32 0, .int .u32 0] 39); rwa [World.size_alloc] at this) (HNF.out _ (by omega)))
      have hb := hide (C2.out.box (show (((W.alloc (.cells #[.int .i64 (i : Int)] 3)).alloc (.cells #[.int .u32 0, .int .u32 0] 39)).drew).heap[W.heap.size]? = some (.cells #[.int .i64 (i : Int)] 3) from (Ch.alloc (Q := fun _ => False) (W.alloc (.cells #[.int .i64 (i : Int)] 3)) (.cells #[.int .u32 0, .int .u32 0] 39)).box (heap_new W (.cells #[.int .i64 (i : Int)] 3)) (fun h => h)) (HNF.out _ (Nat.le_refl _)))
      have n0 : w2.cell? ⟨W.heap.size + 1, 0, none⟩ = some (.int .u32 0) := by simp [Lib.cell_of_heap hn3.out]
      have n1 : w2.cell? ⟨W.heap.size + 1, 1, none⟩ = some (.int .u32 0) := by simp [Lib.cell_of_heap hn3.out]
      have nf : ∀ o, w2.frozen? ⟨W.heap.size + 1, o, none⟩ = false := by simp [World.frozen?, hn3.out]
      have hs := hide (show Ch (fun x => x = W.heap.size + 1) w2 ((w2.setCell ⟨W.heap.size + 1, 0, none⟩ (.int .u32 ((i : Int) + 1))).setCell ⟨W.heap.size + 1, 1, none⟩ (.int .u32 1)) from (Ch.set (Q := fun x => x = W.heap.size + 1) w2 rfl 0 _).trans (Ch.set (Q := fun x => x = W.heap.size + 1) _ rfl 1 _) (fun _ _ h => h))
      have hn4 := hide (show ((w2.setCell ⟨W.heap.size + 1, 0, none⟩ (.int .u32 ((i : Int) + 1))).setCell ⟨W.heap.size + 1, 1, none⟩ (.int .u32 1)).heap[W.heap.size + 1]? = some (.cells #[.int .u32 ((i : Int) + 1), .int .u32 1] 39) by rw [heap_set (heap_set hn3.out 0 _) 1 _]; rfl)
      have Z4 := hide (Z.out.trans hs.out (fun x hx e => by omega))
      refine rd 13 r913 rfl (by kernel_rfl) fun K hK => ?_
      go_simp
      refine hK.out _ _ ?_ (fun zk => ?_)
      · exact Z4.out
      clear hK K
      try go_frame
      apply tk 14 r914 rfl (by kernel_rfl) (fun _ _ _ h => h) zk
      · intro wq zq
        go_simp
        try rfl
      go_frame
      refine wpAnyH_done (by kernel_rfl) ?_ _
      exact HK.out (W.heap.size + 1) (W.heap.size) _ (by omega) hn4.out (by omega) (hs.out.box hb.out (by omega)) (T2.out.ch hs.out (fun x hx e => by subst e; exact HNF.out _ (by omega) hx)) Z4.out
  · go_simp
    refine hK.out _ _ ?_ (fun zk => ?_)
    · exact zk.trans (Ch.alloc (Q := F) _ _) (fun _ _ h => h)
    clear hK K
    try go_frame
    refine rd 6 r96 rfl (by kernel_rfl) fun K hK => ?_
    go_simp
    refine hK.out _ _ ?_ (fun zk => ?_)
    · exact zk.trans (Ch.alloc (Q := F) _ _) (fun _ _ h => h)
    clear hK K
    try go_frame
    apply tk 7 r97 rfl (by kernel_rfl) (fun _ _ _ h => h) zk
    · intro wq zq
      go_simp
      try rfl
    go_frame
    refine rd 8 r98 rfl (by kernel_rfl) fun K hK => ?_
    go_simp
    refine (HT.out _ (((Ch.alloc (Q := fun _ => False) W _).trans (Ch.alloc _ _) (fun _ _ h => h)).trans (Ch.drew _) (fun _ _ h => h)) _).mono ?_
    rintro e w2 ⟨rfl, ht2, hc2⟩
    have Z := hide (zk.trans hc2 (fun _ _ h => h))
    have T2 := hide ht2
    have C2 := hide hc2
    clear ht2 hc2
    go_wp2_with fail
    refine hK.out _ _ ?_ (fun zk => ?_)
    · exact Z.out
    clear hK K
    try go_frame
    apply tk 9 r99 rfl (by kernel_rfl) (fun _ _ _ h => h) zk
    · intro wq zq
      go_simp
      try rfl
    go_frame
    apply tk 10 r910 rfl (by kernel_rfl) (fun _ _ _ h => h) zk
    · intro wq zq
      go_simp
      try rfl
    go_frame
    apply tk 11 r911 rfl (by kernel_rfl) (fun _ _ _ h => h) zk
    · intro wq zq
      go_simp
      try rfl
    go_frame
    have hn3 := hide (C2.out.box (show (((W.alloc (.cells #[.int .u32 0, .int .u32 0] 39)).alloc (.cells #[.int .i64 (i : Int)] 3)).drew).heap[W.heap.size]? = some (.cells #[.int .u32 0, .int .u32 0] 39) from (Ch.alloc (Q := fun _ => False) (W.alloc (.cells #[.int .u32 0, .int .u32 0] 39)) (.cells #[.int .i64 (i : Int)] 3)).box (heap_new W (.cells #[.int .u32 0, .int .u32 0] 39)) (fun h => h)) (HNF.out _ (Nat.le_refl _)))
    have hb := hide (C2.out.box (show (((W.alloc (.cells #[.int .u32 0, .int .u32 0] 39)).alloc (.cells #[.int .i64 (i : Int)] 3)).drew).heap[W.heap.size + 1]? = some (.cells #[.int .i64 (i : Int)] 3) by have := heap_new (W.alloc (.cells #[.int .u32 0, .int .u32 0] 39)) (.cells #[.int .i64 (i : Int)] 3); rwa [World.size_alloc] at this) (HNF.out _ (by omega)))
    have n0 : w2.cell? ⟨W.heap.size, 0, none⟩ = some (.int .u32 0) := by simp [Lib.cell_of_heap hn3.out]
    have n1 : w2.cell? ⟨W.heap.size, 1, none⟩ = some (.int .u32 0) := by simp [Lib.cell_of_heap hn3.out]
    have nf : ∀ o, w2.frozen? ⟨W.heap.size, o, none⟩ = false := by simp [World.frozen?, hn3.out]
    have hs := hide (show Ch (fun x => x = W.heap.size) w2 ((w2.setCell ⟨W.heap.size, 0, none⟩ (.int .u32 ((i : Int) + 1))).setCell ⟨W.heap.size, 1, none⟩ (.int .u32 1)) from (Ch.set (Q := fun x => x = W.heap.size) w2 rfl 0 _).trans (Ch.set (Q := fun x => x = W.heap.size) _ rfl 1 _) (fun _ _ h => h))
    have hn4 := hide (show ((w2.setCell ⟨W.heap.size, 0, none⟩ (.int .u32 ((i : Int) + 1))).setCell ⟨W.heap.size, 1, none⟩ (.int .u32 1)).heap[W.heap.size]? = some (.cells #[.int .u32 ((i : Int) + 1), .int .u32 1] 39) by rw [heap_set (heap_set hn3.out 0 _) 1 _]; rfl)
    have Z4 := hide (Z.out.trans hs.out (fun x hx e => by omega))
    refine rd 13 r913 rfl (by kernel_rfl) fun K hK => ?_
    go_simp
    refine hK.out _ _ ?_ (fun zk => ?_)
    · exact Z4.out
    clear hK K
    try go_frame
    apply tk 14 r914 rfl (by kernel_rfl) (fun _ _ _ h => h) zk
    · intro wq zq
      go_simp
      try rfl
    go_frame
    refine wpAnyH_done (by kernel_rfl) ?_ _
    exact HK.out (W.heap.size) (W.heap.size + 1) _ (by omega) hn4.out (by omega) (hs.out.box hb.out (by omega)) (T2.out.ch hs.out (fun x hx e => by subst e; exact HNF.out _ (by omega) hx)) Z4.out

end Go.Proofs.Ytjilnmeegolpkaa
