/- Layer 11: the law's step: Get. -/
import Derived.Test.YthnnpipekeanoaaXn
namespace Go.Proofs.Ythnnpipekeanoaa
open Go.RowKit

variable {wB : World} {PT : World → Nat → (Nat → Prop) → Nat → List Wt → Prop} {C : Nat → Nat} {w w' : World} {B T p b : Nat} {F : Nat → Prop} {l : List Wt} {hs : List (Int × Int)} {av ov tv lv wv : Value} {ls ws : List Value} {rs : List (List Rc)} {n : Nat}
abbrev ga0 : Oper := { dst := some 128, op := Op.move (Operand.tmp 0), type := 24, pos := "law.go:111", after := #[], guard := none }
abbrev ga1 : Oper := { dst := some 129, op := Op.nilCheck (Operand.tmp 128), type := 0, pos := "law.go:111", after := #[{ on := 0, ground := Ground.data }], guard := none }
abbrev ga2 : Oper := { dst := some 130, op := Op.fieldAddr 37 (Operand.tmp 129) 0, type := 0, pos := "law.go:111", after := #[{ on := 1, ground := Ground.data }], guard := none }
abbrev ga3 : Oper := { dst := some 131, op := Op.load 25 (Operand.tmp 130), type := 25, pos := "law.go:111", after := #[{ on := 2, ground := Ground.data }], guard := none }
abbrev ga4 : Oper := { dst := some 132, op := Op.move (Operand.tmp 0), type := 24, pos := "law.go:111", after := #[], guard := none }
abbrev ga5 : Oper := { dst := some 133, op := Op.load 48 (Operand.tmp 3), type := 48, pos := "law.go:111", after := #[], guard := none }
abbrev ga6 : Oper := { dst := some 134, op := Op.call { callee := Callee.value (Operand.func 24), args := #[Operand.tmp 132, Operand.tmp 133], argTypes := #[24, 48] }, type := 41, pos := "law.go:111", after := #[{ on := 4, ground := Ground.data }, { on := 5, ground := Ground.data }], guard := none }
abbrev ga7 : Oper := { dst := some 135, op := Op.call { callee := Callee.value (Operand.func 19), args := #[Operand.tmp 131, Operand.tmp 134], argTypes := #[25, 41] }, type := 62, pos := "law.go:111", after := #[{ on := 3, ground := Ground.data }, { on := 6, ground := Ground.data }, { on := 6, ground := Ground.chain }], guard := none }
abbrev ga8 : Oper := { dst := some 127, op := Op.move (Operand.tmp 135), type := 62, pos := "law.go:111", after := #[{ on := 7, ground := Ground.data }], guard := none }
abbrev ga9 : Oper := { dst := some 136, op := Op.extract (Operand.tmp 127) 0, type := 57, pos := "law.go:111", after := #[{ on := 8, ground := Ground.data }], guard := none }
abbrev ga10 : Oper := { dst := some 137, op := Op.extract (Operand.tmp 127) 1, type := 54, pos := "law.go:111", after := #[{ on := 8, ground := Ground.data }, { on := 12, ground := Ground.gcOnly Departure.lateStores }], guard := none }
abbrev ga11 : Oper := { dst := some 13, op := Op.alloc 57, type := 0, pos := "law.go:111", after := #[], guard := none }
abbrev ga12 : Oper := { dst := none, op := Op.store 57 (Operand.tmp 13) (Operand.tmp 136), type := 0, pos := "law.go:111", after := #[{ on := 11, ground := Ground.data }, { on := 9, ground := Ground.data }, { on := 7, ground := Ground.chain }, { on := 0, ground := Ground.phase }, { on := 1, ground := Ground.phase }, { on := 2, ground := Ground.phase }, { on := 3, ground := Ground.phase }, { on := 4, ground := Ground.phase }, { on := 5, ground := Ground.phase }, { on := 6, ground := Ground.phase }, { on := 7, ground := Ground.phase }, { on := 8, ground := Ground.phase }, { on := 9, ground := Ground.phase }, { on := 10, ground := Ground.textOnly Departure.lateStores }, { on := 11, ground := Ground.phase }], guard := none }
abbrev ga13 : Oper := { dst := some 14, op := Op.assign (Operand.tmp 137), type := 54, pos := "law.go:111", after := #[{ on := 10, ground := Ground.data }, { on := 12, ground := Ground.chain }, { on := 0, ground := Ground.phase }, { on := 1, ground := Ground.phase }, { on := 2, ground := Ground.phase }, { on := 3, ground := Ground.phase }, { on := 4, ground := Ground.phase }, { on := 5, ground := Ground.phase }, { on := 6, ground := Ground.phase }, { on := 7, ground := Ground.phase }, { on := 8, ground := Ground.phase }, { on := 9, ground := Ground.phase }, { on := 10, ground := Ground.phase }, { on := 11, ground := Ground.phase }, { on := 12, ground := Ground.phase }], guard := none }
abbrev gb0 : Oper := { dst := some 139, op := Op.move (Operand.tmp 0), type := 24, pos := "law.go:112", after := #[], guard := none }
abbrev gb1 : Oper := { dst := some 140, op := Op.nilCheck (Operand.tmp 139), type := 0, pos := "law.go:112", after := #[{ on := 0, ground := Ground.data }], guard := none }
abbrev gb2 : Oper := { dst := some 141, op := Op.fieldAddr 37 (Operand.tmp 140) 1, type := 0, pos := "law.go:112", after := #[{ on := 1, ground := Ground.data }], guard := none }
abbrev gb3 : Oper := { dst := some 142, op := Op.load 27 (Operand.tmp 141), type := 27, pos := "law.go:112", after := #[{ on := 2, ground := Ground.data }], guard := none }
abbrev gb4 : Oper := { dst := some 143, op := Op.move (Operand.tmp 0), type := 24, pos := "law.go:112", after := #[], guard := none }
abbrev gb5 : Oper := { dst := some 144, op := Op.load 48 (Operand.tmp 3), type := 48, pos := "law.go:112", after := #[], guard := none }
abbrev gb6 : Oper := { dst := some 145, op := Op.call { callee := Callee.value (Operand.func 24), args := #[Operand.tmp 143, Operand.tmp 144], argTypes := #[24, 48] }, type := 41, pos := "law.go:112", after := #[{ on := 4, ground := Ground.data }, { on := 5, ground := Ground.data }], guard := none }
abbrev gb7 : Oper := { dst := some 146, op := Op.call { callee := Callee.value (Operand.func 27), args := #[Operand.tmp 142, Operand.tmp 145], argTypes := #[27, 41] }, type := 66, pos := "law.go:112", after := #[{ on := 3, ground := Ground.data }, { on := 6, ground := Ground.data }, { on := 6, ground := Ground.chain }], guard := none }
abbrev gb8 : Oper := { dst := some 138, op := Op.move (Operand.tmp 146), type := 66, pos := "law.go:112", after := #[{ on := 7, ground := Ground.data }], guard := none }
abbrev gb9 : Oper := { dst := some 147, op := Op.extract (Operand.tmp 138) 0, type := 57, pos := "law.go:112", after := #[{ on := 8, ground := Ground.data }], guard := none }
abbrev gb10 : Oper := { dst := some 148, op := Op.extract (Operand.tmp 138) 1, type := 4, pos := "law.go:112", after := #[{ on := 8, ground := Ground.data }, { on := 12, ground := Ground.gcOnly Departure.lateStores }], guard := none }
abbrev gb11 : Oper := { dst := some 15, op := Op.alloc 57, type := 0, pos := "law.go:112", after := #[], guard := none }
abbrev gb12 : Oper := { dst := none, op := Op.store 57 (Operand.tmp 15) (Operand.tmp 147), type := 0, pos := "law.go:112", after := #[{ on := 11, ground := Ground.data }, { on := 9, ground := Ground.data }, { on := 7, ground := Ground.chain }, { on := 0, ground := Ground.phase }, { on := 1, ground := Ground.phase }, { on := 2, ground := Ground.phase }, { on := 3, ground := Ground.phase }, { on := 4, ground := Ground.phase }, { on := 5, ground := Ground.phase }, { on := 6, ground := Ground.phase }, { on := 7, ground := Ground.phase }, { on := 8, ground := Ground.phase }, { on := 9, ground := Ground.phase }, { on := 10, ground := Ground.textOnly Departure.lateStores }, { on := 11, ground := Ground.phase }], guard := none }
abbrev gb13 : Oper := { dst := some 16, op := Op.assign (Operand.tmp 148), type := 4, pos := "law.go:112", after := #[{ on := 10, ground := Ground.data }, { on := 12, ground := Ground.chain }, { on := 0, ground := Ground.phase }, { on := 1, ground := Ground.phase }, { on := 2, ground := Ground.phase }, { on := 3, ground := Ground.phase }, { on := 4, ground := Ground.phase }, { on := 5, ground := Ground.phase }, { on := 6, ground := Ground.phase }, { on := 7, ground := Ground.phase }, { on := 8, ground := Ground.phase }, { on := 9, ground := Ground.phase }, { on := 10, ground := Ground.phase }, { on := 11, ground := Ground.phase }, { on := 12, ground := Ground.phase }], guard := none }

set_option maxRecDepth 100000 in
set_option maxHeartbeats 16000000 in
theorem step_get (fc : FaceW PT) (h : Tw wB PT C w B T p b F l l hs av ov tv lv wv ls ws rs n) (hl : l.length ≤ 100000) (hh : hs.length ≤ 100000) (ha : ∀ a ∈ hs, UsW a.1 ∧ UsW a.2) (o : Oq) (ho : o.Fit) (hk : o.k = 4) :
    Calls Try.prog 8 #[.pointer (some ⟨T, 0, none⟩), opV o] w fun e w' => e = .returned (.bool true) ∧ ∃ C' F', Tw wB PT C' w' B T p b F' l l hs av ov tv lv wv ls ws rs n := by
  obtain ⟨V, hV⟩ : ∃ V, w.alloc (.cells (opF o).toArray 48) = V := ⟨_, rfl⟩
  have c1 : Ch (fun _ => False) w V := by rw [← hV]; exact Ch.alloc _ _
  have nA : V.heap[w.heap.size]? = some (.cells (opF o).toArray 48 (0, 0)) := by rw [← hV]; exact heap_new _ _
  have HV0 := hide (show Tw wB PT C V B T p b F l l hs av ov tv lv wv ls ws rs n ∧ V.heap[w.heap.size]? = some (.cells (opF o).toArray 48 (0, 0)) from ⟨h.quiet fc c1, nA⟩)
  have yk : V.cell? ⟨w.heap.size, 0, none⟩ = some (.int .i64 4) := by simp [Lib.cell_of_heap nA, opF, hk]
  have MF := meW_fit ho ha
  obtain ⟨m1, hm1⟩ : ∃ x, (meW hs o).1 = x := ⟨_, rfl⟩
  obtain ⟨m2, hm2⟩ : ∃ x, (meW hs o).2 = x := ⟨_, rfl⟩
  rw [hm1, hm2] at MF
  obtain ⟨r, hr⟩ : ∃ r, gtW l m1 m2 = r := ⟨_, rfl⟩
  obtain ⟨q, hq⟩ : ∃ q, fnW l m1 m2 = q := ⟨_, rfl⟩
  have HM := hide (fun wq (hq' : Tw wB PT C wq B T p b F l l hs av ov tv lv wv ls ws rs n) => show Calls Try.prog 24 #[.pointer (some ⟨T, 0, none⟩), .agg #[.int .i64 4, .int .i64 o.wh, .int .i64 o.ar, .int .u32 o.rs, .int .u32 o.rg, .int .i64 o.rd, .int .u32 o.ws, .int .u32 o.wg, .int .u32 o.ms, .int .u32 o.mg, .bool o.hd, .int .i64 o.vn, .int .u32 o.vs, .int .u32 o.vg]] wq fun e w' => e = .returned (hvW m1 m2) ∧ Below wq.heap.size wq w' from by
    have := me_is hq'.hT hq'.td hh o ho
    dsimp only [opV] at this
    rw [hk, hm1, hm2] at this
    exact this)
  have HF1 := hide (fun wq (hq' : Tw wB PT C wq B T p b F l l hs av ov tv lv wv ls ws rs n) => show Calls Try.prog 19 #[.pointer (some ⟨p, 0, none⟩), hvW m1 m2] wq fun e w' => e = .returned (.tuple #[rcV r, .int .i64 (ecB q 111)]) ∧ Below wq.heap.size wq w' from by
    have := fc.get m1 m2 MF.1 MF.2 hq'.pt hl
    rwa [hr, hq] at this)
  have HF2 := hide (fun wq (hq' : Tw wB PT C wq B T p b F l l hs av ov tv lv wv ls ws rs n) => show Calls Try.prog 27 #[.pointer (some ⟨b, 0, none⟩), hvW m1 m2] wq fun e w' => e = .returned (.tuple #[rcV r, .bool q]) ∧ Below wq.heap.size wq w' from by
    have := rgetW hq'.db m1 m2
    rwa [hr, hq] at this)
  clear hr hq hm1 hm2 MF
  have EV := hide hV
  clear c1 nA h hV
  dsimp only [opF] at EV
  rw [hk] at EV
  go_enter Try.func8, Try.ntmps8
  go_wp2_with fail
  rw [EV.out]
  clear yk EV
  refine wp_reg (fun _ => False) (R := fun W => Tw wB PT C W B T p b F l l hs av ov tv lv wv ls ws rs n ∧ W.heap[w.heap.size]? = some (.cells (opF o).toArray 48 (0, 0))) (by kernel_rfl) ⟨HV0.out.1.quiet fc (Ch.drew _), (Ch.drew (Q := fun _ => False) _).box HV0.out.2 (fun h => h)⟩ ?_
  rintro V1 v zk
  have HV1 := hide v
  clear v
  have HC := hide (fun wq (zq : Ch (fun _ => False) V1 wq) => step_reads (wq := wq) (Q := fun _ => False) (o := o) HV1.out.1.hT HV1.out.2 zq (fun h => h) (fun h => h))
  have HO := hide (fun wq (zq : Ch (fun _ => False) V1 wq) => op_reads (wq := wq) (Q := fun _ => False) (o := o) hk HV1.out.2 zq (fun h => h))
  apply tk 0 ga0 rfl (by kernel_rfl) (fun _ _ _ h => h) zk
  · intro wq zq
    go_simp
    try rfl
  go_frame
  apply tk 1 ga1 rfl (by kernel_rfl) (fun _ _ _ h => h) zk
  · intro wq zq
    go_simp
    try rfl
  go_frame
  apply tk 2 ga2 rfl (by kernel_rfl) (fun _ _ _ h => h) zk
  · intro wq zq
    go_simp
    try rfl
  go_frame
  apply tk 3 ga3 rfl (by kernel_rfl) (fun _ _ _ h => h) zk
  · intro wq zq
    have s1 := (HC.out _ zq).1
    go_simp
    try rfl
  go_frame
  apply tk 4 ga4 rfl (by kernel_rfl) (fun _ _ _ h => h) zk
  · intro wq zq
    go_simp
    try rfl
  go_frame
  apply tk 5 ga5 rfl (by kernel_rfl) (fun _ _ _ h => h) zk
  · intro wq zq
    obtain ⟨s1, s2, s3, s4, s5, s6, s7, s8, s9, s10, s11, s12, s13, s14⟩ := HO.out _ zq
    go_simp
    try rfl
  go_frame
  refine wpAnyH_ready (rs := [6, 11]) (by kernel_rfl) (by simp) ?_
  refine AllReadyH.cons (o := ga6) rfl (fun K hK => ?_) (AllReadyH.cons (o := ga11) rfl (fun K hK => ?_) AllReadyH.nil)
  · go_simp
    refine ((HM.out _ (HV1.out.1.quiet fc zk))).mono ?_
    rintro e X1 ⟨rfl, hb⟩
    have hc := Ch.of_below (Q := fun _ => False) hb
    have cz := zk.trans hc (fun _ _ h => h)
    clear hb hc zk
    go_wp2_with fail
    refine hK.out _ _ ?_ (fun zk => ?_)
    · exact cz
    clear hK K
    try go_frame
    refine wpAnyH_ready (rs := [7, 11]) (by kernel_rfl) (by simp) ?_
    refine AllReadyH.cons (o := ga7) rfl (fun K hK => ?_) (AllReadyH.cons (o := ga11) rfl (fun K hK => ?_) AllReadyH.nil)
    · go_simp
      refine ((HF1.out _ (HV1.out.1.quiet fc zk))).mono ?_
      rintro e X2 ⟨rfl, hb⟩
      have hc := Ch.of_below (Q := fun _ => False) hb
      have cz := zk.trans hc (fun _ _ h => h)
      clear hb hc zk
      go_wp2_with fail
      refine hK.out _ _ ?_ (fun zk => ?_)
      · exact cz
      clear hK K
      try go_frame
      apply tk 8 ga8 rfl (by kernel_rfl) (fun _ _ _ h => h) zk
      · intro wq zq
        go_simp
        try rfl
      go_frame
      apply tk 9 ga9 rfl (by kernel_rfl) (fun _ _ _ h => h) zk
      · intro wq zq
        go_simp
        try rfl
      go_frame
      apply tk 10 ga10 rfl (by kernel_rfl) (fun _ _ _ h => h) zk
      · intro wq zq
        go_simp
        try rfl
      go_frame
      refine Go.Proofs.Ythnnpipekeanoaa.rd 11 ga11 rfl (by kernel_rfl) fun K hK => ?_
      have cB := zk
      go_simp
      refine genK (R := fun W => Ch (fun _ => False) V1 W ∧ W.heap[X2.heap.size]? = some (.cells #[.int .u32 0, .int .u32 0, .int .u32 0, .int .u32 0, .int .u32 0, .int .u32 0, .int .i64 0, .int .i64 0, .int .i64 0, .int .u32 0, .int .u32 0] 57 (0, 0))) ⟨zk.trans (Ch.alloc _ _) (fun _ _ h => h), heap_new _ _⟩ ?_
      rintro X3 ⟨cz, nX⟩
      clear zk
      refine hK.out _ _ ?_ (fun zk => ?_)
      · exact cz
      clear hK K
      try go_frame
      refine Go.Proofs.Ythnnpipekeanoaa.rd 12 ga12 rfl (by kernel_rfl) fun K hK => ?_
      refine step_store11 (b := X2.heap.size) (r := r) rfl _ _ rfl rfl rfl nX ?_
      refine genK (R := fun W => Ch (fun _ => False) V1 W ∧ W.heap[X2.heap.size]? = some (.cells #[.int .u32 r.ms, .int .u32 r.mg, .int .u32 r.ws, .int .u32 r.wg, .int .u32 r.rs, .int .u32 r.rg, .int .i64 r.rd, .int .i64 r.ar, .int .i64 r.vn, .int .u32 r.vs, .int .u32 r.vg] 57 (0, 0))) ⟨zk.trans (wrsA _ _ _) (fun y hy (e : y = X2.heap.size) => by subst e; have := (show Ch (fun _ => False) V1 X2 from cB).size; omega), set11 nX r⟩ ?_
      rintro YV1 ⟨cY, nYV1⟩
      clear zk
      refine hK.out _ _ ?_ (fun zk => ?_)
      · exact cY
      clear hK K
      try go_frame
      apply tk 13 ga13 rfl (by kernel_rfl) (fun _ _ _ h => h) zk
      · intro wq zq
        go_simp
        try rfl
      go_frame
      refine wpAnyH_done (by kernel_rfl) ?_ _
      have HY := hide (show Tw wB PT C YV1 B T p b F l l hs av ov tv lv wv ls ws rs n ∧ YV1.heap[w.heap.size]? = some (.cells (opF o).toArray 48 (0, 0)) ∧ YV1.heap[X2.heap.size]? = some (.cells #[.int .u32 r.ms, .int .u32 r.mg, .int .u32 r.ws, .int .u32 r.wg, .int .u32 r.rs, .int .u32 r.rg, .int .i64 r.rd, .int .i64 r.ar, .int .i64 r.vn, .int .u32 r.vs, .int .u32 r.vg] 57 (0, 0)) from ⟨HV1.out.1.quiet fc cY, cY.box HV1.out.2 (fun h => h), nYV1⟩)
      clear cY nYV1 zk
      go_wp2_with fail
      refine wp_reg (fun _ => False) (R := fun W => Tw wB PT C W B T p b F l l hs av ov tv lv wv ls ws rs n ∧ W.heap[w.heap.size]? = some (.cells (opF o).toArray 48 (0, 0)) ∧ W.heap[X2.heap.size]? = some (.cells #[.int .u32 r.ms, .int .u32 r.mg, .int .u32 r.ws, .int .u32 r.wg, .int .u32 r.rs, .int .u32 r.rg, .int .i64 r.rd, .int .i64 r.ar, .int .i64 r.vn, .int .u32 r.vs, .int .u32 r.vg] 57 (0, 0))) (by kernel_rfl) ⟨HY.out.1.quiet fc (Ch.drew _), (Ch.drew (Q := fun _ => False) _).box HY.out.2.1 (fun h => h), (Ch.drew (Q := fun _ => False) _).box HY.out.2.2 (fun h => h)⟩ ?_
      rintro V2 v zk
      have HV2 := hide v
      clear v
      have HC := hide (fun wq (zq : Ch (fun _ => False) V2 wq) => step_reads (wq := wq) (Q := fun _ => False) (o := o) HV2.out.1.hT HV2.out.2.1 zq (fun h => h) (fun h => h))
      have HO := hide (fun wq (zq : Ch (fun _ => False) V2 wq) => op_reads (wq := wq) (Q := fun _ => False) (o := o) hk HV2.out.2.1 zq (fun h => h))
      apply tk 0 gb0 rfl (by kernel_rfl) (fun _ _ _ h => h) zk
      · intro wq zq
        go_simp
        try rfl
      go_frame
      apply tk 1 gb1 rfl (by kernel_rfl) (fun _ _ _ h => h) zk
      · intro wq zq
        go_simp
        try rfl
      go_frame
      apply tk 2 gb2 rfl (by kernel_rfl) (fun _ _ _ h => h) zk
      · intro wq zq
        go_simp
        try rfl
      go_frame
      apply tk 3 gb3 rfl (by kernel_rfl) (fun _ _ _ h => h) zk
      · intro wq zq
        have s1 := (HC.out _ zq).2.1
        go_simp
        try rfl
      go_frame
      apply tk 4 gb4 rfl (by kernel_rfl) (fun _ _ _ h => h) zk
      · intro wq zq
        go_simp
        try rfl
      go_frame
      apply tk 5 gb5 rfl (by kernel_rfl) (fun _ _ _ h => h) zk
      · intro wq zq
        obtain ⟨s1, s2, s3, s4, s5, s6, s7, s8, s9, s10, s11, s12, s13, s14⟩ := HO.out _ zq
        go_simp
        try rfl
      go_frame
      refine wpAnyH_ready (rs := [6, 11]) (by kernel_rfl) (by simp) ?_
      refine AllReadyH.cons (o := gb6) rfl (fun K hK => ?_) (AllReadyH.cons (o := gb11) rfl (fun K hK => ?_) AllReadyH.nil)
      · go_simp
        refine ((HM.out _ (HV2.out.1.quiet fc zk))).mono ?_
        rintro e X20 ⟨rfl, hb⟩
        have hc := Ch.of_below (Q := fun _ => False) hb
        have cz := zk.trans hc (fun _ _ h => h)
        clear hb hc zk
        go_wp2_with fail
        refine hK.out _ _ ?_ (fun zk => ?_)
        · exact cz
        clear hK K
        try go_frame
        refine wpAnyH_ready (rs := [7, 11]) (by kernel_rfl) (by simp) ?_
        refine AllReadyH.cons (o := gb7) rfl (fun K hK => ?_) (AllReadyH.cons (o := gb11) rfl (fun K hK => ?_) AllReadyH.nil)
        · go_simp
          refine ((HF2.out _ (HV2.out.1.quiet fc zk))).mono ?_
          rintro e X21 ⟨rfl, hb⟩
          have hc := Ch.of_below (Q := fun _ => False) hb
          have cz := zk.trans hc (fun _ _ h => h)
          clear hb hc zk
          go_wp2_with fail
          refine hK.out _ _ ?_ (fun zk => ?_)
          · exact cz
          clear hK K
          try go_frame
          apply tk 8 gb8 rfl (by kernel_rfl) (fun _ _ _ h => h) zk
          · intro wq zq
            go_simp
            try rfl
          go_frame
          apply tk 9 gb9 rfl (by kernel_rfl) (fun _ _ _ h => h) zk
          · intro wq zq
            go_simp
            try rfl
          go_frame
          apply tk 10 gb10 rfl (by kernel_rfl) (fun _ _ _ h => h) zk
          · intro wq zq
            go_simp
            try rfl
          go_frame
          refine Go.Proofs.Ythnnpipekeanoaa.rd 11 gb11 rfl (by kernel_rfl) fun K hK => ?_
          have cB := zk
          go_simp
          refine genK (R := fun W => Ch (fun _ => False) V2 W ∧ W.heap[X21.heap.size]? = some (.cells #[.int .u32 0, .int .u32 0, .int .u32 0, .int .u32 0, .int .u32 0, .int .u32 0, .int .i64 0, .int .i64 0, .int .i64 0, .int .u32 0, .int .u32 0] 57 (0, 0))) ⟨zk.trans (Ch.alloc _ _) (fun _ _ h => h), heap_new _ _⟩ ?_
          rintro X22 ⟨cz, nX⟩
          clear zk
          refine hK.out _ _ ?_ (fun zk => ?_)
          · exact cz
          clear hK K
          try go_frame
          refine Go.Proofs.Ythnnpipekeanoaa.rd 12 gb12 rfl (by kernel_rfl) fun K hK => ?_
          refine step_store11 (b := X21.heap.size) (r := r) rfl _ _ rfl rfl rfl nX ?_
          refine genK (R := fun W => Ch (fun _ => False) V2 W ∧ W.heap[X21.heap.size]? = some (.cells #[.int .u32 r.ms, .int .u32 r.mg, .int .u32 r.ws, .int .u32 r.wg, .int .u32 r.rs, .int .u32 r.rg, .int .i64 r.rd, .int .i64 r.ar, .int .i64 r.vn, .int .u32 r.vs, .int .u32 r.vg] 57 (0, 0))) ⟨zk.trans (wrsA _ _ _) (fun y hy (e : y = X21.heap.size) => by subst e; have := (show Ch (fun _ => False) V2 X21 from cB).size; omega), set11 nX r⟩ ?_
          rintro YV2 ⟨cY, nYV2⟩
          clear zk
          refine hK.out _ _ ?_ (fun zk => ?_)
          · exact cY
          clear hK K
          try go_frame
          apply tk 13 gb13 rfl (by kernel_rfl) (fun _ _ _ h => h) zk
          · intro wq zq
            go_simp
            try rfl
          go_frame
          refine wpAnyH_done (by kernel_rfl) ?_ _
          have TWf := hide (HV2.out.1.quiet fc cY)
          have q1 := Lib.cell_of_heap (cY.box HV2.out.2.2 (fun h => h))
          have q2 := Lib.cell_of_heap nYV2
          have a0 : YV2.cell? ⟨X2.heap.size, 0, none⟩ = some (.int .u32 r.ms) := by rw [q1]; rfl
          have a1 : YV2.cell? ⟨X2.heap.size, 1, none⟩ = some (.int .u32 r.mg) := by rw [q1]; rfl
          have a2 : YV2.cell? ⟨X2.heap.size, 2, none⟩ = some (.int .u32 r.ws) := by rw [q1]; rfl
          have a3 : YV2.cell? ⟨X2.heap.size, 3, none⟩ = some (.int .u32 r.wg) := by rw [q1]; rfl
          have a4 : YV2.cell? ⟨X2.heap.size, 4, none⟩ = some (.int .u32 r.rs) := by rw [q1]; rfl
          have a5 : YV2.cell? ⟨X2.heap.size, 5, none⟩ = some (.int .u32 r.rg) := by rw [q1]; rfl
          have a6 : YV2.cell? ⟨X2.heap.size, 6, none⟩ = some (.int .i64 r.rd) := by rw [q1]; rfl
          have a7 : YV2.cell? ⟨X2.heap.size, 7, none⟩ = some (.int .i64 r.ar) := by rw [q1]; rfl
          have a8 : YV2.cell? ⟨X2.heap.size, 8, none⟩ = some (.int .i64 r.vn) := by rw [q1]; rfl
          have a9 : YV2.cell? ⟨X2.heap.size, 9, none⟩ = some (.int .u32 r.vs) := by rw [q1]; rfl
          have a10 : YV2.cell? ⟨X2.heap.size, 10, none⟩ = some (.int .u32 r.vg) := by rw [q1]; rfl
          have b0 : YV2.cell? ⟨X21.heap.size, 0, none⟩ = some (.int .u32 r.ms) := by rw [q2]; rfl
          have b1 : YV2.cell? ⟨X21.heap.size, 1, none⟩ = some (.int .u32 r.mg) := by rw [q2]; rfl
          have b2 : YV2.cell? ⟨X21.heap.size, 2, none⟩ = some (.int .u32 r.ws) := by rw [q2]; rfl
          have b3 : YV2.cell? ⟨X21.heap.size, 3, none⟩ = some (.int .u32 r.wg) := by rw [q2]; rfl
          have b4 : YV2.cell? ⟨X21.heap.size, 4, none⟩ = some (.int .u32 r.rs) := by rw [q2]; rfl
          have b5 : YV2.cell? ⟨X21.heap.size, 5, none⟩ = some (.int .u32 r.rg) := by rw [q2]; rfl
          have b6 : YV2.cell? ⟨X21.heap.size, 6, none⟩ = some (.int .i64 r.rd) := by rw [q2]; rfl
          have b7 : YV2.cell? ⟨X21.heap.size, 7, none⟩ = some (.int .i64 r.ar) := by rw [q2]; rfl
          have b8 : YV2.cell? ⟨X21.heap.size, 8, none⟩ = some (.int .i64 r.vn) := by rw [q2]; rfl
          have b9 : YV2.cell? ⟨X21.heap.size, 9, none⟩ = some (.int .u32 r.vs) := by rw [q2]; rfl
          have b10 : YV2.cell? ⟨X21.heap.size, 10, none⟩ = some (.int .u32 r.vg) := by rw [q2]; rfl
          clear q1 q2 nYV2 cY zk
          cases q
          · have e1 : ecB false 111 = 111 := rfl
            go_wp2_with fail
            go_ret
            exact ⟨rfl, _, _, TWf.out⟩
          · have e1 : ecB true 111 = 0 := rfl
            go_wp2_with fail
            go_ret
            exact ⟨rfl, _, _, TWf.out⟩
        · have cB := zk
          go_simp
          refine genK (R := fun W => Ch (fun _ => False) V2 W ∧ W.heap[X20.heap.size]? = some (.cells #[.int .u32 0, .int .u32 0, .int .u32 0, .int .u32 0, .int .u32 0, .int .u32 0, .int .i64 0, .int .i64 0, .int .i64 0, .int .u32 0, .int .u32 0] 57 (0, 0))) ⟨zk.trans (Ch.alloc _ _) (fun _ _ h => h), heap_new _ _⟩ ?_
          rintro X21 ⟨cz, nX⟩
          clear zk
          refine hK.out _ _ ?_ (fun zk => ?_)
          · exact cz
          clear hK K
          try go_frame
          refine Go.Proofs.Ythnnpipekeanoaa.rd 7 gb7 rfl (by kernel_rfl) fun K hK => ?_
          go_simp
          refine ((HF2.out _ (HV2.out.1.quiet fc zk))).mono ?_
          rintro e X22 ⟨rfl, hb⟩
          have hc := Ch.of_below (Q := fun _ => False) hb
          have nX := hc.box nX (fun h => h)
          have cz := zk.trans hc (fun _ _ h => h)
          clear hb hc zk
          go_wp2_with fail
          refine hK.out _ _ ?_ (fun zk => ?_)
          · exact cz
          clear hK K
          try go_frame
          apply tk 8 gb8 rfl (by kernel_rfl) (fun _ _ _ h => h) zk
          · intro wq zq
            go_simp
            try rfl
          go_frame
          apply tk 9 gb9 rfl (by kernel_rfl) (fun _ _ _ h => h) zk
          · intro wq zq
            go_simp
            try rfl
          go_frame
          apply tk 10 gb10 rfl (by kernel_rfl) (fun _ _ _ h => h) zk
          · intro wq zq
            go_simp
            try rfl
          go_frame
          refine Go.Proofs.Ythnnpipekeanoaa.rd 12 gb12 rfl (by kernel_rfl) fun K hK => ?_
          refine step_store11 (b := X20.heap.size) (r := r) rfl _ _ rfl rfl rfl nX ?_
          refine genK (R := fun W => Ch (fun _ => False) V2 W ∧ W.heap[X20.heap.size]? = some (.cells #[.int .u32 r.ms, .int .u32 r.mg, .int .u32 r.ws, .int .u32 r.wg, .int .u32 r.rs, .int .u32 r.rg, .int .i64 r.rd, .int .i64 r.ar, .int .i64 r.vn, .int .u32 r.vs, .int .u32 r.vg] 57 (0, 0))) ⟨zk.trans (wrsA _ _ _) (fun y hy (e : y = X20.heap.size) => by subst e; have := (show Ch (fun _ => False) V2 X20 from cB).size; omega), set11 nX r⟩ ?_
          rintro YV2 ⟨cY, nYV2⟩
          clear zk
          refine hK.out _ _ ?_ (fun zk => ?_)
          · exact cY
          clear hK K
          try go_frame
          apply tk 13 gb13 rfl (by kernel_rfl) (fun _ _ _ h => h) zk
          · intro wq zq
            go_simp
            try rfl
          go_frame
          refine wpAnyH_done (by kernel_rfl) ?_ _
          have TWf := hide (HV2.out.1.quiet fc cY)
          have q1 := Lib.cell_of_heap (cY.box HV2.out.2.2 (fun h => h))
          have q2 := Lib.cell_of_heap nYV2
          have a0 : YV2.cell? ⟨X2.heap.size, 0, none⟩ = some (.int .u32 r.ms) := by rw [q1]; rfl
          have a1 : YV2.cell? ⟨X2.heap.size, 1, none⟩ = some (.int .u32 r.mg) := by rw [q1]; rfl
          have a2 : YV2.cell? ⟨X2.heap.size, 2, none⟩ = some (.int .u32 r.ws) := by rw [q1]; rfl
          have a3 : YV2.cell? ⟨X2.heap.size, 3, none⟩ = some (.int .u32 r.wg) := by rw [q1]; rfl
          have a4 : YV2.cell? ⟨X2.heap.size, 4, none⟩ = some (.int .u32 r.rs) := by rw [q1]; rfl
          have a5 : YV2.cell? ⟨X2.heap.size, 5, none⟩ = some (.int .u32 r.rg) := by rw [q1]; rfl
          have a6 : YV2.cell? ⟨X2.heap.size, 6, none⟩ = some (.int .i64 r.rd) := by rw [q1]; rfl
          have a7 : YV2.cell? ⟨X2.heap.size, 7, none⟩ = some (.int .i64 r.ar) := by rw [q1]; rfl
          have a8 : YV2.cell? ⟨X2.heap.size, 8, none⟩ = some (.int .i64 r.vn) := by rw [q1]; rfl
          have a9 : YV2.cell? ⟨X2.heap.size, 9, none⟩ = some (.int .u32 r.vs) := by rw [q1]; rfl
          have a10 : YV2.cell? ⟨X2.heap.size, 10, none⟩ = some (.int .u32 r.vg) := by rw [q1]; rfl
          have b0 : YV2.cell? ⟨X20.heap.size, 0, none⟩ = some (.int .u32 r.ms) := by rw [q2]; rfl
          have b1 : YV2.cell? ⟨X20.heap.size, 1, none⟩ = some (.int .u32 r.mg) := by rw [q2]; rfl
          have b2 : YV2.cell? ⟨X20.heap.size, 2, none⟩ = some (.int .u32 r.ws) := by rw [q2]; rfl
          have b3 : YV2.cell? ⟨X20.heap.size, 3, none⟩ = some (.int .u32 r.wg) := by rw [q2]; rfl
          have b4 : YV2.cell? ⟨X20.heap.size, 4, none⟩ = some (.int .u32 r.rs) := by rw [q2]; rfl
          have b5 : YV2.cell? ⟨X20.heap.size, 5, none⟩ = some (.int .u32 r.rg) := by rw [q2]; rfl
          have b6 : YV2.cell? ⟨X20.heap.size, 6, none⟩ = some (.int .i64 r.rd) := by rw [q2]; rfl
          have b7 : YV2.cell? ⟨X20.heap.size, 7, none⟩ = some (.int .i64 r.ar) := by rw [q2]; rfl
          have b8 : YV2.cell? ⟨X20.heap.size, 8, none⟩ = some (.int .i64 r.vn) := by rw [q2]; rfl
          have b9 : YV2.cell? ⟨X20.heap.size, 9, none⟩ = some (.int .u32 r.vs) := by rw [q2]; rfl
          have b10 : YV2.cell? ⟨X20.heap.size, 10, none⟩ = some (.int .u32 r.vg) := by rw [q2]; rfl
          clear q1 q2 nYV2 cY zk
          cases q
          · have e1 : ecB false 111 = 111 := rfl
            go_wp2_with fail
            go_ret
            exact ⟨rfl, _, _, TWf.out⟩
          · have e1 : ecB true 111 = 0 := rfl
            go_wp2_with fail
            go_ret
            exact ⟨rfl, _, _, TWf.out⟩
      · go_simp
        refine genK (R := fun W => Ch (fun _ => False) V2 W ∧ W.heap[V2.heap.size]? = some (.cells #[.int .u32 0, .int .u32 0, .int .u32 0, .int .u32 0, .int .u32 0, .int .u32 0, .int .i64 0, .int .i64 0, .int .i64 0, .int .u32 0, .int .u32 0] 57 (0, 0))) ⟨zk.trans (Ch.alloc _ _) (fun _ _ h => h), heap_new _ _⟩ ?_
        rintro X20 ⟨cz, nX⟩
        clear zk
        refine hK.out _ _ ?_ (fun zk => ?_)
        · exact cz
        clear hK K
        try go_frame
        refine Go.Proofs.Ythnnpipekeanoaa.rd 6 gb6 rfl (by kernel_rfl) fun K hK => ?_
        go_simp
        refine ((HM.out _ (HV2.out.1.quiet fc zk))).mono ?_
        rintro e X21 ⟨rfl, hb⟩
        have hc := Ch.of_below (Q := fun _ => False) hb
        have nX := hc.box nX (fun h => h)
        have cz := zk.trans hc (fun _ _ h => h)
        clear hb hc zk
        go_wp2_with fail
        refine hK.out _ _ ?_ (fun zk => ?_)
        · exact cz
        clear hK K
        try go_frame
        refine Go.Proofs.Ythnnpipekeanoaa.rd 7 gb7 rfl (by kernel_rfl) fun K hK => ?_
        go_simp
        refine ((HF2.out _ (HV2.out.1.quiet fc zk))).mono ?_
        rintro e X22 ⟨rfl, hb⟩
        have hc := Ch.of_below (Q := fun _ => False) hb
        have nX := hc.box nX (fun h => h)
        have cz := zk.trans hc (fun _ _ h => h)
        clear hb hc zk
        go_wp2_with fail
        refine hK.out _ _ ?_ (fun zk => ?_)
        · exact cz
        clear hK K
        try go_frame
        apply tk 8 gb8 rfl (by kernel_rfl) (fun _ _ _ h => h) zk
        · intro wq zq
          go_simp
          try rfl
        go_frame
        apply tk 9 gb9 rfl (by kernel_rfl) (fun _ _ _ h => h) zk
        · intro wq zq
          go_simp
          try rfl
        go_frame
        apply tk 10 gb10 rfl (by kernel_rfl) (fun _ _ _ h => h) zk
        · intro wq zq
          go_simp
          try rfl
        go_frame
        refine Go.Proofs.Ythnnpipekeanoaa.rd 12 gb12 rfl (by kernel_rfl) fun K hK => ?_
        refine step_store11 (b := V2.heap.size) (r := r) rfl _ _ rfl rfl rfl nX ?_
        refine genK (R := fun W => Ch (fun _ => False) V2 W ∧ W.heap[V2.heap.size]? = some (.cells #[.int .u32 r.ms, .int .u32 r.mg, .int .u32 r.ws, .int .u32 r.wg, .int .u32 r.rs, .int .u32 r.rg, .int .i64 r.rd, .int .i64 r.ar, .int .i64 r.vn, .int .u32 r.vs, .int .u32 r.vg] 57 (0, 0))) ⟨zk.trans (wrsA _ _ _) (fun y hy (e : y = V2.heap.size) => by subst e; omega), set11 nX r⟩ ?_
        rintro YV2 ⟨cY, nYV2⟩
        clear zk
        refine hK.out _ _ ?_ (fun zk => ?_)
        · exact cY
        clear hK K
        try go_frame
        apply tk 13 gb13 rfl (by kernel_rfl) (fun _ _ _ h => h) zk
        · intro wq zq
          go_simp
          try rfl
        go_frame
        refine wpAnyH_done (by kernel_rfl) ?_ _
        have TWf := hide (HV2.out.1.quiet fc cY)
        have q1 := Lib.cell_of_heap (cY.box HV2.out.2.2 (fun h => h))
        have q2 := Lib.cell_of_heap nYV2
        have a0 : YV2.cell? ⟨X2.heap.size, 0, none⟩ = some (.int .u32 r.ms) := by rw [q1]; rfl
        have a1 : YV2.cell? ⟨X2.heap.size, 1, none⟩ = some (.int .u32 r.mg) := by rw [q1]; rfl
        have a2 : YV2.cell? ⟨X2.heap.size, 2, none⟩ = some (.int .u32 r.ws) := by rw [q1]; rfl
        have a3 : YV2.cell? ⟨X2.heap.size, 3, none⟩ = some (.int .u32 r.wg) := by rw [q1]; rfl
        have a4 : YV2.cell? ⟨X2.heap.size, 4, none⟩ = some (.int .u32 r.rs) := by rw [q1]; rfl
        have a5 : YV2.cell? ⟨X2.heap.size, 5, none⟩ = some (.int .u32 r.rg) := by rw [q1]; rfl
        have a6 : YV2.cell? ⟨X2.heap.size, 6, none⟩ = some (.int .i64 r.rd) := by rw [q1]; rfl
        have a7 : YV2.cell? ⟨X2.heap.size, 7, none⟩ = some (.int .i64 r.ar) := by rw [q1]; rfl
        have a8 : YV2.cell? ⟨X2.heap.size, 8, none⟩ = some (.int .i64 r.vn) := by rw [q1]; rfl
        have a9 : YV2.cell? ⟨X2.heap.size, 9, none⟩ = some (.int .u32 r.vs) := by rw [q1]; rfl
        have a10 : YV2.cell? ⟨X2.heap.size, 10, none⟩ = some (.int .u32 r.vg) := by rw [q1]; rfl
        have b0 : YV2.cell? ⟨V2.heap.size, 0, none⟩ = some (.int .u32 r.ms) := by rw [q2]; rfl
        have b1 : YV2.cell? ⟨V2.heap.size, 1, none⟩ = some (.int .u32 r.mg) := by rw [q2]; rfl
        have b2 : YV2.cell? ⟨V2.heap.size, 2, none⟩ = some (.int .u32 r.ws) := by rw [q2]; rfl
        have b3 : YV2.cell? ⟨V2.heap.size, 3, none⟩ = some (.int .u32 r.wg) := by rw [q2]; rfl
        have b4 : YV2.cell? ⟨V2.heap.size, 4, none⟩ = some (.int .u32 r.rs) := by rw [q2]; rfl
        have b5 : YV2.cell? ⟨V2.heap.size, 5, none⟩ = some (.int .u32 r.rg) := by rw [q2]; rfl
        have b6 : YV2.cell? ⟨V2.heap.size, 6, none⟩ = some (.int .i64 r.rd) := by rw [q2]; rfl
        have b7 : YV2.cell? ⟨V2.heap.size, 7, none⟩ = some (.int .i64 r.ar) := by rw [q2]; rfl
        have b8 : YV2.cell? ⟨V2.heap.size, 8, none⟩ = some (.int .i64 r.vn) := by rw [q2]; rfl
        have b9 : YV2.cell? ⟨V2.heap.size, 9, none⟩ = some (.int .u32 r.vs) := by rw [q2]; rfl
        have b10 : YV2.cell? ⟨V2.heap.size, 10, none⟩ = some (.int .u32 r.vg) := by rw [q2]; rfl
        clear q1 q2 nYV2 cY zk
        cases q
        · have e1 : ecB false 111 = 111 := rfl
          go_wp2_with fail
          go_ret
          exact ⟨rfl, _, _, TWf.out⟩
        · have e1 : ecB true 111 = 0 := rfl
          go_wp2_with fail
          go_ret
          exact ⟨rfl, _, _, TWf.out⟩
    · have cB := zk
      go_simp
      refine genK (R := fun W => Ch (fun _ => False) V1 W ∧ W.heap[X1.heap.size]? = some (.cells #[.int .u32 0, .int .u32 0, .int .u32 0, .int .u32 0, .int .u32 0, .int .u32 0, .int .i64 0, .int .i64 0, .int .i64 0, .int .u32 0, .int .u32 0] 57 (0, 0))) ⟨zk.trans (Ch.alloc _ _) (fun _ _ h => h), heap_new _ _⟩ ?_
      rintro X2 ⟨cz, nX⟩
      clear zk
      refine hK.out _ _ ?_ (fun zk => ?_)
      · exact cz
      clear hK K
      try go_frame
      refine Go.Proofs.Ythnnpipekeanoaa.rd 7 ga7 rfl (by kernel_rfl) fun K hK => ?_
      go_simp
      refine ((HF1.out _ (HV1.out.1.quiet fc zk))).mono ?_
      rintro e X3 ⟨rfl, hb⟩
      have hc := Ch.of_below (Q := fun _ => False) hb
      have nX := hc.box nX (fun h => h)
      have cz := zk.trans hc (fun _ _ h => h)
      clear hb hc zk
      go_wp2_with fail
      refine hK.out _ _ ?_ (fun zk => ?_)
      · exact cz
      clear hK K
      try go_frame
      apply tk 8 ga8 rfl (by kernel_rfl) (fun _ _ _ h => h) zk
      · intro wq zq
        go_simp
        try rfl
      go_frame
      apply tk 9 ga9 rfl (by kernel_rfl) (fun _ _ _ h => h) zk
      · intro wq zq
        go_simp
        try rfl
      go_frame
      apply tk 10 ga10 rfl (by kernel_rfl) (fun _ _ _ h => h) zk
      · intro wq zq
        go_simp
        try rfl
      go_frame
      refine Go.Proofs.Ythnnpipekeanoaa.rd 12 ga12 rfl (by kernel_rfl) fun K hK => ?_
      refine step_store11 (b := X1.heap.size) (r := r) rfl _ _ rfl rfl rfl nX ?_
      refine genK (R := fun W => Ch (fun _ => False) V1 W ∧ W.heap[X1.heap.size]? = some (.cells #[.int .u32 r.ms, .int .u32 r.mg, .int .u32 r.ws, .int .u32 r.wg, .int .u32 r.rs, .int .u32 r.rg, .int .i64 r.rd, .int .i64 r.ar, .int .i64 r.vn, .int .u32 r.vs, .int .u32 r.vg] 57 (0, 0))) ⟨zk.trans (wrsA _ _ _) (fun y hy (e : y = X1.heap.size) => by subst e; have := (show Ch (fun _ => False) V1 X1 from cB).size; omega), set11 nX r⟩ ?_
      rintro YV1 ⟨cY, nYV1⟩
      clear zk
      refine hK.out _ _ ?_ (fun zk => ?_)
      · exact cY
      clear hK K
      try go_frame
      apply tk 13 ga13 rfl (by kernel_rfl) (fun _ _ _ h => h) zk
      · intro wq zq
        go_simp
        try rfl
      go_frame
      refine wpAnyH_done (by kernel_rfl) ?_ _
      have HY := hide (show Tw wB PT C YV1 B T p b F l l hs av ov tv lv wv ls ws rs n ∧ YV1.heap[w.heap.size]? = some (.cells (opF o).toArray 48 (0, 0)) ∧ YV1.heap[X1.heap.size]? = some (.cells #[.int .u32 r.ms, .int .u32 r.mg, .int .u32 r.ws, .int .u32 r.wg, .int .u32 r.rs, .int .u32 r.rg, .int .i64 r.rd, .int .i64 r.ar, .int .i64 r.vn, .int .u32 r.vs, .int .u32 r.vg] 57 (0, 0)) from ⟨HV1.out.1.quiet fc cY, cY.box HV1.out.2 (fun h => h), nYV1⟩)
      clear cY nYV1 zk
      go_wp2_with fail
      refine wp_reg (fun _ => False) (R := fun W => Tw wB PT C W B T p b F l l hs av ov tv lv wv ls ws rs n ∧ W.heap[w.heap.size]? = some (.cells (opF o).toArray 48 (0, 0)) ∧ W.heap[X1.heap.size]? = some (.cells #[.int .u32 r.ms, .int .u32 r.mg, .int .u32 r.ws, .int .u32 r.wg, .int .u32 r.rs, .int .u32 r.rg, .int .i64 r.rd, .int .i64 r.ar, .int .i64 r.vn, .int .u32 r.vs, .int .u32 r.vg] 57 (0, 0))) (by kernel_rfl) ⟨HY.out.1.quiet fc (Ch.drew _), (Ch.drew (Q := fun _ => False) _).box HY.out.2.1 (fun h => h), (Ch.drew (Q := fun _ => False) _).box HY.out.2.2 (fun h => h)⟩ ?_
      rintro V2 v zk
      have HV2 := hide v
      clear v
      have HC := hide (fun wq (zq : Ch (fun _ => False) V2 wq) => step_reads (wq := wq) (Q := fun _ => False) (o := o) HV2.out.1.hT HV2.out.2.1 zq (fun h => h) (fun h => h))
      have HO := hide (fun wq (zq : Ch (fun _ => False) V2 wq) => op_reads (wq := wq) (Q := fun _ => False) (o := o) hk HV2.out.2.1 zq (fun h => h))
      apply tk 0 gb0 rfl (by kernel_rfl) (fun _ _ _ h => h) zk
      · intro wq zq
        go_simp
        try rfl
      go_frame
      apply tk 1 gb1 rfl (by kernel_rfl) (fun _ _ _ h => h) zk
      · intro wq zq
        go_simp
        try rfl
      go_frame
      apply tk 2 gb2 rfl (by kernel_rfl) (fun _ _ _ h => h) zk
      · intro wq zq
        go_simp
        try rfl
      go_frame
      apply tk 3 gb3 rfl (by kernel_rfl) (fun _ _ _ h => h) zk
      · intro wq zq
        have s1 := (HC.out _ zq).2.1
        go_simp
        try rfl
      go_frame
      apply tk 4 gb4 rfl (by kernel_rfl) (fun _ _ _ h => h) zk
      · intro wq zq
        go_simp
        try rfl
      go_frame
      apply tk 5 gb5 rfl (by kernel_rfl) (fun _ _ _ h => h) zk
      · intro wq zq
        obtain ⟨s1, s2, s3, s4, s5, s6, s7, s8, s9, s10, s11, s12, s13, s14⟩ := HO.out _ zq
        go_simp
        try rfl
      go_frame
      refine wpAnyH_ready (rs := [6, 11]) (by kernel_rfl) (by simp) ?_
      refine AllReadyH.cons (o := gb6) rfl (fun K hK => ?_) (AllReadyH.cons (o := gb11) rfl (fun K hK => ?_) AllReadyH.nil)
      · go_simp
        refine ((HM.out _ (HV2.out.1.quiet fc zk))).mono ?_
        rintro e X20 ⟨rfl, hb⟩
        have hc := Ch.of_below (Q := fun _ => False) hb
        have cz := zk.trans hc (fun _ _ h => h)
        clear hb hc zk
        go_wp2_with fail
        refine hK.out _ _ ?_ (fun zk => ?_)
        · exact cz
        clear hK K
        try go_frame
        refine wpAnyH_ready (rs := [7, 11]) (by kernel_rfl) (by simp) ?_
        refine AllReadyH.cons (o := gb7) rfl (fun K hK => ?_) (AllReadyH.cons (o := gb11) rfl (fun K hK => ?_) AllReadyH.nil)
        · go_simp
          refine ((HF2.out _ (HV2.out.1.quiet fc zk))).mono ?_
          rintro e X21 ⟨rfl, hb⟩
          have hc := Ch.of_below (Q := fun _ => False) hb
          have cz := zk.trans hc (fun _ _ h => h)
          clear hb hc zk
          go_wp2_with fail
          refine hK.out _ _ ?_ (fun zk => ?_)
          · exact cz
          clear hK K
          try go_frame
          apply tk 8 gb8 rfl (by kernel_rfl) (fun _ _ _ h => h) zk
          · intro wq zq
            go_simp
            try rfl
          go_frame
          apply tk 9 gb9 rfl (by kernel_rfl) (fun _ _ _ h => h) zk
          · intro wq zq
            go_simp
            try rfl
          go_frame
          apply tk 10 gb10 rfl (by kernel_rfl) (fun _ _ _ h => h) zk
          · intro wq zq
            go_simp
            try rfl
          go_frame
          refine Go.Proofs.Ythnnpipekeanoaa.rd 11 gb11 rfl (by kernel_rfl) fun K hK => ?_
          have cB := zk
          go_simp
          refine genK (R := fun W => Ch (fun _ => False) V2 W ∧ W.heap[X21.heap.size]? = some (.cells #[.int .u32 0, .int .u32 0, .int .u32 0, .int .u32 0, .int .u32 0, .int .u32 0, .int .i64 0, .int .i64 0, .int .i64 0, .int .u32 0, .int .u32 0] 57 (0, 0))) ⟨zk.trans (Ch.alloc _ _) (fun _ _ h => h), heap_new _ _⟩ ?_
          rintro X22 ⟨cz, nX⟩
          clear zk
          refine hK.out _ _ ?_ (fun zk => ?_)
          · exact cz
          clear hK K
          try go_frame
          refine Go.Proofs.Ythnnpipekeanoaa.rd 12 gb12 rfl (by kernel_rfl) fun K hK => ?_
          refine step_store11 (b := X21.heap.size) (r := r) rfl _ _ rfl rfl rfl nX ?_
          refine genK (R := fun W => Ch (fun _ => False) V2 W ∧ W.heap[X21.heap.size]? = some (.cells #[.int .u32 r.ms, .int .u32 r.mg, .int .u32 r.ws, .int .u32 r.wg, .int .u32 r.rs, .int .u32 r.rg, .int .i64 r.rd, .int .i64 r.ar, .int .i64 r.vn, .int .u32 r.vs, .int .u32 r.vg] 57 (0, 0))) ⟨zk.trans (wrsA _ _ _) (fun y hy (e : y = X21.heap.size) => by subst e; have := (show Ch (fun _ => False) V2 X21 from cB).size; omega), set11 nX r⟩ ?_
          rintro YV2 ⟨cY, nYV2⟩
          clear zk
          refine hK.out _ _ ?_ (fun zk => ?_)
          · exact cY
          clear hK K
          try go_frame
          apply tk 13 gb13 rfl (by kernel_rfl) (fun _ _ _ h => h) zk
          · intro wq zq
            go_simp
            try rfl
          go_frame
          refine wpAnyH_done (by kernel_rfl) ?_ _
          have TWf := hide (HV2.out.1.quiet fc cY)
          have q1 := Lib.cell_of_heap (cY.box HV2.out.2.2 (fun h => h))
          have q2 := Lib.cell_of_heap nYV2
          have a0 : YV2.cell? ⟨X1.heap.size, 0, none⟩ = some (.int .u32 r.ms) := by rw [q1]; rfl
          have a1 : YV2.cell? ⟨X1.heap.size, 1, none⟩ = some (.int .u32 r.mg) := by rw [q1]; rfl
          have a2 : YV2.cell? ⟨X1.heap.size, 2, none⟩ = some (.int .u32 r.ws) := by rw [q1]; rfl
          have a3 : YV2.cell? ⟨X1.heap.size, 3, none⟩ = some (.int .u32 r.wg) := by rw [q1]; rfl
          have a4 : YV2.cell? ⟨X1.heap.size, 4, none⟩ = some (.int .u32 r.rs) := by rw [q1]; rfl
          have a5 : YV2.cell? ⟨X1.heap.size, 5, none⟩ = some (.int .u32 r.rg) := by rw [q1]; rfl
          have a6 : YV2.cell? ⟨X1.heap.size, 6, none⟩ = some (.int .i64 r.rd) := by rw [q1]; rfl
          have a7 : YV2.cell? ⟨X1.heap.size, 7, none⟩ = some (.int .i64 r.ar) := by rw [q1]; rfl
          have a8 : YV2.cell? ⟨X1.heap.size, 8, none⟩ = some (.int .i64 r.vn) := by rw [q1]; rfl
          have a9 : YV2.cell? ⟨X1.heap.size, 9, none⟩ = some (.int .u32 r.vs) := by rw [q1]; rfl
          have a10 : YV2.cell? ⟨X1.heap.size, 10, none⟩ = some (.int .u32 r.vg) := by rw [q1]; rfl
          have b0 : YV2.cell? ⟨X21.heap.size, 0, none⟩ = some (.int .u32 r.ms) := by rw [q2]; rfl
          have b1 : YV2.cell? ⟨X21.heap.size, 1, none⟩ = some (.int .u32 r.mg) := by rw [q2]; rfl
          have b2 : YV2.cell? ⟨X21.heap.size, 2, none⟩ = some (.int .u32 r.ws) := by rw [q2]; rfl
          have b3 : YV2.cell? ⟨X21.heap.size, 3, none⟩ = some (.int .u32 r.wg) := by rw [q2]; rfl
          have b4 : YV2.cell? ⟨X21.heap.size, 4, none⟩ = some (.int .u32 r.rs) := by rw [q2]; rfl
          have b5 : YV2.cell? ⟨X21.heap.size, 5, none⟩ = some (.int .u32 r.rg) := by rw [q2]; rfl
          have b6 : YV2.cell? ⟨X21.heap.size, 6, none⟩ = some (.int .i64 r.rd) := by rw [q2]; rfl
          have b7 : YV2.cell? ⟨X21.heap.size, 7, none⟩ = some (.int .i64 r.ar) := by rw [q2]; rfl
          have b8 : YV2.cell? ⟨X21.heap.size, 8, none⟩ = some (.int .i64 r.vn) := by rw [q2]; rfl
          have b9 : YV2.cell? ⟨X21.heap.size, 9, none⟩ = some (.int .u32 r.vs) := by rw [q2]; rfl
          have b10 : YV2.cell? ⟨X21.heap.size, 10, none⟩ = some (.int .u32 r.vg) := by rw [q2]; rfl
          clear q1 q2 nYV2 cY zk
          cases q
          · have e1 : ecB false 111 = 111 := rfl
            go_wp2_with fail
            go_ret
            exact ⟨rfl, _, _, TWf.out⟩
          · have e1 : ecB true 111 = 0 := rfl
            go_wp2_with fail
            go_ret
            exact ⟨rfl, _, _, TWf.out⟩
        · have cB := zk
          go_simp
          refine genK (R := fun W => Ch (fun _ => False) V2 W ∧ W.heap[X20.heap.size]? = some (.cells #[.int .u32 0, .int .u32 0, .int .u32 0, .int .u32 0, .int .u32 0, .int .u32 0, .int .i64 0, .int .i64 0, .int .i64 0, .int .u32 0, .int .u32 0] 57 (0, 0))) ⟨zk.trans (Ch.alloc _ _) (fun _ _ h => h), heap_new _ _⟩ ?_
          rintro X21 ⟨cz, nX⟩
          clear zk
          refine hK.out _ _ ?_ (fun zk => ?_)
          · exact cz
          clear hK K
          try go_frame
          refine Go.Proofs.Ythnnpipekeanoaa.rd 7 gb7 rfl (by kernel_rfl) fun K hK => ?_
          go_simp
          refine ((HF2.out _ (HV2.out.1.quiet fc zk))).mono ?_
          rintro e X22 ⟨rfl, hb⟩
          have hc := Ch.of_below (Q := fun _ => False) hb
          have nX := hc.box nX (fun h => h)
          have cz := zk.trans hc (fun _ _ h => h)
          clear hb hc zk
          go_wp2_with fail
          refine hK.out _ _ ?_ (fun zk => ?_)
          · exact cz
          clear hK K
          try go_frame
          apply tk 8 gb8 rfl (by kernel_rfl) (fun _ _ _ h => h) zk
          · intro wq zq
            go_simp
            try rfl
          go_frame
          apply tk 9 gb9 rfl (by kernel_rfl) (fun _ _ _ h => h) zk
          · intro wq zq
            go_simp
            try rfl
          go_frame
          apply tk 10 gb10 rfl (by kernel_rfl) (fun _ _ _ h => h) zk
          · intro wq zq
            go_simp
            try rfl
          go_frame
          refine Go.Proofs.Ythnnpipekeanoaa.rd 12 gb12 rfl (by kernel_rfl) fun K hK => ?_
          refine step_store11 (b := X20.heap.size) (r := r) rfl _ _ rfl rfl rfl nX ?_
          refine genK (R := fun W => Ch (fun _ => False) V2 W ∧ W.heap[X20.heap.size]? = some (.cells #[.int .u32 r.ms, .int .u32 r.mg, .int .u32 r.ws, .int .u32 r.wg, .int .u32 r.rs, .int .u32 r.rg, .int .i64 r.rd, .int .i64 r.ar, .int .i64 r.vn, .int .u32 r.vs, .int .u32 r.vg] 57 (0, 0))) ⟨zk.trans (wrsA _ _ _) (fun y hy (e : y = X20.heap.size) => by subst e; have := (show Ch (fun _ => False) V2 X20 from cB).size; omega), set11 nX r⟩ ?_
          rintro YV2 ⟨cY, nYV2⟩
          clear zk
          refine hK.out _ _ ?_ (fun zk => ?_)
          · exact cY
          clear hK K
          try go_frame
          apply tk 13 gb13 rfl (by kernel_rfl) (fun _ _ _ h => h) zk
          · intro wq zq
            go_simp
            try rfl
          go_frame
          refine wpAnyH_done (by kernel_rfl) ?_ _
          have TWf := hide (HV2.out.1.quiet fc cY)
          have q1 := Lib.cell_of_heap (cY.box HV2.out.2.2 (fun h => h))
          have q2 := Lib.cell_of_heap nYV2
          have a0 : YV2.cell? ⟨X1.heap.size, 0, none⟩ = some (.int .u32 r.ms) := by rw [q1]; rfl
          have a1 : YV2.cell? ⟨X1.heap.size, 1, none⟩ = some (.int .u32 r.mg) := by rw [q1]; rfl
          have a2 : YV2.cell? ⟨X1.heap.size, 2, none⟩ = some (.int .u32 r.ws) := by rw [q1]; rfl
          have a3 : YV2.cell? ⟨X1.heap.size, 3, none⟩ = some (.int .u32 r.wg) := by rw [q1]; rfl
          have a4 : YV2.cell? ⟨X1.heap.size, 4, none⟩ = some (.int .u32 r.rs) := by rw [q1]; rfl
          have a5 : YV2.cell? ⟨X1.heap.size, 5, none⟩ = some (.int .u32 r.rg) := by rw [q1]; rfl
          have a6 : YV2.cell? ⟨X1.heap.size, 6, none⟩ = some (.int .i64 r.rd) := by rw [q1]; rfl
          have a7 : YV2.cell? ⟨X1.heap.size, 7, none⟩ = some (.int .i64 r.ar) := by rw [q1]; rfl
          have a8 : YV2.cell? ⟨X1.heap.size, 8, none⟩ = some (.int .i64 r.vn) := by rw [q1]; rfl
          have a9 : YV2.cell? ⟨X1.heap.size, 9, none⟩ = some (.int .u32 r.vs) := by rw [q1]; rfl
          have a10 : YV2.cell? ⟨X1.heap.size, 10, none⟩ = some (.int .u32 r.vg) := by rw [q1]; rfl
          have b0 : YV2.cell? ⟨X20.heap.size, 0, none⟩ = some (.int .u32 r.ms) := by rw [q2]; rfl
          have b1 : YV2.cell? ⟨X20.heap.size, 1, none⟩ = some (.int .u32 r.mg) := by rw [q2]; rfl
          have b2 : YV2.cell? ⟨X20.heap.size, 2, none⟩ = some (.int .u32 r.ws) := by rw [q2]; rfl
          have b3 : YV2.cell? ⟨X20.heap.size, 3, none⟩ = some (.int .u32 r.wg) := by rw [q2]; rfl
          have b4 : YV2.cell? ⟨X20.heap.size, 4, none⟩ = some (.int .u32 r.rs) := by rw [q2]; rfl
          have b5 : YV2.cell? ⟨X20.heap.size, 5, none⟩ = some (.int .u32 r.rg) := by rw [q2]; rfl
          have b6 : YV2.cell? ⟨X20.heap.size, 6, none⟩ = some (.int .i64 r.rd) := by rw [q2]; rfl
          have b7 : YV2.cell? ⟨X20.heap.size, 7, none⟩ = some (.int .i64 r.ar) := by rw [q2]; rfl
          have b8 : YV2.cell? ⟨X20.heap.size, 8, none⟩ = some (.int .i64 r.vn) := by rw [q2]; rfl
          have b9 : YV2.cell? ⟨X20.heap.size, 9, none⟩ = some (.int .u32 r.vs) := by rw [q2]; rfl
          have b10 : YV2.cell? ⟨X20.heap.size, 10, none⟩ = some (.int .u32 r.vg) := by rw [q2]; rfl
          clear q1 q2 nYV2 cY zk
          cases q
          · have e1 : ecB false 111 = 111 := rfl
            go_wp2_with fail
            go_ret
            exact ⟨rfl, _, _, TWf.out⟩
          · have e1 : ecB true 111 = 0 := rfl
            go_wp2_with fail
            go_ret
            exact ⟨rfl, _, _, TWf.out⟩
      · go_simp
        refine genK (R := fun W => Ch (fun _ => False) V2 W ∧ W.heap[V2.heap.size]? = some (.cells #[.int .u32 0, .int .u32 0, .int .u32 0, .int .u32 0, .int .u32 0, .int .u32 0, .int .i64 0, .int .i64 0, .int .i64 0, .int .u32 0, .int .u32 0] 57 (0, 0))) ⟨zk.trans (Ch.alloc _ _) (fun _ _ h => h), heap_new _ _⟩ ?_
        rintro X20 ⟨cz, nX⟩
        clear zk
        refine hK.out _ _ ?_ (fun zk => ?_)
        · exact cz
        clear hK K
        try go_frame
        refine Go.Proofs.Ythnnpipekeanoaa.rd 6 gb6 rfl (by kernel_rfl) fun K hK => ?_
        go_simp
        refine ((HM.out _ (HV2.out.1.quiet fc zk))).mono ?_
        rintro e X21 ⟨rfl, hb⟩
        have hc := Ch.of_below (Q := fun _ => False) hb
        have nX := hc.box nX (fun h => h)
        have cz := zk.trans hc (fun _ _ h => h)
        clear hb hc zk
        go_wp2_with fail
        refine hK.out _ _ ?_ (fun zk => ?_)
        · exact cz
        clear hK K
        try go_frame
        refine Go.Proofs.Ythnnpipekeanoaa.rd 7 gb7 rfl (by kernel_rfl) fun K hK => ?_
        go_simp
        refine ((HF2.out _ (HV2.out.1.quiet fc zk))).mono ?_
        rintro e X22 ⟨rfl, hb⟩
        have hc := Ch.of_below (Q := fun _ => False) hb
        have nX := hc.box nX (fun h => h)
        have cz := zk.trans hc (fun _ _ h => h)
        clear hb hc zk
        go_wp2_with fail
        refine hK.out _ _ ?_ (fun zk => ?_)
        · exact cz
        clear hK K
        try go_frame
        apply tk 8 gb8 rfl (by kernel_rfl) (fun _ _ _ h => h) zk
        · intro wq zq
          go_simp
          try rfl
        go_frame
        apply tk 9 gb9 rfl (by kernel_rfl) (fun _ _ _ h => h) zk
        · intro wq zq
          go_simp
          try rfl
        go_frame
        apply tk 10 gb10 rfl (by kernel_rfl) (fun _ _ _ h => h) zk
        · intro wq zq
          go_simp
          try rfl
        go_frame
        refine Go.Proofs.Ythnnpipekeanoaa.rd 12 gb12 rfl (by kernel_rfl) fun K hK => ?_
        refine step_store11 (b := V2.heap.size) (r := r) rfl _ _ rfl rfl rfl nX ?_
        refine genK (R := fun W => Ch (fun _ => False) V2 W ∧ W.heap[V2.heap.size]? = some (.cells #[.int .u32 r.ms, .int .u32 r.mg, .int .u32 r.ws, .int .u32 r.wg, .int .u32 r.rs, .int .u32 r.rg, .int .i64 r.rd, .int .i64 r.ar, .int .i64 r.vn, .int .u32 r.vs, .int .u32 r.vg] 57 (0, 0))) ⟨zk.trans (wrsA _ _ _) (fun y hy (e : y = V2.heap.size) => by subst e; omega), set11 nX r⟩ ?_
        rintro YV2 ⟨cY, nYV2⟩
        clear zk
        refine hK.out _ _ ?_ (fun zk => ?_)
        · exact cY
        clear hK K
        try go_frame
        apply tk 13 gb13 rfl (by kernel_rfl) (fun _ _ _ h => h) zk
        · intro wq zq
          go_simp
          try rfl
        go_frame
        refine wpAnyH_done (by kernel_rfl) ?_ _
        have TWf := hide (HV2.out.1.quiet fc cY)
        have q1 := Lib.cell_of_heap (cY.box HV2.out.2.2 (fun h => h))
        have q2 := Lib.cell_of_heap nYV2
        have a0 : YV2.cell? ⟨X1.heap.size, 0, none⟩ = some (.int .u32 r.ms) := by rw [q1]; rfl
        have a1 : YV2.cell? ⟨X1.heap.size, 1, none⟩ = some (.int .u32 r.mg) := by rw [q1]; rfl
        have a2 : YV2.cell? ⟨X1.heap.size, 2, none⟩ = some (.int .u32 r.ws) := by rw [q1]; rfl
        have a3 : YV2.cell? ⟨X1.heap.size, 3, none⟩ = some (.int .u32 r.wg) := by rw [q1]; rfl
        have a4 : YV2.cell? ⟨X1.heap.size, 4, none⟩ = some (.int .u32 r.rs) := by rw [q1]; rfl
        have a5 : YV2.cell? ⟨X1.heap.size, 5, none⟩ = some (.int .u32 r.rg) := by rw [q1]; rfl
        have a6 : YV2.cell? ⟨X1.heap.size, 6, none⟩ = some (.int .i64 r.rd) := by rw [q1]; rfl
        have a7 : YV2.cell? ⟨X1.heap.size, 7, none⟩ = some (.int .i64 r.ar) := by rw [q1]; rfl
        have a8 : YV2.cell? ⟨X1.heap.size, 8, none⟩ = some (.int .i64 r.vn) := by rw [q1]; rfl
        have a9 : YV2.cell? ⟨X1.heap.size, 9, none⟩ = some (.int .u32 r.vs) := by rw [q1]; rfl
        have a10 : YV2.cell? ⟨X1.heap.size, 10, none⟩ = some (.int .u32 r.vg) := by rw [q1]; rfl
        have b0 : YV2.cell? ⟨V2.heap.size, 0, none⟩ = some (.int .u32 r.ms) := by rw [q2]; rfl
        have b1 : YV2.cell? ⟨V2.heap.size, 1, none⟩ = some (.int .u32 r.mg) := by rw [q2]; rfl
        have b2 : YV2.cell? ⟨V2.heap.size, 2, none⟩ = some (.int .u32 r.ws) := by rw [q2]; rfl
        have b3 : YV2.cell? ⟨V2.heap.size, 3, none⟩ = some (.int .u32 r.wg) := by rw [q2]; rfl
        have b4 : YV2.cell? ⟨V2.heap.size, 4, none⟩ = some (.int .u32 r.rs) := by rw [q2]; rfl
        have b5 : YV2.cell? ⟨V2.heap.size, 5, none⟩ = some (.int .u32 r.rg) := by rw [q2]; rfl
        have b6 : YV2.cell? ⟨V2.heap.size, 6, none⟩ = some (.int .i64 r.rd) := by rw [q2]; rfl
        have b7 : YV2.cell? ⟨V2.heap.size, 7, none⟩ = some (.int .i64 r.ar) := by rw [q2]; rfl
        have b8 : YV2.cell? ⟨V2.heap.size, 8, none⟩ = some (.int .i64 r.vn) := by rw [q2]; rfl
        have b9 : YV2.cell? ⟨V2.heap.size, 9, none⟩ = some (.int .u32 r.vs) := by rw [q2]; rfl
        have b10 : YV2.cell? ⟨V2.heap.size, 10, none⟩ = some (.int .u32 r.vg) := by rw [q2]; rfl
        clear q1 q2 nYV2 cY zk
        cases q
        · have e1 : ecB false 111 = 111 := rfl
          go_wp2_with fail
          go_ret
          exact ⟨rfl, _, _, TWf.out⟩
        · have e1 : ecB true 111 = 0 := rfl
          go_wp2_with fail
          go_ret
          exact ⟨rfl, _, _, TWf.out⟩
  · go_simp
    refine genK (R := fun W => Ch (fun _ => False) V1 W ∧ W.heap[V1.heap.size]? = some (.cells #[.int .u32 0, .int .u32 0, .int .u32 0, .int .u32 0, .int .u32 0, .int .u32 0, .int .i64 0, .int .i64 0, .int .i64 0, .int .u32 0, .int .u32 0] 57 (0, 0))) ⟨zk.trans (Ch.alloc _ _) (fun _ _ h => h), heap_new _ _⟩ ?_
    rintro X1 ⟨cz, nX⟩
    clear zk
    refine hK.out _ _ ?_ (fun zk => ?_)
    · exact cz
    clear hK K
    try go_frame
    refine Go.Proofs.Ythnnpipekeanoaa.rd 6 ga6 rfl (by kernel_rfl) fun K hK => ?_
    go_simp
    refine ((HM.out _ (HV1.out.1.quiet fc zk))).mono ?_
    rintro e X2 ⟨rfl, hb⟩
    have hc := Ch.of_below (Q := fun _ => False) hb
    have nX := hc.box nX (fun h => h)
    have cz := zk.trans hc (fun _ _ h => h)
    clear hb hc zk
    go_wp2_with fail
    refine hK.out _ _ ?_ (fun zk => ?_)
    · exact cz
    clear hK K
    try go_frame
    refine Go.Proofs.Ythnnpipekeanoaa.rd 7 ga7 rfl (by kernel_rfl) fun K hK => ?_
    go_simp
    refine ((HF1.out _ (HV1.out.1.quiet fc zk))).mono ?_
    rintro e X3 ⟨rfl, hb⟩
    have hc := Ch.of_below (Q := fun _ => False) hb
    have nX := hc.box nX (fun h => h)
    have cz := zk.trans hc (fun _ _ h => h)
    clear hb hc zk
    go_wp2_with fail
    refine hK.out _ _ ?_ (fun zk => ?_)
    · exact cz
    clear hK K
    try go_frame
    apply tk 8 ga8 rfl (by kernel_rfl) (fun _ _ _ h => h) zk
    · intro wq zq
      go_simp
      try rfl
    go_frame
    apply tk 9 ga9 rfl (by kernel_rfl) (fun _ _ _ h => h) zk
    · intro wq zq
      go_simp
      try rfl
    go_frame
    apply tk 10 ga10 rfl (by kernel_rfl) (fun _ _ _ h => h) zk
    · intro wq zq
      go_simp
      try rfl
    go_frame
    refine Go.Proofs.Ythnnpipekeanoaa.rd 12 ga12 rfl (by kernel_rfl) fun K hK => ?_
    refine step_store11 (b := V1.heap.size) (r := r) rfl _ _ rfl rfl rfl nX ?_
    refine genK (R := fun W => Ch (fun _ => False) V1 W ∧ W.heap[V1.heap.size]? = some (.cells #[.int .u32 r.ms, .int .u32 r.mg, .int .u32 r.ws, .int .u32 r.wg, .int .u32 r.rs, .int .u32 r.rg, .int .i64 r.rd, .int .i64 r.ar, .int .i64 r.vn, .int .u32 r.vs, .int .u32 r.vg] 57 (0, 0))) ⟨zk.trans (wrsA _ _ _) (fun y hy (e : y = V1.heap.size) => by subst e; omega), set11 nX r⟩ ?_
    rintro YV1 ⟨cY, nYV1⟩
    clear zk
    refine hK.out _ _ ?_ (fun zk => ?_)
    · exact cY
    clear hK K
    try go_frame
    apply tk 13 ga13 rfl (by kernel_rfl) (fun _ _ _ h => h) zk
    · intro wq zq
      go_simp
      try rfl
    go_frame
    refine wpAnyH_done (by kernel_rfl) ?_ _
    have HY := hide (show Tw wB PT C YV1 B T p b F l l hs av ov tv lv wv ls ws rs n ∧ YV1.heap[w.heap.size]? = some (.cells (opF o).toArray 48 (0, 0)) ∧ YV1.heap[V1.heap.size]? = some (.cells #[.int .u32 r.ms, .int .u32 r.mg, .int .u32 r.ws, .int .u32 r.wg, .int .u32 r.rs, .int .u32 r.rg, .int .i64 r.rd, .int .i64 r.ar, .int .i64 r.vn, .int .u32 r.vs, .int .u32 r.vg] 57 (0, 0)) from ⟨HV1.out.1.quiet fc cY, cY.box HV1.out.2 (fun h => h), nYV1⟩)
    clear cY nYV1 zk
    go_wp2_with fail
    refine wp_reg (fun _ => False) (R := fun W => Tw wB PT C W B T p b F l l hs av ov tv lv wv ls ws rs n ∧ W.heap[w.heap.size]? = some (.cells (opF o).toArray 48 (0, 0)) ∧ W.heap[V1.heap.size]? = some (.cells #[.int .u32 r.ms, .int .u32 r.mg, .int .u32 r.ws, .int .u32 r.wg, .int .u32 r.rs, .int .u32 r.rg, .int .i64 r.rd, .int .i64 r.ar, .int .i64 r.vn, .int .u32 r.vs, .int .u32 r.vg] 57 (0, 0))) (by kernel_rfl) ⟨HY.out.1.quiet fc (Ch.drew _), (Ch.drew (Q := fun _ => False) _).box HY.out.2.1 (fun h => h), (Ch.drew (Q := fun _ => False) _).box HY.out.2.2 (fun h => h)⟩ ?_
    rintro V2 v zk
    have HV2 := hide v
    clear v
    have HC := hide (fun wq (zq : Ch (fun _ => False) V2 wq) => step_reads (wq := wq) (Q := fun _ => False) (o := o) HV2.out.1.hT HV2.out.2.1 zq (fun h => h) (fun h => h))
    have HO := hide (fun wq (zq : Ch (fun _ => False) V2 wq) => op_reads (wq := wq) (Q := fun _ => False) (o := o) hk HV2.out.2.1 zq (fun h => h))
    apply tk 0 gb0 rfl (by kernel_rfl) (fun _ _ _ h => h) zk
    · intro wq zq
      go_simp
      try rfl
    go_frame
    apply tk 1 gb1 rfl (by kernel_rfl) (fun _ _ _ h => h) zk
    · intro wq zq
      go_simp
      try rfl
    go_frame
    apply tk 2 gb2 rfl (by kernel_rfl) (fun _ _ _ h => h) zk
    · intro wq zq
      go_simp
      try rfl
    go_frame
    apply tk 3 gb3 rfl (by kernel_rfl) (fun _ _ _ h => h) zk
    · intro wq zq
      have s1 := (HC.out _ zq).2.1
      go_simp
      try rfl
    go_frame
    apply tk 4 gb4 rfl (by kernel_rfl) (fun _ _ _ h => h) zk
    · intro wq zq
      go_simp
      try rfl
    go_frame
    apply tk 5 gb5 rfl (by kernel_rfl) (fun _ _ _ h => h) zk
    · intro wq zq
      obtain ⟨s1, s2, s3, s4, s5, s6, s7, s8, s9, s10, s11, s12, s13, s14⟩ := HO.out _ zq
      go_simp
      try rfl
    go_frame
    refine wpAnyH_ready (rs := [6, 11]) (by kernel_rfl) (by simp) ?_
    refine AllReadyH.cons (o := gb6) rfl (fun K hK => ?_) (AllReadyH.cons (o := gb11) rfl (fun K hK => ?_) AllReadyH.nil)
    · go_simp
      refine ((HM.out _ (HV2.out.1.quiet fc zk))).mono ?_
      rintro e X20 ⟨rfl, hb⟩
      have hc := Ch.of_below (Q := fun _ => False) hb
      have cz := zk.trans hc (fun _ _ h => h)
      clear hb hc zk
      go_wp2_with fail
      refine hK.out _ _ ?_ (fun zk => ?_)
      · exact cz
      clear hK K
      try go_frame
      refine wpAnyH_ready (rs := [7, 11]) (by kernel_rfl) (by simp) ?_
      refine AllReadyH.cons (o := gb7) rfl (fun K hK => ?_) (AllReadyH.cons (o := gb11) rfl (fun K hK => ?_) AllReadyH.nil)
      · go_simp
        refine ((HF2.out _ (HV2.out.1.quiet fc zk))).mono ?_
        rintro e X21 ⟨rfl, hb⟩
        have hc := Ch.of_below (Q := fun _ => False) hb
        have cz := zk.trans hc (fun _ _ h => h)
        clear hb hc zk
        go_wp2_with fail
        refine hK.out _ _ ?_ (fun zk => ?_)
        · exact cz
        clear hK K
        try go_frame
        apply tk 8 gb8 rfl (by kernel_rfl) (fun _ _ _ h => h) zk
        · intro wq zq
          go_simp
          try rfl
        go_frame
        apply tk 9 gb9 rfl (by kernel_rfl) (fun _ _ _ h => h) zk
        · intro wq zq
          go_simp
          try rfl
        go_frame
        apply tk 10 gb10 rfl (by kernel_rfl) (fun _ _ _ h => h) zk
        · intro wq zq
          go_simp
          try rfl
        go_frame
        refine Go.Proofs.Ythnnpipekeanoaa.rd 11 gb11 rfl (by kernel_rfl) fun K hK => ?_
        have cB := zk
        go_simp
        refine genK (R := fun W => Ch (fun _ => False) V2 W ∧ W.heap[X21.heap.size]? = some (.cells #[.int .u32 0, .int .u32 0, .int .u32 0, .int .u32 0, .int .u32 0, .int .u32 0, .int .i64 0, .int .i64 0, .int .i64 0, .int .u32 0, .int .u32 0] 57 (0, 0))) ⟨zk.trans (Ch.alloc _ _) (fun _ _ h => h), heap_new _ _⟩ ?_
        rintro X22 ⟨cz, nX⟩
        clear zk
        refine hK.out _ _ ?_ (fun zk => ?_)
        · exact cz
        clear hK K
        try go_frame
        refine Go.Proofs.Ythnnpipekeanoaa.rd 12 gb12 rfl (by kernel_rfl) fun K hK => ?_
        refine step_store11 (b := X21.heap.size) (r := r) rfl _ _ rfl rfl rfl nX ?_
        refine genK (R := fun W => Ch (fun _ => False) V2 W ∧ W.heap[X21.heap.size]? = some (.cells #[.int .u32 r.ms, .int .u32 r.mg, .int .u32 r.ws, .int .u32 r.wg, .int .u32 r.rs, .int .u32 r.rg, .int .i64 r.rd, .int .i64 r.ar, .int .i64 r.vn, .int .u32 r.vs, .int .u32 r.vg] 57 (0, 0))) ⟨zk.trans (wrsA _ _ _) (fun y hy (e : y = X21.heap.size) => by subst e; have := (show Ch (fun _ => False) V2 X21 from cB).size; omega), set11 nX r⟩ ?_
        rintro YV2 ⟨cY, nYV2⟩
        clear zk
        refine hK.out _ _ ?_ (fun zk => ?_)
        · exact cY
        clear hK K
        try go_frame
        apply tk 13 gb13 rfl (by kernel_rfl) (fun _ _ _ h => h) zk
        · intro wq zq
          go_simp
          try rfl
        go_frame
        refine wpAnyH_done (by kernel_rfl) ?_ _
        have TWf := hide (HV2.out.1.quiet fc cY)
        have q1 := Lib.cell_of_heap (cY.box HV2.out.2.2 (fun h => h))
        have q2 := Lib.cell_of_heap nYV2
        have a0 : YV2.cell? ⟨V1.heap.size, 0, none⟩ = some (.int .u32 r.ms) := by rw [q1]; rfl
        have a1 : YV2.cell? ⟨V1.heap.size, 1, none⟩ = some (.int .u32 r.mg) := by rw [q1]; rfl
        have a2 : YV2.cell? ⟨V1.heap.size, 2, none⟩ = some (.int .u32 r.ws) := by rw [q1]; rfl
        have a3 : YV2.cell? ⟨V1.heap.size, 3, none⟩ = some (.int .u32 r.wg) := by rw [q1]; rfl
        have a4 : YV2.cell? ⟨V1.heap.size, 4, none⟩ = some (.int .u32 r.rs) := by rw [q1]; rfl
        have a5 : YV2.cell? ⟨V1.heap.size, 5, none⟩ = some (.int .u32 r.rg) := by rw [q1]; rfl
        have a6 : YV2.cell? ⟨V1.heap.size, 6, none⟩ = some (.int .i64 r.rd) := by rw [q1]; rfl
        have a7 : YV2.cell? ⟨V1.heap.size, 7, none⟩ = some (.int .i64 r.ar) := by rw [q1]; rfl
        have a8 : YV2.cell? ⟨V1.heap.size, 8, none⟩ = some (.int .i64 r.vn) := by rw [q1]; rfl
        have a9 : YV2.cell? ⟨V1.heap.size, 9, none⟩ = some (.int .u32 r.vs) := by rw [q1]; rfl
        have a10 : YV2.cell? ⟨V1.heap.size, 10, none⟩ = some (.int .u32 r.vg) := by rw [q1]; rfl
        have b0 : YV2.cell? ⟨X21.heap.size, 0, none⟩ = some (.int .u32 r.ms) := by rw [q2]; rfl
        have b1 : YV2.cell? ⟨X21.heap.size, 1, none⟩ = some (.int .u32 r.mg) := by rw [q2]; rfl
        have b2 : YV2.cell? ⟨X21.heap.size, 2, none⟩ = some (.int .u32 r.ws) := by rw [q2]; rfl
        have b3 : YV2.cell? ⟨X21.heap.size, 3, none⟩ = some (.int .u32 r.wg) := by rw [q2]; rfl
        have b4 : YV2.cell? ⟨X21.heap.size, 4, none⟩ = some (.int .u32 r.rs) := by rw [q2]; rfl
        have b5 : YV2.cell? ⟨X21.heap.size, 5, none⟩ = some (.int .u32 r.rg) := by rw [q2]; rfl
        have b6 : YV2.cell? ⟨X21.heap.size, 6, none⟩ = some (.int .i64 r.rd) := by rw [q2]; rfl
        have b7 : YV2.cell? ⟨X21.heap.size, 7, none⟩ = some (.int .i64 r.ar) := by rw [q2]; rfl
        have b8 : YV2.cell? ⟨X21.heap.size, 8, none⟩ = some (.int .i64 r.vn) := by rw [q2]; rfl
        have b9 : YV2.cell? ⟨X21.heap.size, 9, none⟩ = some (.int .u32 r.vs) := by rw [q2]; rfl
        have b10 : YV2.cell? ⟨X21.heap.size, 10, none⟩ = some (.int .u32 r.vg) := by rw [q2]; rfl
        clear q1 q2 nYV2 cY zk
        cases q
        · have e1 : ecB false 111 = 111 := rfl
          go_wp2_with fail
          go_ret
          exact ⟨rfl, _, _, TWf.out⟩
        · have e1 : ecB true 111 = 0 := rfl
          go_wp2_with fail
          go_ret
          exact ⟨rfl, _, _, TWf.out⟩
      · have cB := zk
        go_simp
        refine genK (R := fun W => Ch (fun _ => False) V2 W ∧ W.heap[X20.heap.size]? = some (.cells #[.int .u32 0, .int .u32 0, .int .u32 0, .int .u32 0, .int .u32 0, .int .u32 0, .int .i64 0, .int .i64 0, .int .i64 0, .int .u32 0, .int .u32 0] 57 (0, 0))) ⟨zk.trans (Ch.alloc _ _) (fun _ _ h => h), heap_new _ _⟩ ?_
        rintro X21 ⟨cz, nX⟩
        clear zk
        refine hK.out _ _ ?_ (fun zk => ?_)
        · exact cz
        clear hK K
        try go_frame
        refine Go.Proofs.Ythnnpipekeanoaa.rd 7 gb7 rfl (by kernel_rfl) fun K hK => ?_
        go_simp
        refine ((HF2.out _ (HV2.out.1.quiet fc zk))).mono ?_
        rintro e X22 ⟨rfl, hb⟩
        have hc := Ch.of_below (Q := fun _ => False) hb
        have nX := hc.box nX (fun h => h)
        have cz := zk.trans hc (fun _ _ h => h)
        clear hb hc zk
        go_wp2_with fail
        refine hK.out _ _ ?_ (fun zk => ?_)
        · exact cz
        clear hK K
        try go_frame
        apply tk 8 gb8 rfl (by kernel_rfl) (fun _ _ _ h => h) zk
        · intro wq zq
          go_simp
          try rfl
        go_frame
        apply tk 9 gb9 rfl (by kernel_rfl) (fun _ _ _ h => h) zk
        · intro wq zq
          go_simp
          try rfl
        go_frame
        apply tk 10 gb10 rfl (by kernel_rfl) (fun _ _ _ h => h) zk
        · intro wq zq
          go_simp
          try rfl
        go_frame
        refine Go.Proofs.Ythnnpipekeanoaa.rd 12 gb12 rfl (by kernel_rfl) fun K hK => ?_
        refine step_store11 (b := X20.heap.size) (r := r) rfl _ _ rfl rfl rfl nX ?_
        refine genK (R := fun W => Ch (fun _ => False) V2 W ∧ W.heap[X20.heap.size]? = some (.cells #[.int .u32 r.ms, .int .u32 r.mg, .int .u32 r.ws, .int .u32 r.wg, .int .u32 r.rs, .int .u32 r.rg, .int .i64 r.rd, .int .i64 r.ar, .int .i64 r.vn, .int .u32 r.vs, .int .u32 r.vg] 57 (0, 0))) ⟨zk.trans (wrsA _ _ _) (fun y hy (e : y = X20.heap.size) => by subst e; have := (show Ch (fun _ => False) V2 X20 from cB).size; omega), set11 nX r⟩ ?_
        rintro YV2 ⟨cY, nYV2⟩
        clear zk
        refine hK.out _ _ ?_ (fun zk => ?_)
        · exact cY
        clear hK K
        try go_frame
        apply tk 13 gb13 rfl (by kernel_rfl) (fun _ _ _ h => h) zk
        · intro wq zq
          go_simp
          try rfl
        go_frame
        refine wpAnyH_done (by kernel_rfl) ?_ _
        have TWf := hide (HV2.out.1.quiet fc cY)
        have q1 := Lib.cell_of_heap (cY.box HV2.out.2.2 (fun h => h))
        have q2 := Lib.cell_of_heap nYV2
        have a0 : YV2.cell? ⟨V1.heap.size, 0, none⟩ = some (.int .u32 r.ms) := by rw [q1]; rfl
        have a1 : YV2.cell? ⟨V1.heap.size, 1, none⟩ = some (.int .u32 r.mg) := by rw [q1]; rfl
        have a2 : YV2.cell? ⟨V1.heap.size, 2, none⟩ = some (.int .u32 r.ws) := by rw [q1]; rfl
        have a3 : YV2.cell? ⟨V1.heap.size, 3, none⟩ = some (.int .u32 r.wg) := by rw [q1]; rfl
        have a4 : YV2.cell? ⟨V1.heap.size, 4, none⟩ = some (.int .u32 r.rs) := by rw [q1]; rfl
        have a5 : YV2.cell? ⟨V1.heap.size, 5, none⟩ = some (.int .u32 r.rg) := by rw [q1]; rfl
        have a6 : YV2.cell? ⟨V1.heap.size, 6, none⟩ = some (.int .i64 r.rd) := by rw [q1]; rfl
        have a7 : YV2.cell? ⟨V1.heap.size, 7, none⟩ = some (.int .i64 r.ar) := by rw [q1]; rfl
        have a8 : YV2.cell? ⟨V1.heap.size, 8, none⟩ = some (.int .i64 r.vn) := by rw [q1]; rfl
        have a9 : YV2.cell? ⟨V1.heap.size, 9, none⟩ = some (.int .u32 r.vs) := by rw [q1]; rfl
        have a10 : YV2.cell? ⟨V1.heap.size, 10, none⟩ = some (.int .u32 r.vg) := by rw [q1]; rfl
        have b0 : YV2.cell? ⟨X20.heap.size, 0, none⟩ = some (.int .u32 r.ms) := by rw [q2]; rfl
        have b1 : YV2.cell? ⟨X20.heap.size, 1, none⟩ = some (.int .u32 r.mg) := by rw [q2]; rfl
        have b2 : YV2.cell? ⟨X20.heap.size, 2, none⟩ = some (.int .u32 r.ws) := by rw [q2]; rfl
        have b3 : YV2.cell? ⟨X20.heap.size, 3, none⟩ = some (.int .u32 r.wg) := by rw [q2]; rfl
        have b4 : YV2.cell? ⟨X20.heap.size, 4, none⟩ = some (.int .u32 r.rs) := by rw [q2]; rfl
        have b5 : YV2.cell? ⟨X20.heap.size, 5, none⟩ = some (.int .u32 r.rg) := by rw [q2]; rfl
        have b6 : YV2.cell? ⟨X20.heap.size, 6, none⟩ = some (.int .i64 r.rd) := by rw [q2]; rfl
        have b7 : YV2.cell? ⟨X20.heap.size, 7, none⟩ = some (.int .i64 r.ar) := by rw [q2]; rfl
        have b8 : YV2.cell? ⟨X20.heap.size, 8, none⟩ = some (.int .i64 r.vn) := by rw [q2]; rfl
        have b9 : YV2.cell? ⟨X20.heap.size, 9, none⟩ = some (.int .u32 r.vs) := by rw [q2]; rfl
        have b10 : YV2.cell? ⟨X20.heap.size, 10, none⟩ = some (.int .u32 r.vg) := by rw [q2]; rfl
        clear q1 q2 nYV2 cY zk
        cases q
        · have e1 : ecB false 111 = 111 := rfl
          go_wp2_with fail
          go_ret
          exact ⟨rfl, _, _, TWf.out⟩
        · have e1 : ecB true 111 = 0 := rfl
          go_wp2_with fail
          go_ret
          exact ⟨rfl, _, _, TWf.out⟩
    · go_simp
      refine genK (R := fun W => Ch (fun _ => False) V2 W ∧ W.heap[V2.heap.size]? = some (.cells #[.int .u32 0, .int .u32 0, .int .u32 0, .int .u32 0, .int .u32 0, .int .u32 0, .int .i64 0, .int .i64 0, .int .i64 0, .int .u32 0, .int .u32 0] 57 (0, 0))) ⟨zk.trans (Ch.alloc _ _) (fun _ _ h => h), heap_new _ _⟩ ?_
      rintro X20 ⟨cz, nX⟩
      clear zk
      refine hK.out _ _ ?_ (fun zk => ?_)
      · exact cz
      clear hK K
      try go_frame
      refine Go.Proofs.Ythnnpipekeanoaa.rd 6 gb6 rfl (by kernel_rfl) fun K hK => ?_
      go_simp
      refine ((HM.out _ (HV2.out.1.quiet fc zk))).mono ?_
      rintro e X21 ⟨rfl, hb⟩
      have hc := Ch.of_below (Q := fun _ => False) hb
      have nX := hc.box nX (fun h => h)
      have cz := zk.trans hc (fun _ _ h => h)
      clear hb hc zk
      go_wp2_with fail
      refine hK.out _ _ ?_ (fun zk => ?_)
      · exact cz
      clear hK K
      try go_frame
      refine Go.Proofs.Ythnnpipekeanoaa.rd 7 gb7 rfl (by kernel_rfl) fun K hK => ?_
      go_simp
      refine ((HF2.out _ (HV2.out.1.quiet fc zk))).mono ?_
      rintro e X22 ⟨rfl, hb⟩
      have hc := Ch.of_below (Q := fun _ => False) hb
      have nX := hc.box nX (fun h => h)
      have cz := zk.trans hc (fun _ _ h => h)
      clear hb hc zk
      go_wp2_with fail
      refine hK.out _ _ ?_ (fun zk => ?_)
      · exact cz
      clear hK K
      try go_frame
      apply tk 8 gb8 rfl (by kernel_rfl) (fun _ _ _ h => h) zk
      · intro wq zq
        go_simp
        try rfl
      go_frame
      apply tk 9 gb9 rfl (by kernel_rfl) (fun _ _ _ h => h) zk
      · intro wq zq
        go_simp
        try rfl
      go_frame
      apply tk 10 gb10 rfl (by kernel_rfl) (fun _ _ _ h => h) zk
      · intro wq zq
        go_simp
        try rfl
      go_frame
      refine Go.Proofs.Ythnnpipekeanoaa.rd 12 gb12 rfl (by kernel_rfl) fun K hK => ?_
      refine step_store11 (b := V2.heap.size) (r := r) rfl _ _ rfl rfl rfl nX ?_
      refine genK (R := fun W => Ch (fun _ => False) V2 W ∧ W.heap[V2.heap.size]? = some (.cells #[.int .u32 r.ms, .int .u32 r.mg, .int .u32 r.ws, .int .u32 r.wg, .int .u32 r.rs, .int .u32 r.rg, .int .i64 r.rd, .int .i64 r.ar, .int .i64 r.vn, .int .u32 r.vs, .int .u32 r.vg] 57 (0, 0))) ⟨zk.trans (wrsA _ _ _) (fun y hy (e : y = V2.heap.size) => by subst e; omega), set11 nX r⟩ ?_
      rintro YV2 ⟨cY, nYV2⟩
      clear zk
      refine hK.out _ _ ?_ (fun zk => ?_)
      · exact cY
      clear hK K
      try go_frame
      apply tk 13 gb13 rfl (by kernel_rfl) (fun _ _ _ h => h) zk
      · intro wq zq
        go_simp
        try rfl
      go_frame
      refine wpAnyH_done (by kernel_rfl) ?_ _
      have TWf := hide (HV2.out.1.quiet fc cY)
      have q1 := Lib.cell_of_heap (cY.box HV2.out.2.2 (fun h => h))
      have q2 := Lib.cell_of_heap nYV2
      have a0 : YV2.cell? ⟨V1.heap.size, 0, none⟩ = some (.int .u32 r.ms) := by rw [q1]; rfl
      have a1 : YV2.cell? ⟨V1.heap.size, 1, none⟩ = some (.int .u32 r.mg) := by rw [q1]; rfl
      have a2 : YV2.cell? ⟨V1.heap.size, 2, none⟩ = some (.int .u32 r.ws) := by rw [q1]; rfl
      have a3 : YV2.cell? ⟨V1.heap.size, 3, none⟩ = some (.int .u32 r.wg) := by rw [q1]; rfl
      have a4 : YV2.cell? ⟨V1.heap.size, 4, none⟩ = some (.int .u32 r.rs) := by rw [q1]; rfl
      have a5 : YV2.cell? ⟨V1.heap.size, 5, none⟩ = some (.int .u32 r.rg) := by rw [q1]; rfl
      have a6 : YV2.cell? ⟨V1.heap.size, 6, none⟩ = some (.int .i64 r.rd) := by rw [q1]; rfl
      have a7 : YV2.cell? ⟨V1.heap.size, 7, none⟩ = some (.int .i64 r.ar) := by rw [q1]; rfl
      have a8 : YV2.cell? ⟨V1.heap.size, 8, none⟩ = some (.int .i64 r.vn) := by rw [q1]; rfl
      have a9 : YV2.cell? ⟨V1.heap.size, 9, none⟩ = some (.int .u32 r.vs) := by rw [q1]; rfl
      have a10 : YV2.cell? ⟨V1.heap.size, 10, none⟩ = some (.int .u32 r.vg) := by rw [q1]; rfl
      have b0 : YV2.cell? ⟨V2.heap.size, 0, none⟩ = some (.int .u32 r.ms) := by rw [q2]; rfl
      have b1 : YV2.cell? ⟨V2.heap.size, 1, none⟩ = some (.int .u32 r.mg) := by rw [q2]; rfl
      have b2 : YV2.cell? ⟨V2.heap.size, 2, none⟩ = some (.int .u32 r.ws) := by rw [q2]; rfl
      have b3 : YV2.cell? ⟨V2.heap.size, 3, none⟩ = some (.int .u32 r.wg) := by rw [q2]; rfl
      have b4 : YV2.cell? ⟨V2.heap.size, 4, none⟩ = some (.int .u32 r.rs) := by rw [q2]; rfl
      have b5 : YV2.cell? ⟨V2.heap.size, 5, none⟩ = some (.int .u32 r.rg) := by rw [q2]; rfl
      have b6 : YV2.cell? ⟨V2.heap.size, 6, none⟩ = some (.int .i64 r.rd) := by rw [q2]; rfl
      have b7 : YV2.cell? ⟨V2.heap.size, 7, none⟩ = some (.int .i64 r.ar) := by rw [q2]; rfl
      have b8 : YV2.cell? ⟨V2.heap.size, 8, none⟩ = some (.int .i64 r.vn) := by rw [q2]; rfl
      have b9 : YV2.cell? ⟨V2.heap.size, 9, none⟩ = some (.int .u32 r.vs) := by rw [q2]; rfl
      have b10 : YV2.cell? ⟨V2.heap.size, 10, none⟩ = some (.int .u32 r.vg) := by rw [q2]; rfl
      clear q1 q2 nYV2 cY zk
      cases q
      · have e1 : ecB false 111 = 111 := rfl
        go_wp2_with fail
        go_ret
        exact ⟨rfl, _, _, TWf.out⟩
      · have e1 : ecB true 111 = 0 := rfl
        go_wp2_with fail
        go_ret
        exact ⟨rfl, _, _, TWf.out⟩

end Go.Proofs.Ythnnpipekeanoaa
