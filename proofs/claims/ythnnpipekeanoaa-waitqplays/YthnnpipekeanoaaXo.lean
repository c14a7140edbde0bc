/- Layer 11: the law's step: First. -/
import Derived.Test.YthnnpipekeanoaaXn
namespace Go.Proofs.Ythnnpipekeanoaa
open Go.RowKit

variable {wB : World} {PT : World → Nat → (Nat → Prop) → Nat → List Wt → Prop} {C : Nat → Nat} {w w' : World} {B T p b : Nat} {F : Nat → Prop} {l : List Wt} {hs : List (Int × Int)} {av ov tv lv wv : Value} {ls ws : List Value} {rs : List (List Rc)} {n : Nat}
abbrev fa0 : Oper := { dst := some 168, op := Op.move (Operand.tmp 0), type := 24, pos := "law.go:115", after := #[], guard := none }
abbrev fa1 : Oper := { dst := some 169, op := Op.nilCheck (Operand.tmp 168), type := 0, pos := "law.go:115", after := #[{ on := 0, ground := Ground.data }], guard := none }
abbrev fa2 : Oper := { dst := some 170, op := Op.fieldAddr 37 (Operand.tmp 169) 0, type := 0, pos := "law.go:115", after := #[{ on := 1, ground := Ground.data }], guard := none }
abbrev fa3 : Oper := { dst := some 171, op := Op.load 25 (Operand.tmp 170), type := 25, pos := "law.go:115", after := #[{ on := 2, ground := Ground.data }], guard := none }
abbrev fa4 : Oper := { dst := some 172, op := Op.fieldAddr 48 (Operand.tmp 3) 3, type := 0, pos := "law.go:115", after := #[], guard := none }
abbrev fa5 : Oper := { dst := some 173, op := Op.load 44 (Operand.tmp 172), type := 44, pos := "law.go:115", after := #[{ on := 4, ground := Ground.data }], guard := none }
abbrev fa6 : Oper := { dst := some 174, op := Op.call { callee := Callee.value (Operand.func 22), args := #[Operand.tmp 171, Operand.tmp 173], argTypes := #[25, 44] }, type := 66, pos := "law.go:115", after := #[{ on := 3, ground := Ground.data }, { on := 5, ground := Ground.data }], guard := none }
abbrev fa7 : Oper := { dst := some 167, op := Op.move (Operand.tmp 174), type := 66, pos := "law.go:115", after := #[{ on := 6, ground := Ground.data }], guard := none }
abbrev fa8 : Oper := { dst := some 175, op := Op.extract (Operand.tmp 167) 0, type := 57, pos := "law.go:115", after := #[{ on := 7, ground := Ground.data }], guard := none }
abbrev fa9 : Oper := { dst := some 176, op := Op.extract (Operand.tmp 167) 1, type := 4, pos := "law.go:115", after := #[{ on := 7, ground := Ground.data }, { on := 11, ground := Ground.gcOnly Departure.lateStores }], guard := none }
abbrev fa10 : Oper := { dst := some 17, op := Op.alloc 57, type := 0, pos := "law.go:115", after := #[], guard := none }
abbrev fa11 : Oper := { dst := none, op := Op.store 57 (Operand.tmp 17) (Operand.tmp 175), type := 0, pos := "law.go:115", after := #[{ on := 10, ground := Ground.data }, { on := 8, ground := Ground.data }, { on := 6, ground := Ground.chain }, { on := 0, ground := Ground.phase }, { on := 1, ground := Ground.phase }, { on := 2, ground := Ground.phase }, { on := 3, ground := Ground.phase }, { on := 4, ground := Ground.phase }, { on := 5, ground := Ground.phase }, { on := 6, ground := Ground.phase }, { on := 7, ground := Ground.phase }, { on := 8, ground := Ground.phase }, { on := 9, ground := Ground.textOnly Departure.lateStores }, { on := 10, ground := Ground.phase }], guard := none }
abbrev fa12 : Oper := { dst := some 18, op := Op.assign (Operand.tmp 176), type := 4, pos := "law.go:115", after := #[{ on := 9, ground := Ground.data }, { on := 11, ground := Ground.chain }, { on := 0, ground := Ground.phase }, { on := 1, ground := Ground.phase }, { on := 2, ground := Ground.phase }, { on := 3, ground := Ground.phase }, { on := 4, ground := Ground.phase }, { on := 5, ground := Ground.phase }, { on := 6, ground := Ground.phase }, { on := 7, ground := Ground.phase }, { on := 8, ground := Ground.phase }, { on := 9, ground := Ground.phase }, { on := 10, ground := Ground.phase }, { on := 11, ground := Ground.phase }], guard := none }
abbrev fb0 : Oper := { dst := some 178, op := Op.move (Operand.tmp 0), type := 24, pos := "law.go:116", after := #[], guard := none }
abbrev fb1 : Oper := { dst := some 179, op := Op.nilCheck (Operand.tmp 178), type := 0, pos := "law.go:116", after := #[{ on := 0, ground := Ground.data }], guard := none }
abbrev fb2 : Oper := { dst := some 180, op := Op.fieldAddr 37 (Operand.tmp 179) 1, type := 0, pos := "law.go:116", after := #[{ on := 1, ground := Ground.data }], guard := none }
abbrev fb3 : Oper := { dst := some 181, op := Op.load 27 (Operand.tmp 180), type := 27, pos := "law.go:116", after := #[{ on := 2, ground := Ground.data }], guard := none }
abbrev fb4 : Oper := { dst := some 182, op := Op.fieldAddr 48 (Operand.tmp 3) 3, type := 0, pos := "law.go:116", after := #[], guard := none }
abbrev fb5 : Oper := { dst := some 183, op := Op.load 44 (Operand.tmp 182), type := 44, pos := "law.go:116", after := #[{ on := 4, ground := Ground.data }], guard := none }
abbrev fb6 : Oper := { dst := some 184, op := Op.call { callee := Callee.value (Operand.func 28), args := #[Operand.tmp 181, Operand.tmp 183], argTypes := #[27, 44] }, type := 66, pos := "law.go:116", after := #[{ on := 3, ground := Ground.data }, { on := 5, ground := Ground.data }], guard := none }
abbrev fb7 : Oper := { dst := some 177, op := Op.move (Operand.tmp 184), type := 66, pos := "law.go:116", after := #[{ on := 6, ground := Ground.data }], guard := none }
abbrev fb8 : Oper := { dst := some 185, op := Op.extract (Operand.tmp 177) 0, type := 57, pos := "law.go:116", after := #[{ on := 7, ground := Ground.data }], guard := none }
abbrev fb9 : Oper := { dst := some 186, op := Op.extract (Operand.tmp 177) 1, type := 4, pos := "law.go:116", after := #[{ on := 7, ground := Ground.data }, { on := 11, ground := Ground.gcOnly Departure.lateStores }], guard := none }
abbrev fb10 : Oper := { dst := some 19, op := Op.alloc 57, type := 0, pos := "law.go:116", after := #[], guard := none }
abbrev fb11 : Oper := { dst := none, op := Op.store 57 (Operand.tmp 19) (Operand.tmp 185), type := 0, pos := "law.go:116", after := #[{ on := 10, ground := Ground.data }, { on := 8, ground := Ground.data }, { on := 6, ground := Ground.chain }, { on := 0, ground := Ground.phase }, { on := 1, ground := Ground.phase }, { on := 2, ground := Ground.phase }, { on := 3, ground := Ground.phase }, { on := 4, ground := Ground.phase }, { on := 5, ground := Ground.phase }, { on := 6, ground := Ground.phase }, { on := 7, ground := Ground.phase }, { on := 8, ground := Ground.phase }, { on := 9, ground := Ground.textOnly Departure.lateStores }, { on := 10, ground := Ground.phase }], guard := none }
abbrev fb12 : Oper := { dst := some 20, op := Op.assign (Operand.tmp 186), type := 4, pos := "law.go:116", after := #[{ on := 9, ground := Ground.data }, { on := 11, ground := Ground.chain }, { on := 0, ground := Ground.phase }, { on := 1, ground := Ground.phase }, { on := 2, ground := Ground.phase }, { on := 3, ground := Ground.phase }, { on := 4, ground := Ground.phase }, { on := 5, ground := Ground.phase }, { on := 6, ground := Ground.phase }, { on := 7, ground := Ground.phase }, { on := 8, ground := Ground.phase }, { on := 9, ground := Ground.phase }, { on := 10, ground := Ground.phase }, { on := 11, ground := Ground.phase }], guard := none }

set_option maxRecDepth 100000 in
set_option maxHeartbeats 16000000 in
theorem step_first (fc : FaceW PT) (h : Tw wB PT C w B T p b F l l hs av ov tv lv wv ls ws rs n) (hl : l.length ≤ 100000) (o : Oq) (ho : o.Fit) (hk : o.k = 5) :
    Calls Try.prog 8 #[.pointer (some ⟨T, 0, none⟩), opV o] w fun e w' => e = .returned (.bool true) ∧ ∃ C' F', Tw wB PT C' w' B T p b F' l l hs av ov tv lv wv ls ws rs n := by
  obtain ⟨V, hV⟩ : ∃ V, w.alloc (.cells (opF o).toArray 48) = V := ⟨_, rfl⟩
  have c1 : Ch (fun _ => False) w V := by rw [← hV]; exact Ch.alloc _ _
  have nA : V.heap[w.heap.size]? = some (.cells (opF o).toArray 48 (0, 0)) := by rw [← hV]; exact heap_new _ _
  have HV0 := hide (show Tw wB PT C V B T p b F l l hs av ov tv lv wv ls ws rs n ∧ V.heap[w.heap.size]? = some (.cells (opF o).toArray 48 (0, 0)) from ⟨h.quiet fc c1, nA⟩)
  have yk : V.cell? ⟨w.heap.size, 0, none⟩ = some (.int .i64 5) := by simp [Lib.cell_of_heap nA, opF, hk]
  obtain ⟨r, hr⟩ : ∃ r, (sel (inRow o.rs o.rg o.rd) l).headD zRc = r := ⟨_, rfl⟩
  obtain ⟨q, hq⟩ : ∃ q, (!(sel (inRow o.rs o.rg o.rd) l).isEmpty) = q := ⟨_, rfl⟩
  have HF1 := hide (fun wq (hq' : Tw wB PT C wq B T p b F l l hs av ov tv lv wv ls ws rs n) => show Calls Try.prog 22 #[.pointer (some ⟨p, 0, none⟩), rvW o.rs o.rg o.rd] wq fun e w' => e = .returned (.tuple #[rcV r, .bool q]) ∧ Below wq.heap.size wq w' from by
    have := fc.first o.rs o.rg o.rd ho.rs ho.rg ho.rd hq'.pt hl
    rwa [hr, hq] at this)
  have HF2 := hide (fun wq (hq' : Tw wB PT C wq B T p b F l l hs av ov tv lv wv ls ws rs n) => show Calls Try.prog 28 #[.pointer (some ⟨b, 0, none⟩), rvW o.rs o.rg o.rd] wq fun e w' => e = .returned (.tuple #[rcV r, .bool q]) ∧ Below wq.heap.size wq w' from by
    have := rfirW hq'.db hl o.rs o.rg o.rd
    rwa [hr, hq] at this)
  clear hr hq
  have EV := hide hV
  clear c1 nA h hV
  dsimp only [opF] at EV
  rw [hk] at EV
  go_enter Try.func8, Try.ntmps8
  go_wp2_with fail
  rw [EV.out]
  clear yk EV
  refine wp_reg (fun _ => False) (R := fun W => Tw wB PT C W B T p b F l l hs av ov tv lv wv ls ws rs n ∧ W.heap[w.heap.size]? = some (.cells (opF o).toArray 48 (0, 0))) (by kernel_rfl) ⟨HV0.out.1.quiet fc (Ch.drew _), (Ch.drew (Q := fun _ => False) _).box HV0.out.2 (fun h => h)⟩ ?_
  rintro V1 v zk
  have HV1 := hide v
  clear v
  have HC := hide (fun wq (zq : Ch (fun _ => False) V1 wq) => step_reads (wq := wq) (Q := fun _ => False) (o := o) HV1.out.1.hT HV1.out.2 zq (fun h => h) (fun h => h))
  have HO := hide (fun wq (zq : Ch (fun _ => False) V1 wq) => op_reads (wq := wq) (Q := fun _ => False) (o := o) hk HV1.out.2 zq (fun h => h))
  apply tk 0 fa0 rfl (by kernel_rfl) (fun _ _ _ h => h) zk
  · intro wq zq
    go_simp
    try rfl
  go_frame
  apply tk 1 fa1 rfl (by kernel_rfl) (fun _ _ _ h => h) zk
  · intro wq zq
    go_simp
    try rfl
  go_frame
  apply tk 2 fa2 rfl (by kernel_rfl) (fun _ _ _ h => h) zk
  · intro wq zq
    go_simp
    try rfl
  go_frame
  apply tk 3 fa3 rfl (by kernel_rfl) (fun _ _ _ h => h) zk
  · intro wq zq
    have s1 := (HC.out _ zq).1
    go_simp
    try rfl
  go_frame
  apply tk 4 fa4 rfl (by kernel_rfl) (fun _ _ _ h => h) zk
  · intro wq zq
    go_simp
    try rfl
  go_frame
  apply tk 5 fa5 rfl (by kernel_rfl) (fun _ _ _ h => h) zk
  · intro wq zq
    obtain ⟨s1, s2, s3, s4, s5, s6, s7, s8, s9, s10, s11, s12, s13, s14⟩ := HO.out _ zq
    go_simp
    try rfl
  go_frame
  refine wpAnyH_ready (rs := [6, 10]) (by kernel_rfl) (by simp) ?_
  refine AllReadyH.cons (o := fa6) rfl (fun K hK => ?_) (AllReadyH.cons (o := fa10) rfl (fun K hK => ?_) AllReadyH.nil)
  · go_simp
    refine ((HF1.out _ (HV1.out.1.quiet fc zk))).mono ?_
    rintro e X1 ⟨rfl, hb⟩
    have hc := Ch.of_below (Q := fun _ => False) hb
    have cz := zk.trans hc (fun _ _ h => h)
    clear hb hc zk
    go_wp2_with fail
    refine hK.out _ _ ?_ (fun zk => ?_)
    · exact cz
    clear hK K
    try go_frame
    apply tk 7 fa7 rfl (by kernel_rfl) (fun _ _ _ h => h) zk
    · intro wq zq
      go_simp
      try rfl
    go_frame
    apply tk 8 fa8 rfl (by kernel_rfl) (fun _ _ _ h => h) zk
    · intro wq zq
      go_simp
      try rfl
    go_frame
    apply tk 9 fa9 rfl (by kernel_rfl) (fun _ _ _ h => h) zk
    · intro wq zq
      go_simp
      try rfl
    go_frame
    refine Go.Proofs.Ythnnpipekeanoaa.rd 10 fa10 rfl (by kernel_rfl) fun K hK => ?_
    have cB := zk
    go_simp
    refine genK (R := fun W => Ch (fun _ => False) V1 W ∧ W.heap[X1.heap.size]? = some (.cells #[.int .u32 0, .int .u32 0, .int .u32 0, .int .u32 0, .int .u32 0, .int .u32 0, .int .i64 0, .int .i64 0, .int .i64 0, .int .u32 0, .int .u32 0] 57 (0, 0))) ⟨zk.trans (Ch.alloc _ _) (fun _ _ h => h), heap_new _ _⟩ ?_
    rintro X2 ⟨cz, nX⟩
    clear zk
    refine hK.out _ _ ?_ (fun zk => ?_)
    · exact cz
    clear hK K
    try go_frame
    refine Go.Proofs.Ythnnpipekeanoaa.rd 11 fa11 rfl (by kernel_rfl) fun K hK => ?_
    refine step_store11 (b := X1.heap.size) (r := r) rfl _ _ rfl rfl rfl nX ?_
    refine genK (R := fun W => Ch (fun _ => False) V1 W ∧ W.heap[X1.heap.size]? = some (.cells #[.int .u32 r.ms, .int .u32 r.mg, .int .u32 r.ws, .int .u32 r.wg, .int .u32 r.rs, .int .u32 r.rg, .int .i64 r.rd, .int .i64 r.ar, .int .i64 r.vn, .int .u32 r.vs, .int .u32 r.vg] 57 (0, 0))) ⟨zk.trans (wrsA _ _ _) (fun y hy (e : y = X1.heap.size) => by subst e; have := (show Ch (fun _ => False) V1 X1 from cB).size; omega), set11 nX r⟩ ?_
    rintro YV1 ⟨cY, nYV1⟩
    clear zk
    refine hK.out _ _ ?_ (fun zk => ?_)
    · exact cY
    clear hK K
    try go_frame
    apply tk 12 fa12 rfl (by kernel_rfl) (fun _ _ _ h => h) zk
    · intro wq zq
      go_simp
      try rfl
    go_frame
    refine wpAnyH_done (by kernel_rfl) ?_ _
    have HY := hide (show Tw wB PT C YV1 B T p b F l l hs av ov tv lv wv ls ws rs n ∧ YV1.heap[w.heap.size]? = some (.cells (opF o).toArray 48 (0, 0)) ∧ YV1.heap[X1.heap.size]? = some (.cells #[.int .u32 r.ms, .int .u32 r.mg, .int .u32 r.ws, .int .u32 r.wg, .int .u32 r.rs, .int .u32 r.rg, .int .i64 r.rd, .int .i64 r.ar, .int .i64 r.vn, .int .u32 r.vs, .int .u32 r.vg] 57 (0, 0)) from ⟨HV1.out.1.quiet fc cY, cY.box HV1.out.2 (fun h => h), nYV1⟩)
    clear cY nYV1 zk
    go_wp2_with fail
    refine wp_reg (fun _ => False) (R := fun W => Tw wB PT C W B T p b F l l hs av ov tv lv wv ls ws rs n ∧ W.heap[w.heap.size]? = some (.cells (opF o).toArray 48 (0, 0)) ∧ W.heap[X1.heap.size]? = some (.cells #[.int .u32 r.ms, .int .u32 r.mg, .int .u32 r.ws, .int .u32 r.wg, .int .u32 r.rs, .int .u32 r.rg, .int .i64 r.rd, .int .i64 r.ar, .int .i64 r.vn, .int .u32 r.vs, .int .u32 r.vg] 57 (0, 0))) (by kernel_rfl) ⟨HY.out.1.quiet fc (Ch.drew _), (Ch.drew (Q := fun _ => False) _).box HY.out.2.1 (fun h => h), (Ch.drew (Q := fun _ => False) _).box HY.out.2.2 (fun h => h)⟩ ?_
    rintro V2 v zk
    have HV2 := hide v
    clear v
    have HC := hide (fun wq (zq : Ch (fun _ => False) V2 wq) => step_reads (wq := wq) (Q := fun _ => False) (o := o) HV2.out.1.hT HV2.out.2.1 zq (fun h => h) (fun h => h))
    have HO := hide (fun wq (zq : Ch (fun _ => False) V2 wq) => op_reads (wq := wq) (Q := fun _ => False) (o := o) hk HV2.out.2.1 zq (fun h => h))
    apply tk 0 fb0 rfl (by kernel_rfl) (fun _ _ _ h => h) zk
    · intro wq zq
      go_simp
      try rfl
    go_frame
    apply tk 1 fb1 rfl (by kernel_rfl) (fun _ _ _ h => h) zk
    · intro wq zq
      go_simp
      try rfl
    go_frame
    apply tk 2 fb2 rfl (by kernel_rfl) (fun _ _ _ h => h) zk
    · intro wq zq
      go_simp
      try rfl
    go_frame
    apply tk 3 fb3 rfl (by kernel_rfl) (fun _ _ _ h => h) zk
    · intro wq zq
      have s1 := (HC.out _ zq).2.1
      go_simp
      try rfl
    go_frame
    apply tk 4 fb4 rfl (by kernel_rfl) (fun _ _ _ h => h) zk
    · intro wq zq
      go_simp
      try rfl
    go_frame
    apply tk 5 fb5 rfl (by kernel_rfl) (fun _ _ _ h => h) zk
    · intro wq zq
      obtain ⟨s1, s2, s3, s4, s5, s6, s7, s8, s9, s10, s11, s12, s13, s14⟩ := HO.out _ zq
      go_simp
      try rfl
    go_frame
    refine wpAnyH_ready (rs := [6, 10]) (by kernel_rfl) (by simp) ?_
    refine AllReadyH.cons (o := fb6) rfl (fun K hK => ?_) (AllReadyH.cons (o := fb10) rfl (fun K hK => ?_) AllReadyH.nil)
    · go_simp
      refine ((HF2.out _ (HV2.out.1.quiet fc zk))).mono ?_
      rintro e X20 ⟨rfl, hb⟩
      have hc := Ch.of_below (Q := fun _ => False) hb
      have cz := zk.trans hc (fun _ _ h => h)
      clear hb hc zk
      go_wp2_with fail
      refine hK.out _ _ ?_ (fun zk => ?_)
      · exact cz
      clear hK K
      try go_frame
      apply tk 7 fb7 rfl (by kernel_rfl) (fun _ _ _ h => h) zk
      · intro wq zq
        go_simp
        try rfl
      go_frame
      apply tk 8 fb8 rfl (by kernel_rfl) (fun _ _ _ h => h) zk
      · intro wq zq
        go_simp
        try rfl
      go_frame
      apply tk 9 fb9 rfl (by kernel_rfl) (fun _ _ _ h => h) zk
      · intro wq zq
        go_simp
        try rfl
      go_frame
      refine Go.Proofs.Ythnnpipekeanoaa.rd 10 fb10 rfl (by kernel_rfl) fun K hK => ?_
      have cB := zk
      go_simp
      refine genK (R := fun W => Ch (fun _ => False) V2 W ∧ W.heap[X20.heap.size]? = some (.cells #[.int .u32 0, .int .u32 0, .int .u32 0, .int .u32 0, .int .u32 0, .int .u32 0, .int .i64 0, .int .i64 0, .int .i64 0, .int .u32 0, .int .u32 0] 57 (0, 0))) ⟨zk.trans (Ch.alloc _ _) (fun _ _ h => h), heap_new _ _⟩ ?_
      rintro X21 ⟨cz, nX⟩
      clear zk
      refine hK.out _ _ ?_ (fun zk => ?_)
      · exact cz
      clear hK K
      try go_frame
      refine Go.Proofs.Ythnnpipekeanoaa.rd 11 fb11 rfl (by kernel_rfl) fun K hK => ?_
      refine step_store11 (b := X20.heap.size) (r := r) rfl _ _ rfl rfl rfl nX ?_
      refine genK (R := fun W => Ch (fun _ => False) V2 W ∧ W.heap[X20.heap.size]? = some (.cells #[.int .u32 r.ms, .int .u32 r.mg, .int .u32 r.ws, .int .u32 r.wg, .int .u32 r.rs, .int .u32 r.rg, .int .i64 r.rd, .int .i64 r.ar, .int .i64 r.vn, .int .u32 r.vs, .int .u32 r.vg] 57 (0, 0))) ⟨zk.trans (wrsA _ _ _) (fun y hy (e : y = X20.heap.size) => by subst e; have := (show Ch (fun _ => False) V2 X20 from cB).size; omega), set11 nX r⟩ ?_
      rintro YV2 ⟨cY, nYV2⟩
      clear zk
      refine hK.out _ _ ?_ (fun zk => ?_)
      · exact cY
      clear hK K
      try go_frame
      apply tk 12 fb12 rfl (by kernel_rfl) (fun _ _ _ h => h) zk
      · intro wq zq
        go_simp
        try rfl
      go_frame
      refine wpAnyH_done (by kernel_rfl) ?_ _
      have TWf := hide (HV2.out.1.quiet fc cY)
      have q1 := Lib.cell_of_heap (cY.box HV2.out.2.2 (fun h => h))
      have q2 := Lib.cell_of_heap nYV2
      have a0 : YV2.cell? ⟨X1.heap.size, 0, none⟩ = some (.int .u32 r.ms) := by rw [q1]; rfl
      have a1 : YV2.cell? ⟨X1.heap.size, 1, none⟩ = some (.int .u32 r.mg) := by rw [q1]; rfl
      have a2 : YV2.cell? ⟨X1.heap.size, 2, none⟩ = some (.int .u32 r.ws) := by rw [q1]; rfl
      have a3 : YV2.cell? ⟨X1.heap.size, 3, none⟩ = some (.int .u32 r.wg) := by rw [q1]; rfl
      have a4 : YV2.cell? ⟨X1.heap.size, 4, none⟩ = some (.int .u32 r.rs) := by rw [q1]; rfl
      have a5 : YV2.cell? ⟨X1.heap.size, 5, none⟩ = some (.int .u32 r.rg) := by rw [q1]; rfl
      have a6 : YV2.cell? ⟨X1.heap.size, 6, none⟩ = some (.int .i64 r.rd) := by rw [q1]; rfl
      have a7 : YV2.cell? ⟨X1.heap.size, 7, none⟩ = some (.int .i64 r.ar) := by rw [q1]; rfl
      have a8 : YV2.cell? ⟨X1.heap.size, 8, none⟩ = some (.int .i64 r.vn) := by rw [q1]; rfl
      have a9 : YV2.cell? ⟨X1.heap.size, 9, none⟩ = some (.int .u32 r.vs) := by rw [q1]; rfl
      have a10 : YV2.cell? ⟨X1.heap.size, 10, none⟩ = some (.int .u32 r.vg) := by rw [q1]; rfl
      have b0 : YV2.cell? ⟨X20.heap.size, 0, none⟩ = some (.int .u32 r.ms) := by rw [q2]; rfl
      have b1 : YV2.cell? ⟨X20.heap.size, 1, none⟩ = some (.int .u32 r.mg) := by rw [q2]; rfl
      have b2 : YV2.cell? ⟨X20.heap.size, 2, none⟩ = some (.int .u32 r.ws) := by rw [q2]; rfl
      have b3 : YV2.cell? ⟨X20.heap.size, 3, none⟩ = some (.int .u32 r.wg) := by rw [q2]; rfl
      have b4 : YV2.cell? ⟨X20.heap.size, 4, none⟩ = some (.int .u32 r.rs) := by rw [q2]; rfl
      have b5 : YV2.cell? ⟨X20.heap.size, 5, none⟩ = some (.int .u32 r.rg) := by rw [q2]; rfl
      have b6 : YV2.cell? ⟨X20.heap.size, 6, none⟩ = some (.int .i64 r.rd) := by rw [q2]; rfl
      have b7 : YV2.cell? ⟨X20.heap.size, 7, none⟩ = some (.int .i64 r.ar) := by rw [q2]; rfl
      have b8 : YV2.cell? ⟨X20.heap.size, 8, none⟩ = some (.int .i64 r.vn) := by rw [q2]; rfl
      have b9 : YV2.cell? ⟨X20.heap.size, 9, none⟩ = some (.int .u32 r.vs) := by rw [q2]; rfl
      have b10 : YV2.cell? ⟨X20.heap.size, 10, none⟩ = some (.int .u32 r.vg) := by rw [q2]; rfl
      clear q1 q2 nYV2 cY zk
      cases q
      · go_wp2_with fail
        go_ret
        exact ⟨rfl, _, _, TWf.out⟩
      · go_wp2_with fail
        go_ret
        exact ⟨rfl, _, _, TWf.out⟩
    · go_simp
      refine genK (R := fun W => Ch (fun _ => False) V2 W ∧ W.heap[V2.heap.size]? = some (.cells #[.int .u32 0, .int .u32 0, .int .u32 0, .int .u32 0, .int .u32 0, .int .u32 0, .int .i64 0, .int .i64 0, .int .i64 0, .int .u32 0, .int .u32 0] 57 (0, 0))) ⟨zk.trans (Ch.alloc _ _) (fun _ _ h => h), heap_new _ _⟩ ?_
      rintro X20 ⟨cz, nX⟩
      clear zk
      refine hK.out _ _ ?_ (fun zk => ?_)
      · exact cz
      clear hK K
      try go_frame
      refine Go.Proofs.Ythnnpipekeanoaa.rd 6 fb6 rfl (by kernel_rfl) fun K hK => ?_
      go_simp
      refine ((HF2.out _ (HV2.out.1.quiet fc zk))).mono ?_
      rintro e X21 ⟨rfl, hb⟩
      have hc := Ch.of_below (Q := fun _ => False) hb
      have nX := hc.box nX (fun h => h)
      have cz := zk.trans hc (fun _ _ h => h)
      clear hb hc zk
      go_wp2_with fail
      refine hK.out _ _ ?_ (fun zk => ?_)
      · exact cz
      clear hK K
      try go_frame
      apply tk 7 fb7 rfl (by kernel_rfl) (fun _ _ _ h => h) zk
      · intro wq zq
        go_simp
        try rfl
      go_frame
      apply tk 8 fb8 rfl (by kernel_rfl) (fun _ _ _ h => h) zk
      · intro wq zq
        go_simp
        try rfl
      go_frame
      apply tk 9 fb9 rfl (by kernel_rfl) (fun _ _ _ h => h) zk
      · intro wq zq
        go_simp
        try rfl
      go_frame
      refine Go.Proofs.Ythnnpipekeanoaa.rd 11 fb11 rfl (by kernel_rfl) fun K hK => ?_
      refine step_store11 (b := V2.heap.size) (r := r) rfl _ _ rfl rfl rfl nX ?_
      refine genK (R := fun W => Ch (fun _ => False) V2 W ∧ W.heap[V2.heap.size]? = some (.cells #[.int .u32 r.ms, .int .u32 r.mg, .int .u32 r.ws, .int .u32 r.wg, .int .u32 r.rs, .int .u32 r.rg, .int .i64 r.rd, .int .i64 r.ar, .int .i64 r.vn, .int .u32 r.vs, .int .u32 r.vg] 57 (0, 0))) ⟨zk.trans (wrsA _ _ _) (fun y hy (e : y = V2.heap.size) => by subst e; omega), set11 nX r⟩ ?_
      rintro YV2 ⟨cY, nYV2⟩
      clear zk
      refine hK.out _ _ ?_ (fun zk => ?_)
      · exact cY
      clear hK K
      try go_frame
      apply tk 12 fb12 rfl (by kernel_rfl) (fun _ _ _ h => h) zk
      · intro wq zq
        go_simp
        try rfl
      go_frame
      refine wpAnyH_done (by kernel_rfl) ?_ _
      have TWf := hide (HV2.out.1.quiet fc cY)
      have q1 := Lib.cell_of_heap (cY.box HV2.out.2.2 (fun h => h))
      have q2 := Lib.cell_of_heap nYV2
      have a0 : YV2.cell? ⟨X1.heap.size, 0, none⟩ = some (.int .u32 r.ms) := by rw [q1]; rfl
      have a1 : YV2.cell? ⟨X1.heap.size, 1, none⟩ = some (.int .u32 r.mg) := by rw [q1]; rfl
      have a2 : YV2.cell? ⟨X1.heap.size, 2, none⟩ = some (.int .u32 r.ws) := by rw [q1]; rfl
      have a3 : YV2.cell? ⟨X1.heap.size, 3, none⟩ = some (.int .u32 r.wg) := by rw [q1]; rfl
      have a4 : YV2.cell? ⟨X1.heap.size, 4, none⟩ = some (.int .u32 r.rs) := by rw [q1]; rfl
      have a5 : YV2.cell? ⟨X1.heap.size, 5, none⟩ = some (.int .u32 r.rg) := by rw [q1]; rfl
      have a6 : YV2.cell? ⟨X1.heap.size, 6, none⟩ = some (.int .i64 r.rd) := by rw [q1]; rfl
      have a7 : YV2.cell? ⟨X1.heap.size, 7, none⟩ = some (.int .i64 r.ar) := by rw [q1]; rfl
      have a8 : YV2.cell? ⟨X1.heap.size, 8, none⟩ = some (.int .i64 r.vn) := by rw [q1]; rfl
      have a9 : YV2.cell? ⟨X1.heap.size, 9, none⟩ = some (.int .u32 r.vs) := by rw [q1]; rfl
      have a10 : YV2.cell? ⟨X1.heap.size, 10, none⟩ = some (.int .u32 r.vg) := by rw [q1]; rfl
      have b0 : YV2.cell? ⟨V2.heap.size, 0, none⟩ = some (.int .u32 r.ms) := by rw [q2]; rfl
      have b1 : YV2.cell? ⟨V2.heap.size, 1, none⟩ = some (.int .u32 r.mg) := by rw [q2]; rfl
      have b2 : YV2.cell? ⟨V2.heap.size, 2, none⟩ = some (.int .u32 r.ws) := by rw [q2]; rfl
      have b3 : YV2.cell? ⟨V2.heap.size, 3, none⟩ = some (.int .u32 r.wg) := by rw [q2]; rfl
      have b4 : YV2.cell? ⟨V2.heap.size, 4, none⟩ = some (.int .u32 r.rs) := by rw [q2]; rfl
      have b5 : YV2.cell? ⟨V2.heap.size, 5, none⟩ = some (.int .u32 r.rg) := by rw [q2]; rfl
      have b6 : YV2.cell? ⟨V2.heap.size, 6, none⟩ = some (.int .i64 r.rd) := by rw [q2]; rfl
      have b7 : YV2.cell? ⟨V2.heap.size, 7, none⟩ = some (.int .i64 r.ar) := by rw [q2]; rfl
      have b8 : YV2.cell? ⟨V2.heap.size, 8, none⟩ = some (.int .i64 r.vn) := by rw [q2]; rfl
      have b9 : YV2.cell? ⟨V2.heap.size, 9, none⟩ = some (.int .u32 r.vs) := by rw [q2]; rfl
      have b10 : YV2.cell? ⟨V2.heap.size, 10, none⟩ = some (.int .u32 r.vg) := by rw [q2]; rfl
      clear q1 q2 nYV2 cY zk
      cases q
      · go_wp2_with fail
        go_ret
        exact ⟨rfl, _, _, TWf.out⟩
      · go_wp2_with fail
        go_ret
        exact ⟨rfl, _, _, TWf.out⟩
  · go_simp
    refine genK (R := fun W => Ch (fun _ => False) V1 W ∧ W.heap[V1.heap.size]? = some (.cells #[.int .u32 0, .int .u32 0, .int .u32 0, .int .u32 0, .int .u32 0, .int .u32 0, .int .i64 0, .int .i64 0, .int .i64 0, .int .u32 0, .int .u32 0] 57 (0, 0))) ⟨zk.trans (Ch.alloc _ _) (fun _ _ h => h), heap_new _ _⟩ ?_
    rintro X1 ⟨cz, nX⟩
    clear zk
    refine hK.out _ _ ?_ (fun zk => ?_)
    · exact cz
    clear hK K
    try go_frame
    refine Go.Proofs.Ythnnpipekeanoaa.rd 6 fa6 rfl (by kernel_rfl) fun K hK => ?_
    go_simp
    refine ((HF1.out _ (HV1.out.1.quiet fc zk))).mono ?_
    rintro e X2 ⟨rfl, hb⟩
    have hc := Ch.of_below (Q := fun _ => False) hb
    have nX := hc.box nX (fun h => h)
    have cz := zk.trans hc (fun _ _ h => h)
    clear hb hc zk
    go_wp2_with fail
    refine hK.out _ _ ?_ (fun zk => ?_)
    · exact cz
    clear hK K
    try go_frame
    apply tk 7 fa7 rfl (by kernel_rfl) (fun _ _ _ h => h) zk
    · intro wq zq
      go_simp
      try rfl
    go_frame
    apply tk 8 fa8 rfl (by kernel_rfl) (fun _ _ _ h => h) zk
    · intro wq zq
      go_simp
      try rfl
    go_frame
    apply tk 9 fa9 rfl (by kernel_rfl) (fun _ _ _ h => h) zk
    · intro wq zq
      go_simp
      try rfl
    go_frame
    refine Go.Proofs.Ythnnpipekeanoaa.rd 11 fa11 rfl (by kernel_rfl) fun K hK => ?_
    refine step_store11 (b := V1.heap.size) (r := r) rfl _ _ rfl rfl rfl nX ?_
    refine genK (R := fun W => Ch (fun _ => False) V1 W ∧ W.heap[V1.heap.size]? = some (.cells #[.int .u32 r.ms, .int .u32 r.mg, .int .u32 r.ws, .int .u32 r.wg, .int .u32 r.rs, .int .u32 r.rg, .int .i64 r.rd, .int .i64 r.ar, .int .i64 r.vn, .int .u32 r.vs, .int .u32 r.vg] 57 (0, 0))) ⟨zk.trans (wrsA _ _ _) (fun y hy (e : y = V1.heap.size) => by subst e; omega), set11 nX r⟩ ?_
    rintro YV1 ⟨cY, nYV1⟩
    clear zk
    refine hK.out _ _ ?_ (fun zk => ?_)
    · exact cY
    clear hK K
    try go_frame
    apply tk 12 fa12 rfl (by kernel_rfl) (fun _ _ _ h => h) zk
    · intro wq zq
      go_simp
      try rfl
    go_frame
    refine wpAnyH_done (by kernel_rfl) ?_ _
    have HY := hide (show Tw wB PT C YV1 B T p b F l l hs av ov tv lv wv ls ws rs n ∧ YV1.heap[w.heap.size]? = some (.cells (opF o).toArray 48 (0, 0)) ∧ YV1.heap[V1.heap.size]? = some (.cells #[.int .u32 r.ms, .int .u32 r.mg, .int .u32 r.ws, .int .u32 r.wg, .int .u32 r.rs, .int .u32 r.rg, .int .i64 r.rd, .int .i64 r.ar, .int .i64 r.vn, .int .u32 r.vs, .int .u32 r.vg] 57 (0, 0)) from ⟨HV1.out.1.quiet fc cY, cY.box HV1.out.2 (fun h => h), nYV1⟩)
    clear cY nYV1 zk
    go_wp2_with fail
    refine wp_reg (fun _ => False) (R := fun W => Tw wB PT C W B T p b F l l hs av ov tv lv wv ls ws rs n ∧ W.heap[w.heap.size]? = some (.cells (opF o).toArray 48 (0, 0)) ∧ W.heap[V1.heap.size]? = some (.cells #[.int .u32 r.ms, .int .u32 r.mg, .int .u32 r.ws, .int .u32 r.wg, .int .u32 r.rs, .int .u32 r.rg, .int .i64 r.rd, .int .i64 r.ar, .int .i64 r.vn, .int .u32 r.vs, .int .u32 r.vg] 57 (0, 0))) (by kernel_rfl) ⟨HY.out.1.quiet fc (Ch.drew _), (Ch.drew (Q := fun _ => False) _).box HY.out.2.1 (fun h => h), (Ch.drew (Q := fun _ => False) _).box HY.out.2.2 (fun h => h)⟩ ?_
    rintro V2 v zk
    have HV2 := hide v
    clear v
    have HC := hide (fun wq (zq : Ch (fun _ => False) V2 wq) => step_reads (wq := wq) (Q := fun _ => False) (o := o) HV2.out.1.hT HV2.out.2.1 zq (fun h => h) (fun h => h))
    have HO := hide (fun wq (zq : Ch (fun _ => False) V2 wq) => op_reads (wq := wq) (Q := fun _ => False) (o := o) hk HV2.out.2.1 zq (fun h => h))
    apply tk 0 fb0 rfl (by kernel_rfl) (fun _ _ _ h => h) zk
    · intro wq zq
      go_simp
      try rfl
    go_frame
    apply tk 1 fb1 rfl (by kernel_rfl) (fun _ _ _ h => h) zk
    · intro wq zq
      go_simp
      try rfl
    go_frame
    apply tk 2 fb2 rfl (by kernel_rfl) (fun _ _ _ h => h) zk
    · intro wq zq
      go_simp
      try rfl
    go_frame
    apply tk 3 fb3 rfl (by kernel_rfl) (fun _ _ _ h => h) zk
    · intro wq zq
      have s1 := (HC.out _ zq).2.1
      go_simp
      try rfl
    go_frame
    apply tk 4 fb4 rfl (by kernel_rfl) (fun _ _ _ h => h) zk
    · intro wq zq
      go_simp
      try rfl
    go_frame
    apply tk 5 fb5 rfl (by kernel_rfl) (fun _ _ _ h => h) zk
    · intro wq zq
      obtain ⟨s1, s2, s3, s4, s5, s6, s7, s8, s9, s10, s11, s12, s13, s14⟩ := HO.out _ zq
      go_simp
      try rfl
    go_frame
    refine wpAnyH_ready (rs := [6, 10]) (by kernel_rfl) (by simp) ?_
    refine AllReadyH.cons (o := fb6) rfl (fun K hK => ?_) (AllReadyH.cons (o := fb10) rfl (fun K hK => ?_) AllReadyH.nil)
    · go_simp
      refine ((HF2.out _ (HV2.out.1.quiet fc zk))).mono ?_
      rintro e X20 ⟨rfl, hb⟩
      have hc := Ch.of_below (Q := fun _ => False) hb
      have cz := zk.trans hc (fun _ _ h => h)
      clear hb hc zk
      go_wp2_with fail
      refine hK.out _ _ ?_ (fun zk => ?_)
      · exact cz
      clear hK K
      try go_frame
      apply tk 7 fb7 rfl (by kernel_rfl) (fun _ _ _ h => h) zk
      · intro wq zq
        go_simp
        try rfl
      go_frame
      apply tk 8 fb8 rfl (by kernel_rfl) (fun _ _ _ h => h) zk
      · intro wq zq
        go_simp
        try rfl
      go_frame
      apply tk 9 fb9 rfl (by kernel_rfl) (fun _ _ _ h => h) zk
      · intro wq zq
        go_simp
        try rfl
      go_frame
      refine Go.Proofs.Ythnnpipekeanoaa.rd 10 fb10 rfl (by kernel_rfl) fun K hK => ?_
      have cB := zk
      go_simp
      refine genK (R := fun W => Ch (fun _ => False) V2 W ∧ W.heap[X20.heap.size]? = some (.cells #[.int .u32 0, .int .u32 0, .int .u32 0, .int .u32 0, .int .u32 0, .int .u32 0, .int .i64 0, .int .i64 0, .int .i64 0, .int .u32 0, .int .u32 0] 57 (0, 0))) ⟨zk.trans (Ch.alloc _ _) (fun _ _ h => h), heap_new _ _⟩ ?_
      rintro X21 ⟨cz, nX⟩
      clear zk
      refine hK.out _ _ ?_ (fun zk => ?_)
      · exact cz
      clear hK K
      try go_frame
      refine Go.Proofs.Ythnnpipekeanoaa.rd 11 fb11 rfl (by kernel_rfl) fun K hK => ?_
      refine step_store11 (b := X20.heap.size) (r := r) rfl _ _ rfl rfl rfl nX ?_
      refine genK (R := fun W => Ch (fun _ => False) V2 W ∧ W.heap[X20.heap.size]? = some (.cells #[.int .u32 r.ms, .int .u32 r.mg, .int .u32 r.ws, .int .u32 r.wg, .int .u32 r.rs, .int .u32 r.rg, .int .i64 r.rd, .int .i64 r.ar, .int .i64 r.vn, .int .u32 r.vs, .int .u32 r.vg] 57 (0, 0))) ⟨zk.trans (wrsA _ _ _) (fun y hy (e : y = X20.heap.size) => by subst e; have := (show Ch (fun _ => False) V2 X20 from cB).size; omega), set11 nX r⟩ ?_
      rintro YV2 ⟨cY, nYV2⟩
      clear zk
      refine hK.out _ _ ?_ (fun zk => ?_)
      · exact cY
      clear hK K
      try go_frame
      apply tk 12 fb12 rfl (by kernel_rfl) (fun _ _ _ h => h) zk
      · intro wq zq
        go_simp
        try rfl
      go_frame
      refine wpAnyH_done (by kernel_rfl) ?_ _
      have TWf := hide (HV2.out.1.quiet fc cY)
      have q1 := Lib.cell_of_heap (cY.box HV2.out.2.2 (fun h => h))
      have q2 := Lib.cell_of_heap nYV2
      have a0 : YV2.cell? ⟨V1.heap.size, 0, none⟩ = some (.int .u32 r.ms) := by rw [q1]; rfl
      have a1 : YV2.cell? ⟨V1.heap.size, 1, none⟩ = some (.int .u32 r.mg) := by rw [q1]; rfl
      have a2 : YV2.cell? ⟨V1.heap.size, 2, none⟩ = some (.int .u32 r.ws) := by rw [q1]; rfl
      have a3 : YV2.cell? ⟨V1.heap.size, 3, none⟩ = some (.int .u32 r.wg) := by rw [q1]; rfl
      have a4 : YV2.cell? ⟨V1.heap.size, 4, none⟩ = some (.int .u32 r.rs) := by rw [q1]; rfl
      have a5 : YV2.cell? ⟨V1.heap.size, 5, none⟩ = some (.int .u32 r.rg) := by rw [q1]; rfl
      have a6 : YV2.cell? ⟨V1.heap.size, 6, none⟩ = some (.int .i64 r.rd) := by rw [q1]; rfl
      have a7 : YV2.cell? ⟨V1.heap.size, 7, none⟩ = some (.int .i64 r.ar) := by rw [q1]; rfl
      have a8 : YV2.cell? ⟨V1.heap.size, 8, none⟩ = some (.int .i64 r.vn) := by rw [q1]; rfl
      have a9 : YV2.cell? ⟨V1.heap.size, 9, none⟩ = some (.int .u32 r.vs) := by rw [q1]; rfl
      have a10 : YV2.cell? ⟨V1.heap.size, 10, none⟩ = some (.int .u32 r.vg) := by rw [q1]; rfl
      have b0 : YV2.cell? ⟨X20.heap.size, 0, none⟩ = some (.int .u32 r.ms) := by rw [q2]; rfl
      have b1 : YV2.cell? ⟨X20.heap.size, 1, none⟩ = some (.int .u32 r.mg) := by rw [q2]; rfl
      have b2 : YV2.cell? ⟨X20.heap.size, 2, none⟩ = some (.int .u32 r.ws) := by rw [q2]; rfl
      have b3 : YV2.cell? ⟨X20.heap.size, 3, none⟩ = some (.int .u32 r.wg) := by rw [q2]; rfl
      have b4 : YV2.cell? ⟨X20.heap.size, 4, none⟩ = some (.int .u32 r.rs) := by rw [q2]; rfl
      have b5 : YV2.cell? ⟨X20.heap.size, 5, none⟩ = some (.int .u32 r.rg) := by rw [q2]; rfl
      have b6 : YV2.cell? ⟨X20.heap.size, 6, none⟩ = some (.int .i64 r.rd) := by rw [q2]; rfl
      have b7 : YV2.cell? ⟨X20.heap.size, 7, none⟩ = some (.int .i64 r.ar) := by rw [q2]; rfl
      have b8 : YV2.cell? ⟨X20.heap.size, 8, none⟩ = some (.int .i64 r.vn) := by rw [q2]; rfl
      have b9 : YV2.cell? ⟨X20.heap.size, 9, none⟩ = some (.int .u32 r.vs) := by rw [q2]; rfl
      have b10 : YV2.cell? ⟨X20.heap.size, 10, none⟩ = some (.int .u32 r.vg) := by rw [q2]; rfl
      clear q1 q2 nYV2 cY zk
      cases q
      · go_wp2_with fail
        go_ret
        exact ⟨rfl, _, _, TWf.out⟩
      · go_wp2_with fail
        go_ret
        exact ⟨rfl, _, _, TWf.out⟩
    · go_simp
      refine genK (R := fun W => Ch (fun _ => False) V2 W ∧ W.heap[V2.heap.size]? = some (.cells #[.int .u32 0, .int .u32 0, .int .u32 0, .int .u32 0, .int .u32 0, .int .u32 0, .int .i64 0, .int .i64 0, .int .i64 0, .int .u32 0, .int .u32 0] 57 (0, 0))) ⟨zk.trans (Ch.alloc _ _) (fun _ _ h => h), heap_new _ _⟩ ?_
      rintro X20 ⟨cz, nX⟩
      clear zk
      refine hK.out _ _ ?_ (fun zk => ?_)
      · exact cz
      clear hK K
      try go_frame
      refine Go.Proofs.Ythnnpipekeanoaa.rd 6 fb6 rfl (by kernel_rfl) fun K hK => ?_
      go_simp
      refine ((HF2.out _ (HV2.out.1.quiet fc zk))).mono ?_
      rintro e X21 ⟨rfl, hb⟩
      have hc := Ch.of_below (Q := fun _ => False) hb
      have nX := hc.box nX (fun h => h)
      have cz := zk.trans hc (fun _ _ h => h)
      clear hb hc zk
      go_wp2_with fail
      refine hK.out _ _ ?_ (fun zk => ?_)
      · exact cz
      clear hK K
      try go_frame
      apply tk 7 fb7 rfl (by kernel_rfl) (fun _ _ _ h => h) zk
      · intro wq zq
        go_simp
        try rfl
      go_frame
      apply tk 8 fb8 rfl (by kernel_rfl) (fun _ _ _ h => h) zk
      · intro wq zq
        go_simp
        try rfl
      go_frame
      apply tk 9 fb9 rfl (by kernel_rfl) (fun _ _ _ h => h) zk
      · intro wq zq
        go_simp
        try rfl
      go_frame
      refine Go.Proofs.Ythnnpipekeanoaa.rd 11 fb11 rfl (by kernel_rfl) fun K hK => ?_
      refine step_store11 (b := V2.heap.size) (r := r) rfl _ _ rfl rfl rfl nX ?_
      refine genK (R := fun W => Ch (fun _ => False) V2 W ∧ W.heap[V2.heap.size]? = some (.cells #[.int .u32 r.ms, .int .u32 r.mg, .int .u32 r.ws, .int .u32 r.wg, .int .u32 r.rs, .int .u32 r.rg, .int .i64 r.rd, .int .i64 r.ar, .int .i64 r.vn, .int .u32 r.vs, .int .u32 r.vg] 57 (0, 0))) ⟨zk.trans (wrsA _ _ _) (fun y hy (e : y = V2.heap.size) => by subst e; omega), set11 nX r⟩ ?_
      rintro YV2 ⟨cY, nYV2⟩
      clear zk
      refine hK.out _ _ ?_ (fun zk => ?_)
      · exact cY
      clear hK K
      try go_frame
      apply tk 12 fb12 rfl (by kernel_rfl) (fun _ _ _ h => h) zk
      · intro wq zq
        go_simp
        try rfl
      go_frame
      refine wpAnyH_done (by kernel_rfl) ?_ _
      have TWf := hide (HV2.out.1.quiet fc cY)
      have q1 := Lib.cell_of_heap (cY.box HV2.out.2.2 (fun h => h))
      have q2 := Lib.cell_of_heap nYV2
      have a0 : YV2.cell? ⟨V1.heap.size, 0, none⟩ = some (.int .u32 r.ms) := by rw [q1]; rfl
      have a1 : YV2.cell? ⟨V1.heap.size, 1, none⟩ = some (.int .u32 r.mg) := by rw [q1]; rfl
      have a2 : YV2.cell? ⟨V1.heap.size, 2, none⟩ = some (.int .u32 r.ws) := by rw [q1]; rfl
      have a3 : YV2.cell? ⟨V1.heap.size, 3, none⟩ = some (.int .u32 r.wg) := by rw [q1]; rfl
      have a4 : YV2.cell? ⟨V1.heap.size, 4, none⟩ = some (.int .u32 r.rs) := by rw [q1]; rfl
      have a5 : YV2.cell? ⟨V1.heap.size, 5, none⟩ = some (.int .u32 r.rg) := by rw [q1]; rfl
      have a6 : YV2.cell? ⟨V1.heap.size, 6, none⟩ = some (.int .i64 r.rd) := by rw [q1]; rfl
      have a7 : YV2.cell? ⟨V1.heap.size, 7, none⟩ = some (.int .i64 r.ar) := by rw [q1]; rfl
      have a8 : YV2.cell? ⟨V1.heap.size, 8, none⟩ = some (.int .i64 r.vn) := by rw [q1]; rfl
      have a9 : YV2.cell? ⟨V1.heap.size, 9, none⟩ = some (.int .u32 r.vs) := by rw [q1]; rfl
      have a10 : YV2.cell? ⟨V1.heap.size, 10, none⟩ = some (.int .u32 r.vg) := by rw [q1]; rfl
      have b0 : YV2.cell? ⟨V2.heap.size, 0, none⟩ = some (.int .u32 r.ms) := by rw [q2]; rfl
      have b1 : YV2.cell? ⟨V2.heap.size, 1, none⟩ = some (.int .u32 r.mg) := by rw [q2]; rfl
      have b2 : YV2.cell? ⟨V2.heap.size, 2, none⟩ = some (.int .u32 r.ws) := by rw [q2]; rfl
      have b3 : YV2.cell? ⟨V2.heap.size, 3, none⟩ = some (.int .u32 r.wg) := by rw [q2]; rfl
      have b4 : YV2.cell? ⟨V2.heap.size, 4, none⟩ = some (.int .u32 r.rs) := by rw [q2]; rfl
      have b5 : YV2.cell? ⟨V2.heap.size, 5, none⟩ = some (.int .u32 r.rg) := by rw [q2]; rfl
      have b6 : YV2.cell? ⟨V2.heap.size, 6, none⟩ = some (.int .i64 r.rd) := by rw [q2]; rfl
      have b7 : YV2.cell? ⟨V2.heap.size, 7, none⟩ = some (.int .i64 r.ar) := by rw [q2]; rfl
      have b8 : YV2.cell? ⟨V2.heap.size, 8, none⟩ = some (.int .i64 r.vn) := by rw [q2]; rfl
      have b9 : YV2.cell? ⟨V2.heap.size, 9, none⟩ = some (.int .u32 r.vs) := by rw [q2]; rfl
      have b10 : YV2.cell? ⟨V2.heap.size, 10, none⟩ = some (.int .u32 r.vg) := by rw [q2]; rfl
      clear q1 q2 nYV2 cY zk
      cases q
      · go_wp2_with fail
        go_ret
        exact ⟨rfl, _, _, TWf.out⟩
      · go_wp2_with fail
        go_ret
        exact ⟨rfl, _, _, TWf.out⟩

end Go.Proofs.Ythnnpipekeanoaa
