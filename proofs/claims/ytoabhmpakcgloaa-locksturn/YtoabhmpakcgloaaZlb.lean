/- Layer 16: who waits first is woken. Layer 16: all who wait are woken. Layer 16: Lock and Wait, New, Make, Holder, Counter. Layer 16: Make. -/
import Derived.Test.YtoabhmpakcgloaaZla
namespace Go.Proofs.Ytoabhmpakcgloaa
open Go.RowKit

abbrev kwf0 : Oper := { dst := some 9, op := Op.move (Operand.tmp 0), type := 26, pos := "locks.go:194", after := #[], guard := none }
abbrev kwf1 : Oper := { dst := some 10, op := Op.nilCheck (Operand.tmp 9), type := 0, pos := "locks.go:194", after := #[{ on := 0, ground := Ground.data }], guard := none }
abbrev kwf2 : Oper := { dst := some 11, op := Op.fieldAddr 81 (Operand.tmp 10) 0, type := 0, pos := "locks.go:194", after := #[{ on := 1, ground := Ground.data }], guard := none }
abbrev kwf3 : Oper := { dst := some 12, op := Op.load 24 (Operand.tmp 11), type := 24, pos := "locks.go:194", after := #[{ on := 2, ground := Ground.data }], guard := none }
abbrev kwf4 : Oper := { dst := some 13, op := Op.load 60 (Operand.tmp 3), type := 60, pos := "locks.go:194", after := #[], guard := none }
abbrev kwf5 : Oper := { dst := some 14, op := Op.call { callee := Callee.value (Operand.func 42), args := #[Operand.tmp 12, Operand.tmp 13], argTypes := #[24, 60] }, type := 115, pos := "locks.go:194", after := #[{ on := 3, ground := Ground.data }, { on := 4, ground := Ground.data }], guard := none }
abbrev kwf6 : Oper := { dst := some 8, op := Op.move (Operand.tmp 14), type := 115, pos := "locks.go:194", after := #[{ on := 5, ground := Ground.data }], guard := none }
abbrev kwf7 : Oper := { dst := some 15, op := Op.extract (Operand.tmp 8) 0, type := 114, pos := "locks.go:194", after := #[{ on := 6, ground := Ground.data }], guard := none }
abbrev kwf8 : Oper := { dst := some 16, op := Op.extract (Operand.tmp 8) 1, type := 4, pos := "locks.go:194", after := #[{ on := 6, ground := Ground.data }, { on := 10, ground := Ground.gcOnly Departure.lateStores }], guard := none }
abbrev kwf9 : Oper := { dst := some 6, op := Op.alloc 114, type := 0, pos := "locks.go:194", after := #[], guard := none }
abbrev kwf10 : Oper := { dst := none, op := Op.store 114 (Operand.tmp 6) (Operand.tmp 15), type := 0, pos := "locks.go:194", after := #[{ on := 9, ground := Ground.data }, { on := 7, ground := Ground.data }, { on := 5, ground := Ground.chain }, { on := 0, ground := Ground.phase }, { on := 1, ground := Ground.phase }, { on := 2, ground := Ground.phase }, { on := 3, ground := Ground.phase }, { on := 4, ground := Ground.phase }, { on := 5, ground := Ground.phase }, { on := 6, ground := Ground.phase }, { on := 7, ground := Ground.phase }, { on := 8, ground := Ground.textOnly Departure.lateStores }, { on := 9, ground := Ground.phase }], guard := none }
abbrev kwf11 : Oper := { dst := some 7, op := Op.assign (Operand.tmp 16), type := 4, pos := "locks.go:194", after := #[{ on := 8, ground := Ground.data }, { on := 10, ground := Ground.chain }, { on := 0, ground := Ground.phase }, { on := 1, ground := Ground.phase }, { on := 2, ground := Ground.phase }, { on := 3, ground := Ground.phase }, { on := 4, ground := Ground.phase }, { on := 5, ground := Ground.phase }, { on := 6, ground := Ground.phase }, { on := 7, ground := Ground.phase }, { on := 8, ground := Ground.phase }, { on := 9, ground := Ground.phase }, { on := 10, ground := Ground.phase }], guard := none }
abbrev kwl0 : Oper := { dst := some 20, op := Op.move (Operand.tmp 0), type := 26, pos := "locks.go:198", after := #[], guard := none }
abbrev kwl1 : Oper := { dst := some 21, op := Op.nilCheck (Operand.tmp 20), type := 0, pos := "locks.go:198", after := #[{ on := 0, ground := Ground.data }], guard := none }
abbrev kwl2 : Oper := { dst := some 22, op := Op.fieldAddr 81 (Operand.tmp 21) 0, type := 0, pos := "locks.go:198", after := #[{ on := 1, ground := Ground.data }], guard := none }
abbrev kwl3 : Oper := { dst := some 23, op := Op.load 24 (Operand.tmp 22), type := 24, pos := "locks.go:198", after := #[{ on := 2, ground := Ground.data }], guard := none }
abbrev kwl4 : Oper := { dst := some 24, op := Op.fieldAddr 114 (Operand.tmp 6) 1, type := 0, pos := "locks.go:198", after := #[], guard := none }
abbrev kwl5 : Oper := { dst := some 25, op := Op.load 35 (Operand.tmp 24), type := 35, pos := "locks.go:198", after := #[{ on := 4, ground := Ground.data }], guard := none }
abbrev kwl6 : Oper := { dst := some 26, op := Op.call { callee := Callee.value (Operand.func 43), args := #[Operand.tmp 23, Operand.tmp 25], argTypes := #[24, 35] }, type := 3, pos := "locks.go:198", after := #[{ on := 3, ground := Ground.data }, { on := 5, ground := Ground.data }], guard := none }

theorem wk_set {w : World} {A : Nat} (hn : w.heap[A]? = some (.cells #[.int .u32 0, .int .u32 0, .int .i64 0, .int .i64 0, .int .u32 0, .int .u32 0, .bool false, .int .i64 0] 53 (0, 0))) (s g a : Int) (v : Va) (ok : Bool) (f : Int) : ((((((((w.setCell ⟨A, 0, none⟩ (.int .u32 s)).setCell ⟨A, 1, none⟩ (.int .u32 g)).setCell ⟨A, 2, none⟩ (.int .i64 a)).setCell ⟨A, 3, none⟩ (.int .i64 v.n)).setCell ⟨A, 4, none⟩ (.int .u32 v.s)).setCell ⟨A, 5, none⟩ (.int .u32 v.g)).setCell ⟨A, 6, none⟩ (.bool ok)).setCell ⟨A, 7, none⟩ (.int .i64 f)).heap[A]? = some (.cells (wkF s g a v ok f).toArray 53 (0, 0)) ∧ Ch (fun y => y = A) w ((((((((w.setCell ⟨A, 0, none⟩ (.int .u32 s)).setCell ⟨A, 1, none⟩ (.int .u32 g)).setCell ⟨A, 2, none⟩ (.int .i64 a)).setCell ⟨A, 3, none⟩ (.int .i64 v.n)).setCell ⟨A, 4, none⟩ (.int .u32 v.s)).setCell ⟨A, 5, none⟩ (.int .u32 v.g)).setCell ⟨A, 6, none⟩ (.bool ok)).setCell ⟨A, 7, none⟩ (.int .i64 f)) :=
  ⟨set_all (wkF s g a v ok f) [] [.int .u32 0, .int .u32 0, .int .i64 0, .int .i64 0, .int .u32 0, .int .u32 0, .bool false, .int .i64 0] w rfl hn, wrsA w A (wkF s g a v ok f)⟩
theorem res_wakeFirst (tm : Array Value) (A : Nat) (Z : World) (s g a : Int) (v : Va) (ok : Bool) (f : Int) (q : Bool) (h2 : tm[4]?.getD undef = .pointer (some ⟨A, 0, none⟩)) (h3 : tm[5]?.getD undef = .bool q) (hb : Z.heap[A]? = some (.cells (wkF s g a v ok f).toArray 53 (0, 0))) :
    (results Try.f30 tm).run Try.prog Z = .ok (.tuple #[wkV s g a v ok f, .bool q]) Z := by
  have e := Lib.cell_of_heap hb
  simp [results, Try.f30, h2, h3, go_sem, e, wkF]

section
variable {w : World} {B c bp M : Nat} {F : Nat → Prop} {l : List Wt} {ts : List Th}
set_option maxRecDepth 100000 in
set_option maxHeartbeats 16000000 in
theorem wakeFirst_none (h : LI w B c bp M F l ts) (hl : l.length ≤ 100000) {s g d : Int} (us : UsW s) (ug : UsW g) (id : I64 d) (hs : sel (inRow s g d) l = []) :
    Calls Try.prog 30 #[.pointer (some ⟨c, 0, none⟩), rvW s g d] w fun e w' => e = .returned (.tuple #[wkV 0 0 0 zVa false 0, .bool false]) ∧ Below w.heap.size w w' := by
  have HQ := hide (show (!(sel (inRow s g d) l).isEmpty) = false by rw [hs]; rfl)
  clear hs
  obtain ⟨r, hr⟩ : ∃ r, (sel (inRow s g d) l).headD zRc = r := ⟨_, rfl⟩
  have HR := hide hr
  have H0 := hide h
  obtain ⟨w1, hw1⟩ : ∃ z, w.alloc (.cells #[.int .u32 s, .int .u32 g, .int .i64 d] 60) = z := ⟨_, rfl⟩
  have hc1 : Ch (fun _ => False) w w1 := by rw [← hw1]; exact Ch.alloc _ _
  have hz1 : w1.heap.size = w.heap.size + 1 := by rw [← hw1, World.size_alloc]
  have hn1 : w1.heap[w.heap.size]? = some (.cells #[.int .u32 s, .int .u32 g, .int .i64 d] 60 (0, 0)) := by rw [← hw1]; exact heap_new _ _
  obtain ⟨w2, hw2⟩ : ∃ z, w1.alloc (.cells #[.int .u32 0, .int .u32 0, .int .i64 0, .int .i64 0, .int .u32 0, .int .u32 0, .bool false, .int .i64 0] 53) = z := ⟨_, rfl⟩
  have hc2 : Ch (fun _ => False) w1 w2 := by rw [← hw2]; exact Ch.alloc _ _
  have hz2 : w2.heap.size = w1.heap.size + 1 := by rw [← hw2, World.size_alloc]
  have hn2 : w2.heap[w1.heap.size]? = some (.cells #[.int .u32 0, .int .u32 0, .int .i64 0, .int .i64 0, .int .u32 0, .int .u32 0, .bool false, .int .i64 0] 53 (0, 0)) := by rw [← hw2]; exact heap_new _ _
  replace hn1 := hc2.box hn1 (fun h => h)
  have CB := hide (hc1.trans hc2 (fun _ _ h => h))
  have HZ := hide hz1
  have HN := hide (And.intro hn1 hn2)
  have H := hide (h.quiet CB.out)
  clear h hc1 hz1 hn1 hc2 hz2 hn2 hr
  go_enter Try.func30, Try.ntmps30
  go_wp2
  clear hw1 hw2
  refine wp_reg (fun _ => False) (R := fun V => Ch (fun _ => False) w2 V) (by kernel_rfl) (Ch.drew _) (fun V cV zk => ?_)
  have CV := hide cV
  clear cV
  have HX := hide (fun wq (kq : Ch (fun _ => False) V wq) => show wq.cell? ⟨c, 0, none⟩ = some (.pointer (some ⟨bp, 0, none⟩)) ∧ wq.cell? ⟨w.heap.size, 0, none⟩ = some (.int .u32 s) ∧ wq.cell? ⟨w.heap.size, 1, none⟩ = some (.int .u32 g) ∧ wq.cell? ⟨w.heap.size, 2, none⟩ = some (.int .i64 d) from by
    have e1 := Lib.cell_of_heap ((CV.out.trans kq (fun _ _ h => h)).box H.out.box (fun h => h))
    have e2 := Lib.cell_of_heap ((CV.out.trans kq (fun _ _ h => h)).box HN.out.1 (fun h => h))
    exact ⟨by simp [e1], by simp [e2], by simp [e2], by simp [e2]⟩)
  apply tk 0 kwf0 rfl (by kernel_rfl) (fun _ _ _ h => h) zk
  · intro wq zq
    go_simp
    try rfl
  go_frame
  apply tk 1 kwf1 rfl (by kernel_rfl) (fun _ _ _ h => h) zk
  · intro wq zq
    go_simp
    try rfl
  go_frame
  apply tk 2 kwf2 rfl (by kernel_rfl) (fun _ _ _ h => h) zk
  · intro wq zq
    go_simp
    try rfl
  go_frame
  apply tk 3 kwf3 rfl (by kernel_rfl) (fun _ _ _ h => h) zk
  · intro wq zq
    obtain ⟨s1, s2, s3, s4⟩ := HX.out _ zq
    go_simp
    try rfl
  go_frame
  apply tk 4 kwf4 rfl (by kernel_rfl) (fun _ _ _ h => h) zk
  · intro wq zq
    obtain ⟨s1, s2, s3, s4⟩ := HX.out _ zq
    go_simp
    try rfl
  go_frame
  refine wpAnyH_ready (rs := [5, 9]) (by kernel_rfl) (by simp) ?_
  refine AllReadyH.cons (o := kwf5) rfl (fun K hK => ?_) (AllReadyH.cons (o := kwf9) rfl (fun K hK => ?_) AllReadyH.nil)
  · go_simp
    refine (face.first s g d us ug id (H.out.quiet (CV.out.trans zk (fun _ _ h => h))).bk hl).mono ?_
    rintro e X5 ⟨rfl, hb⟩
    have hc := Ch.of_below (Q := fun _ => False) hb
    rw [HR.out, HQ.out]
    have cz := zk.trans hc (fun _ _ h => h)
    clear hb hc zk
    go_wp2_with fail
    refine hK.out _ _ ?_ (fun zk => ?_)
    · exact cz
    clear hK K
    try go_frame
    apply tk 6 kwf6 rfl (by kernel_rfl) (fun _ _ _ h => h) zk
    · intro wq zq
      go_simp
      try rfl
    go_frame
    apply tk 7 kwf7 rfl (by kernel_rfl) (fun _ _ _ h => h) zk
    · intro wq zq
      go_simp
      try rfl
    go_frame
    apply tk 8 kwf8 rfl (by kernel_rfl) (fun _ _ _ h => h) zk
    · intro wq zq
      go_simp
      try rfl
    go_frame
    have cB := zk
    refine Go.Proofs.Ytoabhmpakcgloaa.rd 9 kwf9 rfl (by kernel_rfl) fun K hK => ?_
    go_simp
    refine genK (R := fun W => Ch (fun _ => False) V W ∧ W.heap[X5.heap.size]? = some (.cells #[.int .u32 0, .int .u32 0, .int .u32 0, .int .u32 0, .int .u32 0, .int .u32 0, .int .i64 0, .int .i64 0, .int .i64 0, .int .u32 0, .int .u32 0] 114 (0, 0))) ⟨zk.trans (Ch.alloc _ _) (fun _ _ h => h), heap_new _ _⟩ ?_
    rintro X9 ⟨cz, nX⟩
    clear zk
    refine hK.out _ _ ?_ (fun zk => ?_)
    · exact cz
    clear hK K
    try go_frame
    have hlow : V.heap.size ≤ X5.heap.size := cB.size
    refine Go.Proofs.Ytoabhmpakcgloaa.rd 10 kwf10 rfl (by kernel_rfl) fun K hK => ?_
    refine step_store11 (b := X5.heap.size) (r := r) rfl _ _ rfl rfl rfl nX ?_
    refine genK (R := fun W => Ch (fun _ => False) V W ∧ W.heap[X5.heap.size]? = some (.cells #[.int .u32 r.ms, .int .u32 r.mg, .int .u32 r.ws, .int .u32 r.wg, .int .u32 r.rs, .int .u32 r.rg, .int .i64 r.rd, .int .i64 r.ar, .int .i64 r.vn, .int .u32 r.vs, .int .u32 r.vg] 114 (0, 0))) ⟨zk.trans (wrsA _ _ _) (fun y hy (e : y = X5.heap.size) => by subst e; omega), set11 nX r⟩ ?_
    rintro Y ⟨cY, nY⟩
    clear zk
    refine hK.out _ _ ?_ (fun zk => ?_)
    · exact cY
    clear hK K
    try go_frame
    apply tk 11 kwf11 rfl (by kernel_rfl) (fun _ _ _ h => h) zk
    · intro wq zq
      go_simp
      try rfl
    go_frame
    refine wpAnyH_done (by kernel_rfl) ?_ _
    have CY := hide (CV.out.trans cY (fun _ _ h => h))
    obtain ⟨A, hA⟩ : ∃ A, X5.heap.size = A := ⟨_, rfl⟩
    have HA := hide (show V.heap.size ≤ A from by rw [← hA]; exact hlow)
    rw [hA] at nY ⊢
    have NY := hide nY
    clear hA cY nY nX hlow zk
    have nV := CY.out.box HN.out.2 (fun h => h)
    have d0 : Y.cell? ⟨w1.heap.size, 0, none⟩ = some (.int .u32 0) := by simp [Lib.cell_of_heap nV]
    have d1 : Y.cell? ⟨w1.heap.size, 1, none⟩ = some (.int .u32 0) := by simp [Lib.cell_of_heap nV]
    have d2 : Y.cell? ⟨w1.heap.size, 2, none⟩ = some (.int .i64 0) := by simp [Lib.cell_of_heap nV]
    have d3 : Y.cell? ⟨w1.heap.size, 3, none⟩ = some (.int .i64 0) := by simp [Lib.cell_of_heap nV]
    have d4 : Y.cell? ⟨w1.heap.size, 4, none⟩ = some (.int .u32 0) := by simp [Lib.cell_of_heap nV]
    have d5 : Y.cell? ⟨w1.heap.size, 5, none⟩ = some (.int .u32 0) := by simp [Lib.cell_of_heap nV]
    have d6 : Y.cell? ⟨w1.heap.size, 6, none⟩ = some (.bool false) := by simp [Lib.cell_of_heap nV]
    have d7 : Y.cell? ⟨w1.heap.size, 7, none⟩ = some (.int .i64 0) := by simp [Lib.cell_of_heap nV]
    have df : ∀ j, Y.frozen? ⟨w1.heap.size, j, none⟩ = false := frz nV
    have HS := hide (wk_set nV 0 0 0 zVa false 0)
    clear nV
    go_wp2_with fail
    refine bodyPost_ret (v := .tuple #[wkV 0 0 0 zVa false 0, .bool false]) (res_wakeFirst _ w1.heap.size _ 0 0 0 zVa false 0 false rfl rfl HS.out.1) rfl ?_
    have hz := HZ.out
    exact ⟨rfl, ((CB.out.trans CY.out (fun _ _ h => h)).trans HS.out.2 (fun y hy e => by omega)).below (Nat.le_refl _) (fun _ _ h => h)⟩
  · go_simp
    refine genK (R := fun W => Ch (fun _ => False) V W ∧ W.heap[V.heap.size]? = some (.cells #[.int .u32 0, .int .u32 0, .int .u32 0, .int .u32 0, .int .u32 0, .int .u32 0, .int .i64 0, .int .i64 0, .int .i64 0, .int .u32 0, .int .u32 0] 114 (0, 0))) ⟨zk.trans (Ch.alloc _ _) (fun _ _ h => h), heap_new _ _⟩ ?_
    rintro X9 ⟨cz, nX⟩
    clear zk
    refine hK.out _ _ ?_ (fun zk => ?_)
    · exact cz
    clear hK K
    try go_frame
    refine Go.Proofs.Ytoabhmpakcgloaa.rd 5 kwf5 rfl (by kernel_rfl) fun K hK => ?_
    go_simp
    refine (face.first s g d us ug id (H.out.quiet (CV.out.trans zk (fun _ _ h => h))).bk hl).mono ?_
    rintro e X5 ⟨rfl, hb⟩
    have hc := Ch.of_below (Q := fun _ => False) hb
    rw [HR.out, HQ.out]
    have nX := hc.box nX (fun h => h)
    have cz := zk.trans hc (fun _ _ h => h)
    clear hb hc zk
    go_wp2_with fail
    refine hK.out _ _ ?_ (fun zk => ?_)
    · exact cz
    clear hK K
    try go_frame
    apply tk 6 kwf6 rfl (by kernel_rfl) (fun _ _ _ h => h) zk
    · intro wq zq
      go_simp
      try rfl
    go_frame
    apply tk 7 kwf7 rfl (by kernel_rfl) (fun _ _ _ h => h) zk
    · intro wq zq
      go_simp
      try rfl
    go_frame
    apply tk 8 kwf8 rfl (by kernel_rfl) (fun _ _ _ h => h) zk
    · intro wq zq
      go_simp
      try rfl
    go_frame
    have hlow : V.heap.size ≤ V.heap.size := Nat.le_refl _
    refine Go.Proofs.Ytoabhmpakcgloaa.rd 10 kwf10 rfl (by kernel_rfl) fun K hK => ?_
    refine step_store11 (b := V.heap.size) (r := r) rfl _ _ rfl rfl rfl nX ?_
    refine genK (R := fun W => Ch (fun _ => False) V W ∧ W.heap[V.heap.size]? = some (.cells #[.int .u32 r.ms, .int .u32 r.mg, .int .u32 r.ws, .int .u32 r.wg, .int .u32 r.rs, .int .u32 r.rg, .int .i64 r.rd, .int .i64 r.ar, .int .i64 r.vn, .int .u32 r.vs, .int .u32 r.vg] 114 (0, 0))) ⟨zk.trans (wrsA _ _ _) (fun y hy (e : y = V.heap.size) => by subst e; omega), set11 nX r⟩ ?_
    rintro Y ⟨cY, nY⟩
    clear zk
    refine hK.out _ _ ?_ (fun zk => ?_)
    · exact cY
    clear hK K
    try go_frame
    apply tk 11 kwf11 rfl (by kernel_rfl) (fun _ _ _ h => h) zk
    · intro wq zq
      go_simp
      try rfl
    go_frame
    refine wpAnyH_done (by kernel_rfl) ?_ _
    have CY := hide (CV.out.trans cY (fun _ _ h => h))
    obtain ⟨A, hA⟩ : ∃ A, V.heap.size = A := ⟨_, rfl⟩
    have HA := hide (show V.heap.size ≤ A from by rw [← hA]; exact hlow)
    rw [hA] at nY ⊢
    have NY := hide nY
    clear hA cY nY nX hlow zk
    have nV := CY.out.box HN.out.2 (fun h => h)
    have d0 : Y.cell? ⟨w1.heap.size, 0, none⟩ = some (.int .u32 0) := by simp [Lib.cell_of_heap nV]
    have d1 : Y.cell? ⟨w1.heap.size, 1, none⟩ = some (.int .u32 0) := by simp [Lib.cell_of_heap nV]
    have d2 : Y.cell? ⟨w1.heap.size, 2, none⟩ = some (.int .i64 0) := by simp [Lib.cell_of_heap nV]
    have d3 : Y.cell? ⟨w1.heap.size, 3, none⟩ = some (.int .i64 0) := by simp [Lib.cell_of_heap nV]
    have d4 : Y.cell? ⟨w1.heap.size, 4, none⟩ = some (.int .u32 0) := by simp [Lib.cell_of_heap nV]
    have d5 : Y.cell? ⟨w1.heap.size, 5, none⟩ = some (.int .u32 0) := by simp [Lib.cell_of_heap nV]
    have d6 : Y.cell? ⟨w1.heap.size, 6, none⟩ = some (.bool false) := by simp [Lib.cell_of_heap nV]
    have d7 : Y.cell? ⟨w1.heap.size, 7, none⟩ = some (.int .i64 0) := by simp [Lib.cell_of_heap nV]
    have df : ∀ j, Y.frozen? ⟨w1.heap.size, j, none⟩ = false := frz nV
    have HS := hide (wk_set nV 0 0 0 zVa false 0)
    clear nV
    go_wp2_with fail
    refine bodyPost_ret (v := .tuple #[wkV 0 0 0 zVa false 0, .bool false]) (res_wakeFirst _ w1.heap.size _ 0 0 0 zVa false 0 false rfl rfl HS.out.1) rfl ?_
    have hz := HZ.out
    exact ⟨rfl, ((CB.out.trans CY.out (fun _ _ h => h)).trans HS.out.2 (fun y hy e => by omega)).below (Nat.le_refl _) (fun _ _ h => h)⟩

set_option maxRecDepth 100000 in
set_option maxHeartbeats 16000000 in
theorem wakeFirst_some (h : LI w B c bp M F l ts) (hl : l.length ≤ 100000) {s g d : Int} (us : UsW s) (ug : UsW g) (id : I64 d) {r0 : Rc} {rest : List Rc} (hs : sel (inRow s g d) l = r0 :: rest) (u1 : UsW r0.ws) (u2 : UsW r0.wg) :
    Calls Try.prog 30 #[.pointer (some ⟨c, 0, none⟩), rvW s g d] w fun e w' => e = .returned (.tuple #[wkV r0.ws r0.wg r0.ar zVa false 0, .bool true]) ∧ ∃ F', PTb w' B F' bp (leaW l r0.ws r0.wg) ∧ Ch F w w' ∧ ∀ y, F' y → F y ∨ w.heap.size ≤ y := by
  have HQ := hide (show (!(sel (inRow s g d) l).isEmpty) = true by rw [hs]; rfl)
  have hrr : (sel (inRow s g d) l).headD zRc = r0 := by rw [hs]; rfl
  have OK := hide (And.intro u1 u2)
  clear hs u1 u2
  obtain ⟨r, hr⟩ : ∃ r, (sel (inRow s g d) l).headD zRc = r := ⟨_, rfl⟩
  rw [hr] at hrr
  subst hrr
  have HR := hide hr
  have H0 := hide h
  obtain ⟨w1, hw1⟩ : ∃ z, w.alloc (.cells #[.int .u32 s, .int .u32 g, .int .i64 d] 60) = z := ⟨_, rfl⟩
  have hc1 : Ch (fun _ => False) w w1 := by rw [← hw1]; exact Ch.alloc _ _
  have hz1 : w1.heap.size = w.heap.size + 1 := by rw [← hw1, World.size_alloc]
  have hn1 : w1.heap[w.heap.size]? = some (.cells #[.int .u32 s, .int .u32 g, .int .i64 d] 60 (0, 0)) := by rw [← hw1]; exact heap_new _ _
  obtain ⟨w2, hw2⟩ : ∃ z, w1.alloc (.cells #[.int .u32 0, .int .u32 0, .int .i64 0, .int .i64 0, .int .u32 0, .int .u32 0, .bool false, .int .i64 0] 53) = z := ⟨_, rfl⟩
  have hc2 : Ch (fun _ => False) w1 w2 := by rw [← hw2]; exact Ch.alloc _ _
  have hz2 : w2.heap.size = w1.heap.size + 1 := by rw [← hw2, World.size_alloc]
  have hn2 : w2.heap[w1.heap.size]? = some (.cells #[.int .u32 0, .int .u32 0, .int .i64 0, .int .i64 0, .int .u32 0, .int .u32 0, .bool false, .int .i64 0] 53 (0, 0)) := by rw [← hw2]; exact heap_new _ _
  replace hn1 := hc2.box hn1 (fun h => h)
  have CB := hide (hc1.trans hc2 (fun _ _ h => h))
  have HZ := hide hz1
  have HN := hide (And.intro hn1 hn2)
  have H := hide (h.quiet CB.out)
  clear h hc1 hz1 hn1 hc2 hz2 hn2 hr
  go_enter Try.func30, Try.ntmps30
  go_wp2
  clear hw1 hw2
  refine wp_reg (fun _ => False) (R := fun V => Ch (fun _ => False) w2 V) (by kernel_rfl) (Ch.drew _) (fun V cV zk => ?_)
  have CV := hide cV
  clear cV
  have HX := hide (fun wq (kq : Ch (fun _ => False) V wq) => show wq.cell? ⟨c, 0, none⟩ = some (.pointer (some ⟨bp, 0, none⟩)) ∧ wq.cell? ⟨w.heap.size, 0, none⟩ = some (.int .u32 s) ∧ wq.cell? ⟨w.heap.size, 1, none⟩ = some (.int .u32 g) ∧ wq.cell? ⟨w.heap.size, 2, none⟩ = some (.int .i64 d) from by
    have e1 := Lib.cell_of_heap ((CV.out.trans kq (fun _ _ h => h)).box H.out.box (fun h => h))
    have e2 := Lib.cell_of_heap ((CV.out.trans kq (fun _ _ h => h)).box HN.out.1 (fun h => h))
    exact ⟨by simp [e1], by simp [e2], by simp [e2], by simp [e2]⟩)
  apply tk 0 kwf0 rfl (by kernel_rfl) (fun _ _ _ h => h) zk
  · intro wq zq
    go_simp
    try rfl
  go_frame
  apply tk 1 kwf1 rfl (by kernel_rfl) (fun _ _ _ h => h) zk
  · intro wq zq
    go_simp
    try rfl
  go_frame
  apply tk 2 kwf2 rfl (by kernel_rfl) (fun _ _ _ h => h) zk
  · intro wq zq
    go_simp
    try rfl
  go_frame
  apply tk 3 kwf3 rfl (by kernel_rfl) (fun _ _ _ h => h) zk
  · intro wq zq
    obtain ⟨s1, s2, s3, s4⟩ := HX.out _ zq
    go_simp
    try rfl
  go_frame
  apply tk 4 kwf4 rfl (by kernel_rfl) (fun _ _ _ h => h) zk
  · intro wq zq
    obtain ⟨s1, s2, s3, s4⟩ := HX.out _ zq
    go_simp
    try rfl
  go_frame
  refine wpAnyH_ready (rs := [5, 9]) (by kernel_rfl) (by simp) ?_
  refine AllReadyH.cons (o := kwf5) rfl (fun K hK => ?_) (AllReadyH.cons (o := kwf9) rfl (fun K hK => ?_) AllReadyH.nil)
  · go_simp
    refine (face.first s g d us ug id (H.out.quiet (CV.out.trans zk (fun _ _ h => h))).bk hl).mono ?_
    rintro e X5 ⟨rfl, hb⟩
    have hc := Ch.of_below (Q := fun _ => False) hb
    rw [HR.out, HQ.out]
    have cz := zk.trans hc (fun _ _ h => h)
    clear hb hc zk
    go_wp2_with fail
    refine hK.out _ _ ?_ (fun zk => ?_)
    · exact cz
    clear hK K
    try go_frame
    apply tk 6 kwf6 rfl (by kernel_rfl) (fun _ _ _ h => h) zk
    · intro wq zq
      go_simp
      try rfl
    go_frame
    apply tk 7 kwf7 rfl (by kernel_rfl) (fun _ _ _ h => h) zk
    · intro wq zq
      go_simp
      try rfl
    go_frame
    apply tk 8 kwf8 rfl (by kernel_rfl) (fun _ _ _ h => h) zk
    · intro wq zq
      go_simp
      try rfl
    go_frame
    have cB := zk
    refine Go.Proofs.Ytoabhmpakcgloaa.rd 9 kwf9 rfl (by kernel_rfl) fun K hK => ?_
    go_simp
    refine genK (R := fun W => Ch (fun _ => False) V W ∧ W.heap[X5.heap.size]? = some (.cells #[.int .u32 0, .int .u32 0, .int .u32 0, .int .u32 0, .int .u32 0, .int .u32 0, .int .i64 0, .int .i64 0, .int .i64 0, .int .u32 0, .int .u32 0] 114 (0, 0))) ⟨zk.trans (Ch.alloc _ _) (fun _ _ h => h), heap_new _ _⟩ ?_
    rintro X9 ⟨cz, nX⟩
    clear zk
    refine hK.out _ _ ?_ (fun zk => ?_)
    · exact cz
    clear hK K
    try go_frame
    have hlow : V.heap.size ≤ X5.heap.size := cB.size
    refine Go.Proofs.Ytoabhmpakcgloaa.rd 10 kwf10 rfl (by kernel_rfl) fun K hK => ?_
    refine step_store11 (b := X5.heap.size) (r := r) rfl _ _ rfl rfl rfl nX ?_
    refine genK (R := fun W => Ch (fun _ => False) V W ∧ W.heap[X5.heap.size]? = some (.cells #[.int .u32 r.ms, .int .u32 r.mg, .int .u32 r.ws, .int .u32 r.wg, .int .u32 r.rs, .int .u32 r.rg, .int .i64 r.rd, .int .i64 r.ar, .int .i64 r.vn, .int .u32 r.vs, .int .u32 r.vg] 114 (0, 0))) ⟨zk.trans (wrsA _ _ _) (fun y hy (e : y = X5.heap.size) => by subst e; omega), set11 nX r⟩ ?_
    rintro Y ⟨cY, nY⟩
    clear zk
    refine hK.out _ _ ?_ (fun zk => ?_)
    · exact cY
    clear hK K
    try go_frame
    apply tk 11 kwf11 rfl (by kernel_rfl) (fun _ _ _ h => h) zk
    · intro wq zq
      go_simp
      try rfl
    go_frame
    refine wpAnyH_done (by kernel_rfl) ?_ _
    have CY := hide (CV.out.trans cY (fun _ _ h => h))
    obtain ⟨A, hA⟩ : ∃ A, X5.heap.size = A := ⟨_, rfl⟩
    have HA := hide (show V.heap.size ≤ A from by rw [← hA]; exact hlow)
    rw [hA] at nY ⊢
    have NY := hide nY
    clear hA cY nY nX hlow zk
    go_wp2
    refine wp_reg F (R := fun V => Ch (fun _ => False) Y V) (by kernel_rfl) (Ch.drew _) (fun V2 cV2 zk => ?_)
    have C2 := hide (CY.out.trans cV2 (fun _ _ h => h))
    have NY2 := hide (cV2.box NY.out (fun h => h))
    clear cV2
    have HFA := hide (show ∀ y, w.heap.size ≤ y → ¬ F y from fun y hy e => by have := (face.foot H0.out.bk _ e).2; omega)
    have HSZ := hide (show w.heap.size ≤ V.heap.size ∧ w.heap.size ≤ w1.heap.size from ⟨Nat.le_trans CB.out.size CV.out.size, by have := HZ.out; omega⟩)
    have HX2 := hide (fun wq (kq : Ch F V2 wq) => show wq.cell? ⟨c, 0, none⟩ = some (.pointer (some ⟨bp, 0, none⟩)) ∧ wq.cell? ⟨A, 2, none⟩ = some (.int .u32 r.ws) ∧ wq.cell? ⟨A, 3, none⟩ = some (.int .u32 r.wg) from by
      have e1 := Lib.cell_of_heap (kq.box (C2.out.box H.out.box (fun h => h)) (fun e => (H.out.far _ e).1 rfl))
      have e2 := Lib.cell_of_heap (kq.box NY2.out (HFA.out _ (by have := HA.out; have := HSZ.out.1; omega)))
      exact ⟨by simp [e1], by simp [e2], by simp [e2]⟩)
    apply tk 0 kwl0 rfl (by kernel_rfl) (fun _ _ _ h => h) zk
    · intro wq zq
      go_simp
      try rfl
    go_frame
    apply tk 1 kwl1 rfl (by kernel_rfl) (fun _ _ _ h => h) zk
    · intro wq zq
      go_simp
      try rfl
    go_frame
    apply tk 2 kwl2 rfl (by kernel_rfl) (fun _ _ _ h => h) zk
    · intro wq zq
      go_simp
      try rfl
    go_frame
    apply tk 3 kwl3 rfl (by kernel_rfl) (fun _ _ _ h => h) zk
    · intro wq zq
      obtain ⟨s1, s2, s3⟩ := HX2.out _ zq
      go_simp
      try rfl
    go_frame
    apply tk 4 kwl4 rfl (by kernel_rfl) (fun _ _ _ h => h) zk
    · intro wq zq
      go_simp
      try rfl
    go_frame
    apply tk 5 kwl5 rfl (by kernel_rfl) (fun _ _ _ h => h) zk
    · intro wq zq
      obtain ⟨s1, s2, s3⟩ := HX2.out _ zq
      go_simp
      try rfl
    go_frame
    refine Go.Proofs.Ytoabhmpakcgloaa.rd 6 kwl6 rfl (by kernel_rfl) fun K hK => ?_
    go_simp
    refine (face.leave r.ws r.wg OK.out.1 OK.out.2 (H.out.quiet C2.out).bk hl).mono ?_
    rintro e w5 ⟨F2, rfl, hp2, hc2, hd2⟩
    have P2 := hide (And.intro hp2 hd2)
    have C5 := hide hc2
    have Z2 := hide (zk.trans hc2 (fun _ _ h => h))
    clear hp2 hd2 hc2
    go_wp2_with fail
    refine hK.out _ _ ?_ (fun zk => ?_)
    · exact Z2.out
    clear hK K zk Z2 HX2
    try go_frame
    refine wpAnyH_done (by kernel_rfl) ?_ _
    have n5 := C5.out.box NY2.out (HFA.out _ (by have := HA.out; have := HSZ.out.1; omega))
    have x2 : w5.cell? ⟨A, 2, none⟩ = some (.int .u32 r.ws) := by simp [Lib.cell_of_heap n5]
    have x3 : w5.cell? ⟨A, 3, none⟩ = some (.int .u32 r.wg) := by simp [Lib.cell_of_heap n5]
    have x7 : w5.cell? ⟨A, 7, none⟩ = some (.int .i64 r.ar) := by simp [Lib.cell_of_heap n5]
    clear n5
    have nV := C5.out.box (C2.out.box HN.out.2 (fun h => h)) (HFA.out _ HSZ.out.2)
    have d0 : w5.cell? ⟨w1.heap.size, 0, none⟩ = some (.int .u32 0) := by simp [Lib.cell_of_heap nV]
    have d1 : w5.cell? ⟨w1.heap.size, 1, none⟩ = some (.int .u32 0) := by simp [Lib.cell_of_heap nV]
    have d2 : w5.cell? ⟨w1.heap.size, 2, none⟩ = some (.int .i64 0) := by simp [Lib.cell_of_heap nV]
    have d3 : w5.cell? ⟨w1.heap.size, 3, none⟩ = some (.int .i64 0) := by simp [Lib.cell_of_heap nV]
    have d4 : w5.cell? ⟨w1.heap.size, 4, none⟩ = some (.int .u32 0) := by simp [Lib.cell_of_heap nV]
    have d5 : w5.cell? ⟨w1.heap.size, 5, none⟩ = some (.int .u32 0) := by simp [Lib.cell_of_heap nV]
    have d6 : w5.cell? ⟨w1.heap.size, 6, none⟩ = some (.bool false) := by simp [Lib.cell_of_heap nV]
    have d7 : w5.cell? ⟨w1.heap.size, 7, none⟩ = some (.int .i64 0) := by simp [Lib.cell_of_heap nV]
    have df : ∀ j, w5.frozen? ⟨w1.heap.size, j, none⟩ = false := frz nV
    have HS := hide (wk_set nV r.ws r.wg r.ar zVa false 0)
    clear nV
    go_wp2_with fail
    refine bodyPost_ret (v := .tuple #[wkV r.ws r.wg r.ar zVa false 0, .bool true]) (res_wakeFirst _ w1.heap.size _ r.ws r.wg r.ar zVa false 0 true rfl rfl HS.out.1) rfl ?_
    have hz := HZ.out
    have h3 := (Array.getElem?_eq_some_iff.1 HN.out.2).1
    exact ⟨rfl, F2, face.ch P2.out.1 HS.out.2 (fun y hy e => by rcases P2.out.2 y hy with e2 | e2; exact HFA.out _ (by omega) e2; have := C2.out.size; omega), ((((CB.out.trans C2.out (fun _ _ h => h)).mono (Q' := F) (fun _ _ h => h.elim)).trans C5.out (fun _ _ h => h)).trans HS.out.2 (fun y hy e => by omega)), fun y hy => (P2.out.2 y hy).imp_right (fun e => by have := CB.out.size; have := C2.out.size; omega)⟩
  · go_simp
    refine genK (R := fun W => Ch (fun _ => False) V W ∧ W.heap[V.heap.size]? = some (.cells #[.int .u32 0, .int .u32 0, .int .u32 0, .int .u32 0, .int .u32 0, .int .u32 0, .int .i64 0, .int .i64 0, .int .i64 0, .int .u32 0, .int .u32 0] 114 (0, 0))) ⟨zk.trans (Ch.alloc _ _) (fun _ _ h => h), heap_new _ _⟩ ?_
    rintro X9 ⟨cz, nX⟩
    clear zk
    refine hK.out _ _ ?_ (fun zk => ?_)
    · exact cz
    clear hK K
    try go_frame
    refine Go.Proofs.Ytoabhmpakcgloaa.rd 5 kwf5 rfl (by kernel_rfl) fun K hK => ?_
    go_simp
    refine (face.first s g d us ug id (H.out.quiet (CV.out.trans zk (fun _ _ h => h))).bk hl).mono ?_
    rintro e X5 ⟨rfl, hb⟩
    have hc := Ch.of_below (Q := fun _ => False) hb
    rw [HR.out, HQ.out]
    have nX := hc.box nX (fun h => h)
    have cz := zk.trans hc (fun _ _ h => h)
    clear hb hc zk
    go_wp2_with fail
    refine hK.out _ _ ?_ (fun zk => ?_)
    · exact cz
    clear hK K
    try go_frame
    apply tk 6 kwf6 rfl (by kernel_rfl) (fun _ _ _ h => h) zk
    · intro wq zq
      go_simp
      try rfl
    go_frame
    apply tk 7 kwf7 rfl (by kernel_rfl) (fun _ _ _ h => h) zk
    · intro wq zq
      go_simp
      try rfl
    go_frame
    apply tk 8 kwf8 rfl (by kernel_rfl) (fun _ _ _ h => h) zk
    · intro wq zq
      go_simp
      try rfl
    go_frame
    have hlow : V.heap.size ≤ V.heap.size := Nat.le_refl _
    refine Go.Proofs.Ytoabhmpakcgloaa.rd 10 kwf10 rfl (by kernel_rfl) fun K hK => ?_
    refine step_store11 (b := V.heap.size) (r := r) rfl _ _ rfl rfl rfl nX ?_
    refine genK (R := fun W => Ch (fun _ => False) V W ∧ W.heap[V.heap.size]? = some (.cells #[.int .u32 r.ms, .int .u32 r.mg, .int .u32 r.ws, .int .u32 r.wg, .int .u32 r.rs, .int .u32 r.rg, .int .i64 r.rd, .int .i64 r.ar, .int .i64 r.vn, .int .u32 r.vs, .int .u32 r.vg] 114 (0, 0))) ⟨zk.trans (wrsA _ _ _) (fun y hy (e : y = V.heap.size) => by subst e; omega), set11 nX r⟩ ?_
    rintro Y ⟨cY, nY⟩
    clear zk
    refine hK.out _ _ ?_ (fun zk => ?_)
    · exact cY
    clear hK K
    try go_frame
    apply tk 11 kwf11 rfl (by kernel_rfl) (fun _ _ _ h => h) zk
    · intro wq zq
      go_simp
      try rfl
    go_frame
    refine wpAnyH_done (by kernel_rfl) ?_ _
    have CY := hide (CV.out.trans cY (fun _ _ h => h))
    obtain ⟨A, hA⟩ : ∃ A, V.heap.size = A := ⟨_, rfl⟩
    have HA := hide (show V.heap.size ≤ A from by rw [← hA]; exact hlow)
    rw [hA] at nY ⊢
    have NY := hide nY
    clear hA cY nY nX hlow zk
    go_wp2
    refine wp_reg F (R := fun V => Ch (fun _ => False) Y V) (by kernel_rfl) (Ch.drew _) (fun V2 cV2 zk => ?_)
    have C2 := hide (CY.out.trans cV2 (fun _ _ h => h))
    have NY2 := hide (cV2.box NY.out (fun h => h))
    clear cV2
    have HFA := hide (show ∀ y, w.heap.size ≤ y → ¬ F y from fun y hy e => by have := (face.foot H0.out.bk _ e).2; omega)
    have HSZ := hide (show w.heap.size ≤ V.heap.size ∧ w.heap.size ≤ w1.heap.size from ⟨Nat.le_trans CB.out.size CV.out.size, by have := HZ.out; omega⟩)
    have HX2 := hide (fun wq (kq : Ch F V2 wq) => show wq.cell? ⟨c, 0, none⟩ = some (.pointer (some ⟨bp, 0, none⟩)) ∧ wq.cell? ⟨A, 2, none⟩ = some (.int .u32 r.ws) ∧ wq.cell? ⟨A, 3, none⟩ = some (.int .u32 r.wg) from by
      have e1 := Lib.cell_of_heap (kq.box (C2.out.box H.out.box (fun h => h)) (fun e => (H.out.far _ e).1 rfl))
      have e2 := Lib.cell_of_heap (kq.box NY2.out (HFA.out _ (by have := HA.out; have := HSZ.out.1; omega)))
      exact ⟨by simp [e1], by simp [e2], by simp [e2]⟩)
    apply tk 0 kwl0 rfl (by kernel_rfl) (fun _ _ _ h => h) zk
    · intro wq zq
      go_simp
      try rfl
    go_frame
    apply tk 1 kwl1 rfl (by kernel_rfl) (fun _ _ _ h => h) zk
    · intro wq zq
      go_simp
      try rfl
    go_frame
    apply tk 2 kwl2 rfl (by kernel_rfl) (fun _ _ _ h => h) zk
    · intro wq zq
      go_simp
      try rfl
    go_frame
    apply tk 3 kwl3 rfl (by kernel_rfl) (fun _ _ _ h => h) zk
    · intro wq zq
      obtain ⟨s1, s2, s3⟩ := HX2.out _ zq
      go_simp
      try rfl
    go_frame
    apply tk 4 kwl4 rfl (by kernel_rfl) (fun _ _ _ h => h) zk
    · intro wq zq
      go_simp
      try rfl
    go_frame
    apply tk 5 kwl5 rfl (by kernel_rfl) (fun _ _ _ h => h) zk
    · intro wq zq
      obtain ⟨s1, s2, s3⟩ := HX2.out _ zq
      go_simp
      try rfl
    go_frame
    refine Go.Proofs.Ytoabhmpakcgloaa.rd 6 kwl6 rfl (by kernel_rfl) fun K hK => ?_
    go_simp
    refine (face.leave r.ws r.wg OK.out.1 OK.out.2 (H.out.quiet C2.out).bk hl).mono ?_
    rintro e w5 ⟨F2, rfl, hp2, hc2, hd2⟩
    have P2 := hide (And.intro hp2 hd2)
    have C5 := hide hc2
    have Z2 := hide (zk.trans hc2 (fun _ _ h => h))
    clear hp2 hd2 hc2
    go_wp2_with fail
    refine hK.out _ _ ?_ (fun zk => ?_)
    · exact Z2.out
    clear hK K zk Z2 HX2
    try go_frame
    refine wpAnyH_done (by kernel_rfl) ?_ _
    have n5 := C5.out.box NY2.out (HFA.out _ (by have := HA.out; have := HSZ.out.1; omega))
    have x2 : w5.cell? ⟨A, 2, none⟩ = some (.int .u32 r.ws) := by simp [Lib.cell_of_heap n5]
    have x3 : w5.cell? ⟨A, 3, none⟩ = some (.int .u32 r.wg) := by simp [Lib.cell_of_heap n5]
    have x7 : w5.cell? ⟨A, 7, none⟩ = some (.int .i64 r.ar) := by simp [Lib.cell_of_heap n5]
    clear n5
    have nV := C5.out.box (C2.out.box HN.out.2 (fun h => h)) (HFA.out _ HSZ.out.2)
    have d0 : w5.cell? ⟨w1.heap.size, 0, none⟩ = some (.int .u32 0) := by simp [Lib.cell_of_heap nV]
    have d1 : w5.cell? ⟨w1.heap.size, 1, none⟩ = some (.int .u32 0) := by simp [Lib.cell_of_heap nV]
    have d2 : w5.cell? ⟨w1.heap.size, 2, none⟩ = some (.int .i64 0) := by simp [Lib.cell_of_heap nV]
    have d3 : w5.cell? ⟨w1.heap.size, 3, none⟩ = some (.int .i64 0) := by simp [Lib.cell_of_heap nV]
    have d4 : w5.cell? ⟨w1.heap.size, 4, none⟩ = some (.int .u32 0) := by simp [Lib.cell_of_heap nV]
    have d5 : w5.cell? ⟨w1.heap.size, 5, none⟩ = some (.int .u32 0) := by simp [Lib.cell_of_heap nV]
    have d6 : w5.cell? ⟨w1.heap.size, 6, none⟩ = some (.bool false) := by simp [Lib.cell_of_heap nV]
    have d7 : w5.cell? ⟨w1.heap.size, 7, none⟩ = some (.int .i64 0) := by simp [Lib.cell_of_heap nV]
    have df : ∀ j, w5.frozen? ⟨w1.heap.size, j, none⟩ = false := frz nV
    have HS := hide (wk_set nV r.ws r.wg r.ar zVa false 0)
    clear nV
    go_wp2_with fail
    refine bodyPost_ret (v := .tuple #[wkV r.ws r.wg r.ar zVa false 0, .bool true]) (res_wakeFirst _ w1.heap.size _ r.ws r.wg r.ar zVa false 0 true rfl rfl HS.out.1) rfl ?_
    have hz := HZ.out
    have h3 := (Array.getElem?_eq_some_iff.1 HN.out.2).1
    exact ⟨rfl, F2, face.ch P2.out.1 HS.out.2 (fun y hy e => by rcases P2.out.2 y hy with e2 | e2; exact HFA.out _ (by omega) e2; have := C2.out.size; omega), ((((CB.out.trans C2.out (fun _ _ h => h)).mono (Q' := F) (fun _ _ h => h.elim)).trans C5.out (fun _ _ h => h)).trans HS.out.2 (fun y hy e => by omega)), fun y hy => (P2.out.2 y hy).imp_right (fun e => by have := CB.out.size; have := C2.out.size; omega)⟩
end

end Go.Proofs.Ytoabhmpakcgloaa

namespace Go.Proofs.Ytoabhmpakcgloaa
open Go.RowKit

/-- who waits first in a row is woken, if there is one -/
def WF (Q : Wt → Bool) (l : List Wt) (q : Bool) (k : Wk) (l2 : List Wt) : Prop :=
  (q = false ∧ sel Q l = [] ∧ k = ⟨0, 0, 0, zVa, false, 0⟩ ∧ l2 = l) ∨ (q = true ∧ ∃ r rest, sel Q l = r :: rest ∧ k = ⟨r.ws, r.wg, r.ar, zVa, false, 0⟩ ∧ l2 = leaW l r.ws r.wg)
abbrev wkT (k : Wk) : Value := wkV k.s k.g k.a k.v k.ok k.f
theorem wk_setA {w : World} {A : Nat} {k0 : Wk} (hn : w.heap[A]? = some (.cells (wkL k0).toArray 53 (0, 0))) (k : Wk) : ((((((((w.setCell ⟨A, 0, none⟩ (.int .u32 k.s)).setCell ⟨A, 1, none⟩ (.int .u32 k.g)).setCell ⟨A, 2, none⟩ (.int .i64 k.a)).setCell ⟨A, 3, none⟩ (.int .i64 k.v.n)).setCell ⟨A, 4, none⟩ (.int .u32 k.v.s)).setCell ⟨A, 5, none⟩ (.int .u32 k.v.g)).setCell ⟨A, 6, none⟩ (.bool k.ok)).setCell ⟨A, 7, none⟩ (.int .i64 k.f)).heap[A]? = some (.cells (wkL k).toArray 53 (0, 0)) ∧ Ch (fun y => y = A) w ((((((((w.setCell ⟨A, 0, none⟩ (.int .u32 k.s)).setCell ⟨A, 1, none⟩ (.int .u32 k.g)).setCell ⟨A, 2, none⟩ (.int .i64 k.a)).setCell ⟨A, 3, none⟩ (.int .i64 k.v.n)).setCell ⟨A, 4, none⟩ (.int .u32 k.v.s)).setCell ⟨A, 5, none⟩ (.int .u32 k.v.g)).setCell ⟨A, 6, none⟩ (.bool k.ok)).setCell ⟨A, 7, none⟩ (.int .i64 k.f)) :=
  ⟨set_all (wkL k) [] (wkL k0) w rfl hn, wrsA w A (wkL k)⟩
section
variable {w : World} {B c bp M : Nat} {F : Nat → Prop} {l : List Wt} {ts : List Th}
/-- a box of another kind is none of theirs -/
theorem LI.nbox (h : LI w B c bp M F l ts) {b : Nat} {a : Array Value} {T : TypeId} (hb : w.heap[b]? = some (.cells a T (0, 0))) (h1 : 78 ≠ T) (h2 : 124 ≠ T) (h3 : 81 ≠ T) (h4 : 94 ≠ T) (h5 : 106 ≠ T) : ∀ y, (y = c ∨ y = M ∨ F y ∨ ∃ x ∈ ts, y = x.b) → ¬ y = b := by
  intro y hy e
  subst e
  rcases hy with hy | hy | hy | ⟨x, hx, hy⟩
  · exact box_ne h.box hb h3 hy.symm
  · exact MapF.ne_cells h.mp hb hy
  · exact h.bk.nbk hb h1 h2 hy
  · exact box_ne (h.th x hx) hb (thT_ne x h4 h5) hy.symm
theorem wakeFirst_is (h : LI w B c bp M F l ts) (hl : l.length ≤ 100000) (wo : WtOk l) {s g d : Int} (us : UsW s) (ug : UsW g) (id : I64 d) :
    Calls Try.prog 30 #[.pointer (some ⟨c, 0, none⟩), rvW s g d] w fun e w' => ∃ k q F' l2, e = .returned (.tuple #[wkT k, .bool q]) ∧ WF (inRow s g d) l q k l2 ∧ LI w' B c bp M F' l2 ts ∧ Ch F w w' ∧ ∀ y, F' y → F y ∨ w.heap.size ≤ y := by
  cases hs : sel (inRow s g d) l with
  | nil =>
    refine (wakeFirst_none h hl us ug id hs).mono ?_
    rintro e w' ⟨rfl, hb⟩
    exact ⟨⟨0, 0, 0, zVa, false, 0⟩, false, F, l, rfl, .inl ⟨rfl, hs, rfl, rfl⟩, h.quiet (Ch.of_below hb), Ch.of_below hb, fun y hy => .inl hy⟩
  | cons r rest =>
    have ok := wo.sel (inRow s g d) (r := r) (by rw [hs]; exact List.mem_cons_self ..)
    refine (wakeFirst_some h hl us ug id hs ok.w1 ok.w2).mono ?_
    rintro e w' ⟨rfl, F', hp, hc, hd⟩
    exact ⟨⟨r.ws, r.wg, r.ar, zVa, false, 0⟩, true, F', _, rfl, .inr ⟨rfl, r, rest, hs, rfl, rfl⟩, h.book hp hc hd, hc, hd⟩
theorem WF.len {Q : Wt → Bool} {q : Bool} {k : Wk} {l2 : List Wt} (h : WF Q l q k l2) : l2.length = l.length ∧ (WtOk l → WtOk l2) := by
  rcases h with ⟨-, -, -, rfl⟩ | ⟨-, r, rest, -, -, rfl⟩
  · exact ⟨rfl, id⟩
  · exact ⟨leaW_len .., fun h => h.lea _ _⟩

set_option maxRecDepth 100000 in
set_option maxHeartbeats 16000000 in
theorem wakeAll_is (h : LI w B c bp M F l ts) (hl : l.length ≤ 100000) (wo : WtOk l) {s g d : Int} (us : UsW s) (ug : UsW g) (id : I64 d) :
    Calls Try.prog 35 #[.pointer (some ⟨c, 0, none⟩), rvW s g d] w fun e w' => ∃ sv F' ws l', e = .returned sv ∧ WA (inRow s g d) zVa false 0 l ws l' ∧ LI w' B c bp M F' l' ts ∧ WkRow w' w.heap.size sv ws ∧ Ch F w w' ∧ ∀ y, F' y → F y ∨ w.heap.size ≤ y := by
  obtain ⟨i0, hi0, hz0, hz1, hz2⟩ := nf_open nfWk
  have HF := hide (show ∀ y, F y → y < w.heap.size from fun y hy => (face.foot h.bk y hy).2)
  obtain ⟨w1, hw1⟩ : ∃ z, w.alloc (.cells #[.int .u32 s, .int .u32 g, .int .i64 d] 60) = z := ⟨_, rfl⟩
  have hc1 : Ch (fun _ => False) w w1 := by rw [← hw1]; exact Ch.alloc _ _
  have hz1 : w1.heap.size = w.heap.size + 1 := by rw [← hw1, World.size_alloc]
  have hn1 : w1.heap[w.heap.size]? = some (.cells #[.int .u32 s, .int .u32 g, .int .i64 d] 60 (0, 0)) := by rw [← hw1]; exact heap_new _ _
  have HN := hide hn1
  have HZ := hide hz1
  have C1 := hide hc1
  have H1 := hide (h.quiet hc1)
  have p0 : w1.cell? ⟨w.heap.size, 0, none⟩ = some (.int .u32 s) := by simp [Lib.cell_of_heap hn1]
  have p1 : w1.cell? ⟨w.heap.size, 1, none⟩ = some (.int .u32 g) := by simp [Lib.cell_of_heap hn1]
  have p2 : w1.cell? ⟨w.heap.size, 2, none⟩ = some (.int .i64 d) := by simp [Lib.cell_of_heap hn1]
  clear h hc1 hz1 hn1
  go_enter Try.func35, Try.ntmps35
  go_wp2_with fail
  clear hw1 p0 p1 p2
  refine (wakeFirst_is H1.out hl wo us ug id).mono ?_
  rintro e w3 ⟨k, q, F3, l3, rfl, hwf, h3, hc3, hd3⟩
  have HWF := hide hwf
  have D3 := hide hd3
  have HN3 := hide (hc3.box HN.out (fun e => by have := HF.out _ e; omega))
  have S3 := hide hc3.size
  have C3 := hide ((C1.out.mono (Q' := F) (fun _ _ h => h.elim)).trans hc3 (fun _ _ h => h))
  have H3 := hide h3
  clear hwf h3 hc3 hd3
  obtain ⟨w4, hw4⟩ : ∃ z, w3.alloc (.cells #[.int .u32 k.s, .int .u32 k.g, .int .i64 k.a, .int .i64 k.v.n, .int .u32 k.v.s, .int .u32 k.v.g, .bool k.ok, .int .i64 k.f] 53) = z := ⟨_, rfl⟩
  have c34 : Ch (fun _ => False) w3 w4 := by rw [← hw4]; exact Ch.alloc _ _
  have H4 := hide (And.intro (show w4.heap[w3.heap.size]? = some (.cells (wkL k).toArray 53 (0, 0)) by rw [← hw4]; exact heap_new _ _) c34)
  have HW4 := hide hw4
  clear c34 hw4
  go_wp2_with fail
  try rw [HW4.out]
  go_loopw [5, 6, 7] (fun t bv qv wr => ∃ (b6 : Nat) (q : Bool) (k : Wk) (l1 : List Wt), bv = .pointer (some ⟨b6, 0, none⟩) ∧ qv = .bool q ∧ Hid ((∃ acc, WkRow wr w3.heap.size t acc ∧ (q = false → WA (inRow s g d) zVa false 0 l acc l1) ∧ (q = true → (∀ ws l', WA (inRow s g d) zVa false 0 l1 ws l' → WA (inRow s g d) zVa false 0 l (acc ++ k :: ws) l') ∧ acc.length + 1 + (sel (inRow s g d) l1).length ≤ (sel (inRow s g d) l).length)) ∧ (∃ F1, LI wr B c bp M F1 l1 ts ∧ ∀ y, F1 y → F y ∨ w.heap.size ≤ y) ∧ wr.heap[b6]? = some (.cells (wkL k).toArray 53 (0, 0)) ∧ (w3.heap.size ≤ b6 ∧ ¬ t.ownBlock = some b6) ∧ (l1.length = l.length ∧ WtOk l1) ∧ wr.heap[w.heap.size]? = some (.cells #[.int .u32 s, .int .u32 g, .int .i64 d] 60 (0, 0)) ∧ Ch F w wr ∧ w3.heap.size ≤ wr.heap.size)) (fun t _ _ _ => (sel (inRow s g d) l).length - lenV t)
  case atStart =>
    have hln := HWF.out.len
    refine ⟨w3.heap.size, q, k, l3, rfl, rfl, hide ⟨⟨[], Row.nil _ _, fun hq => ?_, fun hq => ?_⟩, ⟨F3, H3.out.quiet H4.out.2, fun y hy => (D3.out y hy).imp_right (fun e => by have := HZ.out; omega)⟩, H4.out.1, ⟨Nat.le_refl _, by simp [Value.ownBlock]⟩, ⟨hln.1, hln.2 wo⟩, H4.out.2.box HN3.out (fun h => h), C3.out.trans H4.out.2 (fun _ _ h => h.elim), H4.out.2.size⟩⟩
    · rcases HWF.out with ⟨-, e1, -, rfl⟩ | ⟨e1, -⟩
      · exact WA.nil e1
      · rw [hq] at e1; cases e1
    · rcases HWF.out with ⟨e1, -⟩ | ⟨-, r, rest, e1, rfl, rfl⟩
      · rw [hq] at e1; cases e1
      · exact ⟨fun ws l' hw => WA.cons e1 hw, by have := sel_lea_lt e1; simp only [List.length_nil]; omega⟩
  case round =>
    obtain ⟨b6, q, k, l1, rfl, rfl, HI⟩ := hrel
    obtain ⟨W0, rfl⟩ : ∃ x, x = wr := ⟨_, rfl⟩
    obtain ⟨t0, et⟩ : ∃ u, u = u5 := ⟨_, rfl⟩
    subst et
    obtain ⟨⟨acc, hrow, hwn, hwa⟩, ⟨F1, hli, hf1⟩, hbox, ⟨hb6, hown⟩, ⟨hll, wo1⟩, hrb, hch⟩ := HI.out
    cases q with
    | false =>
      have HA := hide (hwn rfl)
      have HRW := hide hrow
      have HLI := hide (And.intro hli hf1)
      have HCH := hide hch
      clear hwn hwa hrow hli hf1 hbox hb6 hown hll wo1 hrb hch HI
      go_wp2_with fail
      go_ret
      have s3 := S3.out
      have z1 := HZ.out
      exact ⟨_, F1, acc, l1, rfl, HA.out, HLI.out.1, rowLow HRW.out (by omega), HCH.out.1, HLI.out.2⟩
    | true =>
      obtain ⟨hwa, hlen⟩ := hwa rfl
      have HWA := hide hwa
      have HLEN := hide hlen
      have HLI := hide (And.intro hli hf1)
      have HROW := hide hrow
      have HB := hide hbox
      have HOW0 := hide (And.intro hb6 hown)
      have HL1 := hide (And.intro hll wo1)
      have HRB := hide hrb
      have HCH := hide hch
      have x0 : W0.cell? ⟨b6, 0, none⟩ = some (.int .u32 k.s) := by simp [Lib.cell_of_heap hbox, wkL, wkF]
      have x1 : W0.cell? ⟨b6, 1, none⟩ = some (.int .u32 k.g) := by simp [Lib.cell_of_heap hbox, wkL, wkF]
      have x2 : W0.cell? ⟨b6, 2, none⟩ = some (.int .i64 k.a) := by simp [Lib.cell_of_heap hbox, wkL, wkF]
      have x3 : W0.cell? ⟨b6, 3, none⟩ = some (.int .i64 k.v.n) := by simp [Lib.cell_of_heap hbox, wkL, wkF]
      have x4 : W0.cell? ⟨b6, 4, none⟩ = some (.int .u32 k.v.s) := by simp [Lib.cell_of_heap hbox, wkL, wkF]
      have x5 : W0.cell? ⟨b6, 5, none⟩ = some (.int .u32 k.v.g) := by simp [Lib.cell_of_heap hbox, wkL, wkF]
      have x6 : W0.cell? ⟨b6, 6, none⟩ = some (.bool k.ok) := by simp [Lib.cell_of_heap hbox, wkL, wkF]
      have x7 : W0.cell? ⟨b6, 7, none⟩ = some (.int .i64 k.f) := by simp [Lib.cell_of_heap hbox, wkL, wkF]
      clear hwn hwa hlen hrow hli hf1 hbox hb6 hown hll wo1 hrb hch HI
      have HOW := hide (World.ownsRow.alloc HROW.out (.cells #[.int .u32 k.s, .int .u32 k.g, .int .i64 k.a, .int .i64 k.v.n, .int .u32 k.v.s, .int .u32 k.v.g, .bool k.ok, .int .i64 k.f] 53))
      have HN1 := hide (row_new W0 (wkL k) 53 rfl)
      have HM0 := hide (show acc.length ≤ 100000 by have h1 := HLEN.out; have h2 := sel_le (inRow s g d) l; omega)
      have HM1 := hide (show acc.length + 1 ≤ maxLen by unfold maxLen; have := HM0.out; omega)
      have HM2 := hide (show (acc.length + 1) * 48 ≤ 140737488355328 by have := HM0.out; omega)
      have HM3 := hide (show w3.heap.size ≤ (W0.alloc (.cells #[.int .u32 k.s, .int .u32 k.g, .int .i64 k.a, .int .i64 k.v.n, .int .u32 k.v.s, .int .u32 k.v.g, .bool k.ok, .int .i64 k.f] 53)).heap.size by have h2 := HCH.out.2; simp; omega)
      go_wp2_with (at_builtin; refine wpList_append_own_at _ rfl _ _ 44 rfl w3.heap.size 53 i0 (wkV 0 0 0 zVa false 0) 8 48 Try.underlying44 hi0 hz0 hz1 hz2 rfl (by decide) _ acc.length (acc.flatMap wkL) rfl HOW.out ⟨W0.heap.size, 0, none⟩ 1 1 (wkL k) rfl rfl HN1.out (wkL_one _) HM1.out HM2.out HM3.out ?_)
      intro v5 w5 hown5 hgrow5 hob5 _
      clear x0 x1 x2 x3 x4 x5 x6 x7
      have R5 := hide (show WkRow w5 w3.heap.size v5 (acc ++ [k]) from Row.snoc hown5)
      have c05 := hide ((Ch.alloc (Q := fun y => t0.ownBlock = some y) W0 (.cells #[.int .u32 k.s, .int .u32 k.g, .int .i64 k.a, .int .i64 k.v.n, .int .u32 k.v.s, .int .u32 k.v.g, .bool k.ok, .int .i64 k.f] 53)).trans (Ch.of_grown (Q := fun y => t0.ownBlock = some y) hgrow5 (fun _ e => e)) (fun _ _ h => h))
      have hto : ∀ {b : Nat} {cs : Array Value} {T : TypeId}, W0.heap[b]? = some (.cells cs T (0, 0)) → 53 ≠ T → ¬ t0.ownBlock = some b := fun hb hT => own_box HROW.out hb hT
      have B5 := hide (c05.out.box HB.out HOW0.out.2)
      have RB5 := hide (c05.out.box HRB.out (hto HRB.out (by decide)))
      have LI5 := hide (HLI.out.1.frame c05.out (fun y hy e => by obtain ⟨_, _, cur, e2⟩ := own_in HROW.out e; exact HLI.out.1.nbox e2 (by decide) (by decide) (by decide) (by decide) (by decide) y hy rfl))
      clear hown5 hgrow5 hto hob5
      obtain ⟨W6, hW6⟩ : ∃ z, w5.alloc (.cells #[.int .u32 k.s, .int .u32 k.g, .int .i64 k.a, .int .i64 k.v.n, .int .u32 k.v.s, .int .u32 k.v.g, .bool k.ok, .int .i64 k.f] 53) = z := ⟨_, rfl⟩
      have c56 : Ch (fun _ => False) w5 W6 := by rw [← hW6]; exact Ch.alloc _ _
      have B6 := hide (show W6.heap[w5.heap.size]? = some (.cells (wkL k).toArray 53 (0, 0)) by rw [← hW6]; exact heap_new _ _)
      have RB6 := hide (c56.box RB5.out (fun h => h))
      have LI6 := hide (LI5.out.quiet c56)
      have R6 := hide (Row.ch R5.out c56 (fun _ _ h => h))
      have OW6 := hide (show ¬ v5.ownBlock = some w5.heap.size from fun e => by have := (own_in R5.out e).2.1; omega)
      have C56 := hide c56
      have HW6 := hide hW6
      have x0 : w5.cell? ⟨b6, 0, none⟩ = some (.int .u32 k.s) := by simp [Lib.cell_of_heap B5.out, wkL, wkF]
      have x1 : w5.cell? ⟨b6, 1, none⟩ = some (.int .u32 k.g) := by simp [Lib.cell_of_heap B5.out, wkL, wkF]
      have x2 : w5.cell? ⟨b6, 2, none⟩ = some (.int .i64 k.a) := by simp [Lib.cell_of_heap B5.out, wkL, wkF]
      have x3 : w5.cell? ⟨b6, 3, none⟩ = some (.int .i64 k.v.n) := by simp [Lib.cell_of_heap B5.out, wkL, wkF]
      have x4 : w5.cell? ⟨b6, 4, none⟩ = some (.int .u32 k.v.s) := by simp [Lib.cell_of_heap B5.out, wkL, wkF]
      have x5 : w5.cell? ⟨b6, 5, none⟩ = some (.int .u32 k.v.g) := by simp [Lib.cell_of_heap B5.out, wkL, wkF]
      have x6 : w5.cell? ⟨b6, 6, none⟩ = some (.bool k.ok) := by simp [Lib.cell_of_heap B5.out, wkL, wkF]
      have x7 : w5.cell? ⟨b6, 7, none⟩ = some (.int .i64 k.f) := by simp [Lib.cell_of_heap B5.out, wkL, wkF]
      have p0 : W6.cell? ⟨w.heap.size, 0, none⟩ = some (.int .u32 s) := by simp [Lib.cell_of_heap RB6.out]
      have p1 : W6.cell? ⟨w.heap.size, 1, none⟩ = some (.int .u32 g) := by simp [Lib.cell_of_heap RB6.out]
      have p2 : W6.cell? ⟨w.heap.size, 2, none⟩ = some (.int .i64 d) := by simp [Lib.cell_of_heap RB6.out]
      clear c56
      go_wp2_with fail
      clear x0 x1 x2 x3 x4 x5 x6 x7 p0 p1 p2 hW6
      try rw [HW6.out]
      refine (wakeFirst_is LI6.out (by rw [HL1.out.1]; exact hl) HL1.out.2 us ug id).mono ?_
      rintro e W7 ⟨k2, q2, F2, l2, rfl, hwf, h7, hc7, hd7⟩
      have HWF2 := hide hwf
      have D7 := hide hd7
      have C7 := hide hc7
      have LI7 := hide h7
      have HF1 := hide (show ∀ y, F1 y → ¬ y = w5.heap.size from fun y hy e => by have := (face.foot LI5.out.bk y hy).2; omega)
      have b7 := hc7.box B6.out (fun e => HF1.out _ e rfl)
      have x0 : W7.cell? ⟨w5.heap.size, 0, none⟩ = some (.int .u32 k.s) := by simp [Lib.cell_of_heap b7, wkL, wkF]
      have x1 : W7.cell? ⟨w5.heap.size, 1, none⟩ = some (.int .u32 k.g) := by simp [Lib.cell_of_heap b7, wkL, wkF]
      have x2 : W7.cell? ⟨w5.heap.size, 2, none⟩ = some (.int .i64 k.a) := by simp [Lib.cell_of_heap b7, wkL, wkF]
      have x3 : W7.cell? ⟨w5.heap.size, 3, none⟩ = some (.int .i64 k.v.n) := by simp [Lib.cell_of_heap b7, wkL, wkF]
      have x4 : W7.cell? ⟨w5.heap.size, 4, none⟩ = some (.int .u32 k.v.s) := by simp [Lib.cell_of_heap b7, wkL, wkF]
      have x5 : W7.cell? ⟨w5.heap.size, 5, none⟩ = some (.int .u32 k.v.g) := by simp [Lib.cell_of_heap b7, wkL, wkF]
      have x6 : W7.cell? ⟨w5.heap.size, 6, none⟩ = some (.bool k.ok) := by simp [Lib.cell_of_heap b7, wkL, wkF]
      have x7 : W7.cell? ⟨w5.heap.size, 7, none⟩ = some (.int .i64 k.f) := by simp [Lib.cell_of_heap b7, wkL, wkF]
      have xf : ∀ j, W7.frozen? ⟨w5.heap.size, j, none⟩ = false := frz b7
      have HS := hide (wk_setA b7 k2)
      have B7 := hide b7
      have R7 := hide (Row.ch R6.out hc7 (fun b hb e => by obtain ⟨_, _, cur, e2⟩ := own_in R6.out hb; exact LI6.out.bk.nbk e2 (by decide) (by decide) e))
      obtain ⟨a5, c5, hv5, -, -⟩ := R5.out.form
      obtain ⟨a0, c0, hv0, -, -⟩ := HROW.out.form
      have HV := hide (And.intro hv5 hv0)
      clear hwf h7 hc7 hd7 b7 hv5 hv0
      go_wp2_with fail
      refine ⟨?rel, ?measure⟩
      case rel =>
        have hln := HWF2.out.len
        have sz2 := c05.out.size
        have sz3 := HCH.out.2
        have sz4 := C56.out.size
        have sz7 := C7.out.size
        have sz8 := HS.out.2.size
        have sz0 := S3.out
        have sz1 := HZ.out
        refine ⟨w5.heap.size, q2, k2, l2, rfl, rfl, hide ⟨⟨acc ++ [k], Row.ch R7.out HS.out.2 (fun b hb e => OW6.out (by rw [hb, e])), fun hq => ?_, fun hq => ?_⟩, ⟨F2, LI7.out.frame HS.out.2 (LI7.out.nbox B7.out (by decide) (by decide) (by decide) (by decide) (by decide)), fun y hy => ?_⟩, HS.out.1, ⟨by omega, OW6.out⟩, ⟨by rw [hln.1]; exact HL1.out.1, hln.2 HL1.out.2⟩, ?_, ?_, by omega⟩⟩
        · rcases HWF2.out with ⟨-, e1, -, rfl⟩ | ⟨e1, -⟩
          · exact HWA.out [] _ (WA.nil e1)
          · rw [hq] at e1; cases e1
        · rcases HWF2.out with ⟨e1, -⟩ | ⟨-, r, rest, e1, rfl, rfl⟩
          · rw [hq] at e1; cases e1
          · refine ⟨fun ws l' hw => ?_, ?_⟩
            · rw [List.append_assoc]
              exact HWA.out _ _ (WA.cons e1 hw)
            · have h1 := HLEN.out
              have h2 := sel_lea_lt e1
              rw [List.length_append, List.length_singleton]
              omega
        · rcases D7.out y hy with e | e
          · exact HLI.out.2 y e
          · have := C56.out.size
            exact .inr (by omega)
        · refine HS.out.2.box (C7.out.box RB6.out (fun e => LI6.out.bk.nbk RB6.out (by decide) (by decide) e)) (fun e => ?_)
          have := (Array.getElem?_eq_some_iff.1 HN.out).1
          have := C1.out.size
          omega
        · exact (((HCH.out.1.trans c05.out (Q := F) (fun y hy e => by have k1 := (own_in HROW.out e).1; omega)).trans C56.out (fun _ _ h => h.elim)).trans C7.out (fun y hy e => (HLI.out.2 y e).elim (fun e => e) (fun e2 => by omega))).trans HS.out.2 (fun y hy e => by omega)
      case measure =>
        rw [HV.out.1, HV.out.2]
        show (sel (inRow s g d) l).length - (acc ++ [k]).length < (sel (inRow s g d) l).length - acc.length
        rw [List.length_append, List.length_singleton]
        have h1 := HLEN.out
        omega
end

end Go.Proofs.Ytoabhmpakcgloaa

namespace Go.Proofs.Ytoabhmpakcgloaa
open Go.RowKit

abbrev kmt0 : Oper := { dst := some 24, op := Op.move (Operand.tmp 0), type := 26, pos := "locks.go:32", after := #[], guard := none }
abbrev kmt1 : Oper := { dst := some 25, op := Op.nilCheck (Operand.tmp 24), type := 0, pos := "locks.go:32", after := #[{ on := 0, ground := Ground.data }], guard := none }
abbrev kmt2 : Oper := { dst := some 26, op := Op.fieldAddr 81 (Operand.tmp 25) 1, type := 0, pos := "locks.go:32", after := #[{ on := 1, ground := Ground.data }], guard := none }
abbrev kmt3 : Oper := { dst := some 27, op := Op.load 79 (Operand.tmp 26), type := 79, pos := "locks.go:32", after := #[{ on := 2, ground := Ground.data }], guard := none }
abbrev kmt4 : Oper := { dst := some 28, op := Op.load 35 (Operand.tmp 4), type := 35, pos := "locks.go:32", after := #[], guard := none }
abbrev kmt5 : Oper := { dst := some 29, op := Op.move (Operand.tmp 7), type := 83, pos := "locks.go:32", after := #[], guard := none }
abbrev kmt6 : Oper := { dst := none, op := Op.mapUpdate 79 (Operand.tmp 27) (Operand.tmp 28) (Operand.tmp 29), type := 0, pos := "locks.go:32", after := #[{ on := 3, ground := Ground.data }, { on := 4, ground := Ground.data }, { on := 5, ground := Ground.data }, { on := 0, ground := Ground.phase }, { on := 1, ground := Ground.phase }, { on := 2, ground := Ground.phase }, { on := 3, ground := Ground.phase }, { on := 4, ground := Ground.phase }, { on := 5, ground := Ground.phase }], guard := none }

/-- what came of a call lies on, in a box of the caller -/
theorem LL.on {w0 w w' w2 : World} {B c bp M : Nat} {F : Nat → Prop} {l : List Wt} {ts : List Th} {l2 : List Wt} {ls2 : List Lk} (h0 : LI w0 B c bp M F l ts) (c0 : Ch (fun _ => False) w0 w) (k : LL w w' B c bp M F ts l2 ls2) {A : Nat} (hA : w0.heap.size ≤ A) (hA2 : A < w.heap.size) (hc : Ch (fun y => y = A) w' w2) : LL w0 w2 B c bp M F ts l2 ls2 := by
  obtain ⟨F', ts', h1, h2, h3, h4⟩ := k.st
  exact ⟨⟨F', ts', h1.frame hc (h0.apart (N := w.heap.size) h3 h4 hA hA2), h2, fun y hy => (h3 y hy).imp_right (fun e => Nat.le_trans c0.size e), h4⟩, ((c0.mono (Q' := fun y => F y ∨ ∃ u ∈ ts, y = u.b) (fun _ _ h => h.elim)).trans k.ch (fun _ _ h => h)).trans hc (fun y hy e => by omega)⟩

theorem res_lock (tm : Array Value) (A : Nat) (Z : World) (fate n a b : Int) (ok : Bool) (wk : Value) (q : Int) (h2 : tm[6]?.getD undef = .pointer (some ⟨A, 0, none⟩)) (h3 : tm[7]?.getD undef = .int .i64 q) (hb : Z.heap[A]? = some (.cells #[.int .i64 fate, .int .i64 n, .int .u32 a, .int .u32 b, .bool ok, wk] 46 (0, 0))) :
    (results Try.f12 tm).run Try.prog Z = .ok (.tuple #[didV fate ⟨n, a, b⟩ ok wk, .int .i64 q]) Z := by
  have e := Lib.cell_of_heap hb
  simp [results, Try.f12, h2, h3, go_sem, e]
set_option maxRecDepth 100000 in
set_option maxHeartbeats 4000000 in
theorem lock_lis {w : World} {B c bp M : Nat} {F : Nat → Prop} {l : List Wt} {ts : List Th} (h : LI w B c bp M F l ts) (hl : l.length ≤ 100000) {g x : Hnd} (ug : UsW g.1) (ug2 : UsW g.2) (ux : UsW x.1) (ux2 : UsW x.2) :
    Calls Try.prog 12 #[.pointer (some ⟨c, 0, none⟩), hkV g, hkV x] w fun e w' => e = .returned (.tuple #[didV (askK l (ts.map Th.ab) g x 2).1 zVa false (.slice none 0 0), .int .i64 (askK l (ts.map Th.ab) g x 2).2.1]) ∧ LL w w' B c bp M F ts (askK l (ts.map Th.ab) g x 2).2.2.1 (askK l (ts.map Th.ab) g x 2).2.2.2 := by
  obtain ⟨w1, hw1⟩ : ∃ z, w.alloc (.cells #[.int .u32 g.1, .int .u32 g.2] 35) = z := ⟨_, rfl⟩
  have hc1 : Ch (fun _ => False) w w1 := by rw [← hw1]; exact Ch.alloc _ _
  have hz1 : w1.heap.size = w.heap.size + 1 := by rw [← hw1, World.size_alloc]
  have hn1 : w1.heap[w.heap.size]? = some (.cells #[.int .u32 g.1, .int .u32 g.2] 35 (0, 0)) := by rw [← hw1]; exact heap_new _ _
  obtain ⟨w2, hw2⟩ : ∃ z, w1.alloc (.cells #[.int .u32 x.1, .int .u32 x.2] 35) = z := ⟨_, rfl⟩
  have hc2 : Ch (fun _ => False) w1 w2 := by rw [← hw2]; exact Ch.alloc _ _
  have hz2 : w2.heap.size = w1.heap.size + 1 := by rw [← hw2, World.size_alloc]
  have hn2 : w2.heap[w1.heap.size]? = some (.cells #[.int .u32 x.1, .int .u32 x.2] 35 (0, 0)) := by rw [← hw2]; exact heap_new _ _
  replace hn1 := hc2.box hn1 (fun h => h)
  obtain ⟨w3, hw3⟩ : ∃ z, w2.alloc (.cells #[.int .i64 0, .int .i64 0, .int .u32 0, .int .u32 0, .bool false, .slice none 0 0] 46) = z := ⟨_, rfl⟩
  have hc3 : Ch (fun _ => False) w2 w3 := by rw [← hw3]; exact Ch.alloc _ _
  have hz3 : w3.heap.size = w2.heap.size + 1 := by rw [← hw3, World.size_alloc]
  have hn3 : w3.heap[w2.heap.size]? = some (.cells #[.int .i64 0, .int .i64 0, .int .u32 0, .int .u32 0, .bool false, .slice none 0 0] 46 (0, 0)) := by rw [← hw3]; exact heap_new _ _
  replace hn1 := hc3.box hn1 (fun h => h)
  replace hn2 := hc3.box hn2 (fun h => h)
  have CB := hide ((hc1.trans hc2 (fun _ _ h => h)).trans hc3 (fun _ _ h => h))
  have HZ := hide (And.intro hz1 (And.intro hz2 hz3))
  have HNS := hide hn3
  have H0 := hide h
  have H := hide (h.quiet CB.out)
  have g0 : w3.cell? ⟨w.heap.size, 0, none⟩ = some (.int .u32 g.1) := by simp [Lib.cell_of_heap hn1]
  have g1 : w3.cell? ⟨w.heap.size, 1, none⟩ = some (.int .u32 g.2) := by simp [Lib.cell_of_heap hn1]
  have x0 : w3.cell? ⟨w1.heap.size, 0, none⟩ = some (.int .u32 x.1) := by simp [Lib.cell_of_heap hn2]
  have x1 : w3.cell? ⟨w1.heap.size, 1, none⟩ = some (.int .u32 x.2) := by simp [Lib.cell_of_heap hn2]
  have HASK := hide (ask_lis H.out hl ug ug2 ux ux2 (k := 2) (by decide))
  obtain ⟨⟨f, er, l2, ls2⟩, hrs⟩ : ∃ rs, askK l (ts.map Th.ab) g x 2 = rs := ⟨_, rfl⟩
  rw [hrs] at HASK
  rw [hrs]
  clear h hc1 hz1 hn1 hc2 hz2 hn2 hc3 hz3 hn3 hrs
  go_enter Try.func12, Try.ntmps12
  go_wp2_with fail
  clear hw1 hw2 hw3 g0 g1 x0 x1
  refine HASK.out.mono ?_
  rintro e w4 ⟨rfl, hll⟩
  have HL := hide hll
  have nV := hll.ch.box HNS.out (fun e => by have hz := HZ.out; rcases e with e | ⟨u, hu, e⟩; have := (face.foot H0.out.bk _ e).2; omega; have := (H0.out.th u hu).lt; omega)
  have d0 : w4.cell? ⟨w2.heap.size, 0, none⟩ = some (.int .i64 0) := by simp [Lib.cell_of_heap nV]
  have d1 : w4.cell? ⟨w2.heap.size, 1, none⟩ = some (.int .i64 0) := by simp [Lib.cell_of_heap nV]
  have d2 : w4.cell? ⟨w2.heap.size, 2, none⟩ = some (.int .u32 0) := by simp [Lib.cell_of_heap nV]
  have d3 : w4.cell? ⟨w2.heap.size, 3, none⟩ = some (.int .u32 0) := by simp [Lib.cell_of_heap nV]
  have d4 : w4.cell? ⟨w2.heap.size, 4, none⟩ = some (.bool false) := by simp [Lib.cell_of_heap nV]
  have d5 : w4.cell? ⟨w2.heap.size, 5, none⟩ = some (.slice none 0 0) := by simp [Lib.cell_of_heap nV]
  have df : ∀ j, w4.frozen? ⟨w2.heap.size, j, none⟩ = false := frz nV
  have HS := hide (did_set nV (.int .i64 f) (.int .i64 0) (.int .u32 0) (.int .u32 0) (.bool false) (.slice none 0 0))
  clear nV hll
  go_wp2_with fail
  refine bodyPost_ret (v := .tuple #[didV f zVa false (.slice none 0 0), .int .i64 er]) (res_lock _ w2.heap.size _ f 0 0 0 false _ er rfl rfl HS.out.1) rfl ⟨rfl, ?_⟩
  have hz := HZ.out
  exact LL.on H0.out CB.out HL.out (by omega) (by omega) HS.out.2

theorem res_wait (tm : Array Value) (A : Nat) (Z : World) (fate n a b : Int) (ok : Bool) (wk : Value) (q : Int) (h2 : tm[6]?.getD undef = .pointer (some ⟨A, 0, none⟩)) (h3 : tm[7]?.getD undef = .int .i64 q) (hb : Z.heap[A]? = some (.cells #[.int .i64 fate, .int .i64 n, .int .u32 a, .int .u32 b, .bool ok, wk] 46 (0, 0))) :
    (results Try.f16 tm).run Try.prog Z = .ok (.tuple #[didV fate ⟨n, a, b⟩ ok wk, .int .i64 q]) Z := by
  have e := Lib.cell_of_heap hb
  simp [results, Try.f16, h2, h3, go_sem, e]
set_option maxRecDepth 100000 in
set_option maxHeartbeats 4000000 in
theorem wait_lis {w : World} {B c bp M : Nat} {F : Nat → Prop} {l : List Wt} {ts : List Th} (h : LI w B c bp M F l ts) (hl : l.length ≤ 100000) {g x : Hnd} (ug : UsW g.1) (ug2 : UsW g.2) (ux : UsW x.1) (ux2 : UsW x.2) :
    Calls Try.prog 16 #[.pointer (some ⟨c, 0, none⟩), hkV g, hkV x] w fun e w' => e = .returned (.tuple #[didV (askK l (ts.map Th.ab) g x 3).1 zVa false (.slice none 0 0), .int .i64 (askK l (ts.map Th.ab) g x 3).2.1]) ∧ LL w w' B c bp M F ts (askK l (ts.map Th.ab) g x 3).2.2.1 (askK l (ts.map Th.ab) g x 3).2.2.2 := by
  obtain ⟨w1, hw1⟩ : ∃ z, w.alloc (.cells #[.int .u32 g.1, .int .u32 g.2] 35) = z := ⟨_, rfl⟩
  have hc1 : Ch (fun _ => False) w w1 := by rw [← hw1]; exact Ch.alloc _ _
  have hz1 : w1.heap.size = w.heap.size + 1 := by rw [← hw1, World.size_alloc]
  have hn1 : w1.heap[w.heap.size]? = some (.cells #[.int .u32 g.1, .int .u32 g.2] 35 (0, 0)) := by rw [← hw1]; exact heap_new _ _
  obtain ⟨w2, hw2⟩ : ∃ z, w1.alloc (.cells #[.int .u32 x.1, .int .u32 x.2] 35) = z := ⟨_, rfl⟩
  have hc2 : Ch (fun _ => False) w1 w2 := by rw [← hw2]; exact Ch.alloc _ _
  have hz2 : w2.heap.size = w1.heap.size + 1 := by rw [← hw2, World.size_alloc]
  have hn2 : w2.heap[w1.heap.size]? = some (.cells #[.int .u32 x.1, .int .u32 x.2] 35 (0, 0)) := by rw [← hw2]; exact heap_new _ _
  replace hn1 := hc2.box hn1 (fun h => h)
  obtain ⟨w3, hw3⟩ : ∃ z, w2.alloc (.cells #[.int .i64 0, .int .i64 0, .int .u32 0, .int .u32 0, .bool false, .slice none 0 0] 46) = z := ⟨_, rfl⟩
  have hc3 : Ch (fun _ => False) w2 w3 := by rw [← hw3]; exact Ch.alloc _ _
  have hz3 : w3.heap.size = w2.heap.size + 1 := by rw [← hw3, World.size_alloc]
  have hn3 : w3.heap[w2.heap.size]? = some (.cells #[.int .i64 0, .int .i64 0, .int .u32 0, .int .u32 0, .bool false, .slice none 0 0] 46 (0, 0)) := by rw [← hw3]; exact heap_new _ _
  replace hn1 := hc3.box hn1 (fun h => h)
  replace hn2 := hc3.box hn2 (fun h => h)
  have CB := hide ((hc1.trans hc2 (fun _ _ h => h)).trans hc3 (fun _ _ h => h))
  have HZ := hide (And.intro hz1 (And.intro hz2 hz3))
  have HNS := hide hn3
  have H0 := hide h
  have H := hide (h.quiet CB.out)
  have g0 : w3.cell? ⟨w.heap.size, 0, none⟩ = some (.int .u32 g.1) := by simp [Lib.cell_of_heap hn1]
  have g1 : w3.cell? ⟨w.heap.size, 1, none⟩ = some (.int .u32 g.2) := by simp [Lib.cell_of_heap hn1]
  have x0 : w3.cell? ⟨w1.heap.size, 0, none⟩ = some (.int .u32 x.1) := by simp [Lib.cell_of_heap hn2]
  have x1 : w3.cell? ⟨w1.heap.size, 1, none⟩ = some (.int .u32 x.2) := by simp [Lib.cell_of_heap hn2]
  have HASK := hide (ask_lis H.out hl ug ug2 ux ux2 (k := 3) (by decide))
  obtain ⟨⟨f, er, l2, ls2⟩, hrs⟩ : ∃ rs, askK l (ts.map Th.ab) g x 3 = rs := ⟨_, rfl⟩
  rw [hrs] at HASK
  rw [hrs]
  clear h hc1 hz1 hn1 hc2 hz2 hn2 hc3 hz3 hn3 hrs
  go_enter Try.func16, Try.ntmps16
  go_wp2_with fail
  clear hw1 hw2 hw3 g0 g1 x0 x1
  refine HASK.out.mono ?_
  rintro e w4 ⟨rfl, hll⟩
  have HL := hide hll
  have nV := hll.ch.box HNS.out (fun e => by have hz := HZ.out; rcases e with e | ⟨u, hu, e⟩; have := (face.foot H0.out.bk _ e).2; omega; have := (H0.out.th u hu).lt; omega)
  have d0 : w4.cell? ⟨w2.heap.size, 0, none⟩ = some (.int .i64 0) := by simp [Lib.cell_of_heap nV]
  have d1 : w4.cell? ⟨w2.heap.size, 1, none⟩ = some (.int .i64 0) := by simp [Lib.cell_of_heap nV]
  have d2 : w4.cell? ⟨w2.heap.size, 2, none⟩ = some (.int .u32 0) := by simp [Lib.cell_of_heap nV]
  have d3 : w4.cell? ⟨w2.heap.size, 3, none⟩ = some (.int .u32 0) := by simp [Lib.cell_of_heap nV]
  have d4 : w4.cell? ⟨w2.heap.size, 4, none⟩ = some (.bool false) := by simp [Lib.cell_of_heap nV]
  have d5 : w4.cell? ⟨w2.heap.size, 5, none⟩ = some (.slice none 0 0) := by simp [Lib.cell_of_heap nV]
  have df : ∀ j, w4.frozen? ⟨w2.heap.size, j, none⟩ = false := frz nV
  have HS := hide (did_set nV (.int .i64 f) (.int .i64 0) (.int .u32 0) (.int .u32 0) (.bool false) (.slice none 0 0))
  clear nV hll
  go_wp2_with fail
  refine bodyPost_ret (v := .tuple #[didV f zVa false (.slice none 0 0), .int .i64 er]) (res_wait _ w2.heap.size _ f 0 0 0 false _ er rfl rfl HS.out.1) rfl ⟨rfl, ?_⟩
  have hz := HZ.out
  exact LL.on H0.out CB.out HL.out (by omega) (by omega) HS.out.2

theorem new_lis {w : World} {B bp : Nat} {F : Nat → Prop} (h : PTb w B F bp []) (hB : B ≤ w.heap.size) : Calls Try.prog 8 #[.pointer (some ⟨bp, 0, none⟩)] w fun e w' => ∃ c M, e = .returned (.tuple #[.pointer (some ⟨c, 0, none⟩), .int .i64 0]) ∧ LI w' B c bp M F [] [] ∧ Below w.heap.size w w' := by
  have hmm : ∀ (t : TypeId) (w : World), (Instr.makeMap t none).run Try.prog w = .ok (.map (some w.heap.size)) (w.alloc (.map #[] 0)) := fun _ _ => rfl
  have H := hide h
  clear h
  go_enter Try.func8, Try.ntmps8
  go_wp2
  go_ret2
  have e0 := heap_new w (.map #[] 0)
  have e1 := heap_new (w.alloc (.map #[] 0)) (.cells #[.pointer (some ⟨bp, 0, none⟩), .map (some w.heap.size)] 81)
  have hb : Below w.heap.size w ((w.alloc (.map #[] 0)).alloc (.cells #[.pointer (some ⟨bp, 0, none⟩), .map (some w.heap.size)] 81)) := (below1 _ _).trans ((below1 _ _).mono (by rw [World.size_alloc]; exact Nat.le_succ _))
  rw [World.size_alloc] at e1
  refine ⟨w.heap.size + 1, w.heap.size, rfl, ⟨e1, ?_, face.ch H.out (Ch.of_below (Q := fun _ => False) hb) (fun _ _ h => h), fun x hx => (by cases hx), List.Pairwise.nil, List.Pairwise.nil, fun y hy => ?_, ⟨by omega, hB, fun x hx => (by cases hx)⟩, Nat.le_trans hB hb.size⟩, hb⟩
  · exact ⟨[], ⟨#[], 0, (Ch.alloc (Q := fun _ => False) _ _).box e0 (fun h => h), rfl⟩, by simp, fun _ => rfl, rfl⟩
  · have := (face.foot H.out y hy).2
    exact ⟨by omega, by omega, fun x hx => (by cases hx)⟩
theorem new_none (w : World) : Calls Try.prog 8 #[.pointer none] w fun e w' => e = .returned (.tuple #[.pointer none, .int .i64 1]) ∧ Below w.heap.size w w' := by
  go_enter Try.func8, Try.ntmps8
  go_wp2
  go_ret2
  exact ⟨rfl, Below.refl _ _⟩

end Go.Proofs.Ytoabhmpakcgloaa

namespace Go.Proofs.Ytoabhmpakcgloaa
open Go.RowKit

theorem fresh_m (w : World) : Calls Try.prog 24 #[.int .i64 2] w fun e w' => e = .returned (.iface 90 (.pointer (some ⟨w.heap.size, 0, none⟩))) ∧ w'.heap[w.heap.size]? = some (.cells #[.int .u32 0, .int .u32 0] 94 (0, 0)) ∧ Below w.heap.size w w' ∧ w'.heap.size = w.heap.size + 1 := by
  go_enter Try.func24, Try.ntmps24
  go_wp2
  go_ret
  exact ⟨rfl, heap_new _ _, below1 _ _, World.size_alloc _ _⟩
theorem fresh_g (w : World) : Calls Try.prog 24 #[.int .i64 3] w fun e w' => e = .returned (.iface 101 (.pointer (some ⟨w.heap.size, 0, none⟩))) ∧ w'.heap[w.heap.size]? = some (.cells #[.int .i64 0] 106 (0, 0)) ∧ Below w.heap.size w w' ∧ w'.heap.size = w.heap.size + 1 := by
  go_enter Try.func24, Try.ntmps24
  go_wp2
  go_ret
  exact ⟨rfl, heap_new _ _, below1 _ _, World.size_alloc _ _⟩
/-- a new one of kind k in block b -/
def frT (x : Hnd) (b : Nat) (k : Int) : Th := ⟨x, b, decide (k = 2), (0, 0), 0⟩
theorem fresh_is (w : World) (x : Hnd) {k : Int} (hk : k = 2 ∨ k = 3) : Calls Try.prog 24 #[.int .i64 k] w fun e w' => e = .returned (thV (frT x w.heap.size k)) ∧ ThAt w' (frT x w.heap.size k) ∧ Below w.heap.size w w' := by
  rcases hk with rfl | rfl
  · exact (fresh_m w).mono fun e w' h => ⟨h.1, h.2.1, h.2.2.1⟩
  · exact (fresh_g w).mono fun e w' h => ⟨h.1, h.2.1, h.2.2.1⟩

theorem nil_m (w : World) (p : Value) : (binOp .eql 83 (.iface 90 p) .nilIface).run Try.prog w = .ok (.bool false) w := by kernel_rfl
theorem nil_g (w : World) (p : Value) : (binOp .eql 83 (.iface 101 p) .nilIface).run Try.prog w = .ok (.bool false) w := by kernel_rfl
theorem nil_th (t : Th) (w : World) : (binOp .eql 83 (thV t) .nilIface).run Try.prog w = .ok (.bool false) w := by
  obtain ⟨h, b, mu, o, n⟩ := t
  cases mu with
  | true => exact nil_m w _
  | false => exact nil_g w _
theorem eg_m (w : World) (p : Value) (i : Nat) : (eqGuard .eql 83 (Operand.tmp i) (Operand.const .nilIface) (.iface 90 p) .nilIface).run Try.prog w = .ok () w := by kernel_rfl
theorem eg_g (w : World) (p : Value) (i : Nat) : (eqGuard .eql 83 (Operand.tmp i) (Operand.const .nilIface) (.iface 101 p) .nilIface).run Try.prog w = .ok () w := by kernel_rfl
theorem eg_th (t : Th) (w : World) (i : Nat) : (eqGuard .eql 83 (Operand.tmp i) (Operand.const .nilIface) (thV t) .nilIface).run Try.prog w = .ok () w := by
  obtain ⟨h, b, mu, o, n⟩ := t
  cases mu with
  | true => exact eg_m w _ i
  | false => exact eg_g w _ i
theorem nil_nil (w : World) : (binOp .neq 83 .nilIface .nilIface).run Try.prog w = .ok (.bool false) w := by kernel_rfl

theorem step_putT {ops : Array Oper} {o : Oper} {a : Act} {w : World} {M n : Nat} {f : Hnd → Option Value} {x : Hnd} {v : Value} {K : Act → World → Prop} {Q : Exit → Act → World → Prop} {Z : Prop} (hg : o.guard = none) (m y u : Operand) (hop : o.op = Op.mapUpdate 79 m y u)
    (hm : a.eval m = .map (some M)) (hM : MapF hkV w M f n) (hy : a.eval y = hkV x) (hu : a.eval u = v)
    (hK : ∀ w', MapF hkV w' M (updW f x (some v)) (if (f x).isSome then n else n + 1) → Ch (fun y => y = M) w w' → K (a.put o.dst undef) w') : if Region.wanted o (yielded ops a.tmps) = true then Oper.wp Try.prog o a w K Q else Z := by
  have hw : Region.wanted o (yielded ops a.tmps) = true := by simp [Region.wanted, hg]
  rw [if_pos hw]
  obtain ⟨w', h1, h2, h3⟩ := hM.put (x := x) (ktH w) Try.underlying79 v
  unfold Oper.wp
  simp [execOp, hop, hm, hy, hu, h1, Result.andThen]
  exact hK w' h2 h3

theorem fnt_snoc {ts : List Th} {z : Th} (hf : fnt ts z.h = none) : (fun h => (fnt (ts ++ [z]) h).map thV) = updW (fun h => (fnt ts h).map thV) z.h (some (thV z)) := by
  funext k
  unfold updW
  by_cases e : k = z.h
  · subst e
    rw [if_pos rfl]
    unfold fnt at hf ⊢
    rw [List.find?_append, hf]
    simp
  · rw [if_neg e]
    unfold fnt
    rw [List.find?_append]
    show _ = Option.map thV (List.find? (fun c => decide (c.h = k)) ts)
    cases ts.find? fun c => decide (c.h = k) with
    | some y => rfl
    | none =>
      have e2 : decide (z.h = k) = false := by simpa using fun h => e h.symm
      simp [e2]
theorem LI.more {w w' : World} {B c bp M : Nat} {F : Nat → Prop} {l : List Wt} {ts : List Th} (h : LI w B c bp M F l ts) {z : Th} (hz : ThAt w z) (hf : fnt ts z.h = none) (hn : ∀ x ∈ ts, z.b ≠ x.b) (hFb : ¬ F z.b) (hlo : B ≤ z.b) (hc : Ch (fun y => y = M) w w') (hm : MapF hkV w' M (updW (fun h => (fnt ts h).map thV) z.h (some (thV z))) (ts.length + 1)) : LI w' B c bp M F l (ts ++ [z]) := by
  have hzM : z.b ≠ M := MapF.ne_cells h.mp hz
  refine ⟨hc.box h.box h.ne, ?_, face.ch h.bk hc (fun y hy e => (h.far y hy).2.1 e), fun x hx => ?_, ?_, ?_, fun y hy => ⟨(h.far y hy).1, (h.far y hy).2.1, fun x hx => ?_⟩, ⟨h.lo.1, h.lo.2.1, fun x hx => ?_⟩, Nat.le_trans h.low hc.size⟩
  · rw [fnt_snoc hf, List.length_append, List.length_singleton]
    exact hm
  · rcases List.mem_append.1 hx with hx | hx
    · exact hc.box (h.th x hx) (h.sep x hx).2
    · rw [List.mem_singleton.1 hx]
      exact hc.box hz hzM
  · rw [List.pairwise_append]
    exact ⟨h.ap, List.pairwise_singleton _ _, fun a ha b hb => by rw [List.mem_singleton.1 hb]; exact fun e => hn a ha e.symm⟩
  · rw [List.pairwise_append]
    refine ⟨h.nd, List.pairwise_singleton _ _, fun a ha b hb => ?_⟩
    rw [List.mem_singleton.1 hb]
    intro e
    unfold fnt at hf
    have := List.find?_eq_none.1 hf a ha
    simp [e] at this
  · rcases List.mem_append.1 hx with hx | hx
    · exact (h.far y hy).2.2 x hx
    · rw [List.mem_singleton.1 hx]
      exact fun e => hFb (e ▸ hy)
  · rcases List.mem_append.1 hx with hx | hx
    · exact h.lo.2.2 x hx
    · rw [List.mem_singleton.1 hx]; exact hlo

set_option maxRecDepth 100000 in
set_option maxHeartbeats 8000000 in
theorem make_lis {w : World} {B c bp M : Nat} {F : Nat → Prop} {l : List Wt} {ts : List Th} (h : LI w B c bp M F l ts) {x : Hnd} (hnn : nnH x = false) {k : Int} (hk : k = 2 ∨ k = 3) (hf : fnt ts x = none) :
    Calls Try.prog 9 #[.pointer (some ⟨c, 0, none⟩), hkV x, .int .i64 k] w fun e w' => ∃ b, e = .returned (.int .i64 0) ∧ LI w' B c bp M F l (ts ++ [frT x b k]) ∧ Ch (fun y => y = M) w w' ∧ w.heap.size ≤ b := by
  obtain ⟨w1, hw1⟩ : ∃ z, w.alloc (.cells #[.int .u32 x.1, .int .u32 x.2] 35) = z := ⟨_, rfl⟩
  have hc1 : Ch (fun _ => False) w w1 := by rw [← hw1]; exact Ch.alloc _ _
  have hz1 : w1.heap.size = w.heap.size + 1 := by rw [← hw1, World.size_alloc]
  have hn1 : w1.heap[w.heap.size]? = some (.cells #[.int .u32 x.1, .int .u32 x.2] 35 (0, 0)) := by rw [← hw1]; exact heap_new _ _
  have HN := hide hn1
  have HZ := hide hz1
  have C1 := hide hc1
  have H0 := hide h
  have H1 := hide (h.quiet hc1)
  have HFN := hide hf
  have HNN := hide hnn
  clear h hc1 hz1 hn1 hf hnn
  go_enter Try.func9, Try.ntmps9
  go_wp2_with fail
  refine (fresh_is w1 x hk).mono ?_
  rintro e w2 ⟨rfl, ht, hb2⟩
  have C2 := hide (Ch.of_below (Q := fun _ => False) hb2)
  have HT := hide ht
  have HN2 := hide (C2.out.box HN.out (fun h => h))
  clear ht hb2 hw1
  have n0 : w2.cell? ⟨w.heap.size, 0, none⟩ = some (.int .u32 x.1) := by simp [Lib.cell_of_heap HN2.out]
  have n1 : w2.cell? ⟨w.heap.size, 1, none⟩ = some (.int .u32 x.2) := by simp [Lib.cell_of_heap HN2.out]
  have q1 := nil_th (frT x w1.heap.size k)
  have q0 := eg_th (frT x w1.heap.size k)
  go_wp2_with fail
  refine (isNone_nn w2 x).mono ?_
  rintro e w3 ⟨rfl, hb3⟩
  rw [HNN.out]
  have C3 := hide (C2.out.trans (Ch.of_below (Q := fun _ => False) hb3) (fun _ _ h => h))
  have HN3 := hide ((Ch.of_below (Q := fun _ => False) hb3).box HN2.out (fun h => h))
  have HT3 := hide ((Ch.of_below (Q := fun _ => False) hb3).box HT.out (fun h => h))
  clear hb3 n0 n1
  have n0 : w3.cell? ⟨w.heap.size, 0, none⟩ = some (.int .u32 x.1) := by simp [Lib.cell_of_heap HN3.out]
  have n1 : w3.cell? ⟨w.heap.size, 1, none⟩ = some (.int .u32 x.2) := by simp [Lib.cell_of_heap HN3.out]
  obtain ⟨vt, hvt⟩ : ∃ vt, thV (frT x w1.heap.size k) = vt := ⟨_, rfl⟩
  have HVT := hide hvt
  rw [hvt] at q0 q1 ⊢
  clear hvt
  go_wp2_with fail
  refine (at_lis (H1.out.quiet C3.out) x).mono ?_
  rintro e w4 ⟨rfl, hb4⟩
  rw [HFN.out]
  have q2 := nil_nil
  have C4 := hide (C3.out.trans (Ch.of_below (Q := fun _ => False) hb4) (fun _ _ h => h))
  have HN4 := hide ((Ch.of_below (Q := fun _ => False) hb4).box HN3.out (fun h => h))
  have HT4 := hide ((Ch.of_below (Q := fun _ => False) hb4).box HT3.out (fun h => h))
  clear hb4 n0 n1
  rw [show tpV none = .nilIface from rfl]
  go_wp2
  clear q0 q1 q2
  refine wp_reg (fun y => y = M) (R := fun V => Ch (fun _ => False) w4 V) (by kernel_rfl) (Ch.drew _) (fun V cV zk => ?_)
  have CV := hide (C4.out.trans cV (fun _ _ h => h))
  have HTV := hide (cV.box HT4.out (fun h => h))
  have HNV := hide (cV.box HN4.out (fun h => h))
  clear cV
  have HX := hide (fun wq (kq : Ch (fun y => y = M) V wq) => show wq.cell? ⟨c, 1, none⟩ = some (.map (some M)) ∧ wq.cell? ⟨w.heap.size, 0, none⟩ = some (.int .u32 x.1) ∧ wq.cell? ⟨w.heap.size, 1, none⟩ = some (.int .u32 x.2) from by
    have e1 := Lib.cell_of_heap (kq.box (CV.out.box H1.out.box (fun h => h)) H1.out.ne)
    have e2 := Lib.cell_of_heap (kq.box HNV.out (fun e => by have := H0.out.mp.lt; omega))
    exact ⟨by simp [e1], by simp [e2], by simp [e2]⟩)
  apply tk 0 kmt0 rfl (by kernel_rfl) (fun _ _ _ h => h) zk
  · intro wq zq
    go_simp
    try rfl
  go_frame
  apply tk 1 kmt1 rfl (by kernel_rfl) (fun _ _ _ h => h) zk
  · intro wq zq
    go_simp
    try rfl
  go_frame
  apply tk 2 kmt2 rfl (by kernel_rfl) (fun _ _ _ h => h) zk
  · intro wq zq
    go_simp
    try rfl
  go_frame
  apply tk 3 kmt3 rfl (by kernel_rfl) (fun _ _ _ h => h) zk
  · intro wq zq
    obtain ⟨s1, s2, s3⟩ := HX.out _ zq
    go_simp
    try rfl
  go_frame
  apply tk 4 kmt4 rfl (by kernel_rfl) (fun _ _ _ h => h) zk
  · intro wq zq
    obtain ⟨s1, s2, s3⟩ := HX.out _ zq
    go_simp
    try rfl
  go_frame
  apply tk 5 kmt5 rfl (by kernel_rfl) (fun _ _ _ h => h) zk
  · intro wq zq
    go_simp
    try rfl
  go_frame
  refine Go.Proofs.Ytoabhmpakcgloaa.rd 6 kmt6 rfl (by kernel_rfl) fun K hK => ?_
  refine step_putT (x := x) (v := vt) rfl (.tmp 27) (.tmp 28) (.tmp 29) rfl rfl (H1.out.quiet CV.out).mp rfl rfl (fun w5 hm5 hc5 => ?_)
  have HM5 := hide hm5
  have C5 := hide hc5
  have Z5 := hide (zk.trans hc5 (fun _ _ h => h))
  clear hm5 hc5
  refine hK.out _ _ ?_ (fun zk => ?_)
  · exact Z5.out
  clear hK K
  try go_frame
  refine wpAnyH_done (by kernel_rfl) ?_ _
  go_wp2
  go_ret
  have z1 := HZ.out
  have hm5 := HM5.out
  rw [show ((fnt ts x).map thV).isSome = false by rw [HFN.out]; rfl, ← HVT.out] at hm5
  refine ⟨w1.heap.size, rfl, LI.more (H1.out.quiet CV.out) HTV.out HFN.out (fun u hu e => ?_) (fun e => ?_) ?_ C5.out hm5, ((C1.out.trans CV.out (fun _ _ h => h)).mono (fun _ _ h => h.elim)).trans C5.out (fun _ _ h => h), by omega⟩
  · have := (H0.out.th u hu).lt
    have e : w1.heap.size = u.b := e
    omega
  · have := (face.foot H0.out.bk _ e).2
    change w1.heap.size < w.heap.size at this
    omega
  · show B ≤ w1.heap.size
    have := H0.out.low
    omega

end Go.Proofs.Ytoabhmpakcgloaa
