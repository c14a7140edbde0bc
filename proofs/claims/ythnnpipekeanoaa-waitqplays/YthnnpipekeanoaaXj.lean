/- Layer 11: the law's step: Leave. -/
import Derived.Test.YthnnpipekeanoaaXi
namespace Go.Proofs.Ythnnpipekeanoaa
open Go.RowKit

variable {wB : World} {PT : World → Nat → (Nat → Prop) → Nat → List Wt → Prop} {C : Nat → Nat} {w w' : World} {B T p b : Nat} {F : Nat → Prop} {l : List Wt} {hs : List (Int × Int)} {av ov tv lv wv : Value} {ls ws : List Value} {rs : List (List Rc)} {n : Nat}

abbrev pj0 : Oper := { dst := some 108, op := Op.move (Operand.tmp 0), type := 24, pos := "law.go:107", after := #[], guard := none }
abbrev pj1 : Oper := { dst := some 109, op := Op.nilCheck (Operand.tmp 108), type := 0, pos := "law.go:107", after := #[{ on := 0, ground := Ground.data }], guard := none }
abbrev pj2 : Oper := { dst := some 110, op := Op.fieldAddr 37 (Operand.tmp 109) 0, type := 0, pos := "law.go:107", after := #[{ on := 1, ground := Ground.data }], guard := none }
abbrev pj3 : Oper := { dst := some 111, op := Op.load 25 (Operand.tmp 110), type := 25, pos := "law.go:107", after := #[{ on := 2, ground := Ground.data }], guard := none }
abbrev pj4 : Oper := { dst := some 112, op := Op.fieldAddr 48 (Operand.tmp 3) 4, type := 0, pos := "law.go:107", after := #[], guard := none }
abbrev pj5 : Oper := { dst := some 113, op := Op.load 41 (Operand.tmp 112), type := 41, pos := "law.go:107", after := #[{ on := 4, ground := Ground.data }], guard := none }
abbrev pj6 : Oper := { dst := some 114, op := Op.call { callee := Callee.value (Operand.func 16), args := #[Operand.tmp 111, Operand.tmp 113], argTypes := #[25, 41] }, type := 3, pos := "law.go:107", after := #[{ on := 3, ground := Ground.data }, { on := 5, ground := Ground.data }], guard := none }
abbrev pj7 : Oper := { dst := some 11, op := Op.assign (Operand.tmp 114), type := 3, pos := "law.go:107", after := #[{ on := 6, ground := Ground.data }, { on := 6, ground := Ground.chain }, { on := 0, ground := Ground.phase }, { on := 1, ground := Ground.phase }, { on := 2, ground := Ground.phase }, { on := 3, ground := Ground.phase }, { on := 4, ground := Ground.phase }, { on := 5, ground := Ground.phase }, { on := 6, ground := Ground.phase }], guard := none }
abbrev xpk0 : Oper := { dst := some 115, op := Op.move (Operand.tmp 0), type := 24, pos := "law.go:108", after := #[], guard := none }
abbrev xpk1 : Oper := { dst := some 116, op := Op.nilCheck (Operand.tmp 115), type := 0, pos := "law.go:108", after := #[{ on := 0, ground := Ground.data }], guard := none }
abbrev xpk2 : Oper := { dst := some 117, op := Op.fieldAddr 37 (Operand.tmp 116) 1, type := 0, pos := "law.go:108", after := #[{ on := 1, ground := Ground.data }], guard := none }
abbrev xpk3 : Oper := { dst := some 118, op := Op.load 27 (Operand.tmp 117), type := 27, pos := "law.go:108", after := #[{ on := 2, ground := Ground.data }], guard := none }
abbrev xpk4 : Oper := { dst := some 119, op := Op.fieldAddr 48 (Operand.tmp 3) 4, type := 0, pos := "law.go:108", after := #[], guard := none }
abbrev xpk5 : Oper := { dst := some 120, op := Op.load 41 (Operand.tmp 119), type := 41, pos := "law.go:108", after := #[{ on := 4, ground := Ground.data }], guard := none }
abbrev xpk6 : Oper := { dst := some 121, op := Op.call { callee := Callee.value (Operand.func 26), args := #[Operand.tmp 118, Operand.tmp 120], argTypes := #[27, 41] }, type := 3, pos := "law.go:108", after := #[{ on := 3, ground := Ground.data }, { on := 5, ground := Ground.data }], guard := none }
abbrev xpk7 : Oper := { dst := some 12, op := Op.assign (Operand.tmp 121), type := 3, pos := "law.go:108", after := #[{ on := 6, ground := Ground.data }, { on := 6, ground := Ground.chain }, { on := 0, ground := Ground.phase }, { on := 1, ground := Ground.phase }, { on := 2, ground := Ground.phase }, { on := 3, ground := Ground.phase }, { on := 4, ground := Ground.phase }, { on := 5, ground := Ground.phase }, { on := 6, ground := Ground.phase }], guard := none }

/-- the op's box and the twin's, read while other blocks change -/
theorem step_reads {V wq : World} {T A p b : Nat} {tv lv wv : Value} {o : Oq} (hT : V.heap[T]? = some (.cells #[.pointer (some ⟨p, 0, none⟩), .pointer (some ⟨b, 0, none⟩), tv, lv, wv] 37 (0, 0))) (hA : V.heap[A]? = some (.cells (opF o).toArray 48 (0, 0))) {Q : Nat → Prop} (zq : Ch Q V wq) (h1 : ¬ Q T) (h2 : ¬ Q A) :
    wq.cell? ⟨T, 0, none⟩ = some (.pointer (some ⟨p, 0, none⟩)) ∧ wq.cell? ⟨T, 1, none⟩ = some (.pointer (some ⟨b, 0, none⟩)) ∧ (wq.cell? ⟨A, 3, none⟩ = some (.int .u32 o.rs) ∧ wq.cell? ⟨A, 4, none⟩ = some (.int .u32 o.rg) ∧ wq.cell? ⟨A, 5, none⟩ = some (.int .i64 o.rd)) ∧ (wq.cell? ⟨A, 6, none⟩ = some (.int .u32 o.ws) ∧ wq.cell? ⟨A, 7, none⟩ = some (.int .u32 o.wg)) ∧ wq.cell? ⟨A, 2, none⟩ = some (.int .i64 o.ar) ∧ (wq.cell? ⟨A, 11, none⟩ = some (.int .i64 o.vn) ∧ wq.cell? ⟨A, 12, none⟩ = some (.int .u32 o.vs) ∧ wq.cell? ⟨A, 13, none⟩ = some (.int .u32 o.vg)) := by
  have k1 := Lib.cell_of_heap (zq.box hT h1)
  have k2 := Lib.cell_of_heap (zq.box hA h2)
  simp [k1, k2, opF]

set_option maxRecDepth 100000 in
set_option maxHeartbeats 8000000 in
theorem step_leave (fc : FaceW PT) (h : Tw wB PT C w B T p b F l l hs av ov tv lv wv ls ws rs n) (hl : l.length ≤ 100000) (o : Oq) (ho : o.Fit) (hk : o.k = 3) :
    Calls Try.prog 8 #[.pointer (some ⟨T, 0, none⟩), opV o] w fun e w' => e = .returned (.bool true) ∧ ∃ C' F', Tw wB PT C' w' B T p b F' (leaW l o.ws o.wg) (leaW l o.ws o.wg) hs av ov tv lv wv ls ws rs n := by
  obtain ⟨V, hV⟩ : ∃ V, w.alloc (.cells (opF o).toArray 48) = V := ⟨_, rfl⟩
  have c1 : Ch (fun _ => False) w V := by rw [← hV]; exact Ch.alloc _ _
  have nA : V.heap[w.heap.size]? = some (.cells (opF o).toArray 48 (0, 0)) := by rw [← hV]; exact heap_new _ _
  have hV2 := h.quiet fc c1
  have HC := hide (fun Q wq zq h1 h2 => step_reads (wq := wq) (Q := Q) (o := o) hV2.hT nA zq h1 h2)
  have NF := hide (show ¬ F T ∧ ¬ F w.heap.size from ⟨fun e => by have a := h.cF T e; have b := h.cT; omega, fun e => by have := h.fF _ e; omega⟩)
  have HV := hide (hV2.quiet fc (Ch.drew (Q := fun _ => False) V))
  have hTl := (Array.getElem?_eq_some_iff.1 h.hT).1
  have yk : V.cell? ⟨w.heap.size, 0, none⟩ = some (.int .i64 3) := by simp [Lib.cell_of_heap nA, opF, hk]
  have NA := hide nA
  have EV := hide hV
  have HH := hide h
  clear h c1 nA hV2 hV
  dsimp only [opF] at EV
  rw [hk] at EV
  go_enter Try.func8, Try.ntmps8
  go_wp2
  rw [EV.out]
  refine wp_region_held_drew (S := Ch F V) (by kernel_rfl) (Ch.drew _) (fun zk => ?_)
  apply tk 0 pj0 rfl (by kernel_rfl) (fun _ _ _ h => h) zk
  · intro wq zq
    go_simp
    try rfl
  go_frame
  apply tk 1 pj1 rfl (by kernel_rfl) (fun _ _ _ h => h) zk
  · intro wq zq
    go_simp
    try rfl
  go_frame
  apply tk 2 pj2 rfl (by kernel_rfl) (fun _ _ _ h => h) zk
  · intro wq zq
    go_simp
    try rfl
  go_frame
  apply tk 3 pj3 rfl (by kernel_rfl) (fun _ _ _ h => h) zk
  · intro wq zq
    have s1 := (HC.out _ _ zq NF.out.1 NF.out.2).1
    go_simp
    try rfl
  go_frame
  apply tk 4 pj4 rfl (by kernel_rfl) (fun _ _ _ h => h) zk
  · intro wq zq
    go_simp
    try rfl
  go_frame
  apply tk 5 pj5 rfl (by kernel_rfl) (fun _ _ _ h => h) zk
  · intro wq zq
    obtain ⟨s1, s2⟩ := (HC.out _ _ zq NF.out.1 NF.out.2).2.2.2.1
    go_simp
    try rfl
  go_frame
  refine Go.Proofs.Ythnnpipekeanoaa.rd 6 pj6 rfl (by kernel_rfl) fun K hK => ?_
  go_simp
  refine (fc.leave _ _ ho.ws ho.wg HV.out.pt hl).mono ?_
  rintro e W5 ⟨F', rfl, hp5, hc5, hf5⟩
  have TW5 := hide (HV.out.book fc hc5 hp5 hf5)
  have Z5 := hide (zk.trans hc5 (fun _ _ h => h))
  have C5 := hide hc5
  clear hp5 hc5 hf5
  go_wp2_with fail
  refine hK.out _ _ ?_ (fun zk => ?_)
  · exact Z5.out
  clear hK K
  try go_frame
  refine Go.Proofs.Ythnnpipekeanoaa.rd 7 pj7 rfl (by kernel_rfl) fun K hK => ?_
  go_simp
  refine hK.out _ _ ?_ (fun zk => ?_)
  · exact Z5.out
  clear hK K
  try go_frame
  refine wpAnyH_done (by kernel_rfl) ?_ _
  go_wp2
  have nA5 := C5.out.box ((Ch.drew (Q := fun _ => False) V).box NA.out (fun h => h)) NF.out.2
  have HD := hide (fun Q wq zq h1 h2 => step_reads (wq := wq) (Q := Q) (o := o) TW5.out.hT nA5 zq h1 h2)
  have NG := hide (show ¬ ov.ownBlock = some T ∧ ¬ ov.ownBlock = some w.heap.size from ⟨fun e => own_box TW5.out.db.ov TW5.out.hT (by decide) e, fun e => own_box TW5.out.db.ov nA5 (by decide) e⟩)
  have HX := hide (TW5.out.quiet fc (Ch.drew (Q := fun _ => False) W5))
  clear nA5 zk
  refine wp_region_held_drew (S := Ch (fun y => ov.ownBlock = some y) W5) (by kernel_rfl) (Ch.drew _) (fun zk => ?_)
  apply tk 0 xpk0 rfl (by kernel_rfl) (fun _ _ _ h => h) zk
  · intro wq zq
    go_simp
    try rfl
  go_frame
  apply tk 1 xpk1 rfl (by kernel_rfl) (fun _ _ _ h => h) zk
  · intro wq zq
    go_simp
    try rfl
  go_frame
  apply tk 2 xpk2 rfl (by kernel_rfl) (fun _ _ _ h => h) zk
  · intro wq zq
    go_simp
    try rfl
  go_frame
  apply tk 3 xpk3 rfl (by kernel_rfl) (fun _ _ _ h => h) zk
  · intro wq zq
    have s1 := (HD.out _ _ zq NG.out.1 NG.out.2).2.1
    go_simp
    try rfl
  go_frame
  apply tk 4 xpk4 rfl (by kernel_rfl) (fun _ _ _ h => h) zk
  · intro wq zq
    go_simp
    try rfl
  go_frame
  apply tk 5 xpk5 rfl (by kernel_rfl) (fun _ _ _ h => h) zk
  · intro wq zq
    obtain ⟨s1, s2⟩ := (HD.out _ _ zq NG.out.1 NG.out.2).2.2.2.1
    go_simp
    try rfl
  go_frame
  refine Go.Proofs.Ythnnpipekeanoaa.rd 6 xpk6 rfl (by kernel_rfl) fun K hK => ?_
  go_simp
  refine (rleaW HX.out.db hl _ _).mono ?_
  rintro e W6 ⟨rfl, hd6, hc6⟩
  have TW6 := hide (HX.out.doc fc hd6 (hc6.mono (fun _ _ h => Or.inr (Or.inr h))) (fun _ h => Or.inl h) (fun _ h => Or.inl h))
  have Z6 := hide (zk.trans hc6 (fun _ _ h => h))
  clear hd6 hc6
  go_wp2_with fail
  refine hK.out _ _ ?_ (fun zk => ?_)
  · exact Z6.out
  clear hK K
  try go_frame
  refine Go.Proofs.Ythnnpipekeanoaa.rd 7 xpk7 rfl (by kernel_rfl) fun K hK => ?_
  go_simp
  refine hK.out _ _ ?_ (fun zk => ?_)
  · exact Z6.out
  clear hK K
  try go_frame
  refine wpAnyH_done (by kernel_rfl) ?_ _
  go_wp2
  exact bodyPost_ret (v := .bool true) (by simp [results, Try.results8, go_sem]) rfl ⟨rfl, _, _, TW6.out⟩

end Go.Proofs.Ythnnpipekeanoaa
