/- Layer 11: the law's step: Put. -/
import Derived.Test.YthnnpipekeanoaaXq
namespace Go.Proofs.Ythnnpipekeanoaa
open Go.RowKit

variable {wB : World} {PT : World → Nat → (Nat → Prop) → Nat → List Wt → Prop} {C : Nat → Nat} {w w' : World} {B T p b : Nat} {F : Nat → Prop} {l : List Wt} {hs : List (Int × Int)} {av ov tv lv wv : Value} {ls ws : List Value} {rs : List (List Rc)} {n : Nat}

abbrev ua0 : Oper := { dst := some 26, op := Op.move (Operand.tmp 0), type := 24, pos := "law.go:96", after := #[], guard := none }
abbrev ua1 : Oper := { dst := some 27, op := Op.nilCheck (Operand.tmp 26), type := 0, pos := "law.go:96", after := #[{ on := 0, ground := Ground.data }], guard := none }
abbrev ua2 : Oper := { dst := some 28, op := Op.fieldAddr 37 (Operand.tmp 27) 0, type := 0, pos := "law.go:96", after := #[{ on := 1, ground := Ground.data }], guard := none }
abbrev ua3 : Oper := { dst := some 29, op := Op.load 25 (Operand.tmp 28), type := 25, pos := "law.go:96", after := #[{ on := 2, ground := Ground.data }], guard := none }
abbrev ua4 : Oper := { dst := some 30, op := Op.fieldAddr 48 (Operand.tmp 3) 3, type := 0, pos := "law.go:96", after := #[], guard := none }
abbrev ua5 : Oper := { dst := some 31, op := Op.load 44 (Operand.tmp 30), type := 44, pos := "law.go:96", after := #[{ on := 4, ground := Ground.data }], guard := none }
abbrev ua6 : Oper := { dst := some 32, op := Op.fieldAddr 48 (Operand.tmp 3) 4, type := 0, pos := "law.go:96", after := #[], guard := none }
abbrev ua7 : Oper := { dst := some 33, op := Op.load 41 (Operand.tmp 32), type := 41, pos := "law.go:96", after := #[{ on := 6, ground := Ground.data }], guard := none }
abbrev ua8 : Oper := { dst := some 34, op := Op.fieldAddr 48 (Operand.tmp 3) 2, type := 0, pos := "law.go:96", after := #[], guard := none }
abbrev ua9 : Oper := { dst := some 35, op := Op.load 3 (Operand.tmp 34), type := 3, pos := "law.go:96", after := #[{ on := 8, ground := Ground.data }], guard := none }
abbrev ua10 : Oper := { dst := some 36, op := Op.fieldAddr 48 (Operand.tmp 3) 7, type := 0, pos := "law.go:96", after := #[], guard := none }
abbrev ua11 : Oper := { dst := some 37, op := Op.load 46 (Operand.tmp 36), type := 46, pos := "law.go:96", after := #[{ on := 10, ground := Ground.data }], guard := none }
abbrev ua12 : Oper := { dst := some 38, op := Op.call { callee := Callee.value (Operand.func 17), args := #[Operand.tmp 29, Operand.tmp 31, Operand.tmp 33, Operand.tmp 35, Operand.tmp 37], argTypes := #[25, 44, 41, 3, 46] }, type := 59, pos := "law.go:96", after := #[{ on := 3, ground := Ground.data }, { on := 5, ground := Ground.data }, { on := 7, ground := Ground.data }, { on := 9, ground := Ground.data }, { on := 11, ground := Ground.data }], guard := none }
abbrev ua13 : Oper := { dst := some 25, op := Op.move (Operand.tmp 38), type := 59, pos := "law.go:96", after := #[{ on := 12, ground := Ground.data }], guard := none }
abbrev ua14 : Oper := { dst := some 39, op := Op.extract (Operand.tmp 25) 0, type := 41, pos := "law.go:96", after := #[{ on := 13, ground := Ground.data }], guard := none }
abbrev ua15 : Oper := { dst := some 40, op := Op.extract (Operand.tmp 25) 1, type := 54, pos := "law.go:96", after := #[{ on := 13, ground := Ground.data }, { on := 17, ground := Ground.gcOnly Departure.lateStores }], guard := none }
abbrev ua16 : Oper := { dst := some 5, op := Op.alloc 41, type := 0, pos := "law.go:96", after := #[], guard := none }
abbrev ua17 : Oper := { dst := none, op := Op.store 41 (Operand.tmp 5) (Operand.tmp 39), type := 0, pos := "law.go:96", after := #[{ on := 16, ground := Ground.data }, { on := 14, ground := Ground.data }, { on := 12, ground := Ground.chain }, { on := 0, ground := Ground.phase }, { on := 1, ground := Ground.phase }, { on := 2, ground := Ground.phase }, { on := 3, ground := Ground.phase }, { on := 4, ground := Ground.phase }, { on := 5, ground := Ground.phase }, { on := 6, ground := Ground.phase }, { on := 7, ground := Ground.phase }, { on := 8, ground := Ground.phase }, { on := 9, ground := Ground.phase }, { on := 10, ground := Ground.phase }, { on := 11, ground := Ground.phase }, { on := 12, ground := Ground.phase }, { on := 13, ground := Ground.phase }, { on := 14, ground := Ground.phase }, { on := 15, ground := Ground.textOnly Departure.lateStores }, { on := 16, ground := Ground.phase }], guard := none }
abbrev ua18 : Oper := { dst := some 6, op := Op.assign (Operand.tmp 40), type := 54, pos := "law.go:96", after := #[{ on := 15, ground := Ground.data }, { on := 17, ground := Ground.chain }, { on := 0, ground := Ground.phase }, { on := 1, ground := Ground.phase }, { on := 2, ground := Ground.phase }, { on := 3, ground := Ground.phase }, { on := 4, ground := Ground.phase }, { on := 5, ground := Ground.phase }, { on := 6, ground := Ground.phase }, { on := 7, ground := Ground.phase }, { on := 8, ground := Ground.phase }, { on := 9, ground := Ground.phase }, { on := 10, ground := Ground.phase }, { on := 11, ground := Ground.phase }, { on := 12, ground := Ground.phase }, { on := 13, ground := Ground.phase }, { on := 14, ground := Ground.phase }, { on := 15, ground := Ground.phase }, { on := 16, ground := Ground.phase }, { on := 17, ground := Ground.phase }], guard := none }
abbrev ub0 : Oper := { dst := some 42, op := Op.move (Operand.tmp 0), type := 24, pos := "law.go:97", after := #[], guard := none }
abbrev ub1 : Oper := { dst := some 43, op := Op.nilCheck (Operand.tmp 42), type := 0, pos := "law.go:97", after := #[{ on := 0, ground := Ground.data }], guard := none }
abbrev ub2 : Oper := { dst := some 44, op := Op.fieldAddr 37 (Operand.tmp 43) 1, type := 0, pos := "law.go:97", after := #[{ on := 1, ground := Ground.data }], guard := none }
abbrev ub3 : Oper := { dst := some 45, op := Op.load 27 (Operand.tmp 44), type := 27, pos := "law.go:97", after := #[{ on := 2, ground := Ground.data }], guard := none }
abbrev ub4 : Oper := { dst := some 46, op := Op.fieldAddr 48 (Operand.tmp 3) 3, type := 0, pos := "law.go:97", after := #[], guard := none }
abbrev ub5 : Oper := { dst := some 47, op := Op.load 44 (Operand.tmp 46), type := 44, pos := "law.go:97", after := #[{ on := 4, ground := Ground.data }], guard := none }
abbrev ub6 : Oper := { dst := some 48, op := Op.fieldAddr 48 (Operand.tmp 3) 4, type := 0, pos := "law.go:97", after := #[], guard := none }
abbrev ub7 : Oper := { dst := some 49, op := Op.load 41 (Operand.tmp 48), type := 41, pos := "law.go:97", after := #[{ on := 6, ground := Ground.data }], guard := none }
abbrev ub8 : Oper := { dst := some 50, op := Op.fieldAddr 48 (Operand.tmp 3) 2, type := 0, pos := "law.go:97", after := #[], guard := none }
abbrev ub9 : Oper := { dst := some 51, op := Op.load 3 (Operand.tmp 50), type := 3, pos := "law.go:97", after := #[{ on := 8, ground := Ground.data }], guard := none }
abbrev ub10 : Oper := { dst := some 52, op := Op.fieldAddr 48 (Operand.tmp 3) 7, type := 0, pos := "law.go:97", after := #[], guard := none }
abbrev ub11 : Oper := { dst := some 53, op := Op.load 46 (Operand.tmp 52), type := 46, pos := "law.go:97", after := #[{ on := 10, ground := Ground.data }], guard := none }
abbrev ub12 : Oper := { dst := some 54, op := Op.call { callee := Callee.value (Operand.func 23), args := #[Operand.tmp 45, Operand.tmp 47, Operand.tmp 49, Operand.tmp 51, Operand.tmp 53], argTypes := #[27, 44, 41, 3, 46] }, type := 59, pos := "law.go:97", after := #[{ on := 3, ground := Ground.data }, { on := 5, ground := Ground.data }, { on := 7, ground := Ground.data }, { on := 9, ground := Ground.data }, { on := 11, ground := Ground.data }], guard := none }
abbrev ub13 : Oper := { dst := some 41, op := Op.move (Operand.tmp 54), type := 59, pos := "law.go:97", after := #[{ on := 12, ground := Ground.data }], guard := none }
abbrev ub14 : Oper := { dst := some 55, op := Op.extract (Operand.tmp 41) 0, type := 41, pos := "law.go:97", after := #[{ on := 13, ground := Ground.data }], guard := none }
abbrev ub15 : Oper := { dst := some 56, op := Op.extract (Operand.tmp 41) 1, type := 54, pos := "law.go:97", after := #[{ on := 13, ground := Ground.data }, { on := 17, ground := Ground.gcOnly Departure.lateStores }], guard := none }
abbrev ub16 : Oper := { dst := some 7, op := Op.alloc 41, type := 0, pos := "law.go:97", after := #[], guard := none }
abbrev ub17 : Oper := { dst := none, op := Op.store 41 (Operand.tmp 7) (Operand.tmp 55), type := 0, pos := "law.go:97", after := #[{ on := 16, ground := Ground.data }, { on := 14, ground := Ground.data }, { on := 12, ground := Ground.chain }, { on := 0, ground := Ground.phase }, { on := 1, ground := Ground.phase }, { on := 2, ground := Ground.phase }, { on := 3, ground := Ground.phase }, { on := 4, ground := Ground.phase }, { on := 5, ground := Ground.phase }, { on := 6, ground := Ground.phase }, { on := 7, ground := Ground.phase }, { on := 8, ground := Ground.phase }, { on := 9, ground := Ground.phase }, { on := 10, ground := Ground.phase }, { on := 11, ground := Ground.phase }, { on := 12, ground := Ground.phase }, { on := 13, ground := Ground.phase }, { on := 14, ground := Ground.phase }, { on := 15, ground := Ground.textOnly Departure.lateStores }, { on := 16, ground := Ground.phase }], guard := none }
abbrev ub18 : Oper := { dst := some 8, op := Op.assign (Operand.tmp 56), type := 54, pos := "law.go:97", after := #[{ on := 15, ground := Ground.data }, { on := 17, ground := Ground.chain }, { on := 0, ground := Ground.phase }, { on := 1, ground := Ground.phase }, { on := 2, ground := Ground.phase }, { on := 3, ground := Ground.phase }, { on := 4, ground := Ground.phase }, { on := 5, ground := Ground.phase }, { on := 6, ground := Ground.phase }, { on := 7, ground := Ground.phase }, { on := 8, ground := Ground.phase }, { on := 9, ground := Ground.phase }, { on := 10, ground := Ground.phase }, { on := 11, ground := Ground.phase }, { on := 12, ground := Ground.phase }, { on := 13, ground := Ground.phase }, { on := 14, ground := Ground.phase }, { on := 15, ground := Ground.phase }, { on := 16, ground := Ground.phase }, { on := 17, ground := Ground.phase }], guard := none }
abbrev uc0 : Oper := { dst := some 59, op := Op.move (Operand.tmp 0), type := 24, pos := "law.go:99", after := #[], guard := none }
abbrev uc1 : Oper := { dst := some 60, op := Op.move (Operand.tmp 0), type := 24, pos := "law.go:99", after := #[], guard := none }
abbrev uc2 : Oper := { dst := some 61, op := Op.nilCheck (Operand.tmp 60), type := 0, pos := "law.go:99", after := #[{ on := 1, ground := Ground.data }], guard := none }
abbrev uc3 : Oper := { dst := some 62, op := Op.fieldAddr 37 (Operand.tmp 61) 2, type := 0, pos := "law.go:99", after := #[{ on := 2, ground := Ground.data }], guard := none }
abbrev uc4 : Oper := { dst := some 63, op := Op.load 32 (Operand.tmp 62), type := 32, pos := "law.go:99", after := #[{ on := 3, ground := Ground.data }], guard := none }
abbrev uc5 : Oper := { dst := some 64, op := Op.load 41 (Operand.tmp 7), type := 41, pos := "law.go:99", after := #[], guard := none }
abbrev uc6 : Oper := { dst := some 65, op := Op.buildSlice 32 1 #[(0, Operand.tmp 64)], type := 32, pos := "law.go:99", after := #[{ on := 5, ground := Ground.data }], guard := none }
abbrev uc7 : Oper := { dst := some 66, op := Op.call { callee := Callee.builtin Builtin.append, args := #[Operand.tmp 63, Operand.tmp 65], argTypes := #[32, 32] }, type := 32, pos := "law.go:99", after := #[{ on := 4, ground := Ground.data }, { on := 6, ground := Ground.data }], guard := none }
abbrev uc8 : Oper := { dst := some 67, op := Op.nilCheck (Operand.tmp 59), type := 0, pos := "law.go:99", after := #[{ on := 0, ground := Ground.data }, { on := 0, ground := Ground.phase }, { on := 1, ground := Ground.phase }, { on := 2, ground := Ground.phase }, { on := 3, ground := Ground.phase }, { on := 4, ground := Ground.phase }, { on := 5, ground := Ground.phase }, { on := 6, ground := Ground.phase }, { on := 7, ground := Ground.phase }], guard := none }
abbrev uc9 : Oper := { dst := some 68, op := Op.fieldAddr 37 (Operand.tmp 67) 2, type := 0, pos := "law.go:99", after := #[{ on := 8, ground := Ground.data }, { on := 0, ground := Ground.phase }, { on := 1, ground := Ground.phase }, { on := 2, ground := Ground.phase }, { on := 3, ground := Ground.phase }, { on := 4, ground := Ground.phase }, { on := 5, ground := Ground.phase }, { on := 6, ground := Ground.phase }, { on := 7, ground := Ground.phase }], guard := none }
abbrev uc10 : Oper := { dst := none, op := Op.store 32 (Operand.tmp 68) (Operand.tmp 66), type := 0, pos := "law.go:99", after := #[{ on := 9, ground := Ground.data }, { on := 7, ground := Ground.data }, { on := 7, ground := Ground.chain }, { on := 0, ground := Ground.phase }, { on := 1, ground := Ground.phase }, { on := 2, ground := Ground.phase }, { on := 3, ground := Ground.phase }, { on := 4, ground := Ground.phase }, { on := 5, ground := Ground.phase }, { on := 6, ground := Ground.phase }, { on := 7, ground := Ground.phase }], guard := none }

theorem nQD {W : World} {C : Nat → Nat} {F : Nat → Prop} {lp ld : List Wt} {X : Nat} {cs : Array Value} {T' : TypeId} (h : Tw wB PT C W B T p b F lp ld hs av ov tv lv wv ls ws rs n) (hX : W.heap[X]? = some (.cells cs T' (0, 0))) (h1 : 31 ≠ T') (h2 : 57 ≠ T') (h3 : 3 ≠ T') : ¬ (fun y => y = b ∨ av.ownBlock = some y ∨ ov.ownBlock = some y) X := by
  rintro (e | e | e)
  · subst e
    have k := h.db.box
    rw [hX] at k
    injection k with k
    injection k with _ k _
    exact h1 k.symm
  · exact own_box h.db.all hX h2 e
  · exact own_box h.db.ov hX h3 e

set_option maxRecDepth 100000 in
set_option maxHeartbeats 16000000 in
theorem step_put (fc : FaceW PT) (h : Tw wB PT C w B T p b F l l hs av ov tv lv wv ls ws rs n) (hl : l.length ≤ 100000) (hh : hs.length ≤ 100000) (hfit : FitW l) (o : Oq) (ho : o.Fit) (hk : o.k = 1) {l' : List Wt} (hl' : putW l o.rs o.rg o.rd o.ws o.wg o.ar o.vn o.vs o.vg = l') :
    Calls Try.prog 8 #[.pointer (some ⟨T, 0, none⟩), opV o] w fun e w' => e = .returned (.bool true) ∧ ∃ C' F' av' ov' tv', Tw wB PT C' w' B T p b F' l' l' (if ecW l o.ws o.wg o.rd o.ar = 0 then hs ++ [(psW l o.ws o.wg o.rd o.ar, pgW l o.ws o.wg o.rd o.ar)] else hs) av' ov' tv' lv wv ls ws rs n := by
  obtain ⟨V, hV⟩ : ∃ V, w.alloc (.cells (opF o).toArray 48) = V := ⟨_, rfl⟩
  have c1 : Ch (fun _ => False) w V := by rw [← hV]; exact Ch.alloc _ _
  have nA : V.heap[w.heap.size]? = some (.cells (opF o).toArray 48 (0, 0)) := by rw [← hV]; exact heap_new _ _
  have HV0 := hide (show Tw wB PT C V B T p b F l l hs av ov tv lv wv ls ws rs n ∧ V.heap[w.heap.size]? = some (.cells (opF o).toArray 48 (0, 0)) from ⟨h.quiet fc c1, nA⟩)
  have NF := hide (show ¬ F T ∧ ¬ F w.heap.size from ⟨fun e => by have a := h.cF T e; have b := h.cT; omega, fun e => by have := h.fF _ e; omega⟩)
  have yk : V.cell? ⟨w.heap.size, 0, none⟩ = some (.int .i64 1) := by simp [Lib.cell_of_heap nA, opF, hk]
  obtain ⟨s, hs0⟩ : ∃ x, psW l o.ws o.wg o.rd o.ar = x := ⟨_, rfl⟩
  obtain ⟨g, hg0⟩ : ∃ x, pgW l o.ws o.wg o.rd o.ar = x := ⟨_, rfl⟩
  obtain ⟨q, hq0⟩ : ∃ x, ecW l o.ws o.wg o.rd o.ar = x := ⟨_, rfl⟩
  have HP1 := hide (fun (C : Nat → Nat) wq (hq' : Tw wB PT C wq B T p b F l l hs av ov tv lv wv ls ws rs n) => show Calls Try.prog 17 #[.pointer (some ⟨p, 0, none⟩), rvW o.rs o.rg o.rd, hvW o.ws o.wg, .int .i64 o.ar, .agg #[.int .i64 o.vn, .int .u32 o.vs, .int .u32 o.vg]] wq fun e w' => ∃ F', e = .returned (.tuple #[hvW s g, .int .i64 q]) ∧ PT w' B F' p l' ∧ Ch F wq w' ∧ ∀ y, F' y → F y ∨ wq.heap.size ≤ y from by
    have := fc.put o.rs o.rg o.rd o.ws o.wg o.ar o.vn o.vs o.vg ho.rs ho.rg ho.rd ho.ws ho.wg ho.ar ho.vn ho.vs ho.vg hq'.pt hl hq'.hB
    rwa [hs0, hg0, hq0, hl'] at this)
  have HP2 := hide (fun wq (hd' : DB wq B b av ov l) (hB' : B ≤ wq.heap.size) => show Calls Try.prog 23 #[.pointer (some ⟨b, 0, none⟩), rvW o.rs o.rg o.rd, hvW o.ws o.wg, .int .i64 o.ar, .agg #[.int .i64 o.vn, .int .u32 o.vs, .int .u32 o.vg]] wq fun e w' => e = .returned (.tuple #[hvW s g, .int .i64 q]) ∧ ∃ av' ov', DB w' B b av' ov' l' ∧ Ch (fun y => y = b ∨ av.ownBlock = some y ∨ ov.ownBlock = some y) wq w' ∧ (∀ x, av'.ownBlock = some x → av.ownBlock = some x ∨ wq.heap.size ≤ x) ∧ (∀ x, ov'.ownBlock = some x → ov.ownBlock = some x ∨ wq.heap.size ≤ x) from by
    have := rputW hd' hl hfit hB' o.rs o.rg o.rd o.ws o.wg o.ar o.vn o.vs o.vg
    rwa [hs0, hg0, hq0, hl'] at this)
  rw [hs0, hg0, hq0]
  have EV := hide hV
  clear c1 nA h hV
  dsimp only [opF] at EV
  rw [hk] at EV
  go_enter Try.func8, Try.ntmps8
  go_wp2_with fail
  rw [EV.out]
  clear yk EV
  refine wp_reg (F) (R := fun W => Tw wB PT C W B T p b F l l hs av ov tv lv wv ls ws rs n ∧ W.heap[w.heap.size]? = some (.cells (opF o).toArray 48 (0, 0))) (by kernel_rfl) ⟨HV0.out.1.quiet fc (Ch.drew _), (Ch.drew (Q := fun _ => False) _).box HV0.out.2 (fun h => h)⟩ ?_
  rintro V1 v zk
  have HV1 := hide v
  clear v
  have HC := hide (fun wq (zq : Ch F V1 wq) => step_reads (wq := wq) (Q := F) (o := o) HV1.out.1.hT HV1.out.2 zq NF.out.1 NF.out.2)
  apply tk 0 ua0 rfl (by kernel_rfl) (fun _ _ _ h => h) zk
  · intro wq zq
    go_simp
    try rfl
  go_frame
  apply tk 1 ua1 rfl (by kernel_rfl) (fun _ _ _ h => h) zk
  · intro wq zq
    go_simp
    try rfl
  go_frame
  apply tk 2 ua2 rfl (by kernel_rfl) (fun _ _ _ h => h) zk
  · intro wq zq
    go_simp
    try rfl
  go_frame
  apply tk 3 ua3 rfl (by kernel_rfl) (fun _ _ _ h => h) zk
  · intro wq zq
    have s1 := (HC.out _ zq).1
    go_simp
    try rfl
  go_frame
  apply tk 4 ua4 rfl (by kernel_rfl) (fun _ _ _ h => h) zk
  · intro wq zq
    go_simp
    try rfl
  go_frame
  apply tk 5 ua5 rfl (by kernel_rfl) (fun _ _ _ h => h) zk
  · intro wq zq
    obtain ⟨s1, s2, s3⟩ := (HC.out _ zq).2.2.1
    go_simp
    try rfl
  go_frame
  apply tk 6 ua6 rfl (by kernel_rfl) (fun _ _ _ h => h) zk
  · intro wq zq
    go_simp
    try rfl
  go_frame
  apply tk 7 ua7 rfl (by kernel_rfl) (fun _ _ _ h => h) zk
  · intro wq zq
    obtain ⟨s1, s2⟩ := (HC.out _ zq).2.2.2.1
    go_simp
    try rfl
  go_frame
  apply tk 8 ua8 rfl (by kernel_rfl) (fun _ _ _ h => h) zk
  · intro wq zq
    go_simp
    try rfl
  go_frame
  apply tk 9 ua9 rfl (by kernel_rfl) (fun _ _ _ h => h) zk
  · intro wq zq
    have s1 := (HC.out _ zq).2.2.2.2.1
    go_simp
    try rfl
  go_frame
  apply tk 10 ua10 rfl (by kernel_rfl) (fun _ _ _ h => h) zk
  · intro wq zq
    go_simp
    try rfl
  go_frame
  apply tk 11 ua11 rfl (by kernel_rfl) (fun _ _ _ h => h) zk
  · intro wq zq
    obtain ⟨s1, s2, s3⟩ := (HC.out _ zq).2.2.2.2.2
    go_simp
    try rfl
  go_frame
  refine wpAnyH_ready (rs := [12, 16]) (by kernel_rfl) (by simp) ?_
  refine AllReadyH.cons (o := ua12) rfl (fun K hK => ?_) (AllReadyH.cons (o := ua16) rfl (fun K hK => ?_) AllReadyH.nil)
  · go_simp
    refine (HP1.out _ _ HV1.out.1).mono ?_
    rintro e X1 ⟨F1, rfl, hp, hc, hf⟩
    have TW1 := hide (HV1.out.1.book fc hc hp hf)
    have n1 := hc.box HV1.out.2 NF.out.2
    have HC1 := hide hc
    clear hp hc hf
    go_wp2_with fail
    refine hK.out _ _ ?_ (fun zk => ?_)
    · exact zk.trans HC1.out (fun _ _ h => h)
    clear hK K
    try go_frame
    apply tk 13 ua13 rfl (by kernel_rfl) (fun _ _ _ h => h) zk
    · intro wq zq
      go_simp
      try rfl
    go_frame
    apply tk 14 ua14 rfl (by kernel_rfl) (fun _ _ _ h => h) zk
    · intro wq zq
      go_simp
      try rfl
    go_frame
    apply tk 15 ua15 rfl (by kernel_rfl) (fun _ _ _ h => h) zk
    · intro wq zq
      go_simp
      try rfl
    go_frame
    refine Go.Proofs.Ythnnpipekeanoaa.rd 16 ua16 rfl (by kernel_rfl) fun K hK => ?_
    go_simp
    refine genK (R := fun W => Ch F V1 W ∧ Ch (fun _ => False) X1 W ∧ W.heap[X1.heap.size]? = some (.cells #[.int .u32 0, .int .u32 0] 41 (0, 0))) ⟨zk.trans (Ch.alloc _ _) (fun _ _ h => h), Ch.alloc _ _, heap_new _ _⟩ ?_
    rintro X2 ⟨cF, cX, nX⟩
    clear zk
    refine hK.out _ _ ?_ (fun zk => ?_)
    · exact cF
    clear hK K
    try go_frame
    refine Go.Proofs.Ythnnpipekeanoaa.rd 17 ua17 rfl (by kernel_rfl) fun K hK => ?_
    have y0 := Lib.cell_of_heap nX
    have y1 := frz nX
    go_simp
    clear y0 y1
    refine genK (R := fun W => Ch F V1 W ∧ Ch (fun _ => False) X1 W ∧ W.heap[X1.heap.size]? = some (.cells #[.int .u32 s, .int .u32 g] 41 (0, 0))) ⟨(cF.set_new HC1.out.size 0 _).set_new HC1.out.size 1 _, (cX.set_new (Nat.le_refl _) 0 _).set_new (Nat.le_refl _) 1 _, set2 nX⟩ ?_
    rintro Y ⟨cG, cY, nY⟩
    clear zk
    refine hK.out _ _ ?_ (fun zk => ?_)
    · exact cG
    clear hK K
    try go_frame
    apply tk 18 ua18 rfl (by kernel_rfl) (fun _ _ _ h => h) zk
    · intro wq zq
      go_simp
      try rfl
    go_frame
    refine wpAnyH_done (by kernel_rfl) ?_ _
    have HY := hide (show Tw wB PT (paint C V1 7) Y B T p b F1 l' l hs av ov tv lv wv ls ws rs n ∧ Y.heap[w.heap.size]? = some (.cells (opF o).toArray 48 (0, 0)) ∧ Y.heap[X1.heap.size]? = some (.cells #[.int .u32 s, .int .u32 g] 41 (0, 0)) ∧ V1.heap.size ≤ X1.heap.size from ⟨TW1.out.quiet fc cY, cY.box n1 (fun h => h), nY, HC1.out.size⟩)
    clear cG cY nY n1 TW1 zk
    go_wp2_with fail
    refine wp_reg (fun y => y = b ∨ av.ownBlock = some y ∨ ov.ownBlock = some y) (R := fun W => Tw wB PT (paint C V1 7) W B T p b F1 l' l hs av ov tv lv wv ls ws rs n ∧ W.heap[w.heap.size]? = some (.cells (opF o).toArray 48 (0, 0)) ∧ W.heap[X1.heap.size]? = some (.cells #[.int .u32 s, .int .u32 g] 41 (0, 0))) (by kernel_rfl) ⟨HY.out.1.quiet fc (Ch.drew _), (Ch.drew (Q := fun _ => False) _).box HY.out.2.1 (fun h => h), (Ch.drew (Q := fun _ => False) _).box HY.out.2.2.1 (fun h => h)⟩ ?_
    rintro V2 v zk
    have HV2 := hide v
    clear v
    have NG := hide (show ¬ (fun y => y = b ∨ av.ownBlock = some y ∨ ov.ownBlock = some y) T ∧ ¬ (fun y => y = b ∨ av.ownBlock = some y ∨ ov.ownBlock = some y) w.heap.size ∧ ¬ (fun y => y = b ∨ av.ownBlock = some y ∨ ov.ownBlock = some y) (X1.heap.size) from ⟨nQD HV2.out.1 HV2.out.1.hT (by decide) (by decide) (by decide), nQD HV2.out.1 HV2.out.2.1 (by decide) (by decide) (by decide), nQD HV2.out.1 HV2.out.2.2 (by decide) (by decide) (by decide)⟩)
    have HC := hide (fun wq (zq : Ch (fun y => y = b ∨ av.ownBlock = some y ∨ ov.ownBlock = some y) V2 wq) => step_reads (wq := wq) (Q := fun y => y = b ∨ av.ownBlock = some y ∨ ov.ownBlock = some y) (o := o) HV2.out.1.hT HV2.out.2.1 zq NG.out.1 NG.out.2.1)
    apply tk 0 ub0 rfl (by kernel_rfl) (fun _ _ _ h => h) zk
    · intro wq zq
      go_simp
      try rfl
    go_frame
    apply tk 1 ub1 rfl (by kernel_rfl) (fun _ _ _ h => h) zk
    · intro wq zq
      go_simp
      try rfl
    go_frame
    apply tk 2 ub2 rfl (by kernel_rfl) (fun _ _ _ h => h) zk
    · intro wq zq
      go_simp
      try rfl
    go_frame
    apply tk 3 ub3 rfl (by kernel_rfl) (fun _ _ _ h => h) zk
    · intro wq zq
      have s1 := (HC.out _ zq).2.1
      go_simp
      try rfl
    go_frame
    apply tk 4 ub4 rfl (by kernel_rfl) (fun _ _ _ h => h) zk
    · intro wq zq
      go_simp
      try rfl
    go_frame
    apply tk 5 ub5 rfl (by kernel_rfl) (fun _ _ _ h => h) zk
    · intro wq zq
      obtain ⟨s1, s2, s3⟩ := (HC.out _ zq).2.2.1
      go_simp
      try rfl
    go_frame
    apply tk 6 ub6 rfl (by kernel_rfl) (fun _ _ _ h => h) zk
    · intro wq zq
      go_simp
      try rfl
    go_frame
    apply tk 7 ub7 rfl (by kernel_rfl) (fun _ _ _ h => h) zk
    · intro wq zq
      obtain ⟨s1, s2⟩ := (HC.out _ zq).2.2.2.1
      go_simp
      try rfl
    go_frame
    apply tk 8 ub8 rfl (by kernel_rfl) (fun _ _ _ h => h) zk
    · intro wq zq
      go_simp
      try rfl
    go_frame
    apply tk 9 ub9 rfl (by kernel_rfl) (fun _ _ _ h => h) zk
    · intro wq zq
      have s1 := (HC.out _ zq).2.2.2.2.1
      go_simp
      try rfl
    go_frame
    apply tk 10 ub10 rfl (by kernel_rfl) (fun _ _ _ h => h) zk
    · intro wq zq
      go_simp
      try rfl
    go_frame
    apply tk 11 ub11 rfl (by kernel_rfl) (fun _ _ _ h => h) zk
    · intro wq zq
      obtain ⟨s1, s2, s3⟩ := (HC.out _ zq).2.2.2.2.2
      go_simp
      try rfl
    go_frame
    refine wpAnyH_ready (rs := [12, 16]) (by kernel_rfl) (by simp) ?_
    refine AllReadyH.cons (o := ub12) rfl (fun K hK => ?_) (AllReadyH.cons (o := ub16) rfl (fun K hK => ?_) AllReadyH.nil)
    · go_simp
      refine (HP2.out _ HV2.out.1.db HV2.out.1.hB).mono ?_
      rintro e X3 ⟨rfl, av2, ov2, hd, hc, hva, hvo⟩
      have TW2 := hide (HV2.out.1.doc fc hd hc hva hvo)
      have n2 := hc.box HV2.out.2.2 NG.out.2.2
      have HC2 := hide hc
      clear hd hc hva hvo
      go_wp2_with fail
      refine hK.out _ _ ?_ (fun zk => ?_)
      · exact zk.trans HC2.out (fun _ _ h => h)
      clear hK K
      try go_frame
      apply tk 13 ub13 rfl (by kernel_rfl) (fun _ _ _ h => h) zk
      · intro wq zq
        go_simp
        try rfl
      go_frame
      apply tk 14 ub14 rfl (by kernel_rfl) (fun _ _ _ h => h) zk
      · intro wq zq
        go_simp
        try rfl
      go_frame
      apply tk 15 ub15 rfl (by kernel_rfl) (fun _ _ _ h => h) zk
      · intro wq zq
        go_simp
        try rfl
      go_frame
      refine Go.Proofs.Ythnnpipekeanoaa.rd 16 ub16 rfl (by kernel_rfl) fun K hK => ?_
      go_simp
      refine genK (R := fun W => Ch (fun y => y = b ∨ av.ownBlock = some y ∨ ov.ownBlock = some y) V2 W ∧ Ch (fun _ => False) X3 W ∧ W.heap[X3.heap.size]? = some (.cells #[.int .u32 0, .int .u32 0] 41 (0, 0))) ⟨zk.trans (Ch.alloc _ _) (fun _ _ h => h), Ch.alloc _ _, heap_new _ _⟩ ?_
      rintro X4 ⟨cF, cX, nX⟩
      clear zk
      refine hK.out _ _ ?_ (fun zk => ?_)
      · exact cF
      clear hK K
      try go_frame
      refine Go.Proofs.Ythnnpipekeanoaa.rd 17 ub17 rfl (by kernel_rfl) fun K hK => ?_
      have y0 := Lib.cell_of_heap nX
      have y1 := frz nX
      go_simp
      clear y0 y1
      refine genK (R := fun W => Ch (fun y => y = b ∨ av.ownBlock = some y ∨ ov.ownBlock = some y) V2 W ∧ Ch (fun _ => False) X3 W ∧ W.heap[X3.heap.size]? = some (.cells #[.int .u32 s, .int .u32 g] 41 (0, 0))) ⟨(cF.set_new HC2.out.size 0 _).set_new HC2.out.size 1 _, (cX.set_new (Nat.le_refl _) 0 _).set_new (Nat.le_refl _) 1 _, set2 nX⟩ ?_
      rintro Z ⟨cG, cY, nY⟩
      clear zk
      refine hK.out _ _ ?_ (fun zk => ?_)
      · exact cG
      clear hK K
      try go_frame
      apply tk 18 ub18 rfl (by kernel_rfl) (fun _ _ _ h => h) zk
      · intro wq zq
        go_simp
        try rfl
      go_frame
      refine wpAnyH_done (by kernel_rfl) ?_ _
      have HZ := hide (show Tw wB PT (paint2 (paint C V1 7) V2 av2) Z B T p b F1 l' l' hs av2 ov2 tv lv wv ls ws rs n ∧ Z.heap[X1.heap.size]? = some (.cells #[.int .u32 s, .int .u32 g] 41 (0, 0)) ∧ Z.heap[X3.heap.size]? = some (.cells #[.int .u32 s, .int .u32 g] 41 (0, 0)) ∧ V2.heap.size ≤ X3.heap.size from ⟨TW2.out.quiet fc cY, cY.box n2 (fun h => h), nY, HC2.out.size⟩)
      clear cG cY nY n2 TW2 zk
      have LA := hide (show V1.heap.size ≤ X1.heap.size ∧ V1.heap.size ≤ X3.heap.size from ⟨HY.out.2.2.2, Nat.le_trans (Nat.le_of_lt (Nat.lt_of_le_of_lt HY.out.2.2.2 (Array.getElem?_eq_some_iff.1 HV2.out.2.2).1)) HZ.out.2.2.2⟩)
      clear HC HP1 HP2 NG HY
      by_cases hq : q = 0
      · subst hq
        go_wp2_with fail
        refine wp_reg (fun y => y = T ∨ tv.ownBlock = some y) (R := fun W => Tw wB PT (paint2 (paint C V1 7) V2 av2) W B T p b F1 l' l' hs av2 ov2 tv lv wv ls ws rs n ∧ W.heap[X1.heap.size]? = some (.cells #[.int .u32 s, .int .u32 g] 41 (0, 0)) ∧ W.heap[X3.heap.size]? = some (.cells #[.int .u32 s, .int .u32 g] 41 (0, 0))) (by kernel_rfl) ⟨HZ.out.1.quiet fc (Ch.drew _), (Ch.drew (Q := fun _ => False) _).box HZ.out.2.1 (fun h => h), (Ch.drew (Q := fun _ => False) _).box HZ.out.2.2.1 (fun h => h)⟩ ?_
        rintro V6 v zk
        have H6 := hide v
        clear v
        obtain ⟨i0, hi0, hz0, hz1, hz2⟩ := nf_open nfHd
        obtain ⟨ta, tn, tc, htv⟩ := own_form H6.out.1.td
        subst htv
        have ow := hide (fun x hx => (own_in HV1.out.1.td (g := x) hx).2.1)
        have nb := hide (show (¬ (X1.heap.size = T ∨ (Value.slice ta tn tc).ownBlock = some (X1.heap.size))) ∧ ¬ (X3.heap.size = T ∨ (Value.slice ta tn tc).ownBlock = some (X3.heap.size)) from ⟨fun e => by have hT1 := (Array.getElem?_eq_some_iff.1 HV1.out.1.hT).1; have := LA.out.1; rcases e with e | e; omega; have := ow.out _ e; omega, fun e => by have hT1 := (Array.getElem?_eq_some_iff.1 HV1.out.1.hT).1; have := LA.out.2; rcases e with e | e; omega; have := ow.out _ e; omega⟩)
        have HB2 := hide (fun wq (zq : Ch (fun y => y = T ∨ (Value.slice ta tn tc).ownBlock = some y) V6 wq) => have e := Lib.cell_of_heap (zq.box H6.out.2.2 nb.out.2); show wq.cell? ⟨X3.heap.size, 0, none⟩ = some (.int .u32 s) ∧ wq.cell? ⟨X3.heap.size, 1, none⟩ = some (.int .u32 g) from ⟨by simp [e], by simp [e]⟩)
        apply tk 0 uc0 rfl (by kernel_rfl) (fun _ _ _ h => h) zk
        · intro wq zq
          go_simp
          try rfl
        go_frame
        apply tk 1 uc1 rfl (by kernel_rfl) (fun _ _ _ h => h) zk
        · intro wq zq
          go_simp
          try rfl
        go_frame
        apply tk 2 uc2 rfl (by kernel_rfl) (fun _ _ _ h => h) zk
        · intro wq zq
          go_simp
          try rfl
        go_frame
        apply tk 3 uc3 rfl (by kernel_rfl) (fun _ _ _ h => h) zk
        · intro wq zq
          go_simp
          try rfl
        go_frame
        apply tk 5 uc5 rfl (by kernel_rfl) (fun _ _ _ h => h) zk
        · intro wq zq
          obtain ⟨s1, s2⟩ := HB2.out _ zq
          go_simp
          try rfl
        go_frame
        refine wpAnyH_ready (rs := [4, 6]) (by kernel_rfl) (by simp) ?_
        refine AllReadyH.cons (o := uc4) rfl (fun K hK => ?_) (AllReadyH.cons (o := uc6) rfl (fun K hK => ?_) AllReadyH.nil)
        · have s1 : V6.cell? ⟨T, 2, none⟩ = some (.slice ta tn tc) := by simp [Lib.cell_of_heap H6.out.1.hT]
          go_simp
          refine hK.out _ _ ?_ (fun zk => ?_)
          · exact zk
          clear hK K
          try go_frame
          clear s1
          refine Go.Proofs.Ythnnpipekeanoaa.rd 6 uc6 rfl (by kernel_rfl) fun K hK => ?_
          go_simp
          refine genK (R := fun W => Ch (fun _ => False) V6 W ∧ (∀ j u, (hdF (s, g))[j]? = some u → W.cell? ((⟨V6.heap.size, 0, none⟩ : Addr).add j) = some u)) ⟨Ch.alloc _ _, row_new V6 (hdF (s, g)) 41 rfl⟩ ?_
          rintro X7 ⟨c7, r7⟩
          clear zk
          refine hK.out _ _ (c7.mono (fun _ _ h => h.elim)) (fun zk => ?_)
          clear hK K
          try go_frame
          refine Go.Proofs.Ythnnpipekeanoaa.rd 7 uc7 rfl (by kernel_rfl) fun K hK => ?_
          refine step_append_at rfl (.tmp 63) (.tmp 65) 32 rfl B 41 i0 (.agg #[.int .u32 0, .int .u32 0]) 2 8 Try.underlying32 hi0 hz0 hz1 hz2 rfl (by decide) (.slice ta tn tc) hs.length (hs.flatMap hdF) rfl (H6.out.1.td.ch c7 (fun _ _ h => h)) ⟨V6.heap.size, 0, none⟩ 1 1 (hdF (s, g)) rfl rfl r7 (by simp [hdF, Value.oneCell']) (by unfold maxLen; omega) (by omega) (Nat.le_trans H6.out.1.hB c7.size) ?_
          intro v5 W5 hr5 hg5 hat5
          have C5 := hide (show Ch (fun y => (Value.slice ta tn tc).ownBlock = some y) V6 W5 from (c7.mono (fun _ _ h => h.elim)).trans (Ch.of_grown (Q := fun y => (Value.slice ta tn tc).ownBlock = some y) hg5 (fun _ e => e)) (fun _ _ h => h))
          have R5 := hide (show HdRow W5 B v5 (hs ++ [(s, g)]) from Row.snoc hr5)
          obtain ⟨a5, n5, c5, e5⟩ := own_form hr5
          subst e5
          have HA5 := hide hat5
          have T5 := C5.out.box H6.out.1.hT (fun e => own_box H6.out.1.td H6.out.1.hT (by decide) e)
          have y2 : W5.cell? ⟨T, 2, none⟩ = some (.slice ta tn tc) := by simp [Lib.cell_of_heap T5]
          have yf := frz T5
          have S7 := hide c7.size
          clear hr5 hg5 hat5 r7 c7
          refine hK.out _ _ ?_ (fun zk => ?_)
          · exact C5.out.mono (fun _ _ h => Or.inr h)
          clear hK K
          try go_frame
          apply tk 8 uc8 rfl (by kernel_rfl) (fun _ _ _ h => h) zk
          · intro wq zq
            go_simp
            try rfl
          go_frame
          apply tk 9 uc9 rfl (by kernel_rfl) (fun _ _ _ h => h) zk
          · intro wq zq
            go_simp
            try rfl
          go_frame
          refine Go.Proofs.Ythnnpipekeanoaa.rd 10 uc10 rfl (by kernel_rfl) fun K hK => ?_
          go_simp
          have c6 := Ch.set (Q := fun y => y = T) W5 rfl 2 (.slice a5 n5 c5)
          have TWf := hide (H6.out.1.push fc (hs' := hs ++ [(s, g)]) (heap_set T5 2 (.slice a5 n5 c5)) (R5.out.ch c6 (fun x hx (e : x = T) => by subst e; exact own_box R5.out T5 (by decide) hx)) ((C5.out.mono (fun _ _ h => Or.inr h)).trans c6 (fun y _ e => Or.inl e)) (fun x hx => HA5.out.elim (fun e => Or.inl (e.symm.trans hx)) (fun e => Or.inr (by rw [e] at hx; injection hx with hx; have := S7.out; omega))))
          have CZ := hide ((C5.out.mono (Q' := fun y => y = T ∨ (Value.slice ta tn tc).ownBlock = some y) (fun _ _ h => Or.inr h)).trans c6 (fun y _ e => Or.inl e))
          clear y2 yf T5 c6
          refine genK (R := fun W => Tw wB PT (paint (paint2 (paint C V1 7) V2 av2) V6 4) W B T p b F1 l' l' (hs ++ [(s, g)]) av2 ov2 (.slice a5 n5 c5) lv wv ls ws rs n ∧ Ch (fun y => y = T ∨ (Value.slice ta tn tc).ownBlock = some y) V6 W) ⟨TWf.out, CZ.out⟩ ?_
          rintro W9 ⟨t9, c9⟩
          clear zk
          refine hK.out _ _ c9 (fun zk => ?_)
          clear hK K
          try go_frame
          refine wpAnyH_done (by kernel_rfl) ?_ _
          have k1 := Lib.cell_of_heap (c9.box H6.out.2.1 nb.out.1)
          have k2 := Lib.cell_of_heap (c9.box H6.out.2.2 nb.out.2)
          have T9 := hide t9
          clear t9 c9 zk TWf CZ
          go_wp2_with fail
          go_ret
          exact ⟨rfl, _, _, _, _, _, T9.out⟩
        · go_simp
          refine genK (R := fun W => Ch (fun _ => False) V6 W ∧ (∀ j u, (hdF (s, g))[j]? = some u → W.cell? ((⟨V6.heap.size, 0, none⟩ : Addr).add j) = some u)) ⟨Ch.alloc _ _, row_new V6 (hdF (s, g)) 41 rfl⟩ ?_
          rintro X7 ⟨c7, r7⟩
          clear zk
          refine hK.out _ _ (c7.mono (fun _ _ h => h.elim)) (fun zk => ?_)
          clear hK K
          try go_frame
          refine Go.Proofs.Ythnnpipekeanoaa.rd 4 uc4 rfl (by kernel_rfl) fun K hK => ?_
          have s1 : X7.cell? ⟨T, 2, none⟩ = some (.slice ta tn tc) := by simp [Lib.cell_of_heap (c7.box H6.out.1.hT (fun h => h))]
          go_simp
          refine hK.out _ _ ?_ (fun zk => ?_)
          · exact zk
          clear hK K
          try go_frame
          clear s1
          refine Go.Proofs.Ythnnpipekeanoaa.rd 7 uc7 rfl (by kernel_rfl) fun K hK => ?_
          refine step_append_at rfl (.tmp 63) (.tmp 65) 32 rfl B 41 i0 (.agg #[.int .u32 0, .int .u32 0]) 2 8 Try.underlying32 hi0 hz0 hz1 hz2 rfl (by decide) (.slice ta tn tc) hs.length (hs.flatMap hdF) rfl (H6.out.1.td.ch c7 (fun _ _ h => h)) ⟨V6.heap.size, 0, none⟩ 1 1 (hdF (s, g)) rfl rfl r7 (by simp [hdF, Value.oneCell']) (by unfold maxLen; omega) (by omega) (Nat.le_trans H6.out.1.hB c7.size) ?_
          intro v5 W5 hr5 hg5 hat5
          have C5 := hide (show Ch (fun y => (Value.slice ta tn tc).ownBlock = some y) V6 W5 from (c7.mono (fun _ _ h => h.elim)).trans (Ch.of_grown (Q := fun y => (Value.slice ta tn tc).ownBlock = some y) hg5 (fun _ e => e)) (fun _ _ h => h))
          have R5 := hide (show HdRow W5 B v5 (hs ++ [(s, g)]) from Row.snoc hr5)
          obtain ⟨a5, n5, c5, e5⟩ := own_form hr5
          subst e5
          have HA5 := hide hat5
          have T5 := C5.out.box H6.out.1.hT (fun e => own_box H6.out.1.td H6.out.1.hT (by decide) e)
          have y2 : W5.cell? ⟨T, 2, none⟩ = some (.slice ta tn tc) := by simp [Lib.cell_of_heap T5]
          have yf := frz T5
          have S7 := hide c7.size
          clear hr5 hg5 hat5 r7 c7
          refine hK.out _ _ ?_ (fun zk => ?_)
          · exact C5.out.mono (fun _ _ h => Or.inr h)
          clear hK K
          try go_frame
          apply tk 8 uc8 rfl (by kernel_rfl) (fun _ _ _ h => h) zk
          · intro wq zq
            go_simp
            try rfl
          go_frame
          apply tk 9 uc9 rfl (by kernel_rfl) (fun _ _ _ h => h) zk
          · intro wq zq
            go_simp
            try rfl
          go_frame
          refine Go.Proofs.Ythnnpipekeanoaa.rd 10 uc10 rfl (by kernel_rfl) fun K hK => ?_
          go_simp
          have c6 := Ch.set (Q := fun y => y = T) W5 rfl 2 (.slice a5 n5 c5)
          have TWf := hide (H6.out.1.push fc (hs' := hs ++ [(s, g)]) (heap_set T5 2 (.slice a5 n5 c5)) (R5.out.ch c6 (fun x hx (e : x = T) => by subst e; exact own_box R5.out T5 (by decide) hx)) ((C5.out.mono (fun _ _ h => Or.inr h)).trans c6 (fun y _ e => Or.inl e)) (fun x hx => HA5.out.elim (fun e => Or.inl (e.symm.trans hx)) (fun e => Or.inr (by rw [e] at hx; injection hx with hx; have := S7.out; omega))))
          have CZ := hide ((C5.out.mono (Q' := fun y => y = T ∨ (Value.slice ta tn tc).ownBlock = some y) (fun _ _ h => Or.inr h)).trans c6 (fun y _ e => Or.inl e))
          clear y2 yf T5 c6
          refine genK (R := fun W => Tw wB PT (paint (paint2 (paint C V1 7) V2 av2) V6 4) W B T p b F1 l' l' (hs ++ [(s, g)]) av2 ov2 (.slice a5 n5 c5) lv wv ls ws rs n ∧ Ch (fun y => y = T ∨ (Value.slice ta tn tc).ownBlock = some y) V6 W) ⟨TWf.out, CZ.out⟩ ?_
          rintro W9 ⟨t9, c9⟩
          clear zk
          refine hK.out _ _ c9 (fun zk => ?_)
          clear hK K
          try go_frame
          refine wpAnyH_done (by kernel_rfl) ?_ _
          have k1 := Lib.cell_of_heap (c9.box H6.out.2.1 nb.out.1)
          have k2 := Lib.cell_of_heap (c9.box H6.out.2.2 nb.out.2)
          have T9 := hide t9
          clear t9 c9 zk TWf CZ
          go_wp2_with fail
          go_ret
          exact ⟨rfl, _, _, _, _, _, T9.out⟩
      · have q1 : (q == 0) = false := by simpa using hq
        have k1 := Lib.cell_of_heap HZ.out.2.1
        have k2 := Lib.cell_of_heap HZ.out.2.2.1
        have HQ := hide hq
        clear hq
        go_wp2_with fail
        go_ret
        exact ⟨rfl, _, _, _, _, _, HZ.out.1⟩
    · go_simp
      refine genK (R := fun W => Ch (fun y => y = b ∨ av.ownBlock = some y ∨ ov.ownBlock = some y) V2 W ∧ Ch (fun _ => False) V2 W ∧ W.heap[V2.heap.size]? = some (.cells #[.int .u32 0, .int .u32 0] 41 (0, 0))) ⟨zk.trans (Ch.alloc _ _) (fun _ _ h => h), Ch.alloc _ _, heap_new _ _⟩ ?_
      rintro X3 ⟨cF, cX, nX⟩
      clear zk
      refine hK.out _ _ ?_ (fun zk => ?_)
      · exact cF
      clear hK K
      try go_frame
      have LX2 := hide (show V2.heap.size < X3.heap.size from (Array.getElem?_eq_some_iff.1 nX).1)
      refine Go.Proofs.Ythnnpipekeanoaa.rd 12 ub12 rfl (by kernel_rfl) fun K hK => ?_
      go_simp
      refine (HP2.out _ (HV2.out.1.quiet fc cX).db (HV2.out.1.quiet fc cX).hB).mono ?_
      rintro e X4 ⟨rfl, av2, ov2, hd, hc, hva, hvo⟩
      have TW2 := hide ((HV2.out.1.quiet fc cX).doc fc hd hc hva hvo)
      have n2 := hc.box (cX.box HV2.out.2.2 (fun h => h)) NG.out.2.2
      have nX := hc.box nX (nQD (HV2.out.1.quiet fc cX) nX (by decide) (by decide) (by decide))
      have HC2 := hide hc
      have HVA := hide hva
      have HVO := hide hvo
      clear hd hc hva hvo
      go_wp2_with fail
      refine hK.out _ _ ?_ (fun zk => ?_)
      · exact cF.trans HC2.out (fun _ _ h => h)
      clear hK K
      try go_frame
      apply tk 13 ub13 rfl (by kernel_rfl) (fun _ _ _ h => h) zk
      · intro wq zq
        go_simp
        try rfl
      go_frame
      apply tk 14 ub14 rfl (by kernel_rfl) (fun _ _ _ h => h) zk
      · intro wq zq
        go_simp
        try rfl
      go_frame
      apply tk 15 ub15 rfl (by kernel_rfl) (fun _ _ _ h => h) zk
      · intro wq zq
        go_simp
        try rfl
      go_frame
      refine Go.Proofs.Ythnnpipekeanoaa.rd 17 ub17 rfl (by kernel_rfl) fun K hK => ?_
      have y0 := Lib.cell_of_heap nX
      have y1 := frz nX
      go_simp
      clear y0 y1
      refine genK (R := fun W => Ch (fun y => y = b ∨ av.ownBlock = some y ∨ ov.ownBlock = some y) V2 W ∧ Tw wB PT (paint2 (paint C V1 7) X3 av2) W B T p b F1 l' l' hs av2 ov2 tv lv wv ls ws rs n ∧ W.heap[X1.heap.size]? = some (.cells #[.int .u32 s, .int .u32 g] 41 (0, 0)) ∧ W.heap[V2.heap.size]? = some (.cells #[.int .u32 s, .int .u32 g] 41 (0, 0))) (have cs : Ch (fun y => y = V2.heap.size) X4 ((X4.setCell ⟨V2.heap.size, 0, none⟩ (.int .u32 s)).setCell ⟨V2.heap.size, 1, none⟩ (.int .u32 g)) := (Ch.set (Q := fun y => y = V2.heap.size) _ rfl _ _).trans (Ch.set (Q := fun y => y = V2.heap.size) _ rfl _ _) (fun _ _ h => h); ⟨zk.trans cs (fun y hy (e : y = V2.heap.size) => by omega), Tw.other fc HV2.out.1 TW2.out (Nat.le_refl _) (fun x hx => by have := HV2.out.1.fF x hx; omega) (fun x hx => (HVA.out x hx).elim (fun k => by have := (own_in HV2.out.1.db.all k).2.1; omega) (fun k => by have := LX2.out; omega)) (fun x hx => (HVO.out x hx).elim (fun k => by have := (own_in HV2.out.1.db.ov k).2.1; omega) (fun k => by have := LX2.out; omega)) cs, cs.box n2 (fun (e : X1.heap.size = V2.heap.size) => by have := (Array.getElem?_eq_some_iff.1 HV2.out.2.2).1; omega), set2 nX⟩) ?_
      rintro Z ⟨cG, tY, mY, nY⟩
      clear zk
      refine hK.out _ _ ?_ (fun zk => ?_)
      · exact cG
      clear hK K
      try go_frame
      apply tk 18 ub18 rfl (by kernel_rfl) (fun _ _ _ h => h) zk
      · intro wq zq
        go_simp
        try rfl
      go_frame
      refine wpAnyH_done (by kernel_rfl) ?_ _
      have HZ := hide (show Tw wB PT (paint2 (paint C V1 7) X3 av2) Z B T p b F1 l' l' hs av2 ov2 tv lv wv ls ws rs n ∧ Z.heap[X1.heap.size]? = some (.cells #[.int .u32 s, .int .u32 g] 41 (0, 0)) ∧ Z.heap[V2.heap.size]? = some (.cells #[.int .u32 s, .int .u32 g] 41 (0, 0)) ∧ V2.heap.size ≤ V2.heap.size from ⟨tY, mY, nY, Nat.le_refl _⟩)
      clear cG tY mY nY n2 TW2 zk
      have LA := hide (show V1.heap.size ≤ X1.heap.size ∧ V1.heap.size ≤ V2.heap.size from ⟨HY.out.2.2.2, Nat.le_trans (Nat.le_of_lt (Nat.lt_of_le_of_lt HY.out.2.2.2 (Array.getElem?_eq_some_iff.1 HV2.out.2.2).1)) HZ.out.2.2.2⟩)
      clear HC HP1 HP2 NG HY
      by_cases hq : q = 0
      · subst hq
        go_wp2_with fail
        refine wp_reg (fun y => y = T ∨ tv.ownBlock = some y) (R := fun W => Tw wB PT (paint2 (paint C V1 7) X3 av2) W B T p b F1 l' l' hs av2 ov2 tv lv wv ls ws rs n ∧ W.heap[X1.heap.size]? = some (.cells #[.int .u32 s, .int .u32 g] 41 (0, 0)) ∧ W.heap[V2.heap.size]? = some (.cells #[.int .u32 s, .int .u32 g] 41 (0, 0))) (by kernel_rfl) ⟨HZ.out.1.quiet fc (Ch.drew _), (Ch.drew (Q := fun _ => False) _).box HZ.out.2.1 (fun h => h), (Ch.drew (Q := fun _ => False) _).box HZ.out.2.2.1 (fun h => h)⟩ ?_
        rintro V6 v zk
        have H6 := hide v
        clear v
        obtain ⟨i0, hi0, hz0, hz1, hz2⟩ := nf_open nfHd
        obtain ⟨ta, tn, tc, htv⟩ := own_form H6.out.1.td
        subst htv
        have ow := hide (fun x hx => (own_in HV1.out.1.td (g := x) hx).2.1)
        have nb := hide (show (¬ (X1.heap.size = T ∨ (Value.slice ta tn tc).ownBlock = some (X1.heap.size))) ∧ ¬ (V2.heap.size = T ∨ (Value.slice ta tn tc).ownBlock = some (V2.heap.size)) from ⟨fun e => by have hT1 := (Array.getElem?_eq_some_iff.1 HV1.out.1.hT).1; have := LA.out.1; rcases e with e | e; omega; have := ow.out _ e; omega, fun e => by have hT1 := (Array.getElem?_eq_some_iff.1 HV1.out.1.hT).1; have := LA.out.2; rcases e with e | e; omega; have := ow.out _ e; omega⟩)
        have HB2 := hide (fun wq (zq : Ch (fun y => y = T ∨ (Value.slice ta tn tc).ownBlock = some y) V6 wq) => have e := Lib.cell_of_heap (zq.box H6.out.2.2 nb.out.2); show wq.cell? ⟨V2.heap.size, 0, none⟩ = some (.int .u32 s) ∧ wq.cell? ⟨V2.heap.size, 1, none⟩ = some (.int .u32 g) from ⟨by simp [e], by simp [e]⟩)
        apply tk 0 uc0 rfl (by kernel_rfl) (fun _ _ _ h => h) zk
        · intro wq zq
          go_simp
          try rfl
        go_frame
        apply tk 1 uc1 rfl (by kernel_rfl) (fun _ _ _ h => h) zk
        · intro wq zq
          go_simp
          try rfl
        go_frame
        apply tk 2 uc2 rfl (by kernel_rfl) (fun _ _ _ h => h) zk
        · intro wq zq
          go_simp
          try rfl
        go_frame
        apply tk 3 uc3 rfl (by kernel_rfl) (fun _ _ _ h => h) zk
        · intro wq zq
          go_simp
          try rfl
        go_frame
        apply tk 5 uc5 rfl (by kernel_rfl) (fun _ _ _ h => h) zk
        · intro wq zq
          obtain ⟨s1, s2⟩ := HB2.out _ zq
          go_simp
          try rfl
        go_frame
        refine wpAnyH_ready (rs := [4, 6]) (by kernel_rfl) (by simp) ?_
        refine AllReadyH.cons (o := uc4) rfl (fun K hK => ?_) (AllReadyH.cons (o := uc6) rfl (fun K hK => ?_) AllReadyH.nil)
        · have s1 : V6.cell? ⟨T, 2, none⟩ = some (.slice ta tn tc) := by simp [Lib.cell_of_heap H6.out.1.hT]
          go_simp
          refine hK.out _ _ ?_ (fun zk => ?_)
          · exact zk
          clear hK K
          try go_frame
          clear s1
          refine Go.Proofs.Ythnnpipekeanoaa.rd 6 uc6 rfl (by kernel_rfl) fun K hK => ?_
          go_simp
          refine genK (R := fun W => Ch (fun _ => False) V6 W ∧ (∀ j u, (hdF (s, g))[j]? = some u → W.cell? ((⟨V6.heap.size, 0, none⟩ : Addr).add j) = some u)) ⟨Ch.alloc _ _, row_new V6 (hdF (s, g)) 41 rfl⟩ ?_
          rintro X7 ⟨c7, r7⟩
          clear zk
          refine hK.out _ _ (c7.mono (fun _ _ h => h.elim)) (fun zk => ?_)
          clear hK K
          try go_frame
          refine Go.Proofs.Ythnnpipekeanoaa.rd 7 uc7 rfl (by kernel_rfl) fun K hK => ?_
          refine step_append_at rfl (.tmp 63) (.tmp 65) 32 rfl B 41 i0 (.agg #[.int .u32 0, .int .u32 0]) 2 8 Try.underlying32 hi0 hz0 hz1 hz2 rfl (by decide) (.slice ta tn tc) hs.length (hs.flatMap hdF) rfl (H6.out.1.td.ch c7 (fun _ _ h => h)) ⟨V6.heap.size, 0, none⟩ 1 1 (hdF (s, g)) rfl rfl r7 (by simp [hdF, Value.oneCell']) (by unfold maxLen; omega) (by omega) (Nat.le_trans H6.out.1.hB c7.size) ?_
          intro v5 W5 hr5 hg5 hat5
          have C5 := hide (show Ch (fun y => (Value.slice ta tn tc).ownBlock = some y) V6 W5 from (c7.mono (fun _ _ h => h.elim)).trans (Ch.of_grown (Q := fun y => (Value.slice ta tn tc).ownBlock = some y) hg5 (fun _ e => e)) (fun _ _ h => h))
          have R5 := hide (show HdRow W5 B v5 (hs ++ [(s, g)]) from Row.snoc hr5)
          obtain ⟨a5, n5, c5, e5⟩ := own_form hr5
          subst e5
          have HA5 := hide hat5
          have T5 := C5.out.box H6.out.1.hT (fun e => own_box H6.out.1.td H6.out.1.hT (by decide) e)
          have y2 : W5.cell? ⟨T, 2, none⟩ = some (.slice ta tn tc) := by simp [Lib.cell_of_heap T5]
          have yf := frz T5
          have S7 := hide c7.size
          clear hr5 hg5 hat5 r7 c7
          refine hK.out _ _ ?_ (fun zk => ?_)
          · exact C5.out.mono (fun _ _ h => Or.inr h)
          clear hK K
          try go_frame
          apply tk 8 uc8 rfl (by kernel_rfl) (fun _ _ _ h => h) zk
          · intro wq zq
            go_simp
            try rfl
          go_frame
          apply tk 9 uc9 rfl (by kernel_rfl) (fun _ _ _ h => h) zk
          · intro wq zq
            go_simp
            try rfl
          go_frame
          refine Go.Proofs.Ythnnpipekeanoaa.rd 10 uc10 rfl (by kernel_rfl) fun K hK => ?_
          go_simp
          have c6 := Ch.set (Q := fun y => y = T) W5 rfl 2 (.slice a5 n5 c5)
          have TWf := hide (H6.out.1.push fc (hs' := hs ++ [(s, g)]) (heap_set T5 2 (.slice a5 n5 c5)) (R5.out.ch c6 (fun x hx (e : x = T) => by subst e; exact own_box R5.out T5 (by decide) hx)) ((C5.out.mono (fun _ _ h => Or.inr h)).trans c6 (fun y _ e => Or.inl e)) (fun x hx => HA5.out.elim (fun e => Or.inl (e.symm.trans hx)) (fun e => Or.inr (by rw [e] at hx; injection hx with hx; have := S7.out; omega))))
          have CZ := hide ((C5.out.mono (Q' := fun y => y = T ∨ (Value.slice ta tn tc).ownBlock = some y) (fun _ _ h => Or.inr h)).trans c6 (fun y _ e => Or.inl e))
          clear y2 yf T5 c6
          refine genK (R := fun W => Tw wB PT (paint (paint2 (paint C V1 7) X3 av2) V6 4) W B T p b F1 l' l' (hs ++ [(s, g)]) av2 ov2 (.slice a5 n5 c5) lv wv ls ws rs n ∧ Ch (fun y => y = T ∨ (Value.slice ta tn tc).ownBlock = some y) V6 W) ⟨TWf.out, CZ.out⟩ ?_
          rintro W9 ⟨t9, c9⟩
          clear zk
          refine hK.out _ _ c9 (fun zk => ?_)
          clear hK K
          try go_frame
          refine wpAnyH_done (by kernel_rfl) ?_ _
          have k1 := Lib.cell_of_heap (c9.box H6.out.2.1 nb.out.1)
          have k2 := Lib.cell_of_heap (c9.box H6.out.2.2 nb.out.2)
          have T9 := hide t9
          clear t9 c9 zk TWf CZ
          go_wp2_with fail
          go_ret
          exact ⟨rfl, _, _, _, _, _, T9.out⟩
        · go_simp
          refine genK (R := fun W => Ch (fun _ => False) V6 W ∧ (∀ j u, (hdF (s, g))[j]? = some u → W.cell? ((⟨V6.heap.size, 0, none⟩ : Addr).add j) = some u)) ⟨Ch.alloc _ _, row_new V6 (hdF (s, g)) 41 rfl⟩ ?_
          rintro X7 ⟨c7, r7⟩
          clear zk
          refine hK.out _ _ (c7.mono (fun _ _ h => h.elim)) (fun zk => ?_)
          clear hK K
          try go_frame
          refine Go.Proofs.Ythnnpipekeanoaa.rd 4 uc4 rfl (by kernel_rfl) fun K hK => ?_
          have s1 : X7.cell? ⟨T, 2, none⟩ = some (.slice ta tn tc) := by simp [Lib.cell_of_heap (c7.box H6.out.1.hT (fun h => h))]
          go_simp
          refine hK.out _ _ ?_ (fun zk => ?_)
          · exact zk
          clear hK K
          try go_frame
          clear s1
          refine Go.Proofs.Ythnnpipekeanoaa.rd 7 uc7 rfl (by kernel_rfl) fun K hK => ?_
          refine step_append_at rfl (.tmp 63) (.tmp 65) 32 rfl B 41 i0 (.agg #[.int .u32 0, .int .u32 0]) 2 8 Try.underlying32 hi0 hz0 hz1 hz2 rfl (by decide) (.slice ta tn tc) hs.length (hs.flatMap hdF) rfl (H6.out.1.td.ch c7 (fun _ _ h => h)) ⟨V6.heap.size, 0, none⟩ 1 1 (hdF (s, g)) rfl rfl r7 (by simp [hdF, Value.oneCell']) (by unfold maxLen; omega) (by omega) (Nat.le_trans H6.out.1.hB c7.size) ?_
          intro v5 W5 hr5 hg5 hat5
          have C5 := hide (show Ch (fun y => (Value.slice ta tn tc).ownBlock = some y) V6 W5 from (c7.mono (fun _ _ h => h.elim)).trans (Ch.of_grown (Q := fun y => (Value.slice ta tn tc).ownBlock = some y) hg5 (fun _ e => e)) (fun _ _ h => h))
          have R5 := hide (show HdRow W5 B v5 (hs ++ [(s, g)]) from Row.snoc hr5)
          obtain ⟨a5, n5, c5, e5⟩ := own_form hr5
          subst e5
          have HA5 := hide hat5
          have T5 := C5.out.box H6.out.1.hT (fun e => own_box H6.out.1.td H6.out.1.hT (by decide) e)
          have y2 : W5.cell? ⟨T, 2, none⟩ = some (.slice ta tn tc) := by simp [Lib.cell_of_heap T5]
          have yf := frz T5
          have S7 := hide c7.size
          clear hr5 hg5 hat5 r7 c7
          refine hK.out _ _ ?_ (fun zk => ?_)
          · exact C5.out.mono (fun _ _ h => Or.inr h)
          clear hK K
          try go_frame
          apply tk 8 uc8 rfl (by kernel_rfl) (fun _ _ _ h => h) zk
          · intro wq zq
            go_simp
            try rfl
          go_frame
          apply tk 9 uc9 rfl (by kernel_rfl) (fun _ _ _ h => h) zk
          · intro wq zq
            go_simp
            try rfl
          go_frame
          refine Go.Proofs.Ythnnpipekeanoaa.rd 10 uc10 rfl (by kernel_rfl) fun K hK => ?_
          go_simp
          have c6 := Ch.set (Q := fun y => y = T) W5 rfl 2 (.slice a5 n5 c5)
          have TWf := hide (H6.out.1.push fc (hs' := hs ++ [(s, g)]) (heap_set T5 2 (.slice a5 n5 c5)) (R5.out.ch c6 (fun x hx (e : x = T) => by subst e; exact own_box R5.out T5 (by decide) hx)) ((C5.out.mono (fun _ _ h => Or.inr h)).trans c6 (fun y _ e => Or.inl e)) (fun x hx => HA5.out.elim (fun e => Or.inl (e.symm.trans hx)) (fun e => Or.inr (by rw [e] at hx; injection hx with hx; have := S7.out; omega))))
          have CZ := hide ((C5.out.mono (Q' := fun y => y = T ∨ (Value.slice ta tn tc).ownBlock = some y) (fun _ _ h => Or.inr h)).trans c6 (fun y _ e => Or.inl e))
          clear y2 yf T5 c6
          refine genK (R := fun W => Tw wB PT (paint (paint2 (paint C V1 7) X3 av2) V6 4) W B T p b F1 l' l' (hs ++ [(s, g)]) av2 ov2 (.slice a5 n5 c5) lv wv ls ws rs n ∧ Ch (fun y => y = T ∨ (Value.slice ta tn tc).ownBlock = some y) V6 W) ⟨TWf.out, CZ.out⟩ ?_
          rintro W9 ⟨t9, c9⟩
          clear zk
          refine hK.out _ _ c9 (fun zk => ?_)
          clear hK K
          try go_frame
          refine wpAnyH_done (by kernel_rfl) ?_ _
          have k1 := Lib.cell_of_heap (c9.box H6.out.2.1 nb.out.1)
          have k2 := Lib.cell_of_heap (c9.box H6.out.2.2 nb.out.2)
          have T9 := hide t9
          clear t9 c9 zk TWf CZ
          go_wp2_with fail
          go_ret
          exact ⟨rfl, _, _, _, _, _, T9.out⟩
      · have q1 : (q == 0) = false := by simpa using hq
        have k1 := Lib.cell_of_heap HZ.out.2.1
        have k2 := Lib.cell_of_heap HZ.out.2.2.1
        have HQ := hide hq
        clear hq
        go_wp2_with fail
        go_ret
        exact ⟨rfl, _, _, _, _, _, HZ.out.1⟩
  · go_simp
    refine genK (R := fun W => Ch F V1 W ∧ Ch (fun _ => False) V1 W ∧ W.heap[V1.heap.size]? = some (.cells #[.int .u32 0, .int .u32 0] 41 (0, 0))) ⟨zk.trans (Ch.alloc _ _) (fun _ _ h => h), Ch.alloc _ _, heap_new _ _⟩ ?_
    rintro X1 ⟨cF, cX, nX⟩
    clear zk
    refine hK.out _ _ ?_ (fun zk => ?_)
    · exact cF
    clear hK K
    try go_frame
    have LX := hide (show V1.heap.size < X1.heap.size from (Array.getElem?_eq_some_iff.1 nX).1)
    refine Go.Proofs.Ythnnpipekeanoaa.rd 12 ua12 rfl (by kernel_rfl) fun K hK => ?_
    go_simp
    refine (HP1.out _ _ (HV1.out.1.quiet fc cX)).mono ?_
    rintro e X2 ⟨F1, rfl, hp, hc, hf⟩
    have TW1 := hide ((HV1.out.1.quiet fc cX).book fc hc hp hf)
    have n1 := hc.box (cX.box HV1.out.2 (fun h => h)) NF.out.2
    have nX := hc.box nX (fun e => by have := HV1.out.1.fF _ e; omega)
    have HC1 := hide hc
    have HF1 := hide hf
    clear hp hc hf
    go_wp2_with fail
    refine hK.out _ _ ?_ (fun zk => ?_)
    · exact cF.trans HC1.out (fun _ _ h => h)
    clear hK K
    try go_frame
    apply tk 13 ua13 rfl (by kernel_rfl) (fun _ _ _ h => h) zk
    · intro wq zq
      go_simp
      try rfl
    go_frame
    apply tk 14 ua14 rfl (by kernel_rfl) (fun _ _ _ h => h) zk
    · intro wq zq
      go_simp
      try rfl
    go_frame
    apply tk 15 ua15 rfl (by kernel_rfl) (fun _ _ _ h => h) zk
    · intro wq zq
      go_simp
      try rfl
    go_frame
    refine Go.Proofs.Ythnnpipekeanoaa.rd 17 ua17 rfl (by kernel_rfl) fun K hK => ?_
    have y0 := Lib.cell_of_heap nX
    have y1 := frz nX
    go_simp
    clear y0 y1
    refine genK (R := fun W => Ch F V1 W ∧ Tw wB PT (paint C X1 7) W B T p b F1 l' l hs av ov tv lv wv ls ws rs n ∧ W.heap[w.heap.size]? = some (.cells (opF o).toArray 48 (0, 0)) ∧ W.heap[V1.heap.size]? = some (.cells #[.int .u32 s, .int .u32 g] 41 (0, 0))) (have cs : Ch (fun y => y = V1.heap.size) X2 ((X2.setCell ⟨V1.heap.size, 0, none⟩ (.int .u32 s)).setCell ⟨V1.heap.size, 1, none⟩ (.int .u32 g)) := (Ch.set (Q := fun y => y = V1.heap.size) _ rfl _ _).trans (Ch.set (Q := fun y => y = V1.heap.size) _ rfl _ _) (fun _ _ h => h); ⟨zk.trans cs (fun y hy (e : y = V1.heap.size) => by omega), Tw.other fc HV1.out.1 TW1.out (Nat.le_refl _) (fun x hx => (HF1.out x hx).elim (fun k => by have := HV1.out.1.fF x k; omega) (fun k => by have := LX.out; omega)) (fun x hx => by have := (own_in HV1.out.1.db.all hx).2.1; omega) (fun x hx => by have := (own_in HV1.out.1.db.ov hx).2.1; omega) cs, cs.box n1 (fun (e : w.heap.size = V1.heap.size) => by have := (Array.getElem?_eq_some_iff.1 HV1.out.2).1; omega), set2 nX⟩) ?_
    rintro Y ⟨cG, tY, mY, nY⟩
    clear zk
    refine hK.out _ _ ?_ (fun zk => ?_)
    · exact cG
    clear hK K
    try go_frame
    apply tk 18 ua18 rfl (by kernel_rfl) (fun _ _ _ h => h) zk
    · intro wq zq
      go_simp
      try rfl
    go_frame
    refine wpAnyH_done (by kernel_rfl) ?_ _
    have HY := hide (show Tw wB PT (paint C X1 7) Y B T p b F1 l' l hs av ov tv lv wv ls ws rs n ∧ Y.heap[w.heap.size]? = some (.cells (opF o).toArray 48 (0, 0)) ∧ Y.heap[V1.heap.size]? = some (.cells #[.int .u32 s, .int .u32 g] 41 (0, 0)) ∧ V1.heap.size ≤ V1.heap.size from ⟨tY, mY, nY, Nat.le_refl _⟩)
    clear cG tY mY nY n1 TW1 zk
    go_wp2_with fail
    refine wp_reg (fun y => y = b ∨ av.ownBlock = some y ∨ ov.ownBlock = some y) (R := fun W => Tw wB PT (paint C X1 7) W B T p b F1 l' l hs av ov tv lv wv ls ws rs n ∧ W.heap[w.heap.size]? = some (.cells (opF o).toArray 48 (0, 0)) ∧ W.heap[V1.heap.size]? = some (.cells #[.int .u32 s, .int .u32 g] 41 (0, 0))) (by kernel_rfl) ⟨HY.out.1.quiet fc (Ch.drew _), (Ch.drew (Q := fun _ => False) _).box HY.out.2.1 (fun h => h), (Ch.drew (Q := fun _ => False) _).box HY.out.2.2.1 (fun h => h)⟩ ?_
    rintro V2 v zk
    have HV2 := hide v
    clear v
    have NG := hide (show ¬ (fun y => y = b ∨ av.ownBlock = some y ∨ ov.ownBlock = some y) T ∧ ¬ (fun y => y = b ∨ av.ownBlock = some y ∨ ov.ownBlock = some y) w.heap.size ∧ ¬ (fun y => y = b ∨ av.ownBlock = some y ∨ ov.ownBlock = some y) (V1.heap.size) from ⟨nQD HV2.out.1 HV2.out.1.hT (by decide) (by decide) (by decide), nQD HV2.out.1 HV2.out.2.1 (by decide) (by decide) (by decide), nQD HV2.out.1 HV2.out.2.2 (by decide) (by decide) (by decide)⟩)
    have HC := hide (fun wq (zq : Ch (fun y => y = b ∨ av.ownBlock = some y ∨ ov.ownBlock = some y) V2 wq) => step_reads (wq := wq) (Q := fun y => y = b ∨ av.ownBlock = some y ∨ ov.ownBlock = some y) (o := o) HV2.out.1.hT HV2.out.2.1 zq NG.out.1 NG.out.2.1)
    apply tk 0 ub0 rfl (by kernel_rfl) (fun _ _ _ h => h) zk
    · intro wq zq
      go_simp
      try rfl
    go_frame
    apply tk 1 ub1 rfl (by kernel_rfl) (fun _ _ _ h => h) zk
    · intro wq zq
      go_simp
      try rfl
    go_frame
    apply tk 2 ub2 rfl (by kernel_rfl) (fun _ _ _ h => h) zk
    · intro wq zq
      go_simp
      try rfl
    go_frame
    apply tk 3 ub3 rfl (by kernel_rfl) (fun _ _ _ h => h) zk
    · intro wq zq
      have s1 := (HC.out _ zq).2.1
      go_simp
      try rfl
    go_frame
    apply tk 4 ub4 rfl (by kernel_rfl) (fun _ _ _ h => h) zk
    · intro wq zq
      go_simp
      try rfl
    go_frame
    apply tk 5 ub5 rfl (by kernel_rfl) (fun _ _ _ h => h) zk
    · intro wq zq
      obtain ⟨s1, s2, s3⟩ := (HC.out _ zq).2.2.1
      go_simp
      try rfl
    go_frame
    apply tk 6 ub6 rfl (by kernel_rfl) (fun _ _ _ h => h) zk
    · intro wq zq
      go_simp
      try rfl
    go_frame
    apply tk 7 ub7 rfl (by kernel_rfl) (fun _ _ _ h => h) zk
    · intro wq zq
      obtain ⟨s1, s2⟩ := (HC.out _ zq).2.2.2.1
      go_simp
      try rfl
    go_frame
    apply tk 8 ub8 rfl (by kernel_rfl) (fun _ _ _ h => h) zk
    · intro wq zq
      go_simp
      try rfl
    go_frame
    apply tk 9 ub9 rfl (by kernel_rfl) (fun _ _ _ h => h) zk
    · intro wq zq
      have s1 := (HC.out _ zq).2.2.2.2.1
      go_simp
      try rfl
    go_frame
    apply tk 10 ub10 rfl (by kernel_rfl) (fun _ _ _ h => h) zk
    · intro wq zq
      go_simp
      try rfl
    go_frame
    apply tk 11 ub11 rfl (by kernel_rfl) (fun _ _ _ h => h) zk
    · intro wq zq
      obtain ⟨s1, s2, s3⟩ := (HC.out _ zq).2.2.2.2.2
      go_simp
      try rfl
    go_frame
    refine wpAnyH_ready (rs := [12, 16]) (by kernel_rfl) (by simp) ?_
    refine AllReadyH.cons (o := ub12) rfl (fun K hK => ?_) (AllReadyH.cons (o := ub16) rfl (fun K hK => ?_) AllReadyH.nil)
    · go_simp
      refine (HP2.out _ HV2.out.1.db HV2.out.1.hB).mono ?_
      rintro e X3 ⟨rfl, av2, ov2, hd, hc, hva, hvo⟩
      have TW2 := hide (HV2.out.1.doc fc hd hc hva hvo)
      have n2 := hc.box HV2.out.2.2 NG.out.2.2
      have HC2 := hide hc
      clear hd hc hva hvo
      go_wp2_with fail
      refine hK.out _ _ ?_ (fun zk => ?_)
      · exact zk.trans HC2.out (fun _ _ h => h)
      clear hK K
      try go_frame
      apply tk 13 ub13 rfl (by kernel_rfl) (fun _ _ _ h => h) zk
      · intro wq zq
        go_simp
        try rfl
      go_frame
      apply tk 14 ub14 rfl (by kernel_rfl) (fun _ _ _ h => h) zk
      · intro wq zq
        go_simp
        try rfl
      go_frame
      apply tk 15 ub15 rfl (by kernel_rfl) (fun _ _ _ h => h) zk
      · intro wq zq
        go_simp
        try rfl
      go_frame
      refine Go.Proofs.Ythnnpipekeanoaa.rd 16 ub16 rfl (by kernel_rfl) fun K hK => ?_
      go_simp
      refine genK (R := fun W => Ch (fun y => y = b ∨ av.ownBlock = some y ∨ ov.ownBlock = some y) V2 W ∧ Ch (fun _ => False) X3 W ∧ W.heap[X3.heap.size]? = some (.cells #[.int .u32 0, .int .u32 0] 41 (0, 0))) ⟨zk.trans (Ch.alloc _ _) (fun _ _ h => h), Ch.alloc _ _, heap_new _ _⟩ ?_
      rintro X4 ⟨cF, cX, nX⟩
      clear zk
      refine hK.out _ _ ?_ (fun zk => ?_)
      · exact cF
      clear hK K
      try go_frame
      refine Go.Proofs.Ythnnpipekeanoaa.rd 17 ub17 rfl (by kernel_rfl) fun K hK => ?_
      have y0 := Lib.cell_of_heap nX
      have y1 := frz nX
      go_simp
      clear y0 y1
      refine genK (R := fun W => Ch (fun y => y = b ∨ av.ownBlock = some y ∨ ov.ownBlock = some y) V2 W ∧ Ch (fun _ => False) X3 W ∧ W.heap[X3.heap.size]? = some (.cells #[.int .u32 s, .int .u32 g] 41 (0, 0))) ⟨(cF.set_new HC2.out.size 0 _).set_new HC2.out.size 1 _, (cX.set_new (Nat.le_refl _) 0 _).set_new (Nat.le_refl _) 1 _, set2 nX⟩ ?_
      rintro Z ⟨cG, cY, nY⟩
      clear zk
      refine hK.out _ _ ?_ (fun zk => ?_)
      · exact cG
      clear hK K
      try go_frame
      apply tk 18 ub18 rfl (by kernel_rfl) (fun _ _ _ h => h) zk
      · intro wq zq
        go_simp
        try rfl
      go_frame
      refine wpAnyH_done (by kernel_rfl) ?_ _
      have HZ := hide (show Tw wB PT (paint2 (paint C X1 7) V2 av2) Z B T p b F1 l' l' hs av2 ov2 tv lv wv ls ws rs n ∧ Z.heap[V1.heap.size]? = some (.cells #[.int .u32 s, .int .u32 g] 41 (0, 0)) ∧ Z.heap[X3.heap.size]? = some (.cells #[.int .u32 s, .int .u32 g] 41 (0, 0)) ∧ V2.heap.size ≤ X3.heap.size from ⟨TW2.out.quiet fc cY, cY.box n2 (fun h => h), nY, HC2.out.size⟩)
      clear cG cY nY n2 TW2 zk
      have LA := hide (show V1.heap.size ≤ V1.heap.size ∧ V1.heap.size ≤ X3.heap.size from ⟨HY.out.2.2.2, Nat.le_trans (Nat.le_of_lt (Nat.lt_of_le_of_lt HY.out.2.2.2 (Array.getElem?_eq_some_iff.1 HV2.out.2.2).1)) HZ.out.2.2.2⟩)
      clear HC HP1 HP2 NG HY
      by_cases hq : q = 0
      · subst hq
        go_wp2_with fail
        refine wp_reg (fun y => y = T ∨ tv.ownBlock = some y) (R := fun W => Tw wB PT (paint2 (paint C X1 7) V2 av2) W B T p b F1 l' l' hs av2 ov2 tv lv wv ls ws rs n ∧ W.heap[V1.heap.size]? = some (.cells #[.int .u32 s, .int .u32 g] 41 (0, 0)) ∧ W.heap[X3.heap.size]? = some (.cells #[.int .u32 s, .int .u32 g] 41 (0, 0))) (by kernel_rfl) ⟨HZ.out.1.quiet fc (Ch.drew _), (Ch.drew (Q := fun _ => False) _).box HZ.out.2.1 (fun h => h), (Ch.drew (Q := fun _ => False) _).box HZ.out.2.2.1 (fun h => h)⟩ ?_
        rintro V6 v zk
        have H6 := hide v
        clear v
        obtain ⟨i0, hi0, hz0, hz1, hz2⟩ := nf_open nfHd
        obtain ⟨ta, tn, tc, htv⟩ := own_form H6.out.1.td
        subst htv
        have ow := hide (fun x hx => (own_in HV1.out.1.td (g := x) hx).2.1)
        have nb := hide (show (¬ (V1.heap.size = T ∨ (Value.slice ta tn tc).ownBlock = some (V1.heap.size))) ∧ ¬ (X3.heap.size = T ∨ (Value.slice ta tn tc).ownBlock = some (X3.heap.size)) from ⟨fun e => by have hT1 := (Array.getElem?_eq_some_iff.1 HV1.out.1.hT).1; have := LA.out.1; rcases e with e | e; omega; have := ow.out _ e; omega, fun e => by have hT1 := (Array.getElem?_eq_some_iff.1 HV1.out.1.hT).1; have := LA.out.2; rcases e with e | e; omega; have := ow.out _ e; omega⟩)
        have HB2 := hide (fun wq (zq : Ch (fun y => y = T ∨ (Value.slice ta tn tc).ownBlock = some y) V6 wq) => have e := Lib.cell_of_heap (zq.box H6.out.2.2 nb.out.2); show wq.cell? ⟨X3.heap.size, 0, none⟩ = some (.int .u32 s) ∧ wq.cell? ⟨X3.heap.size, 1, none⟩ = some (.int .u32 g) from ⟨by simp [e], by simp [e]⟩)
        apply tk 0 uc0 rfl (by kernel_rfl) (fun _ _ _ h => h) zk
        · intro wq zq
          go_simp
          try rfl
        go_frame
        apply tk 1 uc1 rfl (by kernel_rfl) (fun _ _ _ h => h) zk
        · intro wq zq
          go_simp
          try rfl
        go_frame
        apply tk 2 uc2 rfl (by kernel_rfl) (fun _ _ _ h => h) zk
        · intro wq zq
          go_simp
          try rfl
        go_frame
        apply tk 3 uc3 rfl (by kernel_rfl) (fun _ _ _ h => h) zk
        · intro wq zq
          go_simp
          try rfl
        go_frame
        apply tk 5 uc5 rfl (by kernel_rfl) (fun _ _ _ h => h) zk
        · intro wq zq
          obtain ⟨s1, s2⟩ := HB2.out _ zq
          go_simp
          try rfl
        go_frame
        refine wpAnyH_ready (rs := [4, 6]) (by kernel_rfl) (by simp) ?_
        refine AllReadyH.cons (o := uc4) rfl (fun K hK => ?_) (AllReadyH.cons (o := uc6) rfl (fun K hK => ?_) AllReadyH.nil)
        · have s1 : V6.cell? ⟨T, 2, none⟩ = some (.slice ta tn tc) := by simp [Lib.cell_of_heap H6.out.1.hT]
          go_simp
          refine hK.out _ _ ?_ (fun zk => ?_)
          · exact zk
          clear hK K
          try go_frame
          clear s1
          refine Go.Proofs.Ythnnpipekeanoaa.rd 6 uc6 rfl (by kernel_rfl) fun K hK => ?_
          go_simp
          refine genK (R := fun W => Ch (fun _ => False) V6 W ∧ (∀ j u, (hdF (s, g))[j]? = some u → W.cell? ((⟨V6.heap.size, 0, none⟩ : Addr).add j) = some u)) ⟨Ch.alloc _ _, row_new V6 (hdF (s, g)) 41 rfl⟩ ?_
          rintro X7 ⟨c7, r7⟩
          clear zk
          refine hK.out _ _ (c7.mono (fun _ _ h => h.elim)) (fun zk => ?_)
          clear hK K
          try go_frame
          refine Go.Proofs.Ythnnpipekeanoaa.rd 7 uc7 rfl (by kernel_rfl) fun K hK => ?_
          refine step_append_at rfl (.tmp 63) (.tmp 65) 32 rfl B 41 i0 (.agg #[.int .u32 0, .int .u32 0]) 2 8 Try.underlying32 hi0 hz0 hz1 hz2 rfl (by decide) (.slice ta tn tc) hs.length (hs.flatMap hdF) rfl (H6.out.1.td.ch c7 (fun _ _ h => h)) ⟨V6.heap.size, 0, none⟩ 1 1 (hdF (s, g)) rfl rfl r7 (by simp [hdF, Value.oneCell']) (by unfold maxLen; omega) (by omega) (Nat.le_trans H6.out.1.hB c7.size) ?_
          intro v5 W5 hr5 hg5 hat5
          have C5 := hide (show Ch (fun y => (Value.slice ta tn tc).ownBlock = some y) V6 W5 from (c7.mono (fun _ _ h => h.elim)).trans (Ch.of_grown (Q := fun y => (Value.slice ta tn tc).ownBlock = some y) hg5 (fun _ e => e)) (fun _ _ h => h))
          have R5 := hide (show HdRow W5 B v5 (hs ++ [(s, g)]) from Row.snoc hr5)
          obtain ⟨a5, n5, c5, e5⟩ := own_form hr5
          subst e5
          have HA5 := hide hat5
          have T5 := C5.out.box H6.out.1.hT (fun e => own_box H6.out.1.td H6.out.1.hT (by decide) e)
          have y2 : W5.cell? ⟨T, 2, none⟩ = some (.slice ta tn tc) := by simp [Lib.cell_of_heap T5]
          have yf := frz T5
          have S7 := hide c7.size
          clear hr5 hg5 hat5 r7 c7
          refine hK.out _ _ ?_ (fun zk => ?_)
          · exact C5.out.mono (fun _ _ h => Or.inr h)
          clear hK K
          try go_frame
          apply tk 8 uc8 rfl (by kernel_rfl) (fun _ _ _ h => h) zk
          · intro wq zq
            go_simp
            try rfl
          go_frame
          apply tk 9 uc9 rfl (by kernel_rfl) (fun _ _ _ h => h) zk
          · intro wq zq
            go_simp
            try rfl
          go_frame
          refine Go.Proofs.Ythnnpipekeanoaa.rd 10 uc10 rfl (by kernel_rfl) fun K hK => ?_
          go_simp
          have c6 := Ch.set (Q := fun y => y = T) W5 rfl 2 (.slice a5 n5 c5)
          have TWf := hide (H6.out.1.push fc (hs' := hs ++ [(s, g)]) (heap_set T5 2 (.slice a5 n5 c5)) (R5.out.ch c6 (fun x hx (e : x = T) => by subst e; exact own_box R5.out T5 (by decide) hx)) ((C5.out.mono (fun _ _ h => Or.inr h)).trans c6 (fun y _ e => Or.inl e)) (fun x hx => HA5.out.elim (fun e => Or.inl (e.symm.trans hx)) (fun e => Or.inr (by rw [e] at hx; injection hx with hx; have := S7.out; omega))))
          have CZ := hide ((C5.out.mono (Q' := fun y => y = T ∨ (Value.slice ta tn tc).ownBlock = some y) (fun _ _ h => Or.inr h)).trans c6 (fun y _ e => Or.inl e))
          clear y2 yf T5 c6
          refine genK (R := fun W => Tw wB PT (paint (paint2 (paint C X1 7) V2 av2) V6 4) W B T p b F1 l' l' (hs ++ [(s, g)]) av2 ov2 (.slice a5 n5 c5) lv wv ls ws rs n ∧ Ch (fun y => y = T ∨ (Value.slice ta tn tc).ownBlock = some y) V6 W) ⟨TWf.out, CZ.out⟩ ?_
          rintro W9 ⟨t9, c9⟩
          clear zk
          refine hK.out _ _ c9 (fun zk => ?_)
          clear hK K
          try go_frame
          refine wpAnyH_done (by kernel_rfl) ?_ _
          have k1 := Lib.cell_of_heap (c9.box H6.out.2.1 nb.out.1)
          have k2 := Lib.cell_of_heap (c9.box H6.out.2.2 nb.out.2)
          have T9 := hide t9
          clear t9 c9 zk TWf CZ
          go_wp2_with fail
          go_ret
          exact ⟨rfl, _, _, _, _, _, T9.out⟩
        · go_simp
          refine genK (R := fun W => Ch (fun _ => False) V6 W ∧ (∀ j u, (hdF (s, g))[j]? = some u → W.cell? ((⟨V6.heap.size, 0, none⟩ : Addr).add j) = some u)) ⟨Ch.alloc _ _, row_new V6 (hdF (s, g)) 41 rfl⟩ ?_
          rintro X7 ⟨c7, r7⟩
          clear zk
          refine hK.out _ _ (c7.mono (fun _ _ h => h.elim)) (fun zk => ?_)
          clear hK K
          try go_frame
          refine Go.Proofs.Ythnnpipekeanoaa.rd 4 uc4 rfl (by kernel_rfl) fun K hK => ?_
          have s1 : X7.cell? ⟨T, 2, none⟩ = some (.slice ta tn tc) := by simp [Lib.cell_of_heap (c7.box H6.out.1.hT (fun h => h))]
          go_simp
          refine hK.out _ _ ?_ (fun zk => ?_)
          · exact zk
          clear hK K
          try go_frame
          clear s1
          refine Go.Proofs.Ythnnpipekeanoaa.rd 7 uc7 rfl (by kernel_rfl) fun K hK => ?_
          refine step_append_at rfl (.tmp 63) (.tmp 65) 32 rfl B 41 i0 (.agg #[.int .u32 0, .int .u32 0]) 2 8 Try.underlying32 hi0 hz0 hz1 hz2 rfl (by decide) (.slice ta tn tc) hs.length (hs.flatMap hdF) rfl (H6.out.1.td.ch c7 (fun _ _ h => h)) ⟨V6.heap.size, 0, none⟩ 1 1 (hdF (s, g)) rfl rfl r7 (by simp [hdF, Value.oneCell']) (by unfold maxLen; omega) (by omega) (Nat.le_trans H6.out.1.hB c7.size) ?_
          intro v5 W5 hr5 hg5 hat5
          have C5 := hide (show Ch (fun y => (Value.slice ta tn tc).ownBlock = some y) V6 W5 from (c7.mono (fun _ _ h => h.elim)).trans (Ch.of_grown (Q := fun y => (Value.slice ta tn tc).ownBlock = some y) hg5 (fun _ e => e)) (fun _ _ h => h))
          have R5 := hide (show HdRow W5 B v5 (hs ++ [(s, g)]) from Row.snoc hr5)
          obtain ⟨a5, n5, c5, e5⟩ := own_form hr5
          subst e5
          have HA5 := hide hat5
          have T5 := C5.out.box H6.out.1.hT (fun e => own_box H6.out.1.td H6.out.1.hT (by decide) e)
          have y2 : W5.cell? ⟨T, 2, none⟩ = some (.slice ta tn tc) := by simp [Lib.cell_of_heap T5]
          have yf := frz T5
          have S7 := hide c7.size
          clear hr5 hg5 hat5 r7 c7
          refine hK.out _ _ ?_ (fun zk => ?_)
          · exact C5.out.mono (fun _ _ h => Or.inr h)
          clear hK K
          try go_frame
          apply tk 8 uc8 rfl (by kernel_rfl) (fun _ _ _ h => h) zk
          · intro wq zq
            go_simp
            try rfl
          go_frame
          apply tk 9 uc9 rfl (by kernel_rfl) (fun _ _ _ h => h) zk
          · intro wq zq
            go_simp
            try rfl
          go_frame
          refine Go.Proofs.Ythnnpipekeanoaa.rd 10 uc10 rfl (by kernel_rfl) fun K hK => ?_
          go_simp
          have c6 := Ch.set (Q := fun y => y = T) W5 rfl 2 (.slice a5 n5 c5)
          have TWf := hide (H6.out.1.push fc (hs' := hs ++ [(s, g)]) (heap_set T5 2 (.slice a5 n5 c5)) (R5.out.ch c6 (fun x hx (e : x = T) => by subst e; exact own_box R5.out T5 (by decide) hx)) ((C5.out.mono (fun _ _ h => Or.inr h)).trans c6 (fun y _ e => Or.inl e)) (fun x hx => HA5.out.elim (fun e => Or.inl (e.symm.trans hx)) (fun e => Or.inr (by rw [e] at hx; injection hx with hx; have := S7.out; omega))))
          have CZ := hide ((C5.out.mono (Q' := fun y => y = T ∨ (Value.slice ta tn tc).ownBlock = some y) (fun _ _ h => Or.inr h)).trans c6 (fun y _ e => Or.inl e))
          clear y2 yf T5 c6
          refine genK (R := fun W => Tw wB PT (paint (paint2 (paint C X1 7) V2 av2) V6 4) W B T p b F1 l' l' (hs ++ [(s, g)]) av2 ov2 (.slice a5 n5 c5) lv wv ls ws rs n ∧ Ch (fun y => y = T ∨ (Value.slice ta tn tc).ownBlock = some y) V6 W) ⟨TWf.out, CZ.out⟩ ?_
          rintro W9 ⟨t9, c9⟩
          clear zk
          refine hK.out _ _ c9 (fun zk => ?_)
          clear hK K
          try go_frame
          refine wpAnyH_done (by kernel_rfl) ?_ _
          have k1 := Lib.cell_of_heap (c9.box H6.out.2.1 nb.out.1)
          have k2 := Lib.cell_of_heap (c9.box H6.out.2.2 nb.out.2)
          have T9 := hide t9
          clear t9 c9 zk TWf CZ
          go_wp2_with fail
          go_ret
          exact ⟨rfl, _, _, _, _, _, T9.out⟩
      · have q1 : (q == 0) = false := by simpa using hq
        have k1 := Lib.cell_of_heap HZ.out.2.1
        have k2 := Lib.cell_of_heap HZ.out.2.2.1
        have HQ := hide hq
        clear hq
        go_wp2_with fail
        go_ret
        exact ⟨rfl, _, _, _, _, _, HZ.out.1⟩
    · go_simp
      refine genK (R := fun W => Ch (fun y => y = b ∨ av.ownBlock = some y ∨ ov.ownBlock = some y) V2 W ∧ Ch (fun _ => False) V2 W ∧ W.heap[V2.heap.size]? = some (.cells #[.int .u32 0, .int .u32 0] 41 (0, 0))) ⟨zk.trans (Ch.alloc _ _) (fun _ _ h => h), Ch.alloc _ _, heap_new _ _⟩ ?_
      rintro X3 ⟨cF, cX, nX⟩
      clear zk
      refine hK.out _ _ ?_ (fun zk => ?_)
      · exact cF
      clear hK K
      try go_frame
      have LX2 := hide (show V2.heap.size < X3.heap.size from (Array.getElem?_eq_some_iff.1 nX).1)
      refine Go.Proofs.Ythnnpipekeanoaa.rd 12 ub12 rfl (by kernel_rfl) fun K hK => ?_
      go_simp
      refine (HP2.out _ (HV2.out.1.quiet fc cX).db (HV2.out.1.quiet fc cX).hB).mono ?_
      rintro e X4 ⟨rfl, av2, ov2, hd, hc, hva, hvo⟩
      have TW2 := hide ((HV2.out.1.quiet fc cX).doc fc hd hc hva hvo)
      have n2 := hc.box (cX.box HV2.out.2.2 (fun h => h)) NG.out.2.2
      have nX := hc.box nX (nQD (HV2.out.1.quiet fc cX) nX (by decide) (by decide) (by decide))
      have HC2 := hide hc
      have HVA := hide hva
      have HVO := hide hvo
      clear hd hc hva hvo
      go_wp2_with fail
      refine hK.out _ _ ?_ (fun zk => ?_)
      · exact cF.trans HC2.out (fun _ _ h => h)
      clear hK K
      try go_frame
      apply tk 13 ub13 rfl (by kernel_rfl) (fun _ _ _ h => h) zk
      · intro wq zq
        go_simp
        try rfl
      go_frame
      apply tk 14 ub14 rfl (by kernel_rfl) (fun _ _ _ h => h) zk
      · intro wq zq
        go_simp
        try rfl
      go_frame
      apply tk 15 ub15 rfl (by kernel_rfl) (fun _ _ _ h => h) zk
      · intro wq zq
        go_simp
        try rfl
      go_frame
      refine Go.Proofs.Ythnnpipekeanoaa.rd 17 ub17 rfl (by kernel_rfl) fun K hK => ?_
      have y0 := Lib.cell_of_heap nX
      have y1 := frz nX
      go_simp
      clear y0 y1
      refine genK (R := fun W => Ch (fun y => y = b ∨ av.ownBlock = some y ∨ ov.ownBlock = some y) V2 W ∧ Tw wB PT (paint2 (paint C X1 7) X3 av2) W B T p b F1 l' l' hs av2 ov2 tv lv wv ls ws rs n ∧ W.heap[V1.heap.size]? = some (.cells #[.int .u32 s, .int .u32 g] 41 (0, 0)) ∧ W.heap[V2.heap.size]? = some (.cells #[.int .u32 s, .int .u32 g] 41 (0, 0))) (have cs : Ch (fun y => y = V2.heap.size) X4 ((X4.setCell ⟨V2.heap.size, 0, none⟩ (.int .u32 s)).setCell ⟨V2.heap.size, 1, none⟩ (.int .u32 g)) := (Ch.set (Q := fun y => y = V2.heap.size) _ rfl _ _).trans (Ch.set (Q := fun y => y = V2.heap.size) _ rfl _ _) (fun _ _ h => h); ⟨zk.trans cs (fun y hy (e : y = V2.heap.size) => by omega), Tw.other fc HV2.out.1 TW2.out (Nat.le_refl _) (fun x hx => by have := HV2.out.1.fF x hx; omega) (fun x hx => (HVA.out x hx).elim (fun k => by have := (own_in HV2.out.1.db.all k).2.1; omega) (fun k => by have := LX2.out; omega)) (fun x hx => (HVO.out x hx).elim (fun k => by have := (own_in HV2.out.1.db.ov k).2.1; omega) (fun k => by have := LX2.out; omega)) cs, cs.box n2 (fun (e : V1.heap.size = V2.heap.size) => by have := (Array.getElem?_eq_some_iff.1 HV2.out.2.2).1; omega), set2 nX⟩) ?_
      rintro Z ⟨cG, tY, mY, nY⟩
      clear zk
      refine hK.out _ _ ?_ (fun zk => ?_)
      · exact cG
      clear hK K
      try go_frame
      apply tk 18 ub18 rfl (by kernel_rfl) (fun _ _ _ h => h) zk
      · intro wq zq
        go_simp
        try rfl
      go_frame
      refine wpAnyH_done (by kernel_rfl) ?_ _
      have HZ := hide (show Tw wB PT (paint2 (paint C X1 7) X3 av2) Z B T p b F1 l' l' hs av2 ov2 tv lv wv ls ws rs n ∧ Z.heap[V1.heap.size]? = some (.cells #[.int .u32 s, .int .u32 g] 41 (0, 0)) ∧ Z.heap[V2.heap.size]? = some (.cells #[.int .u32 s, .int .u32 g] 41 (0, 0)) ∧ V2.heap.size ≤ V2.heap.size from ⟨tY, mY, nY, Nat.le_refl _⟩)
      clear cG tY mY nY n2 TW2 zk
      have LA := hide (show V1.heap.size ≤ V1.heap.size ∧ V1.heap.size ≤ V2.heap.size from ⟨HY.out.2.2.2, Nat.le_trans (Nat.le_of_lt (Nat.lt_of_le_of_lt HY.out.2.2.2 (Array.getElem?_eq_some_iff.1 HV2.out.2.2).1)) HZ.out.2.2.2⟩)
      clear HC HP1 HP2 NG HY
      by_cases hq : q = 0
      · subst hq
        go_wp2_with fail
        refine wp_reg (fun y => y = T ∨ tv.ownBlock = some y) (R := fun W => Tw wB PT (paint2 (paint C X1 7) X3 av2) W B T p b F1 l' l' hs av2 ov2 tv lv wv ls ws rs n ∧ W.heap[V1.heap.size]? = some (.cells #[.int .u32 s, .int .u32 g] 41 (0, 0)) ∧ W.heap[V2.heap.size]? = some (.cells #[.int .u32 s, .int .u32 g] 41 (0, 0))) (by kernel_rfl) ⟨HZ.out.1.quiet fc (Ch.drew _), (Ch.drew (Q := fun _ => False) _).box HZ.out.2.1 (fun h => h), (Ch.drew (Q := fun _ => False) _).box HZ.out.2.2.1 (fun h => h)⟩ ?_
        rintro V6 v zk
        have H6 := hide v
        clear v
        obtain ⟨i0, hi0, hz0, hz1, hz2⟩ := nf_open nfHd
        obtain ⟨ta, tn, tc, htv⟩ := own_form H6.out.1.td
        subst htv
        have ow := hide (fun x hx => (own_in HV1.out.1.td (g := x) hx).2.1)
        have nb := hide (show (¬ (V1.heap.size = T ∨ (Value.slice ta tn tc).ownBlock = some (V1.heap.size))) ∧ ¬ (V2.heap.size = T ∨ (Value.slice ta tn tc).ownBlock = some (V2.heap.size)) from ⟨fun e => by have hT1 := (Array.getElem?_eq_some_iff.1 HV1.out.1.hT).1; have := LA.out.1; rcases e with e | e; omega; have := ow.out _ e; omega, fun e => by have hT1 := (Array.getElem?_eq_some_iff.1 HV1.out.1.hT).1; have := LA.out.2; rcases e with e | e; omega; have := ow.out _ e; omega⟩)
        have HB2 := hide (fun wq (zq : Ch (fun y => y = T ∨ (Value.slice ta tn tc).ownBlock = some y) V6 wq) => have e := Lib.cell_of_heap (zq.box H6.out.2.2 nb.out.2); show wq.cell? ⟨V2.heap.size, 0, none⟩ = some (.int .u32 s) ∧ wq.cell? ⟨V2.heap.size, 1, none⟩ = some (.int .u32 g) from ⟨by simp [e], by simp [e]⟩)
        apply tk 0 uc0 rfl (by kernel_rfl) (fun _ _ _ h => h) zk
        · intro wq zq
          go_simp
          try rfl
        go_frame
        apply tk 1 uc1 rfl (by kernel_rfl) (fun _ _ _ h => h) zk
        · intro wq zq
          go_simp
          try rfl
        go_frame
        apply tk 2 uc2 rfl (by kernel_rfl) (fun _ _ _ h => h) zk
        · intro wq zq
          go_simp
          try rfl
        go_frame
        apply tk 3 uc3 rfl (by kernel_rfl) (fun _ _ _ h => h) zk
        · intro wq zq
          go_simp
          try rfl
        go_frame
        apply tk 5 uc5 rfl (by kernel_rfl) (fun _ _ _ h => h) zk
        · intro wq zq
          obtain ⟨s1, s2⟩ := HB2.out _ zq
          go_simp
          try rfl
        go_frame
        refine wpAnyH_ready (rs := [4, 6]) (by kernel_rfl) (by simp) ?_
        refine AllReadyH.cons (o := uc4) rfl (fun K hK => ?_) (AllReadyH.cons (o := uc6) rfl (fun K hK => ?_) AllReadyH.nil)
        · have s1 : V6.cell? ⟨T, 2, none⟩ = some (.slice ta tn tc) := by simp [Lib.cell_of_heap H6.out.1.hT]
          go_simp
          refine hK.out _ _ ?_ (fun zk => ?_)
          · exact zk
          clear hK K
          try go_frame
          clear s1
          refine Go.Proofs.Ythnnpipekeanoaa.rd 6 uc6 rfl (by kernel_rfl) fun K hK => ?_
          go_simp
          refine genK (R := fun W => Ch (fun _ => False) V6 W ∧ (∀ j u, (hdF (s, g))[j]? = some u → W.cell? ((⟨V6.heap.size, 0, none⟩ : Addr).add j) = some u)) ⟨Ch.alloc _ _, row_new V6 (hdF (s, g)) 41 rfl⟩ ?_
          rintro X7 ⟨c7, r7⟩
          clear zk
          refine hK.out _ _ (c7.mono (fun _ _ h => h.elim)) (fun zk => ?_)
          clear hK K
          try go_frame
          refine Go.Proofs.Ythnnpipekeanoaa.rd 7 uc7 rfl (by kernel_rfl) fun K hK => ?_
          refine step_append_at rfl (.tmp 63) (.tmp 65) 32 rfl B 41 i0 (.agg #[.int .u32 0, .int .u32 0]) 2 8 Try.underlying32 hi0 hz0 hz1 hz2 rfl (by decide) (.slice ta tn tc) hs.length (hs.flatMap hdF) rfl (H6.out.1.td.ch c7 (fun _ _ h => h)) ⟨V6.heap.size, 0, none⟩ 1 1 (hdF (s, g)) rfl rfl r7 (by simp [hdF, Value.oneCell']) (by unfold maxLen; omega) (by omega) (Nat.le_trans H6.out.1.hB c7.size) ?_
          intro v5 W5 hr5 hg5 hat5
          have C5 := hide (show Ch (fun y => (Value.slice ta tn tc).ownBlock = some y) V6 W5 from (c7.mono (fun _ _ h => h.elim)).trans (Ch.of_grown (Q := fun y => (Value.slice ta tn tc).ownBlock = some y) hg5 (fun _ e => e)) (fun _ _ h => h))
          have R5 := hide (show HdRow W5 B v5 (hs ++ [(s, g)]) from Row.snoc hr5)
          obtain ⟨a5, n5, c5, e5⟩ := own_form hr5
          subst e5
          have HA5 := hide hat5
          have T5 := C5.out.box H6.out.1.hT (fun e => own_box H6.out.1.td H6.out.1.hT (by decide) e)
          have y2 : W5.cell? ⟨T, 2, none⟩ = some (.slice ta tn tc) := by simp [Lib.cell_of_heap T5]
          have yf := frz T5
          have S7 := hide c7.size
          clear hr5 hg5 hat5 r7 c7
          refine hK.out _ _ ?_ (fun zk => ?_)
          · exact C5.out.mono (fun _ _ h => Or.inr h)
          clear hK K
          try go_frame
          apply tk 8 uc8 rfl (by kernel_rfl) (fun _ _ _ h => h) zk
          · intro wq zq
            go_simp
            try rfl
          go_frame
          apply tk 9 uc9 rfl (by kernel_rfl) (fun _ _ _ h => h) zk
          · intro wq zq
            go_simp
            try rfl
          go_frame
          refine Go.Proofs.Ythnnpipekeanoaa.rd 10 uc10 rfl (by kernel_rfl) fun K hK => ?_
          go_simp
          have c6 := Ch.set (Q := fun y => y = T) W5 rfl 2 (.slice a5 n5 c5)
          have TWf := hide (H6.out.1.push fc (hs' := hs ++ [(s, g)]) (heap_set T5 2 (.slice a5 n5 c5)) (R5.out.ch c6 (fun x hx (e : x = T) => by subst e; exact own_box R5.out T5 (by decide) hx)) ((C5.out.mono (fun _ _ h => Or.inr h)).trans c6 (fun y _ e => Or.inl e)) (fun x hx => HA5.out.elim (fun e => Or.inl (e.symm.trans hx)) (fun e => Or.inr (by rw [e] at hx; injection hx with hx; have := S7.out; omega))))
          have CZ := hide ((C5.out.mono (Q' := fun y => y = T ∨ (Value.slice ta tn tc).ownBlock = some y) (fun _ _ h => Or.inr h)).trans c6 (fun y _ e => Or.inl e))
          clear y2 yf T5 c6
          refine genK (R := fun W => Tw wB PT (paint (paint2 (paint C X1 7) X3 av2) V6 4) W B T p b F1 l' l' (hs ++ [(s, g)]) av2 ov2 (.slice a5 n5 c5) lv wv ls ws rs n ∧ Ch (fun y => y = T ∨ (Value.slice ta tn tc).ownBlock = some y) V6 W) ⟨TWf.out, CZ.out⟩ ?_
          rintro W9 ⟨t9, c9⟩
          clear zk
          refine hK.out _ _ c9 (fun zk => ?_)
          clear hK K
          try go_frame
          refine wpAnyH_done (by kernel_rfl) ?_ _
          have k1 := Lib.cell_of_heap (c9.box H6.out.2.1 nb.out.1)
          have k2 := Lib.cell_of_heap (c9.box H6.out.2.2 nb.out.2)
          have T9 := hide t9
          clear t9 c9 zk TWf CZ
          go_wp2_with fail
          go_ret
          exact ⟨rfl, _, _, _, _, _, T9.out⟩
        · go_simp
          refine genK (R := fun W => Ch (fun _ => False) V6 W ∧ (∀ j u, (hdF (s, g))[j]? = some u → W.cell? ((⟨V6.heap.size, 0, none⟩ : Addr).add j) = some u)) ⟨Ch.alloc _ _, row_new V6 (hdF (s, g)) 41 rfl⟩ ?_
          rintro X7 ⟨c7, r7⟩
          clear zk
          refine hK.out _ _ (c7.mono (fun _ _ h => h.elim)) (fun zk => ?_)
          clear hK K
          try go_frame
          refine Go.Proofs.Ythnnpipekeanoaa.rd 4 uc4 rfl (by kernel_rfl) fun K hK => ?_
          have s1 : X7.cell? ⟨T, 2, none⟩ = some (.slice ta tn tc) := by simp [Lib.cell_of_heap (c7.box H6.out.1.hT (fun h => h))]
          go_simp
          refine hK.out _ _ ?_ (fun zk => ?_)
          · exact zk
          clear hK K
          try go_frame
          clear s1
          refine Go.Proofs.Ythnnpipekeanoaa.rd 7 uc7 rfl (by kernel_rfl) fun K hK => ?_
          refine step_append_at rfl (.tmp 63) (.tmp 65) 32 rfl B 41 i0 (.agg #[.int .u32 0, .int .u32 0]) 2 8 Try.underlying32 hi0 hz0 hz1 hz2 rfl (by decide) (.slice ta tn tc) hs.length (hs.flatMap hdF) rfl (H6.out.1.td.ch c7 (fun _ _ h => h)) ⟨V6.heap.size, 0, none⟩ 1 1 (hdF (s, g)) rfl rfl r7 (by simp [hdF, Value.oneCell']) (by unfold maxLen; omega) (by omega) (Nat.le_trans H6.out.1.hB c7.size) ?_
          intro v5 W5 hr5 hg5 hat5
          have C5 := hide (show Ch (fun y => (Value.slice ta tn tc).ownBlock = some y) V6 W5 from (c7.mono (fun _ _ h => h.elim)).trans (Ch.of_grown (Q := fun y => (Value.slice ta tn tc).ownBlock = some y) hg5 (fun _ e => e)) (fun _ _ h => h))
          have R5 := hide (show HdRow W5 B v5 (hs ++ [(s, g)]) from Row.snoc hr5)
          obtain ⟨a5, n5, c5, e5⟩ := own_form hr5
          subst e5
          have HA5 := hide hat5
          have T5 := C5.out.box H6.out.1.hT (fun e => own_box H6.out.1.td H6.out.1.hT (by decide) e)
          have y2 : W5.cell? ⟨T, 2, none⟩ = some (.slice ta tn tc) := by simp [Lib.cell_of_heap T5]
          have yf := frz T5
          have S7 := hide c7.size
          clear hr5 hg5 hat5 r7 c7
          refine hK.out _ _ ?_ (fun zk => ?_)
          · exact C5.out.mono (fun _ _ h => Or.inr h)
          clear hK K
          try go_frame
          apply tk 8 uc8 rfl (by kernel_rfl) (fun _ _ _ h => h) zk
          · intro wq zq
            go_simp
            try rfl
          go_frame
          apply tk 9 uc9 rfl (by kernel_rfl) (fun _ _ _ h => h) zk
          · intro wq zq
            go_simp
            try rfl
          go_frame
          refine Go.Proofs.Ythnnpipekeanoaa.rd 10 uc10 rfl (by kernel_rfl) fun K hK => ?_
          go_simp
          have c6 := Ch.set (Q := fun y => y = T) W5 rfl 2 (.slice a5 n5 c5)
          have TWf := hide (H6.out.1.push fc (hs' := hs ++ [(s, g)]) (heap_set T5 2 (.slice a5 n5 c5)) (R5.out.ch c6 (fun x hx (e : x = T) => by subst e; exact own_box R5.out T5 (by decide) hx)) ((C5.out.mono (fun _ _ h => Or.inr h)).trans c6 (fun y _ e => Or.inl e)) (fun x hx => HA5.out.elim (fun e => Or.inl (e.symm.trans hx)) (fun e => Or.inr (by rw [e] at hx; injection hx with hx; have := S7.out; omega))))
          have CZ := hide ((C5.out.mono (Q' := fun y => y = T ∨ (Value.slice ta tn tc).ownBlock = some y) (fun _ _ h => Or.inr h)).trans c6 (fun y _ e => Or.inl e))
          clear y2 yf T5 c6
          refine genK (R := fun W => Tw wB PT (paint (paint2 (paint C X1 7) X3 av2) V6 4) W B T p b F1 l' l' (hs ++ [(s, g)]) av2 ov2 (.slice a5 n5 c5) lv wv ls ws rs n ∧ Ch (fun y => y = T ∨ (Value.slice ta tn tc).ownBlock = some y) V6 W) ⟨TWf.out, CZ.out⟩ ?_
          rintro W9 ⟨t9, c9⟩
          clear zk
          refine hK.out _ _ c9 (fun zk => ?_)
          clear hK K
          try go_frame
          refine wpAnyH_done (by kernel_rfl) ?_ _
          have k1 := Lib.cell_of_heap (c9.box H6.out.2.1 nb.out.1)
          have k2 := Lib.cell_of_heap (c9.box H6.out.2.2 nb.out.2)
          have T9 := hide t9
          clear t9 c9 zk TWf CZ
          go_wp2_with fail
          go_ret
          exact ⟨rfl, _, _, _, _, _, T9.out⟩
      · have q1 : (q == 0) = false := by simpa using hq
        have k1 := Lib.cell_of_heap HZ.out.2.1
        have k2 := Lib.cell_of_heap HZ.out.2.2.1
        have HQ := hide hq
        clear hq
        go_wp2_with fail
        go_ret
        exact ⟨rfl, _, _, _, _, _, HZ.out.1⟩

end Go.Proofs.Ythnnpipekeanoaa
