/- Layer 11: the law's step: Cut. -/
import Derived.Test.YthnnpipekeanoaaXj
namespace Go.Proofs.Ythnnpipekeanoaa
open Go.RowKit

variable {wB : World} {PT : World → Nat → (Nat → Prop) → Nat → List Wt → Prop} {C : Nat → Nat} {w w' : World} {B T p b : Nat} {F : Nat → Prop} {l : List Wt} {hs : List (Int × Int)} {av ov tv lv wv : Value} {ls ws : List Value} {rs : List (List Rc)} {n : Nat}

abbrev cj0 : Oper := { dst := some 79, op := Op.move (Operand.tmp 0), type := 24, pos := "law.go:103", after := #[], guard := none }
abbrev cj1 : Oper := { dst := some 80, op := Op.nilCheck (Operand.tmp 79), type := 0, pos := "law.go:103", after := #[{ on := 0, ground := Ground.data }], guard := none }
abbrev cj2 : Oper := { dst := some 81, op := Op.fieldAddr 37 (Operand.tmp 80) 0, type := 0, pos := "law.go:103", after := #[{ on := 1, ground := Ground.data }], guard := none }
abbrev cj3 : Oper := { dst := some 82, op := Op.load 25 (Operand.tmp 81), type := 25, pos := "law.go:103", after := #[{ on := 2, ground := Ground.data }], guard := none }
abbrev cj4 : Oper := { dst := some 83, op := Op.move (Operand.tmp 0), type := 24, pos := "law.go:103", after := #[], guard := none }
abbrev cj5 : Oper := { dst := some 84, op := Op.load 48 (Operand.tmp 3), type := 48, pos := "law.go:103", after := #[], guard := none }
abbrev cj6 : Oper := { dst := some 85, op := Op.call { callee := Callee.value (Operand.func 24), args := #[Operand.tmp 83, Operand.tmp 84], argTypes := #[24, 48] }, type := 41, pos := "law.go:103", after := #[{ on := 4, ground := Ground.data }, { on := 5, ground := Ground.data }], guard := none }
abbrev cj7 : Oper := { dst := some 86, op := Op.call { callee := Callee.value (Operand.func 15), args := #[Operand.tmp 82, Operand.tmp 85], argTypes := #[25, 41] }, type := 54, pos := "law.go:103", after := #[{ on := 3, ground := Ground.data }, { on := 6, ground := Ground.data }, { on := 6, ground := Ground.chain }], guard := none }
abbrev cj8 : Oper := { dst := some 9, op := Op.assign (Operand.tmp 86), type := 54, pos := "law.go:103", after := #[{ on := 7, ground := Ground.data }, { on := 7, ground := Ground.chain }, { on := 0, ground := Ground.phase }, { on := 1, ground := Ground.phase }, { on := 2, ground := Ground.phase }, { on := 3, ground := Ground.phase }, { on := 4, ground := Ground.phase }, { on := 5, ground := Ground.phase }, { on := 6, ground := Ground.phase }, { on := 7, ground := Ground.phase }], guard := none }
abbrev ck0 : Oper := { dst := some 87, op := Op.move (Operand.tmp 0), type := 24, pos := "law.go:104", after := #[], guard := none }
abbrev ck1 : Oper := { dst := some 88, op := Op.nilCheck (Operand.tmp 87), type := 0, pos := "law.go:104", after := #[{ on := 0, ground := Ground.data }], guard := none }
abbrev ck2 : Oper := { dst := some 89, op := Op.fieldAddr 37 (Operand.tmp 88) 1, type := 0, pos := "law.go:104", after := #[{ on := 1, ground := Ground.data }], guard := none }
abbrev ck3 : Oper := { dst := some 90, op := Op.load 27 (Operand.tmp 89), type := 27, pos := "law.go:104", after := #[{ on := 2, ground := Ground.data }], guard := none }
abbrev ck4 : Oper := { dst := some 91, op := Op.move (Operand.tmp 0), type := 24, pos := "law.go:104", after := #[], guard := none }
abbrev ck5 : Oper := { dst := some 92, op := Op.load 48 (Operand.tmp 3), type := 48, pos := "law.go:104", after := #[], guard := none }
abbrev ck6 : Oper := { dst := some 93, op := Op.call { callee := Callee.value (Operand.func 24), args := #[Operand.tmp 91, Operand.tmp 92], argTypes := #[24, 48] }, type := 41, pos := "law.go:104", after := #[{ on := 4, ground := Ground.data }, { on := 5, ground := Ground.data }], guard := none }
abbrev ck7 : Oper := { dst := some 94, op := Op.call { callee := Callee.value (Operand.func 25), args := #[Operand.tmp 90, Operand.tmp 93], argTypes := #[27, 41] }, type := 4, pos := "law.go:104", after := #[{ on := 3, ground := Ground.data }, { on := 6, ground := Ground.data }, { on := 6, ground := Ground.chain }], guard := none }
abbrev ck8 : Oper := { dst := some 10, op := Op.assign (Operand.tmp 94), type := 4, pos := "law.go:104", after := #[{ on := 7, ground := Ground.data }, { on := 7, ground := Ground.chain }, { on := 0, ground := Ground.phase }, { on := 1, ground := Ground.phase }, { on := 2, ground := Ground.phase }, { on := 3, ground := Ground.phase }, { on := 4, ground := Ground.phase }, { on := 5, ground := Ground.phase }, { on := 6, ground := Ground.phase }, { on := 7, ground := Ground.phase }], guard := none }

/-- the op's box, read whole -/
theorem op_reads {V wq : World} {A : Nat} {o : Oq} {k : Int} (hk : o.k = k) (hA : V.heap[A]? = some (.cells (opF o).toArray 48 (0, 0))) {Q : Nat → Prop} (zq : Ch Q V wq) (h2 : ¬ Q A) :
    wq.cell? ⟨A, 0, none⟩ = some (.int .i64 k) ∧ wq.cell? ⟨A, 1, none⟩ = some (.int .i64 o.wh) ∧ wq.cell? ⟨A, 2, none⟩ = some (.int .i64 o.ar) ∧ wq.cell? ⟨A, 3, none⟩ = some (.int .u32 o.rs) ∧ wq.cell? ⟨A, 4, none⟩ = some (.int .u32 o.rg) ∧ wq.cell? ⟨A, 5, none⟩ = some (.int .i64 o.rd) ∧ wq.cell? ⟨A, 6, none⟩ = some (.int .u32 o.ws) ∧ wq.cell? ⟨A, 7, none⟩ = some (.int .u32 o.wg) ∧ wq.cell? ⟨A, 8, none⟩ = some (.int .u32 o.ms) ∧ wq.cell? ⟨A, 9, none⟩ = some (.int .u32 o.mg) ∧ wq.cell? ⟨A, 10, none⟩ = some (.bool o.hd) ∧ wq.cell? ⟨A, 11, none⟩ = some (.int .i64 o.vn) ∧ wq.cell? ⟨A, 12, none⟩ = some (.int .u32 o.vs) ∧ wq.cell? ⟨A, 13, none⟩ = some (.int .u32 o.vg) := by
  have k2 := Lib.cell_of_heap (zq.box hA h2)
  simp [k2, opF, hk]

set_option maxRecDepth 100000 in
set_option maxHeartbeats 8000000 in
theorem step_cut (fc : FaceW PT) (h : Tw wB PT C w B T p b F l l hs av ov tv lv wv ls ws rs n) (hl : l.length ≤ 100000) (hh : hs.length ≤ 100000) (ha : ∀ a ∈ hs, UsW a.1 ∧ UsW a.2) (o : Oq) (ho : o.Fit) (hk : o.k = 2) :
    Calls Try.prog 8 #[.pointer (some ⟨T, 0, none⟩), opV o] w fun e w' => e = .returned (.bool true) ∧ ∃ C' F', Tw wB PT C' w' B T p b F' (cutW l (meW hs o).1 (meW hs o).2) (cutW l (meW hs o).1 (meW hs o).2) hs av ov tv lv wv ls ws rs n := by
  obtain ⟨V, hV⟩ : ∃ V, w.alloc (.cells (opF o).toArray 48) = V := ⟨_, rfl⟩
  have c1 : Ch (fun _ => False) w V := by rw [← hV]; exact Ch.alloc _ _
  have nA : V.heap[w.heap.size]? = some (.cells (opF o).toArray 48 (0, 0)) := by rw [← hV]; exact heap_new _ _
  have hV2 := h.quiet fc c1
  have HC := hide (fun Q wq zq h1 h2 => step_reads (wq := wq) (Q := Q) (o := o) hV2.hT nA zq h1 h2)
  have HO := hide (fun Q wq zq h2 => op_reads (wq := wq) (Q := Q) (o := o) hk nA zq h2)
  have NF := hide (show ¬ F T ∧ ¬ F w.heap.size from ⟨fun e => by have a := h.cF T e; have b := h.cT; omega, fun e => by have := h.fF _ e; omega⟩)
  have HV := hide (hV2.quiet fc (Ch.drew (Q := fun _ => False) V))
  have MF := hide (meW_fit ho ha)
  have me : ∀ (C : Nat → Nat) (F : Nat → Prop) (lp ld : List Wt) (wq : World), Tw wB PT C wq B T p b F lp ld hs av ov tv lv wv ls ws rs n → Calls Try.prog 24 #[.pointer (some ⟨T, 0, none⟩), .agg #[.int .i64 2, .int .i64 o.wh, .int .i64 o.ar, .int .u32 o.rs, .int .u32 o.rg, .int .i64 o.rd, .int .u32 o.ws, .int .u32 o.wg, .int .u32 o.ms, .int .u32 o.mg, .bool o.hd, .int .i64 o.vn, .int .u32 o.vs, .int .u32 o.vg]] wq fun e w' => e = .returned (hvW (meW hs o).1 (meW hs o).2) ∧ Below wq.heap.size wq w' := fun _ _ _ _ wq hq => by
    have := me_is hq.hT hq.td hh o ho
    dsimp only [opV] at this
    rw [hk] at this
    exact this
  have HM := hide (fun wq (hq : Tw wB PT C wq B T p b F l l hs av ov tv lv wv ls ws rs n) => me _ _ _ _ wq hq)
  have hTl := (Array.getElem?_eq_some_iff.1 h.hT).1
  have yk : V.cell? ⟨w.heap.size, 0, none⟩ = some (.int .i64 2) := by simp [Lib.cell_of_heap nA, opF, hk]
  have NA := hide nA
  have EV := hide hV
  have ME := hide me
  clear h c1 nA hV2 hV me
  dsimp only [opF] at EV
  rw [hk] at EV
  cases hq : fnW l (meW hs o).1 (meW hs o).2
  · have e1 : ecB false 111 = 111 := rfl
    go_enter Try.func8, Try.ntmps8
    go_wp2
    rw [EV.out]
    refine wp_region_held_drew (S := Ch F V) (by kernel_rfl) (Ch.drew _) (fun zk => ?_)
    apply tk 0 cj0 rfl (by kernel_rfl) (fun _ _ _ h => h) zk
    · intro wq zq
      go_simp
      try rfl
    go_frame
    apply tk 1 cj1 rfl (by kernel_rfl) (fun _ _ _ h => h) zk
    · intro wq zq
      go_simp
      try rfl
    go_frame
    apply tk 2 cj2 rfl (by kernel_rfl) (fun _ _ _ h => h) zk
    · intro wq zq
      go_simp
      try rfl
    go_frame
    apply tk 3 cj3 rfl (by kernel_rfl) (fun _ _ _ h => h) zk
    · intro wq zq
      have s1 := (HC.out _ _ zq NF.out.1 NF.out.2).1
      go_simp
      try rfl
    go_frame
    apply tk 4 cj4 rfl (by kernel_rfl) (fun _ _ _ h => h) zk
    · intro wq zq
      go_simp
      try rfl
    go_frame
    apply tk 5 cj5 rfl (by kernel_rfl) (fun _ _ _ h => h) zk
    · intro wq zq
      have s1 := HO.out _ _ zq NF.out.2
      obtain ⟨s1, s2, s3, s4, s5, s6, s7, s8, s9, s10, s11, s12, s13, s14⟩ := s1
      go_simp
      try rfl
    go_frame
    refine Go.Proofs.Ythnnpipekeanoaa.rd 6 cj6 rfl (by kernel_rfl) fun K hK => ?_
    go_simp
    refine (HM.out _ HV.out).mono ?_
    rintro e W4 ⟨rfl, hb4⟩
    have C4 := hide (Ch.of_below (Q := fun _ => False) hb4)
    have TW4 := hide (HV.out.quiet fc C4.out)
    have Z4 := hide (zk.trans (C4.out.mono (fun _ _ h => h.elim)) (fun _ _ h => h))
    clear hb4
    go_wp2_with fail
    refine hK.out _ _ ?_ (fun zk => ?_)
    · exact Z4.out
    clear hK K
    try go_frame
    refine Go.Proofs.Ythnnpipekeanoaa.rd 7 cj7 rfl (by kernel_rfl) fun K hK => ?_
    go_simp
    refine (fc.cut _ _ MF.out.1 MF.out.2 TW4.out.pt hl).mono ?_
    rintro e W5 ⟨F', rfl, hp5, hc5, hf5⟩
    have TW5 := hide (TW4.out.book fc hc5 hp5 hf5)
    have Z5 := hide (Z4.out.trans hc5 (fun _ _ h => h))
    clear hp5 hc5 hf5
    go_wp2_with fail
    refine hK.out _ _ ?_ (fun zk => ?_)
    · exact Z5.out
    clear hK K
    try go_frame
    refine Go.Proofs.Ythnnpipekeanoaa.rd 8 cj8 rfl (by kernel_rfl) fun K hK => ?_
    go_simp
    refine hK.out _ _ ?_ (fun zk => ?_)
    · exact Z5.out
    clear hK K
    try go_frame
    refine wpAnyH_done (by kernel_rfl) ?_ _
    go_wp2
    have nA5 := Z5.out.box NA.out NF.out.2
    have HD := hide (fun Q wq zq h1 h2 => step_reads (wq := wq) (Q := Q) (o := o) TW5.out.hT nA5 zq h1 h2)
    have HP := hide (fun Q wq zq h2 => op_reads (wq := wq) (Q := Q) (o := o) hk nA5 zq h2)
    have NG := hide (show ¬ ov.ownBlock = some T ∧ ¬ ov.ownBlock = some w.heap.size from ⟨fun e => own_box TW5.out.db.ov TW5.out.hT (by decide) e, fun e => own_box TW5.out.db.ov nA5 (by decide) e⟩)
    have HX := hide (TW5.out.quiet fc (Ch.drew (Q := fun _ => False) W5))
    clear nA5 zk
    refine wp_region_held_drew (S := Ch (fun y => ov.ownBlock = some y) W5) (by kernel_rfl) (Ch.drew _) (fun zk => ?_)
    apply tk 0 ck0 rfl (by kernel_rfl) (fun _ _ _ h => h) zk
    · intro wq zq
      go_simp
      try rfl
    go_frame
    apply tk 1 ck1 rfl (by kernel_rfl) (fun _ _ _ h => h) zk
    · intro wq zq
      go_simp
      try rfl
    go_frame
    apply tk 2 ck2 rfl (by kernel_rfl) (fun _ _ _ h => h) zk
    · intro wq zq
      go_simp
      try rfl
    go_frame
    apply tk 3 ck3 rfl (by kernel_rfl) (fun _ _ _ h => h) zk
    · intro wq zq
      have s1 := (HD.out _ _ zq NG.out.1 NG.out.2).2.1
      go_simp
      try rfl
    go_frame
    apply tk 4 ck4 rfl (by kernel_rfl) (fun _ _ _ h => h) zk
    · intro wq zq
      go_simp
      try rfl
    go_frame
    apply tk 5 ck5 rfl (by kernel_rfl) (fun _ _ _ h => h) zk
    · intro wq zq
      obtain ⟨s1, s2, s3, s4, s5, s6, s7, s8, s9, s10, s11, s12, s13, s14⟩ := HP.out _ _ zq NG.out.2
      go_simp
      try rfl
    go_frame
    refine Go.Proofs.Ythnnpipekeanoaa.rd 6 ck6 rfl (by kernel_rfl) fun K hK => ?_
    go_simp
    refine (ME.out _ _ _ _ _ HX.out).mono ?_
    rintro e W6 ⟨rfl, hb6⟩
    have C6 := hide (Ch.of_below (Q := fun _ => False) hb6)
    have TW6 := hide (HX.out.quiet fc C6.out)
    have Z6 := hide (zk.trans (C6.out.mono (fun _ _ h => h.elim)) (fun _ _ h => h))
    clear hb6
    go_wp2_with fail
    refine hK.out _ _ ?_ (fun zk => ?_)
    · exact Z6.out
    clear hK K
    try go_frame
    refine Go.Proofs.Ythnnpipekeanoaa.rd 7 ck7 rfl (by kernel_rfl) fun K hK => ?_
    go_simp
    refine (rcutW TW6.out.db _ _).mono ?_
    rintro e W7 ⟨rfl, hd7, hc7⟩
    have TW7 := hide (TW6.out.doc fc hd7 (hc7.mono (fun _ _ h => Or.inr (Or.inr h))) (fun _ h => Or.inl h) (fun _ h => Or.inl h))
    have Z7 := hide (Z6.out.trans hc7 (fun _ _ h => h))
    clear hd7 hc7
    go_wp2_with fail
    refine hK.out _ _ ?_ (fun zk => ?_)
    · exact Z7.out
    clear hK K
    try go_frame
    refine Go.Proofs.Ythnnpipekeanoaa.rd 8 ck8 rfl (by kernel_rfl) fun K hK => ?_
    go_simp
    refine hK.out _ _ ?_ (fun zk => ?_)
    · exact Z7.out
    clear hK K
    try go_frame
    refine wpAnyH_done (by kernel_rfl) ?_ _
    go_wp2
    exact bodyPost_ret (v := .bool true) (by simp [results, Try.results8, go_sem]) rfl ⟨rfl, _, _, TW7.out⟩
  · have e1 : ecB true 111 = 0 := rfl
    go_enter Try.func8, Try.ntmps8
    go_wp2
    rw [EV.out]
    refine wp_region_held_drew (S := Ch F V) (by kernel_rfl) (Ch.drew _) (fun zk => ?_)
    apply tk 0 cj0 rfl (by kernel_rfl) (fun _ _ _ h => h) zk
    · intro wq zq
      go_simp
      try rfl
    go_frame
    apply tk 1 cj1 rfl (by kernel_rfl) (fun _ _ _ h => h) zk
    · intro wq zq
      go_simp
      try rfl
    go_frame
    apply tk 2 cj2 rfl (by kernel_rfl) (fun _ _ _ h => h) zk
    · intro wq zq
      go_simp
      try rfl
    go_frame
    apply tk 3 cj3 rfl (by kernel_rfl) (fun _ _ _ h => h) zk
    · intro wq zq
      have s1 := (HC.out _ _ zq NF.out.1 NF.out.2).1
      go_simp
      try rfl
    go_frame
    apply tk 4 cj4 rfl (by kernel_rfl) (fun _ _ _ h => h) zk
    · intro wq zq
      go_simp
      try rfl
    go_frame
    apply tk 5 cj5 rfl (by kernel_rfl) (fun _ _ _ h => h) zk
    · intro wq zq
      have s1 := HO.out _ _ zq NF.out.2
      obtain ⟨s1, s2, s3, s4, s5, s6, s7, s8, s9, s10, s11, s12, s13, s14⟩ := s1
      go_simp
      try rfl
    go_frame
    refine Go.Proofs.Ythnnpipekeanoaa.rd 6 cj6 rfl (by kernel_rfl) fun K hK => ?_
    go_simp
    refine (HM.out _ HV.out).mono ?_
    rintro e W4 ⟨rfl, hb4⟩
    have C4 := hide (Ch.of_below (Q := fun _ => False) hb4)
    have TW4 := hide (HV.out.quiet fc C4.out)
    have Z4 := hide (zk.trans (C4.out.mono (fun _ _ h => h.elim)) (fun _ _ h => h))
    clear hb4
    go_wp2_with fail
    refine hK.out _ _ ?_ (fun zk => ?_)
    · exact Z4.out
    clear hK K
    try go_frame
    refine Go.Proofs.Ythnnpipekeanoaa.rd 7 cj7 rfl (by kernel_rfl) fun K hK => ?_
    go_simp
    refine (fc.cut _ _ MF.out.1 MF.out.2 TW4.out.pt hl).mono ?_
    rintro e W5 ⟨F', rfl, hp5, hc5, hf5⟩
    have TW5 := hide (TW4.out.book fc hc5 hp5 hf5)
    have Z5 := hide (Z4.out.trans hc5 (fun _ _ h => h))
    clear hp5 hc5 hf5
    go_wp2_with fail
    refine hK.out _ _ ?_ (fun zk => ?_)
    · exact Z5.out
    clear hK K
    try go_frame
    refine Go.Proofs.Ythnnpipekeanoaa.rd 8 cj8 rfl (by kernel_rfl) fun K hK => ?_
    go_simp
    refine hK.out _ _ ?_ (fun zk => ?_)
    · exact Z5.out
    clear hK K
    try go_frame
    refine wpAnyH_done (by kernel_rfl) ?_ _
    go_wp2
    have nA5 := Z5.out.box NA.out NF.out.2
    have HD := hide (fun Q wq zq h1 h2 => step_reads (wq := wq) (Q := Q) (o := o) TW5.out.hT nA5 zq h1 h2)
    have HP := hide (fun Q wq zq h2 => op_reads (wq := wq) (Q := Q) (o := o) hk nA5 zq h2)
    have NG := hide (show ¬ ov.ownBlock = some T ∧ ¬ ov.ownBlock = some w.heap.size from ⟨fun e => own_box TW5.out.db.ov TW5.out.hT (by decide) e, fun e => own_box TW5.out.db.ov nA5 (by decide) e⟩)
    have HX := hide (TW5.out.quiet fc (Ch.drew (Q := fun _ => False) W5))
    clear nA5 zk
    refine wp_region_held_drew (S := Ch (fun y => ov.ownBlock = some y) W5) (by kernel_rfl) (Ch.drew _) (fun zk => ?_)
    apply tk 0 ck0 rfl (by kernel_rfl) (fun _ _ _ h => h) zk
    · intro wq zq
      go_simp
      try rfl
    go_frame
    apply tk 1 ck1 rfl (by kernel_rfl) (fun _ _ _ h => h) zk
    · intro wq zq
      go_simp
      try rfl
    go_frame
    apply tk 2 ck2 rfl (by kernel_rfl) (fun _ _ _ h => h) zk
    · intro wq zq
      go_simp
      try rfl
    go_frame
    apply tk 3 ck3 rfl (by kernel_rfl) (fun _ _ _ h => h) zk
    · intro wq zq
      have s1 := (HD.out _ _ zq NG.out.1 NG.out.2).2.1
      go_simp
      try rfl
    go_frame
    apply tk 4 ck4 rfl (by kernel_rfl) (fun _ _ _ h => h) zk
    · intro wq zq
      go_simp
      try rfl
    go_frame
    apply tk 5 ck5 rfl (by kernel_rfl) (fun _ _ _ h => h) zk
    · intro wq zq
      obtain ⟨s1, s2, s3, s4, s5, s6, s7, s8, s9, s10, s11, s12, s13, s14⟩ := HP.out _ _ zq NG.out.2
      go_simp
      try rfl
    go_frame
    refine Go.Proofs.Ythnnpipekeanoaa.rd 6 ck6 rfl (by kernel_rfl) fun K hK => ?_
    go_simp
    refine (ME.out _ _ _ _ _ HX.out).mono ?_
    rintro e W6 ⟨rfl, hb6⟩
    have C6 := hide (Ch.of_below (Q := fun _ => False) hb6)
    have TW6 := hide (HX.out.quiet fc C6.out)
    have Z6 := hide (zk.trans (C6.out.mono (fun _ _ h => h.elim)) (fun _ _ h => h))
    clear hb6
    go_wp2_with fail
    refine hK.out _ _ ?_ (fun zk => ?_)
    · exact Z6.out
    clear hK K
    try go_frame
    refine Go.Proofs.Ythnnpipekeanoaa.rd 7 ck7 rfl (by kernel_rfl) fun K hK => ?_
    go_simp
    refine (rcutW TW6.out.db _ _).mono ?_
    rintro e W7 ⟨rfl, hd7, hc7⟩
    have TW7 := hide (TW6.out.doc fc hd7 (hc7.mono (fun _ _ h => Or.inr (Or.inr h))) (fun _ h => Or.inl h) (fun _ h => Or.inl h))
    have Z7 := hide (Z6.out.trans hc7 (fun _ _ h => h))
    clear hd7 hc7
    go_wp2_with fail
    refine hK.out _ _ ?_ (fun zk => ?_)
    · exact Z7.out
    clear hK K
    try go_frame
    refine Go.Proofs.Ythnnpipekeanoaa.rd 8 ck8 rfl (by kernel_rfl) fun K hK => ?_
    go_simp
    refine hK.out _ _ ?_ (fun zk => ?_)
    · exact Z7.out
    clear hK K
    try go_frame
    refine wpAnyH_done (by kernel_rfl) ?_ _
    go_wp2
    exact bodyPost_ret (v := .bool true) (by simp [results, Try.results8, go_sem]) rfl ⟨rfl, _, _, TW7.out⟩
end Go.Proofs.Ythnnpipekeanoaa
