/- Layer 13: the marks. -/
import Derived.Test.YtcogiklnegpfiaaGk
namespace Go.Proofs.Ytcogiklnegpfiaa
open Go.RowKit Go.Shelf

abbrev ms0 : Oper := { dst := some 18, op := Op.load 95 (Operand.tmp 9), type := 95, pos := "heap.go:137", after := #[], guard := none }
abbrev ms1 : Oper := { dst := some 19, op := Op.load 94 (Operand.tmp 8), type := 94, pos := "heap.go:137", after := #[], guard := none }
abbrev ms2 : Oper := { dst := some 20, op := Op.move (Operand.tmp 1), type := 34, pos := "heap.go:137", after := #[], guard := none }
abbrev ms3 : Oper := { dst := some 21, op := Op.call { callee := Callee.value (Operand.tmp 19), args := #[Operand.const (Value.slice none 0 0), Operand.tmp 20], argTypes := #[34, 34] }, type := 34, pos := "heap.go:137", after := #[{ on := 1, ground := Ground.data }, { on := 2, ground := Ground.data }], guard := none }
abbrev ms4 : Oper := { dst := some 22, op := Op.call { callee := Callee.value (Operand.tmp 18), args := #[Operand.tmp 21], argTypes := #[34] }, type := 0, pos := "heap.go:137", after := #[{ on := 0, ground := Ground.data }, { on := 3, ground := Ground.data }, { on := 3, ground := Ground.chain }], guard := none }

theorem info_bool : (Try.prog.info? 4).map (fun i => (i.zero, i.size, i.bytes)) = some (some (.bool false), 1, 1) := by kernel_rfl
theorem makeBool (w : World) (M : Nat) (h2 : M ≤ 500) : ∃ w', (Instr.makeSlice 72 (.int .i64 ((M : Int) + 1)) (.int .i64 ((M : Int) + 1))).run Try.prog w = .ok (.slice (some ⟨w.heap.size, 0, none⟩) (M + 1) (M + 1)) w' ∧ Row bF 1 4 w' w.heap.size (.slice (some ⟨w.heap.size, 0, none⟩) (List.replicate (M + 1) false).length (List.replicate (M + 1) false).length) (List.replicate (M + 1) false) ∧ Below w.heap.size w w' := by
  obtain ⟨i0, hi0, hz0, hz1, hz2⟩ := nf_open info_bool
  obtain ⟨w', h, hr, hg⟩ := run_makeSlice_full w w.heap.size 72 4 i0 _ 1 Try.underlying72 hi0 hz0 hz1 .i64 .i64 (M + 1) (by omega) (by rw [hz2]; omega) (by unfold maxLen; omega) (Nat.le_refl _)
  refine ⟨w', h, ?_, ⟨hg.os, hg.tape, hg.output, hg.size, fun b hb => hg.block b hb (by simp)⟩⟩
  unfold Row
  rw [flat_rep bF 1 bF_len]
  simp only [List.length_replicate]
  exact hr
theorem store_new {P : Program} (W : World) (T : TypeId) (z v : Value) (hv : v.oneCell' = true) : (store ⟨W.heap.size, 0, none⟩ v).run P (W.alloc (.cells #[z] T)) = .ok () (W.alloc (.cells #[v] T)) := by
  have h := heap_new W (.cells #[z] T)
  have hf : (W.alloc (.cells #[z] T)).frozen? ⟨W.heap.size, 0, none⟩ = false := by
    unfold World.frozen?
    rw [h]
    rfl
  rw [run_store P _ _ v _ hv]
  simp [Lib.cell_of_heap h, hf, World.setCell_alloc_new]

theorem own_low {w : World} {B B' k n : Nat} {e : TypeId} {v : Value} {xs : List Value} (h : w.ownsRow B e k v n xs) (hB : B' ≤ B) : w.ownsRow B' e k v n xs := by
  obtain ⟨h1, h2⟩ := h
  refine ⟨h1, h2.imp_right ?_⟩
  rintro ⟨g, cap, cur, a, b, c⟩
  exact ⟨g, cap, cur, a, Nat.le_trans hB b, c⟩

/-- what the marks are -/
structure MarksI (J : List Hd → World → (Nat → Prop) → Prop) (tl : Hd → List Hd) (rts : List Hd) (w w' : World) (B b p g M : Nat) (l : List Th) (O : Nat → Prop) (bt : Nat) (mt : List Bool) (A : List Hd) (O' : Nat → Prop) : Prop where
  hp : Hp w' B b p g l M
  row : Row bF 1 4 w' w.heap.size (.slice (some ⟨bt, 0, none⟩) mt.length mt.length) mt
  len : mt.length = M + 1
  ms : MS (lvH l) tl rts (M + 1) mt [] A []
  j : J A w' O'
  ch : Ch O w w'
  dis : ∀ y, O' y → (O y ∨ w.heap.size ≤ y) ∧ y ≠ bt
  dis2 : ∀ y, O' y → y ≠ b ∧ y ≠ p ∧ y ≠ g

set_option maxRecDepth 100000 in
set_option maxHeartbeats 8000000 in
theorem marks_is {w : World} {B b p g M : Nat} {l : List Th} {f vl : Value} {J : List Hd → World → (Nat → Prop) → Prop} {tl : Hd → List Hd} {rts : List Hd} {O : Nat → Prop} (T : Teller f J tl) (hf1 : f = .nilFunc ∨ ∃ fn fi lb, f = .func fn fi lb)
    (hp : Hp w B b p g l M) (hj : J [] w O) (hO : ∀ y, O y → y ≠ b ∧ y ≠ p ∧ y ≠ g) (hL : HLo w (fun y => y < w.heap.size) vl rts) (us : ∀ x ∈ rts, Us x.1) :
    Calls Try.prog 36 #[.pointer (some ⟨b, 0, none⟩), vl, f] w fun e w' => ∃ bt mt A O', e = .returned (.slice (some ⟨bt, 0, none⟩) mt.length mt.length) ∧ MarksI J tl rts w w' B b p g M l O bt mt A O' := by
  have eg1 : ∀ args w, (callFunc 49 args).run Try.prog w = .ok (.enter 49 args) w := enters_of Try.func49 (by kernel_rfl) rfl
  have eg2 : ∀ args w, (callFunc 51 args).run Try.prog w = .ok (.enter 51 args) w := enters_of Try.func51 (by kernel_rfl) rfl
  have hmf : ∀ (fn : Fn) (first cap : Array Value) (w : World), (Instr.makeFunc fn first cap).run Try.prog w = .ok (.func fn first cap) w := fun _ _ _ _ => rfl
  have hm2 := hp.tb.m2
  have lo := hp.lows
  have hlow := T.low _ _ _ hj
  have eM : IntKind.i64.wrap ((M : Int) + 1) = (M : Int) + 1 := by rw [IntKind.wrap_i64]; omega
  obtain ⟨W2, hW2⟩ : ∃ W2, (w.alloc (.cells #[.pointer (some ⟨b, 0, none⟩)] 24)).alloc (.cells #[f] 69) = W2 := ⟨_, rfl⟩
  have k2 : W2.heap[w.heap.size]? = some (.cells #[.pointer (some ⟨b, 0, none⟩)] 24 (0, 0)) := by rw [← hW2]; exact (Ch.alloc (Q := fun _ => False) _ _).box (heap_new _ _) (fun h => h)
  have k2' : W2.heap[w.heap.size + 1]? = some (.cells #[f] 69 (0, 0)) := by rw [← hW2]; have := heap_new (w.alloc (.cells #[.pointer (some ⟨b, 0, none⟩)] 24)) (.cells #[f] 69); rwa [World.size_alloc] at this
  have c2 : Ch (fun _ => False) w W2 := by rw [← hW2]; exact (Ch.alloc _ _).trans (Ch.alloc _ _) (fun _ _ h => h)
  have z2 : W2.heap.size = w.heap.size + 1 + 1 := by rw [← hW2]; simp
  obtain ⟨W3, HMK, hrow3, hb3⟩ := makeBool W2 M hm2
  have c3 : Ch (fun _ => False) W2 W3 := Ch.of_below hb3
  have z3 := (own_in hrow3 (g := W2.heap.size) rfl).2.1
  obtain ⟨W4, hW4⟩ : ∃ W4, W3.alloc (.cells #[.slice (some ⟨W2.heap.size, 0, none⟩) (M + 1) (M + 1)] 72) = W4 := ⟨_, rfl⟩
  have c4 : Ch (fun _ => False) W3 W4 := by rw [← hW4]; exact Ch.alloc _ _
  have k4 : W4.heap[W3.heap.size]? = some (.cells #[.slice (some ⟨W2.heap.size, 0, none⟩) (M + 1) (M + 1)] 72 (0, 0)) := by rw [← hW4]; exact heap_new _ _
  have z4 : W4.heap.size = W3.heap.size + 1 := by rw [← hW4]; simp
  obtain ⟨F1, hF1⟩ : ∃ F1 : Value, .func (.func 49) #[] #[.pointer (some ⟨w.heap.size, 0, none⟩), .pointer (some ⟨W3.heap.size, 0, none⟩)] = F1 := ⟨_, rfl⟩
  obtain ⟨W5, hW5⟩ : ∃ W5, W4.alloc (.cells #[.func (.func 49) #[] #[.pointer (some ⟨w.heap.size, 0, none⟩), .pointer (some ⟨W3.heap.size, 0, none⟩)]] 94) = W5 := ⟨_, rfl⟩
  have hst1 : (store ⟨W4.heap.size, 0, none⟩ (.func (.func 49) #[] #[.pointer (some ⟨w.heap.size, 0, none⟩), .pointer (some ⟨W3.heap.size, 0, none⟩)])).run Try.prog (W4.alloc (.cells #[.nilFunc] 94)) = .ok () W5 := by rw [← hW5]; exact store_new W4 _ _ _ rfl
  have c5 : Ch (fun _ => False) W4 W5 := by rw [← hW5]; exact Ch.alloc _ _
  have k5 : W5.heap[W4.heap.size]? = some (.cells #[.func (.func 49) #[] #[.pointer (some ⟨w.heap.size, 0, none⟩), .pointer (some ⟨W3.heap.size, 0, none⟩)]] 94 (0, 0)) := by rw [← hW5]; exact heap_new _ _
  have z5 : W5.heap.size = W4.heap.size + 1 := by rw [← hW5]; simp
  obtain ⟨W6, hW6⟩ : ∃ W6, W5.alloc (.cells #[.func (.func 51) #[] #[.pointer (some ⟨W4.heap.size, 0, none⟩), .pointer (some ⟨w.heap.size + 1, 0, none⟩), .pointer (some ⟨W5.heap.size, 0, none⟩)]] 95) = W6 := ⟨_, rfl⟩
  have hst2 : (store ⟨W5.heap.size, 0, none⟩ (.func (.func 51) #[] #[.pointer (some ⟨W4.heap.size, 0, none⟩), .pointer (some ⟨w.heap.size + 1, 0, none⟩), .pointer (some ⟨W5.heap.size, 0, none⟩)])).run Try.prog (W5.alloc (.cells #[.nilFunc] 95)) = .ok () W6 := by rw [← hW6]; exact store_new W5 _ _ _ rfl
  have c6 : Ch (fun _ => False) W5 W6 := by rw [← hW6]; exact Ch.alloc _ _
  have k6 : W6.heap[W5.heap.size]? = some (.cells #[.func (.func 51) #[] #[.pointer (some ⟨W4.heap.size, 0, none⟩), .pointer (some ⟨w.heap.size + 1, 0, none⟩), .pointer (some ⟨W5.heap.size, 0, none⟩)]] 95 (0, 0)) := by rw [← hW6]; exact heap_new _ _
  have t := fun (a b c : World) (h : Ch (fun _ => False) a b) (k : Ch (fun _ => False) b c) => h.trans k (fun _ _ h => h)
  have c36 := t _ _ _ (t _ _ _ c4 c5) c6
  have c26 := t _ _ _ c3 c36
  have c06 := t _ _ _ c2 c26
  obtain ⟨P, hP⟩ : ∃ P : Pr, P = ⟨B, w.heap.size, b, p, g, w.heap.size, W3.heap.size, W2.heap.size, W4.heap.size, w.heap.size + 1, W5.heap.size, M, l, f⟩ := ⟨_, rfl⟩
  have hlr : (List.replicate (M + 1) false).length = M + 1 := by simp
  have hmw : ∀ V, Ch (fun _ => False) W6 V → Mw P J V (List.replicate (M + 1) false) [] O := by
    intro V cV
    subst hP
    have cv := t _ _ _ c06 cV
    have cv3 := t _ _ _ c36 cV
    refine ⟨hp.ch0 cv, ⟨(t _ _ _ c26 cV).box k2 (fun h => h), ?_, own_low (hrow3.ch cv3 (fun _ _ h => h)) (show w.heap.size ≤ W2.heap.size by omega)⟩, ⟨(t _ _ _ c6 cV).box k5 (fun h => h), (t _ _ _ c26 cV).box k2' (fun h => h), cV.box k6 (fun h => h)⟩, T.keep _ _ _ _ _ hj cv (fun _ _ h => h), fun y hy => ?_, hlr, cv.size⟩
    · have := (t _ _ _ (t _ _ _ c5 c6) cV).box k4 (fun h => h)
      rw [hlr]
      exact this
    · have h1 := hO y hy
      have h2 := hlow y hy
      refine ⟨fun e => ?_, by dsimp only; omega⟩
      dsimp only [Pr.Fx] at e
      omega
  have hv := lv_ok hp.tb.wf hp.tb.lt
  have M0 := hmw _ (Ch.drew W6)
  have cd := t _ _ _ c06 (Ch.drew W6)
  have z6 := c6.size
  have hbt3 : W2.heap.size < W6.heap.size := by omega
  have HC := hide (fun wq (kq : Ch (fun y => y = W2.heap.size ∨ O y) W6 wq) => show wq.cell? ⟨W5.heap.size, 0, none⟩ = some (.func (.func 51) #[] #[.pointer (some ⟨W4.heap.size, 0, none⟩), .pointer (some ⟨w.heap.size + 1, 0, none⟩), .pointer (some ⟨W5.heap.size, 0, none⟩)]) ∧ wq.cell? ⟨W4.heap.size, 0, none⟩ = some (.func (.func 49) #[] #[.pointer (some ⟨w.heap.size, 0, none⟩), .pointer (some ⟨W3.heap.size, 0, none⟩)]) from by
    have e1 := Lib.cell_of_heap (kq.box k6 (by rintro (e | e); omega; have := hlow _ e; omega))
    have e2 := Lib.cell_of_heap (kq.box (c6.box k5 (fun h => h)) (by rintro (e | e); omega; have := hlow _ e; omega))
    exact ⟨by simp [e1], by simp [e2]⟩)
  have HLr := hL.ch cd (fun _ _ h => h)
  have hu0 : unm (List.replicate (M + 1) false) + ([] : List Hd).length ≤ 1000 := by have := unm_le (List.replicate (M + 1) false); rw [hlr] at this; simp only [List.length_nil]; omega
  subst hP
  have HMEET := hide (show Calls Try.prog 49 #[.slice none 0 0, vl, .pointer (some ⟨w.heap.size, 0, none⟩), .pointer (some ⟨W3.heap.size, 0, none⟩)] W6.drew fun e w' => ∃ v', e = .returned v' ∧ MeetI W6.drew w' B w.heap.size b p g w.heap.size W3.heap.size W2.heap.size M l (.slice none 0 0) v' (meets (lvH l) (List.replicate (M + 1) false, []) rts).1 (meets (lvH l) (List.replicate (M + 1) false, []) rts).2 from
    meet_is M0.hp M0.mkr (Row.nil _ _) HLr us (fun h => absurd h (by omega)) (fun y h => (by cases h)) hlr hu0 cd.size)
  have HNEXT := hide (fun w5 v5 (hI : MeetI W6.drew w5 B w.heap.size b p g w.heap.size W3.heap.size W2.heap.size M l (.slice none 0 0) v5 (meets (lvH l) (List.replicate (M + 1) false, []) rts).1 (meets (lvH l) (List.replicate (M + 1) false, []) rts).2) =>
    show (Calls Try.prog 51 #[v5, .pointer (some ⟨W4.heap.size, 0, none⟩), .pointer (some ⟨w.heap.size + 1, 0, none⟩), .pointer (some ⟨W5.heap.size, 0, none⟩)] w5 fun e w' => e = .returned (.tuple #[]) ∧ ∃ mt' A' O', Mw ⟨B, w.heap.size, b, p, g, w.heap.size, W3.heap.size, W2.heap.size, W4.heap.size, w.heap.size + 1, W5.heap.size, M, l, f⟩ J w' mt' A' O' ∧ MS (lvH l) tl rts (M + 1) mt' [] A' [] ∧ Ch (fun y => y = W2.heap.size ∨ O y) w5 w' ∧ ∀ y, O' y → O y ∨ w5.heap.size ≤ y) ∧ Ch (fun y => y = W2.heap.size ∨ O y) W6 w5 from by
      have k := MS.meets hv (look := []) (nx := []) (MS.start (lv := lvH l) (tl := tl) (rts := rts) (M + 1))
      have hzd : W6.drew.heap.size = W6.heap.size := rfl
      have hfxb : ∀ y, Pr.Fx ⟨B, w.heap.size, b, p, g, w.heap.size, W3.heap.size, W2.heap.size, W4.heap.size, w.heap.size + 1, W5.heap.size, M, l, f⟩ y → y ≠ W2.heap.size := fun y hy => by
        dsimp only [Pr.Fx] at hy
        omega
      refine ⟨mark_is T _ w5 _ [] _ O v5 rfl ⟨hI.hp, hI.mkr, M0.bx.ch hI.ch (fun y hy e => ?_), T.keep _ _ _ _ _ M0.j hI.ch (fun y hy e => ?_), M0.dis, hI.len, Nat.le_trans cd.size hI.ch.size⟩ hI.row (fun y hy e => ?_) (fun x hx => ?_) k.1, (Ch.drew W6).trans hI.ch (fun y _ e => e.elim .inl (fun e => by cases e))⟩
      · rcases hy with hy | hy
        · exact hfxb y e hy
        · cases hy
      · rcases e with e | e
        · exact (M0.dis y hy).2 e
        · cases e
      · have := hlow y e
        rcases hI.at' with q | ⟨z, q1, q2⟩
        · rw [q] at hy; cases hy
        · rw [q2] at hy
          injection hy with hy
          omega
      · obtain ⟨i, h1, h2, _⟩ := lv_at hp.tb.wf hp.tb.lt ((k.1.li x (by simp [hx])).1)
        exact ⟨by omega, by omega⟩)
  have HFIN := hide (fun w6 w5 mt7 A7 O7 (k : Mw ⟨B, w.heap.size, b, p, g, w.heap.size, W3.heap.size, W2.heap.size, W4.heap.size, w.heap.size + 1, W5.heap.size, M, l, f⟩ J w6 mt7 A7 O7 ∧ MS (lvH l) tl rts (M + 1) mt7 [] A7 [] ∧ Ch (fun y => y = W2.heap.size ∨ O y) w5 w6 ∧ ∀ y, O7 y → O y ∨ w5.heap.size ≤ y) (c : Ch (fun y => y = W2.heap.size ∨ O y) W6 w6) (cz : W6.heap.size ≤ w5.heap.size) =>
    show MarksI J tl rts w w6 B b p g M l O W2.heap.size mt7 A7 O7 ∧ w6.cell? ⟨W3.heap.size, 0, none⟩ = some (.slice (some ⟨W2.heap.size, 0, none⟩) mt7.length mt7.length) from
      ⟨⟨k.1.hp, k.1.mkr.t, k.1.len, k.2.1, k.1.j, (c06.mono (Q' := O) (fun _ _ h => h.elim)).trans c (fun y hy e => e.elim (fun e => by omega) (fun e => e)), fun y hy => ⟨(k.2.2.2 y hy).imp_right (fun e => by omega), (k.1.dis y hy).2⟩, fun y hy => ⟨fun e => (k.1.dis y hy).1 (by simp [Pr.Fx, e]), fun e => (k.1.dis y hy).1 (by simp [Pr.Fx, e]), fun e => (k.1.dis y hy).1 (by simp [Pr.Fx, e])⟩⟩, by simp [Lib.cell_of_heap k.1.mkr.m]⟩)
  have C0 := hp.cells.2
  have s2 : W2.cell? ⟨w.heap.size, 0, none⟩ = some (.pointer (some ⟨b, 0, none⟩)) := by simp [Lib.cell_of_heap k2]
  have s3 : W2.cell? ⟨b, 1, none⟩ = some (.int .i64 (M : Int)) := (hp.ch0 c2).cells.2
  have HSZ := hide (And.intro z2 (And.intro z4 (And.intro z5 c6.size)))
  clear hmw M0 cd z6 HLr hu0 hL us hj hO hp k2 k2' k4 k5 k6 c2 c3 c4 c5 c6 c36 c26 c06 hrow3 hb3 z2 z3 z4 z5 t hv hlr hbt3 hlow lo C0 hF1
  rcases hf1 with rfl | ⟨fn, fi, lb, rfl⟩
  · go_enter Try.func36, Try.ntmps36
    go_wp2
    refine wp_region_held_drew (S := Ch (fun y => y = W2.heap.size ∨ O y) W6) (by kernel_rfl) (Ch.drew _) (fun zk => ?_)
    apply tk 0 ms0 rfl (by kernel_rfl) (fun _ _ _ h => h) zk
    · intro wq zq
      have s0 := (HC.out _ zq).1
      go_simp
      try rfl
    go_frame
    apply tk 1 ms1 rfl (by kernel_rfl) (fun _ _ _ h => h) zk
    · intro wq zq
      have s0 := (HC.out _ zq).2
      go_simp
      try rfl
    go_frame
    apply tk 2 ms2 rfl (by kernel_rfl) (fun _ _ _ h => h) zk
    · intro wq zq
      go_simp
      try rfl
    go_frame
    refine rd 3 ms3 rfl (by kernel_rfl) fun K hK => ?_
    go_simp
    refine (HMEET.out).mono ?_
    rintro e w5 ⟨v5, rfl, hI⟩
    have X5 := hide (HNEXT.out w5 v5 hI)
    have Z5 := hide X5.out.2
    clear hI
    go_wp2_with fail
    refine hK.out _ _ ?_ (fun zk => ?_)
    · exact Z5.out
    clear hK K
    try go_frame
    refine rd 4 ms4 rfl (by kernel_rfl) fun K hK => ?_
    go_simp
    refine (X5.out.1).mono ?_
    rintro e w6 ⟨rfl, mt7, A7, O7, k1, k2, k3, k4⟩
    have X6 := hide (And.intro k1 (And.intro k2 (And.intro k3 k4)))
    have Z6 := hide (X5.out.2.trans k3 (fun _ _ h => h))
    clear k1 k2 k3 k4
    go_wp2_with fail
    refine hK.out _ _ ?_ (fun zk => ?_)
    · exact Z6.out
    clear hK K
    try go_frame
    refine wpAnyH_done (by kernel_rfl) ?_ _
    have XF := HFIN.out _ _ _ _ _ X6.out Z6.out (X5.out.2.size)
    have HXF := hide XF.1
    have s9 := XF.2
    clear XF
    go_wp2
    go_ret
    exact ⟨_, mt7, A7, O7, rfl, HXF.out⟩
  · go_enter Try.func36, Try.ntmps36
    go_wp2
    refine wp_region_held_drew (S := Ch (fun y => y = W2.heap.size ∨ O y) W6) (by kernel_rfl) (Ch.drew _) (fun zk => ?_)
    apply tk 0 ms0 rfl (by kernel_rfl) (fun _ _ _ h => h) zk
    · intro wq zq
      have s0 := (HC.out _ zq).1
      go_simp
      try rfl
    go_frame
    apply tk 1 ms1 rfl (by kernel_rfl) (fun _ _ _ h => h) zk
    · intro wq zq
      have s0 := (HC.out _ zq).2
      go_simp
      try rfl
    go_frame
    apply tk 2 ms2 rfl (by kernel_rfl) (fun _ _ _ h => h) zk
    · intro wq zq
      go_simp
      try rfl
    go_frame
    refine rd 3 ms3 rfl (by kernel_rfl) fun K hK => ?_
    go_simp
    refine (HMEET.out).mono ?_
    rintro e w5 ⟨v5, rfl, hI⟩
    have X5 := hide (HNEXT.out w5 v5 hI)
    have Z5 := hide X5.out.2
    clear hI
    go_wp2_with fail
    refine hK.out _ _ ?_ (fun zk => ?_)
    · exact Z5.out
    clear hK K
    try go_frame
    refine rd 4 ms4 rfl (by kernel_rfl) fun K hK => ?_
    go_simp
    refine (X5.out.1).mono ?_
    rintro e w6 ⟨rfl, mt7, A7, O7, k1, k2, k3, k4⟩
    have X6 := hide (And.intro k1 (And.intro k2 (And.intro k3 k4)))
    have Z6 := hide (X5.out.2.trans k3 (fun _ _ h => h))
    clear k1 k2 k3 k4
    go_wp2_with fail
    refine hK.out _ _ ?_ (fun zk => ?_)
    · exact Z6.out
    clear hK K
    try go_frame
    refine wpAnyH_done (by kernel_rfl) ?_ _
    have XF := HFIN.out _ _ _ _ _ X6.out Z6.out (X5.out.2.size)
    have HXF := hide XF.1
    have s9 := XF.2
    clear XF
    go_wp2
    go_ret
    exact ⟨_, mt7, A7, O7, rfl, HXF.out⟩

end Go.Proofs.Ytcogiklnegpfiaa
