/- Layer 13: the marker's closure that goes on from what is met. -/
import Derived.Test.YtcogiklnegpfiaaGj
namespace Go.Proofs.Ytcogiklnegpfiaa
open Go.RowKit Go.Shelf

abbrev mk0 : Oper := { dst := some 14, op := Op.load 94 (Operand.tmp 1), type := 94, pos := "heap.go:131", after := #[], guard := none }
abbrev mk1 : Oper := { dst := some 15, op := Op.move (Operand.tmp 5), type := 34, pos := "heap.go:131", after := #[], guard := none }
abbrev mk2 : Oper := { dst := some 16, op := Op.load 69 (Operand.tmp 2), type := 69, pos := "heap.go:131", after := #[], guard := none }
abbrev mk3 : Oper := { dst := some 17, op := Op.load 43 (Operand.tmp 7), type := 43, pos := "heap.go:131", after := #[], guard := none }
abbrev mk4 : Oper := { dst := some 18, op := Op.call { callee := Callee.value (Operand.func 52), args := #[Operand.tmp 16, Operand.tmp 17], argTypes := #[69, 43] }, type := 34, pos := "heap.go:131", after := #[{ on := 2, ground := Ground.data }, { on := 3, ground := Ground.data }], guard := none }
abbrev mk5 : Oper := { dst := some 19, op := Op.call { callee := Callee.value (Operand.tmp 14), args := #[Operand.tmp 15, Operand.tmp 18], argTypes := #[34, 34] }, type := 34, pos := "heap.go:131", after := #[{ on := 0, ground := Ground.data }, { on := 1, ground := Ground.data }, { on := 4, ground := Ground.data }, { on := 4, ground := Ground.chain }], guard := none }
abbrev mk6 : Oper := { dst := some 5, op := Op.assign (Operand.tmp 19), type := 34, pos := "heap.go:131", after := #[{ on := 5, ground := Ground.data }, { on := 5, ground := Ground.chain }, { on := 0, ground := Ground.phase }, { on := 1, ground := Ground.phase }, { on := 2, ground := Ground.phase }, { on := 3, ground := Ground.phase }, { on := 4, ground := Ground.phase }, { on := 5, ground := Ground.phase }], guard := none }

/-- what a call of the marker does, with so many unmarked -/
def MarkP (P : Pr) (J : List Hd → World → (Nat → Prop) → Prop) (tl : Hd → List Hd) (rts : List Hd) (n : Nat) : Prop :=
  ∀ (w : World) (mt : List Bool) (A look : List Hd) (O : Nat → Prop) (vl : Value), unm mt = n → Mw P J w mt A O → Row hF 2 43 w P.N0 vl look → (∀ y, vl.ownBlock = some y → ¬ O y) → (∀ x ∈ look, Us x.1) → MS (lvH P.l) tl rts (P.M + 1) mt look A [] →
    Calls Try.prog 51 #[vl, .pointer (some ⟨P.b1, 0, none⟩), .pointer (some ⟨P.b2, 0, none⟩), .pointer (some ⟨P.b3, 0, none⟩)] w fun e w' => e = .returned (.tuple #[]) ∧ ∃ mt' A' O', Mw P J w' mt' A' O' ∧ MS (lvH P.l) tl rts (P.M + 1) mt' [] A' [] ∧ Ch (fun y => y = P.bt ∨ O y) w w' ∧ ∀ y, O' y → O y ∨ w.heap.size ≤ y

set_option maxRecDepth 100000 in
set_option maxHeartbeats 8000000 in
theorem mark_step {P : Pr} {J : List Hd → World → (Nat → Prop) → Prop} {tl : Hd → List Hd} {rts : List Hd} (T : Teller P.f J tl) (n : Nat) (ih : ∀ m, m < n → MarkP P J tl rts m) : MarkP P J tl rts n := by
  intro w mt A look O vl hun hmw hrow hvo hus hms
  have eg1 : ∀ args w, (callFunc 49 args).run Try.prog w = .ok (.enter 49 args) w := enters_of Try.func49 (by kernel_rfl) rfl
  have eg2 : ∀ args w, (callFunc 51 args).run Try.prog w = .ok (.enter 51 args) w := enters_of Try.func51 (by kernel_rfl) rfl
  have hm2 := hmw.hp.tb.m2
  have hum : unm mt ≤ 1000 := by have := unm_le mt; have := hmw.len; omega
  have I0 := hide (show LoopI P J tl rts w mt O w (.slice none 0 0) mt A O [] look from ⟨hmw, Row.nil _ _, by simpa using hms, fun _ h => .inl h, fun y hy => (by cases hy), Ch.refl _ _, rfl⟩)
  have hap := hmw.apart hrow
  have HLK := hide (fun (V : World) (kv : Ch (fun y => y = P.bt ∨ O y) w V) => hrow.ch kv (fun y hy e => e.elim (fun e => (hap y hy).2 e) (hvo y hy)))
  obtain ⟨la, lc, rfl, hlc, hlm⟩ := hrow.form
  have hll : look.length ≤ 9223372036854775807 := by unfold maxLen at hlm; omega
  have HUS := hide hus
  have IH := hide ih
  have HUN := hide hun
  have HUM := hide hum
  clear hmw hvo hus hms hap ih hun hum hrow
  go_enter Try.func51, Try.ntmps51
  go_wp2
  go_loopw [5, 10] (fun fv iv wr => ∃ (k : Nat) (mt' : List Bool) (A' nx : List Hd) (O' : Nat → Prop), k ≤ look.length ∧ iv = .int .i64 (k : Int) ∧ Hid (LoopI P J tl rts w mt O wr fv mt' A' O' nx (look.drop k))) (fun _ iv _ => look.length - (intOf iv).toNat)
  case atStart => exact ⟨0, mt, A, [], O, Nat.zero_le _, rfl, I0⟩
  case round =>
    obtain ⟨k, mt', A', nx, O5, hk, rfl, HI⟩ := hrel
    by_cases hlt : k < look.length
    · have hrr := HLK.out wr HI.out.ch
      obtain ⟨bo, c', cur, e2, -, -, -, -, -, hc⟩ := hrr.at hF_len (by omega)
      cases e2
      have y0 : wr.cell? ⟨bo, k * 2, none⟩ = some (.int .u32 look[k].1) := hc k hlt 0 _ rfl
      have y1 : wr.cell? ⟨bo, k * 2 + 1, none⟩ = some (.int .u32 look[k].2) := hc k hlt 1 _ rfl
      have q1 : decide ((k : Int) < (look.length : Int)) = true := decide_eq_true (by omega)
      have hus := HUS.out look[k] (List.getElem_mem hlt)
      have HD := hide (List.drop_eq_getElem_cons hlt)
      rw [HD.out] at HI
      generalize look[k] = z at y0 y1 hus HI HD
      clear hc hrr
      obtain ⟨w1, hw1⟩ : ∃ w1, wr.alloc (.cells #[.int .u32 z.1, .int .u32 z.2] 43) = w1 := ⟨_, rfl⟩
      have hB1 : Below wr.heap.size wr w1 := by rw [← hw1]; exact below1 _ _
      have hn : w1.heap[wr.heap.size]? = some (.cells #[.int .u32 z.1, .int .u32 z.2] 43 (0, 0)) := by rw [← hw1]; exact heap_new _ _
      have H1 := hide (HI.out.box T (Ch.of_below hB1))
      have HTL := hide (fun V (kv : Ch (fun _ => False) w1 V) => (show Calls Try.prog 52 #[P.f, hv z.1 z.2] V fun e w' => ∃ v O', e = .returned v ∧ HLo w' O' v (tl z) ∧ J (A' ++ [z]) w' O' ∧ Ch O5 V w' ∧ ∀ y, O' y → O5 y ∨ V.heap.size ≤ y from T.told A' V O5 z.1 z.2 (by have := HI.out.ms.ct; omega) hus (H1.out.box T kv).mw.j))
      have hlowO := T.low _ _ _ HI.out.mw.j
      have hfl := fun y hy => (own_in HI.out.row (g := y) hy).2.1
      have hbl := HI.out.mw.mkr.own.2.1
      have hsq : ∀ y, y = P.bt ∨ O5 y ∨ u5.ownBlock = some y → y < wr.heap.size := by
        rintro y (rfl | e | e)
        · exact hbl
        · exact hlowO y e
        · exact hfl y e
      have HC := hide (fun wq (kq : Ch (fun y => y = P.bt ∨ O5 y ∨ u5.ownBlock = some y) w1 wq) => show wq.cell? ⟨P.b1, 0, none⟩ = some (.func (.func 49) #[] #[.pointer (some ⟨P.bh, 0, none⟩), .pointer (some ⟨P.bm, 0, none⟩)]) ∧ wq.cell? ⟨P.b2, 0, none⟩ = some P.f ∧ (wq.cell? ⟨wr.heap.size, 0, none⟩ = some (.int .u32 z.1) ∧ wq.cell? ⟨wr.heap.size, 1, none⟩ = some (.int .u32 z.2)) from by
        have e := Lib.cell_of_heap (kq.box hn (fun h => absurd (hsq _ h) (by omega)))
        have k1 := H1.out.loads
        have e1 := Lib.cell_of_heap (kq.box H1.out.mw.bx.e1 (k1 _ (by simp)))
        have e2 := Lib.cell_of_heap (kq.box H1.out.mw.bx.e2 (k1 _ (by simp)))
        exact ⟨by simp [e1], by simp [e2], by simp [e], by simp [e]⟩)
      have HMEET := hide (fun V v5 O6 (X : ToldI P J tl rts w mt O V u5 mt' A' O6 nx (look.drop (k + 1)) z v5 ∧ Ch (fun y => y = P.bt ∨ O5 y ∨ u5.ownBlock = some y) w1 V) => X.1.meet T HUM.out)
      have HMNEXT := hide (fun V v5 O6 w6 v6 (X : ToldI P J tl rts w mt O V u5 mt' A' O6 nx (look.drop (k + 1)) z v5 ∧ Ch (fun y => y = P.bt ∨ O5 y ∨ u5.ownBlock = some y) w1 V) (hi : MeetI V w6 P.B P.N0 P.b P.p P.g P.bh P.bm P.bt P.M P.l u5 v6 (meets (lvH P.l) (mt', nx) (tl z)).1 (meets (lvH P.l) (mt', nx) (tl z)).2) => X.1.next T X.2 hi)
      have HO1 := hide (HI.out)
      clear hB1 hn hsq hfl hbl hlowO hus
      go_wp2
      clear hw1
      refine wp_region_held_drew (S := Ch (fun y => y = P.bt ∨ O5 y ∨ u5.ownBlock = some y) w1) (by kernel_rfl) (Ch.drew _) (fun zk => ?_)
      apply tk 0 mk0 rfl (by kernel_rfl) (fun _ _ _ h => h) zk
      · intro wq zq
        have s0 := (HC.out _ zq).1
        go_simp
        try rfl
      go_frame
      apply tk 1 mk1 rfl (by kernel_rfl) (fun _ _ _ h => h) zk
      · intro wq zq
        go_simp
        try rfl
      go_frame
      apply tk 2 mk2 rfl (by kernel_rfl) (fun _ _ _ h => h) zk
      · intro wq zq
        have s0 := (HC.out _ zq).2.1
        go_simp
        try rfl
      go_frame
      apply tk 3 mk3 rfl (by kernel_rfl) (fun _ _ _ h => h) zk
      · intro wq zq
        obtain ⟨s0, s1⟩ := (HC.out _ zq).2.2
        go_simp
        try rfl
      go_frame
      refine rd 4 mk4 rfl (by kernel_rfl) fun K hK => ?_
      go_simp
      refine (HTL.out _ (Ch.drew _)).mono ?_
      rintro e w5 ⟨v5, O6, rfl, hl5, hj5, hc5, ho5⟩
      have X5 := hide (told_next (H1.out.box T (Ch.drew _)) hl5 hj5 hc5 ho5)
      have X5 := hide (And.intro X5.out.1 ((Ch.drew w1).trans X5.out.2 (fun _ _ h => h)))
      have Z5 := hide (X5.out.2)
      clear hl5 hj5 hc5 ho5
      go_wp2_with fail
      refine hK.out _ _ ?_ (fun zk => ?_)
      · exact Z5.out
      clear hK K
      try go_frame
      refine rd 5 mk5 rfl (by kernel_rfl) fun K hK => ?_
      go_simp
      refine (HMEET.out _ _ _ X5.out).mono ?_
      rintro e w6 ⟨v6, rfl, hI6⟩
      have X6 := hide (HMNEXT.out _ _ _ _ _ X5.out hI6)
      have Z6 := hide X6.out.2
      clear hI6
      go_wp2_with fail
      refine hK.out _ _ ?_ (fun zk => ?_)
      · exact Z6.out
      clear hK K
      try go_frame
      apply tk 6 mk6 rfl (by kernel_rfl) (fun _ _ _ h => h) zk
      · intro wq zq
        go_simp
        try rfl
      go_frame
      refine wpAnyH_done (by kernel_rfl) ?_ _
      go_wp2
      go_roundw
      case rel => exact ⟨k + 1, _, _, _, _, by omega, by go_num, hide X6.out.1⟩
      case measure => simp [intOf]; omega
    · have q1 : decide ((k : Int) < (look.length : Int)) = false := decide_eq_false (by omega)
      rw [List.drop_of_length_le (by omega)] at HI
      obtain ⟨na, nc, rfl, hnc, hnm⟩ := HI.out.row.form
      have hnl : nx.length ≤ 9223372036854775807 := by unfold maxLen at hnm; omega
      by_cases h0 : 0 < nx.length
      · have s0 : wr.cell? ⟨P.b3, 0, none⟩ = some (.func (.func 51) #[] #[.pointer (some ⟨P.b1, 0, none⟩), .pointer (some ⟨P.b2, 0, none⟩), .pointer (some ⟨P.b3, 0, none⟩)]) := by simp [Lib.cell_of_heap HI.out.mw.bx.e3]
        have hin := fun x (hx : x ∈ nx) => (HI.out.ms.li x (by simp [hx])).1
        have husn : ∀ x ∈ nx, Us x.1 := fun x hx => by
          obtain ⟨i, h1, h2, _⟩ := lv_at HI.out.mw.hp.tb.wf HI.out.mw.hp.tb.lt (hin x hx)
          exact ⟨by omega, by omega⟩
        have hlt2 : unm mt' < n := by have := HI.out.um; have := HUN.out; omega
        have HIH := hide (IH.out (unm mt') hlt2 wr mt' A' nx O5 (.slice na nx.length nc) rfl HI.out.mw HI.out.row (fun y hy => (HI.out.nxo y hy).2) husn (by simpa using HI.out.ms))
        clear hin husn hlt2
        go_wp2_with fail
        refine HIH.out.mono ?_
        rintro e w7 ⟨rfl, mt7, A7, O7, k1, k2, k3, k4⟩
        have HF := hide (show Mw P J w7 mt7 A7 O7 ∧ MS (lvH P.l) tl rts (P.M + 1) mt7 [] A7 [] ∧ Ch (fun y => y = P.bt ∨ O y) w w7 ∧ ∀ y, O7 y → O y ∨ w.heap.size ≤ y from
          ⟨k1, k2, HI.out.ch.trans k3 (fun y hy e => e.elim .inl fun e => (HI.out.dis y e).elim .inr fun e => by omega), fun y hy => (k4 y hy).elim (HI.out.dis y) fun e => .inr (Nat.le_trans HI.out.ch.size e)⟩)
        clear k1 k2 k3 k4
        go_wp2
        go_end0
        exact ⟨rfl, mt7, A7, O7, HF.out⟩
      · have en : nx = [] := List.eq_nil_of_length_eq_zero (by omega)
        subst en
        go_wp2
        go_end0
        exact ⟨rfl, mt', A', O5, HI.out.mw, by simpa using HI.out.ms, HI.out.ch, HI.out.dis⟩

theorem mark_is {P : Pr} {J : List Hd → World → (Nat → Prop) → Prop} {tl : Hd → List Hd} {rts : List Hd} (T : Teller P.f J tl) (n : Nat) : MarkP P J tl rts n :=
  Nat.strongRecOn n (fun n ih => mark_step T n ih)

end Go.Proofs.Ytcogiklnegpfiaa
