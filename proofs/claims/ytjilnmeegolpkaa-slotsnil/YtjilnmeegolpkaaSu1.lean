/- Layer 10: the law's step: take. -/
import Derived.Test.YtjilnmeegolpkaaSt
import Derived.Test.YtjilnmeegolpkaaSk
import Derived.Test.YtjilnmeegolpkaaSu0
namespace Go.Proofs.Ytjilnmeegolpkaa
open Go.RowKit Go.Shelf

variable {PT : World → Nat → (Nat → Prop) → Nat → List Th → Nat → Prop} {Sq : World → Nat → (Nat → Prop) → Nat → Array Value → Nat → Prop} (I : Face PT Sq)
variable {w : World} {B C p b : Nat} {v tv : Value} {hs : List (Int × Int)} {l : List Th} {M : Nat} {F : Nat → Prop}
include I

set_option maxRecDepth 100000 in
set_option maxHeartbeats 4000000 in
theorem step_take (h0 : Pr PT w B C p b v tv hs l M F) (hw0 : B ≤ w.heap.size) (hl : l.length ≤ 100000) (hh : hs.length ≤ 100000) (x wh ea s0 g0 : Int) (hd : Bool) (h1 : -9223372036854775808 ≤ wh) (h2 : wh ≤ 9223372036854775807) (hu0 : Us s0) :
    Calls Try.prog 11 #[.pointer (some ⟨C, 0, none⟩), .agg #[.int .i64 1, .int .i64 x, .int .i64 wh, .int .i64 ea, .int .u32 s0, .int .u32 g0, .bool hd]] w fun e w' => ∃ v' tv' hs' l' F', e = .returned (.bool true) ∧ Pr PT w' B C p b v' tv' hs' l' M F' ∧ Below B w w' ∧ l'.length ≤ l.length + 1 ∧ hs'.length ≤ hs.length + 1 := by
  refine step_head h0.box h0.tl hh 1 x wh ea s0 g0 hd h1 h2 hu0 h0.tu ?_
  intro A s g W hus hW hO hA' hA
  have HUS := hide hus
  clear hus hu0
  have h := h0.ch0 I hW
  have hWs := hW.size
  have fA : ¬ F A := fun e => by have := (I.foot h0.pt A e).2; omega
  have fO : ¬ F w.heap.size := fun e => by have := (I.foot h0.pt _ e).2; omega
  have hw : B ≤ W.heap.size := by omega
  have vA : ¬ (A = b ∨ v.ownBlock = some A) := fun e => by
    rcases e with rfl | e
    · have := h0.dt.lt; omega
    · have := (own_in h0.dt.row e).2.1; omega
  have vO : ¬ (w.heap.size = b ∨ v.ownBlock = some w.heap.size) := fun e => by
    rcases e with e | e
    · have := h0.dt.lt; omega
    · have := (own_in h0.dt.row e).2.1; omega
  have H := hide h
  have H0 := hide h0
  have LOW := hide (fun w2 (hb : Below B W w2) => ((hW.below (N := B) hw0 (fun _ _ h => h)).trans hb : Below B w w2))
  have cO := Lib.cell_of_heap hO
  have k0 : W.cell? ⟨w.heap.size, 0, none⟩ = some (.int .i64 1) := by simp [cO]
  have HO := hide (fun wq (h : Ch F W wq) => have e := Lib.cell_of_heap (h.box hO fO); show wq.cell? ⟨w.heap.size, 1, none⟩ = some (.int .i64 x) by simp [e])
  have HA := hide (fun wq (h : Ch F W wq) => have e := Lib.cell_of_heap (h.box hA fA); show wq.cell? ⟨A, 0, none⟩ = some (.int .u32 s) ∧ wq.cell? ⟨A, 1, none⟩ = some (.int .u32 g) from ⟨by simp [e], by simp [e]⟩)
  have HC := hide (fun wq (h : Ch F W wq) => have e := Lib.cell_of_heap (h.box H.out.box H.out.fC); show wq.cell? ⟨C, 0, none⟩ = some (.pointer (some ⟨p, 0, none⟩)) ∧ wq.cell? ⟨C, 1, none⟩ = some (.pointer (some ⟨b, 0, none⟩)) ∧ wq.cell? ⟨C, 2, none⟩ = some tv from ⟨by simp [e], by simp [e], by simp [e]⟩)
  have HBO := hide (fun wq (h : Ch F W wq) => h.box hO fO)
  have HBA := hide (fun wq (h : Ch F W wq) => h.box hA fA)
  have HBC := hide (fun wq (h : Ch F W wq) => h.box H.out.box H.out.fC)
  clear h h0 hW hO hA cO hA' fA fO
  dsimp only [rest2, Try.f11, Option.getD]
  go_wp2
  refine wp_then (take_a I (tv := tv) H.out.pt hl x wh ea s0 g0 s g hd (HBO.out _ (Ch.refl _ _)) (fun e => by have := (I.foot H0.out.pt _ e).2; omega) H.out.box H.out.fC ?_)
  intro A1 F1 W2 hA1 hn1 hp2 hc2 hf2 fA1
  have hs2 := hc2.size
  have Z2 := hide hc2
  have HP2 := hide (And.intro hp2 hf2)
  have HN1 := hide hn1
  have d2 := H.out.dt.ch hc2 H.out.fb H.out.fv
  clear hp2 hf2 hc2 hn1
  go_wp2
  refine wp_then (take_b (tv := tv) d2 hl H.out.fit H.out.most (by omega) x wh ea s0 g0 s g hd (HBO.out _ Z2.out) vO (HBC.out _ Z2.out) (fun e => e.elim H.out.neb H.out.nev) ?_)
  intro A2 v' W3 hA2 hn2 hd3 hc3 hv3
  have hs3 := hc3.size
  have PR := hide (H.out.two I Z2.out HP2.out.1 HP2.out.2 hc3 hd3 hv3 (fit_tkd H.out.fit M H.out.most x))
  have LO := hide (H.out.low I Z2.out hc3 hw)
  have vA1 : ¬ (A1 = b ∨ v.ownBlock = some A1) := fun e => by
    rcases e with rfl | e
    · have := H.out.dt.lt; omega
    · have := (own_in H.out.dt.row e).2.1; omega
  have hn1' := hc3.box HN1.out vA1
  have hne : A1 ≠ C := fun e => by have := H.out.ltC; omega
  have LEN := hide (show (tkd l M x).length ≤ l.length + 1 by rw [tkd_len]; split <;> omega)
  have HN2 := hide hn2
  have HN1p := hide hn1'
  clear hd3 hc3 hv3 d2
  cases hB : tkB l M
  · have z0 : W3.cell? ⟨A1, 0, none⟩ = some (.int .u32 (tkS l M)) := by simp [Lib.cell_of_heap hn1']
    have z1 : W3.cell? ⟨A1, 1, none⟩ = some (.int .u32 (tkG l M)) := by simp [Lib.cell_of_heap hn1']
    have z2 : W3.cell? ⟨A2, 0, none⟩ = some (.int .u32 (tkS l M)) := by simp [Lib.cell_of_heap hn2]
    have z3 : W3.cell? ⟨A2, 1, none⟩ = some (.int .u32 (tkG l M)) := by simp [Lib.cell_of_heap hn2]
    clear hn1' hn2
    go_wp2_with (go_at_call 10; refine (code_is _ _ _).mono ?_; rintro e w' ⟨rfl, rfl⟩)
    go_ret
    exact ⟨v', tv, hs, _, F1, ret_bool (by simp), PR.out, LOW.out _ LO.out, LEN.out, by omega⟩
  · clear hn1' hn2
    obtain ⟨i0, hi0, hz0, hz1, hz2⟩ := nf_open nfHd
    have nA1 : ¬ (tv.ownBlock = some A1 ∨ A1 = C) := fun e => by
      rcases e with e | e
      · have := (own_in H.out.tl e).2.1; omega
      · exact hne e
    have nA2 : ¬ (tv.ownBlock = some A2 ∨ A2 = C) := fun e => by
      rcases e with e | e
      · have := (own_in H.out.tl e).2.1; omega
      · have := H.out.ltC; omega
    go_wp2
    have HC3 := hide (show (W3.drew.cell? ⟨C, 2, none⟩ = some tv) ∧ ∀ o, ((W3.alloc o).drew.cell? ⟨C, 2, none⟩ = some tv) from ⟨by simp [Lib.cell_of_heap PR.out.box], fun o => by simp [Lib.cell_of_heap ((Ch.alloc (Q := fun _ => False) W3 o).box PR.out.box (fun h => h))]⟩)
    have HH3 := hide (fun wq (h : Ch (fun x => tv.ownBlock = some x ∨ x = C) W3 wq) => have e := Lib.cell_of_heap (h.box HN2.out nA2); show wq.cell? ⟨A2, 0, none⟩ = some (.int .u32 (tkS l M)) ∧ wq.cell? ⟨A2, 1, none⟩ = some (.int .u32 (tkG l M)) from ⟨by simp [e], by simp [e]⟩)
    refine wp_region_held_drew (S := Ch (fun x => tv.ownBlock = some x ∨ x = C) W3) (by kernel_rfl) (Ch.drew _) (fun zk => ?_)
    apply tk 0 q1c0 rfl (by kernel_rfl) (fun _ _ _ h => h) zk
    · intro wq zq
      go_simp
      try rfl
    go_frame
    apply tk 1 q1c1 rfl (by kernel_rfl) (fun _ _ _ h => h) zk
    · intro wq zq
      go_simp
      try rfl
    go_frame
    apply tk 2 q1c2 rfl (by kernel_rfl) (fun _ _ _ h => h) zk
    · intro wq zq
      go_simp
      try rfl
    go_frame
    apply tk 3 q1c3 rfl (by kernel_rfl) (fun _ _ _ h => h) zk
    · intro wq zq
      go_simp
      try rfl
    go_frame
    apply tk 5 q1c5 rfl (by kernel_rfl) (fun _ _ _ h => h) zk
    · intro wq zq
      obtain ⟨s4, s5⟩ := HH3.out _ zq
      go_simp
      try rfl
    go_frame
    refine wpAnyH_ready (rs := [4, 6]) (by kernel_rfl) (by simp) ?_
    refine AllReadyH.cons (o := q1c4) rfl (fun K hK => ?_) (AllReadyH.cons (o := q1c6) rfl (fun K hK => ?_) AllReadyH.nil)
    · have s3 := HC3.out
      go_simp
      refine hK.out _ _ ?_ (fun zk => ?_)
      · exact zk
      clear hK K
      try go_frame
      clear s3
      refine rd 6 q1c6 rfl (by kernel_rfl) fun K hK => ?_
      go_simp
      refine hK.out _ _ ?_ (fun zk => ?_)
      · exact zk.trans (Ch.alloc (Q := fun _ => False) _ _) (fun _ _ h => h.elim)
      clear hK K
      try go_frame
      have PR4 := hide (PR.out.ch0 I ((Ch.alloc (Q := fun _ => False) W3 (.cells #[.int .u32 (tkS l M), .int .u32 (tkG l M)] 39)).trans (Ch.drew (Q := fun _ => False) _) (fun _ _ h => h)))
      refine rd 7 q1c7 rfl (by kernel_rfl) fun K hK => ?_
      refine step_append_at rfl (.tmp 59) (.tmp 61) 33 rfl B 39 i0 (.agg #[.int .u32 0, .int .u32 0]) 2 8 Try.underlying33 hi0 hz0 hz1 hz2 rfl (by decide) tv hs.length (hs.flatMap hdF) rfl PR4.out.tl ⟨W3.heap.size, 0, none⟩ 1 1 (hdF (tkS l M, tkG l M)) rfl rfl (row_new W3 (hdF (tkS l M, tkG l M)) 39 rfl) (by simp [hdF, Value.oneCell']) (by unfold maxLen; omega) (by omega) (by show B ≤ (W3.alloc _).heap.size; simp; omega) ?_
      intro tv2 W5 hr5 hg5 ho5
      obtain ⟨PM, CM⟩ := PR4.out.more I hg5 (Row.snoc hr5) ho5 (us_snoc PR4.out.tu (tkS_us l PR4.out.most))
      have PM := hide PM
      have CM := hide CM
      obtain ⟨a5, c5, e5, -, -⟩ := Row.form (Row.snoc hr5)
      replace e5 : tv2 = .slice a5 (hs.length + 1) c5 := by rw [e5]; simp
      subst e5
      have b5 : W5.heap[C]? = some (.cells #[.pointer (some ⟨p, 0, none⟩), .pointer (some ⟨b, 0, none⟩), tv] 35 (0, 0)) := (hg5.block C PR4.out.ltC (fun e => PR4.out.net e.symm)).trans PR4.out.box
      have y5 : W5.cell? ⟨C, 2, none⟩ = some tv := by simp [Lib.cell_of_heap b5]
      have f5 : W5.frozen? ⟨C, 2, none⟩ = false := by simp [World.frozen?, b5]
      have Z5 := hide (zk.trans (Ch.of_grown (Q := fun x => tv.ownBlock = some x ∨ x = C) hg5 (fun k e => Or.inl e)) (fun _ _ h => h))
      have Z6 := hide (zk.trans CM.out (fun _ _ h => h))
      clear hr5 hg5 ho5 b5
      refine hK.out _ _ ?_ (fun zk => ?_)
      · exact Z5.out
      clear hK K
      try go_frame
      apply tk 8 q1c8 rfl (by kernel_rfl) (fun _ _ _ h => h) zk
      · intro wq zq
        go_simp
        try rfl
      go_frame
      apply tk 9 q1c9 rfl (by kernel_rfl) (fun _ _ _ h => h) zk
      · intro wq zq
        go_simp
        try rfl
      go_frame
      refine rd 10 q1c10 rfl (by kernel_rfl) fun K hK => ?_
      go_simp
      refine hK.out _ _ ?_ (fun zk => ?_)
      · exact Z6.out
      clear hK K
      try go_frame
      refine wpAnyH_done (by kernel_rfl) ?_ _
      generalize hs6 : W5.setCell ⟨C, 2, none⟩ _ = W6 at *
      clear hs6 y5 f5
      have e1 := Lib.cell_of_heap (zk.box HN1p.out nA1)
      have e2 := Lib.cell_of_heap (zk.box HN2.out nA2)
      have z0 : W6.cell? ⟨A1, 0, none⟩ = some (.int .u32 (tkS l M)) := by simp [e1]
      have z1 : W6.cell? ⟨A1, 1, none⟩ = some (.int .u32 (tkG l M)) := by simp [e1]
      have z2 : W6.cell? ⟨A2, 0, none⟩ = some (.int .u32 (tkS l M)) := by simp [e2]
      have z3 : W6.cell? ⟨A2, 1, none⟩ = some (.int .u32 (tkG l M)) := by simp [e2]
      have LB := hide (zk.below (N := B) (by omega) (fun x hx e => e.elim (fun e => by have := (own_in H.out.tl e).1; omega) (fun e => by have := H.out.bC; omega)))
      clear e1 e2
      go_wp2_with (go_at_call 10; refine (code_is _ _ _).mono ?_; rintro e w2 ⟨rfl, rfl⟩)
      go_ret
      exact ⟨v', _, _, _, F1, ret_bool (by simp), PM.out, LOW.out _ (LO.out.trans LB.out), LEN.out, by simp⟩
    · go_simp
      refine hK.out _ _ ?_ (fun zk => ?_)
      · exact zk.trans (Ch.alloc (Q := fun _ => False) _ _) (fun _ _ h => h.elim)
      clear hK K
      try go_frame
      refine rd 4 q1c4 rfl (by kernel_rfl) fun K hK => ?_
      have s3 := HC3.out
      go_simp
      refine hK.out _ _ ?_ (fun zk => ?_)
      · exact zk
      clear hK K
      try go_frame
      clear s3
      have PR4 := hide (PR.out.ch0 I ((Ch.alloc (Q := fun _ => False) W3 (.cells #[.int .u32 (tkS l M), .int .u32 (tkG l M)] 39)).trans (Ch.drew (Q := fun _ => False) _) (fun _ _ h => h)))
      refine rd 7 q1c7 rfl (by kernel_rfl) fun K hK => ?_
      refine step_append_at rfl (.tmp 59) (.tmp 61) 33 rfl B 39 i0 (.agg #[.int .u32 0, .int .u32 0]) 2 8 Try.underlying33 hi0 hz0 hz1 hz2 rfl (by decide) tv hs.length (hs.flatMap hdF) rfl PR4.out.tl ⟨W3.heap.size, 0, none⟩ 1 1 (hdF (tkS l M, tkG l M)) rfl rfl (row_new W3 (hdF (tkS l M, tkG l M)) 39 rfl) (by simp [hdF, Value.oneCell']) (by unfold maxLen; omega) (by omega) (by show B ≤ (W3.alloc _).heap.size; simp; omega) ?_
      intro tv2 W5 hr5 hg5 ho5
      obtain ⟨PM, CM⟩ := PR4.out.more I hg5 (Row.snoc hr5) ho5 (us_snoc PR4.out.tu (tkS_us l PR4.out.most))
      have PM := hide PM
      have CM := hide CM
      obtain ⟨a5, c5, e5, -, -⟩ := Row.form (Row.snoc hr5)
      replace e5 : tv2 = .slice a5 (hs.length + 1) c5 := by rw [e5]; simp
      subst e5
      have b5 : W5.heap[C]? = some (.cells #[.pointer (some ⟨p, 0, none⟩), .pointer (some ⟨b, 0, none⟩), tv] 35 (0, 0)) := (hg5.block C PR4.out.ltC (fun e => PR4.out.net e.symm)).trans PR4.out.box
      have y5 : W5.cell? ⟨C, 2, none⟩ = some tv := by simp [Lib.cell_of_heap b5]
      have f5 : W5.frozen? ⟨C, 2, none⟩ = false := by simp [World.frozen?, b5]
      have Z5 := hide (zk.trans (Ch.of_grown (Q := fun x => tv.ownBlock = some x ∨ x = C) hg5 (fun k e => Or.inl e)) (fun _ _ h => h))
      have Z6 := hide (zk.trans CM.out (fun _ _ h => h))
      clear hr5 hg5 ho5 b5
      refine hK.out _ _ ?_ (fun zk => ?_)
      · exact Z5.out
      clear hK K
      try go_frame
      apply tk 8 q1c8 rfl (by kernel_rfl) (fun _ _ _ h => h) zk
      · intro wq zq
        go_simp
        try rfl
      go_frame
      apply tk 9 q1c9 rfl (by kernel_rfl) (fun _ _ _ h => h) zk
      · intro wq zq
        go_simp
        try rfl
      go_frame
      refine rd 10 q1c10 rfl (by kernel_rfl) fun K hK => ?_
      go_simp
      refine hK.out _ _ ?_ (fun zk => ?_)
      · exact Z6.out
      clear hK K
      try go_frame
      refine wpAnyH_done (by kernel_rfl) ?_ _
      generalize hs6 : W5.setCell ⟨C, 2, none⟩ _ = W6 at *
      clear hs6 y5 f5
      have e1 := Lib.cell_of_heap (zk.box HN1p.out nA1)
      have e2 := Lib.cell_of_heap (zk.box HN2.out nA2)
      have z0 : W6.cell? ⟨A1, 0, none⟩ = some (.int .u32 (tkS l M)) := by simp [e1]
      have z1 : W6.cell? ⟨A1, 1, none⟩ = some (.int .u32 (tkG l M)) := by simp [e1]
      have z2 : W6.cell? ⟨A2, 0, none⟩ = some (.int .u32 (tkS l M)) := by simp [e2]
      have z3 : W6.cell? ⟨A2, 1, none⟩ = some (.int .u32 (tkG l M)) := by simp [e2]
      have LB := hide (zk.below (N := B) (by omega) (fun x hx e => e.elim (fun e => by have := (own_in H.out.tl e).1; omega) (fun e => by have := H.out.bC; omega)))
      clear e1 e2
      go_wp2_with (go_at_call 10; refine (code_is _ _ _).mono ?_; rintro e w2 ⟨rfl, rfl⟩)
      go_ret
      exact ⟨v', _, _, _, F1, ret_bool (by simp), PM.out, LOW.out _ (LO.out.trans LB.out), LEN.out, by simp⟩

end Go.Proofs.Ytjilnmeegolpkaa
