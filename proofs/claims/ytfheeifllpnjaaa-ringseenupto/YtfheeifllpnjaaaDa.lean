/- Layer 12: the document's ring. -/
import Derived.Test.YtfheeifllpnjaaaRd
namespace Go.Proofs.Ytfheeifllpnjaaa
open Go.RowKit

def inF (x : Int) : List Value := [.int .i64 x]
theorem inF_len (x : Int) : (inF x).length = 1 := rfl
theorem inF_one (x : Int) : ∀ v ∈ inF x, v.oneCell' = true := by simp [inF, Value.oneCell']

/-- the document's ring lies in block b: all that was put, how many were taken, its room -/
structure DR (w : World) (B : Nat) (F : Nat → Prop) (b : Nat) (v : Value) (ys : List Int) (o n : Nat) : Prop where
  box : w.heap[b]? = some (.cells #[v, .int .i64 (o : Int), .int .i64 (n : Int)] 31 (0, 0))
  row : Row inF 1 3 w B v ys
  lo : B ≤ b
  out : o ≤ ys.length
  n1 : n ≤ 100
  foot : ∀ x, F x ↔ x = b ∨ v.ownBlock = some x

section
variable {w w' : World} {B : Nat} {F : Nat → Prop} {b : Nat} {v : Value} {ys : List Int} {o n : Nat}

theorem DR.lt (h : DR w B F b v ys o n) : b < w.heap.size := (Array.getElem?_eq_some_iff.1 h.box).1
theorem DR.cells (h : DR w B F b v ys o n) : w.cell? ⟨b, 0, none⟩ = some v ∧ w.cell? ⟨b, 1, none⟩ = some (.int .i64 (o : Int)) ∧ w.cell? ⟨b, 2, none⟩ = some (.int .i64 (n : Int)) := by
  simp [Lib.cell_of_heap h.box]
theorem DR.ch {Q : Nat → Prop} (h : DR w B F b v ys o n) (hc : Ch Q w w') (hq : ∀ x, F x → ¬ Q x) : DR w' B F b v ys o n :=
  ⟨hc.box h.box (hq _ ((h.foot b).2 (Or.inl rfl))), h.row.ch hc (fun g hg => hq _ ((h.foot g).2 (Or.inr hg))), h.lo, h.out, h.n1, h.foot⟩
theorem DR.ne (h : DR w B F b v ys o n) : ¬ v.ownBlock = some b := own_box h.row h.box (by decide)

set_option maxHeartbeats 1000000 in
theorem rlen_q (h : DR w B F b v ys o n) (k : Nat) : Calls Try.prog 17 #[.pointer (some ⟨b, 0, none⟩)] (w.drewN k) fun e w' => e = .returned (.int .i64 ((ys.length - o : Nat) : Int)) ∧ ∃ m, w' = w.drewN m := by
  obtain ⟨a, c, rfl, hc, hm⟩ := h.row.form
  have hm' : ys.length ≤ 9223372036854775807 := by unfold maxLen at hm; omega
  obtain ⟨c0, c1, -⟩ := (h.ch (Ch.drewN (Q := fun _ => False) w k) (fun _ _ h => h)).cells
  have ho := h.out
  have e1 : IntKind.i64.wrap ((ys.length : Int) - (o : Int)) = ((ys.length - o : Nat) : Int) := by rw [IntKind.wrap_i64]; omega
  obtain ⟨W, hW⟩ : ∃ W, w.drewN k = W := ⟨_, rfl⟩
  rw [hW] at c0 c1 ⊢
  have HW := hide hW
  clear hW ho hm
  go_enter Try.func17, Try.ntmps17
  go_wp2
  go_quiet (fail)
  go_wp2
  go_ret
  exact ⟨rfl, by rw [← HW.out]; exact ⟨_, World.drewN_drewN _ _ _⟩⟩
theorem rlen_b (h : DR w B F b v ys o n) : Calls Try.prog 17 #[.pointer (some ⟨b, 0, none⟩)] w fun e w' => e = .returned (.int .i64 ((ys.length - o : Nat) : Int)) ∧ Ch (fun _ => False) w w' :=
  (rlen_q h 0).mono fun e w' ⟨h1, m, h2⟩ => ⟨h1, by rw [h2]; exact Ch.drewN w m⟩

theorem infoInt : (Try.prog.info? 3).map (fun i => (i.zero, i.size, i.bytes)) = some (some (.int .i64 0), 1, 8) := by kernel_rfl
theorem row_new1 (V : World) (x : Int) (T : TypeId) {n : Nat} (hn : V.heap.size = n) : ∀ (j : Nat) (u : Value), (inF x)[j]? = some u → (V.alloc (.cells #[.int .i64 x] T)).cell? ((⟨n, 0, none⟩ : Addr).add j) = some u := by
  intro j u hu
  subst hn
  rw [Addr.add_lit, Nat.zero_add, Lib.cell_of_heap (heap_new V (.cells #[.int .i64 x] T))]
  simpa [inF] using hu

set_option maxRecDepth 100000 in
set_option maxHeartbeats 1000000 in
theorem rput_full (h : DR w B F b v ys o n) (x : Int) (hn : ¬ ys.length - o < n) : Calls Try.prog 10 #[.pointer (some ⟨b, 0, none⟩), .int .i64 x] w fun e w' => e = .returned (.bool false) ∧ Ch (fun _ => False) w w' := by
  obtain ⟨c0, c1, c2⟩ := h.cells
  have HQ := hide (rlen_q h)
  obtain ⟨k, hk⟩ : ∃ k, ys.length - o = k := ⟨_, rfl⟩
  rw [hk] at HQ hn
  have q : decide ((n : Int) ≤ (k : Int)) = true := decide_eq_true (by omega)
  have q' : n ≤ k := by omega
  clear hk h hn
  go_enter Try.func10, Try.ntmps10
  go_wp2
  go_quiet ((go_at_call 17; exact HQ.out _))
  go_wp2
  go_ret
  exact ⟨rfl, Ch.drewN _ _⟩

set_option maxRecDepth 100000 in
set_option maxHeartbeats 1000000 in
theorem rput_ok (h : DR w B F b v ys o n) (x : Int) (hn : ys.length - o < n) (hl : ys.length ≤ 100000) : Calls Try.prog 10 #[.pointer (some ⟨b, 0, none⟩), .int .i64 x] w fun e w' => ∃ F' v', e = .returned (.bool true) ∧ DR w' B F' b v' (ys ++ [x]) o n ∧ Ch F w w' ∧ ∀ y, F' y → F y ∨ w.heap.size ≤ y := by
  obtain ⟨a0, k0, rfl, -, -⟩ := h.row.form
  obtain ⟨c0, c1, c2⟩ := h.cells
  have HQ := hide (rlen_q h)
  obtain ⟨k, hk⟩ : ∃ k, ys.length - o = k := ⟨_, rfl⟩
  rw [hk] at HQ hn
  have q : decide ((n : Int) ≤ (k : Int)) = false := decide_eq_false (by omega)
  have q' : ¬ n ≤ k := by omega
  have H := hide h
  obtain ⟨i0, hi0, hz0, hz1, hz2⟩ := nf_open infoInt
  clear hk h hn
  go_enter Try.func10, Try.ntmps10
  go_wp2
  go_quiet ((go_at_call 17; exact HQ.out _))
  have HQW := hide (And.intro (H.out.ch (Ch.drewN (Q := fun _ => False) w nq) (fun _ _ h => h)) (Ch.drewN (Q := fun _ => False) w nq))
  clear c0 c1 c2 HQ
  generalize w.drewN nq = W at HQW ⊢
  obtain ⟨h, hc⟩ := HQW.out
  obtain ⟨c0, c1, c2⟩ := h.cells
  have HV := hide h
  have HC := hide hc
  have HOW := hide (World.ownsRow.alloc h.row (.cells #[.int .i64 x] 3))
  have HN1 := hide (row_new1 W x 3 rfl)
  have HM1 := hide (show ys.length + 1 ≤ maxLen by unfold maxLen; omega)
  have HM2 := hide (show (ys.length + 1) * 8 ≤ 140737488355328 by omega)
  have HM3 := hide (show B ≤ (W.alloc (.cells #[.int .i64 x] 3)).heap.size by have := h.lo; have := h.lt; simp; omega)
  have HON := hide (inF_one x)
  have d0 : ∀ o', (W.alloc o').cell? ⟨b, 0, none⟩ = some (.slice a0 ys.length k0) := fun o' => by simp [Lib.cell_of_heap ((Ch.alloc (Q := fun _ => False) W o').box h.box (fun h => h))]
  clear h hc
  go_wp2_with (at_builtin; refine wpList_append_own_at _ rfl _ _ 29 rfl B 3 i0 (.int .i64 0) 1 8 Try.underlying29 hi0 hz0 hz1 hz2 rfl (by decide) _ ys.length (ys.flatMap inF) rfl (unhide HOW) ⟨W.heap.size, 0, none⟩ 1 1 (inF x) rfl rfl (unhide HN1) (unhide HON) (unhide HM1) (unhide HM2) (unhide HM3) ?_)
  intro v' w1 hown' hgrow _ hat
  have HO' := hide hown'
  have HG := hide (Ch.of_grown (Q := fun x => (Value.slice a0 ys.length k0).ownBlock = some x) hgrow (fun _ e => e))
  have HA := hide hat
  have hb1 := HG.out.box ((Ch.alloc (Q := fun _ => False) W (.cells #[.int .i64 x] 3)).box HV.out.box (fun h => h)) HV.out.ne
  have HB1 := hide hb1
  have f0 : w1.cell? ⟨b, 0, none⟩ = some (.slice a0 ys.length k0) := by simp [Lib.cell_of_heap hb1]
  have fz : ∀ o', w1.frozen? ⟨b, o', none⟩ = false := by simp [World.frozen?, hb1]
  obtain ⟨va, vm, vc, rfl⟩ := own_form hown'
  clear hown' hgrow hat hb1 c0 c1 c2 d0
  go_wp2_with fail
  go_ret
  have hne : ¬ (Value.slice va vm vc).ownBlock = some b := fun e => HA.out.elim (fun e' => HV.out.ne (e'.symm.trans e)) (fun e' => by
    rw [e'] at e
    have := HV.out.lt
    simp at e
    omega)
  refine ⟨fun y => y = b ∨ (Value.slice va vm vc).ownBlock = some y, _, rfl, ⟨?_, ?_, HV.out.lo, ?_, HV.out.n1, fun x => Iff.rfl⟩, ?_, ?_⟩
  · rw [heap_set HB1.out 0 _]
    rfl
  · exact Row.ch (Row.snoc HO'.out) (Ch.set (Q := fun y => y = b) _ rfl _ _) (fun g hg e => hne (by rw [hg, e]))
  · have := HV.out.out
    rw [List.length_append]
    omega
  · exact ((HC.out.mono (Q' := F) (fun _ _ h => h.elim)).trans ((Ch.alloc (Q := F) W _).trans (HG.out.mono (fun y _ e => (HV.out.foot y).2 (Or.inr e))) (fun _ _ h => h)) (fun _ _ h => h)).trans (Ch.set (Q := fun y => y = b) _ rfl _ _) (fun y _ e => (HV.out.foot y).2 (Or.inl e))
  · rintro y (e | e)
    · exact Or.inl ((HV.out.foot y).2 (Or.inl e))
    · rcases HA.out with e' | e'
      · exact Or.inl ((HV.out.foot y).2 (Or.inr (e'.symm.trans e)))
      · right
        rw [e'] at e
        have := HC.out.size
        simp at e
        omega

set_option maxRecDepth 100000 in
set_option maxHeartbeats 1000000 in
theorem rtake_no (h : DR w B F b v ys o n) (hn : ys.length - o = 0) : Calls Try.prog 12 #[.pointer (some ⟨b, 0, none⟩)] w fun e w' => e = .returned (.tuple #[.int .i64 0, .bool false]) ∧ Ch (fun _ => False) w w' := by
  have HQ := hide (rlen_b h)
  rw [hn] at HQ
  clear hn h
  go_enter Try.func12, Try.ntmps12
  go_wp2_with fail
  refine HQ.out.mono ?_
  rintro e w1 ⟨rfl, hc⟩
  have HC := hide hc
  clear hc
  go_wp2_with fail
  go_ret2
  exact ⟨rfl, HC.out⟩

set_option maxRecDepth 100000 in
set_option maxHeartbeats 1000000 in
theorem rtake_ok (h : DR w B F b v ys o n) (ho : o < ys.length) : Calls Try.prog 12 #[.pointer (some ⟨b, 0, none⟩)] w fun e w' => e = .returned (.tuple #[.int .i64 ys[o], .bool true]) ∧ DR w' B F b v ys (o + 1) n ∧ Ch F w w' := by
  have HQ := hide (rlen_b h)
  obtain ⟨k, hk⟩ : ∃ k, ys.length - o = k := ⟨_, rfl⟩
  rw [hk] at HQ
  have q : ((k : Int) == 0) = false := by simp; omega
  have q' : ¬ k = 0 := by omega
  have hm : ys.length ≤ 9223372036854775807 := by
    obtain ⟨a, c, -, -, hm⟩ := h.row.form
    unfold maxLen at hm
    omega
  have H := hide h
  clear hk h
  obtain ⟨X, hX⟩ : ∃ X, ys[o] = X := ⟨_, rfl⟩
  rw [hX]
  have e1 : IntKind.i64.wrap ((o : Int) + 1) = ((o + 1 : Nat) : Int) := by rw [IntKind.wrap_i64]; omega
  have e2 : IntKind.i64.wrap (((o + 1 : Nat) : Int) - 1) = (o : Int) := by rw [IntKind.wrap_i64]; omega
  have HX := hide hX
  clear hX
  go_enter Try.func12, Try.ntmps12
  go_wp2_with fail
  refine HQ.out.mono ?_
  rintro e w1 ⟨rfl, hc⟩
  have HC := hide hc
  have h1 := H.out.ch hc (fun _ _ h => h)
  have H1 := hide h1
  obtain ⟨c0, c1, c2⟩ := h1.cells
  have fz : ∀ o', w1.frozen? ⟨b, o', none⟩ = false := by simp [World.frozen?, h1.box]
  clear hc h1
  go_wp2_with fail
  clear c0 c1 c2 fz
  have hb2 := heap_set H1.out.box 1 (.int .i64 ((o + 1 : Nat) : Int))
  refine wp_gen (R := fun W => DR W B F b v ys (o + 1) n ∧ Ch F w W) ⟨⟨hb2.trans rfl, Row.ch H1.out.row (Ch.set (Q := fun y => y = b) _ rfl _ _) (fun g hg e => H1.out.ne (by rw [hg, e])), H1.out.lo, ho, H1.out.n1, H1.out.foot⟩, (HC.out.mono (fun _ _ h => h.elim)).trans (Ch.set (Q := fun y => y = b) _ rfl _ _) (fun y _ e => (H1.out.foot y).2 (Or.inl e))⟩ ?_
  rintro W ⟨h2, hc2⟩
  have H2 := hide h2
  have HC2 := hide hc2
  obtain ⟨c0, c1, c2⟩ := h2.cells
  obtain ⟨g, c, cur, rfl, hgc, -, -, -, -, hcell⟩ := h2.row.at inF_len (by omega)
  have y0 := hcell o ho 0 (.int .i64 ys[o]) rfl
  rw [HX.out, Nat.mul_one, Nat.add_zero] at y0
  have hq1 : (o : Int) < (ys.length : Int) := by omega
  clear h2 hc2 hcell hb2 H1 H HC
  go_quiet (fail)
  go_wp2_with fail
  go_ret2
  exact ⟨rfl, H2.out.ch (Ch.drewN (Q := fun _ => False) _ _) (fun _ _ h => h), HC2.out.trans (Ch.drewN (Q := F) _ _) (fun _ _ h => h)⟩

set_option maxRecDepth 100000 in
set_option maxHeartbeats 1000000 in
theorem rat_no (h : DR w B F b v ys o n) (i : Int) (hi : i < 0 ∨ ((ys.length - o : Nat) : Int) ≤ i) : Calls Try.prog 14 #[.pointer (some ⟨b, 0, none⟩), .int .i64 i] w fun e w' => e = .returned (.tuple #[.int .i64 0, .bool false]) ∧ Ch (fun _ => False) w w' := by
  have HQ := hide (rlen_b h)
  obtain ⟨k, hk⟩ : ∃ k, ys.length - o = k := ⟨_, rfl⟩
  rw [hk] at HQ hi
  clear h hk
  by_cases h0 : i < 0
  · have q0 : decide (i < 0) = true := decide_eq_true h0
    clear hi h0 HQ
    go_enter Try.func14, Try.ntmps14
    go_wp2_with fail
    go_ret2
    exact ⟨rfl, Ch.refl _ _⟩
  · have q0 : decide (i < 0) = false := decide_eq_false h0
    have q1 : decide ((k : Int) ≤ i) = true := decide_eq_true (by omega)
    clear hi h0
    go_enter Try.func14, Try.ntmps14
    go_wp2_with fail
    refine HQ.out.mono ?_
    rintro e w1 ⟨rfl, hc⟩
    have HC := hide hc
    clear hc
    go_wp2_with fail
    go_ret2
    exact ⟨rfl, HC.out⟩

set_option maxRecDepth 100000 in
set_option maxHeartbeats 1000000 in
theorem rat_ok (h : DR w B F b v ys o n) (j : Nat) (hj : o + j < ys.length) : Calls Try.prog 14 #[.pointer (some ⟨b, 0, none⟩), .int .i64 (j : Int)] w fun e w' => e = .returned (.tuple #[.int .i64 ys[o + j], .bool true]) ∧ Ch (fun _ => False) w w' := by
  have HQ := hide (rlen_b h)
  obtain ⟨k, hk⟩ : ∃ k, ys.length - o = k := ⟨_, rfl⟩
  rw [hk] at HQ
  have hm : ys.length ≤ 9223372036854775807 := by
    obtain ⟨a, c, -, -, hm⟩ := h.row.form
    unfold maxLen at hm
    omega
  have q0 : decide ((j : Int) < 0) = false := decide_eq_false (by omega)
  have q1 : decide ((k : Int) ≤ (j : Int)) = false := decide_eq_false (by omega)
  have q2 : ¬ k ≤ j := by omega
  have H := hide h
  clear h hk
  obtain ⟨X, hX⟩ : ∃ X, ys[o + j] = X := ⟨_, rfl⟩
  rw [hX]
  have HX := hide hX
  have e1 : IntKind.i64.wrap ((o : Int) + (j : Int)) = ((o + j : Nat) : Int) := by rw [IntKind.wrap_i64]; omega
  clear hX
  go_enter Try.func14, Try.ntmps14
  go_wp2_with fail
  refine HQ.out.mono ?_
  rintro e w1 ⟨rfl, hc⟩
  have HC := hide hc
  have h2 := H.out.ch hc (fun _ _ h => h)
  obtain ⟨c0, c1, c2⟩ := h2.cells
  obtain ⟨g, c, cur, rfl, hgc, -, -, -, -, hcell⟩ := h2.row.at inF_len (by omega)
  have y0 := hcell (o + j) hj 0 (.int .i64 ys[o + j]) rfl
  rw [HX.out, Nat.mul_one, Nat.add_zero] at y0
  have hq1 : ((o + j : Nat) : Int) < (ys.length : Int) := by omega
  clear hc h2 hcell
  go_wp2_with fail
  go_quiet (fail)
  go_wp2_with fail
  go_ret2
  exact ⟨rfl, HC.out.trans (Ch.drewN _ _) (fun _ _ h => h)⟩

end
end Go.Proofs.Ytfheeifllpnjaaa
