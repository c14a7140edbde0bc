/- Layer 14: a channel receives what it holds. Layer 14: channels are made. Layer 14: Send and Receive of a channel that there is. -/
import Derived.Test.YtbblmbbpicinlabYq
namespace Go.Proofs.Ytbblmbbpicinlab
open Go.RowKit

abbrev krc0 : Oper := { dst := some 19, op := Op.load 41 (Operand.tmp 5), type := 41, pos := "channel.go:32", after := #[], guard := none }
abbrev krc1 : Oper := { dst := some 20, op := Op.move (Operand.tmp 0), type := 89, pos := "channel.go:32", after := #[], guard := none }
abbrev krc2 : Oper := { dst := some 21, op := Op.call { callee := Callee.value (Operand.func 44), args := #[Operand.tmp 20], argTypes := #[89] }, type := 42, pos := "channel.go:32", after := #[{ on := 1, ground := Ground.data }], guard := none }
abbrev krc3 : Oper := { dst := some 22, op := Op.build 44 #[(1, Operand.tmp 19), (2, Operand.const (Value.bool true)), (3, Operand.tmp 21)], type := 44, pos := "channel.go:32", after := #[{ on := 0, ground := Ground.data }, { on := 2, ground := Ground.data }], guard := none }
abbrev krc4 : Oper := { dst := none, op := Op.store 44 (Operand.tmp 4) (Operand.tmp 22), type := 0, pos := "channel.go:32", after := #[{ on := 3, ground := Ground.data }, { on := 2, ground := Ground.chain }, { on := 0, ground := Ground.phase }, { on := 1, ground := Ground.phase }, { on := 2, ground := Ground.phase }, { on := 3, ground := Ground.phase }], guard := none }

theorem res_recv (tm : Array Value) (A : Nat) (Z : World) (fate n a b : Int) (ok : Bool) (wk : Value) (h2 : tm[4]?.getD undef = .pointer (some ⟨A, 0, none⟩)) (hb : Z.heap[A]? = some (.cells #[.int .i64 fate, .int .i64 n, .int .u32 a, .int .u32 b, .bool ok, wk] 44 (0, 0))) :
    (results Try.f29 tm).run Try.prog Z = .ok (didV fate ⟨n, a, b⟩ ok wk) Z := by
  have e := Lib.cell_of_heap hb
  simp [results, Try.f29, h2, go_sem, e]

/-- a block that is none of theirs has changed -/
theorem CI.away {w w' : World} {B c bp M A : Nat} {F : Nat → Prop} {l : List Wt} {cs : List Cn} (h : CI w B c bp M F l cs) (hc : Ch (fun y => y = A) w w') (n1 : A ≠ c) (n2 : A ≠ M) (n3 : ∀ x ∈ cs, ¬ x.mine A) (n4 : ¬ F A) : CI w' B c bp M F l cs :=
  ⟨hc.box h.box (fun e => n1 e.symm), h.mp.ch hc (fun e => n2 e.symm), face.ch h.bk hc (fun y hy e => n4 (by rw [← e]; exact hy)), fun x hx => (h.ch x hx).ch hc (fun y hy e => n3 x hx (by rw [← e]; exact hy)), h.ap, h.nd, h.far, h.lo, Nat.le_trans h.low hc.size⟩
/-- its blocks are old -/
theorem CI.olds {w : World} {B c bp M A : Nat} {F : Nat → Prop} {l : List Wt} {cs : List Cn} (h : CI w B c bp M F l cs) (hA : w.heap.size ≤ A) : A ≠ c ∧ A ≠ M ∧ (∀ x ∈ cs, ¬ x.mine A) ∧ ¬ F A := by
  refine ⟨fun e => ?_, fun e => ?_, fun x hx e => ?_, fun e => ?_⟩
  · have := (Array.getElem?_eq_some_iff.1 h.box).1; omega
  · have := h.mp.lt; omega
  · have := (h.ch x hx).lt A e; omega
  · have := (face.foot h.bk A e).2; omega

/-- what a Take leaves of a channel -/
def Cn.take (x : Cn) : Cn := { x with xs := x.xs.tail, f := plc x.n x.f 1, pl := x.pl.set x.f zVa }

set_option maxRecDepth 100000 in
set_option maxHeartbeats 8000000 in
theorem recv_take0 {w : World} {B c bp M : Nat} {F : Nat → Prop} {l : List Wt} {cs : List Cn} (h : CI w B c bp M F l cs) (hl : l.length ≤ 100000) {i : Nat} (hi : i < cs.length) {x : Cn} (hx : cs[i] = x) (u1 : UsW x.h.1) (u2 : UsW x.h.2) {g : Hnd} {v : Va} {rest : List Va} (hxs : x.xs = v :: rest) (hq : sel (inRow x.h.1 x.h.2 1) l = []) :
    Calls Try.prog 29 #[.pointer (some ⟨x.cb, 0, none⟩), hkV g] w fun e w' => e = .returned (didV 0 v true (.slice none 0 0)) ∧ CI w' B c bp M F l (cs.set i x.take) ∧ Ch (fun y => x.mine y ∨ F y) w w' := by
  obtain ⟨w1, hw1⟩ : ∃ w1, w.alloc (.cells #[.int .u32 g.1, .int .u32 g.2] 24) = w1 := ⟨_, rfl⟩
  have hc1 : Ch (fun _ => False) w w1 := by rw [← hw1]; exact Ch.alloc _ _
  have hz1 : w1.heap.size = w.heap.size + 1 := by rw [← hw1, World.size_alloc]
  have hn1 : w1.heap[w.heap.size]? = some (.cells #[.int .u32 g.1, .int .u32 g.2] 24 (0, 0)) := by rw [← hw1]; exact heap_new _ _
  obtain ⟨w2, hw2⟩ : ∃ w2, w1.alloc (.cells #[.int .i64 0, .int .i64 0, .int .u32 0, .int .u32 0, .bool false, .slice none 0 0] 44) = w2 := ⟨_, rfl⟩
  have hc2 : Ch (fun _ => False) w1 w2 := by rw [← hw2]; exact Ch.alloc _ _
  have hz2 : w2.heap.size = w1.heap.size + 1 := by rw [← hw2, World.size_alloc]
  have hn2 : w2.heap[w1.heap.size]? = some (.cells #[.int .i64 0, .int .i64 0, .int .u32 0, .int .u32 0, .bool false, .slice none 0 0] 44 (0, 0)) := by rw [← hw2]; exact heap_new _ _
  replace hn1 := hc2.box hn1 (fun h => h)
  have C2 := hide (hc1.trans hc2 (fun _ _ h => h))
  have HN := hide hn2
  have HZ := hide (And.intro hz1 hz2)
  have hin : x ∈ cs := by rw [← hx]; exact List.getElem_mem hi
  have HLT := hide (show (∀ y, x.mine y → y < w.heap.size) ∧ ∀ y, F y → y < w.heap.size from ⟨(h.ch x hin).lt, fun y hy => (face.foot h.bk y hy).2⟩)
  have H0 := hide h
  have H2 := hide (h.quiet C2.out)
  have HX := hide hx
  have hring := (H2.out.ch x hin).ring
  rw [hxs] at hring
  have hct := hring.lies.cnt
  rw [List.length_cons] at hct
  obtain ⟨x0, x1, x2, x3, x4⟩ := (H2.out.ch x hin).cells
  have HIN := hide hin
  have HXS := hide hxs
  have HQ := hide hq
  have HR := hide hring
  clear h hc1 hc2 hz1 hz2 hn1 hn2 hin hx hxs hring hq
  go_enter Try.func29, Try.ntmps29
  go_wp2_with fail
  refine (takeV_ok HR.out).mono ?_
  rintro e w3 ⟨rfl, hr3, hc3⟩
  clear x0 x1 x2 x3 x4 hw1 hw2
  have hxb := H2.out.ch x HIN.out
  have NCB : ¬ (x.cb = x.rp ∨ x.cb = x.rg) := by
    rintro (e | e)
    · have h1 := hxb.box
      rw [e, hxb.ring.box] at h1
      injection h1 with h1
      injection h1 with _ h2 _
      exact absurd h2 (by decide)
    · have h1 := hxb.box
      rw [e, hxb.ring.row] at h1
      injection h1 with h1
      injection h1 with _ h2 _
      exact absurd h2 (by decide)
  have hb3 := hc3.box hxb.box NCB
  have hcs : cs[i].mine = x.mine := by rw [HX.out]
  have htk : x.take = { x with xs := rest, f := plc x.n x.f 1, pl := x.pl.set x.f zVa } := by unfold Cn.take; rw [HXS.out]; rfl
  have H3 := hide (show CI w3 B c bp M F l (cs.set i x.take) from H2.out.upd hi (by rw [htk]; exact ⟨hb3, hr3⟩) (by rw [HX.out]; exact ⟨rfl, rfl, rfl, rfl⟩) (by rw [hcs]; exact hc3.mono (fun _ _ e => .inr e)))
  have C3 := hide hc3
  have nA3 : ¬ (w1.heap.size = x.rp ∨ w1.heap.size = x.rg) := fun e => by
    have h1 := HLT.out.1 x.rp (.inr (.inl rfl))
    have h2 := HLT.out.1 x.rg (.inr (.inr rfl))
    have h3 := HZ.out
    omega
  have N3 := hide (hc3.box HN.out nA3)
  have hin3 : x.take ∈ cs.set i x.take := List.mem_iff_getElem.2 ⟨i, by rw [List.length_set]; exact hi, by rw [List.getElem_set_self]⟩
  have HI3 := hide hin3
  have HTX := hide (show x.take.xs.length < x.take.n from by rw [htk]; show rest.length < x.n; omega)
  clear hr3 hc3 hxb hb3 hcs NCB nA3 hin3 htk
  go_wp2
  obtain ⟨w4, hw4⟩ : ∃ w4, w3.alloc (.cells #[.int .i64 v.n, .int .u32 v.s, .int .u32 v.g] 41) = w4 := ⟨_, rfl⟩
  rw [hw4]
  have hc4 : Ch (fun _ => False) w3 w4 := by rw [← hw4]; exact Ch.alloc _ _
  have hn4 : w4.heap[w3.heap.size]? = some (.cells #[.int .i64 v.n, .int .u32 v.s, .int .u32 v.g] 41 (0, 0)) := by rw [← hw4]; exact heap_new _ _
  have H4 := hide (H3.out.quiet hc4)
  have C4 := hide hc4
  have X4 := hide hn4
  have N4 := hide (hc4.box N3.out (fun h => h))
  clear hw4 hc4 hn4
  have hz := HZ.out
  have z3 := C3.out.size
  have NX : ¬ ((x.mine w3.heap.size ∨ F w3.heap.size) ∨ w3.heap.size = w1.heap.size) := fun e => by
    rcases e with (e | e) | e
    · have := HLT.out.1 _ e; omega
    · have := HLT.out.2 _ e; omega
    · omega
  have NA : ¬ (x.mine w1.heap.size ∨ F w1.heap.size) := fun e => by
    rcases e with e | e
    · have := HLT.out.1 _ e; omega
    · have := HLT.out.2 _ e; omega
  clear hz z3
  refine wp_reg (fun y => (x.mine y ∨ F y) ∨ y = w1.heap.size) (R := fun V => Ch (fun _ => False) w4 V) (by kernel_rfl) (Ch.drew _) (fun V cV zk => ?_)
  have CV := hide cV
  have HV := hide (H4.out.quiet cV)
  clear cV
  have HXX := hide (fun wq (kq : Ch (fun y => (x.mine y ∨ F y) ∨ y = w1.heap.size) V wq) => show wq.cell? ⟨w3.heap.size, 0, none⟩ = some (.int .i64 v.n) ∧ wq.cell? ⟨w3.heap.size, 1, none⟩ = some (.int .u32 v.s) ∧ wq.cell? ⟨w3.heap.size, 2, none⟩ = some (.int .u32 v.g) from by
    have e := Lib.cell_of_heap (kq.box (CV.out.box X4.out (fun h => h)) NX)
    exact ⟨by simp [e], by simp [e], by simp [e]⟩)
  apply tk 0 krc0 rfl (by kernel_rfl) (fun _ _ _ h => h) zk
  · intro wq zq
    obtain ⟨s0, s1, s2⟩ := HXX.out _ zq
    go_simp
    try rfl
  go_frame
  apply tk 1 krc1 rfl (by kernel_rfl) (fun _ _ _ h => h) zk
  · intro wq zq
    go_simp
    try rfl
  go_frame
  refine Go.Proofs.Ytbblmbbpicinlab.rd 2 krc2 rfl (by kernel_rfl) fun K hK => ?_
  go_simp
  refine (refill_none HV.out hl HI3.out u1 u2 HQ.out).mono ?_
  rintro e w5 ⟨rfl, hb5⟩
  have hc5 := Ch.of_below (Q := fun y => x.mine y ∨ F y) hb5
  have C5 := hide hc5
  have Z5 := hide (zk.trans hc5 (fun _ _ h => .inl h))
  have H5 := hide (HV.out.quiet (Ch.of_below hb5))
  clear hb5 hc5
  go_wp2_with fail
  refine hK.out _ _ ?_ (fun zk => ?_)
  · exact Z5.out
  clear hK K
  try go_frame
  apply tk 3 krc3 rfl (by kernel_rfl) (fun _ _ _ h => h) zk
  · intro wq zq
    go_simp
    try rfl
  go_frame
  have n5 := C5.out.box (CV.out.box N4.out (fun h => h)) NA
  have d0 : w5.cell? ⟨w1.heap.size, 0, none⟩ = some (.int .i64 0) := by simp [Lib.cell_of_heap n5]
  have d1 : w5.cell? ⟨w1.heap.size, 1, none⟩ = some (.int .i64 0) := by simp [Lib.cell_of_heap n5]
  have d2 : w5.cell? ⟨w1.heap.size, 2, none⟩ = some (.int .u32 0) := by simp [Lib.cell_of_heap n5]
  have d3 : w5.cell? ⟨w1.heap.size, 3, none⟩ = some (.int .u32 0) := by simp [Lib.cell_of_heap n5]
  have d4 : w5.cell? ⟨w1.heap.size, 4, none⟩ = some (.bool false) := by simp [Lib.cell_of_heap n5]
  have d5 : w5.cell? ⟨w1.heap.size, 5, none⟩ = some (.slice none 0 0) := by simp [Lib.cell_of_heap n5]
  have df : ∀ o, w5.frozen? ⟨w1.heap.size, o, none⟩ = false := fun o => by simp [World.frozen?, n5]
  have HS := hide (did_set n5 (.int .i64 0) (.int .i64 v.n) (.int .u32 v.s) (.int .u32 v.g) (.bool true) (.slice none 0 0))
  clear n5
  refine Go.Proofs.Ytbblmbbpicinlab.rd 4 krc4 rfl (by kernel_rfl) fun K hK => ?_
  go_simp
  refine hK.out _ _ ?_ (fun zk => ?_)
  · exact zk.trans HS.out.2 (fun y hy e => .inr e)
  clear hK K
  try go_frame
  refine wpAnyH_done (by kernel_rfl) ?_ _
  go_wp2
  have hz := HZ.out
  have c03 := (C2.out.mono (Q' := fun y => x.mine y ∨ F y) (fun _ _ h => h.elim)).trans C3.out (fun _ _ e => .inl (.inr e))
  have c05 := ((c03.trans C4.out (fun _ _ h => h.elim)).trans CV.out (fun _ _ h => h.elim)).trans C5.out (fun _ _ e => e)
  have c06 := c05.trans HS.out.2 (fun y hy e => by omega)
  have ho := H0.out.olds (A := w1.heap.size) (by omega)
  have hxs3 : ∀ z ∈ cs.set i x.take, ¬ z.mine w1.heap.size := fun z hz2 => by
    rcases List.mem_or_eq_of_mem_set hz2 with hm | hm
    · exact ho.2.2.1 z hm
    · subst hm; exact ho.2.2.1 x HIN.out
  refine bodyPost_ret (v := didV 0 v true (.slice none 0 0)) (res_recv _ w1.heap.size _ 0 v.n v.s v.g true _ rfl HS.out.1) rfl ⟨rfl, ?_, c06⟩
  exact H5.out.away HS.out.2 ho.1 ho.2.1 hxs3 ho.2.2.2

set_option maxRecDepth 100000 in
set_option maxHeartbeats 8000000 in
theorem recv_take1 {w : World} {B c bp M : Nat} {F : Nat → Prop} {l : List Wt} {cs : List Cn} (h : CI w B c bp M F l cs) (hl : l.length ≤ 100000) {i : Nat} (hi : i < cs.length) {x : Cn} (hx : cs[i] = x) (u1 : UsW x.h.1) (u2 : UsW x.h.2) {g : Hnd} {v : Va} {rest : List Va} (hxs : x.xs = v :: rest) {r : Rc} {more : List Rc} (hq : sel (inRow x.h.1 x.h.2 1) l = r :: more) (ur1 : UsW r.ws) (ur2 : UsW r.wg) :
    Calls Try.prog 29 #[.pointer (some ⟨x.cb, 0, none⟩), hkV g] w fun e w' => ∃ nb F', e = .returned (didV 0 v true (.slice (some ⟨nb, 0, none⟩) 1 1)) ∧ w.heap.size ≤ nb ∧ w'.heap[nb]? = some (.cells (wkF r.ws r.wg r.ar zVa false 0).toArray 59 (0, 0)) ∧ CI w' B c bp M F' (leaW l r.ws r.wg) (cs.set i (x.take.put (vaR r))) ∧ Ch (fun y => x.mine y ∨ F y) w w' ∧ ∀ y, F' y → F y ∨ w.heap.size ≤ y := by
  obtain ⟨w1, hw1⟩ : ∃ w1, w.alloc (.cells #[.int .u32 g.1, .int .u32 g.2] 24) = w1 := ⟨_, rfl⟩
  have hc1 : Ch (fun _ => False) w w1 := by rw [← hw1]; exact Ch.alloc _ _
  have hz1 : w1.heap.size = w.heap.size + 1 := by rw [← hw1, World.size_alloc]
  have hn1 : w1.heap[w.heap.size]? = some (.cells #[.int .u32 g.1, .int .u32 g.2] 24 (0, 0)) := by rw [← hw1]; exact heap_new _ _
  obtain ⟨w2, hw2⟩ : ∃ w2, w1.alloc (.cells #[.int .i64 0, .int .i64 0, .int .u32 0, .int .u32 0, .bool false, .slice none 0 0] 44) = w2 := ⟨_, rfl⟩
  have hc2 : Ch (fun _ => False) w1 w2 := by rw [← hw2]; exact Ch.alloc _ _
  have hz2 : w2.heap.size = w1.heap.size + 1 := by rw [← hw2, World.size_alloc]
  have hn2 : w2.heap[w1.heap.size]? = some (.cells #[.int .i64 0, .int .i64 0, .int .u32 0, .int .u32 0, .bool false, .slice none 0 0] 44 (0, 0)) := by rw [← hw2]; exact heap_new _ _
  replace hn1 := hc2.box hn1 (fun h => h)
  have C2 := hide (hc1.trans hc2 (fun _ _ h => h))
  have HN := hide hn2
  have HZ := hide (And.intro hz1 hz2)
  have hin : x ∈ cs := by rw [← hx]; exact List.getElem_mem hi
  have HLT := hide (show (∀ y, x.mine y → y < w.heap.size) ∧ ∀ y, F y → y < w.heap.size from ⟨(h.ch x hin).lt, fun y hy => (face.foot h.bk y hy).2⟩)
  have H0 := hide h
  have H2 := hide (h.quiet C2.out)
  have HX := hide hx
  have hring := (H2.out.ch x hin).ring
  rw [hxs] at hring
  have hct := hring.lies.cnt
  rw [List.length_cons] at hct
  obtain ⟨x0, x1, x2, x3, x4⟩ := (H2.out.ch x hin).cells
  have HIN := hide hin
  have HXS := hide hxs
  have HQ := hide hq
  have HR := hide hring
  clear h hc1 hc2 hz1 hz2 hn1 hn2 hin hx hxs hring hq
  go_enter Try.func29, Try.ntmps29
  go_wp2_with fail
  refine (takeV_ok HR.out).mono ?_
  rintro e w3 ⟨rfl, hr3, hc3⟩
  clear x0 x1 x2 x3 x4 hw1 hw2
  have hxb := H2.out.ch x HIN.out
  have NCB : ¬ (x.cb = x.rp ∨ x.cb = x.rg) := by
    rintro (e | e)
    · have h1 := hxb.box
      rw [e, hxb.ring.box] at h1
      injection h1 with h1
      injection h1 with _ h2 _
      exact absurd h2 (by decide)
    · have h1 := hxb.box
      rw [e, hxb.ring.row] at h1
      injection h1 with h1
      injection h1 with _ h2 _
      exact absurd h2 (by decide)
  have hb3 := hc3.box hxb.box NCB
  have hcs : cs[i].mine = x.mine := by rw [HX.out]
  have htk : x.take = { x with xs := rest, f := plc x.n x.f 1, pl := x.pl.set x.f zVa } := by unfold Cn.take; rw [HXS.out]; rfl
  have H3 := hide (show CI w3 B c bp M F l (cs.set i x.take) from H2.out.upd hi (by rw [htk]; exact ⟨hb3, hr3⟩) (by rw [HX.out]; exact ⟨rfl, rfl, rfl, rfl⟩) (by rw [hcs]; exact hc3.mono (fun _ _ e => .inr e)))
  have C3 := hide hc3
  have nA3 : ¬ (w1.heap.size = x.rp ∨ w1.heap.size = x.rg) := fun e => by
    have h1 := HLT.out.1 x.rp (.inr (.inl rfl))
    have h2 := HLT.out.1 x.rg (.inr (.inr rfl))
    have h3 := HZ.out
    omega
  have N3 := hide (hc3.box HN.out nA3)
  have hin3 : x.take ∈ cs.set i x.take := List.mem_iff_getElem.2 ⟨i, by rw [List.length_set]; exact hi, by rw [List.getElem_set_self]⟩
  have HI3 := hide hin3
  have HTX := hide (show x.take.xs.length < x.take.n from by rw [htk]; show rest.length < x.n; omega)
  clear hr3 hc3 hxb hb3 hcs NCB nA3 hin3 htk
  go_wp2
  obtain ⟨w4, hw4⟩ : ∃ w4, w3.alloc (.cells #[.int .i64 v.n, .int .u32 v.s, .int .u32 v.g] 41) = w4 := ⟨_, rfl⟩
  rw [hw4]
  have hc4 : Ch (fun _ => False) w3 w4 := by rw [← hw4]; exact Ch.alloc _ _
  have hn4 : w4.heap[w3.heap.size]? = some (.cells #[.int .i64 v.n, .int .u32 v.s, .int .u32 v.g] 41 (0, 0)) := by rw [← hw4]; exact heap_new _ _
  have H4 := hide (H3.out.quiet hc4)
  have C4 := hide hc4
  have X4 := hide hn4
  have N4 := hide (hc4.box N3.out (fun h => h))
  clear hw4 hc4 hn4
  have hz := HZ.out
  have z3 := C3.out.size
  have NX : ¬ ((x.mine w3.heap.size ∨ F w3.heap.size) ∨ w3.heap.size = w1.heap.size) := fun e => by
    rcases e with (e | e) | e
    · have := HLT.out.1 _ e; omega
    · have := HLT.out.2 _ e; omega
    · omega
  have NA : ¬ (x.mine w1.heap.size ∨ F w1.heap.size) := fun e => by
    rcases e with e | e
    · have := HLT.out.1 _ e; omega
    · have := HLT.out.2 _ e; omega
  clear hz z3
  refine wp_reg (fun y => (x.mine y ∨ F y) ∨ y = w1.heap.size) (R := fun V => Ch (fun _ => False) w4 V) (by kernel_rfl) (Ch.drew _) (fun V cV zk => ?_)
  have CV := hide cV
  have HV := hide (H4.out.quiet cV)
  clear cV
  have HXX := hide (fun wq (kq : Ch (fun y => (x.mine y ∨ F y) ∨ y = w1.heap.size) V wq) => show wq.cell? ⟨w3.heap.size, 0, none⟩ = some (.int .i64 v.n) ∧ wq.cell? ⟨w3.heap.size, 1, none⟩ = some (.int .u32 v.s) ∧ wq.cell? ⟨w3.heap.size, 2, none⟩ = some (.int .u32 v.g) from by
    have e := Lib.cell_of_heap (kq.box (CV.out.box X4.out (fun h => h)) NX)
    exact ⟨by simp [e], by simp [e], by simp [e]⟩)
  apply tk 0 krc0 rfl (by kernel_rfl) (fun _ _ _ h => h) zk
  · intro wq zq
    obtain ⟨s0, s1, s2⟩ := HXX.out _ zq
    go_simp
    try rfl
  go_frame
  apply tk 1 krc1 rfl (by kernel_rfl) (fun _ _ _ h => h) zk
  · intro wq zq
    go_simp
    try rfl
  go_frame
  refine Go.Proofs.Ytbblmbbpicinlab.rd 2 krc2 rfl (by kernel_rfl) fun K hK => ?_
  go_simp
  refine (refill_some HV.out hl (by rw [List.length_set]; exact hi) (x := x.take) (by rw [List.getElem_set_self]) u1 u2 HQ.out HTX.out ur1 ur2).mono ?_
  rintro e w5 ⟨nb, F5, rfl, hnb, hw5, hi5, hc5, hd5⟩
  have C5 := hide (show Ch (fun y => x.mine y ∨ F y) V w5 from hc5)
  have Z5 := hide (zk.trans hc5 (fun _ _ h => .inl h))
  have H5 := hide hi5
  have W5 := hide (And.intro hnb (And.intro hw5 hd5))
  clear hnb hw5 hi5 hc5 hd5
  go_wp2_with fail
  refine hK.out _ _ ?_ (fun zk => ?_)
  · exact Z5.out
  clear hK K
  try go_frame
  apply tk 3 krc3 rfl (by kernel_rfl) (fun _ _ _ h => h) zk
  · intro wq zq
    go_simp
    try rfl
  go_frame
  have n5 := C5.out.box (CV.out.box N4.out (fun h => h)) NA
  have d0 : w5.cell? ⟨w1.heap.size, 0, none⟩ = some (.int .i64 0) := by simp [Lib.cell_of_heap n5]
  have d1 : w5.cell? ⟨w1.heap.size, 1, none⟩ = some (.int .i64 0) := by simp [Lib.cell_of_heap n5]
  have d2 : w5.cell? ⟨w1.heap.size, 2, none⟩ = some (.int .u32 0) := by simp [Lib.cell_of_heap n5]
  have d3 : w5.cell? ⟨w1.heap.size, 3, none⟩ = some (.int .u32 0) := by simp [Lib.cell_of_heap n5]
  have d4 : w5.cell? ⟨w1.heap.size, 4, none⟩ = some (.bool false) := by simp [Lib.cell_of_heap n5]
  have d5 : w5.cell? ⟨w1.heap.size, 5, none⟩ = some (.slice none 0 0) := by simp [Lib.cell_of_heap n5]
  have df : ∀ o, w5.frozen? ⟨w1.heap.size, o, none⟩ = false := fun o => by simp [World.frozen?, n5]
  have HS := hide (did_set n5 (.int .i64 0) (.int .i64 v.n) (.int .u32 v.s) (.int .u32 v.g) (.bool true) (.slice (some ⟨nb, 0, none⟩) 1 1))
  clear n5
  refine Go.Proofs.Ytbblmbbpicinlab.rd 4 krc4 rfl (by kernel_rfl) fun K hK => ?_
  go_simp
  refine hK.out _ _ ?_ (fun zk => ?_)
  · exact zk.trans HS.out.2 (fun y hy e => .inr e)
  clear hK K
  try go_frame
  refine wpAnyH_done (by kernel_rfl) ?_ _
  go_wp2
  have hz := HZ.out
  have c03 := (C2.out.mono (Q' := fun y => x.mine y ∨ F y) (fun _ _ h => h.elim)).trans C3.out (fun _ _ e => .inl (.inr e))
  have c05 := ((c03.trans C4.out (fun _ _ h => h.elim)).trans CV.out (fun _ _ h => h.elim)).trans C5.out (fun _ _ e => e)
  have c06 := c05.trans HS.out.2 (fun y hy e => by omega)
  have ho := H0.out.olds (A := w1.heap.size) (by omega)
  have hxs3 : ∀ z ∈ cs.set i (x.take.put (vaR r)), ¬ z.mine w1.heap.size := fun z hz2 => by
    rcases List.mem_or_eq_of_mem_set hz2 with hm | hm
    · exact ho.2.2.1 z hm
    · subst hm; exact ho.2.2.1 x HIN.out
  have hset : (cs.set i x.take).set i (x.take.put (vaR r)) = cs.set i (x.take.put (vaR r)) := by rw [List.set_set]
  have H5b := H5.out
  rw [hset] at H5b
  have zV := ((c03.trans C4.out (fun _ _ h => h.elim)).trans CV.out (fun _ _ h => h.elim)).size
  have z3 := C3.out.size
  have z4 := C4.out.size
  have z5 := CV.out.size
  have nF5 : ¬ F5 w1.heap.size := fun e => by
    rcases W5.out.2.2 _ e with e | e
    · exact ho.2.2.2 e
    · omega
  have hne : ¬ nb = w1.heap.size := fun e => by have := W5.out.1; omega
  refine bodyPost_ret (v := didV 0 v true (.slice (some ⟨nb, 0, none⟩) 1 1)) (res_recv _ w1.heap.size _ 0 v.n v.s v.g true _ rfl HS.out.1) rfl ⟨nb, F5, rfl, Nat.le_trans zV W5.out.1, HS.out.2.box W5.out.2.1 hne, H5b.away HS.out.2 ho.1 ho.2.1 hxs3 nF5, c06, fun y hy => (W5.out.2.2 y hy).imp_right fun e => Nat.le_trans zV e⟩

end Go.Proofs.Ytbblmbbpicinlab

namespace Go.Proofs.Ytbblmbbpicinlab
open Go.RowKit

abbrev kmk0 : Oper := { dst := some 25, op := Op.move (Operand.tmp 0), type := 29, pos := "chans.go:36", after := #[], guard := none }
abbrev kmk1 : Oper := { dst := some 26, op := Op.nilCheck (Operand.tmp 25), type := 0, pos := "chans.go:36", after := #[{ on := 0, ground := Ground.data }], guard := none }
abbrev kmk2 : Oper := { dst := some 27, op := Op.fieldAddr 68 (Operand.tmp 26) 1, type := 0, pos := "chans.go:36", after := #[{ on := 1, ground := Ground.data }], guard := none }
abbrev kmk3 : Oper := { dst := some 28, op := Op.load 66 (Operand.tmp 27), type := 66, pos := "chans.go:36", after := #[{ on := 2, ground := Ground.data }], guard := none }
abbrev kmk4 : Oper := { dst := some 29, op := Op.load 24 (Operand.tmp 4), type := 24, pos := "chans.go:36", after := #[], guard := none }
abbrev kmk5 : Oper := { dst := some 30, op := Op.move (Operand.tmp 0), type := 29, pos := "chans.go:36", after := #[], guard := none }
abbrev kmk6 : Oper := { dst := some 31, op := Op.nilCheck (Operand.tmp 30), type := 0, pos := "chans.go:36", after := #[{ on := 5, ground := Ground.data }], guard := none }
abbrev kmk7 : Oper := { dst := some 32, op := Op.fieldAddr 68 (Operand.tmp 31) 0, type := 0, pos := "chans.go:36", after := #[{ on := 6, ground := Ground.data }], guard := none }
abbrev kmk8 : Oper := { dst := some 33, op := Op.load 27 (Operand.tmp 32), type := 27, pos := "chans.go:36", after := #[{ on := 7, ground := Ground.data }], guard := none }
abbrev kmk9 : Oper := { dst := some 34, op := Op.load 24 (Operand.tmp 4), type := 24, pos := "chans.go:36", after := #[], guard := none }
abbrev kmk10 : Oper := { dst := some 35, op := Op.build 86 #[(0, Operand.tmp 33), (1, Operand.tmp 34)], type := 86, pos := "chans.go:36", after := #[{ on := 8, ground := Ground.data }, { on := 9, ground := Ground.data }], guard := none }
abbrev kmk11 : Oper := { dst := some 36, op := Op.move (Operand.tmp 7), type := 116, pos := "chans.go:36", after := #[], guard := none }
abbrev kmk12 : Oper := { dst := some 37, op := Op.build 120 #[(0, Operand.tmp 35), (1, Operand.tmp 36)], type := 120, pos := "chans.go:36", after := #[{ on := 10, ground := Ground.data }, { on := 11, ground := Ground.data }], guard := none }
abbrev kmk13 : Oper := { dst := some 38, op := Op.box 120 (Operand.tmp 37), type := 89, pos := "chans.go:36", after := #[{ on := 12, ground := Ground.data }], guard := none }
abbrev kmk14 : Oper := { dst := none, op := Op.mapUpdate 66 (Operand.tmp 28) (Operand.tmp 29) (Operand.tmp 38), type := 0, pos := "chans.go:36", after := #[{ on := 3, ground := Ground.data }, { on := 4, ground := Ground.data }, { on := 13, ground := Ground.data }, { on := 0, ground := Ground.phase }, { on := 1, ground := Ground.phase }, { on := 2, ground := Ground.phase }, { on := 3, ground := Ground.phase }, { on := 4, ground := Ground.phase }, { on := 5, ground := Ground.phase }, { on := 6, ground := Ground.phase }, { on := 7, ground := Ground.phase }, { on := 8, ground := Ground.phase }, { on := 9, ground := Ground.phase }, { on := 10, ground := Ground.phase }, { on := 11, ground := Ground.phase }, { on := 12, ground := Ground.phase }, { on := 13, ground := Ground.phase }], guard := none }

theorem step_putH {ops : Array Oper} {o : Oper} {a : Act} {w : World} {M n : Nat} {f : Hnd → Option Value} {x : Hnd} {v : Value} {K : Act → World → Prop} {Q : Exit → Act → World → Prop} {Z : Prop} (hg : o.guard = none) (m y u : Operand) (hop : o.op = Op.mapUpdate 66 m y u)
    (hm : a.eval m = .map (some M)) (hM : MapF hkV w M f n) (hy : a.eval y = hkV x) (hu : a.eval u = v)
    (hK : ∀ w', MapF hkV w' M (updW f x (some v)) (if (f x).isSome then n else n + 1) → Ch (fun y => y = M) w w' → K (a.put o.dst undef) w') : if Region.wanted o (yielded ops a.tmps) = true then Oper.wp Try.prog o a w K Q else Z := by
  have hw : Region.wanted o (yielded ops a.tmps) = true := by simp [Region.wanted, hg]
  rw [if_pos hw]
  obtain ⟨w', h1, h2, h3⟩ := hM.put (x := x) (ktH w) Try.underlying66 v
  unfold Oper.wp
  simp [execOp, hop, hm, hy, hu, h1, Result.andThen]
  exact hK w' h2 h3

theorem new_cis {w : World} {B bp : Nat} {F : Nat → Prop} (h : PTb w B F bp []) (hB : B ≤ w.heap.size) : Calls Try.prog 6 #[.pointer (some ⟨bp, 0, none⟩)] w fun e w' => ∃ c M, e = .returned (.tuple #[.pointer (some ⟨c, 0, none⟩), .int .i64 0]) ∧ CI w' B c bp M F [] [] ∧ Below w.heap.size w w' := by
  have hmm : ∀ (t : TypeId) (w : World), (Instr.makeMap t none).run Try.prog w = .ok (.map (some w.heap.size)) (w.alloc (.map #[] 0)) := fun _ _ => rfl
  have H := hide h
  clear h
  go_enter Try.func6, Try.ntmps6
  go_wp2
  go_ret2
  have e0 := heap_new w (.map #[] 0)
  have e1 := heap_new (w.alloc (.map #[] 0)) (.cells #[.pointer (some ⟨bp, 0, none⟩), .map (some w.heap.size)] 68)
  have hb : Below w.heap.size w ((w.alloc (.map #[] 0)).alloc (.cells #[.pointer (some ⟨bp, 0, none⟩), .map (some w.heap.size)] 68)) := (below1 _ _).trans ((below1 _ _).mono (by rw [World.size_alloc]; exact Nat.le_succ _))
  rw [World.size_alloc] at e1
  refine ⟨w.heap.size + 1, w.heap.size, rfl, ⟨e1, ?_, face.ch H.out (Ch.of_below (Q := fun _ => False) hb) (fun _ _ h => h), fun x hx => (by cases hx), List.Pairwise.nil, List.Pairwise.nil, fun y hy => ?_, ⟨by omega, hB, fun x hx => (by cases hx)⟩, Nat.le_trans hB hb.size⟩, hb⟩
  · exact ⟨[], ⟨#[], 0, (Ch.alloc (Q := fun _ => False) _ _).box e0 (fun h => h), rfl⟩, by simp, fun _ => rfl, rfl⟩
  · have := (face.foot H.out y hy).2
    exact ⟨by omega, by omega, fun x hx => (by cases hx)⟩

set_option maxRecDepth 100000 in
set_option maxHeartbeats 8000000 in
theorem make_ok {w : World} {B c bp M : Nat} {F : Nat → Prop} {l : List Wt} {cs : List Cn} (h : CI w B c bp M F l cs) {x : Hnd} (hnn : nnH x = false) {m : Int} {n : Nat} (hm : m = n) (hn : n ≤ 100) (hf : fnc cs x = none) :
    Calls Try.prog 22 #[.pointer (some ⟨c, 0, none⟩), hkV x, .int .i64 m] w fun e w' => ∃ z : Cn, e = .returned (.int .i64 0) ∧ CI w' B c bp M F l (cs ++ [z]) ∧ (z.h = x ∧ z.n = n ∧ z.xs = [] ∧ z.cl = false) ∧ Ch (fun y => y = M) w w' := by
  subst hm
  obtain ⟨w1, hw1⟩ : ∃ w1, w.alloc (.cells #[.int .u32 x.1, .int .u32 x.2] 24) = w1 := ⟨_, rfl⟩
  have hc1 : Ch (fun _ => False) w w1 := by rw [← hw1]; exact Ch.alloc _ _
  have hn1 : w1.heap[w.heap.size]? = some (.cells #[.int .u32 x.1, .int .u32 x.2] 24 (0, 0)) := by rw [← hw1]; exact heap_new _ _
  have HX := hide (fun V (cV : Ch (fun _ => False) w1 V) => show (V.cell? ⟨w.heap.size, 0, none⟩ = some (.int .u32 x.1) ∧ V.cell? ⟨w.heap.size, 1, none⟩ = some (.int .u32 x.2)) from by
    have e1 := Lib.cell_of_heap (cV.box hn1 (fun h => h))
    exact ⟨by simp [e1], by simp [e1]⟩)
  have N1 := hide hn1
  have C1 := hide hc1
  have H0 := hide h
  have H1 := hide (h.quiet hc1)
  have hni : (decide (x.1 = 0) && decide (x.2 = 0)) = false := hnn
  have HNI := hide (isNone_is w1 x.1 x.2)
  rw [hni] at HNI
  have HFN := hide hf
  obtain ⟨s0, s1⟩ := HX.out w1 (Ch.refl _ _)
  clear h hc1 hn1 hnn hni hf
  go_enter Try.func22, Try.ntmps22
  go_wp2_with fail
  refine HNI.out.mono ?_
  rintro e w2 ⟨rfl, hb2⟩
  have C2 := hide (Ch.of_below (Q := fun _ => False) hb2)
  clear hb2 hw1 s0 s1 HNI
  go_wp2_with fail
  refine (newV_is w2 n n rfl hn).mono ?_
  rintro e w3 ⟨rp, rg, rfl, hr3, hp3, hg3, hb3⟩
  have C3 := hide (C2.out.trans (Ch.of_below (Q := fun _ => False) hb3) (fun _ _ h => h))
  have R3 := hide hr3
  have P3 := hide (And.intro hp3 hg3)
  clear hr3 hp3 hg3 hb3
  obtain ⟨s0, s1⟩ := HX.out w3 C3.out
  have HAS := hide (has_cis (H1.out.quiet C3.out) x)
  rw [HFN.out] at HAS
  go_wp2_with fail
  refine HAS.out.mono ?_
  rintro e w4 ⟨rfl, hb4⟩
  have C34 := hide (Ch.of_below (Q := fun _ => False) hb4)
  have C4 := hide (C3.out.trans C34.out (fun _ _ h => h))
  have hos : (none : Option Cn).isSome = false := rfl
  rw [hos]
  clear hb4 s0 s1 HAS hos
  go_wp2
  have NMc : ¬ c = M := H1.out.ne
  have NMb : ¬ w.heap.size = M := fun e => by have := H0.out.mp.lt; omega
  refine wp_reg (fun y => y = M) (R := fun V => Ch (fun _ => False) w4 V) (by kernel_rfl) (Ch.drew _) (fun V cV zk => ?_)
  have C4V := hide cV
  have CV := hide (C4.out.trans cV (fun _ _ h => h))
  have HV := hide (H1.out.quiet CV.out)
  clear cV
  have HXX := hide (fun wq (kq : Ch (fun y => y = M) V wq) => show (wq.cell? ⟨c, 0, none⟩ = some (.pointer (some ⟨bp, 0, none⟩)) ∧ wq.cell? ⟨c, 1, none⟩ = some (.map (some M))) ∧ wq.cell? ⟨w.heap.size, 0, none⟩ = some (.int .u32 x.1) ∧ wq.cell? ⟨w.heap.size, 1, none⟩ = some (.int .u32 x.2) from by
    have e0 := Lib.cell_of_heap (kq.box HV.out.box NMc)
    have e1 := Lib.cell_of_heap (kq.box (CV.out.box N1.out (fun h => h)) NMb)
    exact ⟨⟨by simp [e0], by simp [e0]⟩, by simp [e1], by simp [e1]⟩)
  apply tk 0 kmk0 rfl (by kernel_rfl) (fun _ _ _ h => h) zk
  · intro wq zq
    go_simp
    try rfl
  go_frame
  apply tk 1 kmk1 rfl (by kernel_rfl) (fun _ _ _ h => h) zk
  · intro wq zq
    go_simp
    try rfl
  go_frame
  apply tk 2 kmk2 rfl (by kernel_rfl) (fun _ _ _ h => h) zk
  · intro wq zq
    go_simp
    try rfl
  go_frame
  apply tk 3 kmk3 rfl (by kernel_rfl) (fun _ _ _ h => h) zk
  · intro wq zq
    obtain ⟨⟨s0, s1⟩, s2, s3⟩ := HXX.out _ zq
    go_simp
    try rfl
  go_frame
  apply tk 4 kmk4 rfl (by kernel_rfl) (fun _ _ _ h => h) zk
  · intro wq zq
    obtain ⟨⟨s0, s1⟩, s2, s3⟩ := HXX.out _ zq
    go_simp
    try rfl
  go_frame
  apply tk 5 kmk5 rfl (by kernel_rfl) (fun _ _ _ h => h) zk
  · intro wq zq
    go_simp
    try rfl
  go_frame
  apply tk 6 kmk6 rfl (by kernel_rfl) (fun _ _ _ h => h) zk
  · intro wq zq
    go_simp
    try rfl
  go_frame
  apply tk 7 kmk7 rfl (by kernel_rfl) (fun _ _ _ h => h) zk
  · intro wq zq
    go_simp
    try rfl
  go_frame
  apply tk 8 kmk8 rfl (by kernel_rfl) (fun _ _ _ h => h) zk
  · intro wq zq
    obtain ⟨⟨s0, s1⟩, s2, s3⟩ := HXX.out _ zq
    go_simp
    try rfl
  go_frame
  apply tk 9 kmk9 rfl (by kernel_rfl) (fun _ _ _ h => h) zk
  · intro wq zq
    obtain ⟨⟨s0, s1⟩, s2, s3⟩ := HXX.out _ zq
    go_simp
    try rfl
  go_frame
  apply tk 10 kmk10 rfl (by kernel_rfl) (fun _ _ _ h => h) zk
  · intro wq zq
    go_simp
    try rfl
  go_frame
  apply tk 11 kmk11 rfl (by kernel_rfl) (fun _ _ _ h => h) zk
  · intro wq zq
    go_simp
    try rfl
  go_frame
  apply tk 12 kmk12 rfl (by kernel_rfl) (fun _ _ _ h => h) zk
  · intro wq zq
    go_simp
    try rfl
  go_frame
  refine Go.Proofs.Ytbblmbbpicinlab.rd 13 kmk13 rfl (by kernel_rfl) fun K hK => ?_
  go_simp
  refine hK.out _ _ ?_ (fun zk => ?_)
  · exact zk.trans (Ch.alloc (Q := fun y => y = M) _ _) (fun _ _ h => h)
  clear hK K
  try go_frame
  have hn5 := heap_new V (.cells #[.pointer (some ⟨bp, 0, none⟩), .int .u32 x.1, .int .u32 x.2, .pointer (some ⟨rp, 0, none⟩), .bool false] 120)
  have hc5 := Ch.alloc (Q := fun _ => False) V (.cells #[.pointer (some ⟨bp, 0, none⟩), .int .u32 x.1, .int .u32 x.2, .pointer (some ⟨rp, 0, none⟩), .bool false] 120)
  generalize V.alloc (.cells #[.pointer (some ⟨bp, 0, none⟩), .int .u32 x.1, .int .u32 x.2, .pointer (some ⟨rp, 0, none⟩), .bool false] 120) = w5 at hn5 hc5 zk ⊢
  have M5 := hide (HV.out.mp.ch hc5 (fun h => h))
  have N5 := hide hn5
  have C5 := hide hc5
  clear hn5 hc5
  refine Go.Proofs.Ytbblmbbpicinlab.rd 14 kmk14 rfl (by kernel_rfl) fun K hK => ?_
  refine step_putH (x := x) (v := .pointer (some ⟨V.heap.size, 0, none⟩)) rfl (.tmp 28) (.tmp 29) (.tmp 38) rfl rfl M5.out rfl rfl ?_
  intro w6 hm6 hc6
  have M6 := hide hm6
  have C6 := hide hc6
  have Z6 := hide (zk.trans hc6 (fun _ _ h => h))
  clear hm6 hc6
  refine hK.out _ _ ?_ (fun zk => ?_)
  · exact Z6.out
  clear hK K
  try go_frame
  refine wpAnyH_done (by kernel_rfl) ?_ _
  go_wp2
  go_ret
  have z1 := C1.out.size
  have z2 := C2.out.size
  have z4 := CV.out.size
  have z5 := C5.out.size
  have hp3 := P3.out
  have c06 := (((C1.out.trans CV.out (fun _ _ h => h)).trans C5.out (fun _ _ h => h)).mono (Q' := fun y => y = M) (fun _ _ h => h.elim)).trans C6.out (fun _ _ h => h)
  have hMl := H0.out.mp.lt
  refine ⟨⟨x, V.heap.size, rp, rg, n, 0, List.replicate n zVa, [], false⟩, rfl, ⟨c06.box H0.out.box NMc, ?_, face.ch H0.out.bk c06 (fun y hy e => (H0.out.far y hy).2.1 e), fun z hz => ?_, ?_, ?_, fun y hy => ⟨(H0.out.far y hy).1, (H0.out.far y hy).2.1, fun z hz hm => ?_⟩, ⟨H0.out.lo.1, H0.out.lo.2.1, fun z hz y hy => ?_⟩, Nat.le_trans H0.out.low c06.size⟩, ⟨rfl, rfl, rfl, rfl⟩, c06⟩
  · have hm := M6.out
    rw [show ((fnc cs x).map fun z => Value.pointer (some ⟨z.cb, 0, none⟩)).isSome = false by rw [HFN.out]; rfl] at hm
    rw [List.length_append, List.length_singleton]
    have hfe : (fun k => (fnc (cs ++ [(⟨x, V.heap.size, rp, rg, n, 0, List.replicate n zVa, [], false⟩ : Cn)]) k).map fun z => Value.pointer (some ⟨z.cb, 0, none⟩)) = updW (fun k => (fnc cs k).map fun z => Value.pointer (some ⟨z.cb, 0, none⟩)) x (some (.pointer (some ⟨V.heap.size, 0, none⟩))) := by
      funext k
      unfold updW
      unfold fnc
      rw [List.find?_append]
      by_cases hk : k = x
      · subst hk
        have := HFN.out
        unfold fnc at this
        rw [this]
        simp
      · rw [if_neg hk]
        show Option.map _ ((cs.find? fun z => decide (z.h = k)).or _) = Option.map _ (cs.find? fun z => decide (z.h = k))
        cases cs.find? fun z => decide (z.h = k) with
        | some z => rfl
        | none => simp [Ne.symm hk]
    rw [hfe]
    exact hm
  · rcases List.mem_append.1 hz with hz | hz
    · exact (H0.out.ch z hz).ch c06 (fun y hy e => (H0.out.sep z hz y hy).2 e)
    · rw [List.mem_singleton.1 hz]
      exact ⟨C6.out.box N5.out (fun e => by have e : V.heap.size = M := e; omega), ((R3.out.quiet (C34.out.trans C4V.out (fun _ _ h => h))).quiet C5.out).ch C6.out (fun e => by have e : rp = M := e; omega) (fun e => by have e : rg = M := e; omega)⟩
  · refine List.pairwise_append.2 ⟨H0.out.ap, List.pairwise_singleton _ _, fun a ha b hb y hy hy2 => ?_⟩
    rw [List.mem_singleton.1 hb] at hy2
    have := (H0.out.ch a ha).lt y hy
    rcases hy2 with e | e | e
    · simp only at e; omega
    · simp only at e; omega
    · simp only at e; omega
  · refine List.pairwise_append.2 ⟨H0.out.nd, List.pairwise_singleton _ _, fun a ha b hb e => ?_⟩
    rw [List.mem_singleton.1 hb] at e
    have hfn := HFN.out
    unfold fnc at hfn
    have := List.find?_eq_none.1 hfn a ha
    simp at this
    exact this e
  · rcases List.mem_append.1 hz with hz | hz
    · exact (H0.out.far y hy).2.2 z hz hm
    · rw [List.mem_singleton.1 hz] at hm
      have := (face.foot H0.out.bk y hy).2
      rcases hm with e | e | e
      · simp only at e; omega
      · simp only at e; omega
      · simp only at e; omega
  · rcases List.mem_append.1 hz with hz | hz
    · exact H0.out.lo.2.2 z hz y hy
    · rw [List.mem_singleton.1 hz] at hy
      have := H0.out.low
      rcases hy with e | e | e
      · simp only at e; omega
      · simp only at e; omega
      · simp only at e; omega

end Go.Proofs.Ytbblmbbpicinlab

namespace Go.Proofs.Ytbblmbbpicinlab
open Go.RowKit

abbrev kse0 : Oper := { dst := some 26, op := Op.move (Operand.tmp 0), type := 29, pos := "chans.go:67", after := #[], guard := none }
abbrev kse1 : Oper := { dst := some 27, op := Op.load 24 (Operand.tmp 6), type := 24, pos := "chans.go:67", after := #[], guard := none }
abbrev kse2 : Oper := { dst := some 28, op := Op.call { callee := Callee.value (Operand.func 28), args := #[Operand.tmp 26, Operand.tmp 27], argTypes := #[29, 24] }, type := 89, pos := "chans.go:67", after := #[{ on := 0, ground := Ground.data }, { on := 1, ground := Ground.data }], guard := none }
abbrev kse3 : Oper := { dst := some 29, op := Op.load 24 (Operand.tmp 5), type := 24, pos := "chans.go:67", after := #[], guard := none }
abbrev kse4 : Oper := { dst := some 30, op := Op.load 41 (Operand.tmp 7), type := 41, pos := "chans.go:67", after := #[], guard := none }
abbrev kse5 : Oper := { dst := some 31, op := Op.call { callee := Callee.value (Operand.func 35), args := #[Operand.tmp 28, Operand.tmp 29, Operand.tmp 30], argTypes := #[89, 24, 41] }, type := 44, pos := "chans.go:67", after := #[{ on := 2, ground := Ground.data }, { on := 3, ground := Ground.data }, { on := 4, ground := Ground.data }, { on := 2, ground := Ground.chain }], guard := none }
abbrev kse6 : Oper := { dst := none, op := Op.store 44 (Operand.tmp 8) (Operand.tmp 31), type := 0, pos := "chans.go:67", after := #[{ on := 5, ground := Ground.data }, { on := 5, ground := Ground.chain }, { on := 0, ground := Ground.phase }, { on := 1, ground := Ground.phase }, { on := 2, ground := Ground.phase }, { on := 3, ground := Ground.phase }, { on := 4, ground := Ground.phase }, { on := 5, ground := Ground.phase }], guard := none }
abbrev kse7 : Oper := { dst := some 9, op := Op.assign (Operand.const (Value.int IntKind.i64 0)), type := 30, pos := "chans.go:67", after := #[{ on := 6, ground := Ground.chain }, { on := 0, ground := Ground.phase }, { on := 1, ground := Ground.phase }, { on := 2, ground := Ground.phase }, { on := 3, ground := Ground.phase }, { on := 4, ground := Ground.phase }, { on := 5, ground := Ground.phase }, { on := 6, ground := Ground.phase }], guard := none }

theorem res_Send (tm : Array Value) (A : Nat) (Z : World) (fate n a b : Int) (ok : Bool) (wk : Value) (q : Int) (h2 : tm[8]?.getD undef = .pointer (some ⟨A, 0, none⟩)) (h3 : tm[9]?.getD undef = .int .i64 q) (hb : Z.heap[A]? = some (.cells #[.int .i64 fate, .int .i64 n, .int .u32 a, .int .u32 b, .bool ok, wk] 44 (0, 0))) :
    (results Try.f19 tm).run Try.prog Z = .ok (.tuple #[didV fate ⟨n, a, b⟩ ok wk, .int .i64 q]) Z := by
  have e := Lib.cell_of_heap hb
  simp [results, Try.f19, h2, h3, go_sem, e]

set_option maxRecDepth 100000 in
set_option maxHeartbeats 8000000 in
theorem send_via {w : World} {B c bp M : Nat} {F : Nat → Prop} {l : List Wt} {cs : List Cn} (h : CI w B c bp M F l cs) (hl : l.length ≤ 100000) {g x : Hnd} {v : Va} (u1 : UsW g.1) (u2 : UsW g.2) (hrf : rfE l cs g x = 0) (hnn : nnH x = false) {y : Cn} (hy : fnc cs x = some y) {Qs : Nat → Prop} (hQ : ∀ z, Qs z → z < w.heap.size) {R : Int → Va → Bool → Option Addr → Nat → Nat → World → World → Prop}
    (hs : ∀ V, Ch (fun _ => False) w V → Calls Try.prog 35 #[.pointer (some ⟨y.cb, 0, none⟩), hkV g, vaV v] V fun e w' => ∃ f u ok sa sn sc, e = .returned (didV f u ok (.slice sa sn sc)) ∧ R f u ok sa sn sc V w' ∧ Ch Qs V w') :
    Calls Try.prog 19 #[.pointer (some ⟨c, 0, none⟩), hkV g, hkV x, vaV v] w fun e w' => ∃ f u ok sa sn sc V w6 A, e = .returned (.tuple #[didV f u ok (.slice sa sn sc), .int .i64 0]) ∧ R f u ok sa sn sc V w6 ∧ Ch (fun _ => False) w V ∧ w.heap.size ≤ A ∧ A < V.heap.size ∧ Ch (fun z => z = A) w6 w' ∧ Ch Qs w w' := by
  obtain ⟨w1, hw1⟩ : ∃ w1, w.alloc (.cells #[.int .u32 g.1, .int .u32 g.2] 24) = w1 := ⟨_, rfl⟩
  have hc1 : Ch (fun _ => False) w w1 := by rw [← hw1]; exact Ch.alloc _ _
  have hz1 : w1.heap.size = w.heap.size + 1 := by rw [← hw1, World.size_alloc]
  have hn1 : w1.heap[w.heap.size]? = some (.cells #[.int .u32 g.1, .int .u32 g.2] 24 (0, 0)) := by rw [← hw1]; exact heap_new _ _
  obtain ⟨w2, hw2⟩ : ∃ w2, w1.alloc (.cells #[.int .u32 x.1, .int .u32 x.2] 24) = w2 := ⟨_, rfl⟩
  have hc2 : Ch (fun _ => False) w1 w2 := by rw [← hw2]; exact Ch.alloc _ _
  have hz2 : w2.heap.size = w1.heap.size + 1 := by rw [← hw2, World.size_alloc]
  have hn2 : w2.heap[w1.heap.size]? = some (.cells #[.int .u32 x.1, .int .u32 x.2] 24 (0, 0)) := by rw [← hw2]; exact heap_new _ _
  replace hn1 := hc2.box hn1 (fun h => h)
  obtain ⟨w3, hw3⟩ : ∃ w3, w2.alloc (.cells #[.int .i64 v.n, .int .u32 v.s, .int .u32 v.g] 41) = w3 := ⟨_, rfl⟩
  have hc3 : Ch (fun _ => False) w2 w3 := by rw [← hw3]; exact Ch.alloc _ _
  have hz3 : w3.heap.size = w2.heap.size + 1 := by rw [← hw3, World.size_alloc]
  have hn3 : w3.heap[w2.heap.size]? = some (.cells #[.int .i64 v.n, .int .u32 v.s, .int .u32 v.g] 41 (0, 0)) := by rw [← hw3]; exact heap_new _ _
  replace hn1 := hc3.box hn1 (fun h => h)
  replace hn2 := hc3.box hn2 (fun h => h)
  obtain ⟨w4, hw4⟩ : ∃ w4, w3.alloc (.cells #[.int .i64 0, .int .i64 0, .int .u32 0, .int .u32 0, .bool false, .slice none 0 0] 44) = w4 := ⟨_, rfl⟩
  have hc4 : Ch (fun _ => False) w3 w4 := by rw [← hw4]; exact Ch.alloc _ _
  have hz4 : w4.heap.size = w3.heap.size + 1 := by rw [← hw4, World.size_alloc]
  have hn4 : w4.heap[w3.heap.size]? = some (.cells #[.int .i64 0, .int .i64 0, .int .u32 0, .int .u32 0, .bool false, .slice none 0 0] 44 (0, 0)) := by rw [← hw4]; exact heap_new _ _
  replace hn1 := hc4.box hn1 (fun h => h)
  replace hn2 := hc4.box hn2 (fun h => h)
  replace hn3 := hc4.box hn3 (fun h => h)
  have CB := hide (((hc1.trans hc2 (fun _ _ h => h)).trans hc3 (fun _ _ h => h)).trans hc4 (fun _ _ h => h))
  have HZ := hide (And.intro hz1 (And.intro hz2 (And.intro hz3 hz4)))
  have HNS := hide (And.intro hn1 (And.intro hn2 (And.intro hn3 hn4)))
  have HQA := hide (show (∀ z, Qs z → z < w.heap.size) from hQ)
  have HX := hide (fun V (cV : Ch (fun z => Qs z ∨ z = w3.heap.size) w4 V) => show (V.cell? ⟨w.heap.size, 0, none⟩ = some (.int .u32 g.1) ∧ V.cell? ⟨w.heap.size, 1, none⟩ = some (.int .u32 g.2)) ∧ (V.cell? ⟨w1.heap.size, 0, none⟩ = some (.int .u32 x.1) ∧ V.cell? ⟨w1.heap.size, 1, none⟩ = some (.int .u32 x.2)) ∧ (V.cell? ⟨w2.heap.size, 0, none⟩ = some (.int .i64 v.n) ∧ V.cell? ⟨w2.heap.size, 1, none⟩ = some (.int .u32 v.s) ∧ V.cell? ⟨w2.heap.size, 2, none⟩ = some (.int .u32 v.g)) from by
    have hz := HZ.out
    have nq : ∀ z, (w.heap.size ≤ z ∧ z < w3.heap.size) → ¬ (Qs z ∨ z = w3.heap.size) := fun z hz2 e => by
      rcases e with e | e
      · have := HQA.out z e; omega
      · omega
    have e1 := Lib.cell_of_heap (cV.box HNS.out.1 (nq w.heap.size (by omega)))
    have e2 := Lib.cell_of_heap (cV.box HNS.out.2.1 (nq w1.heap.size (by omega)))
    have e3 := Lib.cell_of_heap (cV.box HNS.out.2.2.1 (nq w2.heap.size (by omega)))
    exact ⟨⟨by simp [e1], by simp [e1]⟩, ⟨by simp [e2], by simp [e2]⟩, by simp [e3], by simp [e3], by simp [e3]⟩)
  have H := hide (h.quiet CB.out)
  have HRF := hide (refuse_cis H.out hl g x u1 u2)
  rw [hrf] at HRF
  have HY := hide hy
  have hni : (decide (x.1 = 0) && decide (x.2 = 0)) = false := hnn
  have HNI := hide hni
  obtain ⟨⟨s0, s1⟩, ⟨s2, s3⟩, s4, s5, s6⟩ := HX.out w4 (Ch.refl _ _)
  clear h hc1 hz1 hn1 hc2 hz2 hn2 hc3 hz3 hn3 hc4 hz4 hn4 hrf hy hni hnn hQ u1 u2
  go_enter Try.func19, Try.ntmps19
  go_wp2_with fail
  refine HRF.out.mono ?_
  rintro e wa ⟨rfl, hba⟩
  have CA := hide (Ch.of_below (Q := fun _ => False) hba)
  clear hba s0 s1 s2 s3 s4 s5 s6 HRF hw1 hw2 hw3 hw4
  obtain ⟨-, ⟨s2, s3⟩, -⟩ := HX.out wa (CA.out.mono (fun _ _ h => h.elim))
  go_wp2_with fail
  refine (isNone_is wa x.1 x.2).mono ?_
  rintro e wb ⟨rfl, hbb⟩
  have CC := hide (CA.out.trans (Ch.of_below (Q := fun _ => False) hbb) (fun _ _ h => h))
  clear hbb s2 s3
  rw [HNI.out]
  go_wp2
  refine wp_reg (fun z => Qs z ∨ z = w3.heap.size) (R := fun V => Ch (fun _ => False) wb V) (by kernel_rfl) (Ch.drew _) (fun V cV zk => ?_)
  have CV := hide (CC.out.trans cV (fun _ _ h => h))
  clear cV
  have HXV := hide (fun wq (kq : Ch (fun z => Qs z ∨ z = w3.heap.size) V wq) => HX.out wq ((CV.out.mono (Q' := fun z => Qs z ∨ z = w3.heap.size) (fun _ _ h => h.elim)).trans kq (fun _ _ h => h)))
  apply tk 0 kse0 rfl (by kernel_rfl) (fun _ _ _ h => h) zk
  · intro wq zq
    go_simp
    try rfl
  go_frame
  apply tk 1 kse1 rfl (by kernel_rfl) (fun _ _ _ h => h) zk
  · intro wq zq
    obtain ⟨⟨s0, s1⟩, ⟨s2, s3⟩, s4, s5, s6⟩ := HXV.out _ zq
    go_simp
    try rfl
  go_frame
  apply tk 3 kse3 rfl (by kernel_rfl) (fun _ _ _ h => h) zk
  · intro wq zq
    obtain ⟨⟨s0, s1⟩, ⟨s2, s3⟩, s4, s5, s6⟩ := HXV.out _ zq
    go_simp
    try rfl
  go_frame
  apply tk 4 kse4 rfl (by kernel_rfl) (fun _ _ _ h => h) zk
  · intro wq zq
    obtain ⟨⟨s0, s1⟩, ⟨s2, s3⟩, s4, s5, s6⟩ := HXV.out _ zq
    go_simp
    try rfl
  go_frame
  refine Go.Proofs.Ytbblmbbpicinlab.rd 2 kse2 rfl (by kernel_rfl) fun K hK => ?_
  go_simp
  refine (at_cis (H.out.quiet CV.out) x).mono ?_
  rintro e wc ⟨rfl, hbc⟩
  have CD := hide (CV.out.trans (Ch.of_below hbc) (fun _ _ h => h))
  have Z2 := hide (zk.trans (Ch.of_below (Q := fun z => Qs z ∨ z = w3.heap.size) hbc) (fun _ _ h => h))
  clear hbc
  rw [HY.out, cp_some]
  go_wp2_with fail
  refine hK.out _ _ ?_ (fun zk => ?_)
  · exact Z2.out
  clear hK K
  try go_frame
  refine Go.Proofs.Ytbblmbbpicinlab.rd 5 kse5 rfl (by kernel_rfl) fun K hK => ?_
  go_simp
  refine (hs wc (CB.out.trans CD.out (fun _ _ h => h))).mono ?_
  rintro e wd ⟨f, u, ok, sa, sn, sc, rfl, hR, hcd⟩
  have HR := hide hR
  have CE := hide hcd
  have Z3 := hide (zk.trans hcd (fun _ _ h => .inl h))
  clear hR hcd
  go_wp2_with fail
  refine hK.out _ _ ?_ (fun zk => ?_)
  · exact Z3.out
  clear hK K
  try go_frame
  have hz := HZ.out
  have nd := CE.out.box (CD.out.box HNS.out.2.2.2 (fun h => h)) (fun e => by have := HQA.out _ e; omega)
  have d0 : wd.cell? ⟨w3.heap.size, 0, none⟩ = some (.int .i64 0) := by simp [Lib.cell_of_heap nd]
  have d1 : wd.cell? ⟨w3.heap.size, 1, none⟩ = some (.int .i64 0) := by simp [Lib.cell_of_heap nd]
  have d2 : wd.cell? ⟨w3.heap.size, 2, none⟩ = some (.int .u32 0) := by simp [Lib.cell_of_heap nd]
  have d3 : wd.cell? ⟨w3.heap.size, 3, none⟩ = some (.int .u32 0) := by simp [Lib.cell_of_heap nd]
  have d4 : wd.cell? ⟨w3.heap.size, 4, none⟩ = some (.bool false) := by simp [Lib.cell_of_heap nd]
  have d5 : wd.cell? ⟨w3.heap.size, 5, none⟩ = some (.slice none 0 0) := by simp [Lib.cell_of_heap nd]
  have df : ∀ o, wd.frozen? ⟨w3.heap.size, o, none⟩ = false := fun o => by simp [World.frozen?, nd]
  have HS := hide (did_set nd (.int .i64 f) (.int .i64 u.n) (.int .u32 u.s) (.int .u32 u.g) (.bool ok) (.slice sa sn sc))
  clear nd hz
  refine Go.Proofs.Ytbblmbbpicinlab.rd 6 kse6 rfl (by kernel_rfl) fun K hK => ?_
  go_simp
  refine hK.out _ _ ?_ (fun zk => ?_)
  · exact zk.trans HS.out.2 (fun _ _ e => .inr e)
  clear hK K
  try go_frame
  apply tk 7 kse7 rfl (by kernel_rfl) (fun _ _ _ h => h) zk
  · intro wq zq
    go_simp
    try rfl
  go_frame
  refine wpAnyH_done (by kernel_rfl) ?_ _
  go_wp2
  have hz := HZ.out
  have zd := CD.out.size
  refine bodyPost_ret (v := .tuple #[didV f u ok (.slice sa sn sc), .int .i64 0]) (res_Send _ w3.heap.size _ f u.n u.s u.g ok _ 0 rfl rfl HS.out.1) rfl ⟨f, u, ok, sa, sn, sc, wc, wd, w3.heap.size, rfl, HR.out, CB.out.trans CD.out (fun _ _ h => h), by omega, by omega, HS.out.2, ?_⟩
  exact (((CB.out.trans CD.out (fun _ _ h => h)).mono (Q' := Qs) (fun _ _ h => h.elim)).trans CE.out (fun _ _ h => h)).trans HS.out.2 (fun z hz2 e => by omega)

abbrev krv0 : Oper := { dst := some 24, op := Op.move (Operand.tmp 0), type := 29, pos := "chans.go:78", after := #[], guard := none }
abbrev krv1 : Oper := { dst := some 25, op := Op.load 24 (Operand.tmp 5), type := 24, pos := "chans.go:78", after := #[], guard := none }
abbrev krv2 : Oper := { dst := some 26, op := Op.call { callee := Callee.value (Operand.func 28), args := #[Operand.tmp 24, Operand.tmp 25], argTypes := #[29, 24] }, type := 89, pos := "chans.go:78", after := #[{ on := 0, ground := Ground.data }, { on := 1, ground := Ground.data }], guard := none }
abbrev krv3 : Oper := { dst := some 27, op := Op.load 24 (Operand.tmp 4), type := 24, pos := "chans.go:78", after := #[], guard := none }
abbrev krv4 : Oper := { dst := some 28, op := Op.call { callee := Callee.value (Operand.func 29), args := #[Operand.tmp 26, Operand.tmp 27], argTypes := #[89, 24] }, type := 44, pos := "chans.go:78", after := #[{ on := 2, ground := Ground.data }, { on := 3, ground := Ground.data }, { on := 2, ground := Ground.chain }], guard := none }
abbrev krv5 : Oper := { dst := none, op := Op.store 44 (Operand.tmp 6) (Operand.tmp 28), type := 0, pos := "chans.go:78", after := #[{ on := 4, ground := Ground.data }, { on := 4, ground := Ground.chain }, { on := 0, ground := Ground.phase }, { on := 1, ground := Ground.phase }, { on := 2, ground := Ground.phase }, { on := 3, ground := Ground.phase }, { on := 4, ground := Ground.phase }], guard := none }
abbrev krv6 : Oper := { dst := some 7, op := Op.assign (Operand.const (Value.int IntKind.i64 0)), type := 30, pos := "chans.go:78", after := #[{ on := 5, ground := Ground.chain }, { on := 0, ground := Ground.phase }, { on := 1, ground := Ground.phase }, { on := 2, ground := Ground.phase }, { on := 3, ground := Ground.phase }, { on := 4, ground := Ground.phase }, { on := 5, ground := Ground.phase }], guard := none }

theorem res_Recv (tm : Array Value) (A : Nat) (Z : World) (fate n a b : Int) (ok : Bool) (wk : Value) (q : Int) (h2 : tm[6]?.getD undef = .pointer (some ⟨A, 0, none⟩)) (h3 : tm[7]?.getD undef = .int .i64 q) (hb : Z.heap[A]? = some (.cells #[.int .i64 fate, .int .i64 n, .int .u32 a, .int .u32 b, .bool ok, wk] 44 (0, 0))) :
    (results Try.f14 tm).run Try.prog Z = .ok (.tuple #[didV fate ⟨n, a, b⟩ ok wk, .int .i64 q]) Z := by
  have e := Lib.cell_of_heap hb
  simp [results, Try.f14, h2, h3, go_sem, e]

set_option maxRecDepth 100000 in
set_option maxHeartbeats 8000000 in
theorem recv_via {w : World} {B c bp M : Nat} {F : Nat → Prop} {l : List Wt} {cs : List Cn} (h : CI w B c bp M F l cs) (hl : l.length ≤ 100000) {g x : Hnd} (u1 : UsW g.1) (u2 : UsW g.2) (hrf : rfE l cs g x = 0) (hnn : nnH x = false) {y : Cn} (hy : fnc cs x = some y) {Qs : Nat → Prop} (hQ : ∀ z, Qs z → z < w.heap.size) {R : Int → Va → Bool → Option Addr → Nat → Nat → World → World → Prop}
    (hs : ∀ V, Ch (fun _ => False) w V → Calls Try.prog 29 #[.pointer (some ⟨y.cb, 0, none⟩), hkV g] V fun e w' => ∃ f u ok sa sn sc, e = .returned (didV f u ok (.slice sa sn sc)) ∧ R f u ok sa sn sc V w' ∧ Ch Qs V w') :
    Calls Try.prog 14 #[.pointer (some ⟨c, 0, none⟩), hkV g, hkV x] w fun e w' => ∃ f u ok sa sn sc V w6 A, e = .returned (.tuple #[didV f u ok (.slice sa sn sc), .int .i64 0]) ∧ R f u ok sa sn sc V w6 ∧ Ch (fun _ => False) w V ∧ w.heap.size ≤ A ∧ A < V.heap.size ∧ Ch (fun z => z = A) w6 w' ∧ Ch Qs w w' := by
  obtain ⟨w1, hw1⟩ : ∃ w1, w.alloc (.cells #[.int .u32 g.1, .int .u32 g.2] 24) = w1 := ⟨_, rfl⟩
  have hc1 : Ch (fun _ => False) w w1 := by rw [← hw1]; exact Ch.alloc _ _
  have hz1 : w1.heap.size = w.heap.size + 1 := by rw [← hw1, World.size_alloc]
  have hn1 : w1.heap[w.heap.size]? = some (.cells #[.int .u32 g.1, .int .u32 g.2] 24 (0, 0)) := by rw [← hw1]; exact heap_new _ _
  obtain ⟨w2, hw2⟩ : ∃ w2, w1.alloc (.cells #[.int .u32 x.1, .int .u32 x.2] 24) = w2 := ⟨_, rfl⟩
  have hc2 : Ch (fun _ => False) w1 w2 := by rw [← hw2]; exact Ch.alloc _ _
  have hz2 : w2.heap.size = w1.heap.size + 1 := by rw [← hw2, World.size_alloc]
  have hn2 : w2.heap[w1.heap.size]? = some (.cells #[.int .u32 x.1, .int .u32 x.2] 24 (0, 0)) := by rw [← hw2]; exact heap_new _ _
  replace hn1 := hc2.box hn1 (fun h => h)
  obtain ⟨w3, hw3⟩ : ∃ w3, w2.alloc (.cells #[.int .i64 0, .int .i64 0, .int .u32 0, .int .u32 0, .bool false, .slice none 0 0] 44) = w3 := ⟨_, rfl⟩
  have hc3 : Ch (fun _ => False) w2 w3 := by rw [← hw3]; exact Ch.alloc _ _
  have hz3 : w3.heap.size = w2.heap.size + 1 := by rw [← hw3, World.size_alloc]
  have hn3 : w3.heap[w2.heap.size]? = some (.cells #[.int .i64 0, .int .i64 0, .int .u32 0, .int .u32 0, .bool false, .slice none 0 0] 44 (0, 0)) := by rw [← hw3]; exact heap_new _ _
  replace hn1 := hc3.box hn1 (fun h => h)
  replace hn2 := hc3.box hn2 (fun h => h)
  have CB := hide ((hc1.trans hc2 (fun _ _ h => h)).trans hc3 (fun _ _ h => h))
  have HZ := hide (And.intro hz1 (And.intro hz2 hz3))
  have HNS := hide (And.intro hn1 (And.intro hn2 hn3))
  have HQA := hide (show (∀ z, Qs z → z < w.heap.size) from hQ)
  have HX := hide (fun V (cV : Ch (fun z => Qs z ∨ z = w2.heap.size) w3 V) => show (V.cell? ⟨w.heap.size, 0, none⟩ = some (.int .u32 g.1) ∧ V.cell? ⟨w.heap.size, 1, none⟩ = some (.int .u32 g.2)) ∧ (V.cell? ⟨w1.heap.size, 0, none⟩ = some (.int .u32 x.1) ∧ V.cell? ⟨w1.heap.size, 1, none⟩ = some (.int .u32 x.2)) from by
    have hz := HZ.out
    have nq : ∀ z, (w.heap.size ≤ z ∧ z < w2.heap.size) → ¬ (Qs z ∨ z = w2.heap.size) := fun z hz2 e => by
      rcases e with e | e
      · have := HQA.out z e; omega
      · omega
    have e1 := Lib.cell_of_heap (cV.box HNS.out.1 (nq w.heap.size (by omega)))
    have e2 := Lib.cell_of_heap (cV.box HNS.out.2.1 (nq w1.heap.size (by omega)))
    exact ⟨⟨by simp [e1], by simp [e1]⟩, ⟨by simp [e2], by simp [e2]⟩⟩)
  have H := hide (h.quiet CB.out)
  have HRF := hide (refuse_cis H.out hl g x u1 u2)
  rw [hrf] at HRF
  have HY := hide hy
  have hni : (decide (x.1 = 0) && decide (x.2 = 0)) = false := hnn
  have HNI := hide hni
  obtain ⟨⟨s0, s1⟩, ⟨s2, s3⟩⟩ := HX.out w3 (Ch.refl _ _)
  clear h hc1 hz1 hn1 hc2 hz2 hn2 hc3 hz3 hn3 hrf hy hni hnn hQ u1 u2
  go_enter Try.func14, Try.ntmps14
  go_wp2_with fail
  refine HRF.out.mono ?_
  rintro e wa ⟨rfl, hba⟩
  have CA := hide (Ch.of_below (Q := fun _ => False) hba)
  clear hba s0 s1 s2 s3 HRF hw1 hw2 hw3
  obtain ⟨-, ⟨s2, s3⟩⟩ := HX.out wa (CA.out.mono (fun _ _ h => h.elim))
  go_wp2_with fail
  refine (isNone_is wa x.1 x.2).mono ?_
  rintro e wb ⟨rfl, hbb⟩
  have CC := hide (CA.out.trans (Ch.of_below (Q := fun _ => False) hbb) (fun _ _ h => h))
  clear hbb s2 s3
  rw [HNI.out]
  go_wp2
  refine wp_reg (fun z => Qs z ∨ z = w2.heap.size) (R := fun V => Ch (fun _ => False) wb V) (by kernel_rfl) (Ch.drew _) (fun V cV zk => ?_)
  have CV := hide (CC.out.trans cV (fun _ _ h => h))
  clear cV
  have HXV := hide (fun wq (kq : Ch (fun z => Qs z ∨ z = w2.heap.size) V wq) => HX.out wq ((CV.out.mono (Q' := fun z => Qs z ∨ z = w2.heap.size) (fun _ _ h => h.elim)).trans kq (fun _ _ h => h)))
  apply tk 0 krv0 rfl (by kernel_rfl) (fun _ _ _ h => h) zk
  · intro wq zq
    go_simp
    try rfl
  go_frame
  apply tk 1 krv1 rfl (by kernel_rfl) (fun _ _ _ h => h) zk
  · intro wq zq
    obtain ⟨⟨s0, s1⟩, ⟨s2, s3⟩⟩ := HXV.out _ zq
    go_simp
    try rfl
  go_frame
  apply tk 3 krv3 rfl (by kernel_rfl) (fun _ _ _ h => h) zk
  · intro wq zq
    obtain ⟨⟨s0, s1⟩, ⟨s2, s3⟩⟩ := HXV.out _ zq
    go_simp
    try rfl
  go_frame
  refine Go.Proofs.Ytbblmbbpicinlab.rd 2 krv2 rfl (by kernel_rfl) fun K hK => ?_
  go_simp
  refine (at_cis (H.out.quiet CV.out) x).mono ?_
  rintro e wc ⟨rfl, hbc⟩
  have CD := hide (CV.out.trans (Ch.of_below hbc) (fun _ _ h => h))
  have Z2 := hide (zk.trans (Ch.of_below (Q := fun z => Qs z ∨ z = w2.heap.size) hbc) (fun _ _ h => h))
  clear hbc
  rw [HY.out, cp_some]
  go_wp2_with fail
  refine hK.out _ _ ?_ (fun zk => ?_)
  · exact Z2.out
  clear hK K
  try go_frame
  refine Go.Proofs.Ytbblmbbpicinlab.rd 4 krv4 rfl (by kernel_rfl) fun K hK => ?_
  go_simp
  refine (hs wc (CB.out.trans CD.out (fun _ _ h => h))).mono ?_
  rintro e wd ⟨f, u, ok, sa, sn, sc, rfl, hR, hcd⟩
  have HR := hide hR
  have CE := hide hcd
  have Z3 := hide (zk.trans hcd (fun _ _ h => .inl h))
  clear hR hcd
  go_wp2_with fail
  refine hK.out _ _ ?_ (fun zk => ?_)
  · exact Z3.out
  clear hK K
  try go_frame
  have hz := HZ.out
  have nd := CE.out.box (CD.out.box HNS.out.2.2 (fun h => h)) (fun e => by have := HQA.out _ e; omega)
  have d0 : wd.cell? ⟨w2.heap.size, 0, none⟩ = some (.int .i64 0) := by simp [Lib.cell_of_heap nd]
  have d1 : wd.cell? ⟨w2.heap.size, 1, none⟩ = some (.int .i64 0) := by simp [Lib.cell_of_heap nd]
  have d2 : wd.cell? ⟨w2.heap.size, 2, none⟩ = some (.int .u32 0) := by simp [Lib.cell_of_heap nd]
  have d3 : wd.cell? ⟨w2.heap.size, 3, none⟩ = some (.int .u32 0) := by simp [Lib.cell_of_heap nd]
  have d4 : wd.cell? ⟨w2.heap.size, 4, none⟩ = some (.bool false) := by simp [Lib.cell_of_heap nd]
  have d5 : wd.cell? ⟨w2.heap.size, 5, none⟩ = some (.slice none 0 0) := by simp [Lib.cell_of_heap nd]
  have df : ∀ o, wd.frozen? ⟨w2.heap.size, o, none⟩ = false := fun o => by simp [World.frozen?, nd]
  have HS := hide (did_set nd (.int .i64 f) (.int .i64 u.n) (.int .u32 u.s) (.int .u32 u.g) (.bool ok) (.slice sa sn sc))
  clear nd hz
  refine Go.Proofs.Ytbblmbbpicinlab.rd 5 krv5 rfl (by kernel_rfl) fun K hK => ?_
  go_simp
  refine hK.out _ _ ?_ (fun zk => ?_)
  · exact zk.trans HS.out.2 (fun _ _ e => .inr e)
  clear hK K
  try go_frame
  apply tk 6 krv6 rfl (by kernel_rfl) (fun _ _ _ h => h) zk
  · intro wq zq
    go_simp
    try rfl
  go_frame
  refine wpAnyH_done (by kernel_rfl) ?_ _
  go_wp2
  have hz := HZ.out
  have zd := CD.out.size
  refine bodyPost_ret (v := .tuple #[didV f u ok (.slice sa sn sc), .int .i64 0]) (res_Recv _ w2.heap.size _ f u.n u.s u.g ok _ 0 rfl rfl HS.out.1) rfl ⟨f, u, ok, sa, sn, sc, wc, wd, w2.heap.size, rfl, HR.out, CB.out.trans CD.out (fun _ _ h => h), by omega, by omega, HS.out.2, ?_⟩
  exact (((CB.out.trans CD.out (fun _ _ h => h)).mono (Q' := Qs) (fun _ _ h => h.elim)).trans CE.out (fun _ _ h => h)).trans HS.out.2 (fun z hz2 e => by omega)

end Go.Proofs.Ytbblmbbpicinlab
