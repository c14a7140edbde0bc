/- Layer 10: the program's table of pairs: Take, Free. -/
import Derived.Test.YtjilnmeegolpkaaHdp
import Derived.Test.YtjilnmeegolpkaaTk
namespace Go.Proofs.Ytjilnmeegolpkaa
open Go.RowKit Go.Shelf

abbrev tkP0 : Oper := { dst := some 43, op := Op.move (Operand.tmp 7), type := 95, pos := "slots.go:46", after := #[], guard := none }
abbrev tkP1 : Oper := { dst := some 44, op := Op.move (Operand.tmp 7), type := 95, pos := "slots.go:46", after := #[{ on := 9, ground := Ground.gcOnly Departure.lateStores }], guard := none }
abbrev tkP2 : Oper := { dst := some 45, op := Op.move (Operand.tmp 0), type := 58, pos := "slots.go:46", after := #[], guard := none }
abbrev tkP3 : Oper := { dst := some 46, op := Op.nilCheck (Operand.tmp 45), type := 0, pos := "slots.go:46", after := #[{ on := 2, ground := Ground.data }], guard := none }
abbrev tkP4 : Oper := { dst := some 47, op := Op.fieldAddr 94 (Operand.tmp 46) 2, type := 0, pos := "slots.go:46", after := #[{ on := 3, ground := Ground.data }], guard := none }
abbrev tkP5 : Oper := { dst := some 48, op := Op.load 3 (Operand.tmp 47), type := 3, pos := "slots.go:46", after := #[{ on := 4, ground := Ground.data }], guard := none }
abbrev tkP6 : Oper := { dst := some 49, op := Op.load 62 (Operand.tmp 3), type := 62, pos := "slots.go:46", after := #[{ on := 9, ground := Ground.gcOnly Departure.lateStores }], guard := none }
abbrev tkP7 : Oper := { dst := some 50, op := Op.nilCheck (Operand.tmp 43), type := 0, pos := "slots.go:46", after := #[{ on := 0, ground := Ground.data }, { on := 0, ground := Ground.phase }, { on := 1, ground := Ground.textOnly Departure.lateStores }, { on := 2, ground := Ground.phase }, { on := 3, ground := Ground.phase }, { on := 4, ground := Ground.phase }, { on := 5, ground := Ground.phase }, { on := 6, ground := Ground.textOnly Departure.lateStores }], guard := none }
abbrev tkP8 : Oper := { dst := some 51, op := Op.fieldAddr 97 (Operand.tmp 50) 1, type := 0, pos := "slots.go:46", after := #[{ on := 7, ground := Ground.data }, { on := 0, ground := Ground.phase }, { on := 1, ground := Ground.textOnly Departure.lateStores }, { on := 2, ground := Ground.phase }, { on := 3, ground := Ground.phase }, { on := 4, ground := Ground.phase }, { on := 5, ground := Ground.phase }, { on := 6, ground := Ground.textOnly Departure.lateStores }], guard := none }
abbrev tkP9 : Oper := { dst := none, op := Op.store 3 (Operand.tmp 51) (Operand.tmp 48), type := 0, pos := "slots.go:46", after := #[{ on := 8, ground := Ground.data }, { on := 5, ground := Ground.data }, { on := 0, ground := Ground.phase }, { on := 1, ground := Ground.textOnly Departure.lateStores }, { on := 2, ground := Ground.phase }, { on := 3, ground := Ground.phase }, { on := 4, ground := Ground.phase }, { on := 5, ground := Ground.phase }, { on := 6, ground := Ground.textOnly Departure.lateStores }], guard := none }
abbrev tkP10 : Oper := { dst := some 52, op := Op.nilCheck (Operand.tmp 44), type := 0, pos := "slots.go:46", after := #[{ on := 1, ground := Ground.data }, { on := 0, ground := Ground.phase }, { on := 1, ground := Ground.phase }, { on := 2, ground := Ground.phase }, { on := 3, ground := Ground.phase }, { on := 4, ground := Ground.phase }, { on := 5, ground := Ground.phase }, { on := 6, ground := Ground.phase }, { on := 7, ground := Ground.phase }, { on := 8, ground := Ground.phase }, { on := 9, ground := Ground.phase }], guard := none }
abbrev tkP11 : Oper := { dst := some 53, op := Op.fieldAddr 97 (Operand.tmp 52) 2, type := 0, pos := "slots.go:46", after := #[{ on := 10, ground := Ground.data }, { on := 0, ground := Ground.phase }, { on := 1, ground := Ground.phase }, { on := 2, ground := Ground.phase }, { on := 3, ground := Ground.phase }, { on := 4, ground := Ground.phase }, { on := 5, ground := Ground.phase }, { on := 6, ground := Ground.phase }, { on := 7, ground := Ground.phase }, { on := 8, ground := Ground.phase }, { on := 9, ground := Ground.phase }], guard := none }
abbrev tkP12 : Oper := { dst := none, op := Op.store 62 (Operand.tmp 53) (Operand.tmp 49), type := 0, pos := "slots.go:46", after := #[{ on := 11, ground := Ground.data }, { on := 6, ground := Ground.data }, { on := 9, ground := Ground.chain }, { on := 0, ground := Ground.phase }, { on := 1, ground := Ground.phase }, { on := 2, ground := Ground.phase }, { on := 3, ground := Ground.phase }, { on := 4, ground := Ground.phase }, { on := 5, ground := Ground.phase }, { on := 6, ground := Ground.phase }, { on := 7, ground := Ground.phase }, { on := 8, ground := Ground.phase }, { on := 9, ground := Ground.phase }], guard := none }

variable {w : World} {B : Nat} {F : Nat → Prop} {p : Nat} {l : List (ThG Pa)} {M g : Nat}

theorem res_takeP (tm : Array Value) (A : Nat) (Z : World) (s g c : Int) (h2 : tm[4]?.getD undef = .pointer (some ⟨A, 0, none⟩)) (h3 : tm[5]?.getD undef = .int .i64 c) (c0 : Z.cell? ⟨A, 0, none⟩ = some (.int .u32 s)) (c1 : Z.cell? ⟨A, 1, none⟩ = some (.int .u32 g)) :
    (results Try.f23 tm).run Try.prog Z = .ok (.tuple #[hv s g, .int .i64 c]) Z := by
  simp [results, Try.results23, go_sem, h2, h3, c0, c1]

/-- the table behind a Take -/
def tookP (w : World) (p g i n c k : Nat) (x : Pa) : World := (((((w.setCell ⟨p, 2, none⟩ (.int .i64 (n : Int))).setCell ⟨p, 1, none⟩ (.int .i64 (c : Int))).setCell ⟨g, i * 4, none⟩ (.int .u32 (k : Int))).setCell ⟨g, i * 4 + 1, none⟩ (.int .i64 (n : Int))).setCell ⟨g, i * 4 + 2, none⟩ (.string x.A)).setCell ⟨g, i * 4 + 3, none⟩ (.slice x.a x.n x.c)
theorem tookP_ch (w : World) (p g i n c k : Nat) (x : Pa) : Ch (fun y => y = p ∨ y = g) w (tookP w p g i n c k x) := by
  unfold tookP
  refine (((((Ch.set w (Or.inl rfl) _ _).trans (Ch.set _ (Or.inl rfl) _ _) (fun _ _ h => h)).trans (Ch.set _ (Or.inr rfl) _ _) (fun _ _ h => h)).trans (Ch.set _ (Or.inr rfl) _ _) (fun _ _ h => h)).trans (Ch.set _ (Or.inr rfl) _ _) (fun _ _ h => h)).trans (Ch.set _ (Or.inr rfl) _ _) (fun _ _ h => h)
theorem tookP_is (h : TbP w B F p l M g) (x : Pa) {i : Nat} (hi : i < M) (hB : tkB l M = true) (hS : tkS l M = (i : Int) + 1) : TbP (tookP w p g i (l.length + 1) (cnt l + 1) (gens l ((i : Int) + 1) + 1) x) B F p (tkd l M x) M g := by
  have hi0 : i < (sls paZ l M).length := by rw [sls_len]; exact hi
  refine ⟨?_, ?_, h.low, h.wf.tkd x, h.lt.tkd M x, h.m1, h.m2, h.foot⟩
  · rw [cnt_tkd x hB, tkd_len, hB]
    unfold tookP
    have hp := heap_set (heap_set h.box 2 (.int .i64 ((l.length + 1 : Nat) : Int))) 1 (.int .i64 ((cnt l + 1 : Nat) : Int))
    have np : ¬ p = g := fun e => h.ne e.symm
    exact (Ch.set (Q := fun y => y = g) _ rfl _ _).box ((Ch.set (Q := fun y => y = g) _ rfl _ _).box ((Ch.set (Q := fun y => y = g) _ rfl _ _).box ((Ch.set (Q := fun y => y = g) _ rfl _ _).box (hp) np) np) np) np
  · have r0 := (h.row.ch (Ch.set (Q := fun y => y = p) w rfl 2 (.int .i64 ((l.length + 1 : Nat) : Int))) (fun y hy e => h.ne (by injection hy with hy; exact hy.trans e))).ch (Ch.set (Q := fun y => y = p) _ rfl 1 (.int .i64 ((cnt l + 1 : Nat) : Int))) (fun y hy e => h.ne (by injection hy with hy; exact hy.trans e))
    rw [sls_tkd paZ x hB hS]
    have r1 := row_putP r0 (i := i) (j := 0) hi0 (by decide) (u := .int .u32 ((gens l ((i : Int) + 1) + 1 : Nat) : Int)) ⟨gens l ((i : Int) + 1) + 1, sloR l ((i : Int) + 1), sloX paZ l ((i : Int) + 1)⟩ (by rw [sls_get]; rfl)
    have r2 := row_putP r1 (i := i) (j := 1) (by simpa using hi0) (by decide) (u := .int .i64 ((l.length + 1 : Nat) : Int)) ⟨gens l ((i : Int) + 1) + 1, l.length + 1, sloX paZ l ((i : Int) + 1)⟩ (by rw [List.getElem_set_self]; rfl)
    have r3 := row_putP r2 (i := i) (j := 2) (by simpa using hi0) (by decide) (u := .string x.A) ⟨gens l ((i : Int) + 1) + 1, l.length + 1, { sloX paZ l ((i : Int) + 1) with A := x.A }⟩ (by rw [List.getElem_set_self]; rfl)
    have r4 := row_putP r3 (i := i) (j := 3) (by simpa using hi0) (by decide) (u := .slice x.a x.n x.c) ⟨gens l ((i : Int) + 1) + 1, l.length + 1, x⟩ (by rw [List.getElem_set_self]; rfl)
    simp only [List.set_set] at r4
    exact r4

set_option maxRecDepth 100000 in
set_option maxHeartbeats 2000000 in
theorem take_noP (h : TbP w B F p l M g) (x : Pa) (he : emp l M 1 = none) : Calls Try.prog 23 #[.pointer (some ⟨p, 0, none⟩), paV x] w fun e w' => e = .returned (.tuple #[hv 0 0, .int .i64 101]) ∧ Below w.heap.size w w' := by
  obtain ⟨w1, hw1⟩ : ∃ w1, (w.alloc (.cells #[.string x.A, .slice x.a x.n x.c] 62)).alloc (.cells #[.int .u32 0, .int .u32 0] 39) = w1 := ⟨_, rfl⟩
  have hB1 : Below w.heap.size w w1 := by rw [← hw1]; exact (below1 _ _).trans ((below1 _ _).mono (by simp))
  have hs1 : w1.heap.size = w.heap.size + 2 := by rw [← hw1]; simp
  have hn : w1.heap[w.heap.size + 1]? = some (.cells #[.int .u32 0, .int .u32 0] 39 (0, 0)) := by
    rw [← hw1]
    have := heap_new (w.alloc (.cells #[.string x.A, .slice x.a x.n x.c] 62)) (.cells #[.int .u32 0, .int .u32 0] 39)
    rwa [World.size_alloc] at this
  have hx : w1.heap[w.heap.size]? = some (.cells #[.string x.A, .slice x.a x.n x.c] 62 (0, 0)) := by
    rw [← hw1]
    exact (Ch.alloc (Q := fun _ => False) (w.alloc (.cells #[.string x.A, .slice x.a x.n x.c] 62)) (.cells #[.int .u32 0, .int .u32 0] 39)).box (heap_new w (.cells #[.string x.A, .slice x.a x.n x.c] 62)) (fun h => h)
  have h1 := h.below hB1
  have hl := hide (least_isP h1)
  rw [lsE_none he] at hl
  have z0 : w1.cell? ⟨w.heap.size + 1, 0, none⟩ = some (.int .u32 0) := by simp [Lib.cell_of_heap hn]
  have z1 : w1.cell? ⟨w.heap.size + 1, 1, none⟩ = some (.int .u32 0) := by simp [Lib.cell_of_heap hn]
  have zf : ∀ j, w1.frozen? ⟨w.heap.size + 1, j, none⟩ = false := fun j => by simp [World.frozen?, hn]
  have HB1 := hide hB1
  clear hB1
  go_enter Try.func23, Try.ntmps23
  go_wp2_with (go_at_call 41; refine hl.out.mono ?_; rintro e w1 ⟨rfl, rfl⟩)
  refine bodyPost_ret (v := .tuple #[hv 0 0, .int .i64 101]) (res_takeP _ (w.heap.size + 1) _ 0 0 101 rfl rfl ?_ ?_) rfl ⟨rfl, ?_⟩
  · simp [go_sem, z0]
  · simp [go_sem, z1]
  · exact (HB1.out.setCell (p := ⟨w.heap.size + 1, 0, none⟩) (by simp) _).setCell (p := ⟨w.heap.size + 1, 1, none⟩) (by simp) _

set_option maxRecDepth 100000 in
set_option maxHeartbeats 4000000 in
theorem take_atP (h : TbP w B F p l M g) (x : Pa) (hlen : l.length ≤ 100000) {i : Nat} (hi : i < M) (he : emp l M 1 = some ((i : Int) + 1)) : Calls Try.prog 23 #[.pointer (some ⟨p, 0, none⟩), paV x] w fun e w' => e = .returned (.tuple #[hv ((i : Int) + 1) (gens l ((i : Int) + 1) + 1), .int .i64 0]) ∧ TbP w' B F p (tkd l M x) M g ∧ Ch F w w' := by
  obtain ⟨w1, hw1⟩ : ∃ w1, (w.alloc (.cells #[.string x.A, .slice x.a x.n x.c] 62)).alloc (.cells #[.int .u32 0, .int .u32 0] 39) = w1 := ⟨_, rfl⟩
  have hB1 : Below w.heap.size w w1 := by rw [← hw1]; exact (below1 _ _).trans ((below1 _ _).mono (by simp))
  have hs1 : w1.heap.size = w.heap.size + 2 := by rw [← hw1]; simp
  have hn : w1.heap[w.heap.size + 1]? = some (.cells #[.int .u32 0, .int .u32 0] 39 (0, 0)) := by
    rw [← hw1]
    have := heap_new (w.alloc (.cells #[.string x.A, .slice x.a x.n x.c] 62)) (.cells #[.int .u32 0, .int .u32 0] 39)
    rwa [World.size_alloc] at this
  have hx : w1.heap[w.heap.size]? = some (.cells #[.string x.A, .slice x.a x.n x.c] 62 (0, 0)) := by
    rw [← hw1]
    exact (Ch.alloc (Q := fun _ => False) (w.alloc (.cells #[.string x.A, .slice x.a x.n x.c] 62)) (.cells #[.int .u32 0, .int .u32 0] 39)).box (heap_new w (.cells #[.string x.A, .slice x.a x.n x.c] 62)) (fun h => h)
  have h1 := h.below hB1
  have hl := hide (least_isP h1)
  rw [lsE_some he, show (i : Int) + 1 - 1 = (i : Int) by omega] at hl
  have hm := h.m2
  have hcl := h.wf.cnt_le
  have hgl := gens_le l ((i : Int) + 1)
  have hne := h.ne
  have hne' : p ≠ g := fun e => hne e.symm
  have hpw := h.lt_p
  obtain ⟨-, hgw, -⟩ := h.own
  obtain ⟨c0, c1, c2⟩ := h1.cells
  obtain ⟨d0, d1, d2, d3⟩ := h1.slot hi
  have fz := h1.fz
  have hB := hide (show tkB l M = true by unfold tkB; rw [he]; rfl)
  have hS := hide (show tkS l M = (i : Int) + 1 by unfold tkS; rw [he]; rfl)
  have H5 := hide (tookP_is h1 x hi hB.out hS.out)
  have K5 := hide (tookP_ch w1 p g i (l.length + 1) (cnt l + 1) (gens l ((i : Int) + 1) + 1) x)
  have N5 := hide (K5.out.box hn (fun e => by omega))
  have HB1 := hide hB1
  have HS1 := hide hs1
  have HXB := hide hx
  clear hB1 hn hx hs1
  obtain ⟨wA, hA⟩ : ∃ wA, w1.setCell ⟨p, 2, none⟩ (.int .i64 ((l.length : Int) + 1)) = wA := ⟨_, rfl⟩
  obtain ⟨wB, hBq⟩ : ∃ wB, wA.setCell ⟨p, 1, none⟩ (.int .i64 ((cnt l : Int) + 1)) = wB := ⟨_, rfl⟩
  obtain ⟨W, hW⟩ : ∃ W, wB.setCell ⟨g, i * 4, none⟩ (.int .u32 ((gens l ((i : Int) + 1) : Int) + 1)) = W := ⟨_, rfl⟩
  have HA := hide hA
  have HBq := hide hBq
  have HW := hide hW
  have hpA : wA.heap[p]? = some (.cells #[.slice (some ⟨g, 0, none⟩) M M, .int .i64 (cnt l : Int), .int .i64 ((l.length : Int) + 1)] 94 (0, 0)) := by rw [← HA.out]; exact heap_set h1.box 2 _
  have hpB : wB.heap[p]? = some (.cells #[.slice (some ⟨g, 0, none⟩) M M, .int .i64 ((cnt l : Int) + 1), .int .i64 ((l.length : Int) + 1)] 94 (0, 0)) := by rw [← HBq.out]; exact heap_set hpA 1 _
  have cB : Ch (fun y => y = p) w1 wB := by rw [← HBq.out, ← HA.out]; exact (Ch.set (Q := fun y => y = p) w1 rfl _ _).trans (Ch.set (Q := fun y => y = p) _ rfl _ _) (fun _ _ h => h)
  have cW : Ch (fun y => y = g) wB W := by rw [← HW.out]; exact Ch.set (Q := fun y => y = g) wB rfl _ _
  obtain ⟨-, hg1, cur, hcur⟩ := h1.own
  have hgB := cB.box hcur hne
  have hpW := cW.box hpB hne'
  have A1 : wA.cell? ⟨p, 1, none⟩ = some (.int .i64 (cnt l : Int)) := by simp [Lib.cell_of_heap hpA]
  have A2 : ∀ o, wA.frozen? ⟨p, o, none⟩ = false := by simp [World.frozen?, hpA]
  have B1 : wB.cell? ⟨p, 0, none⟩ = some (.slice (some ⟨g, 0, none⟩) M M) := by simp [Lib.cell_of_heap hpB]
  have B2 : ∀ o, wB.frozen? ⟨g, o, none⟩ = false := by simp [World.frozen?, hgB]
  have B3 := (cB.cell hg1 hne (i * 4)).trans d0
  have hgW : W.heap[g]? = some (.cells (cur.setIfInBounds (i * 4) (.int .u32 ((gens l ((i : Int) + 1) : Int) + 1))) 97 (0, 0)) := by rw [← HW.out]; exact heap_set hgB _ _
  have W1f : ∀ o, W.frozen? ⟨g, o, none⟩ = false := by simp [World.frozen?, hgW]
  have E1 := (cB.cell hg1 hne (i * 4 + 1)).trans d1
  have E2 := (cB.cell hg1 hne (i * 4 + 2)).trans d2
  have E3 := (cB.cell hg1 hne (i * 4 + 3)).trans d3
  have d0' : W.cell? ⟨g, i * 4, none⟩ = some (.int .u32 ((gens l ((i : Int) + 1) : Int) + 1)) := by rw [← HW.out]; simp [go_sem, B3]
  have d1' : W.cell? ⟨g, i * 4 + 1, none⟩ = some (.int .i64 (sloR l ((i : Int) + 1) : Int)) := by rw [← HW.out]; simp [go_sem, E1]
  have d2' : W.cell? ⟨g, i * 4 + 2, none⟩ = some (.string (sloX paZ l ((i : Int) + 1)).A) := by rw [← HW.out]; simp [go_sem, E2]
  have d3' : W.cell? ⟨g, i * 4 + 3, none⟩ = some (.slice (sloX paZ l ((i : Int) + 1)).a (sloX paZ l ((i : Int) + 1)).n (sloX paZ l ((i : Int) + 1)).c) := by rw [← HW.out]; simp [go_sem, E3]
  have HP := hide (fun wq (hq : Ch (fun y => y = g) W wq) => have e := Lib.cell_of_heap (hq.box hpW hne'); show wq.cell? ⟨p, 2, none⟩ = some (.int .i64 ((l.length : Int) + 1)) by simp [e])
  have HX := hide (fun wq (hq : Ch (fun y => y = g) W wq) => have e := Lib.cell_of_heap (hq.box (cW.box (cB.box HXB.out (by omega)) (by omega)) (by omega)); show wq.cell? ⟨w.heap.size, 0, none⟩ = some (.string x.A) ∧ wq.cell? ⟨w.heap.size, 1, none⟩ = some (.slice x.a x.n x.c) from ⟨by simp [e], by simp [e]⟩)
  have HD := hide (And.intro d0' (And.intro d1' (And.intro d2' (And.intro d3' W1f))))
  clear d0' d1' d2' d3' W1f
  clear hpA hpB cB cW hcur hgB hpW hgW E1 E2 E3 d0 d1 d2 d3 c1
  have qi : decide ((i : Int) < 0) = false := decide_eq_false (by omega)
  go_enter Try.func23, Try.ntmps23
  go_wp2_with (go_at_call 41; refine hl.out.mono ?_; rintro e w1 ⟨rfl, rfl⟩)
  clear hA hBq hW A1 A2 B1 B2 B3 c0 c2 fz
  obtain ⟨d0', d1', d2', d3', W1f⟩ := HD.out
  refine wp_region_held_drew (S := Ch (fun y => y = g) W) (by kernel_rfl) (Ch.drew _) (fun zk => ?_)
  apply tk 0 tkP0 rfl (by kernel_rfl) (fun _ _ _ h => h) zk
  · intro wq zq
    go_simp
    try rfl
  go_frame
  apply tk 1 tkP1 rfl (by kernel_rfl) (fun _ _ _ h => h) zk
  · intro wq zq
    go_simp
    try rfl
  go_frame
  apply tk 2 tkP2 rfl (by kernel_rfl) (fun _ _ _ h => h) zk
  · intro wq zq
    go_simp
    try rfl
  go_frame
  apply tk 3 tkP3 rfl (by kernel_rfl) (fun _ _ _ h => h) zk
  · intro wq zq
    go_simp
    try rfl
  go_frame
  apply tk 4 tkP4 rfl (by kernel_rfl) (fun _ _ _ h => h) zk
  · intro wq zq
    go_simp
    try rfl
  go_frame
  apply tk 5 tkP5 rfl (by kernel_rfl) (fun _ _ _ h => h) zk
  · intro wq zq
    have s0 := (HP.out _ zq)
    go_simp
    try rfl
  go_frame
  apply tk 6 tkP6 rfl (by kernel_rfl) (fun _ _ _ h => h) zk
  · intro wq zq
    obtain ⟨s1, s2⟩ := HX.out _ zq
    go_simp
    try rfl
  go_frame
  apply tk 7 tkP7 rfl (by kernel_rfl) (fun _ _ _ h => h) zk
  · intro wq zq
    go_simp
    try rfl
  go_frame
  apply tk 8 tkP8 rfl (by kernel_rfl) (fun _ _ _ h => h) zk
  · intro wq zq
    go_simp
    try rfl
  go_frame
  refine rd 9 tkP9 rfl (by kernel_rfl) fun K hK => ?_
  go_simp
  refine hK.out _ _ ?_ (fun zk => ?_)
  · exact zk.trans (Ch.set (Q := fun y => y = g) _ rfl _ _) (fun _ _ h => h)
  clear hK K
  try go_frame
  apply tk 10 tkP10 rfl (by kernel_rfl) (fun _ _ _ h => h) zk
  · intro wq zq
    go_simp
    try rfl
  go_frame
  apply tk 11 tkP11 rfl (by kernel_rfl) (fun _ _ _ h => h) zk
  · intro wq zq
    go_simp
    try rfl
  go_frame
  refine rd 12 tkP12 rfl (by kernel_rfl) fun K hK => ?_
  go_simp
  refine hK.out _ _ ?_ (fun zk => ?_)
  · exact zk.trans ((Ch.set (Q := fun y => y = g) _ rfl _ _).trans (Ch.set (Q := fun y => y = g) _ rfl _ _) (fun _ _ h => h)) (fun _ _ h => h)
  clear hK K
  try go_frame
  refine wpAnyH_done (by kernel_rfl) ?_ _
  have hw5 : (((W.setCell ⟨g, i * 4 + 1, none⟩ (.int .i64 ((l.length : Int) + 1))).setCell ⟨g, i * 4 + 2, none⟩ (.string x.A)).setCell ⟨g, i * 4 + 2 + 1, none⟩ (.slice x.a x.n x.c)).drew = (tookP w1 p g i (l.length + 1) (cnt l + 1) (gens l ((i : Int) + 1) + 1) x).drew := by
    rw [← HW.out, ← HBq.out, ← HA.out]
    unfold tookP
    simp only [Int.natCast_add, Int.natCast_one]
  have e5 : (((W.setCell ⟨g, i * 4 + 1, none⟩ (.int .i64 ((l.length : Int) + 1))).setCell ⟨g, i * 4 + 2, none⟩ (.string x.A)).setCell ⟨g, i * 4 + 2 + 1, none⟩ (.slice x.a x.n x.c)).drew.cell? ⟨g, i * 4, none⟩ = some (.int .u32 ((gens l ((i : Int) + 1) : Int) + 1)) := by simp [go_sem, d0']
  rw [hw5] at e5
  rw [hw5]
  have h5 := H5.out.ch (Ch.drew (Q := fun _ => False) _) (fun _ _ h => h)
  have k5 := K5.out.trans (Ch.drew (Q := fun y => y = p ∨ y = g) _) (fun _ _ h => h)
  have n5 := (Ch.drew (Q := fun _ => False) _).box N5.out (fun h => h)
  have hs5 := k5.size
  have hB1 := HB1.out
  have hs1 := HS1.out
  generalize (tookP w1 p g i (l.length + 1) (cnt l + 1) (gens l ((i : Int) + 1) + 1) x).drew = w5 at *
  clear hw5 d0' d1' d2' d3' W1f zk
  go_wp2_with fail
  refine (mkhandle_is w5 i (by omega) _).mono ?_
  rintro e w6 ⟨rfl, hb6⟩
  have h6 := h5.below hb6
  have n6 := (hb6.block _ (by omega)).trans n5
  have z0 : w6.cell? ⟨w.heap.size + 1, 0, none⟩ = some (.int .u32 0) := by simp [Lib.cell_of_heap n6]
  have z1 : w6.cell? ⟨w.heap.size + 1, 1, none⟩ = some (.int .u32 0) := by simp [Lib.cell_of_heap n6]
  have zf : ∀ o, w6.frozen? ⟨w.heap.size + 1, o, none⟩ = false := by simp [World.frozen?, n6]
  clear e5
  go_wp2
  have ks := (Ch.set (Q := fun y => y = w.heap.size + 1) w6 rfl 0 (.int .u32 ((i : Int) + 1))).trans (Ch.set (Q := fun y => y = w.heap.size + 1) _ rfl 1 (.int .u32 ((gens l ((i : Int) + 1) : Int) + 1))) (fun _ _ h => h)
  refine bodyPost_ret (v := .tuple #[hv ((i : Int) + 1) (gens l ((i : Int) + 1) + 1), .int .i64 0]) (res_takeP _ (w.heap.size + 1) _ _ _ 0 rfl rfl ?_ ?_) rfl ⟨rfl, h6.ch ks (fun y hy e => ?_), ?_⟩
  · simp [go_sem, z0]
  · simp [go_sem, z1]
  · rcases (h.foot y).1 hy with e' | e' <;> omega
  · exact (((Ch.of_below hB1).trans (k5.mono (fun y _ e => (h.foot y).2 e)) (fun _ _ h => h)).trans (Ch.of_below (Q := F) hb6) (fun _ _ h => h)).trans ks (fun y hy e => by omega)

theorem take_isP (h : TbP w B F p l M g) (x : Pa) (hlen : l.length ≤ 100000) : Calls Try.prog 23 #[.pointer (some ⟨p, 0, none⟩), paV x] w fun e w' => e = .returned (.tuple #[hv (tkS l M) (tkG l M), .int .i64 (ec (tkB l M) 101)]) ∧ TbP w' B F p (tkd l M x) M g ∧ Ch F w w' := by
  cases he : emp l M 1 with
  | none =>
    have e1 : tkS l M = 0 := by unfold tkS; rw [he]; rfl
    have e2 : tkG l M = 0 := by unfold tkG; rw [he]
    have e3 : tkB l M = false := by unfold tkB; rw [he]; rfl
    have e4 : tkd l M x = l := by unfold tkd; rw [he]
    rw [e1, e2, e3, e4]
    exact (take_noP h x he).mono fun e w' ⟨h1, h2⟩ => ⟨h1, h.below h2, Ch.of_below h2⟩
  | some s =>
    obtain ⟨h1, h2, h3⟩ := emp_some he
    obtain ⟨i, rfl⟩ : ∃ i : Nat, s = (i : Int) + 1 := ⟨(s - 1).toNat, by omega⟩
    have e1 : tkS l M = (i : Int) + 1 := by unfold tkS; rw [he]; rfl
    have e2 : tkG l M = (gens l ((i : Int) + 1) : Int) + 1 := by unfold tkG; rw [he]
    have e3 : tkB l M = true := by unfold tkB; rw [he]; rfl
    rw [e1, e2, e3]
    exact take_atP h x hlen (by omega) he

/-- the table behind a Free -/
def gaveP (w : World) (p g i k c : Nat) : World := ((((w.setCell ⟨g, i * 4, none⟩ (.int .u32 (k : Int))).setCell ⟨g, i * 4 + 1, none⟩ (.int .i64 0)).setCell ⟨g, i * 4 + 2, none⟩ (.string ⟨#[]⟩)).setCell ⟨g, i * 4 + 3, none⟩ (.slice none 0 0)).setCell ⟨p, 1, none⟩ (.int .i64 (c : Int))
theorem gaveP_ch (w : World) (p g i k c : Nat) : Ch (fun y => y = p ∨ y = g) w (gaveP w p g i k c) := by
  unfold gaveP
  refine ((((Ch.set w (Or.inr rfl) _ _).trans (Ch.set _ (Or.inr rfl) _ _) (fun _ _ h => h)).trans (Ch.set _ (Or.inr rfl) _ _) (fun _ _ h => h)).trans (Ch.set _ (Or.inr rfl) _ _) (fun _ _ h => h)).trans (Ch.set _ (Or.inl rfl) _ _) (fun _ _ h => h)
theorem gaveP_is (h : TbP w B F p l M g) {i c : Nat} (hi : i < M) {G : Int} (hB : fnB l ((i : Int) + 1) G = true) (hc : cnt l = c + 1) : TbP (gaveP w p g i (gens l ((i : Int) + 1)) c) B F p (frd l ((i : Int) + 1) G) M g := by
  have hi0 : i < (sls paZ l M).length := by rw [sls_len]; exact hi
  have hc' : cnt (frd l ((i : Int) + 1) G) = c := by have := cnt_frd hB; omega
  refine ⟨?_, ?_, h.low, h.wf.frd _ _, h.lt.frd _ _, h.m1, h.m2, h.foot⟩
  · rw [hc', frd_len]
    unfold gaveP
    have np : ¬ p = g := fun e => h.ne e.symm
    have hb := (Ch.set (Q := fun y => y = g) ((((w).setCell ⟨g, i * 4, none⟩ (.int .u32 (gens l ((i : Int) + 1) : Int))).setCell ⟨g, i * 4 + 1, none⟩ (.int .i64 0)).setCell ⟨g, i * 4 + 2, none⟩ (.string ⟨#[]⟩)) rfl (i * 4 + 3) (.slice none 0 0)).box ((Ch.set (Q := fun y => y = g) (((w).setCell ⟨g, i * 4, none⟩ (.int .u32 (gens l ((i : Int) + 1) : Int))).setCell ⟨g, i * 4 + 1, none⟩ (.int .i64 0)) rfl (i * 4 + 2) (.string ⟨#[]⟩)).box ((Ch.set (Q := fun y => y = g) ((w).setCell ⟨g, i * 4, none⟩ (.int .u32 (gens l ((i : Int) + 1) : Int))) rfl (i * 4 + 1) (.int .i64 0)).box ((Ch.set (Q := fun y => y = g) (w) rfl (i * 4) (.int .u32 (gens l ((i : Int) + 1) : Int))).box (h.box) np) np) np) np
    have := heap_set hb 1 (.int .i64 (c : Int))
    exact this
  · rw [sls_frd paZ h.wf hB]
    have r0 := h.row
    have r1 := row_putP r0 (i := i) (j := 0) hi0 (by decide) (u := .int .u32 (gens l ((i : Int) + 1) : Int)) ⟨gens l ((i : Int) + 1), sloR l ((i : Int) + 1), sloX paZ l ((i : Int) + 1)⟩ (by rw [sls_get]; rfl)
    have r2 := row_putP r1 (i := i) (j := 1) (by simpa using hi0) (by decide) (u := .int .i64 0) ⟨gens l ((i : Int) + 1), 0, sloX paZ l ((i : Int) + 1)⟩ (by rw [List.getElem_set_self]; rfl)
    have r3 := row_putP r2 (i := i) (j := 2) (by simpa using hi0) (by decide) (u := .string ⟨#[]⟩) ⟨gens l ((i : Int) + 1), 0, { sloX paZ l ((i : Int) + 1) with A := ⟨#[]⟩ }⟩ (by rw [List.getElem_set_self]; rfl)
    have r4 := row_putP r3 (i := i) (j := 3) (by simpa using hi0) (by decide) (u := .slice none 0 0) ⟨gens l ((i : Int) + 1), 0, paZ⟩ (by rw [List.getElem_set_self]; rfl)
    simp only [List.set_set] at r4
    exact r4.ch (Ch.set (Q := fun y => y = p) _ rfl 1 (.int .i64 (c : Int))) (fun y hy e => h.ne (by injection hy with hy; exact hy.trans e))

set_option maxRecDepth 100000 in
set_option maxHeartbeats 2000000 in
theorem free_isP (h : TbP w B F p l M g) {s G : Int} (hu : Us s) : Calls Try.prog 25 #[.pointer (some ⟨p, 0, none⟩), hv s G] w fun e w' => e = .returned (.int .i64 (ec (fnB l s G) 102)) ∧ TbP w' B F p (frd l s G) M g ∧ Ch F w w' := by
  have h1 := h.below (below1 w (.cells #[.int .u32 s, .int .u32 G] 39))
  have hB1 := below1 w (.cells #[.int .u32 s, .int .u32 G] 39)
  cases hB : fnB l s G
  · have hf := hide (find_noP h1 hu hB)
    have e : frd l s G = l := by
      unfold fnB at hB
      unfold frd
      cases h : fnd l s G with
      | none => rfl
      | some k => rw [h] at hB; cases hB
    rw [e]
    go_enter Try.func25, Try.ntmps25
    go_wp2_with (go_at_call 44; refine hf.out.mono ?_; rintro e w' ⟨rfl, hb⟩)
    go_ret
    exact ⟨rfl, h1.below hb, Ch.of_below (hB1.trans (hb.mono (by simp)))⟩
  · obtain ⟨c, hc⟩ : ∃ c, cnt l = c + 1 := ⟨cnt l - 1, by have := cnt_frd hB; omega⟩
    obtain ⟨i, hi, rfl, hG, hr, hf⟩ := find_isP h1 hB
    have hf := hide hf
    have HB := hide hB
    have HB1 := hide hB1
    have hcl := h.wf.cnt_le
    have hm := h.m2
    have hne := h.ne
    have hne' : p ≠ g := fun e => hne e.symm
    have HC := hide hc
    have qc : ((c + 1 : Nat) : Int) = (c : Int) + 1 := by omega
    clear hB hB1 hG
    go_enter Try.func25, Try.ntmps25
    go_wp2_with (go_at_call 44; refine hf.out.mono ?_; rintro e w' ⟨rfl, hb⟩; have h2 := h1.below hb; have HB2 := hide hb; clear hb; have fz := h2.fz; obtain ⟨b0, b1, b2⟩ := h2.cells; rw [HC.out, qc] at b1; obtain ⟨c0, c1, c2, c3⟩ := h2.slot hi)
    go_ret
    have h5 := gaveP_is h2 hi HB.out HC.out
    have k5 := gaveP_ch w' p g i (gens l ((i : Int) + 1)) c
    refine ⟨rfl, h5, (Ch.of_below (HB1.out.trans (HB2.out.mono (by simp)))).trans k5 (fun x _ e => (h.foot x).2 e)⟩

end Go.Proofs.Ytjilnmeegolpkaa
