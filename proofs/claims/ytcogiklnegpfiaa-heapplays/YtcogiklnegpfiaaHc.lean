/- Layer 10: the program's table of kinds: find. -/
import Derived.Test.YtcogiklnegpfiaaHb
import Derived.Test.YtcogiklnegpfiaaTk
namespace Go.Proofs.Ytcogiklnegpfiaa
open Go.RowKit Go.Shelf

abbrev fiI0 : Oper := { dst := some 32, op := Op.move (Operand.tmp 6), type := 87, pos := "slots.go:151", after := #[], guard := none }
abbrev fiI1 : Oper := { dst := some 33, op := Op.call { callee := Callee.value (Operand.func 59), args := #[Operand.tmp 32], argTypes := #[87] }, type := 4, pos := "slots.go:151", after := #[{ on := 0, ground := Ground.data }], guard := none }
abbrev fiI2 : Oper := { dst := some 34, op := Op.move (Operand.tmp 33), type := 4, pos := "slots.go:151", after := #[{ on := 1, ground := Ground.data }, { on := 1, ground := Ground.chain }], guard := none }
abbrev fiI3 : Oper := { dst := some 35, op := Op.move (Operand.tmp 6), type := 87, pos := "slots.go:151", after := #[{ on := 2, ground := Ground.guard }], guard := some (2, false) }
abbrev fiI4 : Oper := { dst := some 36, op := Op.nilCheck (Operand.tmp 35), type := 0, pos := "slots.go:151", after := #[{ on := 3, ground := Ground.data }, { on := 2, ground := Ground.guard }], guard := some (2, false) }
abbrev fiI5 : Oper := { dst := some 37, op := Op.fieldAddr 89 (Operand.tmp 36) 0, type := 0, pos := "slots.go:151", after := #[{ on := 4, ground := Ground.data }, { on := 2, ground := Ground.guard }], guard := some (2, false) }
abbrev fiI6 : Oper := { dst := some 38, op := Op.load 41 (Operand.tmp 37), type := 41, pos := "slots.go:151", after := #[{ on := 5, ground := Ground.data }, { on := 2, ground := Ground.guard }], guard := some (2, false) }
abbrev fiI7 : Oper := { dst := some 39, op := Op.fieldAddr 43 (Operand.tmp 3) 1, type := 0, pos := "slots.go:151", after := #[{ on := 2, ground := Ground.guard }], guard := some (2, false) }
abbrev fiI8 : Oper := { dst := some 40, op := Op.load 41 (Operand.tmp 39), type := 41, pos := "slots.go:151", after := #[{ on := 7, ground := Ground.data }, { on := 2, ground := Ground.guard }], guard := some (2, false) }
abbrev fiI9 : Oper := { dst := some 41, op := Op.binOp BinOp.neq 41 (Operand.tmp 38) (Operand.tmp 40) 41, type := 4, pos := "slots.go:151", after := #[{ on := 6, ground := Ground.data }, { on := 8, ground := Ground.data }, { on := 2, ground := Ground.guard }], guard := some (2, false) }
abbrev fiI10 : Oper := { dst := some 42, op := Op.pick (Operand.tmp 34) (Operand.const (Value.bool true)) (Operand.tmp 41), type := 4, pos := "slots.go:151", after := #[{ on := 2, ground := Ground.data }, { on := 9, ground := Ground.data }], guard := none }

variable {w : World} {B : Nat} {F : Nat → Prop} {p : Nat} {l : List (ThG Int)} {M g : Nat}

set_option maxRecDepth 100000 in
set_option maxHeartbeats 4000000 in
theorem find_isI_at (h : TbI w B F p l M g) {i : Nat} (hi : i < M) {G : Int} (hG : (gens l ((i : Int) + 1) : Int) = G) (hr : sloR l ((i : Int) + 1) ≠ 0) :
    Calls Try.prog 48 #[.pointer (some ⟨p, 0, none⟩), hv ((i : Int) + 1) G] w fun e w' => e = .returned (.tuple #[.pointer (some ⟨g, i * 3, none⟩), .int .i64 0]) ∧ Below w.heap.size w w' := by
  have hz : decide (sloR l ((i : Int) + 1) = 0) = false := decide_eq_false hr
  subst hG
  have hm1 := h.m1
  have hm2 := h.m2
  obtain ⟨w1, hw1⟩ : ∃ w1, w.alloc (.cells #[.int .u32 ((i : Int) + 1), .int .u32 (gens l ((i : Int) + 1) : Int)] 43) = w1 := ⟨_, rfl⟩
  have hB1 : Below w.heap.size w w1 := by rw [← hw1]; exact below1 _ _
  have h1 := h.below hB1
  have hn : w1.heap[w.heap.size]? = some (.cells #[.int .u32 ((i : Int) + 1), .int .u32 (gens l ((i : Int) + 1) : Int)] 43) := by rw [← hw1]; exact heap_new _ _
  have HB := hide hB1
  obtain ⟨c0, -, -⟩ := h1.cells
  have y0 : w1.cell? ⟨w.heap.size, 0, none⟩ = some (.int .u32 ((i : Int) + 1)) := by simp [Lib.cell_of_heap hn]
  have eM : IntKind.u64.wrap (M : Int) = M := by rw [IntKind.wrap_u64]; omega
  go_enter Try.func48, Try.ntmps48
  go_wp2
  clear hw1 h
  have HH := hide (fun wq (k : Ch (fun _ => False) w1 wq) => have e := Lib.cell_of_heap (k.box hn (fun h => h)); show wq.cell? ⟨w.heap.size, 0, none⟩ = some (.int .u32 ((i : Int) + 1)) ∧ wq.cell? ⟨w.heap.size, 1, none⟩ = some (.int .u32 (gens l ((i : Int) + 1) : Int)) from ⟨by simp [e], by simp [e]⟩)
  have HS := hide (fun wq (k : Ch (fun _ => False) w1 wq) => (h1.ch k (fun _ _ h => h)).slot hi)
  have e64 : IntKind.u64.wrap ((i : Int) + 1) = (i : Int) + 1 := by rw [IntKind.wrap_u64]; omega
  have e32 : IntKind.u32.wrap (i : Int) = (i : Int) := by rw [IntKind.wrap_u32]; omega
  have q0 : (((i : Int) + 1) == 0) = false := by simp; omega
  have q1 : decide ((M : Int) < (i : Int) + 1) = false := by simp; omega
  clear hn
  go_quiet (fail)
  go_wp2
  go_quiet (fail)
  go_wp2
  have CW := hide (fun n m => show Ch (fun _ => False) w1 ((w1.drewN n).drewN m) from (Ch.drewN _ _).trans (Ch.drewN _ _) (fun _ _ h => h))
  clear c0 y0 h1
  have qg : ((gens l ((i : Int) + 1) : Int) == (gens l ((i : Int) + 1) : Int)) = true := by simp
  refine wp_gen (R := Ch (fun _ => False) w1) (CW.out _ _) ?_
  clear CW
  intro W cw
  have CW := hide cw
  clear cw
  refine wp_region_held_drew (S := Ch (fun _ => False) w1) (by kernel_rfl) (CW.out.trans (Ch.drew _) (fun _ _ h => h)) (fun zk => ?_)
  apply tk 0 fiI0 rfl (by kernel_rfl) (fun _ _ _ h => h) zk
  · intro wq zq
    go_simp
    try rfl
  go_frame
  refine rd 1 fiI1 rfl (by kernel_rfl) fun K hK => ?_
  go_simp
  refine (empty_isI (HS.out _ zk).2.1).mono ?_
  rintro e w5 ⟨rfl, rfl⟩
  rw [hz]
  go_wp2_with fail
  refine hK.out _ _ ?_ (fun zk => ?_)
  · exact zk
  clear hK K
  try go_frame
  apply tk 2 fiI2 rfl (by kernel_rfl) (fun _ _ _ h => h) zk
  · intro wq zq
    go_simp
    try rfl
  go_frame
  apply tk 3 fiI3 rfl (by kernel_rfl) (fun _ _ _ h => h) zk
  · intro wq zq
    go_simp
    try rfl
  go_frame
  apply tk 4 fiI4 rfl (by kernel_rfl) (fun _ _ _ h => h) zk
  · intro wq zq
    go_simp
    try rfl
  go_frame
  apply tk 5 fiI5 rfl (by kernel_rfl) (fun _ _ _ h => h) zk
  · intro wq zq
    go_simp
    try rfl
  go_frame
  apply tk 6 fiI6 rfl (by kernel_rfl) (fun _ _ _ h => h) zk
  · intro wq zq
    have s0 := (HS.out _ zq).1
    go_simp
    try rfl
  go_frame
  apply tk 7 fiI7 rfl (by kernel_rfl) (fun _ _ _ h => h) zk
  · intro wq zq
    go_simp
    try rfl
  go_frame
  apply tk 8 fiI8 rfl (by kernel_rfl) (fun _ _ _ h => h) zk
  · intro wq zq
    have s1 := (HH.out _ zq).2
    go_simp
    try rfl
  go_frame
  apply tk 9 fiI9 rfl (by kernel_rfl) (fun _ _ _ h => h) zk
  · intro wq zq
    go_simp
    try rfl
  go_frame
  apply tk 10 fiI10 rfl (by kernel_rfl) (fun _ _ _ h => h) zk
  · intro wq zq
    go_simp
    try rfl
  go_frame
  refine wpAnyH_done (by kernel_rfl) ?_ _
  go_wp2
  go_ret2
  exact ⟨rfl, HB.out.trans (Below.mono (Ch.below (CW.out.trans (Ch.drew _) (fun _ _ h => h)) (N := w1.heap.size) (Nat.le_refl _) (fun _ _ h => h)) HB.out.size)⟩

set_option maxRecDepth 100000 in
set_option maxHeartbeats 4000000 in
theorem find_noI_at (h : TbI w B F p l M g) {i : Nat} (hi : i < M) {G : Int} (hG : sloR l ((i : Int) + 1) = 0 ∨ ¬ (gens l ((i : Int) + 1) : Int) = G) :
    Calls Try.prog 48 #[.pointer (some ⟨p, 0, none⟩), hv ((i : Int) + 1) G] w fun e w' => e = .returned (.tuple #[.pointer none, .int .i64 102]) ∧ Below w.heap.size w w' := by
  have hm1 := h.m1
  have hm2 := h.m2
  obtain ⟨w1, hw1⟩ : ∃ w1, w.alloc (.cells #[.int .u32 ((i : Int) + 1), .int .u32 G] 43) = w1 := ⟨_, rfl⟩
  have hB1 : Below w.heap.size w w1 := by rw [← hw1]; exact below1 _ _
  have h1 := h.below hB1
  have hn : w1.heap[w.heap.size]? = some (.cells #[.int .u32 ((i : Int) + 1), .int .u32 G] 43) := by rw [← hw1]; exact heap_new _ _
  have HB := hide hB1
  obtain ⟨c0, -, -⟩ := h1.cells
  have y0 : w1.cell? ⟨w.heap.size, 0, none⟩ = some (.int .u32 ((i : Int) + 1)) := by simp [Lib.cell_of_heap hn]
  have eM : IntKind.u64.wrap (M : Int) = M := by rw [IntKind.wrap_u64]; omega
  go_enter Try.func48, Try.ntmps48
  go_wp2
  clear hw1 h
  have HH := hide (fun wq (k : Ch (fun _ => False) w1 wq) => have e := Lib.cell_of_heap (k.box hn (fun h => h)); show wq.cell? ⟨w.heap.size, 0, none⟩ = some (.int .u32 ((i : Int) + 1)) ∧ wq.cell? ⟨w.heap.size, 1, none⟩ = some (.int .u32 G) from ⟨by simp [e], by simp [e]⟩)
  have HS := hide (fun wq (k : Ch (fun _ => False) w1 wq) => (h1.ch k (fun _ _ h => h)).slot hi)
  have e64 : IntKind.u64.wrap ((i : Int) + 1) = (i : Int) + 1 := by rw [IntKind.wrap_u64]; omega
  have e32 : IntKind.u32.wrap (i : Int) = (i : Int) := by rw [IntKind.wrap_u32]; omega
  have q0 : (((i : Int) + 1) == 0) = false := by simp; omega
  have q1 : decide ((M : Int) < (i : Int) + 1) = false := by simp; omega
  clear hn
  go_quiet (fail)
  go_wp2
  go_quiet (fail)
  go_wp2
  have CW := hide (fun n m => show Ch (fun _ => False) w1 ((w1.drewN n).drewN m) from (Ch.drewN _ _).trans (Ch.drewN _ _) (fun _ _ h => h))
  clear c0 y0 h1
  by_cases hr : sloR l ((i : Int) + 1) = 0
  · have hz : decide (sloR l ((i : Int) + 1) = 0) = true := decide_eq_true hr
    clear hG
    refine wp_gen (R := Ch (fun _ => False) w1) (CW.out _ _) ?_
    clear CW
    intro W cw
    have CW := hide cw
    clear cw
    refine wp_region_held_drew (S := Ch (fun _ => False) w1) (by kernel_rfl) (CW.out.trans (Ch.drew _) (fun _ _ h => h)) (fun zk => ?_)
    apply tk 0 fiI0 rfl (by kernel_rfl) (fun _ _ _ h => h) zk
    · intro wq zq
      go_simp
      try rfl
    go_frame
    refine rd 1 fiI1 rfl (by kernel_rfl) fun K hK => ?_
    go_simp
    refine (empty_isI (HS.out _ zk).2.1).mono ?_
    rintro e w5 ⟨rfl, rfl⟩
    rw [hz]
    go_wp2_with fail
    refine hK.out _ _ ?_ (fun zk => ?_)
    · exact zk
    clear hK K
    try go_frame
    apply tk 2 fiI2 rfl (by kernel_rfl) (fun _ _ _ h => h) zk
    · intro wq zq
      go_simp
      try rfl
    go_frame
    apply sk 3 fiI3 rfl (by kernel_rfl) (fun _ _ _ h => h) zk
    go_frame
    apply sk 4 fiI4 rfl (by kernel_rfl) (fun _ _ _ h => h) zk
    go_frame
    apply sk 5 fiI5 rfl (by kernel_rfl) (fun _ _ _ h => h) zk
    go_frame
    apply sk 6 fiI6 rfl (by kernel_rfl) (fun _ _ _ h => h) zk
    go_frame
    apply sk 7 fiI7 rfl (by kernel_rfl) (fun _ _ _ h => h) zk
    go_frame
    apply sk 8 fiI8 rfl (by kernel_rfl) (fun _ _ _ h => h) zk
    go_frame
    apply sk 9 fiI9 rfl (by kernel_rfl) (fun _ _ _ h => h) zk
    go_frame
    apply tk 10 fiI10 rfl (by kernel_rfl) (fun _ _ _ h => h) zk
    · intro wq zq
      go_simp
      try rfl
    go_frame
    refine wpAnyH_done (by kernel_rfl) ?_ _
    go_wp2
    go_ret2
    exact ⟨rfl, HB.out.trans (Below.mono (Ch.below (CW.out.trans (Ch.drew _) (fun _ _ h => h)) (N := w1.heap.size) (Nat.le_refl _) (fun _ _ h => h)) HB.out.size)⟩
  · have hz : decide (sloR l ((i : Int) + 1) = 0) = false := decide_eq_false hr
    have qg : ((gens l ((i : Int) + 1) : Int) == G) = false := by simpa using hG.resolve_left hr
    clear hG
    refine wp_gen (R := Ch (fun _ => False) w1) (CW.out _ _) ?_
    clear CW
    intro W cw
    have CW := hide cw
    clear cw
    refine wp_region_held_drew (S := Ch (fun _ => False) w1) (by kernel_rfl) (CW.out.trans (Ch.drew _) (fun _ _ h => h)) (fun zk => ?_)
    apply tk 0 fiI0 rfl (by kernel_rfl) (fun _ _ _ h => h) zk
    · intro wq zq
      go_simp
      try rfl
    go_frame
    refine rd 1 fiI1 rfl (by kernel_rfl) fun K hK => ?_
    go_simp
    refine (empty_isI (HS.out _ zk).2.1).mono ?_
    rintro e w5 ⟨rfl, rfl⟩
    rw [hz]
    go_wp2_with fail
    refine hK.out _ _ ?_ (fun zk => ?_)
    · exact zk
    clear hK K
    try go_frame
    apply tk 2 fiI2 rfl (by kernel_rfl) (fun _ _ _ h => h) zk
    · intro wq zq
      go_simp
      try rfl
    go_frame
    apply tk 3 fiI3 rfl (by kernel_rfl) (fun _ _ _ h => h) zk
    · intro wq zq
      go_simp
      try rfl
    go_frame
    apply tk 4 fiI4 rfl (by kernel_rfl) (fun _ _ _ h => h) zk
    · intro wq zq
      go_simp
      try rfl
    go_frame
    apply tk 5 fiI5 rfl (by kernel_rfl) (fun _ _ _ h => h) zk
    · intro wq zq
      go_simp
      try rfl
    go_frame
    apply tk 6 fiI6 rfl (by kernel_rfl) (fun _ _ _ h => h) zk
    · intro wq zq
      have s0 := (HS.out _ zq).1
      go_simp
      try rfl
    go_frame
    apply tk 7 fiI7 rfl (by kernel_rfl) (fun _ _ _ h => h) zk
    · intro wq zq
      go_simp
      try rfl
    go_frame
    apply tk 8 fiI8 rfl (by kernel_rfl) (fun _ _ _ h => h) zk
    · intro wq zq
      have s1 := (HH.out _ zq).2
      go_simp
      try rfl
    go_frame
    apply tk 9 fiI9 rfl (by kernel_rfl) (fun _ _ _ h => h) zk
    · intro wq zq
      go_simp
      try rfl
    go_frame
    apply tk 10 fiI10 rfl (by kernel_rfl) (fun _ _ _ h => h) zk
    · intro wq zq
      go_simp
      try rfl
    go_frame
    refine wpAnyH_done (by kernel_rfl) ?_ _
    go_wp2
    go_ret2
    exact ⟨rfl, HB.out.trans (Below.mono (Ch.below (CW.out.trans (Ch.drew _) (fun _ _ h => h)) (N := w1.heap.size) (Nat.le_refl _) (fun _ _ h => h)) HB.out.size)⟩

set_option maxRecDepth 100000 in
set_option maxHeartbeats 4000000 in
theorem find_noI_out (h : TbI w B F p l M g) {s G : Int} (hu : Us s) (hs : s = 0 ∨ (M : Int) < s) :
    Calls Try.prog 48 #[.pointer (some ⟨p, 0, none⟩), hv s G] w fun e w' => e = .returned (.tuple #[.pointer none, .int .i64 102]) ∧ Below w.heap.size w w' := by
  have e64 : IntKind.u64.wrap s = s := by have h1 := hu.1; have h2 := hu.2; rw [IntKind.wrap_u64]; omega
  have hm1 := h.m1
  have hm2 := h.m2
  obtain ⟨w1, hw1⟩ : ∃ w1, w.alloc (.cells #[.int .u32 s, .int .u32 G] 43) = w1 := ⟨_, rfl⟩
  have hB1 : Below w.heap.size w w1 := by rw [← hw1]; exact below1 _ _
  have h1 := h.below hB1
  have hn : w1.heap[w.heap.size]? = some (.cells #[.int .u32 s, .int .u32 G] 43) := by rw [← hw1]; exact heap_new _ _
  have HB := hide hB1
  obtain ⟨c0, -, -⟩ := h1.cells
  have y0 : w1.cell? ⟨w.heap.size, 0, none⟩ = some (.int .u32 s) := by simp [Lib.cell_of_heap hn]
  have eM : IntKind.u64.wrap (M : Int) = M := by rw [IntKind.wrap_u64]; omega
  go_enter Try.func48, Try.ntmps48
  go_wp2
  clear hw1 h
  by_cases h0 : s = 0
  · have q0 : (s == 0) = true := by simpa using h0
    go_quiet (fail)
    go_wp2
    go_ret2
    exact ⟨rfl, HB.out.trans ((below_dr _ _ _))⟩
  · have q0 : (s == 0) = false := by simpa using h0
    have q1 : decide ((M : Int) < s) = true := decide_eq_true (hs.resolve_left h0)
    go_quiet (fail)
    go_wp2
    go_ret2
    exact ⟨rfl, HB.out.trans ((below_dr _ _ _))⟩

/-- the handle does not live -/
theorem find_noI (h : TbI w B F p l M g) {s G : Int} (hu : Us s) (hB : fnB l s G = false) :
    Calls Try.prog 48 #[.pointer (some ⟨p, 0, none⟩), hv s G] w fun e w' => e = .returned (.tuple #[.pointer none, .int .i64 102]) ∧ Below w.heap.size w w' := by
  rcases gone_at h.wf h.lt hB hu.1 with e | e | ⟨i, hi, rfl, e⟩
  · exact find_noI_out h hu (Or.inl e)
  · exact find_noI_out h hu (Or.inr e)
  · exact find_noI_at h hi e
/-- it lives -/
theorem find_isI (h : TbI w B F p l M g) {s G : Int} (hB : fnB l s G = true) : ∃ i : Nat, i < M ∧ s = (i : Int) + 1 ∧ (gens l s : Int) = G ∧ sloR l s ≠ 0 ∧
    Calls Try.prog 48 #[.pointer (some ⟨p, 0, none⟩), hv s G] w fun e w' => e = .returned (.tuple #[.pointer (some ⟨g, i * 3, none⟩), .int .i64 0]) ∧ Below w.heap.size w w' := by
  obtain ⟨i, hi, rfl, e1, e2, _⟩ := live_at h.wf h.lt hB
  exact ⟨i, hi, rfl, e1, e2, find_isI_at h hi e1 e2⟩

end Go.Proofs.Ytcogiklnegpfiaa
