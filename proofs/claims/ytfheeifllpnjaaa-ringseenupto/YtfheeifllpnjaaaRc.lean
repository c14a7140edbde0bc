/- Layer 12: the landed ring of int's: Put, Take, At. -/
import Derived.Test.YtfheeifllpnjaaaRb
namespace Go.Proofs.Ytfheeifllpnjaaa
open Go.RowKit

abbrev rpi0 : Oper := { dst := some 17, op := Op.move (Operand.tmp 0), type := 24, pos := "ring.go:33", after := #[], guard := none }
abbrev rpi1 : Oper := { dst := some 18, op := Op.nilCheck (Operand.tmp 17), type := 0, pos := "ring.go:33", after := #[{ on := 0, ground := Ground.data }], guard := none }
abbrev rpi2 : Oper := { dst := some 19, op := Op.fieldAddr 60 (Operand.tmp 18) 0, type := 0, pos := "ring.go:33", after := #[{ on := 1, ground := Ground.data }], guard := none }
abbrev rpi3 : Oper := { dst := some 20, op := Op.load 29 (Operand.tmp 19), type := 29, pos := "ring.go:33", after := #[{ on := 2, ground := Ground.data }], guard := none }
abbrev rpi4 : Oper := { dst := some 21, op := Op.move (Operand.tmp 0), type := 24, pos := "ring.go:33", after := #[], guard := none }
abbrev rpi5 : Oper := { dst := some 22, op := Op.move (Operand.tmp 0), type := 24, pos := "ring.go:33", after := #[], guard := none }
abbrev rpi6 : Oper := { dst := some 23, op := Op.nilCheck (Operand.tmp 22), type := 0, pos := "ring.go:33", after := #[{ on := 5, ground := Ground.data }], guard := none }
abbrev rpi7 : Oper := { dst := some 24, op := Op.fieldAddr 60 (Operand.tmp 23) 2, type := 0, pos := "ring.go:33", after := #[{ on := 6, ground := Ground.data }], guard := none }
abbrev rpi8 : Oper := { dst := some 25, op := Op.load 3 (Operand.tmp 24), type := 3, pos := "ring.go:33", after := #[{ on := 7, ground := Ground.data }], guard := none }
abbrev rpi9 : Oper := { dst := some 26, op := Op.call { callee := Callee.value (Operand.func 25), args := #[Operand.tmp 21, Operand.tmp 25], argTypes := #[24, 3] }, type := 3, pos := "ring.go:33", after := #[{ on := 4, ground := Ground.data }, { on := 8, ground := Ground.data }], guard := none }
abbrev rpi10 : Oper := { dst := some 27, op := Op.move (Operand.tmp 1), type := 3, pos := "ring.go:33", after := #[], guard := none }
abbrev rpi11 : Oper := { dst := some 28, op := Op.indexAddr 29 (Operand.tmp 20) (Operand.tmp 26), type := 0, pos := "ring.go:33", after := #[{ on := 3, ground := Ground.data }, { on := 9, ground := Ground.data }, { on := 0, ground := Ground.phase }, { on := 1, ground := Ground.phase }, { on := 2, ground := Ground.phase }, { on := 3, ground := Ground.phase }, { on := 4, ground := Ground.phase }, { on := 5, ground := Ground.phase }, { on := 6, ground := Ground.phase }, { on := 7, ground := Ground.phase }, { on := 8, ground := Ground.phase }, { on := 9, ground := Ground.phase }, { on := 10, ground := Ground.phase }], guard := none }
abbrev rpi12 : Oper := { dst := none, op := Op.store 3 (Operand.tmp 28) (Operand.tmp 27), type := 0, pos := "ring.go:33", after := #[{ on := 11, ground := Ground.data }, { on := 10, ground := Ground.data }, { on := 9, ground := Ground.chain }, { on := 0, ground := Ground.phase }, { on := 1, ground := Ground.phase }, { on := 2, ground := Ground.phase }, { on := 3, ground := Ground.phase }, { on := 4, ground := Ground.phase }, { on := 5, ground := Ground.phase }, { on := 6, ground := Ground.phase }, { on := 7, ground := Ground.phase }, { on := 8, ground := Ground.phase }, { on := 9, ground := Ground.phase }, { on := 10, ground := Ground.phase }], guard := none }
abbrev rai0 : Oper := { dst := some 22, op := Op.move (Operand.tmp 0), type := 24, pos := "ring.go:61", after := #[], guard := none }
abbrev rai1 : Oper := { dst := some 23, op := Op.nilCheck (Operand.tmp 22), type := 0, pos := "ring.go:61", after := #[{ on := 0, ground := Ground.data }], guard := none }
abbrev rai2 : Oper := { dst := some 24, op := Op.fieldAddr 60 (Operand.tmp 23) 0, type := 0, pos := "ring.go:61", after := #[{ on := 1, ground := Ground.data }], guard := none }
abbrev rai3 : Oper := { dst := some 25, op := Op.load 29 (Operand.tmp 24), type := 29, pos := "ring.go:61", after := #[{ on := 2, ground := Ground.data }], guard := none }
abbrev rai4 : Oper := { dst := some 26, op := Op.move (Operand.tmp 0), type := 24, pos := "ring.go:61", after := #[], guard := none }
abbrev rai5 : Oper := { dst := some 27, op := Op.move (Operand.tmp 1), type := 3, pos := "ring.go:61", after := #[], guard := none }
abbrev rai6 : Oper := { dst := some 28, op := Op.call { callee := Callee.value (Operand.func 25), args := #[Operand.tmp 26, Operand.tmp 27], argTypes := #[24, 3] }, type := 3, pos := "ring.go:61", after := #[{ on := 4, ground := Ground.data }, { on := 5, ground := Ground.data }], guard := none }
abbrev rai7 : Oper := { dst := some 29, op := Op.indexAddr 29 (Operand.tmp 25) (Operand.tmp 28), type := 0, pos := "ring.go:61", after := #[{ on := 3, ground := Ground.data }, { on := 6, ground := Ground.data }], guard := none }
abbrev rai8 : Oper := { dst := some 30, op := Op.load 3 (Operand.tmp 29), type := 3, pos := "ring.go:61", after := #[{ on := 7, ground := Ground.data }], guard := none }
abbrev rai9 : Oper := { dst := some 4, op := Op.assign (Operand.tmp 30), type := 3, pos := "ring.go:61", after := #[{ on := 8, ground := Ground.data }, { on := 6, ground := Ground.chain }, { on := 0, ground := Ground.phase }, { on := 1, ground := Ground.phase }, { on := 2, ground := Ground.phase }, { on := 3, ground := Ground.phase }, { on := 4, ground := Ground.phase }, { on := 5, ground := Ground.phase }, { on := 6, ground := Ground.phase }, { on := 7, ground := Ground.phase }, { on := 8, ground := Ground.phase }], guard := none }
abbrev rai10 : Oper := { dst := some 5, op := Op.assign (Operand.const (Value.int IntKind.i64 0)), type := 25, pos := "ring.go:61", after := #[{ on := 9, ground := Ground.chain }, { on := 0, ground := Ground.phase }, { on := 1, ground := Ground.phase }, { on := 2, ground := Ground.phase }, { on := 3, ground := Ground.phase }, { on := 4, ground := Ground.phase }, { on := 5, ground := Ground.phase }, { on := 6, ground := Ground.phase }, { on := 7, ground := Ground.phase }, { on := 8, ground := Ground.phase }, { on := 9, ground := Ground.phase }], guard := none }
abbrev rsi0 : Oper := { dst := some 25, op := Op.move (Operand.tmp 0), type := 24, pos := "ring.go:49", after := #[], guard := none }
abbrev rsi1 : Oper := { dst := some 26, op := Op.nilCheck (Operand.tmp 25), type := 0, pos := "ring.go:49", after := #[{ on := 0, ground := Ground.data }], guard := none }
abbrev rsi2 : Oper := { dst := some 27, op := Op.fieldAddr 60 (Operand.tmp 26) 0, type := 0, pos := "ring.go:49", after := #[{ on := 1, ground := Ground.data }], guard := none }
abbrev rsi3 : Oper := { dst := some 28, op := Op.load 29 (Operand.tmp 27), type := 29, pos := "ring.go:49", after := #[{ on := 2, ground := Ground.data }], guard := none }
abbrev rsi4 : Oper := { dst := some 29, op := Op.move (Operand.tmp 0), type := 24, pos := "ring.go:49", after := #[], guard := none }
abbrev rsi5 : Oper := { dst := some 30, op := Op.nilCheck (Operand.tmp 29), type := 0, pos := "ring.go:49", after := #[{ on := 4, ground := Ground.data }], guard := none }
abbrev rsi6 : Oper := { dst := some 31, op := Op.fieldAddr 60 (Operand.tmp 30) 1, type := 0, pos := "ring.go:49", after := #[{ on := 5, ground := Ground.data }], guard := none }
abbrev rsi7 : Oper := { dst := some 32, op := Op.load 3 (Operand.tmp 31), type := 3, pos := "ring.go:49", after := #[{ on := 6, ground := Ground.data }], guard := none }
abbrev rsi8 : Oper := { dst := some 33, op := Op.move (Operand.tmp 4), type := 3, pos := "ring.go:49", after := #[], guard := none }
abbrev rsi9 : Oper := { dst := some 34, op := Op.indexAddr 29 (Operand.tmp 28) (Operand.tmp 32), type := 0, pos := "ring.go:49", after := #[{ on := 3, ground := Ground.data }, { on := 7, ground := Ground.data }, { on := 0, ground := Ground.phase }, { on := 1, ground := Ground.phase }, { on := 2, ground := Ground.phase }, { on := 3, ground := Ground.phase }, { on := 4, ground := Ground.phase }, { on := 5, ground := Ground.phase }, { on := 6, ground := Ground.phase }, { on := 7, ground := Ground.phase }, { on := 8, ground := Ground.phase }], guard := none }
abbrev rsi10 : Oper := { dst := none, op := Op.store 3 (Operand.tmp 34) (Operand.tmp 33), type := 0, pos := "ring.go:49", after := #[{ on := 9, ground := Ground.data }, { on := 8, ground := Ground.data }, { on := 0, ground := Ground.phase }, { on := 1, ground := Ground.phase }, { on := 2, ground := Ground.phase }, { on := 3, ground := Ground.phase }, { on := 4, ground := Ground.phase }, { on := 5, ground := Ground.phase }, { on := 6, ground := Ground.phase }, { on := 7, ground := Ground.phase }, { on := 8, ground := Ground.phase }], guard := none }

theorem map_setI (pl : List Int) (i : Nat) (x : Int) : (pl.map vfI).toArray.setIfInBounds i (vfI x) = ((pl.set i x).map vfI).toArray := by
  simp [List.map_set]

section
variable {w w' : World} {B : Nat} {F : Nat → Prop} {p : Nat} {xs : List Int} {n g f : Nat} {pl : List Int}

set_option maxRecDepth 100000 in
set_option maxHeartbeats 2000000 in
theorem put_fullI (h : RgI w B F p xs n g f pl) (x : Int) (hn : xs.length = n) : Calls Try.prog 9 #[.pointer (some ⟨p, 0, none⟩), vfI x] w fun e w' => e = .returned (.int .i64 121) ∧ Below w.heap.size w w' := by
  obtain ⟨c0, -, c2⟩ := h.cells
  have q : ((xs.length : Int) == (n : Int)) = true := by simp [hn]
  clear hn
  unfold vfI
  go_enter Try.func9, Try.ntmps9
  go_wp2
  go_quiet (fail)
  go_wp2
  go_ret
  exact ⟨rfl, below_dr _ _ _⟩

set_option maxRecDepth 100000 in
set_option maxHeartbeats 2000000 in
theorem put_okI (h : RgI w B F p xs n g f pl) (x : Int) (hn : xs.length < n) : Calls Try.prog 9 #[.pointer (some ⟨p, 0, none⟩), vfI x] w fun e w' => e = .returned (.int .i64 0) ∧ RgI w' B F p (xs ++ [x]) n g f (pl.set (plc n f xs.length) x) ∧ Ch F w w' := by
  obtain ⟨c0, -, c2⟩ := h.cells
  have q : ((xs.length : Int) == (n : Int)) = false := by simp; omega
  have hn1 := h.n1
  have hf := h.lies.f_lt (by omega)
  obtain ⟨k, hk⟩ : ∃ k, plc n f xs.length = k := ⟨_, rfl⟩
  have hkn : k < n := by rw [← hk]; exact plc_lt hf hn
  have hx1 : xs.length ≤ 100 := by omega
  have HK := hide hk
  have HN := hide hn
  have H := hide h
  clear hk hn h
  unfold vfI
  go_enter Try.func9, Try.ntmps9
  go_wp2
  go_quiet (fail)
  go_wp2_with fail
  clear c0 c2
  refine wp_reg (fun y => y = g) (R := fun W => RgI W B F p xs n g f pl ∧ Ch (fun _ => False) w W) (by kernel_rfl) ⟨H.out.ch ((Ch.drewN w _).trans (Ch.drew _) (fun _ _ h => h)) (fun _ _ h => h), (Ch.drewN w _).trans (Ch.drew _) (fun _ _ h => h)⟩ ?_
  rintro V ⟨hv, hcv⟩ zk
  have HV := hide hv
  have HC := hide hcv
  have hnp : ¬ p = g := fun e => hv.ne e.symm
  have HG := hide (fun wq (zq : Ch (fun y => y = g) V wq) => have e := Lib.cell_of_heap (zq.box HV.out.box hnp); show wq.cell? ⟨p, 0, none⟩ = some (.slice (some ⟨g, 0, none⟩) n n) ∧ wq.cell? ⟨p, 2, none⟩ = some (.int .i64 (xs.length : Int)) from ⟨by simp [e], by simp [e]⟩)
  clear hv hcv
  apply tk 0 rpi0 rfl (by kernel_rfl) (fun _ _ _ h => h) zk
  · intro wq zq
    go_simp
    try rfl
  go_frame
  apply tk 1 rpi1 rfl (by kernel_rfl) (fun _ _ _ h => h) zk
  · intro wq zq
    go_simp
    try rfl
  go_frame
  apply tk 2 rpi2 rfl (by kernel_rfl) (fun _ _ _ h => h) zk
  · intro wq zq
    go_simp
    try rfl
  go_frame
  apply tk 3 rpi3 rfl (by kernel_rfl) (fun _ _ _ h => h) zk
  · intro wq zq
    obtain ⟨s1, s2⟩ := HG.out _ zq
    go_simp
    try rfl
  go_frame
  apply tk 4 rpi4 rfl (by kernel_rfl) (fun _ _ _ h => h) zk
  · intro wq zq
    go_simp
    try rfl
  go_frame
  apply tk 5 rpi5 rfl (by kernel_rfl) (fun _ _ _ h => h) zk
  · intro wq zq
    go_simp
    try rfl
  go_frame
  apply tk 6 rpi6 rfl (by kernel_rfl) (fun _ _ _ h => h) zk
  · intro wq zq
    go_simp
    try rfl
  go_frame
  apply tk 7 rpi7 rfl (by kernel_rfl) (fun _ _ _ h => h) zk
  · intro wq zq
    go_simp
    try rfl
  go_frame
  apply tk 8 rpi8 rfl (by kernel_rfl) (fun _ _ _ h => h) zk
  · intro wq zq
    obtain ⟨s1, s2⟩ := HG.out _ zq
    go_simp
    try rfl
  go_frame
  apply tk 10 rpi10 rfl (by kernel_rfl) (fun _ _ _ h => h) zk
  · intro wq zq
    go_simp
    try rfl
  go_frame
  obtain ⟨b0, b1, b2⟩ := HV.out.cells
  refine rd 9 rpi9 rfl (by kernel_rfl) fun K hK => ?_
  go_simp
  refine (place_isI b0 b1 (by omega) hn1 xs.length k hx1 HK.out).mono ?_
  rintro e V ⟨rfl, rfl⟩
  clear b0 b1 b2
  go_wp2_with fail
  refine hK.out _ _ ?_ (fun zk => ?_)
  · exact Ch.refl _ _
  clear hK K
  try go_frame
  apply tk 11 rpi11 rfl (by kernel_rfl) (fun _ _ _ h => h) zk
  · intro wq zq
    go_simp
    try rfl
  go_frame
  obtain ⟨v0, hv0⟩ : ∃ v0, pl[k]? = some v0 := ⟨pl[k]'(by rw [HV.out.lies.len]; exact hkn), List.getElem?_eq_getElem _⟩
  have b0 := HV.out.cell hv0
  have fz := (HV.out.fz k).2
  refine Go.Proofs.Ytfheeifllpnjaaa.rd 12 rpi12 rfl (by kernel_rfl) fun K hK => ?_
  go_simp
  refine genK (R := fun W => W.heap[p]? = some (.cells #[.slice (some ⟨g, 0, none⟩) n n, .int .i64 (f : Int), .int .i64 (xs.length : Int)] 60 (0, 0)) ∧ W.heap[g]? = some (.cells ((pl.set k x).map vfI).toArray 3 (0, 0)) ∧ Ch (fun y => y = g) V W) ⟨(Ch.set (Q := fun y => y = g) _ rfl _ _).box HV.out.box hnp, (heap_set HV.out.row _ _).trans (by rw [← map_setI]; rfl), Ch.set (Q := fun y => y = g) _ rfl _ _⟩ ?_
  rintro W2 ⟨hb, hr, hc⟩
  clear zk
  refine hK.out _ _ ?_ (fun zk => ?_)
  · exact hc
  clear hK K
  try go_frame
  refine wpAnyH_done (by kernel_rfl) ?_ _
  have HB := hide hb
  have HR := hide hr
  have HC2 := hide hc
  have c2 : W2.cell? ⟨p, 2, none⟩ = some (.int .i64 (xs.length : Int)) := by simp [Lib.cell_of_heap hb]
  have fp : ∀ o, W2.frozen? ⟨p, o, none⟩ = false := by simp [World.frozen?, hb]
  have e1 : IntKind.i64.wrap ((xs.length : Int) + 1) = ((xs.length + 1 : Nat) : Int) := by rw [IntKind.wrap_i64]; omega
  clear b0 fz hb hr hc hv0
  go_wp2_with fail
  go_ret
  refine ⟨rfl, ⟨?_, ?_, ?_, HV.out.lo, HV.out.lg, hn1, HV.out.foot⟩, ?_⟩
  · rw [heap_set HB.out 2 _, List.length_append, List.length_singleton]
    rfl
  · rw [HK.out]
    exact (Ch.set (Q := fun y => y = p) _ rfl _ _).box HR.out HV.out.ne
  · exact HV.out.lies.put HN.out x
  · exact ((HC.out.mono (Q' := F) (fun _ _ h => h.elim)).trans HC2.out (fun y _ e => (HV.out.foot y).2 (Or.inr e))).trans (Ch.set (Q := fun y => y = p) _ rfl _ _) (fun y _ e => (HV.out.foot y).2 (Or.inl e))

set_option maxRecDepth 100000 in
set_option maxHeartbeats 2000000 in
theorem take_noI (h : RgI w B F p [] n g f pl) : Calls Try.prog 11 #[.pointer (some ⟨p, 0, none⟩)] w fun e w' => e = .returned (.tuple #[vfI 0, .int .i64 122]) ∧ Below w.heap.size w w' := by
  obtain ⟨-, -, c2⟩ := h.cells
  have c2 : w.cell? ⟨p, 2, none⟩ = some (.int .i64 0) := c2
  unfold vfI
  go_enter Try.func11, Try.ntmps11
  go_wp2
  go_ret2
  exact ⟨rfl, Below.refl _ _⟩

set_option maxRecDepth 100000 in
set_option maxHeartbeats 2000000 in
theorem take_okI {x : Int} (h : RgI w B F p (x :: xs) n g f pl) : Calls Try.prog 11 #[.pointer (some ⟨p, 0, none⟩)] w fun e w' => e = .returned (.tuple #[vfI x, .int .i64 0]) ∧ RgI w' B F p xs n g (plc n f 1) (pl.set f 0) ∧ Ch F w w' := by
  obtain ⟨c0, c1, c2⟩ := h.cells
  obtain ⟨hl, hx⟩ := h.lies.take 0
  have hc := h.lies.cnt
  have hn1 := h.n1
  rw [List.length_cons] at hc c2
  have hf := h.lies.f_lt (by omega)
  have q : (((xs.length + 1 : Nat) : Int) == 0) = false := by simp; omega
  have cx := h.cell hx
  unfold vfI at cx
  have hfn : (f : Int) < (n : Int) := by omega
  have HX := hide hx
  have hf1 : f ≤ 100 := by omega
  have HL := hide hl
  have H := hide h
  have hnp : ¬ p = g := fun e => h.ne e.symm
  obtain ⟨k, hk⟩ : ∃ k, plc n f 1 = k := ⟨_, rfl⟩
  have HK := hide hk
  have fp := fun o => (h.fz o).1
  have fg := fun o => (h.fz o).2
  have e1 : IntKind.i64.wrap (((xs.length + 1 : Nat) : Int) - 1) = (xs.length : Int) := by rw [IntKind.wrap_i64]; omega
  clear hl hx h hk
  unfold vfI
  go_enter Try.func11, Try.ntmps11
  go_wp2_with fail
  go_quiet (fail)
  go_wp2_with fail
  clear c0 c1 c2 cx fp fg
  refine wp_reg (fun y => y = g) (R := fun W => RgI W B F p (x :: xs) n g f pl ∧ Ch (fun _ => False) w W) (by kernel_rfl) ⟨H.out.ch ((Ch.drewN w _).trans (Ch.drew _) (fun _ _ h => h)) (fun _ _ h => h), (Ch.drewN w _).trans (Ch.drew _) (fun _ _ h => h)⟩ ?_
  rintro V ⟨hv, hcv⟩ zk
  have HV := hide hv
  have HC := hide hcv
  have HG := hide (fun wq (zq : Ch (fun y => y = g) V wq) => have e := Lib.cell_of_heap (zq.box HV.out.box hnp); show wq.cell? ⟨p, 0, none⟩ = some (.slice (some ⟨g, 0, none⟩) n n) ∧ wq.cell? ⟨p, 1, none⟩ = some (.int .i64 (f : Int)) from ⟨by simp [e], by simp [e]⟩)
  clear hv hcv
  apply tk 0 rsi0 rfl (by kernel_rfl) (fun _ _ _ h => h) zk
  · intro wq zq
    go_simp
    try rfl
  go_frame
  apply tk 1 rsi1 rfl (by kernel_rfl) (fun _ _ _ h => h) zk
  · intro wq zq
    go_simp
    try rfl
  go_frame
  apply tk 2 rsi2 rfl (by kernel_rfl) (fun _ _ _ h => h) zk
  · intro wq zq
    go_simp
    try rfl
  go_frame
  apply tk 3 rsi3 rfl (by kernel_rfl) (fun _ _ _ h => h) zk
  · intro wq zq
    obtain ⟨s1, s2⟩ := HG.out _ zq
    go_simp
    try rfl
  go_frame
  apply tk 4 rsi4 rfl (by kernel_rfl) (fun _ _ _ h => h) zk
  · intro wq zq
    go_simp
    try rfl
  go_frame
  apply tk 5 rsi5 rfl (by kernel_rfl) (fun _ _ _ h => h) zk
  · intro wq zq
    go_simp
    try rfl
  go_frame
  apply tk 6 rsi6 rfl (by kernel_rfl) (fun _ _ _ h => h) zk
  · intro wq zq
    go_simp
    try rfl
  go_frame
  apply tk 7 rsi7 rfl (by kernel_rfl) (fun _ _ _ h => h) zk
  · intro wq zq
    obtain ⟨s1, s2⟩ := HG.out _ zq
    go_simp
    try rfl
  go_frame
  apply tk 8 rsi8 rfl (by kernel_rfl) (fun _ _ _ h => h) zk
  · intro wq zq
    go_simp
    try rfl
  go_frame
  apply tk 9 rsi9 rfl (by kernel_rfl) (fun _ _ _ h => h) zk
  · intro wq zq
    go_simp
    try rfl
  go_frame
  have b0 := HV.out.cell HX.out
  have fz := (HV.out.fz f).2
  refine Go.Proofs.Ytfheeifllpnjaaa.rd 10 rsi10 rfl (by kernel_rfl) fun K hK => ?_
  go_simp
  refine genK (R := fun W => W.heap[p]? = some (.cells #[.slice (some ⟨g, 0, none⟩) n n, .int .i64 (f : Int), .int .i64 ((xs.length + 1 : Nat) : Int)] 60 (0, 0)) ∧ W.heap[g]? = some (.cells ((pl.set f 0).map vfI).toArray 3 (0, 0)) ∧ Ch (fun y => y = g) V W) ⟨(Ch.set (Q := fun y => y = g) _ rfl _ _).box HV.out.box hnp, (heap_set HV.out.row _ _).trans (by rw [← map_setI]; rfl), Ch.set (Q := fun y => y = g) _ rfl _ _⟩ ?_
  rintro W2 ⟨hb, hr, hc2⟩
  clear zk
  refine hK.out _ _ ?_ (fun zk => ?_)
  · exact hc2
  clear hK K
  try go_frame
  refine wpAnyH_done (by kernel_rfl) ?_ _
  have HB := hide hb
  have HR := hide hr
  have HC2 := hide hc2
  have c0 : W2.cell? ⟨p, 0, none⟩ = some (.slice (some ⟨g, 0, none⟩) n n) := by simp [Lib.cell_of_heap hb]
  have c1 : W2.cell? ⟨p, 1, none⟩ = some (.int .i64 (f : Int)) := by simp [Lib.cell_of_heap hb]
  have c2 : W2.cell? ⟨p, 2, none⟩ = some (.int .i64 ((xs.length + 1 : Nat) : Int)) := by simp [Lib.cell_of_heap hb]
  have fp : ∀ o, W2.frozen? ⟨p, o, none⟩ = false := by simp [World.frozen?, hb]
  clear b0 fz hb hr hc2
  go_wp2_with (go_at_call 25; refine (place_isI c0 c1 hf1 hn1 1 k (by decide) HK.out).mono ?_; rintro e W2 ⟨rfl, rfl⟩)
  go_ret2
  refine ⟨rfl, ⟨?_, ?_, ?_, HV.out.lo, HV.out.lg, hn1, HV.out.foot⟩, ?_⟩
  · rw [heap_set (heap_set HB.out 1 _) 2 _, HK.out]
    rfl
  · exact (Ch.set (Q := fun y => y = p) _ rfl _ _).box ((Ch.set (Q := fun y => y = p) _ rfl _ _).box HR.out HV.out.ne) HV.out.ne
  · exact HL.out
  · exact (((HC.out.mono (Q' := F) (fun _ _ h => h.elim)).trans HC2.out (fun y _ e => (HV.out.foot y).2 (Or.inr e))).trans (Ch.set (Q := fun y => y = p) _ rfl _ _) (fun y _ e => (HV.out.foot y).2 (Or.inl e))).trans (Ch.set (Q := fun y => y = p) _ rfl _ _) (fun y _ e => (HV.out.foot y).2 (Or.inl e))

set_option maxRecDepth 100000 in
set_option maxHeartbeats 2000000 in
theorem at_noI (h : RgI w B F p xs n g f pl) (i : Int) (hi : i < 0 ∨ (xs.length : Int) ≤ i) : Calls Try.prog 13 #[.pointer (some ⟨p, 0, none⟩), .int .i64 i] w fun e w' => e = .returned (.tuple #[vfI 0, .int .i64 1]) ∧ Below w.heap.size w w' := by
  obtain ⟨-, -, c2⟩ := h.cells
  unfold vfI
  by_cases h0 : i < 0
  · have q0 : decide (i < 0) = true := decide_eq_true h0
    clear hi h0
    go_enter Try.func13, Try.ntmps13
    go_wp2
    go_ret2
    exact ⟨rfl, Below.refl _ _⟩
  · have q0 : decide (i < 0) = false := decide_eq_false h0
    have q1 : decide ((xs.length : Int) ≤ i) = true := decide_eq_true (by omega)
    clear hi h0
    go_enter Try.func13, Try.ntmps13
    go_wp2
    go_ret2
    exact ⟨rfl, Below.refl _ _⟩

set_option maxRecDepth 100000 in
set_option maxHeartbeats 2000000 in
theorem at_okI (h : RgI w B F p xs n g f pl) (i : Int) (m : Nat) (em : i = m) (hm : m < xs.length) (x : Int) (hx : xs[m] = x) : Calls Try.prog 13 #[.pointer (some ⟨p, 0, none⟩), .int .i64 i] w fun e w' => e = .returned (.tuple #[vfI x, .int .i64 0]) ∧ Below w.heap.size w w' := by
  subst em
  obtain ⟨c0, c1, c2⟩ := h.cells
  have hc := h.lies.cnt
  have hn1 := h.n1
  have hf := h.lies.f_lt (by omega)
  have q0 : decide ((m : Int) < 0) = false := decide_eq_false (by omega)
  have q1 : decide ((xs.length : Int) ≤ (m : Int)) = false := decide_eq_false (by omega)
  have q2 : ¬ xs.length ≤ m := by omega
  obtain ⟨k, hk⟩ : ∃ k, plc n f m = k := ⟨_, rfl⟩
  have hkn : k < n := by rw [← hk]; exact plc_lt hf (by omega)
  have hp := h.lies.get hm
  rw [hk, hx] at hp
  have ck := h.cell hp
  unfold vfI at ck
  have hm1 : m ≤ 100 := by omega
  have hf1 : f ≤ 100 := by omega
  have HPL := hide (fun m' => place_isI (w := w.drewN m') c0 c1 hf1 hn1 m k hm1 hk)
  clear hp hk h hx hm hc
  unfold vfI
  go_enter Try.func13, Try.ntmps13
  go_wp2_with fail
  go_quiet ((go_at_call 25; exact Calls.quiet_of_same (HPL.out _)))
  go_wp2_with fail
  go_ret2
  exact ⟨rfl, below_dr _ _ _⟩

end
end Go.Proofs.Ytfheeifllpnjaaa
