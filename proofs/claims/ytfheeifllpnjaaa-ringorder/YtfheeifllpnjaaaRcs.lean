/- Layer 12: the landed ring of string's: Put, Take, At. -/
import Derived.Test.YtfheeifllpnjaaaRbs
namespace Go.Proofs.Ytfheeifllpnjaaa
open Go.RowKit

abbrev rps0 : Oper := { dst := some 17, op := Op.move (Operand.tmp 0), type := 45, pos := "ring.go:33", after := #[], guard := none }
abbrev rps1 : Oper := { dst := some 18, op := Op.nilCheck (Operand.tmp 17), type := 0, pos := "ring.go:33", after := #[{ on := 0, ground := Ground.data }], guard := none }
abbrev rps2 : Oper := { dst := some 19, op := Op.fieldAddr 64 (Operand.tmp 18) 0, type := 0, pos := "ring.go:33", after := #[{ on := 1, ground := Ground.data }], guard := none }
abbrev rps3 : Oper := { dst := some 20, op := Op.load 62 (Operand.tmp 19), type := 62, pos := "ring.go:33", after := #[{ on := 2, ground := Ground.data }], guard := none }
abbrev rps4 : Oper := { dst := some 21, op := Op.move (Operand.tmp 0), type := 45, pos := "ring.go:33", after := #[], guard := none }
abbrev rps5 : Oper := { dst := some 22, op := Op.move (Operand.tmp 0), type := 45, pos := "ring.go:33", after := #[], guard := none }
abbrev rps6 : Oper := { dst := some 23, op := Op.nilCheck (Operand.tmp 22), type := 0, pos := "ring.go:33", after := #[{ on := 5, ground := Ground.data }], guard := none }
abbrev rps7 : Oper := { dst := some 24, op := Op.fieldAddr 64 (Operand.tmp 23) 2, type := 0, pos := "ring.go:33", after := #[{ on := 6, ground := Ground.data }], guard := none }
abbrev rps8 : Oper := { dst := some 25, op := Op.load 3 (Operand.tmp 24), type := 3, pos := "ring.go:33", after := #[{ on := 7, ground := Ground.data }], guard := none }
abbrev rps9 : Oper := { dst := some 26, op := Op.call { callee := Callee.value (Operand.func 26), args := #[Operand.tmp 21, Operand.tmp 25], argTypes := #[45, 3] }, type := 3, pos := "ring.go:33", after := #[{ on := 4, ground := Ground.data }, { on := 8, ground := Ground.data }], guard := none }
abbrev rps10 : Oper := { dst := some 27, op := Op.move (Operand.tmp 1), type := 9, pos := "ring.go:33", after := #[], guard := none }
abbrev rps11 : Oper := { dst := some 28, op := Op.indexAddr 62 (Operand.tmp 20) (Operand.tmp 26), type := 0, pos := "ring.go:33", after := #[{ on := 3, ground := Ground.data }, { on := 9, ground := Ground.data }, { on := 0, ground := Ground.phase }, { on := 1, ground := Ground.phase }, { on := 2, ground := Ground.phase }, { on := 3, ground := Ground.phase }, { on := 4, ground := Ground.phase }, { on := 5, ground := Ground.phase }, { on := 6, ground := Ground.phase }, { on := 7, ground := Ground.phase }, { on := 8, ground := Ground.phase }, { on := 9, ground := Ground.phase }, { on := 10, ground := Ground.phase }], guard := none }
abbrev rps12 : Oper := { dst := none, op := Op.store 9 (Operand.tmp 28) (Operand.tmp 27), type := 0, pos := "ring.go:33", after := #[{ on := 11, ground := Ground.data }, { on := 10, ground := Ground.data }, { on := 9, ground := Ground.chain }, { on := 0, ground := Ground.phase }, { on := 1, ground := Ground.phase }, { on := 2, ground := Ground.phase }, { on := 3, ground := Ground.phase }, { on := 4, ground := Ground.phase }, { on := 5, ground := Ground.phase }, { on := 6, ground := Ground.phase }, { on := 7, ground := Ground.phase }, { on := 8, ground := Ground.phase }, { on := 9, ground := Ground.phase }, { on := 10, ground := Ground.phase }], guard := none }
abbrev rss0 : Oper := { dst := some 25, op := Op.move (Operand.tmp 0), type := 45, pos := "ring.go:49", after := #[], guard := none }
abbrev rss1 : Oper := { dst := some 26, op := Op.nilCheck (Operand.tmp 25), type := 0, pos := "ring.go:49", after := #[{ on := 0, ground := Ground.data }], guard := none }
abbrev rss2 : Oper := { dst := some 27, op := Op.fieldAddr 64 (Operand.tmp 26) 0, type := 0, pos := "ring.go:49", after := #[{ on := 1, ground := Ground.data }], guard := none }
abbrev rss3 : Oper := { dst := some 28, op := Op.load 62 (Operand.tmp 27), type := 62, pos := "ring.go:49", after := #[{ on := 2, ground := Ground.data }], guard := none }
abbrev rss4 : Oper := { dst := some 29, op := Op.move (Operand.tmp 0), type := 45, pos := "ring.go:49", after := #[], guard := none }
abbrev rss5 : Oper := { dst := some 30, op := Op.nilCheck (Operand.tmp 29), type := 0, pos := "ring.go:49", after := #[{ on := 4, ground := Ground.data }], guard := none }
abbrev rss6 : Oper := { dst := some 31, op := Op.fieldAddr 64 (Operand.tmp 30) 1, type := 0, pos := "ring.go:49", after := #[{ on := 5, ground := Ground.data }], guard := none }
abbrev rss7 : Oper := { dst := some 32, op := Op.load 3 (Operand.tmp 31), type := 3, pos := "ring.go:49", after := #[{ on := 6, ground := Ground.data }], guard := none }
abbrev rss8 : Oper := { dst := some 33, op := Op.move (Operand.tmp 4), type := 9, pos := "ring.go:49", after := #[], guard := none }
abbrev rss9 : Oper := { dst := some 34, op := Op.indexAddr 62 (Operand.tmp 28) (Operand.tmp 32), type := 0, pos := "ring.go:49", after := #[{ on := 3, ground := Ground.data }, { on := 7, ground := Ground.data }, { on := 0, ground := Ground.phase }, { on := 1, ground := Ground.phase }, { on := 2, ground := Ground.phase }, { on := 3, ground := Ground.phase }, { on := 4, ground := Ground.phase }, { on := 5, ground := Ground.phase }, { on := 6, ground := Ground.phase }, { on := 7, ground := Ground.phase }, { on := 8, ground := Ground.phase }], guard := none }
abbrev rss10 : Oper := { dst := none, op := Op.store 9 (Operand.tmp 34) (Operand.tmp 33), type := 0, pos := "ring.go:49", after := #[{ on := 9, ground := Ground.data }, { on := 8, ground := Ground.data }, { on := 0, ground := Ground.phase }, { on := 1, ground := Ground.phase }, { on := 2, ground := Ground.phase }, { on := 3, ground := Ground.phase }, { on := 4, ground := Ground.phase }, { on := 5, ground := Ground.phase }, { on := 6, ground := Ground.phase }, { on := 7, ground := Ground.phase }, { on := 8, ground := Ground.phase }], guard := none }

theorem map_setS (pl : List ByteArray) (i : Nat) (x : ByteArray) : (pl.map vfS).toArray.setIfInBounds i (vfS x) = ((pl.set i x).map vfS).toArray := by
  simp [List.map_set]

section
variable {w w' : World} {B : Nat} {F : Nat → Prop} {p : Nat} {xs : List ByteArray} {n g f : Nat} {pl : List ByteArray}

set_option maxRecDepth 100000 in
set_option maxHeartbeats 2000000 in
theorem put_fullS (h : RgS w B F p xs n g f pl) (x : ByteArray) (hn : xs.length = n) : Calls Try.prog 20 #[.pointer (some ⟨p, 0, none⟩), vfS x] w fun e w' => e = .returned (.int .i64 121) ∧ Below w.heap.size w w' := by
  obtain ⟨c0, -, c2⟩ := h.cells
  have q : ((xs.length : Int) == (n : Int)) = true := by simp [hn]
  clear hn
  unfold vfS
  go_enter Try.func20, Try.ntmps20
  go_wp2
  go_quiet (fail)
  go_wp2
  go_ret
  exact ⟨rfl, below_dr _ _ _⟩

set_option maxRecDepth 100000 in
set_option maxHeartbeats 2000000 in
theorem put_okS (h : RgS w B F p xs n g f pl) (x : ByteArray) (hn : xs.length < n) : Calls Try.prog 20 #[.pointer (some ⟨p, 0, none⟩), vfS x] w fun e w' => e = .returned (.int .i64 0) ∧ RgS w' B F p (xs ++ [x]) n g f (pl.set (plc n f xs.length) x) ∧ Ch F w w' := by
  obtain ⟨c0, -, c2⟩ := h.cells
  have q : ((xs.length : Int) == (n : Int)) = false := by simp; omega
  have hn1 := h.n1
  have hf := h.lies.f_lt (by omega)
  obtain ⟨k, hk⟩ : ∃ k, plc n f xs.length = k := ⟨_, rfl⟩
  have hkn : k < n := by rw [← hk]; exact plc_lt hf hn
  have hx1 : xs.length ≤ 100 := by omega
  have HK := hide hk
  have HN := hide hn
  have H := hide h
  clear hk hn h
  unfold vfS
  go_enter Try.func20, Try.ntmps20
  go_wp2
  go_quiet (fail)
  go_wp2_with fail
  clear c0 c2
  refine wp_reg (fun y => y = g) (R := fun W => RgS W B F p xs n g f pl ∧ Ch (fun _ => False) w W) (by kernel_rfl) ⟨H.out.ch ((Ch.drewN w _).trans (Ch.drew _) (fun _ _ h => h)) (fun _ _ h => h), (Ch.drewN w _).trans (Ch.drew _) (fun _ _ h => h)⟩ ?_
  rintro V ⟨hv, hcv⟩ zk
  have HV := hide hv
  have HC := hide hcv
  have hnp : ¬ p = g := fun e => hv.ne e.symm
  have HG := hide (fun wq (zq : Ch (fun y => y = g) V wq) => have e := Lib.cell_of_heap (zq.box HV.out.box hnp); show wq.cell? ⟨p, 0, none⟩ = some (.slice (some ⟨g, 0, none⟩) n n) ∧ wq.cell? ⟨p, 2, none⟩ = some (.int .i64 (xs.length : Int)) from ⟨by simp [e], by simp [e]⟩)
  clear hv hcv
  apply tk 0 rps0 rfl (by kernel_rfl) (fun _ _ _ h => h) zk
  · intro wq zq
    go_simp
    try rfl
  go_frame
  apply tk 1 rps1 rfl (by kernel_rfl) (fun _ _ _ h => h) zk
  · intro wq zq
    go_simp
    try rfl
  go_frame
  apply tk 2 rps2 rfl (by kernel_rfl) (fun _ _ _ h => h) zk
  · intro wq zq
    go_simp
    try rfl
  go_frame
  apply tk 3 rps3 rfl (by kernel_rfl) (fun _ _ _ h => h) zk
  · intro wq zq
    obtain ⟨s1, s2⟩ := HG.out _ zq
    go_simp
    try rfl
  go_frame
  apply tk 4 rps4 rfl (by kernel_rfl) (fun _ _ _ h => h) zk
  · intro wq zq
    go_simp
    try rfl
  go_frame
  apply tk 5 rps5 rfl (by kernel_rfl) (fun _ _ _ h => h) zk
  · intro wq zq
    go_simp
    try rfl
  go_frame
  apply tk 6 rps6 rfl (by kernel_rfl) (fun _ _ _ h => h) zk
  · intro wq zq
    go_simp
    try rfl
  go_frame
  apply tk 7 rps7 rfl (by kernel_rfl) (fun _ _ _ h => h) zk
  · intro wq zq
    go_simp
    try rfl
  go_frame
  apply tk 8 rps8 rfl (by kernel_rfl) (fun _ _ _ h => h) zk
  · intro wq zq
    obtain ⟨s1, s2⟩ := HG.out _ zq
    go_simp
    try rfl
  go_frame
  apply tk 10 rps10 rfl (by kernel_rfl) (fun _ _ _ h => h) zk
  · intro wq zq
    go_simp
    try rfl
  go_frame
  obtain ⟨b0, b1, b2⟩ := HV.out.cells
  refine rd 9 rps9 rfl (by kernel_rfl) fun K hK => ?_
  go_simp
  refine (place_isS b0 b1 (by omega) hn1 xs.length k hx1 HK.out).mono ?_
  rintro e V ⟨rfl, rfl⟩
  clear b0 b1 b2
  go_wp2_with fail
  refine hK.out _ _ ?_ (fun zk => ?_)
  · exact Ch.refl _ _
  clear hK K
  try go_frame
  apply tk 11 rps11 rfl (by kernel_rfl) (fun _ _ _ h => h) zk
  · intro wq zq
    go_simp
    try rfl
  go_frame
  obtain ⟨v0, hv0⟩ : ∃ v0, pl[k]? = some v0 := ⟨pl[k]'(by rw [HV.out.lies.len]; exact hkn), List.getElem?_eq_getElem _⟩
  have b0 := HV.out.cell hv0
  have fz := (HV.out.fz k).2
  refine Go.Proofs.Ytfheeifllpnjaaa.rd 12 rps12 rfl (by kernel_rfl) fun K hK => ?_
  go_simp
  refine genK (R := fun W => W.heap[p]? = some (.cells #[.slice (some ⟨g, 0, none⟩) n n, .int .i64 (f : Int), .int .i64 (xs.length : Int)] 64 (0, 0)) ∧ W.heap[g]? = some (.cells ((pl.set k x).map vfS).toArray 9 (0, 0)) ∧ Ch (fun y => y = g) V W) ⟨(Ch.set (Q := fun y => y = g) _ rfl _ _).box HV.out.box hnp, (heap_set HV.out.row _ _).trans (by rw [← map_setS]; rfl), Ch.set (Q := fun y => y = g) _ rfl _ _⟩ ?_
  rintro W2 ⟨hb, hr, hc⟩
  clear zk
  refine hK.out _ _ ?_ (fun zk => ?_)
  · exact hc
  clear hK K
  try go_frame
  refine wpAnyH_done (by kernel_rfl) ?_ _
  have HB := hide hb
  have HR := hide hr
  have HC2 := hide hc
  have c2 : W2.cell? ⟨p, 2, none⟩ = some (.int .i64 (xs.length : Int)) := by simp [Lib.cell_of_heap hb]
  have fp : ∀ o, W2.frozen? ⟨p, o, none⟩ = false := by simp [World.frozen?, hb]
  have e1 : IntKind.i64.wrap ((xs.length : Int) + 1) = ((xs.length + 1 : Nat) : Int) := by rw [IntKind.wrap_i64]; omega
  clear b0 fz hb hr hc hv0
  go_wp2_with fail
  go_ret
  refine ⟨rfl, ⟨?_, ?_, ?_, HV.out.lo, HV.out.lg, hn1, HV.out.foot⟩, ?_⟩
  · rw [heap_set HB.out 2 _, List.length_append, List.length_singleton]
    rfl
  · rw [HK.out]
    exact (Ch.set (Q := fun y => y = p) _ rfl _ _).box HR.out HV.out.ne
  · exact HV.out.lies.put HN.out x
  · exact ((HC.out.mono (Q' := F) (fun _ _ h => h.elim)).trans HC2.out (fun y _ e => (HV.out.foot y).2 (Or.inr e))).trans (Ch.set (Q := fun y => y = p) _ rfl _ _) (fun y _ e => (HV.out.foot y).2 (Or.inl e))

set_option maxRecDepth 100000 in
set_option maxHeartbeats 2000000 in
theorem take_noS (h : RgS w B F p [] n g f pl) : Calls Try.prog 22 #[.pointer (some ⟨p, 0, none⟩)] w fun e w' => e = .returned (.tuple #[vfS ⟨#[]⟩, .int .i64 122]) ∧ Below w.heap.size w w' := by
  obtain ⟨-, -, c2⟩ := h.cells
  have c2 : w.cell? ⟨p, 2, none⟩ = some (.int .i64 0) := c2
  unfold vfS
  go_enter Try.func22, Try.ntmps22
  go_wp2
  go_ret2
  exact ⟨rfl, Below.refl _ _⟩

set_option maxRecDepth 100000 in
set_option maxHeartbeats 2000000 in
theorem take_okS {x : ByteArray} (h : RgS w B F p (x :: xs) n g f pl) : Calls Try.prog 22 #[.pointer (some ⟨p, 0, none⟩)] w fun e w' => e = .returned (.tuple #[vfS x, .int .i64 0]) ∧ RgS w' B F p xs n g (plc n f 1) (pl.set f ⟨#[]⟩) ∧ Ch F w w' := by
  obtain ⟨c0, c1, c2⟩ := h.cells
  obtain ⟨hl, hx⟩ := h.lies.take ⟨#[]⟩
  have hc := h.lies.cnt
  have hn1 := h.n1
  rw [List.length_cons] at hc c2
  have hf := h.lies.f_lt (by omega)
  have q : (((xs.length + 1 : Nat) : Int) == 0) = false := by simp; omega
  have cx := h.cell hx
  unfold vfS at cx
  have hfn : (f : Int) < (n : Int) := by omega
  have HX := hide hx
  have hf1 : f ≤ 100 := by omega
  have HL := hide hl
  have H := hide h
  have hnp : ¬ p = g := fun e => h.ne e.symm
  obtain ⟨k, hk⟩ : ∃ k, plc n f 1 = k := ⟨_, rfl⟩
  have HK := hide hk
  have fp := fun o => (h.fz o).1
  have fg := fun o => (h.fz o).2
  have e1 : IntKind.i64.wrap (((xs.length + 1 : Nat) : Int) - 1) = (xs.length : Int) := by rw [IntKind.wrap_i64]; omega
  clear hl hx h hk
  unfold vfS
  go_enter Try.func22, Try.ntmps22
  go_wp2_with fail
  go_quiet (fail)
  go_wp2_with fail
  clear c0 c1 c2 cx fp fg
  refine wp_reg (fun y => y = g) (R := fun W => RgS W B F p (x :: xs) n g f pl ∧ Ch (fun _ => False) w W) (by kernel_rfl) ⟨H.out.ch ((Ch.drewN w _).trans (Ch.drew _) (fun _ _ h => h)) (fun _ _ h => h), (Ch.drewN w _).trans (Ch.drew _) (fun _ _ h => h)⟩ ?_
  rintro V ⟨hv, hcv⟩ zk
  have HV := hide hv
  have HC := hide hcv
  have HG := hide (fun wq (zq : Ch (fun y => y = g) V wq) => have e := Lib.cell_of_heap (zq.box HV.out.box hnp); show wq.cell? ⟨p, 0, none⟩ = some (.slice (some ⟨g, 0, none⟩) n n) ∧ wq.cell? ⟨p, 1, none⟩ = some (.int .i64 (f : Int)) from ⟨by simp [e], by simp [e]⟩)
  clear hv hcv
  apply tk 0 rss0 rfl (by kernel_rfl) (fun _ _ _ h => h) zk
  · intro wq zq
    go_simp
    try rfl
  go_frame
  apply tk 1 rss1 rfl (by kernel_rfl) (fun _ _ _ h => h) zk
  · intro wq zq
    go_simp
    try rfl
  go_frame
  apply tk 2 rss2 rfl (by kernel_rfl) (fun _ _ _ h => h) zk
  · intro wq zq
    go_simp
    try rfl
  go_frame
  apply tk 3 rss3 rfl (by kernel_rfl) (fun _ _ _ h => h) zk
  · intro wq zq
    obtain ⟨s1, s2⟩ := HG.out _ zq
    go_simp
    try rfl
  go_frame
  apply tk 4 rss4 rfl (by kernel_rfl) (fun _ _ _ h => h) zk
  · intro wq zq
    go_simp
    try rfl
  go_frame
  apply tk 5 rss5 rfl (by kernel_rfl) (fun _ _ _ h => h) zk
  · intro wq zq
    go_simp
    try rfl
  go_frame
  apply tk 6 rss6 rfl (by kernel_rfl) (fun _ _ _ h => h) zk
  · intro wq zq
    go_simp
    try rfl
  go_frame
  apply tk 7 rss7 rfl (by kernel_rfl) (fun _ _ _ h => h) zk
  · intro wq zq
    obtain ⟨s1, s2⟩ := HG.out _ zq
    go_simp
    try rfl
  go_frame
  apply tk 8 rss8 rfl (by kernel_rfl) (fun _ _ _ h => h) zk
  · intro wq zq
    go_simp
    try rfl
  go_frame
  apply tk 9 rss9 rfl (by kernel_rfl) (fun _ _ _ h => h) zk
  · intro wq zq
    go_simp
    try rfl
  go_frame
  have b0 := HV.out.cell HX.out
  have fz := (HV.out.fz f).2
  refine Go.Proofs.Ytfheeifllpnjaaa.rd 10 rss10 rfl (by kernel_rfl) fun K hK => ?_
  go_simp
  refine genK (R := fun W => W.heap[p]? = some (.cells #[.slice (some ⟨g, 0, none⟩) n n, .int .i64 (f : Int), .int .i64 ((xs.length + 1 : Nat) : Int)] 64 (0, 0)) ∧ W.heap[g]? = some (.cells ((pl.set f ⟨#[]⟩).map vfS).toArray 9 (0, 0)) ∧ Ch (fun y => y = g) V W) ⟨(Ch.set (Q := fun y => y = g) _ rfl _ _).box HV.out.box hnp, (heap_set HV.out.row _ _).trans (by rw [← map_setS]; rfl), Ch.set (Q := fun y => y = g) _ rfl _ _⟩ ?_
  rintro W2 ⟨hb, hr, hc2⟩
  clear zk
  refine hK.out _ _ ?_ (fun zk => ?_)
  · exact hc2
  clear hK K
  try go_frame
  refine wpAnyH_done (by kernel_rfl) ?_ _
  have HB := hide hb
  have HR := hide hr
  have HC2 := hide hc2
  have c0 : W2.cell? ⟨p, 0, none⟩ = some (.slice (some ⟨g, 0, none⟩) n n) := by simp [Lib.cell_of_heap hb]
  have c1 : W2.cell? ⟨p, 1, none⟩ = some (.int .i64 (f : Int)) := by simp [Lib.cell_of_heap hb]
  have c2 : W2.cell? ⟨p, 2, none⟩ = some (.int .i64 ((xs.length + 1 : Nat) : Int)) := by simp [Lib.cell_of_heap hb]
  have fp : ∀ o, W2.frozen? ⟨p, o, none⟩ = false := by simp [World.frozen?, hb]
  clear b0 fz hb hr hc2
  go_wp2_with (go_at_call 26; refine (place_isS c0 c1 hf1 hn1 1 k (by decide) HK.out).mono ?_; rintro e W2 ⟨rfl, rfl⟩)
  go_ret2
  refine ⟨rfl, ⟨?_, ?_, ?_, HV.out.lo, HV.out.lg, hn1, HV.out.foot⟩, ?_⟩
  · rw [heap_set (heap_set HB.out 1 _) 2 _, HK.out]
    rfl
  · exact (Ch.set (Q := fun y => y = p) _ rfl _ _).box ((Ch.set (Q := fun y => y = p) _ rfl _ _).box HR.out HV.out.ne) HV.out.ne
  · exact HL.out
  · exact (((HC.out.mono (Q' := F) (fun _ _ h => h.elim)).trans HC2.out (fun y _ e => (HV.out.foot y).2 (Or.inr e))).trans (Ch.set (Q := fun y => y = p) _ rfl _ _) (fun y _ e => (HV.out.foot y).2 (Or.inl e))).trans (Ch.set (Q := fun y => y = p) _ rfl _ _) (fun y _ e => (HV.out.foot y).2 (Or.inl e))

end
end Go.Proofs.Ytfheeifllpnjaaa
