/- Layer 10: the law's step: take. -/
import Derived.Test.YtjilnmeegolpkaaSt
import Derived.Test.YtjilnmeegolpkaaSk
namespace Go.Proofs.Ytjilnmeegolpkaa
open Go.RowKit Go.Shelf

theorem wp_then {P : Program} {c : Code} {K : Act → World → Prop} {Q : Exit → Act → World → Prop} {a : Act} {w : World} (h : c.wp P (Exit.then K (fun _ _ _ => False)) a w) : c.wp P (Exit.then K Q) a w :=
  Code.wp_mono (fun e a w h => by cases e <;> first | exact h | exact (h : False).elim) h

abbrev q1a0 : Oper := { dst := some 35, op := Op.move (Operand.tmp 0), type := 32, pos := "law.go:74", after := #[], guard := none }
abbrev q1a1 : Oper := { dst := some 36, op := Op.nilCheck (Operand.tmp 35), type := 0, pos := "law.go:74", after := #[{ on := 0, ground := Ground.data }], guard := none }
abbrev q1a2 : Oper := { dst := some 37, op := Op.fieldAddr 35 (Operand.tmp 36) 0, type := 0, pos := "law.go:74", after := #[{ on := 1, ground := Ground.data }], guard := none }
abbrev q1a3 : Oper := { dst := some 38, op := Op.load 24 (Operand.tmp 37), type := 24, pos := "law.go:74", after := #[{ on := 2, ground := Ground.data }], guard := none }
abbrev q1a4 : Oper := { dst := some 39, op := Op.fieldAddr 41 (Operand.tmp 3) 1, type := 0, pos := "law.go:74", after := #[], guard := none }
abbrev q1a5 : Oper := { dst := some 40, op := Op.load 3 (Operand.tmp 39), type := 3, pos := "law.go:74", after := #[{ on := 4, ground := Ground.data }], guard := none }
abbrev q1a6 : Oper := { dst := some 41, op := Op.call { callee := Callee.value (Operand.func 17), args := #[Operand.tmp 38, Operand.tmp 40], argTypes := #[24, 3] }, type := 50, pos := "law.go:74", after := #[{ on := 3, ground := Ground.data }, { on := 5, ground := Ground.data }], guard := none }
abbrev q1a7 : Oper := { dst := some 34, op := Op.move (Operand.tmp 41), type := 50, pos := "law.go:74", after := #[{ on := 6, ground := Ground.data }], guard := none }
abbrev q1a8 : Oper := { dst := some 42, op := Op.extract (Operand.tmp 34) 0, type := 39, pos := "law.go:74", after := #[{ on := 7, ground := Ground.data }], guard := none }
abbrev q1a9 : Oper := { dst := some 43, op := Op.extract (Operand.tmp 34) 1, type := 25, pos := "law.go:74", after := #[{ on := 7, ground := Ground.data }, { on := 11, ground := Ground.gcOnly Departure.lateStores }], guard := none }
abbrev q1a10 : Oper := { dst := some 6, op := Op.alloc 39, type := 0, pos := "law.go:74", after := #[], guard := none }
abbrev q1a11 : Oper := { dst := none, op := Op.store 39 (Operand.tmp 6) (Operand.tmp 42), type := 0, pos := "law.go:74", after := #[{ on := 10, ground := Ground.data }, { on := 8, ground := Ground.data }, { on := 6, ground := Ground.chain }, { on := 0, ground := Ground.phase }, { on := 1, ground := Ground.phase }, { on := 2, ground := Ground.phase }, { on := 3, ground := Ground.phase }, { on := 4, ground := Ground.phase }, { on := 5, ground := Ground.phase }, { on := 6, ground := Ground.phase }, { on := 7, ground := Ground.phase }, { on := 8, ground := Ground.phase }, { on := 9, ground := Ground.textOnly Departure.lateStores }, { on := 10, ground := Ground.phase }], guard := none }
abbrev q1a12 : Oper := { dst := some 7, op := Op.assign (Operand.tmp 43), type := 25, pos := "law.go:74", after := #[{ on := 9, ground := Ground.data }, { on := 11, ground := Ground.chain }, { on := 0, ground := Ground.phase }, { on := 1, ground := Ground.phase }, { on := 2, ground := Ground.phase }, { on := 3, ground := Ground.phase }, { on := 4, ground := Ground.phase }, { on := 5, ground := Ground.phase }, { on := 6, ground := Ground.phase }, { on := 7, ground := Ground.phase }, { on := 8, ground := Ground.phase }, { on := 9, ground := Ground.phase }, { on := 10, ground := Ground.phase }, { on := 11, ground := Ground.phase }], guard := none }
abbrev q1b0 : Oper := { dst := some 45, op := Op.move (Operand.tmp 0), type := 32, pos := "law.go:75", after := #[], guard := none }
abbrev q1b1 : Oper := { dst := some 46, op := Op.nilCheck (Operand.tmp 45), type := 0, pos := "law.go:75", after := #[{ on := 0, ground := Ground.data }], guard := none }
abbrev q1b2 : Oper := { dst := some 47, op := Op.fieldAddr 35 (Operand.tmp 46) 1, type := 0, pos := "law.go:75", after := #[{ on := 1, ground := Ground.data }], guard := none }
abbrev q1b3 : Oper := { dst := some 48, op := Op.load 28 (Operand.tmp 47), type := 28, pos := "law.go:75", after := #[{ on := 2, ground := Ground.data }], guard := none }
abbrev q1b4 : Oper := { dst := some 49, op := Op.fieldAddr 41 (Operand.tmp 3) 1, type := 0, pos := "law.go:75", after := #[], guard := none }
abbrev q1b5 : Oper := { dst := some 50, op := Op.load 3 (Operand.tmp 49), type := 3, pos := "law.go:75", after := #[{ on := 4, ground := Ground.data }], guard := none }
abbrev q1b6 : Oper := { dst := some 51, op := Op.call { callee := Callee.value (Operand.func 32), args := #[Operand.tmp 48, Operand.tmp 50], argTypes := #[28, 3] }, type := 79, pos := "law.go:75", after := #[{ on := 3, ground := Ground.data }, { on := 5, ground := Ground.data }], guard := none }
abbrev q1b7 : Oper := { dst := some 44, op := Op.move (Operand.tmp 51), type := 79, pos := "law.go:75", after := #[{ on := 6, ground := Ground.data }], guard := none }
abbrev q1b8 : Oper := { dst := some 52, op := Op.extract (Operand.tmp 44) 0, type := 39, pos := "law.go:75", after := #[{ on := 7, ground := Ground.data }], guard := none }
abbrev q1b9 : Oper := { dst := some 53, op := Op.extract (Operand.tmp 44) 1, type := 4, pos := "law.go:75", after := #[{ on := 7, ground := Ground.data }, { on := 11, ground := Ground.gcOnly Departure.lateStores }], guard := none }
abbrev q1b10 : Oper := { dst := some 8, op := Op.alloc 39, type := 0, pos := "law.go:75", after := #[], guard := none }
abbrev q1b11 : Oper := { dst := none, op := Op.store 39 (Operand.tmp 8) (Operand.tmp 52), type := 0, pos := "law.go:75", after := #[{ on := 10, ground := Ground.data }, { on := 8, ground := Ground.data }, { on := 6, ground := Ground.chain }, { on := 0, ground := Ground.phase }, { on := 1, ground := Ground.phase }, { on := 2, ground := Ground.phase }, { on := 3, ground := Ground.phase }, { on := 4, ground := Ground.phase }, { on := 5, ground := Ground.phase }, { on := 6, ground := Ground.phase }, { on := 7, ground := Ground.phase }, { on := 8, ground := Ground.phase }, { on := 9, ground := Ground.textOnly Departure.lateStores }, { on := 10, ground := Ground.phase }], guard := none }
abbrev q1b12 : Oper := { dst := some 9, op := Op.assign (Operand.tmp 53), type := 4, pos := "law.go:75", after := #[{ on := 9, ground := Ground.data }, { on := 11, ground := Ground.chain }, { on := 0, ground := Ground.phase }, { on := 1, ground := Ground.phase }, { on := 2, ground := Ground.phase }, { on := 3, ground := Ground.phase }, { on := 4, ground := Ground.phase }, { on := 5, ground := Ground.phase }, { on := 6, ground := Ground.phase }, { on := 7, ground := Ground.phase }, { on := 8, ground := Ground.phase }, { on := 9, ground := Ground.phase }, { on := 10, ground := Ground.phase }, { on := 11, ground := Ground.phase }], guard := none }
abbrev q1c0 : Oper := { dst := some 55, op := Op.move (Operand.tmp 0), type := 32, pos := "law.go:77", after := #[], guard := none }
abbrev q1c1 : Oper := { dst := some 56, op := Op.move (Operand.tmp 0), type := 32, pos := "law.go:77", after := #[], guard := none }
abbrev q1c2 : Oper := { dst := some 57, op := Op.nilCheck (Operand.tmp 56), type := 0, pos := "law.go:77", after := #[{ on := 1, ground := Ground.data }], guard := none }
abbrev q1c3 : Oper := { dst := some 58, op := Op.fieldAddr 35 (Operand.tmp 57) 2, type := 0, pos := "law.go:77", after := #[{ on := 2, ground := Ground.data }], guard := none }
abbrev q1c4 : Oper := { dst := some 59, op := Op.load 33 (Operand.tmp 58), type := 33, pos := "law.go:77", after := #[{ on := 3, ground := Ground.data }], guard := none }
abbrev q1c5 : Oper := { dst := some 60, op := Op.load 39 (Operand.tmp 8), type := 39, pos := "law.go:77", after := #[], guard := none }
abbrev q1c6 : Oper := { dst := some 61, op := Op.buildSlice 33 1 #[(0, Operand.tmp 60)], type := 33, pos := "law.go:77", after := #[{ on := 5, ground := Ground.data }], guard := none }
abbrev q1c7 : Oper := { dst := some 62, op := Op.call { callee := Callee.builtin Builtin.append, args := #[Operand.tmp 59, Operand.tmp 61], argTypes := #[33, 33] }, type := 33, pos := "law.go:77", after := #[{ on := 4, ground := Ground.data }, { on := 6, ground := Ground.data }], guard := none }
abbrev q1c8 : Oper := { dst := some 63, op := Op.nilCheck (Operand.tmp 55), type := 0, pos := "law.go:77", after := #[{ on := 0, ground := Ground.data }, { on := 0, ground := Ground.phase }, { on := 1, ground := Ground.phase }, { on := 2, ground := Ground.phase }, { on := 3, ground := Ground.phase }, { on := 4, ground := Ground.phase }, { on := 5, ground := Ground.phase }, { on := 6, ground := Ground.phase }, { on := 7, ground := Ground.phase }], guard := none }
abbrev q1c9 : Oper := { dst := some 64, op := Op.fieldAddr 35 (Operand.tmp 63) 2, type := 0, pos := "law.go:77", after := #[{ on := 8, ground := Ground.data }, { on := 0, ground := Ground.phase }, { on := 1, ground := Ground.phase }, { on := 2, ground := Ground.phase }, { on := 3, ground := Ground.phase }, { on := 4, ground := Ground.phase }, { on := 5, ground := Ground.phase }, { on := 6, ground := Ground.phase }, { on := 7, ground := Ground.phase }], guard := none }
abbrev q1c10 : Oper := { dst := none, op := Op.store 33 (Operand.tmp 64) (Operand.tmp 62), type := 0, pos := "law.go:77", after := #[{ on := 9, ground := Ground.data }, { on := 7, ground := Ground.data }, { on := 7, ground := Ground.chain }, { on := 0, ground := Ground.phase }, { on := 1, ground := Ground.phase }, { on := 2, ground := Ground.phase }, { on := 3, ground := Ground.phase }, { on := 4, ground := Ground.phase }, { on := 5, ground := Ground.phase }, { on := 6, ground := Ground.phase }, { on := 7, ground := Ground.phase }], guard := none }
variable {PT : World → Nat → (Nat → Prop) → Nat → List Th → Nat → Prop} {Sq : World → Nat → (Nat → Prop) → Nat → Array Value → Nat → Prop} (I : Face PT Sq)
variable {w : World} {B C p b : Nat} {v tv : Value} {hs : List (Int × Int)} {l : List Th} {M : Nat} {F : Nat → Prop}
include I

set_option maxRecDepth 100000 in
set_option maxHeartbeats 4000000 in
theorem take_a {W : World} (h : PT W B F p l M) (hl : l.length ≤ 100000) (x wh ea s0 g0 s g : Int) (hd : Bool) {A : Nat} (hO : W.heap[w.heap.size]? = some (.cells #[.int .i64 1, .int .i64 x, .int .i64 wh, .int .i64 ea, .int .u32 s0, .int .u32 g0, .bool hd] 41 (0, 0))) (fO : ¬ F w.heap.size) (hC : W.heap[C]? = some (.cells #[.pointer (some ⟨p, 0, none⟩), .pointer (some ⟨b, 0, none⟩), tv] 35 (0, 0))) (fC : ¬ F C)
    {K : Act → World → Prop} (hK0 : ∀ A1 F1 W2, W.heap.size ≤ A1 → W2.heap[A1]? = some (.cells #[.int .u32 (tkS l M), .int .u32 (tkG l M)] 39) → PT W2 B F1 p (tkd l M x) M → Ch F W W2 → (∀ y, F1 y → F y ∨ W.heap.size ≤ y) → ¬ F1 A1 → K { tmps := #[.pointer (some ⟨C, 0, none⟩), .agg #[.int .i64 1, .int .i64 x, .int .i64 wh, .int .i64 ea, .int .u32 s0, .int .u32 g0, .bool hd], undef, .pointer (some ⟨w.heap.size, 0, none⟩), .bool false, .pointer (some ⟨A, 0, none⟩), .pointer (some ⟨A1, 0, none⟩), .int .i64 (ec (tkB l M) 101), undef, undef, undef, undef, undef, undef, undef, undef, undef, undef, undef, undef, undef, undef, undef, undef, .agg #[.int .i64 1, .int .i64 x, .int .i64 wh, .int .i64 ea, .int .u32 s0, .int .u32 g0, .bool hd], .pointer (some ⟨C, 0, none⟩), .pointer (some ⟨C, 0, none⟩), .pointer (some ⟨C, 2, none⟩), tv, hv s g, .pointer (some ⟨w.heap.size, 0, none⟩), .int .i64 1, .bool true, .bool true, .tuple #[hv (tkS l M) (tkG l M), .int .i64 (ec (tkB l M) 101)], .pointer (some ⟨C, 0, none⟩), .pointer (some ⟨C, 0, none⟩), .pointer (some ⟨C, 0, none⟩), .pointer (some ⟨p, 0, none⟩), .pointer (some ⟨w.heap.size, 1, none⟩), .int .i64 x, .tuple #[hv (tkS l M) (tkG l M), .int .i64 (ec (tkB l M) 101)], hv (tkS l M) (tkG l M), .int .i64 (ec (tkB l M) 101), undef, undef, undef, undef, undef, undef, undef, undef, undef, undef, undef, undef, undef, undef, undef, undef, undef, undef, undef, undef, undef, undef, undef, undef, undef, undef, undef, undef, undef, undef, undef, undef, undef, undef, undef, undef, undef, undef, undef, undef, undef, undef, undef, undef, undef, undef, undef, undef, undef, undef, undef, undef, undef, undef, undef, undef, undef, undef, undef, undef, undef, undef, undef, undef, undef, undef, undef, undef, undef, undef, undef, undef, undef, undef, undef, undef, undef, undef, undef, undef, undef, undef, undef, undef, undef, undef, undef, undef, undef, undef, undef, undef, undef, undef, undef, undef, undef, undef, undef, undef, undef, undef, undef, undef, undef, undef, undef, undef, undef, undef, undef, undef, undef, undef, undef, undef, undef, undef, undef, undef, undef, undef, undef, undef, undef, undef, undef, undef, undef, undef, undef, undef, undef, undef, undef, undef, undef, undef, undef, undef, undef, undef, undef, undef, undef, undef, undef, undef, undef, undef, undef, undef, undef], defers := [] } W2) :
    (Code.region 4 #[q1a0, q1a1, q1a2, q1a3, q1a4, q1a5, q1a6, q1a7, q1a8, q1a9, q1a10, q1a11, q1a12] true).wp Try.prog (Exit.then K (fun _ _ _ => False)) { tmps := #[.pointer (some ⟨C, 0, none⟩), .agg #[.int .i64 1, .int .i64 x, .int .i64 wh, .int .i64 ea, .int .u32 s0, .int .u32 g0, .bool hd], undef, .pointer (some ⟨w.heap.size, 0, none⟩), .bool false, .pointer (some ⟨A, 0, none⟩), undef, undef, undef, undef, undef, undef, undef, undef, undef, undef, undef, undef, undef, undef, undef, undef, undef, undef, .agg #[.int .i64 1, .int .i64 x, .int .i64 wh, .int .i64 ea, .int .u32 s0, .int .u32 g0, .bool hd], .pointer (some ⟨C, 0, none⟩), .pointer (some ⟨C, 0, none⟩), .pointer (some ⟨C, 2, none⟩), tv, hv s g, .pointer (some ⟨w.heap.size, 0, none⟩), .int .i64 1, .bool true, .bool true, undef, undef, undef, undef, undef, undef, undef, undef, undef, undef, undef, undef, undef, undef, undef, undef, undef, undef, undef, undef, undef, undef, undef, undef, undef, undef, undef, undef, undef, undef, undef, undef, undef, undef, undef, undef, undef, undef, undef, undef, undef, undef, undef, undef, undef, undef, undef, undef, undef, undef, undef, undef, undef, undef, undef, undef, undef, undef, undef, undef, undef, undef, undef, undef, undef, undef, undef, undef, undef, undef, undef, undef, undef, undef, undef, undef, undef, undef, undef, undef, undef, undef, undef, undef, undef, undef, undef, undef, undef, undef, undef, undef, undef, undef, undef, undef, undef, undef, undef, undef, undef, undef, undef, undef, undef, undef, undef, undef, undef, undef, undef, undef, undef, undef, undef, undef, undef, undef, undef, undef, undef, undef, undef, undef, undef, undef, undef, undef, undef, undef, undef, undef, undef, undef, undef, undef, undef, undef, undef, undef, undef, undef, undef, undef, undef, undef, undef, undef, undef, undef, undef, undef, undef, undef, undef, undef, undef, undef, undef, undef, undef, undef, undef], defers := [] } W := by
  have HO := hide (fun wq (h : Ch (F) W wq) => have e := Lib.cell_of_heap (h.box hO fO); show wq.cell? ⟨w.heap.size, 1, none⟩ = some (.int .i64 x) by simp [e])
  have HC := hide (fun wq (h : Ch (F) W wq) => have e := Lib.cell_of_heap (h.box hC fC); show wq.cell? ⟨C, 0, none⟩ = some (.pointer (some ⟨p, 0, none⟩)) ∧ wq.cell? ⟨C, 1, none⟩ = some (.pointer (some ⟨b, 0, none⟩)) ∧ wq.cell? ⟨C, 2, none⟩ = some tv from ⟨by simp [e], by simp [e], by simp [e]⟩)
  have HK := hide hK0
  have HP := hide h
  clear hK0 h hO hC
  refine wp_region_held_drew (S := Ch (F) W) (by kernel_rfl) (Ch.drew _) (fun zk => ?_)
  apply tk 0 q1a0 rfl (by kernel_rfl) (fun _ _ _ h => h) zk
  · intro wq zq
    go_simp
    try rfl
  go_frame
  apply tk 1 q1a1 rfl (by kernel_rfl) (fun _ _ _ h => h) zk
  · intro wq zq
    go_simp
    try rfl
  go_frame
  apply tk 2 q1a2 rfl (by kernel_rfl) (fun _ _ _ h => h) zk
  · intro wq zq
    go_simp
    try rfl
  go_frame
  apply tk 3 q1a3 rfl (by kernel_rfl) (fun _ _ _ h => h) zk
  · intro wq zq
    obtain ⟨s1, s2, s3⟩ := HC.out _ zq
    go_simp
    try rfl
  go_frame
  apply tk 4 q1a4 rfl (by kernel_rfl) (fun _ _ _ h => h) zk
  · intro wq zq
    go_simp
    try rfl
  go_frame
  apply tk 5 q1a5 rfl (by kernel_rfl) (fun _ _ _ h => h) zk
  · intro wq zq
    have s6 := HO.out _ zq
    go_simp
    try rfl
  go_frame
  refine wpAnyH_ready (rs := [6, 10]) (by kernel_rfl) (by simp) ?_
  refine AllReadyH.cons (o := q1a6) rfl (fun K hK => ?_) (AllReadyH.cons (o := q1a10) rfl (fun K hK => ?_) AllReadyH.nil)
  · go_simp
    refine (I.take x (I.ch HP.out (Ch.drew (Q := fun _ => False) W) (fun _ _ h => h)) hl).mono ?_
    rintro e w2 ⟨F1, rfl, hp2, hc2, hf2⟩
    have Z := hide ((Ch.drew (Q := F) W).trans hc2 (fun _ _ h => h))
    have HP2 := hide (And.intro hp2 (show ∀ y, F1 y → F y ∨ W.heap.size ≤ y from hf2))
    clear hp2 hc2 hf2
    go_wp2_with fail
    refine hK.out _ _ ?_ (fun zk => ?_)
    · exact Z.out
    clear hK K
    try go_frame
    apply tk 7 q1a7 rfl (by kernel_rfl) (fun _ _ _ h => h) zk
    · intro wq zq
      go_simp
      try rfl
    go_frame
    apply tk 8 q1a8 rfl (by kernel_rfl) (fun _ _ _ h => h) zk
    · intro wq zq
      go_simp
      try rfl
    go_frame
    apply tk 9 q1a9 rfl (by kernel_rfl) (fun _ _ _ h => h) zk
    · intro wq zq
      go_simp
      try rfl
    go_frame
    refine rd 10 q1a10 rfl (by kernel_rfl) fun K hK => ?_
    go_simp
    refine hK.out _ _ ?_ (fun zk => ?_)
    · exact Z.out.trans (Ch.alloc (Q := fun _ => False) _ _) (fun _ _ h => h.elim)
    clear hK K
    try go_frame
    refine rd 11 q1a11 rfl (by kernel_rfl) fun K hK => ?_
    go_simp
    refine hK.out _ _ ?_ (fun zk => ?_)
    · exact Z.out.trans (Ch.alloc (Q := fun _ => False) _ _) (fun _ _ h => h.elim)
    clear hK K
    try go_frame
    apply tk 12 q1a12 rfl (by kernel_rfl) (fun _ _ _ h => h) zk
    · intro wq zq
      go_simp
      try rfl
    go_frame
    refine wpAnyH_done (by kernel_rfl) ?_ _
    exact HK.out w2.heap.size F1 _ Z.out.size (heap_new _ _) (I.ch HP2.out.1 (Ch.alloc (Q := fun _ => False) _ _) (fun _ _ h => h)) (Z.out.trans (Ch.alloc (Q := fun _ => False) _ _) (fun _ _ h => h.elim)) HP2.out.2 (fun e => by have := (I.foot HP2.out.1 _ e).2; omega)
  · go_simp
    refine hK.out _ _ ?_ (fun zk => ?_)
    · exact zk.trans (Ch.alloc (Q := fun _ => False) _ _) (fun _ _ h => h.elim)
    clear hK K
    try go_frame
    refine rd 6 q1a6 rfl (by kernel_rfl) fun K hK => ?_
    go_simp
    refine (I.take x (I.ch HP.out ((Ch.alloc (Q := fun _ => False) W (.cells #[.int .u32 0, .int .u32 0] 39)).trans (Ch.drew (Q := fun _ => False) _) (fun _ _ h => h)) (fun _ _ h => h)) hl).mono ?_
    rintro e w2 ⟨F1, rfl, hp2, hc2, hf2⟩
    have Z := hide (((Ch.alloc (Q := F) W (.cells #[.int .u32 0, .int .u32 0] 39)).trans (Ch.drew (Q := F) _) (fun _ _ h => h)).trans hc2 (fun _ _ h => h))
    have HP2 := hide (And.intro hp2 (show ∀ y, F1 y → F y ∨ W.heap.size + 1 ≤ y from fun y hy => (hf2 y hy).imp id (fun e => by simpa [World.drew] using e)))
    have hn3 := hide (hc2.box (heap_new W (.cells #[.int .u32 0, .int .u32 0] 39)) (fun e => by have := (I.foot HP.out _ e).2; omega))
    clear hp2 hc2 hf2
    go_wp2_with fail
    refine hK.out _ _ ?_ (fun zk => ?_)
    · exact Z.out
    clear hK K
    try go_frame
    apply tk 7 q1a7 rfl (by kernel_rfl) (fun _ _ _ h => h) zk
    · intro wq zq
      go_simp
      try rfl
    go_frame
    apply tk 8 q1a8 rfl (by kernel_rfl) (fun _ _ _ h => h) zk
    · intro wq zq
      go_simp
      try rfl
    go_frame
    apply tk 9 q1a9 rfl (by kernel_rfl) (fun _ _ _ h => h) zk
    · intro wq zq
      go_simp
      try rfl
    go_frame
    have n0 : w2.cell? ⟨W.heap.size, 0, none⟩ = some (.int .u32 0) := by simp [Lib.cell_of_heap hn3.out]
    have n1 : w2.cell? ⟨W.heap.size, 1, none⟩ = some (.int .u32 0) := by simp [Lib.cell_of_heap hn3.out]
    have nf : ∀ o, w2.frozen? ⟨W.heap.size, o, none⟩ = false := by simp [World.frozen?, hn3.out]
    have hs := hide (show Ch (fun x => x = W.heap.size) w2 ((w2.setCell ⟨W.heap.size, 0, none⟩ (.int .u32 (tkS l M))).setCell ⟨W.heap.size, 1, none⟩ (.int .u32 (tkG l M))) from (Ch.set (Q := fun x => x = W.heap.size) w2 rfl 0 _).trans (Ch.set (Q := fun x => x = W.heap.size) _ rfl 1 _) (fun _ _ h => h))
    have hn4 := hide (show ((w2.setCell ⟨W.heap.size, 0, none⟩ (.int .u32 (tkS l M))).setCell ⟨W.heap.size, 1, none⟩ (.int .u32 (tkG l M))).heap[W.heap.size]? = some (.cells #[.int .u32 (tkS l M), .int .u32 (tkG l M)] 39) by rw [heap_set (heap_set hn3.out 0 _) 1 _]; rfl)
    have Z4 := hide (Z.out.trans hs.out (fun x hx e => by omega))
    refine rd 11 q1a11 rfl (by kernel_rfl) fun K hK => ?_
    go_simp
    refine hK.out _ _ ?_ (fun zk => ?_)
    · exact Z4.out
    clear hK K
    try go_frame
    apply tk 12 q1a12 rfl (by kernel_rfl) (fun _ _ _ h => h) zk
    · intro wq zq
      go_simp
      try rfl
    go_frame
    refine wpAnyH_done (by kernel_rfl) ?_ _
    exact HK.out W.heap.size F1 _ (Nat.le_refl _) hn4.out (I.ch HP2.out.1 hs.out (fun x hx e => by subst e; exact absurd hx (fun e => (HP2.out.2 _ e).elim (fun e => by have := (I.foot HP.out _ e).2; omega) (fun e => by omega)))) Z4.out (fun y hy => (HP2.out.2 y hy).imp id (fun e => by omega)) (fun e => (HP2.out.2 _ e).elim (fun e => by have := (I.foot HP.out _ e).2; omega) (fun e => by omega))

omit I in
set_option maxRecDepth 100000 in
set_option maxHeartbeats 4000000 in
theorem take_b {W : World} (h : DT W B b v l M) (hl : l.length ≤ 100000) (hf : Fit l) (hm : M ≤ 500) (hB : B ≤ W.heap.size) (x wh ea s0 g0 s g : Int) (hd : Bool) {A A1 : Nat} (hO : W.heap[w.heap.size]? = some (.cells #[.int .i64 1, .int .i64 x, .int .i64 wh, .int .i64 ea, .int .u32 s0, .int .u32 g0, .bool hd] 41 (0, 0))) (fO : ¬ (w.heap.size = b ∨ v.ownBlock = some w.heap.size)) (hC : W.heap[C]? = some (.cells #[.pointer (some ⟨p, 0, none⟩), .pointer (some ⟨b, 0, none⟩), tv] 35 (0, 0))) (fC : ¬ (C = b ∨ v.ownBlock = some C))
    {K : Act → World → Prop} (hK0 : ∀ A2 v' W3, W.heap.size ≤ A2 → W3.heap[A2]? = some (.cells #[.int .u32 (tkS l M), .int .u32 (tkG l M)] 39) → DT W3 B b v' (tkd l M x) M → Ch (fun y => y = b ∨ v.ownBlock = some y) W W3 → (∀ g, v'.ownBlock = some g → v.ownBlock = some g ∨ W.heap.size ≤ g) → K { tmps := #[.pointer (some ⟨C, 0, none⟩), .agg #[.int .i64 1, .int .i64 x, .int .i64 wh, .int .i64 ea, .int .u32 s0, .int .u32 g0, .bool hd], undef, .pointer (some ⟨w.heap.size, 0, none⟩), .bool false, .pointer (some ⟨A, 0, none⟩), .pointer (some ⟨A1, 0, none⟩), .int .i64 (ec (tkB l M) 101), .pointer (some ⟨A2, 0, none⟩), .bool (tkB l M), undef, undef, undef, undef, undef, undef, undef, undef, undef, undef, undef, undef, undef, undef, .agg #[.int .i64 1, .int .i64 x, .int .i64 wh, .int .i64 ea, .int .u32 s0, .int .u32 g0, .bool hd], .pointer (some ⟨C, 0, none⟩), .pointer (some ⟨C, 0, none⟩), .pointer (some ⟨C, 2, none⟩), tv, hv s g, .pointer (some ⟨w.heap.size, 0, none⟩), .int .i64 1, .bool true, .bool true, .tuple #[hv (tkS l M) (tkG l M), .int .i64 (ec (tkB l M) 101)], .pointer (some ⟨C, 0, none⟩), .pointer (some ⟨C, 0, none⟩), .pointer (some ⟨C, 0, none⟩), .pointer (some ⟨p, 0, none⟩), .pointer (some ⟨w.heap.size, 1, none⟩), .int .i64 x, .tuple #[hv (tkS l M) (tkG l M), .int .i64 (ec (tkB l M) 101)], hv (tkS l M) (tkG l M), .int .i64 (ec (tkB l M) 101), .tuple #[hv (tkS l M) (tkG l M), .bool (tkB l M)], .pointer (some ⟨C, 0, none⟩), .pointer (some ⟨C, 0, none⟩), .pointer (some ⟨C, 1, none⟩), .pointer (some ⟨b, 0, none⟩), .pointer (some ⟨w.heap.size, 1, none⟩), .int .i64 x, .tuple #[hv (tkS l M) (tkG l M), .bool (tkB l M)], hv (tkS l M) (tkG l M), .bool (tkB l M), undef, undef, undef, undef, undef, undef, undef, undef, undef, undef, undef, undef, undef, undef, undef, undef, undef, undef, undef, undef, undef, undef, undef, undef, undef, undef, undef, undef, undef, undef, undef, undef, undef, undef, undef, undef, undef, undef, undef, undef, undef, undef, undef, undef, undef, undef, undef, undef, undef, undef, undef, undef, undef, undef, undef, undef, undef, undef, undef, undef, undef, undef, undef, undef, undef, undef, undef, undef, undef, undef, undef, undef, undef, undef, undef, undef, undef, undef, undef, undef, undef, undef, undef, undef, undef, undef, undef, undef, undef, undef, undef, undef, undef, undef, undef, undef, undef, undef, undef, undef, undef, undef, undef, undef, undef, undef, undef, undef, undef, undef, undef, undef, undef, undef, undef, undef, undef, undef, undef, undef, undef, undef, undef, undef, undef, undef, undef, undef, undef, undef, undef, undef, undef, undef, undef, undef, undef, undef, undef, undef, undef, undef, undef], defers := [] } W3) :
    (Code.region 5 #[q1b0, q1b1, q1b2, q1b3, q1b4, q1b5, q1b6, q1b7, q1b8, q1b9, q1b10, q1b11, q1b12] true).wp Try.prog (Exit.then K (fun _ _ _ => False)) { tmps := #[.pointer (some ⟨C, 0, none⟩), .agg #[.int .i64 1, .int .i64 x, .int .i64 wh, .int .i64 ea, .int .u32 s0, .int .u32 g0, .bool hd], undef, .pointer (some ⟨w.heap.size, 0, none⟩), .bool false, .pointer (some ⟨A, 0, none⟩), .pointer (some ⟨A1, 0, none⟩), .int .i64 (ec (tkB l M) 101), undef, undef, undef, undef, undef, undef, undef, undef, undef, undef, undef, undef, undef, undef, undef, undef, .agg #[.int .i64 1, .int .i64 x, .int .i64 wh, .int .i64 ea, .int .u32 s0, .int .u32 g0, .bool hd], .pointer (some ⟨C, 0, none⟩), .pointer (some ⟨C, 0, none⟩), .pointer (some ⟨C, 2, none⟩), tv, hv s g, .pointer (some ⟨w.heap.size, 0, none⟩), .int .i64 1, .bool true, .bool true, .tuple #[hv (tkS l M) (tkG l M), .int .i64 (ec (tkB l M) 101)], .pointer (some ⟨C, 0, none⟩), .pointer (some ⟨C, 0, none⟩), .pointer (some ⟨C, 0, none⟩), .pointer (some ⟨p, 0, none⟩), .pointer (some ⟨w.heap.size, 1, none⟩), .int .i64 x, .tuple #[hv (tkS l M) (tkG l M), .int .i64 (ec (tkB l M) 101)], hv (tkS l M) (tkG l M), .int .i64 (ec (tkB l M) 101), undef, undef, undef, undef, undef, undef, undef, undef, undef, undef, undef, undef, undef, undef, undef, undef, undef, undef, undef, undef, undef, undef, undef, undef, undef, undef, undef, undef, undef, undef, undef, undef, undef, undef, undef, undef, undef, undef, undef, undef, undef, undef, undef, undef, undef, undef, undef, undef, undef, undef, undef, undef, undef, undef, undef, undef, undef, undef, undef, undef, undef, undef, undef, undef, undef, undef, undef, undef, undef, undef, undef, undef, undef, undef, undef, undef, undef, undef, undef, undef, undef, undef, undef, undef, undef, undef, undef, undef, undef, undef, undef, undef, undef, undef, undef, undef, undef, undef, undef, undef, undef, undef, undef, undef, undef, undef, undef, undef, undef, undef, undef, undef, undef, undef, undef, undef, undef, undef, undef, undef, undef, undef, undef, undef, undef, undef, undef, undef, undef, undef, undef, undef, undef, undef, undef, undef, undef, undef, undef, undef, undef, undef, undef, undef, undef, undef, undef, undef, undef, undef, undef, undef, undef], defers := [] } W := by
  have HO := hide (fun wq (h : Ch (fun y => y = b ∨ v.ownBlock = some y) W wq) => have e := Lib.cell_of_heap (h.box hO fO); show wq.cell? ⟨w.heap.size, 1, none⟩ = some (.int .i64 x) by simp [e])
  have HC := hide (fun wq (h : Ch (fun y => y = b ∨ v.ownBlock = some y) W wq) => have e := Lib.cell_of_heap (h.box hC fC); show wq.cell? ⟨C, 0, none⟩ = some (.pointer (some ⟨p, 0, none⟩)) ∧ wq.cell? ⟨C, 1, none⟩ = some (.pointer (some ⟨b, 0, none⟩)) ∧ wq.cell? ⟨C, 2, none⟩ = some tv from ⟨by simp [e], by simp [e], by simp [e]⟩)
  have HK := hide hK0
  have HP := hide h
  clear hK0 h hO hC
  refine wp_region_held_drew (S := Ch (fun y => y = b ∨ v.ownBlock = some y) W) (by kernel_rfl) (Ch.drew _) (fun zk => ?_)
  apply tk 0 q1b0 rfl (by kernel_rfl) (fun _ _ _ h => h) zk
  · intro wq zq
    go_simp
    try rfl
  go_frame
  apply tk 1 q1b1 rfl (by kernel_rfl) (fun _ _ _ h => h) zk
  · intro wq zq
    go_simp
    try rfl
  go_frame
  apply tk 2 q1b2 rfl (by kernel_rfl) (fun _ _ _ h => h) zk
  · intro wq zq
    go_simp
    try rfl
  go_frame
  apply tk 3 q1b3 rfl (by kernel_rfl) (fun _ _ _ h => h) zk
  · intro wq zq
    obtain ⟨s1, s2, s3⟩ := HC.out _ zq
    go_simp
    try rfl
  go_frame
  apply tk 4 q1b4 rfl (by kernel_rfl) (fun _ _ _ h => h) zk
  · intro wq zq
    go_simp
    try rfl
  go_frame
  apply tk 5 q1b5 rfl (by kernel_rfl) (fun _ _ _ h => h) zk
  · intro wq zq
    have s6 := HO.out _ zq
    go_simp
    try rfl
  go_frame
  refine wpAnyH_ready (rs := [6, 10]) (by kernel_rfl) (by simp) ?_
  refine AllReadyH.cons (o := q1b6) rfl (fun K hK => ?_) (AllReadyH.cons (o := q1b10) rfl (fun K hK => ?_) AllReadyH.nil)
  · go_simp
    refine (rtake_u (HP.out.ch (Ch.drew (Q := fun _ => False) W) (fun h => h) (fun _ _ h => h)) hl hf x rfl hm hB).mono ?_
    rintro e w2 ⟨v', rfl, hd2, hc2, hv2⟩
    have Z := hide ((Ch.drew (Q := fun y => y = b ∨ v.ownBlock = some y) W).trans hc2 (fun _ _ h => h))
    have HP2 := hide (And.intro hd2 (show ∀ g, v'.ownBlock = some g → v.ownBlock = some g ∨ W.heap.size ≤ g from hv2))
    clear hd2 hc2 hv2
    go_wp2_with fail
    refine hK.out _ _ ?_ (fun zk => ?_)
    · exact Z.out
    clear hK K
    try go_frame
    apply tk 7 q1b7 rfl (by kernel_rfl) (fun _ _ _ h => h) zk
    · intro wq zq
      go_simp
      try rfl
    go_frame
    apply tk 8 q1b8 rfl (by kernel_rfl) (fun _ _ _ h => h) zk
    · intro wq zq
      go_simp
      try rfl
    go_frame
    apply tk 9 q1b9 rfl (by kernel_rfl) (fun _ _ _ h => h) zk
    · intro wq zq
      go_simp
      try rfl
    go_frame
    refine rd 10 q1b10 rfl (by kernel_rfl) fun K hK => ?_
    go_simp
    refine hK.out _ _ ?_ (fun zk => ?_)
    · exact Z.out.trans (Ch.alloc (Q := fun _ => False) _ _) (fun _ _ h => h.elim)
    clear hK K
    try go_frame
    refine rd 11 q1b11 rfl (by kernel_rfl) fun K hK => ?_
    go_simp
    refine hK.out _ _ ?_ (fun zk => ?_)
    · exact Z.out.trans (Ch.alloc (Q := fun _ => False) _ _) (fun _ _ h => h.elim)
    clear hK K
    try go_frame
    apply tk 12 q1b12 rfl (by kernel_rfl) (fun _ _ _ h => h) zk
    · intro wq zq
      go_simp
      try rfl
    go_frame
    refine wpAnyH_done (by kernel_rfl) ?_ _
    exact HK.out w2.heap.size v' _ Z.out.size (heap_new _ _) (HP2.out.1.ch (Ch.alloc (Q := fun _ => False) _ _) (fun h => h) (fun _ _ h => h)) (Z.out.trans (Ch.alloc (Q := fun _ => False) _ _) (fun _ _ h => h.elim)) HP2.out.2
  · go_simp
    refine hK.out _ _ ?_ (fun zk => ?_)
    · exact zk.trans (Ch.alloc (Q := fun _ => False) _ _) (fun _ _ h => h.elim)
    clear hK K
    try go_frame
    refine rd 6 q1b6 rfl (by kernel_rfl) fun K hK => ?_
    go_simp
    refine (rtake_u (HP.out.ch ((Ch.alloc (Q := fun _ => False) W (.cells #[.int .u32 0, .int .u32 0] 39)).trans (Ch.drew (Q := fun _ => False) _) (fun _ _ h => h)) (fun h => h) (fun _ _ h => h)) hl hf x rfl hm (Nat.le_trans hB (by simp [World.drew]))).mono ?_
    rintro e w2 ⟨v', rfl, hd2, hc2, hv2⟩
    have Z := hide (((Ch.alloc (Q := fun y => y = b ∨ v.ownBlock = some y) W (.cells #[.int .u32 0, .int .u32 0] 39)).trans (Ch.drew (Q := fun y => y = b ∨ v.ownBlock = some y) _) (fun _ _ h => h)).trans hc2 (fun _ _ h => h))
    have HP2 := hide (And.intro hd2 (show ∀ g, v'.ownBlock = some g → v.ownBlock = some g ∨ W.heap.size + 1 ≤ g from fun y hy => (hv2 y hy).imp id (fun e => by simpa [World.drew] using e)))
    have hn3 := hide (hc2.box (heap_new W (.cells #[.int .u32 0, .int .u32 0] 39)) (fun e => e.elim (fun e => by have := HP.out.lt; omega) (fun e => by have := (own_in HP.out.row e).2.1; omega)))
    clear hd2 hc2 hv2
    go_wp2_with fail
    refine hK.out _ _ ?_ (fun zk => ?_)
    · exact Z.out
    clear hK K
    try go_frame
    apply tk 7 q1b7 rfl (by kernel_rfl) (fun _ _ _ h => h) zk
    · intro wq zq
      go_simp
      try rfl
    go_frame
    apply tk 8 q1b8 rfl (by kernel_rfl) (fun _ _ _ h => h) zk
    · intro wq zq
      go_simp
      try rfl
    go_frame
    apply tk 9 q1b9 rfl (by kernel_rfl) (fun _ _ _ h => h) zk
    · intro wq zq
      go_simp
      try rfl
    go_frame
    have n0 : w2.cell? ⟨W.heap.size, 0, none⟩ = some (.int .u32 0) := by simp [Lib.cell_of_heap hn3.out]
    have n1 : w2.cell? ⟨W.heap.size, 1, none⟩ = some (.int .u32 0) := by simp [Lib.cell_of_heap hn3.out]
    have nf : ∀ o, w2.frozen? ⟨W.heap.size, o, none⟩ = false := by simp [World.frozen?, hn3.out]
    have hs := hide (show Ch (fun x => x = W.heap.size) w2 ((w2.setCell ⟨W.heap.size, 0, none⟩ (.int .u32 (tkS l M))).setCell ⟨W.heap.size, 1, none⟩ (.int .u32 (tkG l M))) from (Ch.set (Q := fun x => x = W.heap.size) w2 rfl 0 _).trans (Ch.set (Q := fun x => x = W.heap.size) _ rfl 1 _) (fun _ _ h => h))
    have hn4 := hide (show ((w2.setCell ⟨W.heap.size, 0, none⟩ (.int .u32 (tkS l M))).setCell ⟨W.heap.size, 1, none⟩ (.int .u32 (tkG l M))).heap[W.heap.size]? = some (.cells #[.int .u32 (tkS l M), .int .u32 (tkG l M)] 39) by rw [heap_set (heap_set hn3.out 0 _) 1 _]; rfl)
    have Z4 := hide (Z.out.trans hs.out (fun x hx e => by omega))
    refine rd 11 q1b11 rfl (by kernel_rfl) fun K hK => ?_
    go_simp
    refine hK.out _ _ ?_ (fun zk => ?_)
    · exact Z4.out
    clear hK K
    try go_frame
    apply tk 12 q1b12 rfl (by kernel_rfl) (fun _ _ _ h => h) zk
    · intro wq zq
      go_simp
      try rfl
    go_frame
    refine wpAnyH_done (by kernel_rfl) ?_ _
    exact HK.out W.heap.size v' _ (Nat.le_refl _) hn4.out (HP2.out.1.ch hs.out (fun e => by have := HP.out.lt; omega) (fun g hg e => by subst e; exact (HP2.out.2 _ hg).elim (fun e => by have := (own_in HP.out.row e).2.1; omega) (fun e => by omega))) Z4.out (fun y hy => (HP2.out.2 y hy).imp id (fun e => by omega))

end Go.Proofs.Ytjilnmeegolpkaa
