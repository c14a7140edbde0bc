/- Layer 15: the law's arms. Layer 15: the law's arms, whole. Layer 15: a select of one arm, on lists; two worlds beside each other. -/
import Derived.Test.YtbblmbbpicinlaaYya
namespace Go.Proofs.Ytbblmbbpicinlaa
open Go.RowKit

/-- a slice that came in: its value, how many, where; those below N -/
def Sl3 (N : Nat) (v : Value) (n b o : Nat) : Prop := ∃ a c, v = .slice a n c ∧ n ≤ c ∧ n ≤ 9223372036854775807 ∧ (0 < n → a = some ⟨b, o, none⟩ ∧ b < N)
def Lst {α : Type} (N k : Nat) (A : Nat → Nat → α → Prop) (v : Value) (l : List α) : Prop := ∃ b o, Sl3 N v l.length b o ∧ ∀ i (h : i < l.length), A b (o + i * k) l[i]
/-- an arm of a plain script; a step of one -/
structure On where
  h : Int
  s : Int
structure Tn where
  g : Int
  t : Int
  c : Int
  ra : Option Addr
  rn : Nat
  rc : Nat
structure OnAt (w : World) (b o : Nat) (y : On) : Prop where
  c0 : w.cell? ⟨b, o, none⟩ = some (.int .i64 y.h)
  c1 : w.cell? ⟨b, o + 1, none⟩ = some (.int .i64 y.s)
  h : I64 y.h
  s : I64 y.s
/-- does it send -/
def sdB (s : Int) : Bool := !(s.tmod 2 == 0)
def amK (n : Nat) (m : Int) : Nat → List On → List Am
  | _, [] => []
  | i, o :: r => ⟨(((1 + pkW o.h n : Nat) : Int), 1), sdB o.s, if sdB o.s then ⟨50 * m + (i : Int), 0, 0⟩ else zVa⟩ :: amK n m (i + 1) r
theorem amK_snoc (n : Nat) (m : Int) (o : On) : ∀ (i : Nat) (r : List On), amK n m i (r ++ [o]) = amK n m i r ++ [⟨(((1 + pkW o.h n : Nat) : Int), 1), sdB o.s, if sdB o.s then ⟨50 * m + ((i + r.length : Nat) : Int), 0, 0⟩ else zVa⟩]
  | _, [] => rfl
  | i, b :: r => by
    rw [List.cons_append, amK, amK, amK_snoc n m o (i + 1) r, List.cons_append, List.length_cons, show i + 1 + r.length = i + (r.length + 1) by omega]
theorem amK_len (n : Nat) (m : Int) : ∀ (i : Nat) (r : List On), (amK n m i r).length = r.length
  | _, [] => rfl
  | i, b :: r => by rw [amK, List.length_cons, List.length_cons, amK_len n m (i + 1) r]
theorem amK_ok {n : Nat} (hn : 0 < n) (hn5 : n ≤ 5) {m : Int} (hm0 : 0 ≤ m) (hm : m ≤ 1000) : ∀ {i : Nat} {r : List On}, i + r.length ≤ 1000 → ∀ x ∈ amK n m i r, AmOk x ∧ ∃ j, j < n ∧ x.h = (((j + 1 : Nat) : Int), 1)
  | _, [], _, x, hx => by cases hx
  | i, o :: r, hi, x, hx => by
    rw [List.length_cons] at hi
    rw [amK] at hx
    have hk := pkW_lt o.h hn
    rcases List.mem_cons.1 hx with rfl | hx
    · refine ⟨⟨(show UsW (((1 + pkW o.h n : Nat)) : Int) from ⟨by omega, by omega⟩), (show UsW 1 from ⟨by decide, by decide⟩), ?_, ?_, ?_⟩, pkW o.h n, hk, by show (((1 + pkW o.h n : Nat) : Int), (1 : Int)) = _; rw [Nat.add_comm]⟩
      · show I64 (if sdB o.s then (⟨50 * m + (i : Int), 0, 0⟩ : Va) else zVa).n
        split
        · exact show I64 (50 * m + (i : Int)) from ⟨by omega, by omega⟩
        · exact show I64 0 from ⟨by decide, by decide⟩
      · show UsW (if sdB o.s then (⟨50 * m + (i : Int), 0, 0⟩ : Va) else zVa).s
        split
        · exact show UsW 0 from ⟨by decide, by decide⟩
        · exact show UsW 0 from ⟨by decide, by decide⟩
      · show UsW (if sdB o.s then (⟨50 * m + (i : Int), 0, 0⟩ : Va) else zVa).g
        split
        · exact show UsW 0 from ⟨by decide, by decide⟩
        · exact show UsW 0 from ⟨by decide, by decide⟩
    · exact amK_ok hn hn5 hm0 hm (by omega) x hx

abbrev kam0 : Oper := { dst := some 21, op := Op.fieldAddr 102 (Operand.tmp 3) 3, type := 0, pos := "law.go:195", after := #[], guard := none }
abbrev kam1 : Oper := { dst := some 22, op := Op.load 100 (Operand.tmp 21), type := 100, pos := "law.go:195", after := #[{ on := 0, ground := Ground.data }], guard := none }
abbrev kam2 : Oper := { dst := some 23, op := Op.move (Operand.tmp 8), type := 3, pos := "law.go:195", after := #[], guard := none }
abbrev kam3 : Oper := { dst := some 24, op := Op.indexAddr 100 (Operand.tmp 22) (Operand.tmp 23), type := 0, pos := "law.go:195", after := #[{ on := 1, ground := Ground.data }, { on := 2, ground := Ground.data }], guard := none }
abbrev kam4 : Oper := { dst := some 25, op := Op.fieldAddr 176 (Operand.tmp 24) 0, type := 0, pos := "law.go:195", after := #[{ on := 3, ground := Ground.data }], guard := none }
abbrev kam5 : Oper := { dst := some 26, op := Op.load 3 (Operand.tmp 25), type := 3, pos := "law.go:195", after := #[{ on := 4, ground := Ground.data }], guard := none }
abbrev kam6 : Oper := { dst := some 27, op := Op.move (Operand.tmp 1), type := 3, pos := "law.go:195", after := #[], guard := none }
abbrev kam7 : Oper := { dst := some 28, op := Op.call { callee := Callee.value (Operand.func 39), args := #[Operand.tmp 26, Operand.tmp 27], argTypes := #[3, 3] }, type := 3, pos := "law.go:195", after := #[{ on := 5, ground := Ground.data }, { on := 6, ground := Ground.data }], guard := none }
abbrev kam8 : Oper := { dst := some 29, op := Op.binOp BinOp.add 3 (Operand.const (Value.int IntKind.i64 1)) (Operand.tmp 28) 3, type := 3, pos := "law.go:195", after := #[{ on := 7, ground := Ground.data }], guard := none }
abbrev kam9 : Oper := { dst := some 30, op := Op.call { callee := Callee.value (Operand.func 38), args := #[Operand.tmp 29], argTypes := #[3] }, type := 43, pos := "law.go:195", after := #[{ on := 8, ground := Ground.data }, { on := 7, ground := Ground.chain }], guard := none }
abbrev kam10 : Oper := { dst := some 31, op := Op.fieldAddr 102 (Operand.tmp 3) 3, type := 0, pos := "law.go:195", after := #[], guard := none }
abbrev kam11 : Oper := { dst := some 32, op := Op.load 100 (Operand.tmp 31), type := 100, pos := "law.go:195", after := #[{ on := 10, ground := Ground.data }], guard := none }
abbrev kam12 : Oper := { dst := some 33, op := Op.move (Operand.tmp 8), type := 3, pos := "law.go:195", after := #[], guard := none }
abbrev kam13 : Oper := { dst := some 34, op := Op.indexAddr 100 (Operand.tmp 32) (Operand.tmp 33), type := 0, pos := "law.go:195", after := #[{ on := 11, ground := Ground.data }, { on := 12, ground := Ground.data }], guard := none }
abbrev kam14 : Oper := { dst := some 35, op := Op.fieldAddr 176 (Operand.tmp 34) 1, type := 0, pos := "law.go:195", after := #[{ on := 13, ground := Ground.data }], guard := none }
abbrev kam15 : Oper := { dst := some 36, op := Op.load 3 (Operand.tmp 35), type := 3, pos := "law.go:195", after := #[{ on := 14, ground := Ground.data }], guard := none }
abbrev kam16 : Oper := { dst := some 37, op := Op.binOp BinOp.rem 3 (Operand.tmp 36) (Operand.const (Value.int IntKind.i64 2)) 3, type := 3, pos := "law.go:195", after := #[{ on := 15, ground := Ground.data }], guard := none }
abbrev kam17 : Oper := { dst := some 38, op := Op.binOp BinOp.neq 3 (Operand.tmp 37) (Operand.const (Value.int IntKind.i64 0)) 3, type := 4, pos := "law.go:195", after := #[{ on := 16, ground := Ground.data }], guard := none }
abbrev kam18 : Oper := { dst := some 39, op := Op.build 105 #[(0, Operand.tmp 30), (1, Operand.tmp 38)], type := 105, pos := "law.go:195", after := #[{ on := 9, ground := Ground.data }, { on := 17, ground := Ground.data }], guard := none }
abbrev kam19 : Oper := { dst := some 9, op := Op.alloc 105, type := 0, pos := "law.go:195", after := #[], guard := none }
abbrev kam20 : Oper := { dst := none, op := Op.store 105 (Operand.tmp 9) (Operand.tmp 39), type := 0, pos := "law.go:195", after := #[{ on := 19, ground := Ground.data }, { on := 18, ground := Ground.data }, { on := 9, ground := Ground.chain }, { on := 0, ground := Ground.phase }, { on := 1, ground := Ground.phase }, { on := 2, ground := Ground.phase }, { on := 3, ground := Ground.phase }, { on := 4, ground := Ground.phase }, { on := 5, ground := Ground.phase }, { on := 6, ground := Ground.phase }, { on := 7, ground := Ground.phase }, { on := 8, ground := Ground.phase }, { on := 9, ground := Ground.phase }, { on := 10, ground := Ground.phase }, { on := 11, ground := Ground.phase }, { on := 12, ground := Ground.phase }, { on := 13, ground := Ground.phase }, { on := 14, ground := Ground.phase }, { on := 15, ground := Ground.phase }, { on := 16, ground := Ground.phase }, { on := 17, ground := Ground.phase }, { on := 18, ground := Ground.phase }, { on := 19, ground := Ground.phase }], guard := none }

theorem am_set {w : World} {A : Nat} {a0 a1 a2 a3 a4 a5 : Value} (hn : w.heap[A]? = some (.cells #[a0, a1, a2, a3, a4, a5] 105 (0, 0))) (v0 v1 v2 v3 v4 v5 : Value) : ((((((w.setCell ⟨A, 0, none⟩ v0).setCell ⟨A, 1, none⟩ v1).setCell ⟨A, 2, none⟩ v2).setCell ⟨A, 3, none⟩ v3).setCell ⟨A, 4, none⟩ v4).setCell ⟨A, 5, none⟩ v5).heap[A]? = some (.cells #[v0, v1, v2, v3, v4, v5] 105 (0, 0)) ∧ Ch (fun y => y = A) w ((((((w.setCell ⟨A, 0, none⟩ v0).setCell ⟨A, 1, none⟩ v1).setCell ⟨A, 2, none⟩ v2).setCell ⟨A, 3, none⟩ v3).setCell ⟨A, 4, none⟩ v4).setCell ⟨A, 5, none⟩ v5) :=
  ⟨set_all [v0, v1, v2, v3, v4, v5] [] [a0, a1, a2, a3, a4, a5] w rfl hn, wrsA w A [v0, v1, v2, v3, v4, v5]⟩

set_option maxRecDepth 100000 in
set_option maxHeartbeats 8000000 in
theorem arms_r5 {W : World} {T0 ob oo k n rn rc : Nat} {tg tt tc : Int} {o : On} {b : Bool} (hT : W.heap[T0]? = some (.cells #[.int .i64 tg, .int .i64 tt, .int .i64 tc, .slice (some ⟨ob, oo, none⟩) rn rc] 102 (0, 0))) (hO : OnAt W ob (oo + k * 2) o) (hk : (k : Int) < (rn : Int)) (hk5 : k ≤ 1000) (hn : 0 < n) (hn5 : n ≤ 5) (hb : sdB o.s = b)
    {u0 u2 u4 u5 u6 u7 u9 u10 u11 u12 u13 u14 u15 u16 u17 u18 u19 u20 u21 u22 u23 u24 u25 u26 u27 u28 u29 u30 u31 u32 u33 u34 u35 u36 u37 u38 u39 u40 u41 u42 u43 u44 u45 u46 u47 u48 u49 u50 u51 u52 : Value} {K : Act → World → Prop} (hK0 : ∀ (A : Nat) (W' : World) (t21 t22 t23 t24 t25 t26 t27 t28 t29 t30 t31 t32 t33 t34 t35 t36 t37 t38 t39 : Value), Ch (fun _ => False) W W' → W.heap.size ≤ A → W'.heap[A]? = some (.cells #[.int .u32 (((1 + pkW o.h n : Nat)) : Int), .int .u32 1, .bool b, .int .i64 0, .int .u32 0, .int .u32 0] 105 (0, 0)) → K { tmps := List.toArray (u0 :: (.int .i64 (n : Int)) :: u2 :: (.pointer (some ⟨T0, 0, none⟩)) :: u4 :: u5 :: u6 :: u7 :: (.int .i64 (k : Int)) :: (.pointer (some ⟨A, 0, none⟩)) :: u10 :: u11 :: u12 :: u13 :: u14 :: u15 :: u16 :: u17 :: u18 :: u19 :: u20 :: (t21) :: (t22) :: (t23) :: (t24) :: (t25) :: (t26) :: (t27) :: (t28) :: (t29) :: (t30) :: (t31) :: (t32) :: (t33) :: (t34) :: (t35) :: (t36) :: (t37) :: (t38) :: (t39) :: u40 :: u41 :: u42 :: u43 :: u44 :: u45 :: u46 :: u47 :: u48 :: u49 :: u50 :: u51 :: u52 :: []), defers := [] } W') :
    (Code.region 5 (List.toArray (kam0 :: kam1 :: kam2 :: kam3 :: kam4 :: kam5 :: kam6 :: kam7 :: kam8 :: kam9 :: kam10 :: kam11 :: kam12 :: kam13 :: kam14 :: kam15 :: kam16 :: kam17 :: kam18 :: kam19 :: kam20 :: [])) true).wp Try.prog (Exit.then K (fun _ _ _ => False)) { tmps := List.toArray (u0 :: (.int .i64 (n : Int)) :: u2 :: (.pointer (some ⟨T0, 0, none⟩)) :: u4 :: u5 :: u6 :: u7 :: (.int .i64 (k : Int)) :: u9 :: u10 :: u11 :: u12 :: u13 :: u14 :: u15 :: u16 :: u17 :: u18 :: u19 :: u20 :: u21 :: u22 :: u23 :: u24 :: u25 :: u26 :: u27 :: u28 :: u29 :: u30 :: u31 :: u32 :: u33 :: u34 :: u35 :: u36 :: u37 :: u38 :: u39 :: u40 :: u41 :: u42 :: u43 :: u44 :: u45 :: u46 :: u47 :: u48 :: u49 :: u50 :: u51 :: u52 :: []), defers := [] } W := by
  have HK := hide hK0
  have HT := hide hT
  have HO := hide hO
  have NT := hide (Array.getElem?_eq_some_iff.1 hT).1
  clear hK0 hT hO
  have i0 : (0 : Int) ≤ (k : Int) := by omega
  have hbq : (o.s.tmod 2 != 0) = b := hb
  refine wp_reg (fun z => W.heap.size ≤ z) (R := fun V => Ch (fun _ => False) W V) (by kernel_rfl) (Ch.drew _) (fun V0 cV zk => ?_)
  have CV := hide cV
  clear cV
  have HX := hide (fun wq (kq : Ch (fun z => W.heap.size ≤ z) V0 wq) => show wq.cell? ⟨T0, 3, none⟩ = some (.slice (some ⟨ob, oo, none⟩) rn rc) ∧ wq.cell? ⟨ob, oo + k * 2, none⟩ = some (.int .i64 o.h) ∧ wq.cell? ⟨ob, oo + k * 2 + 1, none⟩ = some (.int .i64 o.s) from by
    have e := Lib.cell_of_heap (kq.box (CV.out.box HT.out (fun h => h)) (fun e => by have := NT.out; omega))
    have hl := cell_lt HO.out.c0
    refine ⟨by simp [e], ?_, ?_⟩
    · rw [kq.cell (Nat.lt_of_lt_of_le hl CV.out.size) (fun e => by omega), CV.out.cell hl (fun h => h)]; exact HO.out.c0
    · rw [kq.cell (Nat.lt_of_lt_of_le hl CV.out.size) (fun e => by omega), CV.out.cell hl (fun h => h)]; exact HO.out.c1)
  apply tk 0 kam0 rfl (by kernel_rfl) (fun _ _ _ h => h) zk
  · intro wq zq
    go_simp
    try rfl
  go_frame
  apply tk 1 kam1 rfl (by kernel_rfl) (fun _ _ _ h => h) zk
  · intro wq zq
    obtain ⟨s0, s1, s2⟩ := HX.out _ zq
    go_simp
    try rfl
  go_frame
  apply tk 2 kam2 rfl (by kernel_rfl) (fun _ _ _ h => h) zk
  · intro wq zq
    go_simp
    try rfl
  go_frame
  apply tk 3 kam3 rfl (by kernel_rfl) (fun _ _ _ h => h) zk
  · intro wq zq
    go_simp
    try rfl
  go_frame
  apply tk 4 kam4 rfl (by kernel_rfl) (fun _ _ _ h => h) zk
  · intro wq zq
    go_simp
    try rfl
  go_frame
  apply tk 5 kam5 rfl (by kernel_rfl) (fun _ _ _ h => h) zk
  · intro wq zq
    obtain ⟨s0, s1, s2⟩ := HX.out _ zq
    go_simp
    try rfl
  go_frame
  apply tk 6 kam6 rfl (by kernel_rfl) (fun _ _ _ h => h) zk
  · intro wq zq
    go_simp
    try rfl
  go_frame
  apply tk 10 kam10 rfl (by kernel_rfl) (fun _ _ _ h => h) zk
  · intro wq zq
    go_simp
    try rfl
  go_frame
  apply tk 11 kam11 rfl (by kernel_rfl) (fun _ _ _ h => h) zk
  · intro wq zq
    obtain ⟨s0, s1, s2⟩ := HX.out _ zq
    go_simp
    try rfl
  go_frame
  apply tk 12 kam12 rfl (by kernel_rfl) (fun _ _ _ h => h) zk
  · intro wq zq
    go_simp
    try rfl
  go_frame
  apply tk 13 kam13 rfl (by kernel_rfl) (fun _ _ _ h => h) zk
  · intro wq zq
    go_simp
    try rfl
  go_frame
  apply tk 14 kam14 rfl (by kernel_rfl) (fun _ _ _ h => h) zk
  · intro wq zq
    go_simp
    try rfl
  go_frame
  apply tk 15 kam15 rfl (by kernel_rfl) (fun _ _ _ h => h) zk
  · intro wq zq
    obtain ⟨s0, s1, s2⟩ := HX.out _ zq
    go_simp
    try rfl
  go_frame
  apply tk 16 kam16 rfl (by kernel_rfl) (fun _ _ _ h => h) zk
  · intro wq zq
    go_simp
    try rfl
  go_frame
  apply tk 17 kam17 rfl (by kernel_rfl) (fun _ _ _ h => h) zk
  · intro wq zq
    go_simp
    try rfl
  go_frame
  refine wpAnyH_ready (rs := [7, 19]) (by kernel_rfl) (by simp) ?_
  refine AllReadyH.cons (o := kam7) rfl (fun K hK => ?_) (AllReadyH.cons (o := kam19) rfl (fun K hK => ?_) AllReadyH.nil)
  · go_simp
    refine (picks_is HO.out.h (n := n) hn (by omega) _).mono ?_
    rintro e wp ⟨rfl, hw⟩
    rw [hw]
    clear hw wp
    have ZP := hide zk
    go_wp2_with fail
    refine hK.out _ _ ?_ (fun zk => ?_)
    · exact ZP.out
    clear hK K
    try go_frame
    have hpk := pkW_lt o.h hn
    have hwr : IntKind.i64.wrap (1 + (pkW o.h n : Int)) = 1 + (pkW o.h n : Int) := by rw [IntKind.wrap_i64]; omega
    apply tk 8 kam8 rfl (by kernel_rfl) (fun _ _ _ h => h) zk
    · intro wq zq
      go_simp
      try rfl
    go_frame
    clear hwr
    refine wpAnyH_ready (rs := [9, 19]) (by kernel_rfl) (by simp) ?_
    refine AllReadyH.cons (o := kam9) rfl (fun K hK => ?_) (AllReadyH.cons (o := kam19) rfl (fun K hK => ?_) AllReadyH.nil)
    · go_simp
      refine (h15_is V0 (n := 1 + (pkW o.h n : Int)) (by omega) (by omega)).mono ?_
      rintro e vh ⟨rfl, hb0⟩
      have Cvh := hide (CV.out.trans (Ch.of_below (Q := fun _ => False) hb0) (fun _ _ h => h))
      have Zvh := hide (zk.trans (Ch.of_below (Q := fun z => W.heap.size ≤ z) hb0) (fun _ _ h => h))
      clear hb0
      go_wp2_with fail
      refine hK.out _ _ ?_ (fun zk => ?_)
      · exact Zvh.out
      clear hK K
      try go_frame
      apply tk 18 kam18 rfl (by kernel_rfl) (fun _ _ _ h => h) zk
      · intro wq zq
        go_simp
        try rfl
      go_frame
      refine Go.Proofs.Ytbblmbbpicinlaa.rd 19 kam19 rfl (by kernel_rfl) fun K hK => ?_
      go_simp
      have hn0 := heap_new vh (.cells #[.int .u32 0, .int .u32 0, .bool false, .int .i64 0, .int .u32 0, .int .u32 0] 105)
      have hcA := Ch.alloc (Q := fun _ => False) vh (.cells #[.int .u32 0, .int .u32 0, .bool false, .int .i64 0, .int .u32 0, .int .u32 0] 105)
      refine hK.out _ _ ?_ (fun zk => ?_)
      · exact zk.trans (Ch.alloc (Q := fun z => W.heap.size ≤ z) _ _) (fun _ _ h => h)
      clear hK K
      try go_frame
      have hsz : W.heap.size ≤ vh.heap.size := (Cvh.out).size
      generalize vh.alloc (.cells #[.int .u32 0, .int .u32 0, .bool false, .int .i64 0, .int .u32 0, .int .u32 0] 105) = va at hn0 hcA zk ⊢
      have HN := hide hn0
      have HA := hide hsz
      have CA := hide ((Cvh.out).trans hcA (fun _ _ h => h))
      clear hn0 hcA hsz
      have n9 := HN.out
      have d0 : va.cell? ⟨vh.heap.size, 0, none⟩ = some (.int .u32 0) := by simp [Lib.cell_of_heap n9]
      have d1 : va.cell? ⟨vh.heap.size, 1, none⟩ = some (.int .u32 0) := by simp [Lib.cell_of_heap n9]
      have d2 : va.cell? ⟨vh.heap.size, 2, none⟩ = some (.bool false) := by simp [Lib.cell_of_heap n9]
      have d3 : va.cell? ⟨vh.heap.size, 3, none⟩ = some (.int .i64 0) := by simp [Lib.cell_of_heap n9]
      have d4 : va.cell? ⟨vh.heap.size, 4, none⟩ = some (.int .u32 0) := by simp [Lib.cell_of_heap n9]
      have d5 : va.cell? ⟨vh.heap.size, 5, none⟩ = some (.int .u32 0) := by simp [Lib.cell_of_heap n9]
      have df : ∀ o, va.frozen? ⟨vh.heap.size, o, none⟩ = false := fun o => by simp [World.frozen?, n9]
      have HS := hide (am_set n9 (.int .u32 (1 + (pkW o.h n : Int))) (.int .u32 1) (.bool b) (.int .i64 0) (.int .u32 0) (.int .u32 0))
      clear n9
      refine Go.Proofs.Ytbblmbbpicinlaa.rd 20 kam20 rfl (by kernel_rfl) fun K hK => ?_
      go_simp
      refine hK.out _ _ ?_ (fun zk => ?_)
      · exact zk.trans HS.out.2 (fun z hz e => by rw [e]; exact HA.out)
      clear hK K
      try go_frame
      refine wpAnyH_done (by kernel_rfl) ?_ _
      refine HK.out vh.heap.size _ _ _ _ _ _ _ _ _ _ _ _ _ _ _ _ _ _ _ _ ((CA.out).trans HS.out.2 (fun y hy e => by have := HA.out; omega)) HA.out ?_
      have h8 := HS.out.1
      rw [show ((1 + pkW o.h n : Nat) : Int) = 1 + (pkW o.h n : Int) by omega]
      exact h8
    · go_simp
      have hn0 := heap_new V0 (.cells #[.int .u32 0, .int .u32 0, .bool false, .int .i64 0, .int .u32 0, .int .u32 0] 105)
      have hcA := Ch.alloc (Q := fun _ => False) V0 (.cells #[.int .u32 0, .int .u32 0, .bool false, .int .i64 0, .int .u32 0, .int .u32 0] 105)
      refine hK.out _ _ ?_ (fun zk => ?_)
      · exact zk.trans (Ch.alloc (Q := fun z => W.heap.size ≤ z) _ _) (fun _ _ h => h)
      clear hK K
      try go_frame
      have hsz : W.heap.size ≤ V0.heap.size := (CV.out).size
      generalize V0.alloc (.cells #[.int .u32 0, .int .u32 0, .bool false, .int .i64 0, .int .u32 0, .int .u32 0] 105) = va at hn0 hcA zk ⊢
      have HN := hide hn0
      have HA := hide hsz
      have CA := hide ((CV.out).trans hcA (fun _ _ h => h))
      clear hn0 hcA hsz
      refine Go.Proofs.Ytbblmbbpicinlaa.rd 9 kam9 rfl (by kernel_rfl) fun K hK => ?_
      go_simp
      refine (h15_is va (n := 1 + (pkW o.h n : Int)) (by omega) (by omega)).mono ?_
      rintro e vh ⟨rfl, hb0⟩
      have Cvh := hide (CA.out.trans (Ch.of_below (Q := fun _ => False) hb0) (fun _ _ h => h))
      have Zvh := hide (zk.trans (Ch.of_below (Q := fun z => W.heap.size ≤ z) hb0) (fun _ _ h => h))
      replace HN := hide ((Ch.of_below (Q := fun _ => False) hb0).box HN.out (fun h => h))
      clear hb0
      go_wp2_with fail
      refine hK.out _ _ ?_ (fun zk => ?_)
      · exact Zvh.out
      clear hK K
      try go_frame
      apply tk 18 kam18 rfl (by kernel_rfl) (fun _ _ _ h => h) zk
      · intro wq zq
        go_simp
        try rfl
      go_frame
      have n9 := HN.out
      have d0 : vh.cell? ⟨V0.heap.size, 0, none⟩ = some (.int .u32 0) := by simp [Lib.cell_of_heap n9]
      have d1 : vh.cell? ⟨V0.heap.size, 1, none⟩ = some (.int .u32 0) := by simp [Lib.cell_of_heap n9]
      have d2 : vh.cell? ⟨V0.heap.size, 2, none⟩ = some (.bool false) := by simp [Lib.cell_of_heap n9]
      have d3 : vh.cell? ⟨V0.heap.size, 3, none⟩ = some (.int .i64 0) := by simp [Lib.cell_of_heap n9]
      have d4 : vh.cell? ⟨V0.heap.size, 4, none⟩ = some (.int .u32 0) := by simp [Lib.cell_of_heap n9]
      have d5 : vh.cell? ⟨V0.heap.size, 5, none⟩ = some (.int .u32 0) := by simp [Lib.cell_of_heap n9]
      have df : ∀ o, vh.frozen? ⟨V0.heap.size, o, none⟩ = false := fun o => by simp [World.frozen?, n9]
      have HS := hide (am_set n9 (.int .u32 (1 + (pkW o.h n : Int))) (.int .u32 1) (.bool b) (.int .i64 0) (.int .u32 0) (.int .u32 0))
      clear n9
      refine Go.Proofs.Ytbblmbbpicinlaa.rd 20 kam20 rfl (by kernel_rfl) fun K hK => ?_
      go_simp
      refine hK.out _ _ ?_ (fun zk => ?_)
      · exact zk.trans HS.out.2 (fun z hz e => by rw [e]; exact HA.out)
      clear hK K
      try go_frame
      refine wpAnyH_done (by kernel_rfl) ?_ _
      refine HK.out V0.heap.size _ _ _ _ _ _ _ _ _ _ _ _ _ _ _ _ _ _ _ _ ((Cvh.out).trans HS.out.2 (fun y hy e => by have := HA.out; omega)) HA.out ?_
      have h8 := HS.out.1
      rw [show ((1 + pkW o.h n : Nat) : Int) = 1 + (pkW o.h n : Int) by omega]
      exact h8
  · go_simp
    have hn0 := heap_new V0 (.cells #[.int .u32 0, .int .u32 0, .bool false, .int .i64 0, .int .u32 0, .int .u32 0] 105)
    have hcA := Ch.alloc (Q := fun _ => False) V0 (.cells #[.int .u32 0, .int .u32 0, .bool false, .int .i64 0, .int .u32 0, .int .u32 0] 105)
    refine hK.out _ _ ?_ (fun zk => ?_)
    · exact zk.trans (Ch.alloc (Q := fun z => W.heap.size ≤ z) _ _) (fun _ _ h => h)
    clear hK K
    try go_frame
    have hsz : W.heap.size ≤ V0.heap.size := (CV.out).size
    generalize V0.alloc (.cells #[.int .u32 0, .int .u32 0, .bool false, .int .i64 0, .int .u32 0, .int .u32 0] 105) = va at hn0 hcA zk ⊢
    have HN := hide hn0
    have HA := hide hsz
    have CA := hide ((CV.out).trans hcA (fun _ _ h => h))
    clear hn0 hcA hsz
    refine Go.Proofs.Ytbblmbbpicinlaa.rd 7 kam7 rfl (by kernel_rfl) fun K hK => ?_
    go_simp
    refine (picks_is HO.out.h (n := n) hn (by omega) _).mono ?_
    rintro e wp ⟨rfl, hw⟩
    rw [hw]
    clear hw wp
    have ZP := hide zk
    go_wp2_with fail
    refine hK.out _ _ ?_ (fun zk => ?_)
    · exact ZP.out
    clear hK K
    try go_frame
    have hpk := pkW_lt o.h hn
    have hwr : IntKind.i64.wrap (1 + (pkW o.h n : Int)) = 1 + (pkW o.h n : Int) := by rw [IntKind.wrap_i64]; omega
    apply tk 8 kam8 rfl (by kernel_rfl) (fun _ _ _ h => h) zk
    · intro wq zq
      go_simp
      try rfl
    go_frame
    clear hwr
    refine Go.Proofs.Ytbblmbbpicinlaa.rd 9 kam9 rfl (by kernel_rfl) fun K hK => ?_
    go_simp
    refine (h15_is va (n := 1 + (pkW o.h n : Int)) (by omega) (by omega)).mono ?_
    rintro e vh ⟨rfl, hb0⟩
    have Cvh := hide (CA.out.trans (Ch.of_below (Q := fun _ => False) hb0) (fun _ _ h => h))
    have Zvh := hide (zk.trans (Ch.of_below (Q := fun z => W.heap.size ≤ z) hb0) (fun _ _ h => h))
    replace HN := hide ((Ch.of_below (Q := fun _ => False) hb0).box HN.out (fun h => h))
    clear hb0
    go_wp2_with fail
    refine hK.out _ _ ?_ (fun zk => ?_)
    · exact Zvh.out
    clear hK K
    try go_frame
    apply tk 18 kam18 rfl (by kernel_rfl) (fun _ _ _ h => h) zk
    · intro wq zq
      go_simp
      try rfl
    go_frame
    have n9 := HN.out
    have d0 : vh.cell? ⟨V0.heap.size, 0, none⟩ = some (.int .u32 0) := by simp [Lib.cell_of_heap n9]
    have d1 : vh.cell? ⟨V0.heap.size, 1, none⟩ = some (.int .u32 0) := by simp [Lib.cell_of_heap n9]
    have d2 : vh.cell? ⟨V0.heap.size, 2, none⟩ = some (.bool false) := by simp [Lib.cell_of_heap n9]
    have d3 : vh.cell? ⟨V0.heap.size, 3, none⟩ = some (.int .i64 0) := by simp [Lib.cell_of_heap n9]
    have d4 : vh.cell? ⟨V0.heap.size, 4, none⟩ = some (.int .u32 0) := by simp [Lib.cell_of_heap n9]
    have d5 : vh.cell? ⟨V0.heap.size, 5, none⟩ = some (.int .u32 0) := by simp [Lib.cell_of_heap n9]
    have df : ∀ o, vh.frozen? ⟨V0.heap.size, o, none⟩ = false := fun o => by simp [World.frozen?, n9]
    have HS := hide (am_set n9 (.int .u32 (1 + (pkW o.h n : Int))) (.int .u32 1) (.bool b) (.int .i64 0) (.int .u32 0) (.int .u32 0))
    clear n9
    refine Go.Proofs.Ytbblmbbpicinlaa.rd 20 kam20 rfl (by kernel_rfl) fun K hK => ?_
    go_simp
    refine hK.out _ _ ?_ (fun zk => ?_)
    · exact zk.trans HS.out.2 (fun z hz e => by rw [e]; exact HA.out)
    clear hK K
    try go_frame
    refine wpAnyH_done (by kernel_rfl) ?_ _
    refine HK.out V0.heap.size _ _ _ _ _ _ _ _ _ _ _ _ _ _ _ _ _ _ _ _ ((Cvh.out).trans HS.out.2 (fun y hy e => by have := HA.out; omega)) HA.out ?_
    have h8 := HS.out.1
    rw [show ((1 + pkW o.h n : Nat) : Int) = 1 + (pkW o.h n : Int) by omega]
    exact h8

end Go.Proofs.Ytbblmbbpicinlaa

namespace Go.Proofs.Ytbblmbbpicinlaa
open Go.RowKit

theorem nfAm : (Try.prog.info? 105).map (fun i => (i.zero, i.size, i.bytes)) = some (some (amV ⟨(0, 0), false, zVa⟩), 6, 32) := by kernel_rfl
theorem OnAt.ch {Q : Nat → Prop} {w w' : World} {b o : Nat} {y : On} (h : OnAt w b o y) (hc : Ch Q w w') (hq : ¬ Q b) : OnAt w' b o y :=
  ⟨by rw [hc.cell (cell_lt h.c0) hq]; exact h.c0, by rw [hc.cell (cell_lt h.c0) hq]; exact h.c1, h.h, h.s⟩

set_option maxRecDepth 100000 in
set_option maxHeartbeats 16000000 in
theorem arms_is {w : World} {N n rc : Nat} {m tg tt tc : Int} {ra : Option Addr} {ones : List On} (hon : Lst N 2 (OnAt w) (.slice ra ones.length rc) ones) (hn : 0 < n) (hn5 : n ≤ 5) (hm0 : 0 ≤ m) (hm : m ≤ 1000) :
    Calls Try.prog 41 #[.agg #[.int .i64 tg, .int .i64 tt, .int .i64 tc, .slice ra ones.length rc], .int .i64 (n : Int), .int .i64 m] w fun e w' => ∃ v, e = .returned v ∧ Row amF 6 105 w' w.heap.size v (amK n m 0 (ones.take 50)) ∧ Below w.heap.size w w' := by
  obtain ⟨i0, hi0, hz0, hz1, hz2⟩ := nf_open nfAm
  obtain ⟨ob, oo, ⟨a', c', hs, hlc, hl63, haddr⟩, hat⟩ := hon
  injection hs with hs1 _ hs2
  subst hs1 hs2
  obtain ⟨w1, hw1⟩ : ∃ z, w.alloc (.cells #[.int .i64 tg, .int .i64 tt, .int .i64 tc, .slice ra ones.length rc] 102) = z := ⟨_, rfl⟩
  have c1 : Ch (fun _ => False) w w1 := by rw [← hw1]; exact Ch.alloc _ _
  have C1 := hide c1
  have N1 := hide (show w1.heap[w.heap.size]? = some (.cells #[.int .i64 tg, .int .i64 tt, .int .i64 tc, .slice ra ones.length rc] 102 (0, 0)) by rw [← hw1]; exact heap_new _ _)
  have HAD := hide haddr
  have HAT := hide (fun i (h : i < ones.length) => (hat i h).ch c1 (fun h => h))
  have HL63 := hide hl63
  clear c1 haddr hat hlc hl63
  go_enter Try.func41, Try.ntmps41
  go_wp2_with fail
  try rw [hw1]
  clear hw1
  go_loopw [7, 8] (fun t i wr => ∃ k : Nat, k ≤ ones.length ∧ k ≤ 50 ∧ i = .int .i64 (k : Int) ∧ Hid (Row amF 6 105 wr w1.heap.size t (amK n m 0 (ones.take k)) ∧ Ch (fun _ => False) w1 wr)) (fun _ i _ => 50 - (intOf i).toNat)
  case atStart => exact ⟨0, Nat.zero_le _, by omega, rfl, hide ⟨Row.nil _ _, Ch.refl _ _⟩⟩
  case round =>
    obtain ⟨k, hk, hk50, rfl, HI⟩ := hrel
    obtain ⟨W0, rfl⟩ : ∃ x, x = wr := ⟨_, rfl⟩
    obtain ⟨t0, et⟩ : ∃ u, u = u7 := ⟨_, rfl⟩
    subst et
    have HR := hide HI.out.1
    have HC := hide HI.out.2
    have b3 : W0.cell? ⟨w.heap.size, 3, none⟩ = some (.slice ra ones.length rc) := by simp [Lib.cell_of_heap (HC.out.box N1.out (fun h => h))]
    have END : (k = ones.length ∨ k = 50) → ones.take k = ones.take 50 := fun e => by
      rcases e with e | e
      · rw [List.take_of_length_le (by omega), List.take_of_length_le (by omega)]
      · rw [e]
    have HEND := hide END
    clear END HI
    by_cases hlt : k < ones.length
    · have i1 : (k : Int) < (ones.length : Int) := by omega
      by_cases h50 : k < 50
      · have i2 : (k : Int) < 50 := by omega
        have hra := (HAD.out (by omega)).1
        subst hra
        obtain ⟨o, ho⟩ : ∃ o, ones[k] = o := ⟨_, rfl⟩
        have hoat := (HAT.out k hlt).ch HC.out (fun h => h)
        rw [ho] at hoat
        have HO := hide hoat
        have HL := hide (And.intro hlt h50)
        have HOX := hide (show ones[k]'(HL.out.1) = o from ho)
        have N0 := hide (HC.out.box N1.out (fun h => h))
        clear hlt h50 hk hk50 ho hoat
        go_wp2_with fail
        clear b3
        obtain ⟨b, hb⟩ : ∃ b, sdB o.s = b := ⟨_, rfl⟩
        refine wp_thenC (arms_r5 N0.out HO.out i1 (by omega) hn hn5 hb (fun A W1 t21 t22 t23 t24 t25 t26 t27 t28 t29 t30 t31 t32 t33 t34 t35 t36 t37 t38 t39 cW hA hAx => ?_))
        have CW := hide cW
        have HA := hide hA
        rw [show ((1 + pkW o.h n : Nat) : Int) = 1 + (pkW o.h n : Int) by omega] at hAx
        have NA := hide hAx
        have HB := hide hb
        have HT := hide (show ones.take (k + 1) = ones.take k ++ [o] by rw [List.take_succ_eq_append_getElem HL.out.1, HOX.out])
        have hlen : (amK n m 0 (ones.take k)).length = k := by rw [amK_len, List.length_take]; have := HL.out; omega
        have HLEN := hide hlen
        clear cW hA hAx hb hlen
        have a2 : W1.cell? ⟨A, 2, none⟩ = some (.bool b) := by simp [Lib.cell_of_heap NA.out]
        cases b with
        | true =>
          have hw5 : IntKind.i64.wrap (50 * m) = 50 * m := by rw [IntKind.wrap_i64]; omega
          have hw6 : IntKind.i64.wrap (50 * m + (k : Int)) = 50 * m + (k : Int) := by rw [IntKind.wrap_i64]; omega
          have a3 : W1.cell? ⟨A, 3, none⟩ = some (.int .i64 0) := by simp [Lib.cell_of_heap NA.out]
          have a4 : W1.cell? ⟨A, 4, none⟩ = some (.int .u32 0) := by simp [Lib.cell_of_heap NA.out]
          have a5 : W1.cell? ⟨A, 5, none⟩ = some (.int .u32 0) := by simp [Lib.cell_of_heap NA.out]
          have af : ∀ j, W1.frozen? ⟨A, j, none⟩ = false := frz NA.out
          have hset : (((W1.setCell ⟨A, 3, none⟩ (.int .i64 (50 * m + (k : Int)))).setCell ⟨A, 4, none⟩ (.int .u32 0)).setCell ⟨A, 5, none⟩ (.int .u32 0)).heap[A]? = some (.cells #[.int .u32 (1 + (pkW o.h n : Int)), .int .u32 1, .bool true, .int .i64 (50 * m + (k : Int)), .int .u32 0, .int .u32 0] 105 (0, 0)) := by rw [heap_set (heap_set (heap_set NA.out 3 _) 4 _) 5 _]; rfl
          have cset : Ch (fun y => y = A) W1 (((W1.setCell ⟨A, 3, none⟩ (.int .i64 (50 * m + (k : Int)))).setCell ⟨A, 4, none⟩ (.int .u32 0)).setCell ⟨A, 5, none⟩ (.int .u32 0)) := ((Ch.set (Q := fun y => y = A) W1 rfl 3 _).trans (Ch.set (Q := fun y => y = A) _ rfl 4 _) (fun _ _ h => h)).trans (Ch.set (Q := fun y => y = A) _ rfl 5 _) (fun _ _ h => h)
          obtain ⟨W2, hW2⟩ : ∃ z, ((W1.setCell ⟨A, 3, none⟩ (.int .i64 (50 * m + (k : Int)))).setCell ⟨A, 4, none⟩ (.int .u32 0)).setCell ⟨A, 5, none⟩ (.int .u32 0) = z := ⟨_, rfl⟩
          have e := Lib.cell_of_heap hset
          have e0 : (((W1.setCell ⟨A, 3, none⟩ (.int .i64 (50 * m + (k : Int)))).setCell ⟨A, 4, none⟩ (.int .u32 0)).setCell ⟨A, 5, none⟩ (.int .u32 0)).cell? ⟨A, 0, none⟩ = some (.int .u32 (1 + (pkW o.h n : Int))) := by simp only [e]; rfl
          have e1 : (((W1.setCell ⟨A, 3, none⟩ (.int .i64 (50 * m + (k : Int)))).setCell ⟨A, 4, none⟩ (.int .u32 0)).setCell ⟨A, 5, none⟩ (.int .u32 0)).cell? ⟨A, 1, none⟩ = some (.int .u32 1) := by simp only [e]; rfl
          have e2 : (((W1.setCell ⟨A, 3, none⟩ (.int .i64 (50 * m + (k : Int)))).setCell ⟨A, 4, none⟩ (.int .u32 0)).setCell ⟨A, 5, none⟩ (.int .u32 0)).cell? ⟨A, 2, none⟩ = some (.bool true) := by simp only [e]; rfl
          have e3 : (((W1.setCell ⟨A, 3, none⟩ (.int .i64 (50 * m + (k : Int)))).setCell ⟨A, 4, none⟩ (.int .u32 0)).setCell ⟨A, 5, none⟩ (.int .u32 0)).cell? ⟨A, 3, none⟩ = some (.int .i64 (50 * m + (k : Int))) := by simp only [e]; rfl
          have e4 : (((W1.setCell ⟨A, 3, none⟩ (.int .i64 (50 * m + (k : Int)))).setCell ⟨A, 4, none⟩ (.int .u32 0)).setCell ⟨A, 5, none⟩ (.int .u32 0)).cell? ⟨A, 4, none⟩ = some (.int .u32 0) := by simp only [e]; rfl
          have e5 : (((W1.setCell ⟨A, 3, none⟩ (.int .i64 (50 * m + (k : Int)))).setCell ⟨A, 4, none⟩ (.int .u32 0)).setCell ⟨A, 5, none⟩ (.int .u32 0)).cell? ⟨A, 5, none⟩ = some (.int .u32 0) := by simp only [e]; rfl
          rw [hW2] at hset cset
          have NW := hide hset
          have CX := hide (CW.out.trans cset (fun y hy e2 => by have := HA.out; omega))
          have HW2 := hide hW2
          have hszw : W2.heap.size = W1.heap.size := by rw [← hW2, size_set, size_set, size_set]
          clear hset cset hW2 e
          have HRW := hide (Row.ch HR.out (CX.out) (fun _ _ h => h))
          have HCW := hide (HC.out.trans (CX.out) (fun _ _ h => h))
          have HOW := hide (World.ownsRow.alloc HRW.out (.cells #[.int .u32 (1 + (pkW o.h n : Int)), .int .u32 1, .bool true, .int .i64 (50 * m + (k : Int)), .int .u32 0, .int .u32 0] 105))
          have HN1 := hide (row_new W2 (amF ⟨(1 + (pkW o.h n : Int), 1), true, ⟨50 * m + (k : Int), 0, 0⟩⟩) 105 (n := W1.heap.size) hszw)
          have HM1 := hide (show (amK n m 0 (ones.take k)).length + 1 ≤ maxLen by unfold maxLen; rw [HLEN.out]; have := HL.out; omega)
          have HM2 := hide (show ((amK n m 0 (ones.take k)).length + 1) * 32 ≤ 140737488355328 by rw [HLEN.out]; have := HL.out; omega)
          have HM3 := hide (show w1.heap.size ≤ (W2.alloc (.cells #[.int .u32 (1 + (pkW o.h n : Int)), .int .u32 1, .bool true, .int .i64 (50 * m + (k : Int)), .int .u32 0, .int .u32 0] 105)).heap.size by have := HCW.out.size; simp; omega)
          clear hszw
          rw [← HW2.out] at HOW HN1 HM3
          go_wp2_with (at_builtin; refine wpList_append_own_at _ rfl _ _ 94 rfl w1.heap.size 105 i0 (amV ⟨(0, 0), false, zVa⟩) 6 32 Try.underlying94 hi0 hz0 hz1 hz2 rfl (by decide) _ (amK n m 0 (ones.take k)).length ((amK n m 0 (ones.take k)).flatMap amF) rfl HOW.out ⟨W1.heap.size, 0, none⟩ 1 1 (amF ⟨(1 + (pkW o.h n : Int), 1), true, ⟨50 * m + (k : Int), 0, 0⟩⟩) rfl rfl HN1.out (amF_one _) HM1.out HM2.out HM3.out ?_)
          intro v5 w5 hown5 hgrow5 _ _
          rw [HW2.out] at hgrow5
          have R5 := hide (show Row amF 6 105 w5 w1.heap.size v5 (amK n m 0 (ones.take k) ++ [⟨(1 + (pkW o.h n : Int), 1), true, ⟨50 * m + (k : Int), 0, 0⟩⟩]) from Row.snoc hown5)
          have C5 := hide (HCW.out.trans ((Ch.alloc (Q := fun y => t0.ownBlock = some y) W2 _).trans (Ch.of_grown (Q := fun y => t0.ownBlock = some y) hgrow5 (fun _ e => e)) (fun _ _ h => h)) (fun y hy e => by have := (own_in HRW.out e).1; omega))
          clear hown5 hgrow5
          have iw : IntKind.i64.wrap ((k : Int) + 1) = (k : Int) + 1 := by rw [IntKind.wrap_i64]; omega
          go_wp2_with fail
          refine ⟨?rel, ?measure⟩
          case rel =>
            refine ⟨k + 1, HL.out.1, HL.out.2, rfl, hide ⟨?_, C5.out⟩⟩
            rw [HT.out, amK_snoc, HB.out, List.length_take, show 0 + min k ones.length = k by have := HL.out; omega, show ((1 + pkW o.h n : Nat) : Int) = 1 + (pkW o.h n : Int) by omega]
            exact R5.out
          case measure =>
            show 50 - ((k : Int) + 1).toNat < 50 - (k : Int).toNat
            have := HL.out
            omega
        | false =>
          have a0 : W1.cell? ⟨A, 0, none⟩ = some (.int .u32 (1 + (pkW o.h n : Int))) := by simp [Lib.cell_of_heap NA.out]
          have a1 : W1.cell? ⟨A, 1, none⟩ = some (.int .u32 1) := by simp [Lib.cell_of_heap NA.out]
          have a3 : W1.cell? ⟨A, 3, none⟩ = some (.int .i64 0) := by simp [Lib.cell_of_heap NA.out]
          have a4 : W1.cell? ⟨A, 4, none⟩ = some (.int .u32 0) := by simp [Lib.cell_of_heap NA.out]
          have a5 : W1.cell? ⟨A, 5, none⟩ = some (.int .u32 0) := by simp [Lib.cell_of_heap NA.out]
          have HRW := hide (Row.ch HR.out (CW.out) (fun _ _ h => h))
          have HCW := hide (HC.out.trans (CW.out) (fun _ _ h => h))
          have HOW := hide (World.ownsRow.alloc HRW.out (.cells #[.int .u32 (1 + (pkW o.h n : Int)), .int .u32 1, .bool false, .int .i64 0, .int .u32 0, .int .u32 0] 105))
          have HN1 := hide (row_new W1 (amF ⟨(1 + (pkW o.h n : Int), 1), false, zVa⟩) 105 (n := W1.heap.size) rfl)
          have HM1 := hide (show (amK n m 0 (ones.take k)).length + 1 ≤ maxLen by unfold maxLen; rw [HLEN.out]; have := HL.out; omega)
          have HM2 := hide (show ((amK n m 0 (ones.take k)).length + 1) * 32 ≤ 140737488355328 by rw [HLEN.out]; have := HL.out; omega)
          have HM3 := hide (show w1.heap.size ≤ (W1.alloc (.cells #[.int .u32 (1 + (pkW o.h n : Int)), .int .u32 1, .bool false, .int .i64 0, .int .u32 0, .int .u32 0] 105)).heap.size by have := HCW.out.size; simp; omega)
          go_wp2_with (at_builtin; refine wpList_append_own_at _ rfl _ _ 94 rfl w1.heap.size 105 i0 (amV ⟨(0, 0), false, zVa⟩) 6 32 Try.underlying94 hi0 hz0 hz1 hz2 rfl (by decide) _ (amK n m 0 (ones.take k)).length ((amK n m 0 (ones.take k)).flatMap amF) rfl HOW.out ⟨W1.heap.size, 0, none⟩ 1 1 (amF ⟨(1 + (pkW o.h n : Int), 1), false, zVa⟩) rfl rfl HN1.out (amF_one _) HM1.out HM2.out HM3.out ?_)
          intro v5 w5 hown5 hgrow5 _ _
          have R5 := hide (show Row amF 6 105 w5 w1.heap.size v5 (amK n m 0 (ones.take k) ++ [⟨(1 + (pkW o.h n : Int), 1), false, zVa⟩]) from Row.snoc hown5)
          have C5 := hide (HCW.out.trans ((Ch.alloc (Q := fun y => t0.ownBlock = some y) W1 _).trans (Ch.of_grown (Q := fun y => t0.ownBlock = some y) hgrow5 (fun _ e => e)) (fun _ _ h => h)) (fun y hy e => by have := (own_in HRW.out e).1; omega))
          clear hown5 hgrow5
          have iw : IntKind.i64.wrap ((k : Int) + 1) = (k : Int) + 1 := by rw [IntKind.wrap_i64]; omega
          go_wp2_with fail
          refine ⟨?rel, ?measure⟩
          case rel =>
            refine ⟨k + 1, HL.out.1, HL.out.2, rfl, hide ⟨?_, C5.out⟩⟩
            rw [HT.out, amK_snoc, HB.out, List.length_take, show 0 + min k ones.length = k by have := HL.out; omega, show ((1 + pkW o.h n : Nat) : Int) = 1 + (pkW o.h n : Int) by omega]
            exact R5.out
          case measure =>
            show 50 - ((k : Int) + 1).toNat < 50 - (k : Int).toNat
            have := HL.out
            omega
      · have i2 : ¬ (k : Int) < 50 := by omega
        have HT := hide (HEND.out (.inr (by omega)))
        clear hlt h50 hk hk50
        go_wp2_with fail
        go_ret
        exact ⟨_, rfl, by rw [← HT.out]; exact rowLow HR.out C1.out.size, (C1.out.trans HC.out (fun _ _ h => h)).below (Nat.le_refl _) (fun _ _ h => h)⟩
    · have i1 : ¬ (k : Int) < (ones.length : Int) := by omega
      have HT := hide (HEND.out (.inl (by omega)))
      clear hlt hk hk50
      go_wp2_with fail
      go_ret
      exact ⟨_, rfl, by rw [← HT.out]; exact rowLow HR.out C1.out.size, (C1.out.trans HC.out (fun _ _ h => h)).below (Nat.le_refl _) (fun _ _ h => h)⟩

end Go.Proofs.Ytbblmbbpicinlaa

namespace Go.Proofs.Ytbblmbbpicinlaa
open Go.RowKit

section
variable {l : List Wt} {ks : List Kn} {gr : Hnd} {x : Am} {k : Kn}
theorem ak_one (ng : nnH gr = false) (nw : sel (isWho gr.1 gr.2) l = []) (nx : nnH x.h = false) (hk : fnk ks x.h = some k) : akA l ks gr [x] = (if rdA l ks x then [0] else [], 0) := by
  unfold akA
  rw [ng, nw, if_neg (by decide), if_neg (by simp)]
  unfold plA
  rw [if_neg (by simp)]
  unfold lkA
  rw [show [x].any (badA ks) = false by simp [badA, nx, hk], if_neg (by decide)]
  unfold idxA
  rw [nx]
  unfold idxA
  cases rdA l ks x <;> rfl
theorem snd_park (hk : fnk ks x.h = some k) (hsd : x.sd = true) (hr : rdA l ks x = false) : sndK l k gr x.v = (⟨1, zVa, false, []⟩, pkL gr 0 [x] l, k) := by
  have hh := (fnk_some hk).2
  unfold rdA fkS at hr
  rw [hsd, if_pos rfl, hk] at hr
  unfold cnS at hr
  simp only [Bool.or_eq_false_iff, Bool.not_eq_false', decide_eq_false_iff_not, List.isEmpty_iff] at hr
  obtain ⟨h1, h2, h3⟩ := hr
  unfold sndK
  rw [h1, if_neg (by decide), h2]
  simp only
  rw [if_neg h3]
  simp only [pkL, wtD, wtV, hsd, if_true, hh]
  rfl
theorem rcv_park (hk : fnk ks x.h = some k) (hsd : x.sd = false) (hr : rdA l ks x = false) : rcvK l k gr = (⟨1, zVa, false, []⟩, pkL gr 0 [x] l, k) := by
  have hh := (fnk_some hk).2
  unfold rdA fkR at hr
  rw [hsd, if_neg (by decide), hk] at hr
  unfold cnR at hr
  simp only [Bool.or_eq_false_iff, Bool.not_eq_false', decide_eq_false_iff_not, List.isEmpty_iff] at hr
  obtain ⟨h1, h2, h3⟩ := hr
  have hx : k.xs = [] := List.eq_nil_of_length_eq_zero (by omega)
  unfold rcvK
  rw [hx]
  simp only
  rw [h2]
  simp only
  rw [h3, if_neg (by decide)]
  simp only [pkL, wtD, wtV, hsd, Bool.false_eq_true, if_false, hh]
  rfl
theorem snd_st (wo : WtOk l) {g : Hnd} {v : Va} (g1 : UsW g.1) (g2 : UsW g.2) (v0 : I64 v.n) (v1 : UsW v.s) (v2 : UsW v.g) : WtOk (sndK l k g v).2.1 ∧ (sndK l k g v).2.1.length ≤ l.length + 1 ∧ (sndK l k g v).2.2.h = k.h ∧ (sndK l k g v).1.wk.length ≤ 1 := by
  unfold sndK
  split
  · exact ⟨wo, by simp, rfl, by simp⟩
  · split
    · exact ⟨wo.lea _ _, by simp [leaW_len], rfl, by simp⟩
    · split
      · exact ⟨wo, by simp, rfl, by simp⟩
      · exact ⟨wo.put g1 g2 (by constructor <;> decide) v0 v1 v2, putW_len .., rfl, by simp⟩
theorem rcv_st (wo : WtOk l) {g : Hnd} (g1 : UsW g.1) (g2 : UsW g.2) : WtOk (rcvK l k g).2.1 ∧ (rcvK l k g).2.1.length ≤ l.length + 1 ∧ (rcvK l k g).2.2.h = k.h ∧ (rcvK l k g).1.wk.length ≤ 1 := by
  unfold rcvK
  split
  · split
    · exact ⟨wo, by simp, rfl, by simp⟩
    · exact ⟨wo.lea _ _, by simp [leaW_len], rfl, by simp⟩
  · split
    · exact ⟨wo.lea _ _, by simp [leaW_len], rfl, by simp⟩
    · split
      · exact ⟨wo, by simp, rfl, by simp⟩
      · exact ⟨wo.put g1 g2 (by constructor <;> decide) (by constructor <;> decide) (by constructor <;> decide) (by constructor <;> decide), putW_len .., rfl, by simp⟩
theorem cls_st (wo : WtOk l) {d : Dd} {l' : List Wt} {k' : Kn} (h : ClsK l k d l' k') : WtOk l' ∧ l'.length = l.length ∧ k'.h = k.h ∧ d.wk.length ≤ 2 * l.length := by
  rcases h with ⟨-, rfl, rfl, rfl⟩ | ⟨-, ws1, l1, ws2, a1, a2, rfl, rfl⟩
  · exact ⟨wo, rfl, rfl, by simp⟩
  · have e1 := a1.left
    have e2 := a2.left
    have n1 := WA_len a1
    have n2 := WA_len a2
    have m1 := sel_le (inRow k.h.1 k.h.2 2) l
    have m2 := sel_le (inRow k.h.1 k.h.2 1) l1
    refine ⟨e2.2.2 (e1.2.2 wo), by rw [e2.2.1, e1.2.1], rfl, ?_⟩
    show (ws1 ++ ws2).length ≤ _
    rw [List.length_append]
    have := e1.2.1
    omega
end

/-- the channels of the first n handles are there -/
def HsK (ks : List Kn) (n : Nat) : Prop := ∀ j, j < n → ∃ k, fnk ks (((j + 1 : Nat) : Int), 1) = some k
theorem HsK.set {ks : List Kn} {n : Nat} (h : HsK ks n) (x : Kn) : HsK (setk ks x) n := fun j hj => by
  obtain ⟨k, hk⟩ := h j hj
  rw [setk_find, hk]
  exact ⟨_, rfl⟩
theorem HsK.mk : ∀ (zs : List Int), HsK (mkK 0 zs) zs.length := fun zs j hj => by
  cases h : fnk (mkK 0 zs) (((j + 1 : Nat) : Int), 1) with
  | some k => exact ⟨k, rfl⟩
  | none =>
    exfalso
    have key : ∀ (i : Nat) (r : List Int), i ≤ j → j < i + r.length → ∃ x ∈ mkK i r, x.h = (((j + 1 : Nat) : Int), 1) := by
      intro i r
      induction r generalizing i with
      | nil => intro h1 h2; simp at h2; omega
      | cons z r ih =>
        intro h1 h2
        rw [List.length_cons] at h2
        by_cases e : i = j
        · subst e
          exact ⟨_, List.mem_cons_self .., rfl⟩
        · obtain ⟨x, hx, hh⟩ := ih (i + 1) (by omega) (by omega)
          exact ⟨x, List.mem_cons_of_mem _ hx, hh⟩
    obtain ⟨x, hx, hh⟩ := key 0 zs (Nat.zero_le _) (by omega)
    unfold fnk at h
    rw [List.find?_eq_none] at h
    exact h x hx (by simp [hh])

theorem SW.krow {w w' : World} {B c bp : Nat} {l : List Wt} {ks : List Kn} {G : Nat → Prop} (h : SW w B c bp l ks G) (hc : Ch G w w') {B' : Nat} {v : Value} {wk : List Wk} (hr : WkRow w B' v wk) : WkRow w' B' v wk :=
  Row.ch hr hc (fun b hb => by obtain ⟨_, _, cur, e⟩ := own_in hr hb; exact h.nb e (by decide))

/-- two worlds of channels beside each other -/
structure Tw (w wr : World) (B B2 c bp s d a2 : Nat) (l1 : List Wt) (ks1 : List Kn) (l2 : List Wt) (ks2 : List Kn) (G G2 : Nat → Prop) : Prop where
  s1 : SW wr B c bp l1 ks1 G
  s2 : SW wr B2 d a2 l2 ks2 G2
  dj : ∀ y, G y → ¬ G2 y
  sa : SelAt wr s c bp
  bl : Below w.heap.size w wr
  lo : w.heap.size ≤ B ∧ w.heap.size ≤ B2
section
variable {w wr w' : World} {B B2 c bp s d a2 : Nat} {l1 l2 l' : List Wt} {ks1 ks2 ks' : List Kn} {G G2 G' : Nat → Prop}
theorem Tw.quiet (h : Tw w wr B B2 c bp s d a2 l1 ks1 l2 ks2 G G2) (hc : Ch (fun _ => False) wr w') : Tw w w' B B2 c bp s d a2 l1 ks1 l2 ks2 G G2 :=
  ⟨h.s1.quiet hc, h.s2.quiet hc, h.dj, hc.box h.sa (fun h => h), h.bl.trans (hc.below (N := w.heap.size) h.bl.size (fun _ _ h => h)), h.lo⟩
theorem Tw.one (h : Tw w wr B B2 c bp s d a2 l1 ks1 l2 ks2 G G2) (hc : Ch G wr w') (hs : SW w' B c bp l' ks' G') (hd : ∀ y, G' y → G y ∨ wr.heap.size ≤ y) : Tw w w' B B2 c bp s d a2 l' ks' l2 ks2 G' G2 :=
  ⟨hs, h.s2.frame hc (fun y hy e => h.dj y e hy), fun y hy e => (hd y hy).elim (fun h1 => h.dj y h1 e) (fun h1 => by have := (h.s2.foot e).2; omega), h.s1.keep hc h.sa (by decide), h.bl.trans (h.s1.blw hc h.lo.1), h.lo⟩
theorem Tw.two (h : Tw w wr B B2 c bp s d a2 l1 ks1 l2 ks2 G G2) (hc : Ch G2 wr w') (hs : SW w' B2 d a2 l' ks' G') (hd : ∀ y, G' y → G2 y ∨ wr.heap.size ≤ y) : Tw w w' B B2 c bp s d a2 l1 ks1 l' ks' G G' :=
  ⟨h.s1.frame hc (fun y hy e => h.dj y hy e), hs, fun y hy e => (hd y e).elim (fun h1 => h.dj y hy h1) (fun h1 => by have := (h.s1.foot hy).2; omega), h.s2.keep hc h.sa (by decide), h.bl.trans (h.s2.blw hc h.lo.2), h.lo⟩
/-- a box of the law's own is written -/
theorem Tw.away (h : Tw w wr B B2 c bp s d a2 l1 ks1 l2 ks2 G G2) {A : Nat} (hc : Ch (fun y => y = A) wr w') (h1 : ¬ G A) (h2 : ¬ G2 A) (h3 : A ≠ s) (h4 : w.heap.size ≤ A) : Tw w w' B B2 c bp s d a2 l1 ks1 l2 ks2 G G2 :=
  ⟨h.s1.frame hc (fun y hy e => h1 (by rw [← e]; exact hy)), h.s2.frame hc (fun y hy e => h2 (by rw [← e]; exact hy)), h.dj, hc.box h.sa (fun e => h3 e.symm), h.bl.trans (hc.below (N := w.heap.size) h.bl.size (fun y hy e => by omega)), h.lo⟩
end

/-- the arms' block -/
def ArmB (w : World) (g : Nat) (cur : Array Value) (az : List Am) : Prop := w.heap[g]? = some (.cells cur 105 (0, 0)) ∧ AmL w g az
theorem ArmB.mv {w w' : World} {g : Nat} {cur : Array Value} {az : List Am} (h : ArmB w g cur az) (h' : w'.heap[g]? = some (.cells cur 105 (0, 0))) : ArmB w' g cur az := ⟨h', h.2.box (h'.trans h.1.symm)⟩

/-- a step of a plain script that came in -/
structure TnAt (N : Nat) (w : World) (b o : Nat) (y : Tn × List On) : Prop where
  c0 : w.cell? ⟨b, o, none⟩ = some (.int .i64 y.1.g)
  c1 : w.cell? ⟨b, o + 1, none⟩ = some (.int .i64 y.1.t)
  c2 : w.cell? ⟨b, o + 2, none⟩ = some (.int .i64 y.1.c)
  c3 : w.cell? ⟨b, o + 3, none⟩ = some (.slice y.1.ra y.1.rn y.1.rc)
  g : I64 y.1.g
  t : I64 y.1.t
  c : I64 y.1.c
  n : y.1.rn = y.2.length
  ar : Lst N 2 (OnAt w) (.slice y.1.ra y.1.rn y.1.rc) y.2
theorem OnAt.below {w w' : World} {b o : Nat} {y : On} (h : OnAt w b o y) (hb : Below w.heap.size w w') : OnAt w' b o y := h.ch (Ch.of_below (Q := fun _ => False) hb) (fun h => h)
theorem TnAt.below {N : Nat} {w w' : World} {b o : Nat} {y : Tn × List On} (h : TnAt N w b o y) (hb : Below w.heap.size w w') : TnAt N w' b o y := by
  have cc := Ch.of_below (Q := fun _ => False) hb
  obtain ⟨b', o', hs, hat⟩ := h.ar
  exact ⟨by rw [cc.cell (cell_lt h.c0) (fun h => h)]; exact h.c0, by rw [cc.cell (cell_lt h.c0) (fun h => h)]; exact h.c1, by rw [cc.cell (cell_lt h.c0) (fun h => h)]; exact h.c2, by rw [cc.cell (cell_lt h.c0) (fun h => h)]; exact h.c3, h.g, h.t, h.c, h.n, ⟨b', o', hs, fun i hi => (hat i hi).below hb⟩⟩

end Go.Proofs.Ytbblmbbpicinlaa
