/- Layer 13: the law's op, and of which handle it speaks. -/
import Derived.Test.YtcogiklnegpfiaaWa
namespace Go.Proofs.Ytcogiklnegpfiaa
open Go.RowKit Go.Shelf

def I64 (z : Int) : Prop := -9223372036854775808 ≤ z ∧ z ≤ 9223372036854775807
/-- an op -/
structure Oq where
  k : Int
  a : Int
  b : Int
  kd : Int
  ra : Option Addr
  rn : Nat
  rc : Nat
  hd : Bool
  s : Int
  g : Int
def opF (o : Oq) : List Value := [.int .i64 o.k, .int .i64 o.a, .int .i64 o.b, .int .i64 o.kd, .slice o.ra o.rn o.rc, .bool o.hd, .int .u32 o.s, .int .u32 o.g]
theorem opF_len (o : Oq) : (opF o).length = 8 := rfl
abbrev opV (o : Oq) : Value := .agg #[.int .i64 o.k, .int .i64 o.a, .int .i64 o.b, .int .i64 o.kd, .slice o.ra o.rn o.rc, .bool o.hd, .int .u32 o.s, .int .u32 o.g]

/-- which of n things -/
def pkW (c : Int) (n : Nat) : Nat := ((if c < 0 then -(c + 1) else c) % (n : Int)).toNat
theorem pkW_is {c d : Int} {n : Nat} (hn : 0 < n) (hd : (if c < 0 then -(c + 1) else c) = d) : pkW c n < n ∧ d % (n : Int) = (pkW c n : Int) := by
  unfold pkW
  rw [hd]
  have e1 := Int.emod_nonneg d (show (n : Int) ≠ 0 by omega)
  have e2 := Int.emod_lt_of_pos d (show (0 : Int) < n by omega)
  omega
theorem retI {a b : Int} (h : a = b) : Ending.returned (.int .i64 a) = Ending.returned (.int .i64 b) := by rw [h]
theorem picks_is {c : Int} (hc : I64 c) {n : Nat} (hn : 0 < n) (hn2 : n ≤ 100000) (w : World) :
    Calls Try.prog 13 #[.int .i64 c, .int .i64 (n : Int)] w fun e w' => e = .returned (.int .i64 (pkW c n : Int)) ∧ w' = w := by
  obtain ⟨h1, h2⟩ := hc
  have hz : ((n : Int) == 0) = false := by simp; omega
  by_cases hc : c < 0
  · obtain ⟨hk, e⟩ := pkW_is (c := c) hn (if_pos hc)
    have w1 : IntKind.i64.wrap (c + 1) = c + 1 := by rw [IntKind.wrap_i64]; omega
    have w2 : IntKind.i64.wrap (-(c + 1)) = -(c + 1) := by rw [IntKind.wrap_i64]; omega
    go_enter Try.func13, Try.ntmps13
    go_wp2
    go_ret
    exact ⟨retI (by rw [← Int.neg_tmod, Int.tmod_eq_emod_of_nonneg (by omega)]; exact e), rfl⟩
  · obtain ⟨hk, e⟩ := pkW_is (c := c) hn (if_neg hc)
    go_enter Try.func13, Try.ntmps13
    go_wp2
    go_ret
    exact ⟨retI (by first | rfl | exact e), rfl⟩

/-- the handle that an op speaks of -/
def hdlW (hs : List Hd) (c : Int) (o : Oq) : Hd := if o.hd || hs.isEmpty then (o.s, o.g) else (hs[pkW c hs.length]?).getD (0, 0)

theorem res_hdl (tm : Array Value) (A : Nat) (Z : World) (s g : Int) (h2 : tm[6]?.getD undef = .pointer (some ⟨A, 0, none⟩)) (c0 : Z.cell? ⟨A, 0, none⟩ = some (.int .u32 s)) (c1 : Z.cell? ⟨A, 1, none⟩ = some (.int .u32 g)) :
    (results Try.f14 tm).run Try.prog Z = .ok (hv s g) Z := by
  simp [results, Try.f14, h2, go_sem, c0, c1]

abbrev hm0 : Oper := { dst := some 19, op := Op.move (Operand.tmp 0), type := 28, pos := "law.go:87", after := #[], guard := none }
abbrev hm1 : Oper := { dst := some 20, op := Op.nilCheck (Operand.tmp 19), type := 0, pos := "law.go:87", after := #[{ on := 0, ground := Ground.data }], guard := none }
abbrev hm2 : Oper := { dst := some 21, op := Op.fieldAddr 37 (Operand.tmp 20) 3, type := 0, pos := "law.go:87", after := #[{ on := 1, ground := Ground.data }], guard := none }
abbrev hm3 : Oper := { dst := some 22, op := Op.load 34 (Operand.tmp 21), type := 34, pos := "law.go:87", after := #[{ on := 2, ground := Ground.data }], guard := none }
abbrev hm4 : Oper := { dst := some 23, op := Op.move (Operand.tmp 1), type := 3, pos := "law.go:87", after := #[], guard := none }
abbrev hm5 : Oper := { dst := some 24, op := Op.move (Operand.tmp 0), type := 28, pos := "law.go:87", after := #[], guard := none }
abbrev hm6 : Oper := { dst := some 25, op := Op.nilCheck (Operand.tmp 24), type := 0, pos := "law.go:87", after := #[{ on := 5, ground := Ground.data }], guard := none }
abbrev hm7 : Oper := { dst := some 26, op := Op.fieldAddr 37 (Operand.tmp 25) 3, type := 0, pos := "law.go:87", after := #[{ on := 6, ground := Ground.data }], guard := none }
abbrev hm8 : Oper := { dst := some 27, op := Op.load 34 (Operand.tmp 26), type := 34, pos := "law.go:87", after := #[{ on := 7, ground := Ground.data }], guard := none }
abbrev hm9 : Oper := { dst := some 28, op := Op.call { callee := Callee.builtin Builtin.len, args := #[Operand.tmp 27], argTypes := #[34] }, type := 3, pos := "law.go:87", after := #[{ on := 8, ground := Ground.data }], guard := none }
abbrev hm10 : Oper := { dst := some 29, op := Op.call { callee := Callee.value (Operand.func 13), args := #[Operand.tmp 23, Operand.tmp 28], argTypes := #[3, 3] }, type := 3, pos := "law.go:87", after := #[{ on := 4, ground := Ground.data }, { on := 9, ground := Ground.data }], guard := none }
abbrev hm11 : Oper := { dst := some 30, op := Op.indexAddr 34 (Operand.tmp 22) (Operand.tmp 29), type := 0, pos := "law.go:87", after := #[{ on := 3, ground := Ground.data }, { on := 10, ground := Ground.data }], guard := none }
abbrev hm12 : Oper := { dst := some 31, op := Op.load 43 (Operand.tmp 30), type := 43, pos := "law.go:87", after := #[{ on := 11, ground := Ground.data }], guard := none }
abbrev hm13 : Oper := { dst := none, op := Op.store 43 (Operand.tmp 6) (Operand.tmp 31), type := 0, pos := "law.go:87", after := #[{ on := 12, ground := Ground.data }, { on := 10, ground := Ground.chain }, { on := 0, ground := Ground.phase }, { on := 1, ground := Ground.phase }, { on := 2, ground := Ground.phase }, { on := 3, ground := Ground.phase }, { on := 4, ground := Ground.phase }, { on := 5, ground := Ground.phase }, { on := 6, ground := Ground.phase }, { on := 7, ground := Ground.phase }, { on := 8, ground := Ground.phase }, { on := 9, ground := Ground.phase }, { on := 10, ground := Ground.phase }, { on := 11, ground := Ground.phase }, { on := 12, ground := Ground.phase }], guard := none }

set_option maxRecDepth 100000 in
set_option maxHeartbeats 4000000 in
theorem handle_is {w : World} {bw N : Nat} {cs : Array Value} {vT : Value} {hs : List Hd} (hJ : w.heap[bw]? = some (.cells cs 37 (0, 0))) (h3 : cs[3]? = some vT) (h : Row hF 2 43 w N vT hs) (hl : hs.length ≤ 100000) {c : Int} (hc0 : I64 c) (o : Oq) :
    Calls Try.prog 14 #[.pointer (some ⟨bw, 0, none⟩), .int .i64 c, opV o] w fun e w' => e = .returned (hv (hdlW hs c o).1 (hdlW hs c o).2) ∧ Below w.heap.size w w' := by
  obtain ⟨a, cc, rfl, hc, hm⟩ := h.form
  obtain ⟨k, oa, ob, kd, ra, rn, rc, hd, ms, mg⟩ := o
  have fin : ∀ (o : Obj) (tm : Array Value) (s g : Int), tm[6]?.getD undef = .pointer (some ⟨w.heap.size + 1, 0, none⟩) → bodyPost Try.prog Try.f14 (fun e w' => e = .returned (hv s g) ∧ Below w.heap.size w w') .ret { tmps := tm, defers := [] } ((w.alloc o).alloc (.cells #[.int .u32 s, .int .u32 g] 43)) := by
    intro o tm s g ht
    have hz : ((w.alloc o).alloc (.cells #[.int .u32 s, .int .u32 g] 43)).heap[w.heap.size + 1]? = some (.cells #[.int .u32 s, .int .u32 g] 43 (0, 0)) := by
      have := heap_new (w.alloc o) (.cells #[.int .u32 s, .int .u32 g] 43)
      rwa [World.size_alloc] at this
    exact bodyPost_ret (res_hdl tm _ _ s g ht (by simp [Lib.cell_of_heap hz]) (by simp [Lib.cell_of_heap hz])) rfl ⟨rfl, (below1 _ _).trans ((below1 _ _).mono (by simp))⟩
  replace fin := hide fin
  have HT := hide hJ
  have y2 : ∀ o : Obj, ∀ o' : Obj, ((w.alloc o).alloc o').cell? ⟨bw, 3, none⟩ = some (.slice a hs.length cc) := fun o o' => by
    have := ((Ch.alloc (Q := fun _ => False) w o).trans (Ch.alloc _ o') (fun _ _ h => h)).box hJ (fun h => h)
    rw [Lib.cell_of_heap this]
    exact h3
  clear hJ
  cases hd
  rotate_left
  · go_enter Try.func14, Try.ntmps14
    go_wp2
    exact fin.out _ _ ms mg rfl
  by_cases h0 : hs.length = 0
  · have e0 : hs = [] := List.eq_nil_of_length_eq_zero h0
    subst e0
    go_enter Try.func14, Try.ntmps14
    go_wp2
    exact fin.out _ _ ms mg rfl
  · obtain ⟨W2, hW2⟩ : ∃ W2, (w.alloc (.cells (opF ⟨k, oa, ob, kd, ra, rn, rc, false, ms, mg⟩).toArray 45)).alloc (.cells #[.int .u32 0, .int .u32 0] 43) = W2 := ⟨_, rfl⟩
    have hb2 : Below w.heap.size w W2 := by rw [← hW2]; exact (below1 _ _).trans ((below1 _ _).mono (by simp))
    obtain ⟨g', c', cur, hsl, hcr, hBr, hgr, hgc, hcs, hcell⟩ := h.at hF_len (by omega)
    cases hsl
    have hpos := hide (show 0 < hs.length by omega)
    have hq : ((hs.length : Int) == 0) = false := beq_false_of_ne (by omega)
    have hi := (pkW_is (c := c) hpos.out rfl).1
    have em : hdlW hs c ⟨k, oa, ob, kd, ra, rn, rc, false, ms, mg⟩ = hs[pkW c hs.length] := by
      have : hs.isEmpty = false := by cases hs with
        | nil => exact absurd rfl h0
        | cons x l => rfl
      simp [hdlW, this, List.getElem?_eq_getElem hi]
    have n1 : W2.heap[w.heap.size + 1]? = some (.cells #[.int .u32 0, .int .u32 0] 43 (0, 0)) := by
      rw [← hW2]
      have := heap_new (w.alloc (.cells (opF ⟨k, oa, ob, kd, ra, rn, rc, false, ms, mg⟩).toArray 45)) (.cells #[.int .u32 0, .int .u32 0] 43)
      rwa [World.size_alloc] at this
    have hT2 := (Ch.of_below (Q := fun _ => False) hb2).box HT.out (fun h => h)
    have hTW := (Array.getElem?_eq_some_iff.1 HT.out).1
    have HC := hide (show ∀ wq, Ch (fun y => y = w.heap.size + 1) W2 wq → wq.cell? ⟨bw, 3, none⟩ = some (.slice (some ⟨g', 0, none⟩) hs.length cc) ∧ wq.cell? ⟨g', pkW c hs.length * 2, none⟩ = some (.int .u32 hs[pkW c hs.length].1) ∧ wq.cell? ⟨g', pkW c hs.length * 2 + 1, none⟩ = some (.int .u32 hs[pkW c hs.length].2) from fun wq zq => by
      have k1 := Lib.cell_of_heap (zq.box hT2 (by omega))
      have zw := (Ch.of_below (Q := fun y => y = w.heap.size + 1) hb2).trans zq (fun _ _ h => h)
      refine ⟨by rw [k1]; exact h3, ?_, ?_⟩
      · rw [zw.cell hgr (by omega)]
        exact hcell _ hi 0 (.int .u32 hs[pkW c hs.length].1) rfl
      · rw [zw.cell hgr (by omega)]
        exact hcell _ hi 1 (.int .u32 hs[pkW c hs.length].2) rfl)
    rw [em]
    have HP := hide (picks_is hc0 hpos.out hl)
    have FR := hide (show ∀ j, W2.drew.frozen? ⟨w.heap.size + 1, j, none⟩ = false from fun j => by simp [World.frozen?, (Ch.drew (Q := fun _ => False) W2).box n1 (fun h => h)])
    have HW := hide hW2
    have N1 := hide n1
    have HB2 := hide hb2
    clear hcell hW2 h0 n1 hT2 hb2 hgc h3
    dsimp only [opF] at HW
    go_enter Try.func14, Try.ntmps14
    go_wp2
    rw [HW.out]
    refine wp_region_held_drew (S := Ch (fun y => y = w.heap.size + 1) W2) (by kernel_rfl) (Ch.drew _) (fun zk => ?_)
    apply tk 0 hm0 rfl (by kernel_rfl) (fun _ _ _ h => h) zk
    · intro wq zq
      go_simp
      try rfl
    go_frame
    apply tk 1 hm1 rfl (by kernel_rfl) (fun _ _ _ h => h) zk
    · intro wq zq
      go_simp
      try rfl
    go_frame
    apply tk 2 hm2 rfl (by kernel_rfl) (fun _ _ _ h => h) zk
    · intro wq zq
      go_simp
      try rfl
    go_frame
    apply tk 3 hm3 rfl (by kernel_rfl) (fun _ _ _ h => h) zk
    · intro wq zq
      have s1 := (HC.out _ zq).1
      go_simp
      try rfl
    go_frame
    apply tk 4 hm4 rfl (by kernel_rfl) (fun _ _ _ h => h) zk
    · intro wq zq
      go_simp
      try rfl
    go_frame
    apply tk 5 hm5 rfl (by kernel_rfl) (fun _ _ _ h => h) zk
    · intro wq zq
      go_simp
      try rfl
    go_frame
    apply tk 6 hm6 rfl (by kernel_rfl) (fun _ _ _ h => h) zk
    · intro wq zq
      go_simp
      try rfl
    go_frame
    apply tk 7 hm7 rfl (by kernel_rfl) (fun _ _ _ h => h) zk
    · intro wq zq
      go_simp
      try rfl
    go_frame
    apply tk 8 hm8 rfl (by kernel_rfl) (fun _ _ _ h => h) zk
    · intro wq zq
      have s1 := (HC.out _ zq).1
      go_simp
      try rfl
    go_frame
    apply tk 9 hm9 rfl (by kernel_rfl) (fun _ _ _ h => h) zk
    · intro wq zq
      go_simp
      try rfl
    go_frame
    refine rd 10 hm10 rfl (by kernel_rfl) fun K hK => ?_
    go_simp
    refine (HP.out _).mono ?_
    rintro e w' ⟨rfl, rfl⟩
    go_wp2_with fail
    refine hK.out _ _ ?_ (fun zk => ?_)
    · exact zk
    clear hK K
    try go_frame
    apply tk 11 hm11 rfl (by kernel_rfl) (fun _ _ _ h => h) zk
    · intro wq zq
      go_simp
      try rfl
    go_frame
    apply tk 12 hm12 rfl (by kernel_rfl) (fun _ _ _ h => h) zk
    · intro wq zq
      have s1 := (HC.out _ zq).2.1
      have s2 := (HC.out _ zq).2.2
      go_simp
      try rfl
    go_frame
    refine Go.Proofs.Ytcogiklnegpfiaa.rd 13 hm13 rfl (by kernel_rfl) fun K hK => ?_
    have s1 : ∀ j, W2.drew.frozen? ⟨w.heap.size + 1, j, none⟩ = false := FR.out
    have n2 := (Ch.drew (Q := fun _ => False) W2).box N1.out (fun h => h)
    have d0 : W2.drew.cell? ⟨w.heap.size + 1, 0, none⟩ = some (.int .u32 0) := by simp [Lib.cell_of_heap n2]
    have d1 : W2.drew.cell? ⟨w.heap.size + 1, 1, none⟩ = some (.int .u32 0) := by simp [Lib.cell_of_heap n2]
    clear n2
    have d2 : W2.cell? ⟨w.heap.size + 1, 1, none⟩ = some (.int .u32 0) := by simp [Lib.cell_of_heap N1.out]
    have d3 : ∀ j, W2.frozen? ⟨w.heap.size + 1, j, none⟩ = false := fun j => by simp [World.frozen?, N1.out]
    have d4 : W2.cell? ⟨w.heap.size + 1, 0, none⟩ = some (.int .u32 0) := by simp [Lib.cell_of_heap N1.out]
    go_simp
    refine hK.out _ _ ?_ (fun zk => ?_)
    · exact (zk.trans (Ch.set (Q := fun y => y = w.heap.size + 1) _ rfl _ _) (fun _ _ h => h)).trans (Ch.set (Q := fun y => y = w.heap.size + 1) _ rfl _ _) (fun _ _ h => h)
    clear hK K
    try go_frame
    refine wpAnyH_done (by kernel_rfl) ?_ _
    go_wp2
    refine bodyPost_ret (res_hdl _ (w.heap.size + 1) _ _ _ rfl ?_ ?_) rfl ⟨rfl, ?_⟩
    · simp [go_sem, d4]
    · simp [go_sem, d2]
    · exact ((HB2.out.trans ((Ch.drew (Q := fun _ => False) W2).below (Nat.le_refl _) (fun _ _ h => h) |>.mono HB2.out.size)).setCell (p := ⟨w.heap.size + 1, 0, none⟩) (by simp) _).setCell (p := ⟨w.heap.size + 1, 1, none⟩) (by simp) _

end Go.Proofs.Ytcogiklnegpfiaa
