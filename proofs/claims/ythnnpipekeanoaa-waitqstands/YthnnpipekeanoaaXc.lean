/- Layer 11: the law's op, and of which wait it speaks. -/
import Derived.Test.YthnnpipekeanoaaXb
namespace Go.Proofs.Ythnnpipekeanoaa
open Go.RowKit

/-- an op -/
structure Oq where
  k : Int
  wh : Int
  ar : Int
  rs : Int
  rg : Int
  rd : Int
  ws : Int
  wg : Int
  ms : Int
  mg : Int
  hd : Bool
  vn : Int
  vs : Int
  vg : Int
def opF (o : Oq) : List Value := [.int .i64 o.k, .int .i64 o.wh, .int .i64 o.ar, .int .u32 o.rs, .int .u32 o.rg, .int .i64 o.rd, .int .u32 o.ws, .int .u32 o.wg, .int .u32 o.ms, .int .u32 o.mg, .bool o.hd, .int .i64 o.vn, .int .u32 o.vs, .int .u32 o.vg]
theorem opF_len (o : Oq) : (opF o).length = 14 := rfl
abbrev opV (o : Oq) : Value := .agg #[.int .i64 o.k, .int .i64 o.wh, .int .i64 o.ar, .int .u32 o.rs, .int .u32 o.rg, .int .i64 o.rd, .int .u32 o.ws, .int .u32 o.wg, .int .u32 o.ms, .int .u32 o.mg, .bool o.hd, .int .i64 o.vn, .int .u32 o.vs, .int .u32 o.vg]
structure Oq.Fit (o : Oq) : Prop where
  k : I64 o.k
  wh : I64 o.wh
  ar : I64 o.ar
  rs : UsW o.rs
  rg : UsW o.rg
  rd : I64 o.rd
  ws : UsW o.ws
  wg : UsW o.wg
  ms : UsW o.ms
  mg : UsW o.mg
  vn : I64 o.vn
  vs : UsW o.vs
  vg : UsW o.vg

def hdF (a : Int × Int) : List Value := [.int .u32 a.1, .int .u32 a.2]
theorem hdF_len (a : Int × Int) : (hdF a).length = 2 := rfl
abbrev HdRow (w : World) (B : Nat) (v : Value) (l : List (Int × Int)) : Prop := Row hdF 2 41 w B v l
theorem nfHd : (Try.prog.info? 41).map (fun i => (i.zero, i.size, i.bytes)) = some (some (.agg #[.int .u32 0, .int .u32 0]), 2, 8) := by kernel_rfl

/-- which of n things -/
def pkW (c : Int) (n : Nat) : Nat := ((if c < 0 then -(c + 1) else c) % (n : Int)).toNat
theorem pkW_is {c d : Int} {n : Nat} (hn : 0 < n) (hd : (if c < 0 then -(c + 1) else c) = d) : pkW c n < n ∧ d % (n : Int) = (pkW c n : Int) := by
  unfold pkW
  rw [hd]
  have e1 := Int.emod_nonneg d (show (n : Int) ≠ 0 by omega)
  have e2 := Int.emod_lt_of_pos d (show (0 : Int) < n by omega)
  omega
theorem retI {a b : Int} (h : a = b) : Ending.returned (.int .i64 a) = Ending.returned (.int .i64 b) := by rw [h]

theorem pick_is {c : Int} (h1 : -9223372036854775808 ≤ c) (h2 : c ≤ 9223372036854775807) {n : Nat} (hn : 0 < n) (hn2 : n ≤ 100000) (w : World) :
    Calls Try.prog 14 #[.int .i64 c, .int .i64 (n : Int)] w fun e w' => e = .returned (.int .i64 (pkW c n : Int)) ∧ w' = w := by
  have hz : ((n : Int) == 0) = false := by simp; omega
  by_cases hc : c < 0
  · obtain ⟨hk, e⟩ := pkW_is (c := c) hn (if_pos hc)
    have w1 : IntKind.i64.wrap (c + 1) = c + 1 := by rw [IntKind.wrap_i64]; omega
    have w2 : IntKind.i64.wrap (-(c + 1)) = -(c + 1) := by rw [IntKind.wrap_i64]; omega
    go_enter Try.func14, Try.ntmps14
    go_wp2
    go_ret
    exact ⟨retI (by rw [← Int.neg_tmod, Int.tmod_eq_emod_of_nonneg (by omega)]; exact e), rfl⟩
  · obtain ⟨hk, e⟩ := pkW_is (c := c) hn (if_neg hc)
    go_enter Try.func14, Try.ntmps14
    go_wp2
    go_ret
    exact ⟨retI (by first | rfl | exact e), rfl⟩

/-- of which wait an op speaks -/
def meW (hs : List (Int × Int)) (o : Oq) : Int × Int := if o.hd || hs.isEmpty then (o.ms, o.mg) else hs[pkW o.wh hs.length]?.getD (0, 0)
theorem meW_fit {hs : List (Int × Int)} {o : Oq} (ho : o.Fit) (ha : ∀ a ∈ hs, UsW a.1 ∧ UsW a.2) : UsW (meW hs o).1 ∧ UsW (meW hs o).2 := by
  unfold meW
  split
  · exact ⟨ho.ms, ho.mg⟩
  · cases e : hs[pkW o.wh hs.length]? with
    | none => exact ⟨⟨by decide, by decide⟩, ⟨by decide, by decide⟩⟩
    | some a => exact ha a (List.mem_of_getElem? e)

theorem res_me (tm : Array Value) (A : Nat) (Z : World) (s g : Int) (h2 : tm[4]?.getD undef = .pointer (some ⟨A, 0, none⟩)) (c0 : Z.cell? ⟨A, 0, none⟩ = some (.int .u32 s)) (c1 : Z.cell? ⟨A, 1, none⟩ = some (.int .u32 g)) :
    (results Try.f24 tm).run Try.prog Z = .ok (hvW s g) Z := by
  simp [results, Try.f24, h2, go_sem, c0, c1]

-- ABBREVS
abbrev xpm0 : Oper := { dst := some 17, op := Op.move (Operand.tmp 0), type := 24, pos := "law.go:89", after := #[], guard := none }
abbrev xpm1 : Oper := { dst := some 18, op := Op.nilCheck (Operand.tmp 17), type := 0, pos := "law.go:89", after := #[{ on := 0, ground := Ground.data }], guard := none }
abbrev xpm2 : Oper := { dst := some 19, op := Op.fieldAddr 37 (Operand.tmp 18) 2, type := 0, pos := "law.go:89", after := #[{ on := 1, ground := Ground.data }], guard := none }
abbrev xpm3 : Oper := { dst := some 20, op := Op.load 32 (Operand.tmp 19), type := 32, pos := "law.go:89", after := #[{ on := 2, ground := Ground.data }], guard := none }
abbrev xpm4 : Oper := { dst := some 21, op := Op.fieldAddr 48 (Operand.tmp 3) 1, type := 0, pos := "law.go:89", after := #[], guard := none }
abbrev xpm5 : Oper := { dst := some 22, op := Op.load 3 (Operand.tmp 21), type := 3, pos := "law.go:89", after := #[{ on := 4, ground := Ground.data }], guard := none }
abbrev xpm6 : Oper := { dst := some 23, op := Op.move (Operand.tmp 0), type := 24, pos := "law.go:89", after := #[], guard := none }
abbrev xpm7 : Oper := { dst := some 24, op := Op.nilCheck (Operand.tmp 23), type := 0, pos := "law.go:89", after := #[{ on := 6, ground := Ground.data }], guard := none }
abbrev xpm8 : Oper := { dst := some 25, op := Op.fieldAddr 37 (Operand.tmp 24) 2, type := 0, pos := "law.go:89", after := #[{ on := 7, ground := Ground.data }], guard := none }
abbrev xpm9 : Oper := { dst := some 26, op := Op.load 32 (Operand.tmp 25), type := 32, pos := "law.go:89", after := #[{ on := 8, ground := Ground.data }], guard := none }
abbrev xpm10 : Oper := { dst := some 27, op := Op.call { callee := Callee.builtin Builtin.len, args := #[Operand.tmp 26], argTypes := #[32] }, type := 3, pos := "law.go:89", after := #[{ on := 9, ground := Ground.data }], guard := none }
abbrev xpm11 : Oper := { dst := some 28, op := Op.call { callee := Callee.value (Operand.func 14), args := #[Operand.tmp 22, Operand.tmp 27], argTypes := #[3, 3] }, type := 3, pos := "law.go:89", after := #[{ on := 5, ground := Ground.data }, { on := 10, ground := Ground.data }], guard := none }
abbrev xpm12 : Oper := { dst := some 29, op := Op.indexAddr 32 (Operand.tmp 20) (Operand.tmp 28), type := 0, pos := "law.go:89", after := #[{ on := 3, ground := Ground.data }, { on := 11, ground := Ground.data }], guard := none }
abbrev xpm13 : Oper := { dst := some 30, op := Op.load 41 (Operand.tmp 29), type := 41, pos := "law.go:89", after := #[{ on := 12, ground := Ground.data }], guard := none }
abbrev xpm14 : Oper := { dst := none, op := Op.store 41 (Operand.tmp 4) (Operand.tmp 30), type := 0, pos := "law.go:89", after := #[{ on := 13, ground := Ground.data }, { on := 11, ground := Ground.chain }, { on := 0, ground := Ground.phase }, { on := 1, ground := Ground.phase }, { on := 2, ground := Ground.phase }, { on := 3, ground := Ground.phase }, { on := 4, ground := Ground.phase }, { on := 5, ground := Ground.phase }, { on := 6, ground := Ground.phase }, { on := 7, ground := Ground.phase }, { on := 8, ground := Ground.phase }, { on := 9, ground := Ground.phase }, { on := 10, ground := Ground.phase }, { on := 11, ground := Ground.phase }, { on := 12, ground := Ground.phase }, { on := 13, ground := Ground.phase }], guard := none }
-- END
set_option maxRecDepth 100000 in
set_option maxHeartbeats 4000000 in
theorem me_is {w : World} {B T : Nat} {av bv tv lv wv : Value} {hs : List (Int × Int)} (hT : w.heap[T]? = some (.cells #[av, bv, tv, lv, wv] 37 (0, 0))) (h : HdRow w B tv hs) (hl : hs.length ≤ 100000) (o : Oq) (ho : o.Fit) :
    Calls Try.prog 24 #[.pointer (some ⟨T, 0, none⟩), opV o] w fun e w' => e = .returned (hvW (meW hs o).1 (meW hs o).2) ∧ Below w.heap.size w w' := by
  obtain ⟨a, c, rfl, hc, hm⟩ := h.form
  obtain ⟨k, wh, ar, rs, rg, rd, ws, wg, ms, mg, hd, vn, vs, vg⟩ := o
  obtain ⟨h1, h2⟩ := ho.wh
  have fin : ∀ (o : Obj) (tm : Array Value) (s g : Int), tm[4]?.getD undef = .pointer (some ⟨w.heap.size + 1, 0, none⟩) → bodyPost Try.prog Try.f24 (fun e w' => e = .returned (hvW s g) ∧ Below w.heap.size w w') .ret { tmps := tm, defers := [] } ((w.alloc o).alloc (.cells #[.int .u32 s, .int .u32 g] 41)) := by
    intro o tm s g ht
    have hz : ((w.alloc o).alloc (.cells #[.int .u32 s, .int .u32 g] 41)).heap[w.heap.size + 1]? = some (.cells #[.int .u32 s, .int .u32 g] 41 (0, 0)) := by
      have := heap_new (w.alloc o) (.cells #[.int .u32 s, .int .u32 g] 41)
      rwa [World.size_alloc] at this
    exact bodyPost_ret (res_me tm _ _ s g ht (by simp [Lib.cell_of_heap hz]) (by simp [Lib.cell_of_heap hz])) rfl ⟨rfl, (below1 _ _).trans ((below1 _ _).mono (by simp))⟩
  replace fin := hide fin
  have HT := hide hT
  have y2 : ∀ o : Obj, ∀ o' : Obj, ((w.alloc o).alloc o').cell? ⟨T, 2, none⟩ = some (.slice a hs.length c) := fun o o' => by
    have := ((Ch.alloc (Q := fun _ => False) w o).trans (Ch.alloc _ o') (fun _ _ h => h)).box hT (fun h => h)
    simp [Lib.cell_of_heap this]
  clear hT ho
  cases hd
  rotate_left
  · go_enter Try.func24, Try.ntmps24
    go_wp2
    exact fin.out _ _ ms mg rfl
  by_cases h0 : hs.length = 0
  · have e0 : hs = [] := List.eq_nil_of_length_eq_zero h0
    subst e0
    go_enter Try.func24, Try.ntmps24
    go_wp2
    exact fin.out _ _ ms mg rfl
  · obtain ⟨W2, hW2⟩ : ∃ W2, (w.alloc (.cells (opF ⟨k, wh, ar, rs, rg, rd, ws, wg, ms, mg, false, vn, vs, vg⟩).toArray 48)).alloc (.cells #[.int .u32 0, .int .u32 0] 41) = W2 := ⟨_, rfl⟩
    have hb2 : Below w.heap.size w W2 := by rw [← hW2]; exact (below1 _ _).trans ((below1 _ _).mono (by simp))
    obtain ⟨g', c', cur, hsl, hcr, hBr, hgr, hgc, hcs, hcell⟩ := h.at hdF_len (by omega)
    cases hsl
    have hpos := hide (show 0 < hs.length by omega)
    have hq : ((hs.length : Int) == 0) = false := beq_false_of_ne (by omega)
    have hi := (pkW_is (c := wh) hpos.out rfl).1
    have em : meW hs ⟨k, wh, ar, rs, rg, rd, ws, wg, ms, mg, false, vn, vs, vg⟩ = hs[pkW wh hs.length] := by
      have : hs.isEmpty = false := by cases hs with
        | nil => exact absurd rfl h0
        | cons x l => rfl
      simp [meW, this, List.getElem?_eq_getElem hi]
    have n1 : W2.heap[w.heap.size + 1]? = some (.cells #[.int .u32 0, .int .u32 0] 41 (0, 0)) := by
      rw [← hW2]
      have := heap_new (w.alloc (.cells (opF ⟨k, wh, ar, rs, rg, rd, ws, wg, ms, mg, false, vn, vs, vg⟩).toArray 48)) (.cells #[.int .u32 0, .int .u32 0] 41)
      rwa [World.size_alloc] at this
    have n0 : W2.heap[w.heap.size]? = some (.cells (opF ⟨k, wh, ar, rs, rg, rd, ws, wg, ms, mg, false, vn, vs, vg⟩).toArray 48 (0, 0)) := by
      rw [← hW2]
      exact (Ch.alloc (Q := fun _ => False) _ _).box (heap_new w _) (fun h => h)
    have hT2 := (Ch.of_below (Q := fun _ => False) hb2).box HT.out (fun h => h)
    have hTW := (Array.getElem?_eq_some_iff.1 HT.out).1
    have HC := hide (show ∀ wq, Ch (fun y => y = w.heap.size + 1) W2 wq → wq.cell? ⟨T, 2, none⟩ = some (.slice (some ⟨g', 0, none⟩) hs.length c) ∧ wq.cell? ⟨w.heap.size, 1, none⟩ = some (.int .i64 wh) ∧ wq.cell? ⟨g', pkW wh hs.length * 2, none⟩ = some (.int .u32 hs[pkW wh hs.length].1) ∧ wq.cell? ⟨g', pkW wh hs.length * 2 + 1, none⟩ = some (.int .u32 hs[pkW wh hs.length].2) from fun wq zq => by
      have k1 := Lib.cell_of_heap (zq.box hT2 (by omega))
      have k2 := Lib.cell_of_heap (zq.box n0 (by omega))
      have zw := (Ch.of_below (Q := fun y => y = w.heap.size + 1) hb2).trans zq (fun _ _ h => h)
      refine ⟨by simp [k1], by simp [k2, opF], ?_, ?_⟩
      · rw [zw.cell hgr (by omega)]
        exact hcell _ hi 0 (.int .u32 hs[pkW wh hs.length].1) rfl
      · rw [zw.cell hgr (by omega)]
        exact hcell _ hi 1 (.int .u32 hs[pkW wh hs.length].2) rfl)
    rw [em]
    have HP := hide (pick_is h1 h2 hpos.out hl)
    have FR := hide (show ∀ j, W2.drew.frozen? ⟨w.heap.size + 1, j, none⟩ = false from fun j => by simp [World.frozen?, (Ch.drew (Q := fun _ => False) W2).box n1 (fun h => h)])
    have HW := hide hW2
    have N1 := hide n1
    have HB2 := hide hb2
    clear hcell hW2 h0 n0 n1 hT2 hb2 hgc
    dsimp only [opF] at HW
    go_enter Try.func24, Try.ntmps24
    go_wp2
    rw [HW.out]
    refine wp_region_held_drew (S := Ch (fun y => y = w.heap.size + 1) W2) (by kernel_rfl) (Ch.drew _) (fun zk => ?_)
    apply tk 0 xpm0 rfl (by kernel_rfl) (fun _ _ _ h => h) zk
    · intro wq zq
      go_simp
      try rfl
    go_frame
    apply tk 1 xpm1 rfl (by kernel_rfl) (fun _ _ _ h => h) zk
    · intro wq zq
      go_simp
      try rfl
    go_frame
    apply tk 2 xpm2 rfl (by kernel_rfl) (fun _ _ _ h => h) zk
    · intro wq zq
      go_simp
      try rfl
    go_frame
    apply tk 3 xpm3 rfl (by kernel_rfl) (fun _ _ _ h => h) zk
    · intro wq zq
      have s1 := (HC.out _ zq).1
      go_simp
      try rfl
    go_frame
    apply tk 4 xpm4 rfl (by kernel_rfl) (fun _ _ _ h => h) zk
    · intro wq zq
      go_simp
      try rfl
    go_frame
    apply tk 5 xpm5 rfl (by kernel_rfl) (fun _ _ _ h => h) zk
    · intro wq zq
      have s1 := (HC.out _ zq).2.1
      go_simp
      try rfl
    go_frame
    apply tk 6 xpm6 rfl (by kernel_rfl) (fun _ _ _ h => h) zk
    · intro wq zq
      go_simp
      try rfl
    go_frame
    apply tk 7 xpm7 rfl (by kernel_rfl) (fun _ _ _ h => h) zk
    · intro wq zq
      go_simp
      try rfl
    go_frame
    apply tk 8 xpm8 rfl (by kernel_rfl) (fun _ _ _ h => h) zk
    · intro wq zq
      go_simp
      try rfl
    go_frame
    apply tk 9 xpm9 rfl (by kernel_rfl) (fun _ _ _ h => h) zk
    · intro wq zq
      have s1 := (HC.out _ zq).1
      go_simp
      try rfl
    go_frame
    apply tk 10 xpm10 rfl (by kernel_rfl) (fun _ _ _ h => h) zk
    · intro wq zq
      go_simp
      try rfl
    go_frame
    refine Go.Proofs.Ythnnpipekeanoaa.rd 11 xpm11 rfl (by kernel_rfl) fun K hK => ?_
    go_simp
    refine (HP.out _).mono ?_
    rintro e w' ⟨rfl, rfl⟩
    go_wp2_with fail
    refine hK.out _ _ ?_ (fun zk => ?_)
    · exact zk
    clear hK K
    try go_frame
    apply tk 12 xpm12 rfl (by kernel_rfl) (fun _ _ _ h => h) zk
    · intro wq zq
      go_simp
      try rfl
    go_frame
    apply tk 13 xpm13 rfl (by kernel_rfl) (fun _ _ _ h => h) zk
    · intro wq zq
      have s1 := (HC.out _ zq).2.2.1
      have s2 := (HC.out _ zq).2.2.2
      go_simp
      try rfl
    go_frame
    refine Go.Proofs.Ythnnpipekeanoaa.rd 14 xpm14 rfl (by kernel_rfl) fun K hK => ?_
    have s1 : ∀ j, W2.drew.frozen? ⟨w.heap.size + 1, j, none⟩ = false := FR.out
    have n2 := (Ch.drew (Q := fun _ => False) W2).box N1.out (fun h => h)
    have d0 : W2.drew.cell? ⟨w.heap.size + 1, 0, none⟩ = some (.int .u32 0) := by simp [Lib.cell_of_heap n2]
    have d1 : W2.drew.cell? ⟨w.heap.size + 1, 1, none⟩ = some (.int .u32 0) := by simp [Lib.cell_of_heap n2]
    clear n2
    have d2 : W2.cell? ⟨w.heap.size + 1, 1, none⟩ = some (.int .u32 0) := by simp [Lib.cell_of_heap N1.out]
    have d3 : ∀ j, W2.frozen? ⟨w.heap.size + 1, j, none⟩ = false := fun j => by simp [World.frozen?, N1.out]
    have d4 : W2.cell? ⟨w.heap.size + 1, 0, none⟩ = some (.int .u32 0) := by simp [Lib.cell_of_heap N1.out]
    go_simp
    refine hK.out _ _ ?_ (fun zk => ?_)
    · exact (zk.trans (Ch.set (Q := fun y => y = w.heap.size + 1) _ rfl _ _) (fun _ _ h => h)).trans (Ch.set (Q := fun y => y = w.heap.size + 1) _ rfl _ _) (fun _ _ h => h)
    clear hK K
    try go_frame
    refine wpAnyH_done (by kernel_rfl) ?_ _
    go_wp2
    refine bodyPost_ret (res_me _ (w.heap.size + 1) _ _ _ rfl ?_ ?_) rfl ⟨rfl, ?_⟩
    · simp [go_sem, d4]
    · simp [go_sem, d2]
    · exact ((HB2.out.trans ((Ch.drew (Q := fun _ => False) W2).below (Nat.le_refl _) (fun _ _ h => h) |>.mono HB2.out.size)).setCell (p := ⟨w.heap.size + 1, 0, none⟩) (by simp) _).setCell (p := ⟨w.heap.size + 1, 1, none⟩) (by simp) _

end Go.Proofs.Ythnnpipekeanoaa
