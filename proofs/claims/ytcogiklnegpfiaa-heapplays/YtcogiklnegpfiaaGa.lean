/- Layer 13: the program's heap in memory; its small calls. -/
import Derived.Test.YtcogiklnegpfiaaHz
namespace Go.Proofs.Ytcogiklnegpfiaa
open Go.RowKit Go.Shelf

/-- the heap lies in block b, its table in block p, the table's slots in block g -/
structure Hp (w : World) (B b p g : Nat) (l : List Th) (M : Nat) : Prop where
  box : w.heap[b]? = some (.cells #[.pointer (some ⟨p, 0, none⟩), .int .i64 (M : Int)] 63 (0, 0))
  tb : TbI w B (fun x => x = p ∨ x = g) p l M g
  low : B ≤ b

theorem TbI.std {w : World} {B p g M : Nat} {F : Nat → Prop} {l : List Th} (h : TbI w B F p l M g) : TbI w B (fun x => x = p ∨ x = g) p l M g := ⟨h.box, h.row, h.low, h.wf, h.lt, h.m1, h.m2, fun _ => Iff.rfl⟩

abbrev rm0 : Oper := { dst := some 5, op := Op.move (Operand.tmp 0), type := 24, pos := "heap.go:110", after := #[], guard := none }
abbrev rm1 : Oper := { dst := some 6, op := Op.nilCheck (Operand.tmp 5), type := 0, pos := "heap.go:110", after := #[{ on := 0, ground := Ground.data }], guard := none }
abbrev rm2 : Oper := { dst := some 7, op := Op.fieldAddr 63 (Operand.tmp 6) 1, type := 0, pos := "heap.go:110", after := #[{ on := 1, ground := Ground.data }], guard := none }
abbrev rm3 : Oper := { dst := some 8, op := Op.load 3 (Operand.tmp 7), type := 3, pos := "heap.go:110", after := #[{ on := 2, ground := Ground.data }], guard := none }
abbrev rm4 : Oper := { dst := some 9, op := Op.move (Operand.tmp 0), type := 24, pos := "heap.go:110", after := #[], guard := none }
abbrev rm5 : Oper := { dst := some 10, op := Op.nilCheck (Operand.tmp 9), type := 0, pos := "heap.go:110", after := #[{ on := 4, ground := Ground.data }], guard := none }
abbrev rm6 : Oper := { dst := some 11, op := Op.fieldAddr 63 (Operand.tmp 10) 0, type := 0, pos := "heap.go:110", after := #[{ on := 5, ground := Ground.data }], guard := none }
abbrev rm7 : Oper := { dst := some 12, op := Op.load 59 (Operand.tmp 11), type := 59, pos := "heap.go:110", after := #[{ on := 6, ground := Ground.data }], guard := none }
abbrev rm8 : Oper := { dst := some 13, op := Op.call { callee := Callee.value (Operand.func 28), args := #[Operand.tmp 12], argTypes := #[59] }, type := 3, pos := "heap.go:110", after := #[{ on := 7, ground := Ground.data }], guard := none }
abbrev rm9 : Oper := { dst := some 14, op := Op.binOp BinOp.sub 3 (Operand.tmp 8) (Operand.tmp 13) 3, type := 3, pos := "heap.go:110", after := #[{ on := 3, ground := Ground.data }, { on := 8, ground := Ground.data }], guard := none }
abbrev rm10 : Oper := { dst := some 2, op := Op.assign (Operand.tmp 14), type := 3, pos := "heap.go:110", after := #[{ on := 9, ground := Ground.data }, { on := 8, ground := Ground.chain }, { on := 0, ground := Ground.phase }, { on := 1, ground := Ground.phase }, { on := 2, ground := Ground.phase }, { on := 3, ground := Ground.phase }, { on := 4, ground := Ground.phase }, { on := 5, ground := Ground.phase }, { on := 6, ground := Ground.phase }, { on := 7, ground := Ground.phase }, { on := 8, ground := Ground.phase }, { on := 9, ground := Ground.phase }], guard := none }

abbrev kd0 : Oper := { dst := some 11, op := Op.move (Operand.tmp 0), type := 24, pos := "heap.go:50", after := #[], guard := none }
abbrev kd1 : Oper := { dst := some 12, op := Op.nilCheck (Operand.tmp 11), type := 0, pos := "heap.go:50", after := #[{ on := 0, ground := Ground.data }], guard := none }
abbrev kd2 : Oper := { dst := some 13, op := Op.fieldAddr 63 (Operand.tmp 12) 0, type := 0, pos := "heap.go:50", after := #[{ on := 1, ground := Ground.data }], guard := none }
abbrev kd3 : Oper := { dst := some 14, op := Op.load 59 (Operand.tmp 13), type := 59, pos := "heap.go:50", after := #[{ on := 2, ground := Ground.data }], guard := none }
abbrev kd4 : Oper := { dst := some 15, op := Op.load 43 (Operand.tmp 3), type := 43, pos := "heap.go:50", after := #[], guard := none }
abbrev kd5 : Oper := { dst := some 16, op := Op.call { callee := Callee.value (Operand.func 34), args := #[Operand.tmp 14, Operand.tmp 15], argTypes := #[59, 43] }, type := 54, pos := "heap.go:50", after := #[{ on := 3, ground := Ground.data }, { on := 4, ground := Ground.data }], guard := none }
abbrev kd6 : Oper := { dst := some 10, op := Op.move (Operand.tmp 16), type := 54, pos := "heap.go:50", after := #[{ on := 5, ground := Ground.data }], guard := none }
abbrev kd7 : Oper := { dst := some 17, op := Op.extract (Operand.tmp 10) 0, type := 39, pos := "heap.go:50", after := #[{ on := 6, ground := Ground.data }], guard := none }
abbrev kd8 : Oper := { dst := some 18, op := Op.extract (Operand.tmp 10) 1, type := 25, pos := "heap.go:50", after := #[{ on := 6, ground := Ground.data }, { on := 9, ground := Ground.gcOnly Departure.lateStores }], guard := none }
abbrev kd9 : Oper := { dst := some 6, op := Op.assign (Operand.tmp 17), type := 39, pos := "heap.go:50", after := #[{ on := 7, ground := Ground.data }, { on := 5, ground := Ground.chain }, { on := 0, ground := Ground.phase }, { on := 1, ground := Ground.phase }, { on := 2, ground := Ground.phase }, { on := 3, ground := Ground.phase }, { on := 4, ground := Ground.phase }, { on := 5, ground := Ground.phase }, { on := 6, ground := Ground.phase }, { on := 7, ground := Ground.phase }, { on := 8, ground := Ground.textOnly Departure.lateStores }], guard := none }
abbrev kd10 : Oper := { dst := some 7, op := Op.assign (Operand.tmp 18), type := 25, pos := "heap.go:50", after := #[{ on := 8, ground := Ground.data }, { on := 9, ground := Ground.chain }, { on := 0, ground := Ground.phase }, { on := 1, ground := Ground.phase }, { on := 2, ground := Ground.phase }, { on := 3, ground := Ground.phase }, { on := 4, ground := Ground.phase }, { on := 5, ground := Ground.phase }, { on := 6, ground := Ground.phase }, { on := 7, ground := Ground.phase }, { on := 8, ground := Ground.phase }, { on := 9, ground := Ground.phase }], guard := none }

section
variable {w w' : World} {B b p g M : Nat} {l : List Th}

theorem Hp.cells (h : Hp w B b p g l M) : w.cell? ⟨b, 0, none⟩ = some (.pointer (some ⟨p, 0, none⟩)) ∧ w.cell? ⟨b, 1, none⟩ = some (.int .i64 (M : Int)) := by simp [Lib.cell_of_heap h.box]
theorem Hp.lt_b (h : Hp w B b p g l M) : b < w.heap.size := (Array.getElem?_eq_some_iff.1 h.box).1
theorem Hp.ne (h : Hp w B b p g l M) : b ≠ p ∧ b ≠ g := by
  have hb := h.box
  refine ⟨fun e => ?_, fun e => ?_⟩
  · subst e
    have := h.tb.box
    rw [hb] at this
    injection this with this
    injection this with _ h2 _
    exact absurd h2 (by decide)
  · subst e
    obtain ⟨_, _, cur, hc⟩ := h.tb.own
    rw [hb] at hc
    injection hc with hc
    injection hc with _ h2 _
    exact absurd h2 (by decide)
theorem Hp.ch {Q : Nat → Prop} (h : Hp w B b p g l M) (hc : Ch Q w w') (hb : ¬ Q b) (hp : ¬ Q p) (hg : ¬ Q g) : Hp w' B b p g l M :=
  ⟨hc.box h.box hb, h.tb.ch hc (fun x hx => by rcases hx with rfl | rfl <;> assumption), h.low⟩
theorem Hp.ch0 (h : Hp w B b p g l M) (hc : Ch (fun _ => False) w w') : Hp w' B b p g l M := h.ch hc (fun h => h) (fun h => h) (fun h => h)
theorem Hp.below (h : Hp w B b p g l M) (hb : Below w.heap.size w w') : Hp w' B b p g l M := h.ch0 (Ch.of_below hb)
/-- the table has changed -/
theorem Hp.table {l' : List Th} (h : Hp w B b p g l M) (hc : Ch (fun x => x = p ∨ x = g) w w') (ht : TbI w' B (fun x => x = p ∨ x = g) p l' M g) : Hp w' B b p g l' M :=
  ⟨hc.box h.box (fun e => e.elim h.ne.1 h.ne.2), ht, h.low⟩
theorem Hp.lows (h : Hp w B b p g l M) : B ≤ b ∧ B ≤ p ∧ B ≤ g ∧ b < w.heap.size ∧ p < w.heap.size ∧ g < w.heap.size := ⟨h.low, h.tb.low, h.tb.own.1, h.lt_b, h.tb.lt_p, h.tb.own.2.1⟩

theorem hnew_no (w : World) (m : Int) (hm : (decide (1 ≤ m) && decide (m ≤ 500)) = false) : Calls Try.prog 7 #[.int .i64 m] w fun e w' => e = .returned (.tuple #[.pointer none, .int .i64 1]) ∧ w' = w := by
  by_cases h1 : 1 ≤ m
  · have h2 : ¬ m ≤ 500 := fun h => by simp [h1, h] at hm
    have q1 : decide (m < 1) = false := decide_eq_false (by omega)
    have q2 : decide (500 < m) = true := decide_eq_true (by omega)
    clear hm
    go_enter Try.func7, Try.ntmps7
    go_wp2
    go_ret2
    exact ⟨rfl, rfl⟩
  · have q1 : decide (m < 1) = true := decide_eq_true (by omega)
    clear hm
    go_enter Try.func7, Try.ntmps7
    go_wp2
    go_ret2
    exact ⟨rfl, rfl⟩

theorem hnew_is (w : World) (m : Int) (M : Nat) (hm : m = M) (h1 : 1 ≤ M) (h2 : M ≤ 500) : Calls Try.prog 7 #[.int .i64 m] w fun e w' => ∃ b p g, e = .returned (.tuple #[.pointer (some ⟨b, 0, none⟩), .int .i64 0]) ∧ Hp w' w.heap.size b p g [] M ∧ Below w.heap.size w w' := by
  subst hm
  have q1 : decide ((M : Int) < 1) = false := decide_eq_false (by omega)
  have q2 : decide (500 < (M : Int)) = false := decide_eq_false (by omega)
  go_enter Try.func7, Try.ntmps7
  go_wp2_with fail
  refine (new_isI w M M rfl h1 h2).mono ?_
  rintro e w1 ⟨p, g, F, rfl, ht, hb⟩
  have HT := hide ht.std
  have HB := hide hb
  clear ht hb
  go_wp2
  go_ret2
  exact ⟨w1.heap.size, p, g, rfl, ⟨heap_new _ _, HT.out.below (below1 _ _), HB.out.size⟩, HB.out.trans ((below1 _ _).mono HB.out.size)⟩

theorem hcount_is (h : Hp w B b p g l M) : Calls Try.prog 10 #[.pointer (some ⟨b, 0, none⟩)] w fun e w' => e = .returned (.int .i64 (cnt l : Int)) ∧ Below w.heap.size w w' := by
  obtain ⟨c0, -⟩ := h.cells
  go_enter Try.func10, Try.ntmps10
  go_wp2_with fail
  refine (count_isI h.tb).mono ?_
  rintro e w1 ⟨rfl, hb⟩
  go_wp2
  go_ret
  exact ⟨rfl, hb⟩

theorem hroom_is (h : Hp w B b p g l M) : Calls Try.prog 11 #[.pointer (some ⟨b, 0, none⟩)] w fun e w' => e = .returned (.int .i64 ((M : Int) - (cnt l : Int))) ∧ Below w.heap.size w w' := by
  have hm := h.tb.m2
  have hcl := h.tb.wf.cnt_le
  have eW : IntKind.i64.wrap ((M : Int) - (cnt l : Int)) = (M : Int) - (cnt l : Int) := by rw [IntKind.wrap_i64]; omega
  have H := hide h
  obtain ⟨c0, c1⟩ := h.cells
  clear h
  go_enter Try.func11, Try.ntmps11
  go_wp2
  have HC := hide (fun wq (k : Ch (fun _ => False) w wq) => (H.out.ch0 k).cells)
  clear c0 c1
  refine wp_region_held_drew (S := Ch (fun _ => False) w) (by kernel_rfl) (Ch.drew _) (fun zk => ?_)
  apply tk 0 rm0 rfl (by kernel_rfl) (fun _ _ _ h => h) zk
  · intro wq zq
    go_simp
    try rfl
  go_frame
  apply tk 1 rm1 rfl (by kernel_rfl) (fun _ _ _ h => h) zk
  · intro wq zq
    go_simp
    try rfl
  go_frame
  apply tk 2 rm2 rfl (by kernel_rfl) (fun _ _ _ h => h) zk
  · intro wq zq
    go_simp
    try rfl
  go_frame
  apply tk 4 rm4 rfl (by kernel_rfl) (fun _ _ _ h => h) zk
  · intro wq zq
    go_simp
    try rfl
  go_frame
  apply tk 5 rm5 rfl (by kernel_rfl) (fun _ _ _ h => h) zk
  · intro wq zq
    go_simp
    try rfl
  go_frame
  apply tk 6 rm6 rfl (by kernel_rfl) (fun _ _ _ h => h) zk
  · intro wq zq
    go_simp
    try rfl
  go_frame
  apply tk 3 rm3 rfl (by kernel_rfl) (fun _ _ _ h => h) zk
  · intro wq zq
    have s1 := (HC.out _ zq).2
    go_simp
    try rfl
  go_frame
  apply tk 7 rm7 rfl (by kernel_rfl) (fun _ _ _ h => h) zk
  · intro wq zq
    have s0 := (HC.out _ zq).1
    go_simp
    try rfl
  go_frame
  refine rd 8 rm8 rfl (by kernel_rfl) fun K hK => ?_
  go_simp
  refine (count_isI (H.out.ch0 zk).tb).mono ?_
  rintro e w5 ⟨rfl, hb5⟩
  have Z5 := hide (zk.trans (Ch.of_below (Q := fun _ => False) hb5) (fun _ _ h => h))
  clear hb5
  go_wp2_with fail
  refine hK.out _ _ ?_ (fun zk => ?_)
  · exact Z5.out
  clear hK K
  try go_frame
  apply tk 9 rm9 rfl (by kernel_rfl) (fun _ _ _ h => h) zk
  · intro wq zq
    go_simp
    try rfl
  go_frame
  apply tk 10 rm10 rfl (by kernel_rfl) (fun _ _ _ h => h) zk
  · intro wq zq
    go_simp
    try rfl
  go_frame
  refine wpAnyH_done (by kernel_rfl) ?_ _
  go_wp2
  go_ret
  exact ⟨ret_int rfl, zk.below (Nat.le_refl _) (fun _ _ h => h)⟩

theorem put_two {w : World} {A : Nat} {a c : Value} {T : TypeId} (h : w.heap[A]? = some (.cells #[a, c] T (0, 0))) (u v : Value) (o : Obj) : (((w.setCell ⟨A, 0, none⟩ u).setCell ⟨A, 1, none⟩ v).alloc o).cell? ⟨A, 0, none⟩ = some u ∧ (((w.setCell ⟨A, 0, none⟩ u).setCell ⟨A, 1, none⟩ v).alloc o).cell? ⟨A, 1, none⟩ = some v := by
  have e := (Ch.alloc (Q := fun _ => False) _ o).box (heap_set (heap_set h 0 u) 1 v) (fun h => h)
  exact ⟨by simp [Lib.cell_of_heap e], by simp [Lib.cell_of_heap e]⟩

theorem res_makeH (tm : Array Value) (A : Nat) (Z : World) (s g c : Int) (h2 : tm[4]?.getD undef = .pointer (some ⟨A, 0, none⟩)) (h3 : tm[5]?.getD undef = .int .i64 c) (c0 : Z.cell? ⟨A, 0, none⟩ = some (.int .u32 s)) (c1 : Z.cell? ⟨A, 1, none⟩ = some (.int .u32 g)) :
    (results Try.f16 tm).run Try.prog Z = .ok (.tuple #[hv s g, .int .i64 c]) Z := by
  simp [results, Try.f16, h2, h3, go_sem, c0, c1]

/-- is it a kind? -/
def mkO (k : Int) : Bool := decide (1 ≤ k) && decide (k ≤ 3)

set_option maxRecDepth 100000 in
set_option maxHeartbeats 2000000 in
theorem hkind_is (h : Hp w B b p g l M) {s G : Int} (hu : Us s) : Calls Try.prog 17 #[.pointer (some ⟨b, 0, none⟩), hv s G] w fun e w' => e = .returned (.tuple #[.int .i64 (gtX l s G), .int .i64 (ec (fnB l s G) 132)]) ∧ Below w.heap.size w w' := by
  obtain ⟨w1, hw1⟩ : ∃ w1, w.alloc (.cells #[.int .u32 s, .int .u32 G] 43) = w1 := ⟨_, rfl⟩
  have hB1 : Below w.heap.size w w1 := by rw [← hw1]; exact below1 _ _
  have hn : w1.heap[w.heap.size]? = some (.cells #[.int .u32 s, .int .u32 G] 43 (0, 0)) := by rw [← hw1]; exact heap_new _ _
  have H1 := hide (h.below hB1)
  have HB := hide hB1
  have HG := hide (get_isI (G := G) h.tb hu)
  have hget : ∀ V, Ch (fun _ => False) w1 V → Calls Try.prog 34 #[.pointer (some ⟨p, 0, none⟩), hv s G] V fun e w' => e = .returned (.tuple #[.int .i64 (gtX l s G), .int .i64 (ec (fnB l s G) 102)]) ∧ Below V.heap.size V w' := fun V k => get_isI (H1.out.ch0 k).tb hu
  have eG : fnB l s G = false → gtX l s G = 0 := fun hB => gtX_gone hB
  generalize gtX l s G = X at hget eG ⊢
  have HGT := hide hget
  clear h hB1 HG hget
  generalize fnB l s G = z at HGT eG ⊢
  have q : (ec z 102 != 0) = !z := by cases z <;> rfl
  have EG := hide eG
  clear eG
  go_enter Try.func17, Try.ntmps17
  go_wp2
  clear hw1
  have HC := hide (fun wq (k : Ch (fun _ => False) w1 wq) => And.intro (H1.out.ch0 k).cells.1 (have e := Lib.cell_of_heap (k.box hn (fun h => h)); show wq.cell? ⟨w.heap.size, 0, none⟩ = some (.int .u32 s) ∧ wq.cell? ⟨w.heap.size, 1, none⟩ = some (.int .u32 G) from ⟨by simp [e], by simp [e]⟩))
  clear hn
  refine wp_region_held_drew (S := Ch (fun _ => False) w1) (by kernel_rfl) (Ch.drew _) (fun zk => ?_)
  apply tk 0 kd0 rfl (by kernel_rfl) (fun _ _ _ h => h) zk
  · intro wq zq
    go_simp
    try rfl
  go_frame
  apply tk 1 kd1 rfl (by kernel_rfl) (fun _ _ _ h => h) zk
  · intro wq zq
    go_simp
    try rfl
  go_frame
  apply tk 2 kd2 rfl (by kernel_rfl) (fun _ _ _ h => h) zk
  · intro wq zq
    go_simp
    try rfl
  go_frame
  apply tk 3 kd3 rfl (by kernel_rfl) (fun _ _ _ h => h) zk
  · intro wq zq
    have s0 := (HC.out _ zq).1
    go_simp
    try rfl
  go_frame
  apply tk 4 kd4 rfl (by kernel_rfl) (fun _ _ _ h => h) zk
  · intro wq zq
    obtain ⟨s1, s2⟩ := (HC.out _ zq).2
    go_simp
    try rfl
  go_frame
  refine rd 5 kd5 rfl (by kernel_rfl) fun K hK => ?_
  go_simp
  refine (HGT.out _ zk).mono ?_
  rintro e w5 ⟨rfl, hb5⟩
  have Z5 := hide (zk.trans (Ch.of_below (Q := fun _ => False) hb5) (fun _ _ h => h))
  clear hb5
  go_wp2_with fail
  refine hK.out _ _ ?_ (fun zk => ?_)
  · exact Z5.out
  clear hK K
  try go_frame
  apply tk 6 kd6 rfl (by kernel_rfl) (fun _ _ _ h => h) zk
  · intro wq zq
    go_simp
    try rfl
  go_frame
  apply tk 7 kd7 rfl (by kernel_rfl) (fun _ _ _ h => h) zk
  · intro wq zq
    go_simp
    try rfl
  go_frame
  apply tk 8 kd8 rfl (by kernel_rfl) (fun _ _ _ h => h) zk
  · intro wq zq
    go_simp
    try rfl
  go_frame
  apply tk 9 kd9 rfl (by kernel_rfl) (fun _ _ _ h => h) zk
  · intro wq zq
    go_simp
    try rfl
  go_frame
  apply tk 10 kd10 rfl (by kernel_rfl) (fun _ _ _ h => h) zk
  · intro wq zq
    go_simp
    try rfl
  go_frame
  refine wpAnyH_done (by kernel_rfl) ?_ _
  cases z
  · go_wp2
    go_ret2
    exact ⟨by rw [EG.out trivial]; rfl, HB.out.trans ((zk.below (Nat.le_refl _) (fun _ _ h => h)).mono HB.out.size)⟩
  · go_wp2
    go_ret2
    exact ⟨rfl, HB.out.trans ((zk.below (Nat.le_refl _) (fun _ _ h => h)).mono HB.out.size)⟩

theorem his_is (h : Hp w B b p g l M) {s G : Int} (k : Int) (hu : Us s) : Calls Try.prog 21 #[.pointer (some ⟨b, 0, none⟩), hv s G, .int .i64 k] w fun e w' => e = .returned (.bool (fnB l s G && decide (gtX l s G = k))) ∧ Below w.heap.size w w' := by
  have HB := hide (below1 w (.cells #[.int .u32 s, .int .u32 G] 43))
  have HK := hide (hkind_is (G := G) (h.below HB.out) hu)
  clear h
  go_enter Try.func21, Try.ntmps21
  go_wp2_with fail
  refine HK.out.mono ?_
  rintro e w5 ⟨rfl, hb5⟩
  cases hB : fnB l s G
  · have q : (ec false 132 == 0) = false := by decide
    go_wp2
    go_ret
    exact ⟨ret_bool (by simp [hB]), HB.out.trans (hb5.mono (by simp))⟩
  · have q : (ec true 132 == 0) = true := by decide
    by_cases hk : gtX l s G = k
    · have qk : (gtX l s G == k) = true := by simpa using hk
      go_wp2
      go_ret
      exact ⟨ret_bool (by simp [hk, hB]), HB.out.trans (hb5.mono (by simp))⟩
    · have qk : (gtX l s G == k) = false := by simpa using hk
      go_wp2
      go_ret
      exact ⟨ret_bool (by simp [hk, hB]), HB.out.trans (hb5.mono (by simp))⟩

set_option maxHeartbeats 2000000 in
theorem hmake_no (w : World) (b : Nat) {k : Int} (hk : mkO k = false) : Calls Try.prog 16 #[.pointer (some ⟨b, 0, none⟩), .int .i64 k] w fun e w' => e = .returned (.tuple #[hv 0 0, .int .i64 133]) ∧ Below w.heap.size w w' := by
  have hz := heap_new w (.cells #[.int .u32 0, .int .u32 0] 43)
  by_cases h1 : 1 ≤ k
  · have h2 : ¬ k ≤ 3 := fun h => by simp [mkO, h1, h] at hk
    have q1 : decide (k < 1) = false := decide_eq_false (by omega)
    have q2 : decide (3 < k) = true := decide_eq_true (by omega)
    clear hk
    go_enter Try.func16, Try.ntmps16
    go_wp2
    exact bodyPost_ret (v := .tuple #[hv 0 0, .int .i64 133]) (res_makeH _ w.heap.size _ 0 0 133 rfl rfl (by simp [Lib.cell_of_heap hz]) (by simp [Lib.cell_of_heap hz])) rfl ⟨rfl, below1 _ _⟩
  · have q1 : decide (k < 1) = true := decide_eq_true (by omega)
    clear hk
    go_enter Try.func16, Try.ntmps16
    go_wp2
    exact bodyPost_ret (v := .tuple #[hv 0 0, .int .i64 133]) (res_makeH _ w.heap.size _ 0 0 133 rfl rfl (by simp [Lib.cell_of_heap hz]) (by simp [Lib.cell_of_heap hz])) rfl ⟨rfl, below1 _ _⟩

set_option maxHeartbeats 2000000 in
theorem hmake_is (h : Hp w B b p g l M) {k : Int} (hk : mkO k = true) (hlen : l.length ≤ 100000) : Calls Try.prog 16 #[.pointer (some ⟨b, 0, none⟩), .int .i64 k] w fun e w' => e = .returned (.tuple #[hv (tkS l M) (tkG l M), .int .i64 (ec (tkB l M) 131)]) ∧ Hp w' B b p g (tkd l M k) M ∧ Ch (fun x => x = p ∨ x = g) w w' := by
  simp only [mkO, Bool.and_eq_true, decide_eq_true_eq] at hk
  have q1 : decide (k < 1) = false := decide_eq_false (by omega)
  have q2 : decide (3 < k) = false := decide_eq_false (by omega)
  obtain ⟨w1, hw1⟩ : ∃ w1, w.alloc (.cells #[.int .u32 0, .int .u32 0] 43) = w1 := ⟨_, rfl⟩
  have hB1 : Below w.heap.size w w1 := by rw [← hw1]; exact below1 _ _
  have hn : w1.heap[w.heap.size]? = some (.cells #[.int .u32 0, .int .u32 0] 43 (0, 0)) := by rw [← hw1]; exact heap_new _ _
  have H1 := hide (h.below hB1)
  have c0 := H1.out.cells.1
  have HB := hide hB1
  have hlo := h.lows
  have EMP := fun (hB : tkB l M = false) => show tkS l M = 0 ∧ tkG l M = 0 from by
    have e0 : emp l M 1 = none := by unfold tkB at hB; simpa using hB
    exact ⟨by unfold tkS; rw [e0]; rfl, by unfold tkG; rw [e0]⟩
  have HT := take_isI H1.out.tb k hlen
  clear h hB1
  generalize tkS l M = S at EMP HT ⊢
  generalize tkG l M = G at EMP HT ⊢
  generalize tkB l M = z at EMP HT ⊢
  have HT := hide HT
  have EMP := hide EMP
  have q : (ec z 101 != 0) = !z := by cases z <;> rfl
  go_enter Try.func16, Try.ntmps16
  go_wp2_with fail
  clear hw1
  refine HT.out.mono ?_
  rintro e w2 ⟨rfl, ht, hc⟩
  have H2 := hide (H1.out.table hc ht)
  have hn2 := hc.box hn (fun e => by rcases e with e | e <;> omega)
  have s2 := hc.size
  have HC := hide hc
  clear ht hc c0 hn
  have hlt2 := (Array.getElem?_eq_some_iff.1 hn2).1
  have y0 : w2.cell? ⟨w.heap.size, 0, none⟩ = some (.int .u32 0) := by simp [Lib.cell_of_heap hn2]
  have y1 : w2.cell? ⟨w.heap.size, 1, none⟩ = some (.int .u32 0) := by simp [Lib.cell_of_heap hn2]
  have yf : ∀ k, w2.frozen? ⟨w.heap.size, k, none⟩ = false := fun k => by simp [World.frozen?, hn2]
  have HN2 := hide hn2
  clear hn2
  have HF := hide (fun (V : World) (kv : Ch (fun y => y = w.heap.size) w2 V) => And.intro (H2.out.ch kv (by omega) (by omega) (by omega)) (((Ch.of_below (Q := fun x => x = p ∨ x = g) HB.out).trans HC.out (fun _ _ h => h)).trans kv (fun y hy e => by omega)))
  cases z
  · obtain ⟨rfl, rfl⟩ := EMP.out rfl
    go_wp2
    refine bodyPost_ret (v := .tuple #[hv 0 0, .int .i64 131]) (res_makeH _ w.heap.size _ 0 0 131 rfl rfl ?_ ?_) rfl ⟨rfl, HF.out _ ?_⟩
    · exact (put_two HN2.out _ _ _).1
    · exact (put_two HN2.out _ _ _).2
    · exact ((Ch.set (Q := fun y => y = w.heap.size) _ rfl _ _).trans (Ch.set (Q := fun y => y = w.heap.size) _ rfl _ _) (fun _ _ h => h)).trans (Ch.alloc _ _) (fun _ _ h => h)
  · go_wp2
    refine bodyPost_ret (v := .tuple #[hv S G, .int .i64 0]) (res_makeH _ w.heap.size _ S G 0 rfl rfl ?_ ?_) rfl ⟨rfl, HF.out _ ?_⟩
    · exact (put_two HN2.out _ _ _).1
    · exact (put_two HN2.out _ _ _).2
    · exact ((Ch.set (Q := fun y => y = w.heap.size) _ rfl _ _).trans (Ch.set (Q := fun y => y = w.heap.size) _ rfl _ _) (fun _ _ h => h)).trans (Ch.alloc _ _) (fun _ _ h => h)

end
end Go.Proofs.Ytcogiklnegpfiaa
