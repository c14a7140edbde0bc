/- Layer 11: the landed book: join. -/
import Derived.Test.YtoabhmpakcgloaaHf
namespace Go.Proofs.Ytoabhmpakcgloaa
open Go.RowKit

abbrev ja0 : Oper := { dst := some 7, op := Op.move (Operand.tmp 0), type := 24, pos := "waitq.go:192", after := #[], guard := none }
abbrev ja1 : Oper := { dst := some 8, op := Op.nilCheck (Operand.tmp 7), type := 0, pos := "waitq.go:192", after := #[{ on := 0, ground := Ground.data }], guard := none }
abbrev ja2 : Oper := { dst := some 9, op := Op.fieldAddr 78 (Operand.tmp 8) 2, type := 0, pos := "waitq.go:192", after := #[{ on := 1, ground := Ground.data }], guard := none }
abbrev ja3 : Oper := { dst := some 10, op := Op.load 74 (Operand.tmp 9), type := 74, pos := "waitq.go:192", after := #[{ on := 2, ground := Ground.data }], guard := none }
abbrev ja4 : Oper := { dst := some 11, op := Op.load 100 (Operand.tmp 4), type := 100, pos := "waitq.go:192", after := #[], guard := none }
abbrev ja5 : Oper := { dst := some 12, op := Op.lookup 74 (Operand.tmp 10) (Operand.tmp 11) false, type := 119, pos := "waitq.go:192", after := #[{ on := 3, ground := Ground.data }, { on := 4, ground := Ground.data }], guard := none }
abbrev ja6 : Oper := { dst := some 6, op := Op.alloc 119, type := 0, pos := "waitq.go:192", after := #[], guard := none }
abbrev ja7 : Oper := { dst := none, op := Op.store 119 (Operand.tmp 6) (Operand.tmp 12), type := 0, pos := "waitq.go:192", after := #[{ on := 6, ground := Ground.data }, { on := 5, ground := Ground.data }, { on := 0, ground := Ground.phase }, { on := 1, ground := Ground.phase }, { on := 2, ground := Ground.phase }, { on := 3, ground := Ground.phase }, { on := 4, ground := Ground.phase }, { on := 5, ground := Ground.phase }, { on := 6, ground := Ground.phase }], guard := none }
abbrev jb0 : Oper := { dst := some 13, op := Op.move (Operand.tmp 0), type := 24, pos := "waitq.go:193", after := #[], guard := none }
abbrev jb1 : Oper := { dst := some 14, op := Op.move (Operand.tmp 2), type := 33, pos := "waitq.go:193", after := #[], guard := none }
abbrev jb2 : Oper := { dst := some 15, op := Op.call { callee := Callee.value (Operand.func 44), args := #[Operand.tmp 13, Operand.tmp 14], argTypes := #[24, 33] }, type := 125, pos := "waitq.go:193", after := #[{ on := 0, ground := Ground.data }, { on := 1, ground := Ground.data }], guard := none }
abbrev jb3 : Oper := { dst := some 16, op := Op.fieldAddr 100 (Operand.tmp 4) 0, type := 0, pos := "waitq.go:193", after := #[], guard := none }
abbrev jb4 : Oper := { dst := some 17, op := Op.load 3 (Operand.tmp 16), type := 3, pos := "waitq.go:193", after := #[{ on := 3, ground := Ground.data }], guard := none }
abbrev jb5 : Oper := { dst := some 18, op := Op.fieldAddr 119 (Operand.tmp 6) 1, type := 0, pos := "waitq.go:193", after := #[], guard := none }
abbrev jb6 : Oper := { dst := some 19, op := Op.load 33 (Operand.tmp 18), type := 33, pos := "waitq.go:193", after := #[{ on := 5, ground := Ground.data }], guard := none }
abbrev jb7 : Oper := { dst := some 20, op := Op.build 121 #[(0, Operand.tmp 19)], type := 121, pos := "waitq.go:193", after := #[{ on := 6, ground := Ground.data }], guard := none }
abbrev jb8 : Oper := { dst := some 21, op := Op.nilCheck (Operand.tmp 15), type := 0, pos := "waitq.go:193", after := #[{ on := 2, ground := Ground.data }], guard := none }
abbrev jb9 : Oper := { dst := some 22, op := Op.fieldAddr 124 (Operand.tmp 21) 2, type := 0, pos := "waitq.go:193", after := #[{ on := 8, ground := Ground.data }], guard := none }
abbrev jb10 : Oper := { dst := some 23, op := Op.indexAddr 122 (Operand.tmp 22) (Operand.tmp 17), type := 0, pos := "waitq.go:193", after := #[{ on := 9, ground := Ground.data }, { on := 4, ground := Ground.data }, { on := 0, ground := Ground.phase }, { on := 1, ground := Ground.phase }, { on := 2, ground := Ground.phase }, { on := 3, ground := Ground.phase }, { on := 4, ground := Ground.phase }, { on := 5, ground := Ground.phase }, { on := 6, ground := Ground.phase }, { on := 7, ground := Ground.phase }], guard := none }
abbrev jb11 : Oper := { dst := none, op := Op.store 121 (Operand.tmp 23) (Operand.tmp 20), type := 0, pos := "waitq.go:193", after := #[{ on := 10, ground := Ground.data }, { on := 7, ground := Ground.data }, { on := 2, ground := Ground.chain }, { on := 0, ground := Ground.phase }, { on := 1, ground := Ground.phase }, { on := 2, ground := Ground.phase }, { on := 3, ground := Ground.phase }, { on := 4, ground := Ground.phase }, { on := 5, ground := Ground.phase }, { on := 6, ground := Ground.phase }, { on := 7, ground := Ground.phase }], guard := none }
abbrev jc0 : Oper := { dst := some 29, op := Op.move (Operand.tmp 0), type := 24, pos := "waitq.go:197", after := #[], guard := none }
abbrev jc1 : Oper := { dst := some 30, op := Op.fieldAddr 119 (Operand.tmp 6) 1, type := 0, pos := "waitq.go:197", after := #[], guard := none }
abbrev jc2 : Oper := { dst := some 31, op := Op.load 33 (Operand.tmp 30), type := 33, pos := "waitq.go:197", after := #[{ on := 1, ground := Ground.data }], guard := none }
abbrev jc3 : Oper := { dst := some 32, op := Op.call { callee := Callee.value (Operand.func 44), args := #[Operand.tmp 29, Operand.tmp 31], argTypes := #[24, 33] }, type := 125, pos := "waitq.go:197", after := #[{ on := 0, ground := Ground.data }, { on := 2, ground := Ground.data }], guard := none }
abbrev jc4 : Oper := { dst := some 33, op := Op.fieldAddr 100 (Operand.tmp 4) 0, type := 0, pos := "waitq.go:197", after := #[], guard := none }
abbrev jc5 : Oper := { dst := some 34, op := Op.load 3 (Operand.tmp 33), type := 3, pos := "waitq.go:197", after := #[{ on := 4, ground := Ground.data }], guard := none }
abbrev jc6 : Oper := { dst := some 35, op := Op.move (Operand.tmp 2), type := 33, pos := "waitq.go:197", after := #[], guard := none }
abbrev jc7 : Oper := { dst := some 36, op := Op.nilCheck (Operand.tmp 32), type := 0, pos := "waitq.go:197", after := #[{ on := 3, ground := Ground.data }], guard := none }
abbrev jc8 : Oper := { dst := some 37, op := Op.fieldAddr 124 (Operand.tmp 36) 2, type := 0, pos := "waitq.go:197", after := #[{ on := 7, ground := Ground.data }], guard := none }
abbrev jc9 : Oper := { dst := some 38, op := Op.indexAddr 122 (Operand.tmp 37) (Operand.tmp 34), type := 0, pos := "waitq.go:197", after := #[{ on := 8, ground := Ground.data }, { on := 5, ground := Ground.data }, { on := 0, ground := Ground.phase }, { on := 1, ground := Ground.phase }, { on := 2, ground := Ground.phase }, { on := 3, ground := Ground.phase }, { on := 4, ground := Ground.phase }, { on := 5, ground := Ground.phase }, { on := 6, ground := Ground.phase }], guard := none }
abbrev jc10 : Oper := { dst := some 39, op := Op.fieldAddr 121 (Operand.tmp 38) 1, type := 0, pos := "waitq.go:197", after := #[{ on := 9, ground := Ground.data }, { on := 0, ground := Ground.phase }, { on := 1, ground := Ground.phase }, { on := 2, ground := Ground.phase }, { on := 3, ground := Ground.phase }, { on := 4, ground := Ground.phase }, { on := 5, ground := Ground.phase }, { on := 6, ground := Ground.phase }], guard := none }
abbrev jc11 : Oper := { dst := none, op := Op.store 33 (Operand.tmp 39) (Operand.tmp 35), type := 0, pos := "waitq.go:197", after := #[{ on := 10, ground := Ground.data }, { on := 6, ground := Ground.data }, { on := 3, ground := Ground.chain }, { on := 0, ground := Ground.phase }, { on := 1, ground := Ground.phase }, { on := 2, ground := Ground.phase }, { on := 3, ground := Ground.phase }, { on := 4, ground := Ground.phase }, { on := 5, ground := Ground.phase }, { on := 6, ground := Ground.phase }], guard := none }
abbrev jd0 : Oper := { dst := some 42, op := Op.move (Operand.tmp 0), type := 24, pos := "waitq.go:200", after := #[], guard := none }
abbrev jd1 : Oper := { dst := some 43, op := Op.nilCheck (Operand.tmp 42), type := 0, pos := "waitq.go:200", after := #[{ on := 0, ground := Ground.data }], guard := none }
abbrev jd2 : Oper := { dst := some 44, op := Op.fieldAddr 78 (Operand.tmp 43) 2, type := 0, pos := "waitq.go:200", after := #[{ on := 1, ground := Ground.data }], guard := none }
abbrev jd3 : Oper := { dst := some 45, op := Op.load 74 (Operand.tmp 44), type := 74, pos := "waitq.go:200", after := #[{ on := 2, ground := Ground.data }], guard := none }
abbrev jd4 : Oper := { dst := some 46, op := Op.load 100 (Operand.tmp 4), type := 100, pos := "waitq.go:200", after := #[], guard := none }
abbrev jd5 : Oper := { dst := some 47, op := Op.load 119 (Operand.tmp 6), type := 119, pos := "waitq.go:200", after := #[], guard := none }
abbrev jd6 : Oper := { dst := none, op := Op.mapUpdate 74 (Operand.tmp 45) (Operand.tmp 46) (Operand.tmp 47), type := 0, pos := "waitq.go:200", after := #[{ on := 3, ground := Ground.data }, { on := 4, ground := Ground.data }, { on := 5, ground := Ground.data }, { on := 0, ground := Ground.phase }, { on := 1, ground := Ground.phase }, { on := 2, ground := Ground.phase }, { on := 3, ground := Ground.phase }, { on := 4, ground := Ground.phase }, { on := 5, ground := Ground.phase }], guard := none }

variable {w : World} {B p M C n : Nat} {wv : Value} {sl : List Sl} {full : Int} {en : Ln → Option (Int × Int)} {cl : Int × Int × Int → Option Int}

theorem off_a (i k : Nat) : i * 18 + 12 + k * 2 = i * 18 + (12 + k * 2) := by omega
theorem off_b (i k : Nat) : i * 18 + 12 + k * 2 + 1 = i * 18 + (12 + k * 2 + 1) := by omega

set_option maxRecDepth 100000 in
set_option maxHeartbeats 8000000 in
theorem join_is (h : Bk w B p wv M C sl full en cl n) (hl : sl.length ≤ 100001) (x : Ln) (hk : x.k < 3) {i : Nat} (hi : i < sl.length) {e1 e2 : Int} (hee : e0 (en x) = (e1, e2)) (he : e2 = 0 ∨ ∃ j : Nat, j < sl.length ∧ e2 = (j : Int) + 1) :
    Calls Try.prog 48 #[.pointer (some ⟨p, 0, none⟩), lnV x, .int .u32 ((i : Int) + 1)] w fun e w' => e = .returned (.tuple #[]) ∧ Bk w' B p wv M C (joinS sl (e1, e2) x.k ((i : Int) + 1)) full (updW en x (some (joinE (e1, e2) ((i : Int) + 1)))) cl n ∧ Ch (fun y => y = M ∨ wv.ownBlock = some y) w w' := by
  obtain ⟨g, c, -, rfl, -⟩ := h.at (by omega)
  obtain ⟨w1, hw1⟩ : ∃ w1, w.alloc (.cells #[.int .i64 (x.k : Int), .int .u32 x.rs, .int .u32 x.rg, .int .i64 x.rd, .int .u32 x.ws, .int .u32 x.wg] 100) = w1 := ⟨_, rfl⟩
  have hB1 : Below w.heap.size w w1 := by rw [← hw1]; exact below1 _ _
  have s1 : w1.heap.size = w.heap.size + 1 := by rw [← hw1]; simp
  have h1 := h.below hB1
  have hn : w1.heap[w.heap.size]? = some (.cells #[.int .i64 (x.k : Int), .int .u32 x.rs, .int .u32 x.rg, .int .i64 x.rd, .int .u32 x.ws, .int .u32 x.wg] 100 (0, 0)) := by rw [← hw1]; exact heap_new _ _
  have HC := hide (fun Q wq zq h1' h2' => ln_reads (wq := wq) (Q := Q) (x := x) h1.box hn zq h1' h2')
  have HB := hide h1
  have HN := hide hn
  have HS := hide s1
  have HW := hide (Ch.of_below (Q := fun _ => False) hB1)
  have hkl : ((x.k : Int) < 3) := by omega
  go_enter Try.func48, Try.ntmps48
  unfold lnV
  go_wp2
  clear hw1 hB1 h1 hn s1
  refine wp_region_held_drew (S := Ch (fun _ => False) w1) (by kernel_rfl) (Ch.drew _) (fun zk => ?_)
  apply tk 0 ja0 rfl (by kernel_rfl) (fun _ _ _ h => h) zk
  · intro wq zq
    go_simp
    try rfl
  go_frame
  apply tk 1 ja1 rfl (by kernel_rfl) (fun _ _ _ h => h) zk
  · intro wq zq
    go_simp
    try rfl
  go_frame
  apply tk 2 ja2 rfl (by kernel_rfl) (fun _ _ _ h => h) zk
  · intro wq zq
    go_simp
    try rfl
  go_frame
  apply tk 3 ja3 rfl (by kernel_rfl) (fun _ _ _ h => h) zk
  · intro wq zq
    obtain ⟨s1, s2, s3, s4, s5, s6, s7, s8⟩ := HC.out _ _ zq (fun h => h) (fun h => h)
    go_simp
    try rfl
  go_frame
  apply tk 4 ja4 rfl (by kernel_rfl) (fun _ _ _ h => h) zk
  · intro wq zq
    obtain ⟨s1, s2, s3, s4, s5, s6, s7, s8⟩ := HC.out _ _ zq (fun h => h) (fun h => h)
    go_simp
    try rfl
  go_frame
  apply tk 5 ja5 rfl (by kernel_rfl) (fun _ _ _ h => h) zk
  · intro wq zq
    exact (val_lookL (x := x) (.tmp 10) (.tmp 11) rfl rfl rfl ((HB.out.ch zq (fun _ _ h => h)).mp)).trans (by rw [hee])
  go_frame
  refine Go.Proofs.Ytoabhmpakcgloaa.rd 6 ja6 rfl (by kernel_rfl) fun K hK => ?_
  go_simp
  refine genK (R := fun W => Ch (fun _ => False) w1 W ∧ W.heap[w1.heap.size]? = some (.cells #[.int .u32 0, .int .u32 0] 119 (0, 0))) ⟨zk.trans (Ch.alloc _ _) (fun _ _ h => h), heap_new _ _⟩ ?_
  rintro W2 ⟨c2, nE⟩
  clear zk
  refine hK.out _ _ ?_ (fun zk => ?_)
  · exact c2
  clear hK K
  try go_frame
  refine Go.Proofs.Ytoabhmpakcgloaa.rd 7 ja7 rfl (by kernel_rfl) fun K hK => ?_
  have y0 := Lib.cell_of_heap nE
  have y1 := frz nE
  go_simp
  refine genK (R := fun W => Ch (fun _ => False) w1 W ∧ (fun W => JS w W B p w.heap.size w1.heap.size (.slice (some ⟨g, 0, none⟩) sl.length c) M C x (e1, e2) sl full en cl n) W) (have k := (c2.set_new (Nat.le_refl _) 0 (.int .u32 e1)).set_new (Nat.le_refl _) 1 (.int .u32 e2); ⟨k, HB.out.ch k (fun _ _ h => h), k.box HN.out (fun h => h), set2 nE, ⟨Nat.le_refl _, by have := HS.out; omega⟩, HW.out.trans k (fun _ _ h => h.elim) |>.mono (fun _ _ h => h.elim)⟩) ?_
  rintro W3 ⟨c3, j3⟩
  clear zk
  refine hK.out _ _ ?_ (fun zk => ?_)
  · exact c3
  clear hK K
  try go_frame
  clear y0 y1 nE c2 W2
  refine wpAnyH_done (by kernel_rfl) ?_ _
  clear c3 zk
  go_wp2
  refine wp_reg (fun y => (Value.slice (some ⟨g, 0, none⟩) sl.length c).ownBlock = some y) (R := fun W => JS w W B p w.heap.size w1.heap.size (.slice (some ⟨g, 0, none⟩) sl.length c) M C x (e1, e2) sl full en cl n) (by kernel_rfl) (j3.quiet (Ch.drew _)) ?_
  rintro V3 v3 zk
  clear j3 W3
  have J3 := hide v3
  clear v3
  have HG := hide (fun wq zq => JS.reads J3.out (wq := wq) zq)
  apply tk 0 jb0 rfl (by kernel_rfl) (fun _ _ _ h => h) zk
  · intro wq zq
    go_simp
    try rfl
  go_frame
  apply tk 1 jb1 rfl (by kernel_rfl) (fun _ _ _ h => h) zk
  · intro wq zq
    go_simp
    try rfl
  go_frame
  apply tk 3 jb3 rfl (by kernel_rfl) (fun _ _ _ h => h) zk
  · intro wq zq
    go_simp
    try rfl
  go_frame
  apply tk 4 jb4 rfl (by kernel_rfl) (fun _ _ _ h => h) zk
  · intro wq zq
    obtain ⟨s1, s2, s3, s4, s5, s6, s7, s8, s9, s10⟩ := HG.out _ zq
    go_simp
    try rfl
  go_frame
  apply tk 5 jb5 rfl (by kernel_rfl) (fun _ _ _ h => h) zk
  · intro wq zq
    go_simp
    try rfl
  go_frame
  apply tk 6 jb6 rfl (by kernel_rfl) (fun _ _ _ h => h) zk
  · intro wq zq
    obtain ⟨s1, s2, s3, s4, s5, s6, s7, s8, s9, s10⟩ := HG.out _ zq
    go_simp
    try rfl
  go_frame
  apply tk 7 jb7 rfl (by kernel_rfl) (fun _ _ _ h => h) zk
  · intro wq zq
    go_simp
    try rfl
  go_frame
  refine Go.Proofs.Ytoabhmpakcgloaa.rd 2 jb2 rfl (by kernel_rfl) fun K hK => ?_
  go_simp
  refine (at_is (HG.out _ zk).1 hi hl).mono ?_
  rintro e W4 ⟨rfl, rfl⟩
  go_wp2_with fail
  refine hK.out _ _ ?_ (fun zk => ?_)
  · exact zk
  clear hK K
  try go_frame
  apply tk 8 jb8 rfl (by kernel_rfl) (fun _ _ _ h => h) zk
  · intro wq zq
    go_simp
    try rfl
  go_frame
  apply tk 9 jb9 rfl (by kernel_rfl) (fun _ _ _ h => h) zk
  · intro wq zq
    go_simp
    try rfl
  go_frame
  apply tk 10 jb10 rfl (by kernel_rfl) (fun _ _ _ h => h) zk
  · intro wq zq
    go_simp
    try rfl
  go_frame
  refine Go.Proofs.Ytoabhmpakcgloaa.rd 11 jb11 rfl (by kernel_rfl) fun K hK => ?_
  obtain ⟨y0, y1⟩ := J3.out.bk.cell hi (slF_a sl[i] hk) (off_a i x.k)
  obtain ⟨y2, y3⟩ := J3.out.bk.cell hi (slF_b sl[i] hk) (off_b i x.k)
  have k4 := hide ((J3.out.set hi (by omega) (Sl.setA x.k e2) (fun z => slF_A z hk e2) (off_a i x.k)).setB2 hi (by omega) (Sl.setB x.k 0) (fun z => slF_B z hk 0) (off_b i x.k))
  go_simp
  clear y0 y1 y2 y3
  refine genK (R := fun W => Ch (fun y => (Value.slice (some ⟨g, 0, none⟩) sl.length c).ownBlock = some y) V3 W ∧ (fun W => JS w W B p w.heap.size w1.heap.size (.slice (some ⟨g, 0, none⟩) sl.length c) M C x (e1, e2) (linkS sl x.k ((i : Int) + 1) e2) full en cl n) W) (⟨(Ch.set (Q := fun y => (Value.slice (some ⟨g, 0, none⟩) sl.length c).ownBlock = some y) _ rfl _ _).trans (Ch.set (Q := fun y => (Value.slice (some ⟨g, 0, none⟩) sl.length c).ownBlock = some y) _ rfl _ _) (fun _ _ h => h), k4.out⟩) ?_
  rintro W4 ⟨c4, j4⟩
  clear zk
  refine hK.out _ _ ?_ (fun zk => ?_)
  · exact c4
  clear hK K
  try go_frame
  refine wpAnyH_done (by kernel_rfl) ?_ _
  clear k4 HG J3
  rcases he with rfl | ⟨j, hj, rfl⟩
  · have y := Lib.cell_of_heap j4.nE
    have yf := frz j4.nE
    have j5 := hide ((j4.setE (e' := ((i : Int) + 1, 0)) (set2a j4.nE)).setE (e' := ((i : Int) + 1, (i : Int) + 1)) (set2b (set2a j4.nE)))
    go_wp2
    clear y yf
    refine wp_reg (fun y => y = M) (R := fun W => JS w W B p w.heap.size w1.heap.size (.slice (some ⟨g, 0, none⟩) sl.length c) M C x ((i : Int) + 1, (i : Int) + 1) (linkS sl x.k ((i : Int) + 1) 0) full en cl n) (by kernel_rfl) (j5.out.quiet (Ch.drew _)) ?_
    rintro V6 v6 zk
    have J6 := hide v6
    clear v6
    have HG := hide (fun wq zq => J6.out.readsM (wq := wq) zq)
    apply tk 0 jd0 rfl (by kernel_rfl) (fun _ _ _ h => h) zk
    · intro wq zq
      go_simp
      try rfl
    go_frame
    apply tk 1 jd1 rfl (by kernel_rfl) (fun _ _ _ h => h) zk
    · intro wq zq
      go_simp
      try rfl
    go_frame
    apply tk 2 jd2 rfl (by kernel_rfl) (fun _ _ _ h => h) zk
    · intro wq zq
      go_simp
      try rfl
    go_frame
    apply tk 3 jd3 rfl (by kernel_rfl) (fun _ _ _ h => h) zk
    · intro wq zq
      obtain ⟨s1, s2, s3, s4, s5, s6, s7, s8, s9, s10⟩ := HG.out _ zq
      go_simp
      try rfl
    go_frame
    apply tk 4 jd4 rfl (by kernel_rfl) (fun _ _ _ h => h) zk
    · intro wq zq
      obtain ⟨s1, s2, s3, s4, s5, s6, s7, s8, s9, s10⟩ := HG.out _ zq
      go_simp
      try rfl
    go_frame
    apply tk 5 jd5 rfl (by kernel_rfl) (fun _ _ _ h => h) zk
    · intro wq zq
      obtain ⟨s1, s2, s3, s4, s5, s6, s7, s8, s9, s10⟩ := HG.out _ zq
      go_simp
      try rfl
    go_frame
    refine Go.Proofs.Ytoabhmpakcgloaa.rd 6 jd6 rfl (by kernel_rfl) fun K hK => ?_
    refine step_putL (x := x) (e := ((i : Int) + 1, (i : Int) + 1)) rfl (.tmp 45) (.tmp 46) (.tmp 47) rfl rfl J6.out.bk.mp rfl rfl (fun W7 k7 m7 c7 => ?_)
    have J7 := hide (J6.out.map m7 c7)
    refine hK.out _ _ c7 (fun zk => ?_)
    clear hK K m7 c7
    try go_frame
    refine wpAnyH_done (by kernel_rfl) ?_ _
    go_wp2
    go_end0
    exact ⟨rfl, (by have := J7.out.bk; simpa [joinS, joinE] using this), J7.out.ch⟩
  · have q : ((j : Int) + 1 == 0) = false := by simp; omega
    have y := Lib.cell_of_heap j4.nE
    go_wp2
    clear y
    refine wp_reg (fun y => (Value.slice (some ⟨g, 0, none⟩) sl.length c).ownBlock = some y) (R := fun W => JS w W B p w.heap.size w1.heap.size (.slice (some ⟨g, 0, none⟩) sl.length c) M C x (e1, (j : Int) + 1) (linkS sl x.k ((i : Int) + 1) ((j : Int) + 1)) full en cl n) (by kernel_rfl) (j4.quiet (Ch.drew _)) ?_
    rintro V5 v5 zk
    have J5 := hide v5
    clear v5
    have HG := hide (fun wq zq => JS.reads J5.out (wq := wq) zq)
    apply tk 0 jc0 rfl (by kernel_rfl) (fun _ _ _ h => h) zk
    · intro wq zq
      go_simp
      try rfl
    go_frame
    apply tk 1 jc1 rfl (by kernel_rfl) (fun _ _ _ h => h) zk
    · intro wq zq
      go_simp
      try rfl
    go_frame
    apply tk 2 jc2 rfl (by kernel_rfl) (fun _ _ _ h => h) zk
    · intro wq zq
      obtain ⟨s1, s2, s3, s4, s5, s6, s7, s8, s9, s10⟩ := HG.out _ zq
      go_simp
      try rfl
    go_frame
    apply tk 4 jc4 rfl (by kernel_rfl) (fun _ _ _ h => h) zk
    · intro wq zq
      go_simp
      try rfl
    go_frame
    apply tk 5 jc5 rfl (by kernel_rfl) (fun _ _ _ h => h) zk
    · intro wq zq
      obtain ⟨s1, s2, s3, s4, s5, s6, s7, s8, s9, s10⟩ := HG.out _ zq
      go_simp
      try rfl
    go_frame
    apply tk 6 jc6 rfl (by kernel_rfl) (fun _ _ _ h => h) zk
    · intro wq zq
      go_simp
      try rfl
    go_frame
    refine Go.Proofs.Ytoabhmpakcgloaa.rd 3 jc3 rfl (by kernel_rfl) fun K hK => ?_
    go_simp
    refine (at_is (HG.out _ zk).1 hj hl).mono ?_
    rintro e W4 ⟨rfl, rfl⟩
    go_wp2_with fail
    refine hK.out _ _ ?_ (fun zk => ?_)
    · exact zk
    clear hK K
    try go_frame
    apply tk 7 jc7 rfl (by kernel_rfl) (fun _ _ _ h => h) zk
    · intro wq zq
      go_simp
      try rfl
    go_frame
    apply tk 8 jc8 rfl (by kernel_rfl) (fun _ _ _ h => h) zk
    · intro wq zq
      go_simp
      try rfl
    go_frame
    apply tk 9 jc9 rfl (by kernel_rfl) (fun _ _ _ h => h) zk
    · intro wq zq
      go_simp
      try rfl
    go_frame
    apply tk 10 jc10 rfl (by kernel_rfl) (fun _ _ _ h => h) zk
    · intro wq zq
      go_simp
      try rfl
    go_frame
    have el : (linkS sl x.k ((i : Int) + 1) ((j : Int) + 1)).length = sl.length := linkS_len ..
    have J5' := J5.out
    rw [← el] at J5'
    have hj' : j < (linkS sl x.k ((i : Int) + 1) ((j : Int) + 1)).length := by rw [el]; exact hj
    refine Go.Proofs.Ytoabhmpakcgloaa.rd 11 jc11 rfl (by kernel_rfl) fun K hK => ?_
    obtain ⟨y2, y3⟩ := J5'.bk.cell hj' (slF_b _ hk) (off_b j x.k)
    have k4 := JS.set J5' hj' (by omega) (Sl.setB x.k ((i : Int) + 1)) (fun z => slF_B z hk _) (off_b j x.k)
    rw [el] at k4
    have K4 := hide k4
    clear k4
    go_simp
    clear y2 y3
    refine genK (R := fun W => Ch (fun y => (Value.slice (some ⟨g, 0, none⟩) sl.length c).ownBlock = some y) V5 W ∧ (fun W => JS w W B p w.heap.size w1.heap.size (.slice (some ⟨g, 0, none⟩) sl.length c) M C x (e1, (j : Int) + 1) (modS (linkS sl x.k ((i : Int) + 1) ((j : Int) + 1)) ((j : Int) + 1) (Sl.setB x.k ((i : Int) + 1))) full en cl n) W) (⟨Ch.set (Q := fun y => (Value.slice (some ⟨g, 0, none⟩) sl.length c).ownBlock = some y) _ rfl _ _, K4.out⟩) ?_
    rintro W5 ⟨c5, j5'⟩
    clear zk
    refine hK.out _ _ ?_ (fun zk => ?_)
    · exact c5
    clear hK K
    try go_frame
    refine wpAnyH_done (by kernel_rfl) ?_ _
    clear K4 HG J5' hj' el
    have y := Lib.cell_of_heap j5'.nE
    have yf := frz j5'.nE
    have j5 := hide (j5'.setE (e' := (e1, (i : Int) + 1)) (set2b j5'.nE))
    go_wp2
    clear y yf
    refine wp_reg (fun y => y = M) (R := fun W => JS w W B p w.heap.size w1.heap.size (.slice (some ⟨g, 0, none⟩) sl.length c) M C x (e1, (i : Int) + 1) (modS (linkS sl x.k ((i : Int) + 1) ((j : Int) + 1)) ((j : Int) + 1) (Sl.setB x.k ((i : Int) + 1))) full en cl n) (by kernel_rfl) (j5.out.quiet (Ch.drew _)) ?_
    rintro V6 v6 zk
    have J6 := hide v6
    clear v6
    have HG := hide (fun wq zq => J6.out.readsM (wq := wq) zq)
    apply tk 0 jd0 rfl (by kernel_rfl) (fun _ _ _ h => h) zk
    · intro wq zq
      go_simp
      try rfl
    go_frame
    apply tk 1 jd1 rfl (by kernel_rfl) (fun _ _ _ h => h) zk
    · intro wq zq
      go_simp
      try rfl
    go_frame
    apply tk 2 jd2 rfl (by kernel_rfl) (fun _ _ _ h => h) zk
    · intro wq zq
      go_simp
      try rfl
    go_frame
    apply tk 3 jd3 rfl (by kernel_rfl) (fun _ _ _ h => h) zk
    · intro wq zq
      obtain ⟨s1, s2, s3, s4, s5, s6, s7, s8, s9, s10⟩ := HG.out _ zq
      go_simp
      try rfl
    go_frame
    apply tk 4 jd4 rfl (by kernel_rfl) (fun _ _ _ h => h) zk
    · intro wq zq
      obtain ⟨s1, s2, s3, s4, s5, s6, s7, s8, s9, s10⟩ := HG.out _ zq
      go_simp
      try rfl
    go_frame
    apply tk 5 jd5 rfl (by kernel_rfl) (fun _ _ _ h => h) zk
    · intro wq zq
      obtain ⟨s1, s2, s3, s4, s5, s6, s7, s8, s9, s10⟩ := HG.out _ zq
      go_simp
      try rfl
    go_frame
    refine Go.Proofs.Ytoabhmpakcgloaa.rd 6 jd6 rfl (by kernel_rfl) fun K hK => ?_
    refine step_putL (x := x) (e := (e1, (i : Int) + 1)) rfl (.tmp 45) (.tmp 46) (.tmp 47) rfl rfl J6.out.bk.mp rfl rfl (fun W7 k7 m7 c7 => ?_)
    have J7 := hide (J6.out.map m7 c7)
    refine hK.out _ _ c7 (fun zk => ?_)
    clear hK K m7 c7
    try go_frame
    refine wpAnyH_done (by kernel_rfl) ?_ _
    go_wp2
    go_end0
    exact ⟨rfl, (by have := J7.out.bk; have q : ¬ (j : Int) + 1 = 0 := (by omega); simpa [joinS, joinE, q] using this), J7.out.ch⟩

end Go.Proofs.Ytoabhmpakcgloaa
