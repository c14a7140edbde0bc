/- Layer 11: the landed book, as the face asks: First. -/
import Derived.Test.YtoabhmpakcgloaaHu
namespace Go.Proofs.Ytoabhmpakcgloaa
open Go.RowKit

abbrev fs0 : Oper := { dst := some 12, op := Op.move (Operand.tmp 0), type := 24, pos := "waitq.go:113", after := #[], guard := none }
abbrev fs1 : Oper := { dst := some 13, op := Op.nilCheck (Operand.tmp 12), type := 0, pos := "waitq.go:113", after := #[{ on := 0, ground := Ground.data }], guard := none }
abbrev fs2 : Oper := { dst := some 14, op := Op.fieldAddr 78 (Operand.tmp 13) 2, type := 0, pos := "waitq.go:113", after := #[{ on := 1, ground := Ground.data }], guard := none }
abbrev fs3 : Oper := { dst := some 15, op := Op.load 74 (Operand.tmp 14), type := 74, pos := "waitq.go:113", after := #[{ on := 2, ground := Ground.data }], guard := none }
abbrev fs4 : Oper := { dst := some 16, op := Op.load 60 (Operand.tmp 3), type := 60, pos := "waitq.go:113", after := #[], guard := none }
abbrev fs5 : Oper := { dst := some 17, op := Op.build 100 #[(0, Operand.const (Value.int IntKind.i64 0)), (1, Operand.tmp 16)], type := 100, pos := "waitq.go:113", after := #[{ on := 4, ground := Ground.data }], guard := none }
abbrev fs6 : Oper := { dst := some 18, op := Op.lookup 74 (Operand.tmp 15) (Operand.tmp 17) true, type := 134, pos := "waitq.go:113", after := #[{ on := 3, ground := Ground.data }, { on := 5, ground := Ground.data }], guard := none }
abbrev fs7 : Oper := { dst := some 11, op := Op.move (Operand.tmp 18), type := 134, pos := "waitq.go:113", after := #[{ on := 6, ground := Ground.data }], guard := none }
abbrev fs8 : Oper := { dst := some 19, op := Op.extract (Operand.tmp 11) 0, type := 119, pos := "waitq.go:113", after := #[{ on := 7, ground := Ground.data }], guard := none }
abbrev fs9 : Oper := { dst := some 20, op := Op.extract (Operand.tmp 11) 1, type := 4, pos := "waitq.go:113", after := #[{ on := 7, ground := Ground.data }, { on := 11, ground := Ground.gcOnly Departure.lateStores }], guard := none }
abbrev fs10 : Oper := { dst := some 6, op := Op.alloc 119, type := 0, pos := "waitq.go:113", after := #[], guard := none }
abbrev fs11 : Oper := { dst := none, op := Op.store 119 (Operand.tmp 6) (Operand.tmp 19), type := 0, pos := "waitq.go:113", after := #[{ on := 10, ground := Ground.data }, { on := 8, ground := Ground.data }, { on := 0, ground := Ground.phase }, { on := 1, ground := Ground.phase }, { on := 2, ground := Ground.phase }, { on := 3, ground := Ground.phase }, { on := 4, ground := Ground.phase }, { on := 5, ground := Ground.phase }, { on := 6, ground := Ground.phase }, { on := 7, ground := Ground.phase }, { on := 8, ground := Ground.phase }, { on := 9, ground := Ground.textOnly Departure.lateStores }, { on := 10, ground := Ground.phase }], guard := none }
abbrev fs12 : Oper := { dst := some 7, op := Op.assign (Operand.tmp 20), type := 4, pos := "waitq.go:113", after := #[{ on := 9, ground := Ground.data }, { on := 11, ground := Ground.chain }, { on := 0, ground := Ground.phase }, { on := 1, ground := Ground.phase }, { on := 2, ground := Ground.phase }, { on := 3, ground := Ground.phase }, { on := 4, ground := Ground.phase }, { on := 5, ground := Ground.phase }, { on := 6, ground := Ground.phase }, { on := 7, ground := Ground.phase }, { on := 8, ground := Ground.phase }, { on := 9, ground := Ground.phase }, { on := 10, ground := Ground.phase }, { on := 11, ground := Ground.phase }], guard := none }

theorem val_lookL2 {o : Oper} {a : Act} {w : World} {M : Nat} {en : Ln → Option (Int × Int)} {x : Ln} (m y : Operand) (hop : o.op = Op.lookup 74 m y true) (hm : a.eval m = .map (some M)) (hy : a.eval y = lnV x) (h : LnMap w M en) : (execOp a.eval o).run Try.prog w = .ok (.value (.tuple #[enV (e0 (en x)), .bool (en x).isSome])) w := by
  obtain ⟨n, h⟩ := h
  have hrun := h.look2 (x := x) (ktL w) Try.underlying74 (zeroEn w)
  rw [en_getD, Option.isSome_map] at hrun
  simp [execOp, hop, hm, hy, hrun, Result.andThen]
theorem resFirstH (tm : Array Value) (A : Nat) (Z : World) (r : Rc) (q : Bool) (h4 : tm[4]?.getD undef = .pointer (some ⟨A, 0, none⟩)) (h5 : tm[5]?.getD undef = .bool q) (hc : ∀ j u, (rcF r)[j]? = some u → Z.cell? ⟨A, j, none⟩ = some u) :
    (results Try.f42 tm).run Try.prog Z = .ok (.tuple #[rcV r, .bool q]) Z := by
  have c0 := hc 0 _ rfl
  have c1 := hc 1 _ rfl
  have c2 := hc 2 _ rfl
  have c3 := hc 3 _ rfl
  have c4 := hc 4 _ rfl
  have c5 := hc 5 _ rfl
  have c6 := hc 6 _ rfl
  have c7 := hc 7 _ rfl
  have c8 := hc 8 _ rfl
  have c9 := hc 9 _ rfl
  have c10 := hc 10 _ rfl
  simp [results, Try.results42, go_sem, h4, h5, c0, c1, c2, c3, c4, c5, c6, c7, c8, c9, c10]

variable {w : World} {B p M C n : Nat} {wv : Value} {l : List Wt} {sl : List Sl} {full : Int} {en : Ln → Option (Int × Int)} {cl : Int × Int × Int → Option Int}

set_option maxRecDepth 100000 in
set_option maxHeartbeats 8000000 in
theorem first_b (hb : Bk w B p wv M C sl full en cl n) (hl : sl.length ≤ 100001) (hi : BInv l sl full en cl n) (s g d : Int) :
    Calls Try.prog 42 #[.pointer (some ⟨p, 0, none⟩), rvW s g d] w fun e w' => e = .returned (.tuple #[rcV ((sel (inRow s g d) l).headD zRc), .bool (!(sel (inRow s g d) l).isEmpty)]) ∧ Below w.heap.size w w' := by
  obtain ⟨w1, hw1⟩ : ∃ w1, (w.alloc (.cells #[.int .u32 s, .int .u32 g, .int .i64 d] 60)).alloc (.cells (rcF zRc).toArray 114) = w1 := ⟨_, rfl⟩
  have hB1 : Below w.heap.size w w1 := by rw [← hw1]; exact (below1 _ _).trans ((below1 _ _).mono (by simp))
  have s1 : w1.heap.size = w.heap.size + 2 := by rw [← hw1]; simp
  have hn : w1.heap[w.heap.size + 1]? = some (.cells (rcF zRc).toArray 114 (0, 0)) := by
    rw [← hw1]
    have := heap_new (w.alloc (.cells #[.int .u32 s, .int .u32 g, .int .i64 d] 60)) (.cells (rcF zRc).toArray 114)
    rwa [World.size_alloc] at this
  have hh : w1.heap[w.heap.size]? = some (.cells #[.int .u32 s, .int .u32 g, .int .i64 d] 60 (0, 0)) := by
    rw [← hw1, (MapKept.heap_alloc _ _).2 _ (by simp)]
    exact heap_new _ _
  have HB := hide hB1
  have HK := hide (hb.below hB1)
  have HI := hide hi
  have HN := hide hn
  have HH := hide hh
  have HS := hide s1
  have hen := hi.lines.en ⟨0, s, g, d, 0, 0⟩
  have hrec := hi.recs ⟨0, s, g, d, 0, 0⟩
  have hbd := hi.bnd ⟨0, s, g, d, 0, 0⟩
  have hml := mbW_len l ⟨0, s, g, d, 0, 0⟩
  rw [← stW_row]
  unfold rcF zRc at hw1
  clear hB1 hn hh s1 hb hi
  go_enter Try.func42, Try.ntmps42
  go_wp2_with fail
  clear hw1
  cases hL : mbW l ⟨0, s, g, d, 0, 0⟩ with
  | nil =>
    rw [hL] at hen hml
    have HEM := hide (show sel (stW ⟨0, s, g, d, 0, 0⟩) l = [] from List.length_eq_zero_iff.1 hml.symm)
    have HEN := hide hen
    clear hen hml hrec hbd hL
    refine wp_region_held_drew (S := Ch (fun _ => False) w1) (by kernel_rfl) (Ch.drew _) (fun zk => ?_)
    have HG := hide (fun wq (zq : Ch (fun _ => False) w1 wq) => have e := Lib.cell_of_heap (zq.box HH.out (fun h => h)); show wq.cell? ⟨p, 2, none⟩ = some (.map (some M)) ∧ wq.cell? ⟨w.heap.size, 0, none⟩ = some (.int .u32 s) ∧ wq.cell? ⟨w.heap.size, 1, none⟩ = some (.int .u32 g) ∧ wq.cell? ⟨w.heap.size, 2, none⟩ = some (.int .i64 d) from ⟨(HK.out.ch zq (fun _ _ h => h)).cells.2.2.1, by simp [e], by simp [e], by simp [e]⟩)
    apply tk 0 fs0 rfl (by kernel_rfl) (fun _ _ _ h => h) zk
    · intro wq zq
      go_simp
      try rfl
    go_frame
    apply tk 1 fs1 rfl (by kernel_rfl) (fun _ _ _ h => h) zk
    · intro wq zq
      go_simp
      try rfl
    go_frame
    apply tk 2 fs2 rfl (by kernel_rfl) (fun _ _ _ h => h) zk
    · intro wq zq
      go_simp
      try rfl
    go_frame
    apply tk 3 fs3 rfl (by kernel_rfl) (fun _ _ _ h => h) zk
    · intro wq zq
      obtain ⟨s1, s2, s3, s4⟩ := HG.out _ zq
      go_simp
      try rfl
    go_frame
    apply tk 4 fs4 rfl (by kernel_rfl) (fun _ _ _ h => h) zk
    · intro wq zq
      obtain ⟨s1, s2, s3, s4⟩ := HG.out _ zq
      go_simp
      try rfl
    go_frame
    apply tk 5 fs5 rfl (by kernel_rfl) (fun _ _ _ h => h) zk
    · intro wq zq
      go_simp
      try rfl
    go_frame
    apply tk 6 fs6 rfl (by kernel_rfl) (fun _ _ _ h => h) zk
    · intro wq zq
      exact (val_lookL2 (x := ⟨0, s, g, d, 0, 0⟩) (.tmp 15) (.tmp 17) rfl rfl rfl ((HK.out.ch zq (fun _ _ h => h)).mp)).trans (by rw [HEN.out])
    go_frame
    apply tk 7 fs7 rfl (by kernel_rfl) (fun _ _ _ h => h) zk
    · intro wq zq
      go_simp
      try rfl
    go_frame
    apply tk 8 fs8 rfl (by kernel_rfl) (fun _ _ _ h => h) zk
    · intro wq zq
      go_simp
      try rfl
    go_frame
    apply tk 9 fs9 rfl (by kernel_rfl) (fun _ _ _ h => h) zk
    · intro wq zq
      go_simp
      try rfl
    go_frame
    refine Go.Proofs.Ytoabhmpakcgloaa.rd 10 fs10 rfl (by kernel_rfl) fun K hK => ?_
    go_simp
    refine genK (R := fun W => Ch (fun _ => False) w1 W ∧ W.heap[w1.heap.size]? = some (.cells #[.int .u32 0, .int .u32 0] 119 (0, 0))) ⟨zk.trans (Ch.alloc _ _) (fun _ _ h => h), heap_new _ _⟩ ?_
    rintro W2 ⟨c2, nE⟩
    clear zk
    refine hK.out _ _ ?_ (fun zk => ?_)
    · exact c2
    clear hK K
    try go_frame
    refine Go.Proofs.Ytoabhmpakcgloaa.rd 11 fs11 rfl (by kernel_rfl) fun K hK => ?_
    have y0 := Lib.cell_of_heap nE
    have y1 := frz nE
    go_simp
    refine genK (R := fun W => Ch (fun _ => False) w1 W ∧ W.heap[w1.heap.size]? = some (.cells #[.int .u32 0, .int .u32 0] 119 (0, 0))) ⟨(c2.set_new (Nat.le_refl _) 0 _).set_new (Nat.le_refl _) 1 _, set2 nE⟩ ?_
    rintro W3 ⟨c3, mE⟩
    clear zk
    refine hK.out _ _ ?_ (fun zk => ?_)
    · exact c3
    clear hK K
    try go_frame
    clear y0 y1 nE c2 HG
    apply tk 12 fs12 rfl (by kernel_rfl) (fun _ _ _ h => h) zk
    · intro wq zq
      go_simp
      try rfl
    go_frame
    refine wpAnyH_done (by kernel_rfl) ?_ _
    have n3 := c3.box HN.out (fun h => h)
    have z0 : W3.cell? ⟨w.heap.size + 1, 0, none⟩ = some (.int .u32 0) := by simp [Lib.cell_of_heap n3, rcF, zRc]
    have z1 : W3.cell? ⟨w.heap.size + 1, 1, none⟩ = some (.int .u32 0) := by simp [Lib.cell_of_heap n3, rcF, zRc]
    have z2 : W3.cell? ⟨w.heap.size + 1, 2, none⟩ = some (.int .u32 0) := by simp [Lib.cell_of_heap n3, rcF, zRc]
    have z3 : W3.cell? ⟨w.heap.size + 1, 3, none⟩ = some (.int .u32 0) := by simp [Lib.cell_of_heap n3, rcF, zRc]
    have z4 : W3.cell? ⟨w.heap.size + 1, 4, none⟩ = some (.int .u32 0) := by simp [Lib.cell_of_heap n3, rcF, zRc]
    have z5 : W3.cell? ⟨w.heap.size + 1, 5, none⟩ = some (.int .u32 0) := by simp [Lib.cell_of_heap n3, rcF, zRc]
    have z6 : W3.cell? ⟨w.heap.size + 1, 6, none⟩ = some (.int .i64 0) := by simp [Lib.cell_of_heap n3, rcF, zRc]
    have z7 : W3.cell? ⟨w.heap.size + 1, 7, none⟩ = some (.int .i64 0) := by simp [Lib.cell_of_heap n3, rcF, zRc]
    have z8 : W3.cell? ⟨w.heap.size + 1, 8, none⟩ = some (.int .i64 0) := by simp [Lib.cell_of_heap n3, rcF, zRc]
    have z9 : W3.cell? ⟨w.heap.size + 1, 9, none⟩ = some (.int .u32 0) := by simp [Lib.cell_of_heap n3, rcF, zRc]
    have z10 : W3.cell? ⟨w.heap.size + 1, 10, none⟩ = some (.int .u32 0) := by simp [Lib.cell_of_heap n3, rcF, zRc]
    have zf : ∀ j, W3.frozen? ⟨w.heap.size + 1, j, none⟩ = false := frz n3
    have N3 := hide n3
    have C3 := hide c3
    clear n3 c3 zk
    go_wp2_with fail
    refine bodyPost_ret (v := .tuple #[rcV zRc, .bool false]) (resFirstH _ (w.heap.size + 1) _ zRc false rfl rfl ?_) rfl ⟨by rw [HEM.out]; rfl, ?_⟩
    · intro j u hu
      match j, hu with
      | 0, hu => cases hu; simp [go_sem, z0, zRc]
      | 1, hu => cases hu; simp [go_sem, z1, zRc]
      | 2, hu => cases hu; simp [go_sem, z2, zRc]
      | 3, hu => cases hu; simp [go_sem, z3, zRc]
      | 4, hu => cases hu; simp [go_sem, z4, zRc]
      | 5, hu => cases hu; simp [go_sem, z5, zRc]
      | 6, hu => cases hu; simp [go_sem, z6, zRc]
      | 7, hu => cases hu; simp [go_sem, z7, zRc]
      | 8, hu => cases hu; simp [go_sem, z8, zRc]
      | 9, hu => cases hu; simp [go_sem, z9, zRc]
      | 10, hu => cases hu; simp [go_sem, z10, zRc]
      | _ + 11, hu => simp [rcF] at hu
    · have hs := HS.out
      have hs2 := C3.out.size
      refine HB.out.trans ((Below.mono (Ch.below C3.out (N := w1.heap.size) (Nat.le_refl _) (fun _ _ h => h)) HB.out.size).trans ?_)
      have c : Ch (fun y => y = w.heap.size + 1) W3 _ := wrsA W3 (w.heap.size + 1) (rcF zRc)
      exact Below.mono (Ch.below c (N := w.heap.size) (by omega) (fun y hy e => by omega)) (Nat.le_refl _)
  | cons s0 L' =>
    obtain ⟨i, hi', hs0⟩ := idx_of (hbd s0 (by rw [hL]; simp)).1 (hbd s0 (by rw [hL]; simp)).2
    have h0 : 0 < (mbW l ⟨0, s, g, d, 0, 0⟩).length := by rw [hL]; simp
    have h0' : 0 < (sel (stW ⟨0, s, g, d, 0, 0⟩) l).length := by omega
    have hr1 := hrec 0 h0 h0' i hi' (by simp only [hL]; exact hs0)
    obtain ⟨r, R', hR⟩ : ∃ r R', sel (stW ⟨0, s, g, d, 0, 0⟩) l = r :: R' := by
      cases hx : sel (stW ⟨0, s, g, d, 0, 0⟩) l with
      | nil => rw [hx] at h0'; simp at h0'
      | cons r R' => exact ⟨r, R', rfl⟩
    have hr : sl[i].r = r := by rw [hr1]; simp only [hR]; rfl
    rw [hL] at hen
    have hen : en ⟨0, s, g, d, 0, 0⟩ = some (s0, L'.getLastD s0) := hen
    rw [hs0] at hen
    generalize L'.getLastD ((i : Int) + 1) = e2 at hen
    have HEN := hide hen
    have HEM := hide hR
    have HR := hide hr
    clear hen hml hrec hbd hL hr1 h0 h0' hr hR hs0
    refine wp_region_held_drew (S := Ch (fun _ => False) w1) (by kernel_rfl) (Ch.drew _) (fun zk => ?_)
    have HG := hide (fun wq (zq : Ch (fun _ => False) w1 wq) => have e := Lib.cell_of_heap (zq.box HH.out (fun h => h)); show wq.cell? ⟨p, 2, none⟩ = some (.map (some M)) ∧ wq.cell? ⟨w.heap.size, 0, none⟩ = some (.int .u32 s) ∧ wq.cell? ⟨w.heap.size, 1, none⟩ = some (.int .u32 g) ∧ wq.cell? ⟨w.heap.size, 2, none⟩ = some (.int .i64 d) from ⟨(HK.out.ch zq (fun _ _ h => h)).cells.2.2.1, by simp [e], by simp [e], by simp [e]⟩)
    apply tk 0 fs0 rfl (by kernel_rfl) (fun _ _ _ h => h) zk
    · intro wq zq
      go_simp
      try rfl
    go_frame
    apply tk 1 fs1 rfl (by kernel_rfl) (fun _ _ _ h => h) zk
    · intro wq zq
      go_simp
      try rfl
    go_frame
    apply tk 2 fs2 rfl (by kernel_rfl) (fun _ _ _ h => h) zk
    · intro wq zq
      go_simp
      try rfl
    go_frame
    apply tk 3 fs3 rfl (by kernel_rfl) (fun _ _ _ h => h) zk
    · intro wq zq
      obtain ⟨s1, s2, s3, s4⟩ := HG.out _ zq
      go_simp
      try rfl
    go_frame
    apply tk 4 fs4 rfl (by kernel_rfl) (fun _ _ _ h => h) zk
    · intro wq zq
      obtain ⟨s1, s2, s3, s4⟩ := HG.out _ zq
      go_simp
      try rfl
    go_frame
    apply tk 5 fs5 rfl (by kernel_rfl) (fun _ _ _ h => h) zk
    · intro wq zq
      go_simp
      try rfl
    go_frame
    apply tk 6 fs6 rfl (by kernel_rfl) (fun _ _ _ h => h) zk
    · intro wq zq
      exact (val_lookL2 (x := ⟨0, s, g, d, 0, 0⟩) (.tmp 15) (.tmp 17) rfl rfl rfl ((HK.out.ch zq (fun _ _ h => h)).mp)).trans (by rw [HEN.out])
    go_frame
    apply tk 7 fs7 rfl (by kernel_rfl) (fun _ _ _ h => h) zk
    · intro wq zq
      go_simp
      try rfl
    go_frame
    apply tk 8 fs8 rfl (by kernel_rfl) (fun _ _ _ h => h) zk
    · intro wq zq
      go_simp
      try rfl
    go_frame
    apply tk 9 fs9 rfl (by kernel_rfl) (fun _ _ _ h => h) zk
    · intro wq zq
      go_simp
      try rfl
    go_frame
    refine Go.Proofs.Ytoabhmpakcgloaa.rd 10 fs10 rfl (by kernel_rfl) fun K hK => ?_
    go_simp
    refine genK (R := fun W => Ch (fun _ => False) w1 W ∧ W.heap[w1.heap.size]? = some (.cells #[.int .u32 0, .int .u32 0] 119 (0, 0))) ⟨zk.trans (Ch.alloc _ _) (fun _ _ h => h), heap_new _ _⟩ ?_
    rintro W2 ⟨c2, nE⟩
    clear zk
    refine hK.out _ _ ?_ (fun zk => ?_)
    · exact c2
    clear hK K
    try go_frame
    refine Go.Proofs.Ytoabhmpakcgloaa.rd 11 fs11 rfl (by kernel_rfl) fun K hK => ?_
    have y0 := Lib.cell_of_heap nE
    have y1 := frz nE
    go_simp
    refine genK (R := fun W => Ch (fun _ => False) w1 W ∧ W.heap[w1.heap.size]? = some (.cells #[.int .u32 ((i : Int) + 1), .int .u32 e2] 119 (0, 0))) ⟨(c2.set_new (Nat.le_refl _) 0 _).set_new (Nat.le_refl _) 1 _, set2 nE⟩ ?_
    rintro W3 ⟨c3, mE⟩
    clear zk
    refine hK.out _ _ ?_ (fun zk => ?_)
    · exact c3
    clear hK K
    try go_frame
    clear y0 y1 nE c2 HG
    apply tk 12 fs12 rfl (by kernel_rfl) (fun _ _ _ h => h) zk
    · intro wq zq
      go_simp
      try rfl
    go_frame
    refine wpAnyH_done (by kernel_rfl) ?_ _
    have n3 := c3.box HN.out (fun h => h)
    have z0 : W3.cell? ⟨w.heap.size + 1, 0, none⟩ = some (.int .u32 0) := by simp [Lib.cell_of_heap n3, rcF, zRc]
    have z1 : W3.cell? ⟨w.heap.size + 1, 1, none⟩ = some (.int .u32 0) := by simp [Lib.cell_of_heap n3, rcF, zRc]
    have z2 : W3.cell? ⟨w.heap.size + 1, 2, none⟩ = some (.int .u32 0) := by simp [Lib.cell_of_heap n3, rcF, zRc]
    have z3 : W3.cell? ⟨w.heap.size + 1, 3, none⟩ = some (.int .u32 0) := by simp [Lib.cell_of_heap n3, rcF, zRc]
    have z4 : W3.cell? ⟨w.heap.size + 1, 4, none⟩ = some (.int .u32 0) := by simp [Lib.cell_of_heap n3, rcF, zRc]
    have z5 : W3.cell? ⟨w.heap.size + 1, 5, none⟩ = some (.int .u32 0) := by simp [Lib.cell_of_heap n3, rcF, zRc]
    have z6 : W3.cell? ⟨w.heap.size + 1, 6, none⟩ = some (.int .i64 0) := by simp [Lib.cell_of_heap n3, rcF, zRc]
    have z7 : W3.cell? ⟨w.heap.size + 1, 7, none⟩ = some (.int .i64 0) := by simp [Lib.cell_of_heap n3, rcF, zRc]
    have z8 : W3.cell? ⟨w.heap.size + 1, 8, none⟩ = some (.int .i64 0) := by simp [Lib.cell_of_heap n3, rcF, zRc]
    have z9 : W3.cell? ⟨w.heap.size + 1, 9, none⟩ = some (.int .u32 0) := by simp [Lib.cell_of_heap n3, rcF, zRc]
    have z10 : W3.cell? ⟨w.heap.size + 1, 10, none⟩ = some (.int .u32 0) := by simp [Lib.cell_of_heap n3, rcF, zRc]
    have zf : ∀ j, W3.frozen? ⟨w.heap.size + 1, j, none⟩ = false := frz n3
    have N3 := hide n3
    have C3 := hide c3
    have BW := hide (HK.out.ch c3 (fun _ _ h => h))
    obtain ⟨gb, c, cur, rfl, -⟩ := BW.out.at (by omega)
    have x0 := BW.out.cells.1
    have ye := Lib.cell_of_heap mE
    have hcell := fun j u hu => (BW.out.cell hi' (i := i) (j := j) (u := u) hu rfl).1
    have y0 : W3.cell? ⟨gb, i * 18 + 1, none⟩ = some (.int .u32 r.ms) := hcell 1 _ (by unfold slF rcF; rw [HR.out]; rfl)
    have y1 : W3.cell? ⟨gb, i * 18 + 2, none⟩ = some (.int .u32 r.mg) := hcell 2 _ (by unfold slF rcF; rw [HR.out]; rfl)
    have y2 : W3.cell? ⟨gb, i * 18 + 3, none⟩ = some (.int .u32 r.ws) := hcell 3 _ (by unfold slF rcF; rw [HR.out]; rfl)
    have y3 : W3.cell? ⟨gb, i * 18 + 4, none⟩ = some (.int .u32 r.wg) := hcell 4 _ (by unfold slF rcF; rw [HR.out]; rfl)
    have y4 : W3.cell? ⟨gb, i * 18 + 5, none⟩ = some (.int .u32 r.rs) := hcell 5 _ (by unfold slF rcF; rw [HR.out]; rfl)
    have y5 : W3.cell? ⟨gb, i * 18 + 6, none⟩ = some (.int .u32 r.rg) := hcell 6 _ (by unfold slF rcF; rw [HR.out]; rfl)
    have y6 : W3.cell? ⟨gb, i * 18 + 7, none⟩ = some (.int .i64 r.rd) := hcell 7 _ (by unfold slF rcF; rw [HR.out]; rfl)
    have y7 : W3.cell? ⟨gb, i * 18 + 8, none⟩ = some (.int .i64 r.ar) := hcell 8 _ (by unfold slF rcF; rw [HR.out]; rfl)
    have y8 : W3.cell? ⟨gb, i * 18 + 9, none⟩ = some (.int .i64 r.vn) := hcell 9 _ (by unfold slF rcF; rw [HR.out]; rfl)
    have y9 : W3.cell? ⟨gb, i * 18 + 10, none⟩ = some (.int .u32 r.vs) := hcell 10 _ (by unfold slF rcF; rw [HR.out]; rfl)
    have y10 : W3.cell? ⟨gb, i * 18 + 11, none⟩ = some (.int .u32 r.vg) := hcell 11 _ (by unfold slF rcF; rw [HR.out]; rfl)
    clear n3 c3 zk hcell
    go_wp2_with fail
    refine (at_is x0 hi' hl).mono ?_
    rintro e W ⟨rfl, rfl⟩
    go_wp2_with fail
    refine bodyPost_ret (v := .tuple #[rcV r, .bool true]) (resFirstH _ (w.heap.size + 1) _ r true rfl rfl ?_) rfl ⟨by rw [HEM.out]; rfl, ?_⟩
    · intro j u hu
      match j, hu with
      | 0, hu => cases hu; simp [go_sem, z0]
      | 1, hu => cases hu; simp [go_sem, z1]
      | 2, hu => cases hu; simp [go_sem, z2]
      | 3, hu => cases hu; simp [go_sem, z3]
      | 4, hu => cases hu; simp [go_sem, z4]
      | 5, hu => cases hu; simp [go_sem, z5]
      | 6, hu => cases hu; simp [go_sem, z6]
      | 7, hu => cases hu; simp [go_sem, z7]
      | 8, hu => cases hu; simp [go_sem, z8]
      | 9, hu => cases hu; simp [go_sem, z9]
      | 10, hu => cases hu; simp [go_sem, z10]
      | _ + 11, hu => simp [rcF] at hu
    · have hs := HS.out
      have hs2 := C3.out.size
      refine HB.out.trans ((Below.mono (Ch.below C3.out (N := w1.heap.size) (Nat.le_refl _) (fun _ _ h => h)) HB.out.size).trans ?_)
      have c : Ch (fun y => y = w.heap.size + 1) W3 _ := wrsA W3 (w.heap.size + 1) (rcF r)
      exact Below.mono (Ch.below c (N := w.heap.size) (by omega) (fun y hy e => by omega)) (Nat.le_refl _)

end Go.Proofs.Ytoabhmpakcgloaa
