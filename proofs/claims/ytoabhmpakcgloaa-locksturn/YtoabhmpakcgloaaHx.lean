/- Layer 11: the landed book, as the face asks: Leave. -/
import Derived.Test.YtoabhmpakcgloaaHw
import Derived.WalkMore
namespace Go.Proofs.Ytoabhmpakcgloaa
open Go.RowKit

abbrev lv0 : Oper := { dst := some 9, op := Op.move (Operand.tmp 0), type := 24, pos := "waitq.go:96", after := #[], guard := none }
abbrev lv1 : Oper := { dst := some 10, op := Op.nilCheck (Operand.tmp 9), type := 0, pos := "waitq.go:96", after := #[{ on := 0, ground := Ground.data }], guard := none }
abbrev lv2 : Oper := { dst := some 11, op := Op.fieldAddr 78 (Operand.tmp 10) 2, type := 0, pos := "waitq.go:96", after := #[{ on := 1, ground := Ground.data }], guard := none }
abbrev lv3 : Oper := { dst := some 12, op := Op.load 74 (Operand.tmp 11), type := 74, pos := "waitq.go:96", after := #[{ on := 2, ground := Ground.data }], guard := none }
abbrev lv4 : Oper := { dst := some 13, op := Op.load 35 (Operand.tmp 3), type := 35, pos := "waitq.go:96", after := #[], guard := none }
abbrev lv5 : Oper := { dst := some 14, op := Op.build 100 #[(0, Operand.const (Value.int IntKind.i64 1)), (2, Operand.tmp 13)], type := 100, pos := "waitq.go:96", after := #[{ on := 4, ground := Ground.data }], guard := none }
abbrev lv6 : Oper := { dst := some 15, op := Op.lookup 74 (Operand.tmp 12) (Operand.tmp 14) false, type := 119, pos := "waitq.go:96", after := #[{ on := 3, ground := Ground.data }, { on := 5, ground := Ground.data }], guard := none }
abbrev lv7 : Oper := { dst := some 6, op := Op.alloc 119, type := 0, pos := "waitq.go:96", after := #[], guard := none }
abbrev lv8 : Oper := { dst := none, op := Op.store 119 (Operand.tmp 6) (Operand.tmp 15), type := 0, pos := "waitq.go:96", after := #[{ on := 7, ground := Ground.data }, { on := 6, ground := Ground.data }, { on := 0, ground := Ground.phase }, { on := 1, ground := Ground.phase }, { on := 2, ground := Ground.phase }, { on := 3, ground := Ground.phase }, { on := 4, ground := Ground.phase }, { on := 5, ground := Ground.phase }, { on := 6, ground := Ground.phase }, { on := 7, ground := Ground.phase }], guard := none }

theorem leaW_over {A D : List Wt} {t : Wt} {s g : Int} (h : isWho s g t = true) : leaW (A ++ over t :: D) s g = leaW (A ++ t :: D) s g ∧ leaN (A ++ t :: D) s g = leaN (A ++ over t :: D) s g + 1 := by
  have ho : isWho s g (over t) = false := by simp [isWho, over]
  constructor
  · simp [leaW, h, ho]
  · simp only [leaN, List.countP_append, List.countP_cons, h, ho]
    simp
    omega
theorem leaW_none {l : List Wt} {s g : Int} (h : leaN l s g = 0) : leaW l s g = l := by
  unfold leaW
  refine List.ext_getElem (by simp) fun i h1 h2 => ?_
  rw [List.getElem_map]
  unfold leaN at h
  rw [List.countP_eq_zero] at h
  rw [if_neg (h _ (List.getElem_mem _))]
theorem leaN_sel (l : List Wt) (s g : Int) : leaN l s g = (mbW l ⟨1, 0, 0, 0, s, g⟩).length := by
  rw [mbW_len, stW_who]
  unfold leaN sel
  rw [List.length_map, List.countP_eq_length_filter]

/-- Leave, on its way -/
structure LvS (w W : World) (B p M C : Nat) (wv : Value) (s g : Int) (l l2 : List Wt) (len : Nat) : Prop where
  bk : ∃ sl full en cl n, Bk W B p wv M C sl full en cl n ∧ BInv l2 sl full en cl n ∧ sl.length = len
  nA : W.heap[w.heap.size]? = some (.cells #[.int .u32 s, .int .u32 g] 35 (0, 0))
  ch : Ch (bkF p M C wv) w W
  lw : leaW l2 s g = leaW l s g

theorem LvS.quiet {w W W' : World} {B p M C len : Nat} {wv : Value} {s g : Int} {l l2 : List Wt} (h : LvS w W B p M C wv s g l l2 len) (hc : Ch (fun _ => False) W W') : LvS w W' B p M C wv s g l l2 len := by
  obtain ⟨sl, full, en, cl, n, b, i, e⟩ := h.bk
  exact ⟨⟨sl, full, en, cl, n, b.ch hc (fun _ _ h => h), i, e⟩, hc.box h.nA (fun h => h), h.ch.trans hc (fun _ _ h => h.elim), h.lw⟩

set_option maxRecDepth 100000 in
set_option maxHeartbeats 8000000 in
theorem leave_b {w : World} {B p M C n0 : Nat} {wv : Value} {l : List Wt} {sla : List Sl} {full0 : Int} {en0 : Ln → Option (Int × Int)} {cl0 : Int × Int × Int → Option Int} (hb : Bk w B p wv M C sla full0 en0 cl0 n0) (hl : sla.length ≤ 100001) (hll : l.length ≤ 100000) (hi : BInv l sla full0 en0 cl0 n0) (s g : Int) :
    Calls Try.prog 43 #[.pointer (some ⟨p, 0, none⟩), hvW s g] w fun e w' => e = .returned (.int .i64 (leaN l s g : Int)) ∧ ∃ sl' full' en' cl' n', Bk w' B p wv M C sl' full' en' cl' n' ∧ BInv (leaW l s g) sl' full' en' cl' n' ∧ sl'.length = sla.length ∧ Ch (bkF p M C wv) w w' := by
  obtain ⟨w1, hw1⟩ : ∃ w1, w.alloc (.cells #[.int .u32 s, .int .u32 g] 35) = w1 := ⟨_, rfl⟩
  have hB1 : Below w.heap.size w w1 := by rw [← hw1]; exact below1 _ _
  have hh : w1.heap[w.heap.size]? = some (.cells #[.int .u32 s, .int .u32 g] 35 (0, 0)) := by rw [← hw1]; exact heap_new _ _
  obtain ⟨sl0, hsl0⟩ : ∃ k, sla.length = k := ⟨_, rfl⟩
  have T1 := hide (show LvS w w1 B p M C wv s g l l sl0 from ⟨⟨_, _, _, _, _, hb.below hB1, hi, hsl0⟩, hh, Ch.of_below hB1, rfl⟩)
  have HFT := hide (fun y hy => (hb.foot y hy).2)
  rw [hsl0] at hl ⊢
  clear hB1 hh hb hi hsl0
  have hn := List.countP_le_length (p := isWho s g) (l := l)
  have hn : leaN l s g ≤ l.length := hn
  go_enter Try.func43, Try.ntmps43
  go_wp2_with fail
  go_step3
  go_wp2_with fail
  go_step3
  go_wp2_with fail
  clear hw1
  go_loopw [5] (fun iv wr => ∃ (k : Nat) (l2 : List Wt), iv = .int .i64 (k : Int) ∧ k + leaN l2 s g = leaN l s g ∧ Hid (LvS w wr B p M C wv s g l l2 sl0)) (fun iv _ => leaN l s g - (intOf iv).toNat)
  case atStart => exact ⟨0, l, rfl, by omega, T1⟩
  case round =>
    obtain ⟨k, l2, rfl, hkl, HI⟩ := hrel
    obtain ⟨W2', rfl⟩ : ∃ x, x = wr := ⟨_, rfl⟩
    have t2 := HI.out
    go_wp2_with fail
    refine wp_reg (fun _ => False) (R := fun W => LvS w W B p M C wv s g l l2 sl0) (by kernel_rfl) (t2.quiet (Ch.drew _)) ?_
    rintro V v zk
    have TV := hide v
    clear v
    have HG := hide (fun wq (zq : Ch (fun _ => False) V wq) => have e := Lib.cell_of_heap (zq.box TV.out.nA (fun h => h)); show wq.cell? ⟨p, 2, none⟩ = some (.map (some M)) ∧ wq.cell? ⟨w.heap.size, 0, none⟩ = some (.int .u32 s) ∧ wq.cell? ⟨w.heap.size, 1, none⟩ = some (.int .u32 g) from by
      obtain ⟨sl, full, en, cl, n, b, -⟩ := TV.out.bk
      exact ⟨(b.ch zq (fun _ _ h => h)).cells.2.2.1, by simp [e], by simp [e]⟩)
    obtain ⟨sl, full, en, cl, n, bv, iv, hsl⟩ := TV.out.bk
    have HBV := hide bv
    have HIV := hide iv
    clear bv iv
    have hen := HIV.out.lines.en ⟨1, 0, 0, 0, s, g⟩
    have hls := leaN_sel l2 s g
    cases hL : mbW l2 ⟨1, 0, 0, 0, s, g⟩ with
    | nil =>
      rw [hL] at hen hls
      obtain ⟨e2, he2⟩ : ∃ e2, e0 (en ⟨1, 0, 0, 0, s, g⟩) = (0, e2) := ⟨0, by rw [hen]; rfl⟩
      have HEN := hide he2
      have hz : leaN l2 s g = 0 := hls
      have HW := hide (show leaW l s g = l2 by rw [← TV.out.lw]; exact leaW_none hz)
      have HKK := hide (show (k : Int) = (leaN l s g : Int) by omega)
      clear hen hls hL he2 hkl hz hn
      apply tk 0 lv0 rfl (by kernel_rfl) (fun _ _ _ h => h) zk
      · intro wq zq
        go_simp
        try rfl
      go_frame
      apply tk 1 lv1 rfl (by kernel_rfl) (fun _ _ _ h => h) zk
      · intro wq zq
        go_simp
        try rfl
      go_frame
      apply tk 2 lv2 rfl (by kernel_rfl) (fun _ _ _ h => h) zk
      · intro wq zq
        go_simp
        try rfl
      go_frame
      apply tk 3 lv3 rfl (by kernel_rfl) (fun _ _ _ h => h) zk
      · intro wq zq
        obtain ⟨s1, s2, s3⟩ := HG.out _ zq
        go_simp
        try rfl
      go_frame
      apply tk 4 lv4 rfl (by kernel_rfl) (fun _ _ _ h => h) zk
      · intro wq zq
        obtain ⟨s1, s2, s3⟩ := HG.out _ zq
        go_simp
        try rfl
      go_frame
      apply tk 5 lv5 rfl (by kernel_rfl) (fun _ _ _ h => h) zk
      · intro wq zq
        go_simp
        try rfl
      go_frame
      apply tk 6 lv6 rfl (by kernel_rfl) (fun _ _ _ h => h) zk
      · intro wq zq
        exact (val_lookL (x := ⟨1, 0, 0, 0, s, g⟩) (.tmp 12) (.tmp 14) rfl rfl rfl ((HBV.out.ch zq (fun _ _ h => h)).mp)).trans (by rw [HEN.out])
      go_frame
      refine Go.Proofs.Ytoabhmpakcgloaa.rd 7 lv7 rfl (by kernel_rfl) fun K hK => ?_
      go_simp
      refine genK (R := fun W => Ch (fun _ => False) V W ∧ W.heap[V.heap.size]? = some (.cells #[.int .u32 0, .int .u32 0] 119 (0, 0))) ⟨zk.trans (Ch.alloc _ _) (fun _ _ h => h), heap_new _ _⟩ ?_
      rintro W2 ⟨c2, nE⟩
      clear zk
      refine hK.out _ _ ?_ (fun zk => ?_)
      · exact c2
      clear hK K
      try go_frame
      refine Go.Proofs.Ytoabhmpakcgloaa.rd 8 lv8 rfl (by kernel_rfl) fun K hK => ?_
      have y0 := Lib.cell_of_heap nE
      have y1 := frz nE
      go_simp
      refine genK (R := fun W => Ch (fun _ => False) V W ∧ W.heap[V.heap.size]? = some (.cells #[.int .u32 0, .int .u32 e2] 119 (0, 0))) ⟨(c2.set_new (Nat.le_refl _) 0 _).set_new (Nat.le_refl _) 1 _, set2 nE⟩ ?_
      rintro W3 ⟨c3, mE⟩
      clear zk
      refine hK.out _ _ ?_ (fun zk => ?_)
      · exact c3
      clear hK K
      try go_frame
      clear y0 y1 nE c2
      refine wpAnyH_done (by kernel_rfl) ?_ _
      have ye := Lib.cell_of_heap mE
      have C3 := hide c3
      clear c3
      go_wp2_with fail
      rw [Exit.noGoto_ret]
      go_ret
      refine ⟨ret_int HKK.out, sl, full, en, cl, n, HBV.out.ch C3.out (fun _ _ h => h), by rw [HW.out]; exact HIV.out, hsl, TV.out.ch.trans C3.out (fun _ _ h => h.elim)⟩
    | cons s0 L' =>
      obtain ⟨t, ht1, ht2, ht3⟩ := mbW_mem.1 (show s0 ∈ mbW l2 ⟨1, 0, 0, 0, s, g⟩ by rw [hL]; simp)
      obtain ⟨A, D, hAD⟩ := List.append_of_mem ht1
      have hwho : isWho s g t = true := by rw [← stW_who]; exact ht2
      have hlive := stW_live ht2
      have iv := HIV.out
      rw [hAD] at iv hkl
      obtain ⟨i, hi', hs0⟩ := idx_of (s := t.r.ms) (n := sl.length) (by have := iv.dom t (by simp); omega) (by have := iv.dom t (by simp); omega)
      obtain ⟨q1, q2⟩ := leaW_over (A := A) (D := D) hwho
      rw [hL] at hen
      obtain ⟨e2, he2⟩ : ∃ e2, e0 (en ⟨1, 0, 0, 0, s, g⟩) = ((i : Int) + 1, e2) := ⟨L'.getLastD s0, by rw [hen]; show (s0, L'.getLastD s0) = _; rw [← ht3, hs0]⟩
      have HEN := hide he2
      have qz : (((i : Int) + 1) == 0) = false := by simp; omega
      have HLW := hide (show leaW (A ++ over t :: D) s g = leaW l s g by rw [q1, ← hAD]; exact TV.out.lw)
      have HKL := hide (show (k + 1) + leaN (A ++ over t :: D) s g = leaN l s g by omega)
      have HTK := hide (fun (W : World) (c : Ch (fun _ => False) V W) => take_b (HBV.out.ch c (fun _ _ h => h)) (by rw [hsl]; exact hl) iv hlive hs0)
      clear hen hls hL he2 ht1 ht2 ht3 hwho hlive iv q1 q2 hAD hkl hs0
      apply tk 0 lv0 rfl (by kernel_rfl) (fun _ _ _ h => h) zk
      · intro wq zq
        go_simp
        try rfl
      go_frame
      apply tk 1 lv1 rfl (by kernel_rfl) (fun _ _ _ h => h) zk
      · intro wq zq
        go_simp
        try rfl
      go_frame
      apply tk 2 lv2 rfl (by kernel_rfl) (fun _ _ _ h => h) zk
      · intro wq zq
        go_simp
        try rfl
      go_frame
      apply tk 3 lv3 rfl (by kernel_rfl) (fun _ _ _ h => h) zk
      · intro wq zq
        obtain ⟨s1, s2, s3⟩ := HG.out _ zq
        go_simp
        try rfl
      go_frame
      apply tk 4 lv4 rfl (by kernel_rfl) (fun _ _ _ h => h) zk
      · intro wq zq
        obtain ⟨s1, s2, s3⟩ := HG.out _ zq
        go_simp
        try rfl
      go_frame
      apply tk 5 lv5 rfl (by kernel_rfl) (fun _ _ _ h => h) zk
      · intro wq zq
        go_simp
        try rfl
      go_frame
      apply tk 6 lv6 rfl (by kernel_rfl) (fun _ _ _ h => h) zk
      · intro wq zq
        exact (val_lookL (x := ⟨1, 0, 0, 0, s, g⟩) (.tmp 12) (.tmp 14) rfl rfl rfl ((HBV.out.ch zq (fun _ _ h => h)).mp)).trans (by rw [HEN.out])
      go_frame
      refine Go.Proofs.Ytoabhmpakcgloaa.rd 7 lv7 rfl (by kernel_rfl) fun K hK => ?_
      go_simp
      refine genK (R := fun W => Ch (fun _ => False) V W ∧ W.heap[V.heap.size]? = some (.cells #[.int .u32 0, .int .u32 0] 119 (0, 0))) ⟨zk.trans (Ch.alloc _ _) (fun _ _ h => h), heap_new _ _⟩ ?_
      rintro W2 ⟨c2, nE⟩
      clear zk
      refine hK.out _ _ ?_ (fun zk => ?_)
      · exact c2
      clear hK K
      try go_frame
      refine Go.Proofs.Ytoabhmpakcgloaa.rd 8 lv8 rfl (by kernel_rfl) fun K hK => ?_
      have y0 := Lib.cell_of_heap nE
      have y1 := frz nE
      go_simp
      refine genK (R := fun W => Ch (fun _ => False) V W ∧ W.heap[V.heap.size]? = some (.cells #[.int .u32 ((i : Int) + 1), .int .u32 e2] 119 (0, 0))) ⟨(c2.set_new (Nat.le_refl _) 0 _).set_new (Nat.le_refl _) 1 _, set2 nE⟩ ?_
      rintro W3 ⟨c3, mE⟩
      clear zk
      refine hK.out _ _ ?_ (fun zk => ?_)
      · exact c3
      clear hK K
      try go_frame
      clear y0 y1 nE c2
      refine wpAnyH_done (by kernel_rfl) ?_ _
      have ye := Lib.cell_of_heap mE
      have C3 := hide c3
      clear c3
      go_wp2_with fail
      refine (HTK.out _ C3.out).mono ?_
      rintro e W4 ⟨rfl, sl', full', en', cl', n', b', i', l3, c'⟩
      have hlo : ¬ bkF p M C wv w.heap.size := fun h => by
        have := HFT.out _ h
        omega
      have T4 := hide (show LvS w W4 B p M C wv s g l (A ++ over t :: D) sl0 from ⟨⟨sl', full', en', cl', n', b', i', l3.trans hsl⟩, c'.box (C3.out.box TV.out.nA (fun h => h)) hlo, (TV.out.ch.trans C3.out (fun _ _ h => h.elim)).trans c' (fun _ _ h => h), HLW.out⟩)
      clear b' i' l3 c' hlo
      have ew : IntKind.i64.wrap ((k : Int) + 1) = (k : Int) + 1 := by have := HKL.out; rw [IntKind.wrap_i64]; omega
      go_wp2_with fail
      go_roundw
      case rel => exact ⟨k + 1, A ++ over t :: D, by go_num, HKL.out, T4⟩
      case measure => have := HKL.out; simp [intOf]; omega

end Go.Proofs.Ytoabhmpakcgloaa
