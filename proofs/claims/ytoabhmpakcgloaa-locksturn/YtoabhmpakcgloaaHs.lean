/- Layer 11: the landed book: list. -/
import Derived.Test.YtoabhmpakcgloaaHr
import Derived.Test.YtoabhmpakcgloaaHk
import Derived.Test.YtoabhmpakcgloaaWe
namespace Go.Proofs.Ytoabhmpakcgloaa
open Go.RowKit

abbrev la0 : Oper := { dst := some 9, op := Op.move (Operand.tmp 0), type := 24, pos := "waitq.go:239", after := #[], guard := none }
abbrev la1 : Oper := { dst := some 10, op := Op.nilCheck (Operand.tmp 9), type := 0, pos := "waitq.go:239", after := #[{ on := 0, ground := Ground.data }], guard := none }
abbrev la2 : Oper := { dst := some 11, op := Op.fieldAddr 78 (Operand.tmp 10) 2, type := 0, pos := "waitq.go:239", after := #[{ on := 1, ground := Ground.data }], guard := none }
abbrev la3 : Oper := { dst := some 12, op := Op.load 74 (Operand.tmp 11), type := 74, pos := "waitq.go:239", after := #[{ on := 2, ground := Ground.data }], guard := none }
abbrev la4 : Oper := { dst := some 13, op := Op.load 100 (Operand.tmp 3), type := 100, pos := "waitq.go:239", after := #[], guard := none }
abbrev la5 : Oper := { dst := some 14, op := Op.lookup 74 (Operand.tmp 12) (Operand.tmp 13) false, type := 119, pos := "waitq.go:239", after := #[{ on := 3, ground := Ground.data }, { on := 4, ground := Ground.data }], guard := none }
abbrev la6 : Oper := { dst := some 15, op := Op.field 119 (Operand.tmp 14) 0, type := 33, pos := "waitq.go:239", after := #[{ on := 5, ground := Ground.data }], guard := none }
abbrev la7 : Oper := { dst := some 6, op := Op.assign (Operand.tmp 15), type := 33, pos := "waitq.go:239", after := #[{ on := 6, ground := Ground.data }, { on := 0, ground := Ground.phase }, { on := 1, ground := Ground.phase }, { on := 2, ground := Ground.phase }, { on := 3, ground := Ground.phase }, { on := 4, ground := Ground.phase }, { on := 5, ground := Ground.phase }, { on := 6, ground := Ground.phase }], guard := none }
abbrev lb0 : Oper := { dst := some 18, op := Op.move (Operand.tmp 0), type := 24, pos := "waitq.go:239", after := #[], guard := none }
abbrev lb1 : Oper := { dst := some 19, op := Op.move (Operand.tmp 6), type := 33, pos := "waitq.go:239", after := #[], guard := none }
abbrev lb2 : Oper := { dst := some 20, op := Op.call { callee := Callee.value (Operand.func 44), args := #[Operand.tmp 18, Operand.tmp 19], argTypes := #[24, 33] }, type := 125, pos := "waitq.go:239", after := #[{ on := 0, ground := Ground.data }, { on := 1, ground := Ground.data }], guard := none }
abbrev lb3 : Oper := { dst := some 21, op := Op.fieldAddr 100 (Operand.tmp 3) 0, type := 0, pos := "waitq.go:239", after := #[], guard := none }
abbrev lb4 : Oper := { dst := some 22, op := Op.load 3 (Operand.tmp 21), type := 3, pos := "waitq.go:239", after := #[{ on := 3, ground := Ground.data }], guard := none }
abbrev lb5 : Oper := { dst := some 23, op := Op.nilCheck (Operand.tmp 20), type := 0, pos := "waitq.go:239", after := #[{ on := 2, ground := Ground.data }], guard := none }
abbrev lb6 : Oper := { dst := some 24, op := Op.fieldAddr 124 (Operand.tmp 23) 2, type := 0, pos := "waitq.go:239", after := #[{ on := 5, ground := Ground.data }], guard := none }
abbrev lb7 : Oper := { dst := some 25, op := Op.indexAddr 122 (Operand.tmp 24) (Operand.tmp 22), type := 0, pos := "waitq.go:239", after := #[{ on := 6, ground := Ground.data }, { on := 4, ground := Ground.data }], guard := none }
abbrev lb8 : Oper := { dst := some 26, op := Op.fieldAddr 121 (Operand.tmp 25) 1, type := 0, pos := "waitq.go:239", after := #[{ on := 7, ground := Ground.data }], guard := none }
abbrev lb9 : Oper := { dst := some 27, op := Op.load 33 (Operand.tmp 26), type := 33, pos := "waitq.go:239", after := #[{ on := 8, ground := Ground.data }], guard := none }
abbrev lb10 : Oper := { dst := some 6, op := Op.assign (Operand.tmp 27), type := 33, pos := "waitq.go:239", after := #[{ on := 9, ground := Ground.data }, { on := 2, ground := Ground.chain }, { on := 0, ground := Ground.phase }, { on := 1, ground := Ground.phase }, { on := 2, ground := Ground.phase }, { on := 3, ground := Ground.phase }, { on := 4, ground := Ground.phase }, { on := 5, ground := Ground.phase }, { on := 6, ground := Ground.phase }, { on := 7, ground := Ground.phase }, { on := 8, ground := Ground.phase }, { on := 9, ground := Ground.phase }], guard := none }

theorem Seg.nth {g : Int → Int × Int} : ∀ {p : Int} {L : List Int} {j : Nat} (_ : Seg g p L 0) (hj : j < L.length), (g L[j]).2 = L.getD (j + 1) 0
  | _, a :: r, 0, h, _ => by
    rw [Seg] at h
    show (g a).2 = _
    rw [h.1]
    cases r <;> rfl
  | _, a :: r, j + 1, h, hj => by
    rw [Seg] at h
    exact Seg.nth (j := j) h.2 (by simpa using hj)

def lenV : Value → Nat
  | .slice _ n _ => n
  | _ => 0

variable {w : World} {B p M C n : Nat} {wv : Value} {sl : List Sl} {full : Int} {en : Ln → Option (Int × Int)} {cl : Int × Int × Int → Option Int}

set_option maxRecDepth 100000 in
set_option maxHeartbeats 16000000 in
theorem list_is (h : Bk w B p wv M C sl full en cl n) (hl : sl.length ≤ 100001) (x : Ln) (hk : x.k < 3) {L : List Int} {rs : List Rc} (hen : en x = endW L) (hsg : Seg (lkS sl x.k) 0 L 0) (hin : ∀ s ∈ L, 0 < s ∧ s ≤ sl.length) (hrs : rs.length = L.length) (hr : ∀ j (hj : j < L.length) (hj' : j < rs.length) i (hi : i < sl.length), L[j] = (i : Int) + 1 → sl[i].r = rs[j]) (hll : rs.length ≤ 100001) :
    Calls Try.prog 32 #[.pointer (some ⟨p, 0, none⟩), lnV x] w fun e w' => ∃ v', e = .returned v' ∧ RcRow w' w.heap.size v' rs ∧ Below w.heap.size w w' := by
  obtain ⟨i0, hi0, hz0, hz1, hz2⟩ := nf_open nfRc
  obtain ⟨w1, hw1⟩ : ∃ w1, w.alloc (.cells #[.int .i64 (x.k : Int), .int .u32 x.rs, .int .u32 x.rg, .int .i64 x.rd, .int .u32 x.ws, .int .u32 x.wg] 100) = w1 := ⟨_, rfl⟩
  have hB1 : Below w.heap.size w w1 := by rw [← hw1]; exact below1 _ _
  have HB := hide hB1
  have H1 := hide (h.below hB1)
  have H0 := hide h
  have HN := hide (show w1.heap[w.heap.size]? = some (.cells #[.int .i64 (x.k : Int), .int .u32 x.rs, .int .u32 x.rg, .int .i64 x.rd, .int .u32 x.ws, .int .u32 x.wg] 100 (0, 0)) by rw [← hw1]; exact heap_new _ _)
  have hkl : ((x.k : Int) < 3) := by omega
  obtain ⟨e2, he2⟩ : ∃ e2, e0 (en x) = (L.getD 0 0, e2) := ⟨(e0 (en x)).2, by rw [hen]; cases L <;> rfl⟩
  have HEE := hide he2
  clear hB1 h hen he2
  go_enter Try.func32, Try.ntmps32
  unfold lnV
  go_wp2_with fail
  clear hw1
  refine wp_reg (fun _ => False) (R := fun W => Ch (fun _ => False) w1 W) (by kernel_rfl) (Ch.drew _) ?_
  rintro V v zk
  have HV := hide v
  clear v
  have HG := hide (fun wq (zq : Ch (fun _ => False) V wq) => ln_reads (wq := wq) (Q := fun _ => False) (x := x) H1.out.box HN.out (HV.out.trans zq (fun _ _ h => h)) (fun h => h) (fun h => h))
  apply tk 0 la0 rfl (by kernel_rfl) (fun _ _ _ h => h) zk
  · intro wq zq
    go_simp
    try rfl
  go_frame
  apply tk 1 la1 rfl (by kernel_rfl) (fun _ _ _ h => h) zk
  · intro wq zq
    go_simp
    try rfl
  go_frame
  apply tk 2 la2 rfl (by kernel_rfl) (fun _ _ _ h => h) zk
  · intro wq zq
    go_simp
    try rfl
  go_frame
  apply tk 3 la3 rfl (by kernel_rfl) (fun _ _ _ h => h) zk
  · intro wq zq
    obtain ⟨s1, s2, s3, s4, s5, s6, s7, s8⟩ := HG.out _ zq
    go_simp
    try rfl
  go_frame
  apply tk 4 la4 rfl (by kernel_rfl) (fun _ _ _ h => h) zk
  · intro wq zq
    obtain ⟨s1, s2, s3, s4, s5, s6, s7, s8⟩ := HG.out _ zq
    go_simp
    try rfl
  go_frame
  apply tk 5 la5 rfl (by kernel_rfl) (fun _ _ _ h => h) zk
  · intro wq zq
    exact (val_lookL (x := x) (.tmp 12) (.tmp 13) rfl rfl rfl ((H1.out.ch (HV.out.trans zq (fun _ _ h => h)) (fun _ _ h => h)).mp)).trans (by rw [HEE.out])
  go_frame
  apply tk 6 la6 rfl (by kernel_rfl) (fun _ _ _ h => h) zk
  · intro wq zq
    go_simp
    try rfl
  go_frame
  apply tk 7 la7 rfl (by kernel_rfl) (fun _ _ _ h => h) zk
  · intro wq zq
    go_simp
    try rfl
  go_frame
  refine wpAnyH_done (by kernel_rfl) ?_ _
  have BV := hide (HB.out.trans (Below.mono (Ch.below HV.out (N := w1.heap.size) (Nat.le_refl _) (fun _ _ h => h)) HB.out.size))
  have HQ := hide (And.intro hin (And.intro hsg (And.intro hrs hr)))
  clear hin hsg hrs hr HG
  go_wp2_with fail
  go_loopw [5, 6] (fun t sv wr => ∃ k : Nat, k ≤ L.length ∧ sv = .int .u32 (L.getD k 0) ∧ Hid (RcRow wr w.heap.size t (rs.take k) ∧ Below w.heap.size w wr ∧ wr.heap[w.heap.size]? = some (.cells #[.int .i64 (x.k : Int), .int .u32 x.rs, .int .u32 x.rg, .int .i64 x.rd, .int .u32 x.ws, .int .u32 x.wg] 100 (0, 0)))) (fun t _ _ => L.length - lenV t)
  case atStart => exact ⟨0, Nat.zero_le _, rfl, hide ⟨Row.nil _ _, BV.out, HV.out.box HN.out (fun h => h)⟩⟩
  case round =>
    obtain ⟨k, hk', rfl, HI⟩ := hrel
    obtain ⟨W2, rfl⟩ : ∃ x, x = wr := ⟨_, rfl⟩
    obtain ⟨u0, eu⟩ : ∃ u, u = u5 := ⟨_, rfl⟩
    subst eu
    by_cases hlt : k < L.length
    · obtain ⟨i, hi, hs⟩ := idx_of (HQ.out.1 L[k] (List.getElem_mem _)).1 (HQ.out.1 L[k] (List.getElem_mem _)).2
      have eL : L.getD k 0 = (i : Int) + 1 := by rw [List.getD_eq_getElem?_getD, List.getElem?_eq_getElem hlt]; exact hs
      have hlt' : k < rs.length := by rw [HQ.out.2.2.1]; exact hlt
      have hrec := HQ.out.2.2.2 k hlt hlt' i hi hs
      have hnx := HQ.out.2.1.nth hlt
      rw [hs, lkS_at _ _ _ hi] at hnx
      have NX := hide hnx
      have q : (((i : Int) + 1) == 0) = false := by simp; omega
      rw [eL]
      have lenT : lenV u0 = k := by
        obtain ⟨a, c, e, -⟩ := HI.out.1.form
        rw [e, List.length_take]
        show min k rs.length = k
        omega
      have HLT := hide (And.intro lenT (And.intro hlt hlt'))
      have BW := hide (H0.out.below HI.out.2.1)
      obtain ⟨g, c, cur, rfl, -⟩ := BW.out.at (by omega)
      obtain ⟨z, hz⟩ : ∃ z, rs[k] = z := ⟨_, rfl⟩
      have HZ := hide (show rs.take (k + 1) = rs.take k ++ [z] by rw [List.take_succ_eq_append_getElem hlt', hz])
      rw [hz] at hrec
      have hcell := fun j u hu => (BW.out.cell hi (i := i) (j := j) (u := u) hu rfl).1
      have x0 := BW.out.cells.1
      have y0 : W2.cell? ⟨g, i * 18 + 1, none⟩ = some (.int .u32 z.ms) := hcell 1 _ (by unfold slF rcF; rw [hrec]; rfl)
      have y1 : W2.cell? ⟨g, i * 18 + 2, none⟩ = some (.int .u32 z.mg) := hcell 2 _ (by unfold slF rcF; rw [hrec]; rfl)
      have y2 : W2.cell? ⟨g, i * 18 + 3, none⟩ = some (.int .u32 z.ws) := hcell 3 _ (by unfold slF rcF; rw [hrec]; rfl)
      have y3 : W2.cell? ⟨g, i * 18 + 4, none⟩ = some (.int .u32 z.wg) := hcell 4 _ (by unfold slF rcF; rw [hrec]; rfl)
      have y4 : W2.cell? ⟨g, i * 18 + 5, none⟩ = some (.int .u32 z.rs) := hcell 5 _ (by unfold slF rcF; rw [hrec]; rfl)
      have y5 : W2.cell? ⟨g, i * 18 + 6, none⟩ = some (.int .u32 z.rg) := hcell 6 _ (by unfold slF rcF; rw [hrec]; rfl)
      have y6 : W2.cell? ⟨g, i * 18 + 7, none⟩ = some (.int .i64 z.rd) := hcell 7 _ (by unfold slF rcF; rw [hrec]; rfl)
      have y7 : W2.cell? ⟨g, i * 18 + 8, none⟩ = some (.int .i64 z.ar) := hcell 8 _ (by unfold slF rcF; rw [hrec]; rfl)
      have y8 : W2.cell? ⟨g, i * 18 + 9, none⟩ = some (.int .i64 z.vn) := hcell 9 _ (by unfold slF rcF; rw [hrec]; rfl)
      have y9 : W2.cell? ⟨g, i * 18 + 10, none⟩ = some (.int .u32 z.vs) := hcell 10 _ (by unfold slF rcF; rw [hrec]; rfl)
      have y10 : W2.cell? ⟨g, i * 18 + 11, none⟩ = some (.int .u32 z.vg) := hcell 11 _ (by unfold slF rcF; rw [hrec]; rfl)
      clear hcell hrec hz lenT eL hnx hs
      have HOW := hide (World.ownsRow.alloc HI.out.1 (.cells #[.int .u32 z.ms, .int .u32 z.mg, .int .u32 z.ws, .int .u32 z.wg, .int .u32 z.rs, .int .u32 z.rg, .int .i64 z.rd, .int .i64 z.ar, .int .i64 z.vn, .int .u32 z.vs, .int .u32 z.vg] 114))
      have HN1 := hide (row_new W2 (rcF z) 114 rfl)
      have HM1 := hide (show (rs.take k).length + 1 ≤ maxLen by unfold maxLen; rw [List.length_take]; omega)
      have HM2 := hide (show ((rs.take k).length + 1) * 56 ≤ 140737488355328 by rw [List.length_take]; omega)
      have HM3 := hide (show w.heap.size ≤ (W2.alloc (.cells #[.int .u32 z.ms, .int .u32 z.mg, .int .u32 z.ws, .int .u32 z.wg, .int .u32 z.rs, .int .u32 z.rg, .int .i64 z.rd, .int .i64 z.ar, .int .i64 z.vn, .int .u32 z.vs, .int .u32 z.vg] 114)).heap.size by have := HI.out.2.1.size; simp; omega)
      clear hlt hlt' hk'
      go_wp2_with fail
      refine (at_is x0 hi hl).mono ?_
      rintro e W ⟨rfl, rfl⟩
      go_wp2_with (at_builtin; refine wpList_append_own_at _ rfl _ _ 56 rfl w.heap.size 114 i0 (rcV zRc) 11 56 Try.underlying56 hi0 hz0 hz1 hz2 rfl (by decide) _ (rs.take k).length ((rs.take k).flatMap rcF) rfl HOW.out ⟨W2.heap.size, 0, none⟩ 1 1 (rcF z) rfl rfl HN1.out (rcF_one z) HM1.out HM2.out HM3.out ?_)
      intro v5 w5 hown5 hgrow5 _ _
      have R5 := hide (show RcRow w5 w.heap.size v5 (rs.take (k + 1)) from by rw [HZ.out]; exact Row.snoc (by rw [List.length_take]; exact hown5))
      have C5 := hide ((Ch.alloc (Q := fun y => u0.ownBlock = some y) W2 _).trans (Ch.of_grown (Q := fun y => u0.ownBlock = some y) hgrow5 (fun _ e => e)) (fun _ _ h => h))
      have hlo : ∀ y, y < w.heap.size + 1 → ¬ u0.ownBlock = some y := fun y hy e => by
        have k1 := own_in HI.out.1 e
        by_cases hy' : y = w.heap.size
        · exact own_box HI.out.1 HI.out.2.2 (by decide) (hy' ▸ e)
        · omega
      have B5 := hide (BW.out.ch C5.out (fun y hy e => hlo y (Nat.lt_succ_of_lt (H0.out.foot y hy).2) e))
      have N5 := hide (C5.out.box HI.out.2.2 (fun e => hlo _ (Nat.lt_succ_self _) e))
      have D5 := hide (HI.out.2.1.trans (C5.out.below (N := w.heap.size) HI.out.2.1.size (fun y hy e => hlo y (Nat.lt_succ_of_lt hy) e)))
      clear hown5 hgrow5 hlo x0 y0 y1 y2 y3 y4 y5 y6 y7 y8 y9 y10
      go_wp2_with fail
      refine wp_reg (fun _ => False) (R := fun W => Ch (fun _ => False) w5 W) (by kernel_rfl) (Ch.drew _) ?_
      rintro U u zk
      have HU := hide u
      clear u
      have HG6 := hide (fun wq (zq : Ch (fun _ => False) U wq) => ln_reads (wq := wq) (Q := fun _ => False) (x := x) B5.out.box N5.out (HU.out.trans zq (fun _ _ h => h)) (fun h => h) (fun h => h))
      apply tk 0 lb0 rfl (by kernel_rfl) (fun _ _ _ h => h) zk
      · intro wq zq
        go_simp
        try rfl
      go_frame
      apply tk 1 lb1 rfl (by kernel_rfl) (fun _ _ _ h => h) zk
      · intro wq zq
        go_simp
        try rfl
      go_frame
      apply tk 3 lb3 rfl (by kernel_rfl) (fun _ _ _ h => h) zk
      · intro wq zq
        go_simp
        try rfl
      go_frame
      apply tk 4 lb4 rfl (by kernel_rfl) (fun _ _ _ h => h) zk
      · intro wq zq
        obtain ⟨s1, s2, s3, s4, s5, s6, s7, s8⟩ := HG6.out _ zq
        go_simp
        try rfl
      go_frame
      refine Go.Proofs.Ytoabhmpakcgloaa.rd 2 lb2 rfl (by kernel_rfl) fun K hK => ?_
      go_simp
      refine (at_is (HG6.out _ zk).1 hi hl).mono ?_
      rintro e W4 ⟨rfl, rfl⟩
      go_wp2_with fail
      refine hK.out _ _ ?_ (fun zk => ?_)
      · exact zk
      clear hK K
      try go_frame
      apply tk 5 lb5 rfl (by kernel_rfl) (fun _ _ _ h => h) zk
      · intro wq zq
        go_simp
        try rfl
      go_frame
      apply tk 6 lb6 rfl (by kernel_rfl) (fun _ _ _ h => h) zk
      · intro wq zq
        go_simp
        try rfl
      go_frame
      apply tk 7 lb7 rfl (by kernel_rfl) (fun _ _ _ h => h) zk
      · intro wq zq
        go_simp
        try rfl
      go_frame
      apply tk 8 lb8 rfl (by kernel_rfl) (fun _ _ _ h => h) zk
      · intro wq zq
        go_simp
        try rfl
      go_frame
      apply tk 9 lb9 rfl (by kernel_rfl) (fun _ _ _ h => h) zk
      · intro wq zq
        have s1 := ((B5.out.ch (HU.out.trans zq (fun _ _ h => h)) (fun _ _ h => h)).cell hi (slF_b sl[i] hk) (off_b i x.k)).1
        rw [NX.out] at s1
        go_simp
        try rfl
      go_frame
      apply tk 10 lb10 rfl (by kernel_rfl) (fun _ _ _ h => h) zk
      · intro wq zq
        go_simp
        try rfl
      go_frame
      refine wpAnyH_done (by kernel_rfl) ?_ _
      have lenT5 : lenV v5 = k + 1 := by
        obtain ⟨a, c, e, -⟩ := R5.out.form
        rw [e, List.length_take]
        show min (k + 1) rs.length = k + 1
        have := HLT.out.2.2
        omega
      have HL5 := hide lenT5
      clear lenT5
      go_wp2_with fail
      refine ⟨?rel, ?measure⟩
      case rel =>
        (repeat apply Exists.intro)
        refine ⟨?_, rfl⟩
        exact ⟨k + 1, by have := HLT.out.2.1; omega, rfl, hide ⟨R5.out.ch HU.out (fun _ _ h => h), D5.out.trans (HU.out.below (N := w.heap.size) D5.out.size (fun _ _ h => h)), HU.out.box N5.out (fun h => h)⟩⟩
      case measure =>
        show L.length - lenV v5 < L.length - lenV u0
        have h1 := HLT.out
        have h2 := HL5.out
        omega
    · have ek : k = L.length := by omega
      have e0' : L.getD k 0 = 0 := by rw [List.getD_eq_getElem?_getD, List.getElem?_eq_none (by omega)]; rfl
      have et : rs.take k = rs := List.take_of_length_le (by have := HQ.out.2.2.1; omega)
      have HR := hide (show RcRow W2 w.heap.size u0 rs by have := HI.out.1; rwa [et] at this)
      rw [e0']
      have HD := hide HI.out.2.1
      clear hlt ek e0' et hk' HI
      go_wp2_with fail
      go_ret
      exact ⟨_, rfl, HR.out, HD.out⟩

end Go.Proofs.Ytoabhmpakcgloaa
