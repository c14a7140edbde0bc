/- Layer 11: the landed book, as the face asks: Put. -/
import Derived.Test.YtoabhmpakcgloaaHza
namespace Go.Proofs.Ytoabhmpakcgloaa
open Go.RowKit

abbrev pm0 : Oper := { dst := some 54, op := Op.move (Operand.tmp 0), type := 24, pos := "waitq.go:63", after := #[], guard := none }
abbrev pm1 : Oper := { dst := some 55, op := Op.nilCheck (Operand.tmp 54), type := 0, pos := "waitq.go:63", after := #[{ on := 0, ground := Ground.data }], guard := none }
abbrev pm2 : Oper := { dst := some 56, op := Op.fieldAddr 78 (Operand.tmp 55) 3, type := 0, pos := "waitq.go:63", after := #[{ on := 1, ground := Ground.data }], guard := none }
abbrev pm3 : Oper := { dst := some 57, op := Op.load 75 (Operand.tmp 56), type := 75, pos := "waitq.go:63", after := #[{ on := 2, ground := Ground.data }], guard := none }
abbrev pm4 : Oper := { dst := some 58, op := Op.load 35 (Operand.tmp 7), type := 35, pos := "waitq.go:63", after := #[], guard := none }
abbrev pm5 : Oper := { dst := some 59, op := Op.move (Operand.tmp 3), type := 3, pos := "waitq.go:63", after := #[], guard := none }
abbrev pm6 : Oper := { dst := some 60, op := Op.build 130 #[(0, Operand.tmp 58), (1, Operand.tmp 59)], type := 130, pos := "waitq.go:63", after := #[{ on := 4, ground := Ground.data }, { on := 5, ground := Ground.data }], guard := none }
abbrev pm7 : Oper := { dst := some 61, op := Op.move (Operand.tmp 13), type := 33, pos := "waitq.go:63", after := #[], guard := none }
abbrev pm8 : Oper := { dst := none, op := Op.mapUpdate 75 (Operand.tmp 57) (Operand.tmp 60) (Operand.tmp 61), type := 0, pos := "waitq.go:63", after := #[{ on := 3, ground := Ground.data }, { on := 6, ground := Ground.data }, { on := 7, ground := Ground.data }, { on := 0, ground := Ground.phase }, { on := 1, ground := Ground.phase }, { on := 2, ground := Ground.phase }, { on := 3, ground := Ground.phase }, { on := 4, ground := Ground.phase }, { on := 5, ground := Ground.phase }, { on := 6, ground := Ground.phase }, { on := 7, ground := Ground.phase }], guard := none }

/-- Put, on its way: the book, its boxes, the handle -/
structure PuS (w W : World) (B p g len c M C : Nat) (sl : List Sl) (full : Int) (en : Ln → Option (Int × Int)) (cl : Int × Int × Int → Option Int) (n a5 : Nat) (rs rg rd ws wg vn vs vg s G : Int) (wv : Value) : Prop where
  bk : Bk W B p (.slice (some ⟨g, 0, none⟩) len c) M C sl full en cl n
  pb : PB4 w W rs rg rd ws wg vn vs vg
  n5 : W.heap[a5]? = some (.cells #[.int .u32 s, .int .u32 G] 35 (0, 0))
  lo : ∀ y, bkF p M C (.slice (some ⟨g, 0, none⟩) len c) y → y < w.heap.size ∨ w.heap.size + 4 ≤ y
  ch : Ch (bkF p M C wv) w W
  ow : g < w.heap.size → wv.ownBlock = some g
  l5 : w.heap.size + 4 ≤ a5

section
variable {w W W' : World} {B p g len c M C n a5 : Nat} {sl : List Sl} {full : Int} {en en' : Ln → Option (Int × Int)} {cl : Int × Int × Int → Option Int} {rs rg rd ws wg vn vs vg s G : Int} {wv : Value}
theorem PuS.quiet (h : PuS w W B p g len c M C sl full en cl n a5 rs rg rd ws wg vn vs vg s G wv) (hc : Ch (fun _ => False) W W') : PuS w W' B p g len c M C sl full en cl n a5 rs rg rd ws wg vn vs vg s G wv :=
  ⟨h.bk.ch hc (fun _ _ h => h), h.pb.ch hc (fun _ h => h.elim), hc.box h.n5 (fun h => h), h.lo, h.ch.trans hc (fun _ _ h => h.elim), h.ow, h.l5⟩
theorem PuS.book {sl' : List Sl} (h : PuS w W B p g len c M C sl full en cl n a5 rs rg rd ws wg vn vs vg s G wv) (hb : Bk W' B p (.slice (some ⟨g, 0, none⟩) len c) M C sl' full en' cl n) (hc : Ch (fun y => y = M ∨ (Value.slice (some ⟨g, 0, none⟩) len c).ownBlock = some y) W W') : PuS w W' B p g len c M C sl' full en' cl n a5 rs rg rd ws wg vn vs vg s G wv := by
  refine ⟨hb, h.pb.ch hc (fun y e => h.lo y (e.elim (fun e => Or.inr (Or.inl e)) (fun e => Or.inr (Or.inr (Or.inr e))))), hc.box h.n5 ?_, h.lo, h.ch.trans hc (fun y hy e => ?_), h.ow, h.l5⟩
  · rintro (e | e)
    · obtain ⟨_, m⟩ := h.bk.mp
      exact m.ne_cells h.n5 e
    · exact own_box h.bk.row h.n5 (by decide) e
  · rcases e with e | e
    · exact Or.inr (Or.inl e)
    · cases e
      exact Or.inr (Or.inr (Or.inr (h.ow hy)))
end
theorem lkS_keep (sl : List Sl) (s : Int) {f : Sl → Sl} (hf : ∀ x, (f x).lk = x.lk) : lkS (modS sl s f) = lkS sl := by
  funext k x
  unfold lkS modS
  split
  · rw [List.getElem?_modify]
    cases h : sl[(x - 1).toNat]? with
    | none => rfl
    | some z =>
      simp only [Option.map_some, Option.getD_some]
      split
      · show (f z).lk k = _
        rw [hf]
      · rfl
  · rfl
theorem lkS_app (sl : List Sl) (z : Sl) {k : Nat} {s : Int} (h1 : 0 < s) (h2 : s ≤ sl.length) : lkS (sl ++ [z]) k s = lkS sl k s := by
  unfold lkS
  rw [List.getElem?_append_left (by omega)]
theorem putM_ok {Mb : Ln → List Int} (r : Rc) (s : Int) {k : Nat} (hk : k < 3) (h : ∀ x, s ∉ Mb x) : ∀ y, y.k = (lnOf k r).k → s ∉ putM Mb r s k y := by
  intro y hy
  rw [lnOf_k k hk] at hy
  rw [putM_le _ _ _ k (by omega), if_neg (by omega)]
  exact h y
theorem putM_bd {Mb : Ln → List Int} (r : Rc) {s : Int} {k len : Nat} (hk : k ≤ 3) (hs : s ≤ len) (h : ∀ x, ∀ t ∈ Mb x, t ≤ len) : ∀ x, ∀ t ∈ putM Mb r s k x, t ≤ len := by
  intro x t ht
  rw [putM_le _ _ _ k hk] at ht
  split at ht
  · rcases List.mem_append.1 ht with ht | ht
    · exact h x t ht
    · rw [List.mem_singleton.1 ht]; exact hs
  · exact h x t ht

set_option maxRecDepth 100000 in
set_option maxHeartbeats 16000000 in
theorem put_b {w : World} {B p M C n : Nat} {wv : Value} {l : List Wt} {sl : List Sl} {full : Int} {en : Ln → Option (Int × Int)} {cl : Int × Int × Int → Option Int} (hb : Bk w B p wv M C sl full en cl n) (hll : l.length ≤ 100000) (hsl : sl.length ≤ l.length) (hB : B ≤ w.heap.size) (hi : BInv l sl full en cl n) (rs rg rd ws wg ar vn vs vg : Int) :
    Calls Try.prog 40 #[.pointer (some ⟨p, 0, none⟩), rvW rs rg rd, hvW ws wg, .int .i64 ar, .agg #[.int .i64 vn, .int .u32 vs, .int .u32 vg]] w fun e w' => e = .returned (.tuple #[hvW (psW l ws wg rd ar) (pgW l ws wg rd ar), .int .i64 (ecW l ws wg rd ar)]) ∧ ∃ wv' sl' full' en' cl' n', Bk w' B p wv' M C sl' full' en' cl' n' ∧ BInv (putW l rs rg rd ws wg ar vn vs vg) sl' full' en' cl' n' ∧ sl'.length ≤ (putW l rs rg rd ws wg ar vn vs vg).length ∧ Ch (bkF p M C wv) w w' ∧ ∀ x, wv'.ownBlock = some x → wv.ownBlock = some x ∨ w.heap.size ≤ x := by
  obtain ⟨w1, hw1⟩ : ∃ w1, (((w.alloc (.cells #[.int .u32 rs, .int .u32 rg, .int .i64 rd] 60)).alloc (.cells #[.int .u32 ws, .int .u32 wg] 35)).alloc (.cells #[.int .i64 vn, .int .u32 vs, .int .u32 vg] 43)).alloc (.cells #[.int .u32 0, .int .u32 0] 35) = w1 := ⟨_, rfl⟩
  have hB1 : Below w.heap.size w w1 := by rw [← hw1]; exact (((below1 _ _).trans ((below1 _ _).mono (by simp))).trans ((below1 _ _).mono (by simp; omega))).trans ((below1 _ _).mono (by simp; omega))
  have s1 : w1.heap.size = w.heap.size + 4 := by rw [← hw1]; simp
  have HP1 := hide (show PB4 w w1 rs rg rd ws wg vn vs vg by rw [← hw1]; exact PB4.new ..)
  obtain ⟨x0, x1, x2, x3, x4, -⟩ := HP1.out.cells
  have HB := hide hB1
  have HK := hide (hb.below hB1)
  have HF := hide (fun y hy => (hb.foot y hy).2)
  have HI := hide hi
  have HS := hide s1
  have hec : ecC cl ws wg rd ar = ecW l ws wg rd ar := by unfold ecC ecW; rw [hi.twice]
  clear hB1 hb hi s1
  go_enter Try.func40, Try.ntmps40
  go_wp2_with fail
  refine (refuse_is HK.out rs rg rd ws wg ar).mono ?_
  rintro e W2 ⟨rfl, h2⟩
  rw [hec]
  have C2 := hide (Ch.of_below (Q := fun _ => False) h2)
  have P2 := hide (HP1.out.ch C2.out (fun _ h => h.elim))
  have BW := hide (HK.out.below h2)
  clear h2 hw1 x0 x1 x2 x3 x4
  by_cases he : ecW l ws wg rd ar = 0
  · obtain ⟨k, hk1, hk2, hk3⟩ := slW_spec l
    obtain ⟨m1, m2, m3, m4⟩ := HI.out.least hk2 hk3
    obtain ⟨f, rfl⟩ : ∃ f : Nat, full = (f : Int) := ⟨full.toNat, by have := HI.out.full0; omega⟩
    have HKP := hide (And.intro hk1 (And.intro hk2 (And.intro hk3 (And.intro m2 he))))
    have HLE := hide (least_is BW.out (by omega) (by have := C2.out.size; have := HS.out; omega) (by omega) m2 (fun j hj h1 h2 => m3 j hj (by omega) h2) m4)
    rw [he]
    clear hk1 hk2 hk3 m1 m2 m3 m4 he hec
    go_wp2_with fail
    refine HLE.out.mono ?_
    rintro e W3 ⟨rfl, wv3, sl1, hs1, hk, b3, c3, o3⟩
    obtain ⟨g, c, -, rfl, -⟩ := b3.at (by omega)
    obtain ⟨len, hlen⟩ : ∃ x, sl1.length = x := ⟨_, rfl⟩
    rw [hlen] at b3 hk o3
    have hl1 : len ≤ 100001 := by
      rcases hs1 with rfl | ⟨_, rfl⟩
      · omega
      · rw [List.length_append, List.length_singleton] at hlen
        omega
    have lo3 : ∀ y, bkF p M C (.slice (some ⟨g, 0, none⟩) len c) y → y < w.heap.size ∨ w.heap.size + 4 ≤ y := fun y hy => by
      rcases hy with hy | hy | hy | hy
      · exact Or.inl (HF.out y (Or.inl hy))
      · exact Or.inl (HF.out y (Or.inr (Or.inl hy)))
      · exact Or.inl (HF.out y (Or.inr (Or.inr (Or.inl hy))))
      · rcases o3 y hy with e | e
        · exact Or.inl (HF.out y (Or.inr (Or.inr (Or.inr e))))
        · have := C2.out.size
          have := HS.out
          omega
    have P3 := hide (P2.out.ch c3 (fun y e => Or.inl (e.elim (fun e => HF.out y (Or.inl e)) (fun e => HF.out y (Or.inr (Or.inr (Or.inr e)))))))
    have CH3 := hide (((Ch.of_below (Q := bkF p M C wv) HB.out).trans C2.out (fun _ _ h => h.elim)).trans c3 (fun y _ e => e.elim (fun e => Or.inl e) (fun e => Or.inr (Or.inr (Or.inr e)))))
    have B3 := hide b3
    have HLO := hide lo3
    have HO := hide (show g < w.heap.size → wv.ownBlock = some g from fun hg => (o3 g rfl).resolve_right (by have := C2.out.size; have := HS.out; omega))
    have HL1 := hide (And.intro hs1 hlen)
    have x0 := b3.cells.1
    have hkl : k < sl1.length := by rw [hlen]; exact hk
    obtain ⟨G0, hG0⟩ : ∃ G0, sl1[k].g = G0 := ⟨_, rfl⟩
    have hgl := genW_le l ((k : Int) + 1)
    have hG : G0 = (genW l ((k : Int) + 1) : Int) := by
      rw [← hG0]
      rcases hs1 with rfl | ⟨hkk, rfl⟩
      · exact HI.out.gen k hkl
      · have : (sl ++ [zSl 0])[k] = zSl 0 := by rw [List.getElem_append_right (by omega)]; simp
        rw [this]
        show (0 : Int) = _
        have : genW l ((k : Int) + 1) = 0 := by
          unfold genW
          rw [List.countP_eq_zero]
          intro t ht
          have := HI.out.dom t ht
          simp
          omega
        omega
    obtain ⟨G, hGe⟩ : ∃ G, G0 + 1 = G := ⟨_, rfl⟩
    have hwr : IntKind.u32.wrap (G0 + 1) = G := by rw [IntKind.wrap_u32]; omega
    have y0 : W3.cell? ⟨g, k * 18, none⟩ = some (.int .u32 G0) := by
      have := b3
      rw [← hlen] at this
      exact (this.cell hkl (j := 0) (u := .int .u32 G0) (by rw [← hG0]; rfl) rfl).1
    have yf : W3.frozen? ⟨g, k * 18, none⟩ = false := by
      have := b3
      rw [← hlen] at this
      exact (this.cell hkl (j := 0) (u := .int .u32 G0) (by rw [← hG0]; rfl) rfl).2
    have HGG := hide (And.intro hG0 (And.intro hG hGe))
    clear b3 c3 o3 lo3 hs1 hG0 hG hgl
    go_wp2_with fail
    refine (at_is x0 hk hl1).mono ?_
    rintro e W ⟨rfl, rfl⟩
    dsimp only
    first | refine wp_anyH (put_r6 y0 yf hwr ?_) | (go_step; (first | refine wp_anyH (put_r6 y0 yf hwr ?_) | (go_step; (first | refine wp_anyH (put_r6 y0 yf hwr ?_) | (go_step; (first | refine wp_anyH (put_r6 y0 yf hwr ?_) | (go_step; (first | refine wp_anyH (put_r6 y0 yf hwr ?_) | (go_step; (first | refine wp_anyH (put_r6 y0 yf hwr ?_) | (go_step; (first | refine wp_anyH (put_r6 y0 yf hwr ?_) | (go_step; (first | refine wp_anyH (put_r6 y0 yf hwr ?_) | (go_step; (first | refine wp_anyH (put_r6 y0 yf hwr ?_) | (go_step; (first | refine wp_anyH (put_r6 y0 yf hwr ?_) | (go_step; refine wp_anyH (put_r6 y0 yf hwr ?_))))))))))))))))))))
    intros
    dsimp only [Exit.inBlock, Exit.then]
    have y0' : (W3.setCell ⟨g, k * 18, none⟩ (.int .u32 G)).cell? ⟨g, k * 18, none⟩ = some (.int .u32 G) := by simp [go_sem, y0]
    have B4 := B3.out.setL (i := k) HL1.out.2 hk (j := 0) (by omega) (u := .int .u32 G) (fun x => { x with g := G }) (fun _ => rfl) rfl
    have c4 := Ch.set (Q := fun y => y = g) W3 rfl (k * 18) (.int .u32 G)
    refine genK (R := fun W => W.cell? ⟨g, k * 18, none⟩ = some (.int .u32 G) ∧ Bk W B p (.slice (some ⟨g, 0, none⟩) len c) M C (modS sl1 ((k : Int) + 1) (fun x => { x with g := G })) ((k : Int) + 1) en cl n ∧ PB4 w W rs rg rd ws wg vn vs vg ∧ Ch (bkF p M C wv) w W) ⟨y0', B4, P3.out.ch c4 (fun y (e : y = g) => HLO.out y (Or.inr (Or.inr (Or.inr (by rw [e]; rfl))))), CH3.out.trans c4 (fun y hy (e : y = g) => Or.inr (Or.inr (Or.inr (by subst e; exact HO.out hy))))⟩ ?_
    rintro W4 ⟨z0, b4, p4, ch4⟩
    clear y0 yf y0' B4 c4 hwr
    first | refine wp_anyH (put_r7 z0 ?_) | (go_step; (first | refine wp_anyH (put_r7 z0 ?_) | (go_step; (first | refine wp_anyH (put_r7 z0 ?_) | (go_step; (first | refine wp_anyH (put_r7 z0 ?_) | (go_step; (first | refine wp_anyH (put_r7 z0 ?_) | (go_step; (first | refine wp_anyH (put_r7 z0 ?_) | (go_step; (first | refine wp_anyH (put_r7 z0 ?_) | (go_step; (first | refine wp_anyH (put_r7 z0 ?_) | (go_step; (first | refine wp_anyH (put_r7 z0 ?_) | (go_step; (first | refine wp_anyH (put_r7 z0 ?_) | (go_step; refine wp_anyH (put_r7 z0 ?_))))))))))))))))))))
    intros
    dsimp only [Exit.inBlock, Exit.then]
    obtain ⟨a5, ha5⟩ : ∃ a5, W4.heap.size = a5 := ⟨_, rfl⟩
    rw [ha5]
    have hsz : w.heap.size + 4 ≤ a5 := by have := (Array.getElem?_eq_some_iff.1 p4.b3).1; omega
    refine genK (R := fun W => PuS w W B p g len c M C (modS sl1 ((k : Int) + 1) (fun x => { x with g := G })) ((k : Int) + 1) en cl n a5 rs rg rd ws wg vn vs vg ((k : Int) + 1) G wv) ⟨b4.below (below1 _ _), p4.ch (Ch.alloc (Q := fun _ => False) _ _) (fun _ h => h.elim), by rw [← ha5]; exact heap_new _ _, HLO.out, ch4.trans (Ch.alloc (Q := fun _ => False) _ _) (fun _ _ h => h.elim), HO.out, hsz⟩ ?_
    rintro W5 p5
    clear z0 b4 p4 ch4 ha5 hsz
    have P5 := hide p5
    clear p5
    obtain ⟨t0, t1, t2, t3, t4, t5, t6, t7, t8, t9⟩ := P5.out.pb.cells
    have t10 : W5.cell? ⟨a5, 0, none⟩ = some (.int .u32 ((k : Int) + 1)) := by simp [Lib.cell_of_heap P5.out.n5]
    have t11 : W5.cell? ⟨a5, 1, none⟩ = some (.int .u32 G) := by simp [Lib.cell_of_heap P5.out.n5]
    have hth := P5.out.bk.there (i := k) (by rw [modS_len]; exact HL1.out.2) hk 1 11 (by omega)
    first | refine wp_anyH (put_r8 (r := ⟨(k : Int) + 1, G, ws, wg, rs, rg, rd, ar, vn, vs, vg⟩) t0 t1 t2 t3 t4 t5 t6 t7 t10 t11 hth ?_) | (go_step; (first | refine wp_anyH (put_r8 (r := ⟨(k : Int) + 1, G, ws, wg, rs, rg, rd, ar, vn, vs, vg⟩) t0 t1 t2 t3 t4 t5 t6 t7 t10 t11 hth ?_) | (go_step; (first | refine wp_anyH (put_r8 (r := ⟨(k : Int) + 1, G, ws, wg, rs, rg, rd, ar, vn, vs, vg⟩) t0 t1 t2 t3 t4 t5 t6 t7 t10 t11 hth ?_) | (go_step; (first | refine wp_anyH (put_r8 (r := ⟨(k : Int) + 1, G, ws, wg, rs, rg, rd, ar, vn, vs, vg⟩) t0 t1 t2 t3 t4 t5 t6 t7 t10 t11 hth ?_) | (go_step; (first | refine wp_anyH (put_r8 (r := ⟨(k : Int) + 1, G, ws, wg, rs, rg, rd, ar, vn, vs, vg⟩) t0 t1 t2 t3 t4 t5 t6 t7 t10 t11 hth ?_) | (go_step; (first | refine wp_anyH (put_r8 (r := ⟨(k : Int) + 1, G, ws, wg, rs, rg, rd, ar, vn, vs, vg⟩) t0 t1 t2 t3 t4 t5 t6 t7 t10 t11 hth ?_) | (go_step; (first | refine wp_anyH (put_r8 (r := ⟨(k : Int) + 1, G, ws, wg, rs, rg, rd, ar, vn, vs, vg⟩) t0 t1 t2 t3 t4 t5 t6 t7 t10 t11 hth ?_) | (go_step; (first | refine wp_anyH (put_r8 (r := ⟨(k : Int) + 1, G, ws, wg, rs, rg, rd, ar, vn, vs, vg⟩) t0 t1 t2 t3 t4 t5 t6 t7 t10 t11 hth ?_) | (go_step; (first | refine wp_anyH (put_r8 (r := ⟨(k : Int) + 1, G, ws, wg, rs, rg, rd, ar, vn, vs, vg⟩) t0 t1 t2 t3 t4 t5 t6 t7 t10 t11 hth ?_) | (go_step; (first | refine wp_anyH (put_r8 (r := ⟨(k : Int) + 1, G, ws, wg, rs, rg, rd, ar, vn, vs, vg⟩) t0 t1 t2 t3 t4 t5 t6 t7 t10 t11 hth ?_) | (go_step; refine wp_anyH (put_r8 (r := ⟨(k : Int) + 1, G, ws, wg, rs, rg, rd, ar, vn, vs, vg⟩) t0 t1 t2 t3 t4 t5 t6 t7 t10 t11 hth ?_))))))))))))))))))))
    intros
    dsimp only [Exit.inBlock, Exit.then]
    obtain ⟨sl2, hsl2⟩ : ∃ x, modS (modS sl1 ((k : Int) + 1) (fun x => { x with g := G })) ((k : Int) + 1) (fun x => { x with r := ⟨(k : Int) + 1, G, ws, wg, rs, rg, rd, ar, vn, vs, vg⟩ }) = x := ⟨_, rfl⟩
    have B6 := Bk.many hk (layO ⟨(k : Int) + 1, G, ws, wg, rs, rg, rd, ar, vn, vs, vg⟩) W5 _ (lay_good _) P5.out.bk (by rw [modS_len]; exact HL1.out.2)
    have B6 : Bk (wrs W5 g k (layO ⟨(k : Int) + 1, G, ws, wg, rs, rg, rd, ar, vn, vs, vg⟩)) B p (.slice (some ⟨g, 0, none⟩) len c) M C sl2 ((k : Int) + 1) en cl n := by rw [← hsl2]; exact B6
    have c6 := wrs_ch (fun y => y = g) rfl k (layO ⟨(k : Int) + 1, G, ws, wg, rs, rg, rd, ar, vn, vs, vg⟩) W5
    have c6' : Ch (fun y => y = M ∨ (Value.slice (some ⟨g, 0, none⟩) len c).ownBlock = some y) W5 (wrs W5 g k (layO ⟨(k : Int) + 1, G, ws, wg, rs, rg, rd, ar, vn, vs, vg⟩)) := c6.mono (fun y _ (e : y = g) => Or.inr (by rw [e]; rfl))
    refine genK (R := fun W => PuS w W B p g len c M C sl2 ((k : Int) + 1) en cl n a5 rs rg rd ws wg vn vs vg ((k : Int) + 1) G wv) (P5.out.book B6 c6') ?_
    rintro W8 p8
    have P8 := hide p8
    have HSL2 := hide hsl2
    have HNS := hide (show (if (cl (ws, wg, ar)).isSome then n else n + 1) = n + 1 by
      rw [HI.out.twice]
      have h0 := HKP.out.2.2.2.2
      unfold ecW at h0
      by_cases q1 : ws = 0 ∧ wg = 0
      · rw [if_pos q1] at h0; omega
      · rw [if_neg q1] at h0
        by_cases q2 : rd < 1 ∨ 4 < rd
        · rw [if_pos q2] at h0; omega
        · rw [if_neg q2] at h0
          cases q3 : twW l ws wg ar with
          | true => rw [q3] at h0; simp at h0
          | false => rfl)
    clear p8 hsl2 B6 c6 c6' t0 t1 t2 t3 t4 t5 t6 t7 t8 t9 t10 t11 hth P5
    go_wp2_with fail
    refine wp_reg (fun y => y = C) (R := fun W => PuS w W B p g len c M C sl2 ((k : Int) + 1) en cl n a5 rs rg rd ws wg vn vs vg ((k : Int) + 1) G wv) (by kernel_rfl) (P8.out.quiet (Ch.drew _)) ?_
    rintro V v zk
    have PV := hide v
    clear v
    have HG := hide (fun wq (zq : Ch (fun y => y = C) V wq) => show wq.cell? ⟨p, 3, none⟩ = some (.map (some C)) ∧ wq.cell? ⟨w.heap.size + 1, 0, none⟩ = some (.int .u32 ws) ∧ wq.cell? ⟨w.heap.size + 1, 1, none⟩ = some (.int .u32 wg) from by
      have k1 := Lib.cell_of_heap (zq.box PV.out.bk.box PV.out.bk.apart.2.1)
      have k2 := Lib.cell_of_heap (zq.box PV.out.pb.b1 (PV.out.bk.cm.ne_cells PV.out.pb.b1))
      exact ⟨by simp [k1], by simp [k2], by simp [k2]⟩)
    apply tk 0 pm0 rfl (by kernel_rfl) (fun _ _ _ h => h) zk
    · intro wq zq
      go_simp
      try rfl
    go_frame
    apply tk 1 pm1 rfl (by kernel_rfl) (fun _ _ _ h => h) zk
    · intro wq zq
      go_simp
      try rfl
    go_frame
    apply tk 2 pm2 rfl (by kernel_rfl) (fun _ _ _ h => h) zk
    · intro wq zq
      go_simp
      try rfl
    go_frame
    apply tk 3 pm3 rfl (by kernel_rfl) (fun _ _ _ h => h) zk
    · intro wq zq
      obtain ⟨s1, s2, s3⟩ := HG.out _ zq
      go_simp
      try rfl
    go_frame
    apply tk 4 pm4 rfl (by kernel_rfl) (fun _ _ _ h => h) zk
    · intro wq zq
      obtain ⟨s1, s2, s3⟩ := HG.out _ zq
      go_simp
      try rfl
    go_frame
    apply tk 5 pm5 rfl (by kernel_rfl) (fun _ _ _ h => h) zk
    · intro wq zq
      go_simp
      try rfl
    go_frame
    apply tk 6 pm6 rfl (by kernel_rfl) (fun _ _ _ h => h) zk
    · intro wq zq
      go_simp
      try rfl
    go_frame
    apply tk 7 pm7 rfl (by kernel_rfl) (fun _ _ _ h => h) zk
    · intro wq zq
      go_simp
      try rfl
    go_frame
    refine Go.Proofs.Ytoabhmpakcgloaa.rd 8 pm8 rfl (by kernel_rfl) fun K hK => ?_
    refine step_putC (x := (ws, wg, ar)) (s := (k : Int) + 1) rfl (.tmp 57) (.tmp 60) (.tmp 61) rfl rfl PV.out.bk.cm rfl rfl (fun W9 m9 c9 => ?_)
    have P9 := hide (show PuS w W9 B p g len c M C sl2 ((k : Int) + 1) en (updW cl (ws, wg, ar) (some ((k : Int) + 1))) (n + 1) a5 rs rg rd ws wg vn vs vg ((k : Int) + 1) G wv from by
      rw [HNS.out] at m9
      exact ⟨PV.out.bk.claims m9 c9, PV.out.pb.ch c9 (fun y (e : y = C) => PV.out.lo y (Or.inr (Or.inr (Or.inl e)))), c9.box PV.out.n5 (PV.out.bk.cm.ne_cells PV.out.n5), PV.out.lo, PV.out.ch.trans c9 (fun y _ (e : y = C) => Or.inr (Or.inr (Or.inl e))), PV.out.ow, PV.out.l5⟩)
    refine hK.out _ _ c9 (fun zk => ?_)
    clear hK K m9 c9
    try go_frame
    refine wpAnyH_done (by kernel_rfl) ?_ _
    clear HG PV
    have hlen2 : sl2.length = len := by rw [← HSL2.out, modS_len, modS_len]; exact HL1.out.2
    have hr2 : ∃ hk2 : k < sl2.length, sl2[k].r = ⟨(k : Int) + 1, G, ws, wg, rs, rg, rd, ar, vn, vs, vg⟩ := by
      refine ⟨by rw [hlen2]; exact hk, ?_⟩
      simp only [← HSL2.out]
      unfold modS
      simp only [List.getElem_modify, show ((k : Int) + 1 - 1).toNat = k by omega, if_true]
    obtain ⟨hk2, hr2⟩ := hr2
    have hcell := fun j u hu => ((show Bk W9 B p (.slice (some ⟨g, 0, none⟩) sl2.length c) M C sl2 ((k : Int) + 1) en _ _ from by rw [hlen2]; exact P9.out.bk).cell hk2 (i := k) (j := j) (u := u) hu rfl).1
    have y0 : W9.cell? ⟨g, k * 18 + 1, none⟩ = some (.int .u32 ((k : Int) + 1)) := hcell 1 _ (by unfold slF rcF; rw [hr2]; rfl)
    have y1 : W9.cell? ⟨g, k * 18 + 2, none⟩ = some (.int .u32 G) := hcell 2 _ (by unfold slF rcF; rw [hr2]; rfl)
    have y2 : W9.cell? ⟨g, k * 18 + 3, none⟩ = some (.int .u32 ws) := hcell 3 _ (by unfold slF rcF; rw [hr2]; rfl)
    have y3 : W9.cell? ⟨g, k * 18 + 4, none⟩ = some (.int .u32 wg) := hcell 4 _ (by unfold slF rcF; rw [hr2]; rfl)
    have y4 : W9.cell? ⟨g, k * 18 + 5, none⟩ = some (.int .u32 rs) := hcell 5 _ (by unfold slF rcF; rw [hr2]; rfl)
    have y5 : W9.cell? ⟨g, k * 18 + 6, none⟩ = some (.int .u32 rg) := hcell 6 _ (by unfold slF rcF; rw [hr2]; rfl)
    have y6 : W9.cell? ⟨g, k * 18 + 7, none⟩ = some (.int .i64 rd) := hcell 7 _ (by unfold slF rcF; rw [hr2]; rfl)
    have y7 : W9.cell? ⟨g, k * 18 + 8, none⟩ = some (.int .i64 ar) := hcell 8 _ (by unfold slF rcF; rw [hr2]; rfl)
    have y8 : W9.cell? ⟨g, k * 18 + 9, none⟩ = some (.int .i64 vn) := hcell 9 _ (by unfold slF rcF; rw [hr2]; rfl)
    have y9 : W9.cell? ⟨g, k * 18 + 10, none⟩ = some (.int .u32 vs) := hcell 10 _ (by unfold slF rcF; rw [hr2]; rfl)
    have y10 : W9.cell? ⟨g, k * 18 + 11, none⟩ = some (.int .u32 vg) := hcell 11 _ (by unfold slF rcF; rw [hr2]; rfl)
    obtain ⟨r, hr⟩ : ∃ r : Rc, r = ⟨(k : Int) + 1, G, ws, wg, rs, rg, rd, ar, vn, vs, vg⟩ := ⟨_, rfl⟩
    have L0 : LInv en (lkS sl2) (mbW l) := HI.out.lines.congr fun x s hx => by
      have hs := HI.out.bnd x s hx
      rw [← HSL2.out, lkS_keep (f := fun x : Sl => { x with r := ⟨(k : Int) + 1, G, ws, wg, rs, rg, rd, ar, vn, vs, vg⟩ }) _ _ (fun _ => rfl), lkS_keep (f := fun x : Sl => { x with g := G }) _ _ (fun _ => rfl)]
      rcases HL1.out.1 with e | ⟨_, e⟩
      · rw [e]
      · rw [e]
        exact lkS_app _ _ hs.1 hs.2
    have HJ := hide (show ∃ en3 sl3, PuS w W9 B p g len c M C sl3 ((k : Int) + 1) en3 (updW cl (ws, wg, ar) (some ((k : Int) + 1))) (n + 1) a5 rs rg rd ws wg vn vs vg ((k : Int) + 1) G wv ∧ LInv en3 (lkS sl3) (putM (mbW l) r ((k : Int) + 1) 0) ∧ sl3.map Sl.gr = sl2.map Sl.gr from ⟨en, sl2, P9.out, L0, rfl⟩)
    have hnot : ∀ x, ((k : Int) + 1) ∉ mbW l x := fun x hx => by
      obtain ⟨t, h1, h2, h3⟩ := mbW_mem.1 hx
      have := usdW_mem.2 ⟨t, h1, stW_live h2, h3⟩
      rw [HKP.out.2.2.1] at this
      cases this
    have HNOT := hide hnot
    have HBD := hide (show ∀ x, ∀ t ∈ mbW l x, t ≤ len from fun x t ht => by
      have h1 := (HI.out.bnd x t ht).2
      have h2 := HL1.out.2
      rcases HL1.out.1 with e | ⟨_, e⟩
      · rw [e] at h2; omega
      · rw [e, List.length_append] at h2; simp at h2; omega)
    have HR := hide hr
    have H2 := hide (And.intro hlen2 hr2)
    clear hcell hnot L0 hlen2 hr2
    go_wp2_with fail
    refine (lines_is W9 ⟨(k : Int) + 1, G, ws, wg, rs, rg, rd, ar, vn, vs, vg⟩).mono ?_
    rintro e W10 ⟨rfl, hb10⟩
    unfold lnsV
    rw [← hr]
    have HJ10 := hide (show ∃ en3 sl3, PuS w W10 B p g len c M C sl3 ((k : Int) + 1) en3 (updW cl (ws, wg, ar) (some ((k : Int) + 1))) (n + 1) a5 rs rg rd ws wg vn vs vg ((k : Int) + 1) G wv ∧ LInv en3 (lkS sl3) (putM (mbW l) r ((k : Int) + 1) 0) ∧ sl3.map Sl.gr = sl2.map Sl.gr by
      obtain ⟨en3, sl3, q1, q2, q3⟩ := HJ.out
      exact ⟨en3, sl3, q1.quiet (Ch.of_below hb10), q2, q3⟩)
    clear hb10 HJ hr y0 y1 y2 y3 y4 y5 y6 y7 y8 y9 y10
    go_wp2_with fail
    go_loopw [67] (fun iv wr => ∃ j : Nat, j ≤ 3 ∧ iv = .int .i64 (j : Int) ∧ Hid (∃ en3 sl3, PuS w wr B p g len c M C sl3 ((k : Int) + 1) en3 (updW cl (ws, wg, ar) (some ((k : Int) + 1))) (n + 1) a5 rs rg rd ws wg vn vs vg ((k : Int) + 1) G wv ∧ LInv en3 (lkS sl3) (putM (mbW l) r ((k : Int) + 1) j) ∧ sl3.map Sl.gr = sl2.map Sl.gr)) (fun iv _ => 3 - (intOf iv).toNat)
    case atStart => exact ⟨0, by omega, rfl, HJ10⟩
    case round =>
      obtain ⟨j, hj, rfl, HJJ⟩ := hrel
      obtain ⟨W11, rfl⟩ : ∃ x, x = wr := ⟨_, rfl⟩
      obtain ⟨en3, sl3, p3, l3, g3⟩ := HJJ.out
      have hl3 : sl3.length = len := (gr_same g3).1.trans H2.out.1
      have T3 := hide (And.intro p3 (And.intro l3 (And.intro g3 hl3)))
      clear p3 l3 g3 hl3 HJJ
      have hj4 : j = 0 ∨ j = 1 ∨ j = 2 ∨ j = 3 := by omega
      rcases hj4 with rfl | rfl | rfl | rfl
      · have ix := idx0 r W11
        go_wp2_with fail
        clear ix
        refine (join_L (T3.out.1.bk.below (below1 _ _)) (by rw [T3.out.2.2.2]; exact hl1) T3.out.2.1 (by rw [T3.out.2.2.2]; exact putM_bd r (by omega) (by omega) HBD.out) (lnOf 0 r) (by rw [lnOf_k _ (by omega)]; omega) (by rw [T3.out.2.2.2]; exact hk) (putM_ok r _ (by omega) HNOT.out)).mono ?_
        rintro e W12 ⟨rfl, sl4, en4, b4, l4, g4, c4⟩
        have T4 := hide (show ∃ en3 sl3, PuS w W12 B p g len c M C sl3 ((k : Int) + 1) en3 (updW cl (ws, wg, ar) (some ((k : Int) + 1))) (n + 1) a5 rs rg rd ws wg vn vs vg ((k : Int) + 1) G wv ∧ LInv en3 (lkS sl3) (putM (mbW l) r ((k : Int) + 1) 1) ∧ sl3.map Sl.gr = sl2.map Sl.gr from ⟨en4, sl4, (T3.out.1.quiet (Ch.alloc _ _)).book b4 c4, l4, g4.trans T3.out.2.2.1⟩)
        clear b4 l4 g4 c4
        go_wp2_with fail
        go_roundw
        case rel => exact ⟨1, by omega, by go_num, T4⟩
        case measure => simp [intOf]
      · have ix := idx1 r W11
        go_wp2_with fail
        clear ix
        refine (join_L (T3.out.1.bk.below (below1 _ _)) (by rw [T3.out.2.2.2]; exact hl1) T3.out.2.1 (by rw [T3.out.2.2.2]; exact putM_bd r (by omega) (by omega) HBD.out) (lnOf 1 r) (by rw [lnOf_k _ (by omega)]; omega) (by rw [T3.out.2.2.2]; exact hk) (putM_ok r _ (by omega) HNOT.out)).mono ?_
        rintro e W12 ⟨rfl, sl4, en4, b4, l4, g4, c4⟩
        have T4 := hide (show ∃ en3 sl3, PuS w W12 B p g len c M C sl3 ((k : Int) + 1) en3 (updW cl (ws, wg, ar) (some ((k : Int) + 1))) (n + 1) a5 rs rg rd ws wg vn vs vg ((k : Int) + 1) G wv ∧ LInv en3 (lkS sl3) (putM (mbW l) r ((k : Int) + 1) 2) ∧ sl3.map Sl.gr = sl2.map Sl.gr from ⟨en4, sl4, (T3.out.1.quiet (Ch.alloc _ _)).book b4 c4, l4, g4.trans T3.out.2.2.1⟩)
        clear b4 l4 g4 c4
        go_wp2_with fail
        go_roundw
        case rel => exact ⟨2, by omega, by go_num, T4⟩
        case measure => simp [intOf]
      · have ix := idx2 r W11
        go_wp2_with fail
        clear ix
        refine (join_L (T3.out.1.bk.below (below1 _ _)) (by rw [T3.out.2.2.2]; exact hl1) T3.out.2.1 (by rw [T3.out.2.2.2]; exact putM_bd r (by omega) (by omega) HBD.out) (lnOf 2 r) (by rw [lnOf_k _ (by omega)]; omega) (by rw [T3.out.2.2.2]; exact hk) (putM_ok r _ (by omega) HNOT.out)).mono ?_
        rintro e W12 ⟨rfl, sl4, en4, b4, l4, g4, c4⟩
        have T4 := hide (show ∃ en3 sl3, PuS w W12 B p g len c M C sl3 ((k : Int) + 1) en3 (updW cl (ws, wg, ar) (some ((k : Int) + 1))) (n + 1) a5 rs rg rd ws wg vn vs vg ((k : Int) + 1) G wv ∧ LInv en3 (lkS sl3) (putM (mbW l) r ((k : Int) + 1) 3) ∧ sl3.map Sl.gr = sl2.map Sl.gr from ⟨en4, sl4, (T3.out.1.quiet (Ch.alloc _ _)).book b4 c4, l4, g4.trans T3.out.2.2.1⟩)
        clear b4 l4 g4 c4
        go_wp2_with fail
        go_roundw
        case rel => exact ⟨3, by omega, by go_num, T4⟩
        case measure => simp [intOf]
      · have x5 := Lib.cell_of_heap T3.out.1.n5
        have x6 := Lib.cell_of_heap T3.out.1.pb.b3
        have x7 := frz T3.out.1.pb.b3
        have ne : w.heap.size + 3 ≠ a5 := by have := T3.out.1.l5; omega
        go_wp2_with fail
        have hec0 := HKP.out.2.2.2.2
        have hsw : (slW l : Int) = (k : Int) + 1 := by rw [HKP.out.1]; rfl
        have hGG : (genW l (slW l : Int) : Int) + 1 = G := by rw [hsw, ← HGG.out.2.1]; exact HGG.out.2.2
        have hput : putW l rs rg rd ws wg ar vn vs vg = l ++ [⟨r, false⟩] := by
          unfold putW
          rw [if_pos hec0, hGG, hsw, HR.out]
        have hrm : r.ms = (k : Int) + 1 := by rw [HR.out]
        have cz : Ch (fun y => y = w.heap.size + 3) W11 ((W11.setCell ⟨w.heap.size + 3, 0, none⟩ (.int .u32 ((k : Int) + 1))).setCell ⟨w.heap.size + 3, 1, none⟩ (.int .u32 G)) := (Ch.set (Q := fun y => y = w.heap.size + 3) W11 rfl 0 _).trans (Ch.set (Q := fun y => y = w.heap.size + 3) _ rfl 1 _) (fun _ _ h => h)
        refine bodyPost_ret (v := .tuple #[hvW ((k : Int) + 1) G, .int .i64 0]) (resPutH _ (w.heap.size + 3) _ ((k : Int) + 1) G 0 rfl rfl (by simp [go_sem, x6]) (by simp [go_sem, x6])) rfl ⟨?_, _, sl3, (k : Int) + 1, en3, _, n + 1, T3.out.1.bk.ch cz (fun y hy (e : y = w.heap.size + 3) => by have := T3.out.1.lo y hy; omega), ?_, ?_, T3.out.1.ch.trans cz (fun y hy (e : y = w.heap.size + 3) => by omega), fun x hx => ?_⟩
        · unfold psW pgW
          rw [if_pos hec0, if_pos hec0, hsw, hec0, ← hsw, hGG]
        · rw [hput]
          have hLL := T3.out.2.1
          have e3 := put_mb (l := l) (t := ⟨r, false⟩) rfl
          have e3 : putM (mbW l) r ((k : Int) + 1) 3 = mbW (l ++ [⟨r, false⟩]) := by rw [← hrm]; exact e3
          rw [e3] at hLL
          have hgr := gr_wipe (sl := sl1) (sl' := sl1) (i := k) rfl hkl (fun x => { x with g := G, r := r }) (G, r) (fun z _ => rfl)
          have hsl2 : sl2 = modS sl1 ((k : Int) + 1) (fun x => { x with g := G, r := r }) := by
            rw [← HSL2.out, modS_mod, HR.out]
          have hcl : clT ⟨r, false⟩ = (ws, wg, ar) := by rw [HR.out]; rfl
          have hfin := HI.out.put (t := ⟨r, false⟩) (sl' := sl3) (en' := en3) (g := G) rfl hrm HKP.out.2.2.1 (fun s h1 h2 => by
            have := HKP.out.2.1 (s - 1).toNat (by omega)
            rwa [show (((s - 1).toNat : Nat) : Int) + 1 = s by omega] at this) (fun u hu ho => by
            rw [hcl]
            intro e
            have htw : twW l ws wg ar = true := by
              unfold twW
              rw [List.any_eq_true]
              unfold clT at e
              simp only [Prod.mk.injEq] at e
              exact ⟨u, hu, by simp [isWho, ho, e.1, e.2.1, e.2.2]⟩
            unfold ecW at hec0
            by_cases q1 : ws = 0 ∧ wg = 0
            · rw [if_pos q1] at hec0; omega
            · rw [if_neg q1] at hec0
              by_cases q2 : rd < 1 ∨ 4 < rd
              · rw [if_pos q2] at hec0; omega
              · rw [if_neg q2, htw] at hec0
                simp at hec0) hLL HL1.out.1 hkl (by rw [← HGG.out.2.1]; exact HGG.out.2.2.symm) (by rw [T3.out.2.2.1, hsl2]; exact hgr)
          rw [hcl] at hfin
          exact hfin
        · rw [hput, T3.out.2.2.2, List.length_append]
          have h2 := HL1.out.2
          rcases HL1.out.1 with e | ⟨_, e⟩
          · rw [e] at h2; simp; omega
          · rw [e, List.length_append] at h2; simp at h2 ⊢; omega
        · have eg : g = x := Option.some.inj hx
          subst eg
          by_cases hg : g < w.heap.size
          · exact Or.inl (T3.out.1.ow hg)
          · exact Or.inr (by omega)
  · have HEC := hide he
    obtain ⟨q, hq⟩ : ∃ q, ecW l ws wg rd ar = q := ⟨_, rfl⟩
    have hq0 : (q == 0) = false := by rw [← hq]; simpa using he
    rw [hq]
    have x6 := Lib.cell_of_heap P2.out.b3
    have x7 := frz P2.out.b3
    have HQ := hide hq
    clear he hec hq
    go_wp2_with fail
    have cz : Ch (fun y => y = w.heap.size + 3) W2 ((W2.setCell ⟨w.heap.size + 3, 0, none⟩ (.int .u32 0)).setCell ⟨w.heap.size + 3, 1, none⟩ (.int .u32 0)) := (Ch.set (Q := fun y => y = w.heap.size + 3) W2 rfl 0 _).trans (Ch.set (Q := fun y => y = w.heap.size + 3) _ rfl 1 _) (fun _ _ h => h)
    refine bodyPost_ret (v := .tuple #[hvW 0 0, .int .i64 q]) (resPutH _ (w.heap.size + 3) _ 0 0 q rfl rfl (by simp [go_sem, x6]) (by simp [go_sem, x6])) rfl ⟨?_, wv, sl, full, en, cl, n, BW.out.ch cz (fun y hy (e : y = w.heap.size + 3) => by have := HF.out y hy; omega), ?_, ?_, ((Ch.of_below HB.out).trans C2.out (fun _ _ h => h.elim)).trans cz (fun y hy (e : y = w.heap.size + 3) => by omega), fun x hx => Or.inl hx⟩
    · unfold psW pgW
      rw [if_neg HEC.out, if_neg HEC.out, HQ.out]
    · unfold putW
      rw [if_neg HEC.out]
      exact HI.out
    · unfold putW
      rw [if_neg HEC.out]
      exact hsl

end Go.Proofs.Ytoabhmpakcgloaa
