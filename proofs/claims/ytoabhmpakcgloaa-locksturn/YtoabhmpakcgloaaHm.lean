/- Layer 11: the landed book: takeOut. -/
import Derived.Test.YtoabhmpakcgloaaHj
import Derived.Test.YtoabhmpakcgloaaHo
namespace Go.Proofs.Ytoabhmpakcgloaa
open Go.RowKit

abbrev clR (r : Rc) : Int × Int × Int := (r.ws, r.wg, r.ar)
/-- one is taken out of the map of claims, as a step of a region that draws; one is put in; one is looked for -/
theorem step_delC {ops : Array Oper} {o : Oper} {a : Act} {w : World} {C n : Nat} {cl : Int × Int × Int → Option Int} {x : Int × Int × Int} {K : Act → World → Prop} {Q : Exit → Act → World → Prop} {Z : Prop} (hg : o.guard = none) (m y : Operand) (hop : o.op = Op.call { callee := Callee.builtin Builtin.delete, args := #[m, y], argTypes := #[75, 130] })
    (hm : a.eval m = .map (some C)) (hM : ClMap w C cl n) (hy : a.eval y = clV x)
    (hK : ∀ w', ClMap w' C (updW cl x none) (if (cl x).isSome then n - 1 else n) → Ch (fun y => y = C) w w' → K (a.put o.dst (.tuple #[])) w') : if Region.wanted o (yielded ops a.tmps) = true then Oper.wp Try.prog o a w K Q else Z := by
  have hw : Region.wanted o (yielded ops a.tmps) = true := by simp [Region.wanted, hg]
  rw [if_pos hw]
  obtain ⟨w', h1, h2, h3⟩ := hM.del (x := x) (ty := o.type) (ktC w) Try.underlying75
  unfold Oper.wp
  simp [execOp, hop, resolve, invoke, builtin, hm, hy, h1, Result.andThen]
  have : (fun z => (updW cl x none z).map (fun s => Value.int .u32 s)) = updW (fun z => (cl z).map (fun s => Value.int .u32 s)) x none := by
    funext z
    unfold updW
    split <;> rfl
  rw [← this, Option.isSome_map] at h2
  exact hK w' h2 h3
theorem step_putC {ops : Array Oper} {o : Oper} {a : Act} {w : World} {C n : Nat} {cl : Int × Int × Int → Option Int} {x : Int × Int × Int} {s : Int} {K : Act → World → Prop} {Q : Exit → Act → World → Prop} {Z : Prop} (hg : o.guard = none) (m y u : Operand) (hop : o.op = Op.mapUpdate 75 m y u)
    (hm : a.eval m = .map (some C)) (hM : ClMap w C cl n) (hy : a.eval y = clV x) (hu : a.eval u = .int .u32 s)
    (hK : ∀ w', ClMap w' C (updW cl x (some s)) (if (cl x).isSome then n else n + 1) → Ch (fun y => y = C) w w' → K (a.put o.dst undef) w') : if Region.wanted o (yielded ops a.tmps) = true then Oper.wp Try.prog o a w K Q else Z := by
  have hw : Region.wanted o (yielded ops a.tmps) = true := by simp [Region.wanted, hg]
  rw [if_pos hw]
  obtain ⟨w', h1, h2, h3⟩ := hM.put (x := x) (ktC w) Try.underlying75 (.int .u32 s)
  unfold Oper.wp
  simp [execOp, hop, hm, hy, hu, h1, Result.andThen]
  have : (fun z => (updW cl x (some s) z).map (fun s => Value.int .u32 s)) = updW (fun z => (cl z).map (fun s => Value.int .u32 s)) x (some (.int .u32 s)) := by
    funext z
    unfold updW
    split <;> rfl
  rw [← this, Option.isSome_map] at h2
  exact hK w' h2 h3
theorem val_lookC {o : Oper} {a : Act} {w : World} {C n : Nat} {cl : Int × Int × Int → Option Int} {x : Int × Int × Int} (m y : Operand) (hop : o.op = Op.lookup 75 m y true) (hm : a.eval m = .map (some C)) (hy : a.eval y = clV x) (h : ClMap w C cl n) : (execOp a.eval o).run Try.prog w = .ok (.value (.tuple #[.int .u32 ((cl x).getD 0), .bool (cl x).isSome])) w := by
  have hrun := h.look2 (x := x) (ktC w) Try.underlying75 (zeroU w)
  rw [Option.isSome_map, show ((cl x).map (fun s => Value.int .u32 s)).getD (.int .u32 0) = .int .u32 ((cl x).getD 0) by cases cl x <;> rfl] at hrun
  simp [execOp, hop, hm, hy, hrun, Result.andThen]

/-- what is taken out on the way -/
structure TS (w W : World) (B p g c M C : Nat) (sl : List Sl) (full : Int) (cl : Int × Int × Int → Option Int) (n : Nat) (Mb : Ln → List Int) (r : Rc) (s : Int) (k : Nat) (en' : Ln → Option (Int × Int)) (sl' : List Sl) : Prop where
  bk : Bk W B p (.slice (some ⟨g, 0, none⟩) sl.length c) M C sl' full en' cl n
  li : LInv en' (lkS sl') (cutM Mb r s k)
  gr : sl'.map Sl.gr = sl.map Sl.gr
  ch : Ch (bkF p M C (.slice (some ⟨g, 0, none⟩) sl.length c)) w W

section
variable {w W W' : World} {B p g c M C n k i : Nat} {sl sl' : List Sl} {full : Int} {cl : Int × Int × Int → Option Int} {Mb : Ln → List Int} {r : Rc} {s : Int} {en' : Ln → Option (Int × Int)}
theorem TS.quiet (h : TS w W B p g c M C sl full cl n Mb r s k en' sl') (hc : Ch (fun _ => False) W W') : TS w W' B p g c M C sl full cl n Mb r s k en' sl' :=
  ⟨h.bk.ch hc (fun _ _ h => h), h.li, h.gr, h.ch.trans hc (fun _ _ h => h.elim)⟩
theorem TS.len (h : TS w W B p g c M C sl full cl n Mb r s k en' sl') : sl'.length = sl.length := (gr_same h.gr).1
/-- the slot's cells -/
theorem TS.cells (h : TS w W B p g c M C sl full cl n Mb r s k en' sl') (hi : i < sl.length) (j : Nat) (u : Value) (hj : j < 12) (hu : (slF sl[i])[j]? = some u) : W.cell? ⟨g, i * 18 + j, none⟩ = some u := by
  obtain ⟨e1, e2⟩ := gr_same h.gr
  obtain ⟨e3, e4⟩ := e2 i hi (by rw [e1]; exact hi)
  have b := h.bk
  rw [← e1] at b
  refine (b.cell (i := i) (j := j) (by rw [e1]; exact hi) ?_ rfl).1
  rw [← hu]
  unfold slF
  rw [e3, e4]
  match j, hj with
  | 0, _ => rfl
  | j + 1, hj =>
    rw [List.getElem?_cons_succ, List.getElem?_cons_succ, List.getElem?_append_left (by rw [rcF_len]; omega), List.getElem?_append_left (by rw [rcF_len]; omega)]
theorem TS.all (h : TS w W B p g c M C sl full cl n Mb r s k en' sl') (hi : i < sl.length) : ∃ z : Sl, z.g = sl[i].g ∧ z.r = sl[i].r ∧ (∀ j u, (slF z)[j]? = some u → W.cell? ⟨g, i * 18 + j, none⟩ = some u) ∧ ∀ o, W.frozen? ⟨g, o, none⟩ = false := by
  obtain ⟨e1, e2⟩ := gr_same h.gr
  obtain ⟨e3, e4⟩ := e2 i hi (by rw [e1]; exact hi)
  have b := h.bk
  rw [← e1] at b
  obtain ⟨g', c', cur, e, -, -, -, k5, -, k7⟩ := b.at (by omega)
  cases e
  exact ⟨sl'[i]'(by rw [e1]; exact hi), e3, e4, fun j u hu => k7 i (by rw [e1]; exact hi) j u hu, fun o => frz k5 o⟩
end

abbrev ta0 : Oper := { dst := some 23, op := Op.move (Operand.tmp 0), type := 24, pos := "waitq.go:228", after := #[], guard := none }
abbrev ta1 : Oper := { dst := some 24, op := Op.nilCheck (Operand.tmp 23), type := 0, pos := "waitq.go:228", after := #[{ on := 0, ground := Ground.data }], guard := none }
abbrev ta2 : Oper := { dst := some 25, op := Op.fieldAddr 78 (Operand.tmp 24) 3, type := 0, pos := "waitq.go:228", after := #[{ on := 1, ground := Ground.data }], guard := none }
abbrev ta3 : Oper := { dst := some 26, op := Op.load 75 (Operand.tmp 25), type := 75, pos := "waitq.go:228", after := #[{ on := 2, ground := Ground.data }], guard := none }
abbrev ta4 : Oper := { dst := some 27, op := Op.move (Operand.tmp 4), type := 125, pos := "waitq.go:228", after := #[], guard := none }
abbrev ta5 : Oper := { dst := some 28, op := Op.nilCheck (Operand.tmp 27), type := 0, pos := "waitq.go:228", after := #[{ on := 4, ground := Ground.data }], guard := none }
abbrev ta6 : Oper := { dst := some 29, op := Op.fieldAddr 124 (Operand.tmp 28) 1, type := 0, pos := "waitq.go:228", after := #[{ on := 5, ground := Ground.data }], guard := none }
abbrev ta7 : Oper := { dst := some 30, op := Op.fieldAddr 114 (Operand.tmp 29) 1, type := 0, pos := "waitq.go:228", after := #[{ on := 6, ground := Ground.data }], guard := none }
abbrev ta8 : Oper := { dst := some 31, op := Op.load 35 (Operand.tmp 30), type := 35, pos := "waitq.go:228", after := #[{ on := 7, ground := Ground.data }], guard := none }
abbrev ta9 : Oper := { dst := some 32, op := Op.move (Operand.tmp 4), type := 125, pos := "waitq.go:228", after := #[], guard := none }
abbrev ta10 : Oper := { dst := some 33, op := Op.nilCheck (Operand.tmp 32), type := 0, pos := "waitq.go:228", after := #[{ on := 9, ground := Ground.data }], guard := none }
abbrev ta11 : Oper := { dst := some 34, op := Op.fieldAddr 124 (Operand.tmp 33) 1, type := 0, pos := "waitq.go:228", after := #[{ on := 10, ground := Ground.data }], guard := none }
abbrev ta12 : Oper := { dst := some 35, op := Op.fieldAddr 114 (Operand.tmp 34) 3, type := 0, pos := "waitq.go:228", after := #[{ on := 11, ground := Ground.data }], guard := none }
abbrev ta13 : Oper := { dst := some 36, op := Op.load 3 (Operand.tmp 35), type := 3, pos := "waitq.go:228", after := #[{ on := 12, ground := Ground.data }], guard := none }
abbrev ta14 : Oper := { dst := some 37, op := Op.build 130 #[(0, Operand.tmp 31), (1, Operand.tmp 36)], type := 130, pos := "waitq.go:228", after := #[{ on := 8, ground := Ground.data }, { on := 13, ground := Ground.data }], guard := none }
abbrev ta15 : Oper := { dst := none, op := Op.call { callee := Callee.builtin Builtin.delete, args := #[Operand.tmp 26, Operand.tmp 37], argTypes := #[75, 130] }, type := 0, pos := "waitq.go:228", after := #[{ on := 3, ground := Ground.data }, { on := 14, ground := Ground.data }], guard := none }

variable {w : World} {B p M C n : Nat} {wv : Value} {sl : List Sl} {full : Int} {en : Ln → Option (Int × Int)} {cl : Int × Int × Int → Option Int} {Mb : Ln → List Int}

theorem cutM_ok (r : Rc) (s : Int) {k : Nat} (hk : k < 3) (hs : s ∈ Mb (lnOf k r)) : s ∈ cutM Mb r s k (lnOf k r) := by
  rw [cutM_le _ _ _ k (by omega), lnOf_k k hk, if_neg (by omega)]
  exact hs
theorem cutM_sub (r : Rc) (s : Int) {k : Nat} (hk : k ≤ 3) {x : Ln} {t : Int} (ht : t ∈ cutM Mb r s k x) : t ∈ Mb x := by
  rw [cutM_le _ _ _ k hk] at ht
  split at ht
  · exact List.mem_of_mem_erase ht
  · exact ht

set_option maxRecDepth 100000 in
set_option maxHeartbeats 16000000 in
theorem take_is (h : Bk w B p wv M C sl full en cl n) (hl : sl.length ≤ 100001) (hL : LInv en (lkS sl) Mb) (hb : ∀ x, ∀ s ∈ Mb x, s ≤ sl.length) {i : Nat} (hi : i < sl.length) {r : Rc} (hr : sl[i].r = r) (hs : ∀ k, k < 3 → ((i : Int) + 1) ∈ Mb (lnOf k r)) (hf : 0 ≤ full ∧ full ≤ 100001) {n' : Nat} (hn' : (if (cl (clR r)).isSome then n - 1 else n) = n') {f' : Int} (hf' : min full (i : Int) = f') :
    Calls Try.prog 49 #[.pointer (some ⟨p, 0, none⟩), .int .u32 ((i : Int) + 1)] w fun e w' => e = .returned (.tuple #[]) ∧ ∃ sl' en', Bk w' B p wv M C (modS sl' ((i : Int) + 1) (fun _ => zSl sl[i].g)) f' en' (updW cl (clR r) none) n' ∧ LInv en' (lkS sl') (cutM Mb r ((i : Int) + 1) 3) ∧ sl'.map Sl.gr = sl.map Sl.gr ∧ Ch (bkF p M C wv) w w' := by
  obtain ⟨g, c, -, rfl, -⟩ := h.at (by omega)
  have c0 := h.cells.1
  have T0 := hide (show TS w w B p g c M C sl full cl n Mb r ((i : Int) + 1) 0 en sl from ⟨h, hL, rfl, Ch.refl _ _⟩)
  have HY := hide (fun j u hj hu => T0.out.cells hi j u hj hu)
  have y1 : w.cell? ⟨g, i * 18 + 1, none⟩ = some (.int .u32 r.ms) := HY.out 1 _ (by decide) (by unfold slF rcF; rw [hr]; rfl)
  have y2 : w.cell? ⟨g, i * 18 + 2, none⟩ = some (.int .u32 r.mg) := HY.out 2 _ (by decide) (by unfold slF rcF; rw [hr]; rfl)
  have y3 : w.cell? ⟨g, i * 18 + 3, none⟩ = some (.int .u32 r.ws) := HY.out 3 _ (by decide) (by unfold slF rcF; rw [hr]; rfl)
  have y4 : w.cell? ⟨g, i * 18 + 4, none⟩ = some (.int .u32 r.wg) := HY.out 4 _ (by decide) (by unfold slF rcF; rw [hr]; rfl)
  have y5 : w.cell? ⟨g, i * 18 + 5, none⟩ = some (.int .u32 r.rs) := HY.out 5 _ (by decide) (by unfold slF rcF; rw [hr]; rfl)
  have y6 : w.cell? ⟨g, i * 18 + 6, none⟩ = some (.int .u32 r.rg) := HY.out 6 _ (by decide) (by unfold slF rcF; rw [hr]; rfl)
  have y7 : w.cell? ⟨g, i * 18 + 7, none⟩ = some (.int .i64 r.rd) := HY.out 7 _ (by decide) (by unfold slF rcF; rw [hr]; rfl)
  have y8 : w.cell? ⟨g, i * 18 + 8, none⟩ = some (.int .i64 r.ar) := HY.out 8 _ (by decide) (by unfold slF rcF; rw [hr]; rfl)
  have y9 : w.cell? ⟨g, i * 18 + 9, none⟩ = some (.int .i64 r.vn) := HY.out 9 _ (by decide) (by unfold slF rcF; rw [hr]; rfl)
  have y10 : w.cell? ⟨g, i * 18 + 10, none⟩ = some (.int .u32 r.vs) := HY.out 10 _ (by decide) (by unfold slF rcF; rw [hr]; rfl)
  have y11 : w.cell? ⟨g, i * 18 + 11, none⟩ = some (.int .u32 r.vg) := HY.out 11 _ (by decide) (by unfold slF rcF; rw [hr]; rfl)
  have HL := hide hL
  have HB := hide hb
  have HS := hide hs
  have HN' := hide hn'
  have HF' := hide hf'
  clear h hL hb hs hn' hf'
  go_enter Try.func49, Try.ntmps49
  go_wp2_with fail
  refine (at_is c0 hi hl).mono ?_
  rintro e W ⟨rfl, rfl⟩
  go_wp2_with fail
  refine (lines_is w r).mono ?_
  rintro e W1 ⟨rfl, hb1⟩
  unfold lnsV
  have T1 := hide (T0.out.quiet (Ch.of_below hb1))
  clear hb1 HY y1 y2 y3 y4 y5 y6 y7 y8 y9 y10 y11 c0
  go_wp2_with fail
  go_loopw [15] (fun iv wr => ∃ k : Nat, k ≤ 3 ∧ iv = .int .i64 (k : Int) ∧ Hid (∃ en' sl', TS w wr B p g c M C sl full cl n Mb r ((i : Int) + 1) k en' sl')) (fun iv _ => 3 - (intOf iv).toNat)
  case atStart => exact ⟨0, by omega, rfl, hide ⟨_, _, T1.out⟩⟩
  case round =>
    obtain ⟨k, hk, rfl, HI⟩ := hrel
    obtain ⟨W2, rfl⟩ : ∃ x, x = wr := ⟨_, rfl⟩
    obtain ⟨en2, sl2, t2⟩ := HI.out
    have T2 := hide t2
    clear t2 HI
    have hk4 : k = 0 ∨ k = 1 ∨ k = 2 ∨ k = 3 := by omega
    rcases hk4 with rfl | rfl | rfl | rfl
    · have ix := idx0 r W2
      go_wp2_with fail
      clear ix
      refine (part_L (T2.out.bk.below (below1 _ _)) (by rw [T2.out.len]; exact hl) T2.out.li (fun x t ht => by rw [T2.out.len]; exact HB.out x t (cutM_sub r _ (by omega) ht)) (lnOf 0 r) (by rw [lnOf_k _ (by omega)]; omega) (by rw [T2.out.len]; exact hi) (cutM_ok r _ (by omega) (HS.out 0 (by omega)))).mono ?_
      rintro e W3 ⟨rfl, sl3, en3, b3, l3, g3, c3⟩
      have T3 := hide (show TS w W3 B p g c M C sl full cl n Mb r ((i : Int) + 1) 1 en3 sl3 from ⟨b3, l3, g3.trans T2.out.gr, (T2.out.ch.trans (Ch.alloc (Q := fun _ => False) _ _) (fun _ _ h => h.elim)).trans c3 (fun y _ e => e.elim (fun e => Or.inr (Or.inl e)) (fun e => Or.inr (Or.inr (Or.inr e))))⟩)
      clear b3 l3 g3 c3
      go_wp2_with fail
      go_roundw
      case rel => exact ⟨1, by omega, by go_num, hide ⟨_, _, T3.out⟩⟩
      case measure => simp [intOf]
    · have ix := idx1 r W2
      go_wp2_with fail
      clear ix
      refine (part_L (T2.out.bk.below (below1 _ _)) (by rw [T2.out.len]; exact hl) T2.out.li (fun x t ht => by rw [T2.out.len]; exact HB.out x t (cutM_sub r _ (by omega) ht)) (lnOf 1 r) (by rw [lnOf_k _ (by omega)]; omega) (by rw [T2.out.len]; exact hi) (cutM_ok r _ (by omega) (HS.out 1 (by omega)))).mono ?_
      rintro e W3 ⟨rfl, sl3, en3, b3, l3, g3, c3⟩
      have T3 := hide (show TS w W3 B p g c M C sl full cl n Mb r ((i : Int) + 1) 2 en3 sl3 from ⟨b3, l3, g3.trans T2.out.gr, (T2.out.ch.trans (Ch.alloc (Q := fun _ => False) _ _) (fun _ _ h => h.elim)).trans c3 (fun y _ e => e.elim (fun e => Or.inr (Or.inl e)) (fun e => Or.inr (Or.inr (Or.inr e))))⟩)
      clear b3 l3 g3 c3
      go_wp2_with fail
      go_roundw
      case rel => exact ⟨2, by omega, by go_num, hide ⟨_, _, T3.out⟩⟩
      case measure => simp [intOf]
    · have ix := idx2 r W2
      go_wp2_with fail
      clear ix
      refine (part_L (T2.out.bk.below (below1 _ _)) (by rw [T2.out.len]; exact hl) T2.out.li (fun x t ht => by rw [T2.out.len]; exact HB.out x t (cutM_sub r _ (by omega) ht)) (lnOf 2 r) (by rw [lnOf_k _ (by omega)]; omega) (by rw [T2.out.len]; exact hi) (cutM_ok r _ (by omega) (HS.out 2 (by omega)))).mono ?_
      rintro e W3 ⟨rfl, sl3, en3, b3, l3, g3, c3⟩
      have T3 := hide (show TS w W3 B p g c M C sl full cl n Mb r ((i : Int) + 1) 3 en3 sl3 from ⟨b3, l3, g3.trans T2.out.gr, (T2.out.ch.trans (Ch.alloc (Q := fun _ => False) _ _) (fun _ _ h => h.elim)).trans c3 (fun y _ e => e.elim (fun e => Or.inr (Or.inl e)) (fun e => Or.inr (Or.inr (Or.inr e))))⟩)
      clear b3 l3 g3 c3
      go_wp2_with fail
      go_roundw
      case rel => exact ⟨3, by omega, by go_num, hide ⟨_, _, T3.out⟩⟩
      case measure => simp [intOf]
    · go_wp2_with fail
      refine wp_reg (fun y => y = C) (R := fun W => TS w W B p g c M C sl full cl n Mb r ((i : Int) + 1) 3 en2 sl2) (by kernel_rfl) (T2.out.quiet (Ch.drew _)) ?_
      rintro V v zk
      have TV := hide v
      clear v
      have HG := hide (fun wq (zq : Ch (fun y => y = C) V wq) => show wq.cell? ⟨p, 3, none⟩ = some (.map (some C)) ∧ wq.cell? ⟨g, i * 18 + 3, none⟩ = some (.int .u32 r.ws) ∧ wq.cell? ⟨g, i * 18 + 4, none⟩ = some (.int .u32 r.wg) ∧ wq.cell? ⟨g, i * 18 + 8, none⟩ = some (.int .i64 r.ar) from by
        obtain ⟨a1, a2, a3, a4⟩ := TV.out.bk.apart
        have hgl := (TV.out.bk.foot g (Or.inr (Or.inr (Or.inr rfl)))).2
        have k1 := Lib.cell_of_heap (zq.box TV.out.bk.box a2)
        refine ⟨by simp [k1], ?_, ?_, ?_⟩
        · exact (zq.cell hgl (a4 g rfl).2.2 _).trans (TV.out.cells hi 3 _ (by decide) (by unfold slF rcF; rw [hr]; rfl))
        · exact (zq.cell hgl (a4 g rfl).2.2 _).trans (TV.out.cells hi 4 _ (by decide) (by unfold slF rcF; rw [hr]; rfl))
        · exact (zq.cell hgl (a4 g rfl).2.2 _).trans (TV.out.cells hi 8 _ (by decide) (by unfold slF rcF; rw [hr]; rfl)))
      apply tk 0 ta0 rfl (by kernel_rfl) (fun _ _ _ h => h) zk
      · intro wq zq
        go_simp
        try rfl
      go_frame
      apply tk 1 ta1 rfl (by kernel_rfl) (fun _ _ _ h => h) zk
      · intro wq zq
        go_simp
        try rfl
      go_frame
      apply tk 2 ta2 rfl (by kernel_rfl) (fun _ _ _ h => h) zk
      · intro wq zq
        go_simp
        try rfl
      go_frame
      apply tk 3 ta3 rfl (by kernel_rfl) (fun _ _ _ h => h) zk
      · intro wq zq
        obtain ⟨s1, s2, s3, s4⟩ := HG.out _ zq
        go_simp
        try rfl
      go_frame
      apply tk 4 ta4 rfl (by kernel_rfl) (fun _ _ _ h => h) zk
      · intro wq zq
        go_simp
        try rfl
      go_frame
      apply tk 5 ta5 rfl (by kernel_rfl) (fun _ _ _ h => h) zk
      · intro wq zq
        go_simp
        try rfl
      go_frame
      apply tk 6 ta6 rfl (by kernel_rfl) (fun _ _ _ h => h) zk
      · intro wq zq
        go_simp
        try rfl
      go_frame
      apply tk 7 ta7 rfl (by kernel_rfl) (fun _ _ _ h => h) zk
      · intro wq zq
        go_simp
        try rfl
      go_frame
      apply tk 8 ta8 rfl (by kernel_rfl) (fun _ _ _ h => h) zk
      · intro wq zq
        obtain ⟨s1, s2, s3, s4⟩ := HG.out _ zq
        go_simp
        try rfl
      go_frame
      apply tk 9 ta9 rfl (by kernel_rfl) (fun _ _ _ h => h) zk
      · intro wq zq
        go_simp
        try rfl
      go_frame
      apply tk 10 ta10 rfl (by kernel_rfl) (fun _ _ _ h => h) zk
      · intro wq zq
        go_simp
        try rfl
      go_frame
      apply tk 11 ta11 rfl (by kernel_rfl) (fun _ _ _ h => h) zk
      · intro wq zq
        go_simp
        try rfl
      go_frame
      apply tk 12 ta12 rfl (by kernel_rfl) (fun _ _ _ h => h) zk
      · intro wq zq
        go_simp
        try rfl
      go_frame
      apply tk 13 ta13 rfl (by kernel_rfl) (fun _ _ _ h => h) zk
      · intro wq zq
        obtain ⟨s1, s2, s3, s4⟩ := HG.out _ zq
        go_simp
        try rfl
      go_frame
      apply tk 14 ta14 rfl (by kernel_rfl) (fun _ _ _ h => h) zk
      · intro wq zq
        go_simp
        try rfl
      go_frame
      refine Go.Proofs.Ytoabhmpakcgloaa.rd 15 ta15 rfl (by kernel_rfl) fun K hK => ?_
      refine step_delC (x := clR r) rfl (.tmp 26) (.tmp 37) rfl rfl TV.out.bk.cm rfl (fun W5 m5 c5 => ?_)
      have T5 := hide (show TS w W5 B p g c M C sl full (updW cl (clR r) none) n' Mb r ((i : Int) + 1) 3 en2 sl2 from ⟨TV.out.bk.claims (by rw [← HN'.out]; exact m5) c5, TV.out.li, TV.out.gr, TV.out.ch.trans c5 (fun y _ e => Or.inr (Or.inr (Or.inl e)))⟩)
      refine hK.out _ _ c5 (fun zk => ?_)
      clear hK K m5 c5
      try go_frame
      refine wpAnyH_done (by kernel_rfl) ?_ _
      clear HG TV
      have y0 : W5.cell? ⟨g, i * 18, none⟩ = some (.int .u32 sl[i].g) := T5.out.cells hi 0 _ (by decide) rfl
      have HT := T5.out.bk.there T5.out.len hi 0 18 (by omega)
      first | refine wp_anyH (take_r7 y0 HT ?_) | (go_step; first | refine wp_anyH (take_r7 y0 HT ?_) | (go_step; first | refine wp_anyH (take_r7 y0 HT ?_) | (go_step; refine wp_anyH (take_r7 y0 HT ?_))))
      intros
      dsimp only [Exit.inBlock, Exit.then]
      refine genK (R := fun W => Bk W B p (.slice (some ⟨g, 0, none⟩) sl.length c) M C (modS sl2 ((i : Int) + 1) (fun _ => zSl sl[i].g)) full en2 (updW cl (clR r) none) n' ∧ Ch (bkF p M C (.slice (some ⟨g, 0, none⟩) sl.length c)) w W) ⟨Bk.many hi (wipeO sl[i].g) W5 sl2 (wipe_good _) T5.out.bk T5.out.len, T5.out.ch.trans (wrs_ch (fun y => y = g) rfl i _ W5) (fun y _ (e : y = g) => Or.inr (Or.inr (Or.inr (by rw [e]; rfl))))⟩ ?_
      rintro W6 ⟨b6, c6⟩
      clear y0 HT
      have f1 := b6.cells.2.1
      have ff := frz b6.box 1
      have e8 : IntKind.u32.wrap ((i : Int) + 1 - 1) = (i : Int) := by rw [IntKind.wrap_u32]; omega
      have B8 := hide (fun f => b6.setF f)
      have C6 := hide c6
      clear b6 c6
      have hf0 := hf.1
      have hf1 := hf.2
      clear hf
      go_wp2_with fail
      all_goals
        go_end0
        refine ⟨rfl, sl2, en2, ?_, T5.out.li, T5.out.gr, C6.out.trans (Ch.set (Q := fun y => y = p) _ rfl _ _) (fun y _ e => Or.inl e)⟩
        first
          | (rw [← HF'.out, show min full (i : Int) = full by omega]; exact B8.out _)
          | (rw [← HF'.out, show min full (i : Int) = (i : Int) by omega]; exact B8.out _)

end Go.Proofs.Ytoabhmpakcgloaa
