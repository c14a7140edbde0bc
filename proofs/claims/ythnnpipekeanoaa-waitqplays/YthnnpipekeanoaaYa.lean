/- Layer 11: the landed book: takeOut wipes a slot; the lines by their kinds. Layer 11: the landed book: takeOut. Layer 11: the landed book, as the face asks: a wait is taken out; Cut. Layer 11: the landed book, as the face asks: Leave. -/
import Derived.Test.YthnnpipekeanoaaHn
import Derived.Test.YthnnpipekeanoaaHj
import Derived.Test.YthnnpipekeanoaaHu
import Derived.WalkMore
namespace Go.Proofs.Ythnnpipekeanoaa
open Go.RowKit

theorem idx0 (r : Rc) (W : World) : (Instr.index 95 (.agg #[.int .i64 0, .int .u32 r.rs, .int .u32 r.rg, .int .i64 r.rd, .int .u32 0, .int .u32 0, .int .i64 1, .int .u32 0, .int .u32 0, .int .i64 0, .int .u32 r.ws, .int .u32 r.wg, .int .i64 2, .int .u32 0, .int .u32 0, .int .i64 0, .int .u32 0, .int .u32 0]) (.int .i64 0)).run Try.prog W = .ok (.agg #[.int .i64 0, .int .u32 r.rs, .int .u32 r.rg, .int .i64 r.rd, .int .u32 0, .int .u32 0]) W := by kernel_rfl
theorem idx1 (r : Rc) (W : World) : (Instr.index 95 (.agg #[.int .i64 0, .int .u32 r.rs, .int .u32 r.rg, .int .i64 r.rd, .int .u32 0, .int .u32 0, .int .i64 1, .int .u32 0, .int .u32 0, .int .i64 0, .int .u32 r.ws, .int .u32 r.wg, .int .i64 2, .int .u32 0, .int .u32 0, .int .i64 0, .int .u32 0, .int .u32 0]) (.int .i64 1)).run Try.prog W = .ok (.agg #[.int .i64 1, .int .u32 0, .int .u32 0, .int .i64 0, .int .u32 r.ws, .int .u32 r.wg]) W := by kernel_rfl
theorem idx2 (r : Rc) (W : World) : (Instr.index 95 (.agg #[.int .i64 0, .int .u32 r.rs, .int .u32 r.rg, .int .i64 r.rd, .int .u32 0, .int .u32 0, .int .i64 1, .int .u32 0, .int .u32 0, .int .i64 0, .int .u32 r.ws, .int .u32 r.wg, .int .i64 2, .int .u32 0, .int .u32 0, .int .i64 0, .int .u32 0, .int .u32 0]) (.int .i64 2)).run Try.prog W = .ok (.agg #[.int .i64 2, .int .u32 0, .int .u32 0, .int .i64 0, .int .u32 0, .int .u32 0]) W := by kernel_rfl

abbrev tb0 : Oper := { dst := some 38, op := Op.move (Operand.tmp 4), type := 86, pos := "waitq.go:229", after := #[], guard := none }
abbrev tb1 : Oper := { dst := some 39, op := Op.move (Operand.tmp 4), type := 86, pos := "waitq.go:229", after := #[], guard := none }
abbrev tb2 : Oper := { dst := some 40, op := Op.nilCheck (Operand.tmp 39), type := 0, pos := "waitq.go:229", after := #[{ on := 1, ground := Ground.data }], guard := none }
abbrev tb3 : Oper := { dst := some 41, op := Op.fieldAddr 92 (Operand.tmp 40) 0, type := 0, pos := "waitq.go:229", after := #[{ on := 2, ground := Ground.data }], guard := none }
abbrev tb4 : Oper := { dst := some 42, op := Op.load 39 (Operand.tmp 41), type := 39, pos := "waitq.go:229", after := #[{ on := 3, ground := Ground.data }], guard := none }
abbrev tb5 : Oper := { dst := some 43, op := Op.build 92 #[(0, Operand.tmp 42)], type := 92, pos := "waitq.go:229", after := #[{ on := 4, ground := Ground.data }], guard := none }
abbrev tb6 : Oper := { dst := some 44, op := Op.nilCheck (Operand.tmp 38), type := 0, pos := "waitq.go:229", after := #[{ on := 0, ground := Ground.data }, { on := 0, ground := Ground.phase }, { on := 1, ground := Ground.phase }, { on := 2, ground := Ground.phase }, { on := 3, ground := Ground.phase }, { on := 4, ground := Ground.phase }, { on := 5, ground := Ground.phase }], guard := none }
abbrev tb7 : Oper := { dst := none, op := Op.store 92 (Operand.tmp 44) (Operand.tmp 43), type := 0, pos := "waitq.go:229", after := #[{ on := 6, ground := Ground.data }, { on := 5, ground := Ground.data }, { on := 0, ground := Ground.phase }, { on := 1, ground := Ground.phase }, { on := 2, ground := Ground.phase }, { on := 3, ground := Ground.phase }, { on := 4, ground := Ground.phase }, { on := 5, ground := Ground.phase }], guard := none }

set_option maxRecDepth 100000 in
set_option maxHeartbeats 8000000 in
theorem take_r7 {u0 u1 u2 u3 u5 u6 u7 u8 u9 u10 u11 u12 u13 u14 u15 u16 u17 u18 u19 u20 u21 u22 u23 u24 u25 u26 u27 u28 u29 u30 u31 u32 u33 u34 u35 u36 u37 u38 u39 u40 u41 u42 u43 u44 u45 u46 u47 u48 u49 u50 u51 u52 u53 u54 : Value} {W : World} {g i : Nat} {G : Int} (h0 : W.cell? ⟨g, i * 18, none⟩ = some (.int .u32 G)) (ht : W.there g (i * 18) 18)
    {K : Act → World → Prop} (hK0 : ∀ (u38 u39 u40 u41 u42 u43 u44 : Value), K { tmps := List.toArray (u0 :: u1 :: u2 :: u3 :: (.pointer (some ⟨g, i * 18, none⟩)) :: u5 :: u6 :: u7 :: u8 :: u9 :: u10 :: u11 :: u12 :: u13 :: u14 :: u15 :: u16 :: u17 :: u18 :: u19 :: u20 :: u21 :: u22 :: u23 :: u24 :: u25 :: u26 :: u27 :: u28 :: u29 :: u30 :: u31 :: u32 :: u33 :: u34 :: u35 :: u36 :: u37 :: u38 :: u39 :: u40 :: u41 :: u42 :: u43 :: u44 :: u45 :: u46 :: u47 :: u48 :: u49 :: u50 :: u51 :: u52 :: u53 :: u54 :: []), defers := [] } (wrs W g i (wipeO G))) :
    (Code.region 7 #[tb0, tb1, tb2, tb3, tb4, tb5, tb6, tb7] false).wp Try.prog (Exit.then K (fun _ _ _ => False)) { tmps := List.toArray (u0 :: u1 :: u2 :: u3 :: (.pointer (some ⟨g, i * 18, none⟩)) :: u5 :: u6 :: u7 :: u8 :: u9 :: u10 :: u11 :: u12 :: u13 :: u14 :: u15 :: u16 :: u17 :: u18 :: u19 :: u20 :: u21 :: u22 :: u23 :: u24 :: u25 :: u26 :: u27 :: u28 :: u29 :: u30 :: u31 :: u32 :: u33 :: u34 :: u35 :: u36 :: u37 :: u38 :: u39 :: u40 :: u41 :: u42 :: u43 :: u44 :: u45 :: u46 :: u47 :: u48 :: u49 :: u50 :: u51 :: u52 :: u53 :: u54 :: []), defers := [] } W := by
  have HK := hide hK0
  clear hK0
  refine wp_region_list ?_
  refine wpList_plain rfl fun K0 hK0 => ?_
  go_simp
  refine hK0 _ _ ?_
  clear hK0 K0
  refine wpList_plain rfl fun K1 hK1 => ?_
  go_simp
  refine hK1 _ _ ?_
  clear hK1 K1
  refine wpList_plain rfl fun K2 hK2 => ?_
  go_simp
  refine hK2 _ _ ?_
  clear hK2 K2
  refine wpList_plain rfl fun K3 hK3 => ?_
  go_simp
  refine hK3 _ _ ?_
  clear hK3 K3
  refine wpList_plain rfl fun K4 hK4 => ?_
  go_simp
  refine hK4 _ _ ?_
  clear hK4 K4
  refine wpList_plain rfl fun K5 hK5 => ?_
  go_simp
  refine hK5 _ _ ?_
  clear hK5 K5
  refine wpList_plain rfl fun K6 hK6 => ?_
  go_simp
  refine hK6 _ _ ?_
  clear hK6 K6
  refine wpList_store_mid rfl 92 (.tmp 44) (.tmp 43) rfl g (i * 18) #[.int .u32 G, .int .u32 0, .int .u32 0, .int .u32 0, .int .u32 0, .int .u32 0, .int .u32 0, .int .i64 0, .int .i64 0, .int .i64 0, .int .u32 0, .int .u32 0, .int .u32 0, .int .u32 0, .int .u32 0, .int .u32 0, .int .u32 0, .int .u32 0] rfl rfl ht (by kernel_rfl) (wipe_one G) ?_
  exact HK.out _ _ _ _ _ _ _

end Go.Proofs.Ythnnpipekeanoaa

namespace Go.Proofs.Ythnnpipekeanoaa
open Go.RowKit

abbrev clR (r : Rc) : Int × Int × Int := (r.ws, r.wg, r.ar)
/-- one is taken out of the map of claims, as a step of a region that draws; one is put in; one is looked for -/
theorem step_delC {ops : Array Oper} {o : Oper} {a : Act} {w : World} {C n : Nat} {cl : Int × Int × Int → Option Int} {x : Int × Int × Int} {K : Act → World → Prop} {Q : Exit → Act → World → Prop} {Z : Prop} (hg : o.guard = none) (m y : Operand) (hop : o.op = Op.call { callee := Callee.builtin Builtin.delete, args := #[m, y], argTypes := #[70, 94] })
    (hm : a.eval m = .map (some C)) (hM : ClMap w C cl n) (hy : a.eval y = clV x)
    (hK : ∀ w', ClMap w' C (updW cl x none) (if (cl x).isSome then n - 1 else n) → Ch (fun y => y = C) w w' → K (a.put o.dst (.tuple #[])) w') : if Region.wanted o (yielded ops a.tmps) = true then Oper.wp Try.prog o a w K Q else Z := by
  have hw : Region.wanted o (yielded ops a.tmps) = true := by simp [Region.wanted, hg]
  rw [if_pos hw]
  obtain ⟨w', h1, h2, h3⟩ := hM.del (x := x) (ty := o.type) (ktC w) Try.underlying70
  unfold Oper.wp
  simp [execOp, hop, resolve, invoke, builtin, hm, hy, h1, Result.andThen]
  have : (fun z => (updW cl x none z).map (fun s => Value.int .u32 s)) = updW (fun z => (cl z).map (fun s => Value.int .u32 s)) x none := by
    funext z
    unfold updW
    split <;> rfl
  rw [← this, Option.isSome_map] at h2
  exact hK w' h2 h3
theorem step_putC {ops : Array Oper} {o : Oper} {a : Act} {w : World} {C n : Nat} {cl : Int × Int × Int → Option Int} {x : Int × Int × Int} {s : Int} {K : Act → World → Prop} {Q : Exit → Act → World → Prop} {Z : Prop} (hg : o.guard = none) (m y u : Operand) (hop : o.op = Op.mapUpdate 70 m y u)
    (hm : a.eval m = .map (some C)) (hM : ClMap w C cl n) (hy : a.eval y = clV x) (hu : a.eval u = .int .u32 s)
    (hK : ∀ w', ClMap w' C (updW cl x (some s)) (if (cl x).isSome then n else n + 1) → Ch (fun y => y = C) w w' → K (a.put o.dst undef) w') : if Region.wanted o (yielded ops a.tmps) = true then Oper.wp Try.prog o a w K Q else Z := by
  have hw : Region.wanted o (yielded ops a.tmps) = true := by simp [Region.wanted, hg]
  rw [if_pos hw]
  obtain ⟨w', h1, h2, h3⟩ := hM.put (x := x) (ktC w) Try.underlying70 (.int .u32 s)
  unfold Oper.wp
  simp [execOp, hop, hm, hy, hu, h1, Result.andThen]
  have : (fun z => (updW cl x (some s) z).map (fun s => Value.int .u32 s)) = updW (fun z => (cl z).map (fun s => Value.int .u32 s)) x (some (.int .u32 s)) := by
    funext z
    unfold updW
    split <;> rfl
  rw [← this, Option.isSome_map] at h2
  exact hK w' h2 h3
theorem val_lookC {o : Oper} {a : Act} {w : World} {C n : Nat} {cl : Int × Int × Int → Option Int} {x : Int × Int × Int} (m y : Operand) (hop : o.op = Op.lookup 70 m y true) (hm : a.eval m = .map (some C)) (hy : a.eval y = clV x) (h : ClMap w C cl n) : (execOp a.eval o).run Try.prog w = .ok (.value (.tuple #[.int .u32 ((cl x).getD 0), .bool (cl x).isSome])) w := by
  have hrun := h.look2 (x := x) (ktC w) Try.underlying70 (zeroU w)
  rw [Option.isSome_map, show ((cl x).map (fun s => Value.int .u32 s)).getD (.int .u32 0) = .int .u32 ((cl x).getD 0) by cases cl x <;> rfl] at hrun
  simp [execOp, hop, hm, hy, hrun, Result.andThen]

/-- what is taken out on the way -/
structure TS (w W : World) (B p g c M C : Nat) (sl : List Sl) (full : Int) (cl : Int × Int × Int → Option Int) (n : Nat) (Mb : Ln → List Int) (r : Rc) (s : Int) (k : Nat) (en' : Ln → Option (Int × Int)) (sl' : List Sl) : Prop where
  bk : Bk W B p (.slice (some ⟨g, 0, none⟩) sl.length c) M C sl' full en' cl n
  li : LInv en' (lkS sl') (cutM Mb r s k)
  gr : sl'.map Sl.gr = sl.map Sl.gr
  ch : Ch (bkF p M C (.slice (some ⟨g, 0, none⟩) sl.length c)) w W

section
variable {w W W' : World} {B p g c M C n k i : Nat} {sl sl' : List Sl} {full : Int} {cl : Int × Int × Int → Option Int} {Mb : Ln → List Int} {r : Rc} {s : Int} {en' : Ln → Option (Int × Int)}
theorem TS.quiet (h : TS w W B p g c M C sl full cl n Mb r s k en' sl') (hc : Ch (fun _ => False) W W') : TS w W' B p g c M C sl full cl n Mb r s k en' sl' :=
  ⟨h.bk.ch hc (fun _ _ h => h), h.li, h.gr, h.ch.trans hc (fun _ _ h => h.elim)⟩
theorem TS.len (h : TS w W B p g c M C sl full cl n Mb r s k en' sl') : sl'.length = sl.length := (gr_same h.gr).1
/-- the slot's cells -/
theorem TS.cells (h : TS w W B p g c M C sl full cl n Mb r s k en' sl') (hi : i < sl.length) (j : Nat) (u : Value) (hj : j < 12) (hu : (slF sl[i])[j]? = some u) : W.cell? ⟨g, i * 18 + j, none⟩ = some u := by
  obtain ⟨e1, e2⟩ := gr_same h.gr
  obtain ⟨e3, e4⟩ := e2 i hi (by rw [e1]; exact hi)
  have b := h.bk
  rw [← e1] at b
  refine (b.cell (i := i) (j := j) (by rw [e1]; exact hi) ?_ rfl).1
  rw [← hu]
  unfold slF
  rw [e3, e4]
  match j, hj with
  | 0, _ => rfl
  | j + 1, hj =>
    rw [List.getElem?_cons_succ, List.getElem?_cons_succ, List.getElem?_append_left (by rw [rcF_len]; omega), List.getElem?_append_left (by rw [rcF_len]; omega)]
theorem TS.all (h : TS w W B p g c M C sl full cl n Mb r s k en' sl') (hi : i < sl.length) : ∃ z : Sl, z.g = sl[i].g ∧ z.r = sl[i].r ∧ (∀ j u, (slF z)[j]? = some u → W.cell? ⟨g, i * 18 + j, none⟩ = some u) ∧ ∀ o, W.frozen? ⟨g, o, none⟩ = false := by
  obtain ⟨e1, e2⟩ := gr_same h.gr
  obtain ⟨e3, e4⟩ := e2 i hi (by rw [e1]; exact hi)
  have b := h.bk
  rw [← e1] at b
  obtain ⟨g', c', cur, e, -, -, -, k5, -, k7⟩ := b.at (by omega)
  cases e
  exact ⟨sl'[i]'(by rw [e1]; exact hi), e3, e4, fun j u hu => k7 i (by rw [e1]; exact hi) j u hu, fun o => frz k5 o⟩
end

abbrev ta0 : Oper := { dst := some 23, op := Op.move (Operand.tmp 0), type := 25, pos := "waitq.go:228", after := #[], guard := none }
abbrev ta1 : Oper := { dst := some 24, op := Op.nilCheck (Operand.tmp 23), type := 0, pos := "waitq.go:228", after := #[{ on := 0, ground := Ground.data }], guard := none }
abbrev ta2 : Oper := { dst := some 25, op := Op.fieldAddr 73 (Operand.tmp 24) 3, type := 0, pos := "waitq.go:228", after := #[{ on := 1, ground := Ground.data }], guard := none }
abbrev ta3 : Oper := { dst := some 26, op := Op.load 70 (Operand.tmp 25), type := 70, pos := "waitq.go:228", after := #[{ on := 2, ground := Ground.data }], guard := none }
abbrev ta4 : Oper := { dst := some 27, op := Op.move (Operand.tmp 4), type := 86, pos := "waitq.go:228", after := #[], guard := none }
abbrev ta5 : Oper := { dst := some 28, op := Op.nilCheck (Operand.tmp 27), type := 0, pos := "waitq.go:228", after := #[{ on := 4, ground := Ground.data }], guard := none }
abbrev ta6 : Oper := { dst := some 29, op := Op.fieldAddr 92 (Operand.tmp 28) 1, type := 0, pos := "waitq.go:228", after := #[{ on := 5, ground := Ground.data }], guard := none }
abbrev ta7 : Oper := { dst := some 30, op := Op.fieldAddr 57 (Operand.tmp 29) 1, type := 0, pos := "waitq.go:228", after := #[{ on := 6, ground := Ground.data }], guard := none }
abbrev ta8 : Oper := { dst := some 31, op := Op.load 41 (Operand.tmp 30), type := 41, pos := "waitq.go:228", after := #[{ on := 7, ground := Ground.data }], guard := none }
abbrev ta9 : Oper := { dst := some 32, op := Op.move (Operand.tmp 4), type := 86, pos := "waitq.go:228", after := #[], guard := none }
abbrev ta10 : Oper := { dst := some 33, op := Op.nilCheck (Operand.tmp 32), type := 0, pos := "waitq.go:228", after := #[{ on := 9, ground := Ground.data }], guard := none }
abbrev ta11 : Oper := { dst := some 34, op := Op.fieldAddr 92 (Operand.tmp 33) 1, type := 0, pos := "waitq.go:228", after := #[{ on := 10, ground := Ground.data }], guard := none }
abbrev ta12 : Oper := { dst := some 35, op := Op.fieldAddr 57 (Operand.tmp 34) 3, type := 0, pos := "waitq.go:228", after := #[{ on := 11, ground := Ground.data }], guard := none }
abbrev ta13 : Oper := { dst := some 36, op := Op.load 3 (Operand.tmp 35), type := 3, pos := "waitq.go:228", after := #[{ on := 12, ground := Ground.data }], guard := none }
abbrev ta14 : Oper := { dst := some 37, op := Op.build 94 #[(0, Operand.tmp 31), (1, Operand.tmp 36)], type := 94, pos := "waitq.go:228", after := #[{ on := 8, ground := Ground.data }, { on := 13, ground := Ground.data }], guard := none }
abbrev ta15 : Oper := { dst := none, op := Op.call { callee := Callee.builtin Builtin.delete, args := #[Operand.tmp 26, Operand.tmp 37], argTypes := #[70, 94] }, type := 0, pos := "waitq.go:228", after := #[{ on := 3, ground := Ground.data }, { on := 14, ground := Ground.data }], guard := none }

variable {w : World} {B p M C n : Nat} {wv : Value} {sl : List Sl} {full : Int} {en : Ln → Option (Int × Int)} {cl : Int × Int × Int → Option Int} {Mb : Ln → List Int}

theorem cutM_ok (r : Rc) (s : Int) {k : Nat} (hk : k < 3) (hs : s ∈ Mb (lnOf k r)) : s ∈ cutM Mb r s k (lnOf k r) := by
  rw [cutM_le _ _ _ k (by omega), lnOf_k k hk, if_neg (by omega)]
  exact hs
theorem cutM_sub (r : Rc) (s : Int) {k : Nat} (hk : k ≤ 3) {x : Ln} {t : Int} (ht : t ∈ cutM Mb r s k x) : t ∈ Mb x := by
  rw [cutM_le _ _ _ k hk] at ht
  split at ht
  · exact List.mem_of_mem_erase ht
  · exact ht

set_option maxRecDepth 100000 in
set_option maxHeartbeats 16000000 in
theorem take_is (h : Bk w B p wv M C sl full en cl n) (hl : sl.length ≤ 100001) (hL : LInv en (lkS sl) Mb) (hb : ∀ x, ∀ s ∈ Mb x, s ≤ sl.length) {i : Nat} (hi : i < sl.length) {r : Rc} (hr : sl[i].r = r) (hs : ∀ k, k < 3 → ((i : Int) + 1) ∈ Mb (lnOf k r)) (hf : 0 ≤ full ∧ full ≤ 100001) {n' : Nat} (hn' : (if (cl (clR r)).isSome then n - 1 else n) = n') {f' : Int} (hf' : min full (i : Int) = f') :
    Calls Try.prog 34 #[.pointer (some ⟨p, 0, none⟩), .int .u32 ((i : Int) + 1)] w fun e w' => e = .returned (.tuple #[]) ∧ ∃ sl' en', Bk w' B p wv M C (modS sl' ((i : Int) + 1) (fun _ => zSl sl[i].g)) f' en' (updW cl (clR r) none) n' ∧ LInv en' (lkS sl') (cutM Mb r ((i : Int) + 1) 3) ∧ sl'.map Sl.gr = sl.map Sl.gr ∧ Ch (bkF p M C wv) w w' := by
  obtain ⟨g, c, -, rfl, -⟩ := h.at (by omega)
  have c0 := h.cells.1
  have T0 := hide (show TS w w B p g c M C sl full cl n Mb r ((i : Int) + 1) 0 en sl from ⟨h, hL, rfl, Ch.refl _ _⟩)
  have HY := hide (fun j u hj hu => T0.out.cells hi j u hj hu)
  have y1 : w.cell? ⟨g, i * 18 + 1, none⟩ = some (.int .u32 r.ms) := HY.out 1 _ (by decide) (by unfold slF rcF; rw [hr]; rfl)
  have y2 : w.cell? ⟨g, i * 18 + 2, none⟩ = some (.int .u32 r.mg) := HY.out 2 _ (by decide) (by unfold slF rcF; rw [hr]; rfl)
  have y3 : w.cell? ⟨g, i * 18 + 3, none⟩ = some (.int .u32 r.ws) := HY.out 3 _ (by decide) (by unfold slF rcF; rw [hr]; rfl)
  have y4 : w.cell? ⟨g, i * 18 + 4, none⟩ = some (.int .u32 r.wg) := HY.out 4 _ (by decide) (by unfold slF rcF; rw [hr]; rfl)
  have y5 : w.cell? ⟨g, i * 18 + 5, none⟩ = some (.int .u32 r.rs) := HY.out 5 _ (by decide) (by unfold slF rcF; rw [hr]; rfl)
  have y6 : w.cell? ⟨g, i * 18 + 6, none⟩ = some (.int .u32 r.rg) := HY.out 6 _ (by decide) (by unfold slF rcF; rw [hr]; rfl)
  have y7 : w.cell? ⟨g, i * 18 + 7, none⟩ = some (.int .i64 r.rd) := HY.out 7 _ (by decide) (by unfold slF rcF; rw [hr]; rfl)
  have y8 : w.cell? ⟨g, i * 18 + 8, none⟩ = some (.int .i64 r.ar) := HY.out 8 _ (by decide) (by unfold slF rcF; rw [hr]; rfl)
  have y9 : w.cell? ⟨g, i * 18 + 9, none⟩ = some (.int .i64 r.vn) := HY.out 9 _ (by decide) (by unfold slF rcF; rw [hr]; rfl)
  have y10 : w.cell? ⟨g, i * 18 + 10, none⟩ = some (.int .u32 r.vs) := HY.out 10 _ (by decide) (by unfold slF rcF; rw [hr]; rfl)
  have y11 : w.cell? ⟨g, i * 18 + 11, none⟩ = some (.int .u32 r.vg) := HY.out 11 _ (by decide) (by unfold slF rcF; rw [hr]; rfl)
  have HL := hide hL
  have HB := hide hb
  have HS := hide hs
  have HN' := hide hn'
  have HF' := hide hf'
  clear h hL hb hs hn' hf'
  go_enter Try.func34, Try.ntmps34
  go_wp2_with fail
  refine (at_is c0 hi hl).mono ?_
  rintro e W ⟨rfl, rfl⟩
  go_wp2_with fail
  refine (lines_is w r).mono ?_
  rintro e W1 ⟨rfl, hb1⟩
  unfold lnsV
  have T1 := hide (T0.out.quiet (Ch.of_below hb1))
  clear hb1 HY y1 y2 y3 y4 y5 y6 y7 y8 y9 y10 y11 c0
  go_wp2_with fail
  go_loopw [15] (fun iv wr => ∃ k : Nat, k ≤ 3 ∧ iv = .int .i64 (k : Int) ∧ Hid (∃ en' sl', TS w wr B p g c M C sl full cl n Mb r ((i : Int) + 1) k en' sl')) (fun iv _ => 3 - (intOf iv).toNat)
  case atStart => exact ⟨0, by omega, rfl, hide ⟨_, _, T1.out⟩⟩
  case round =>
    obtain ⟨k, hk, rfl, HI⟩ := hrel
    obtain ⟨W2, rfl⟩ : ∃ x, x = wr := ⟨_, rfl⟩
    obtain ⟨en2, sl2, t2⟩ := HI.out
    have T2 := hide t2
    clear t2 HI
    have hk4 : k = 0 ∨ k = 1 ∨ k = 2 ∨ k = 3 := by omega
    rcases hk4 with rfl | rfl | rfl | rfl
    · have ix := idx0 r W2
      go_wp2_with fail
      clear ix
      refine (part_L (T2.out.bk.below (below1 _ _)) (by rw [T2.out.len]; exact hl) T2.out.li (fun x t ht => by rw [T2.out.len]; exact HB.out x t (cutM_sub r _ (by omega) ht)) (lnOf 0 r) (by rw [lnOf_k _ (by omega)]; omega) (by rw [T2.out.len]; exact hi) (cutM_ok r _ (by omega) (HS.out 0 (by omega)))).mono ?_
      rintro e W3 ⟨rfl, sl3, en3, b3, l3, g3, c3⟩
      have T3 := hide (show TS w W3 B p g c M C sl full cl n Mb r ((i : Int) + 1) 1 en3 sl3 from ⟨b3, l3, g3.trans T2.out.gr, (T2.out.ch.trans (Ch.alloc (Q := fun _ => False) _ _) (fun _ _ h => h.elim)).trans c3 (fun y _ e => e.elim (fun e => Or.inr (Or.inl e)) (fun e => Or.inr (Or.inr (Or.inr e))))⟩)
      clear b3 l3 g3 c3
      go_wp2_with fail
      go_roundw
      case rel => exact ⟨1, by omega, by go_num, hide ⟨_, _, T3.out⟩⟩
      case measure => simp [intOf]
    · have ix := idx1 r W2
      go_wp2_with fail
      clear ix
      refine (part_L (T2.out.bk.below (below1 _ _)) (by rw [T2.out.len]; exact hl) T2.out.li (fun x t ht => by rw [T2.out.len]; exact HB.out x t (cutM_sub r _ (by omega) ht)) (lnOf 1 r) (by rw [lnOf_k _ (by omega)]; omega) (by rw [T2.out.len]; exact hi) (cutM_ok r _ (by omega) (HS.out 1 (by omega)))).mono ?_
      rintro e W3 ⟨rfl, sl3, en3, b3, l3, g3, c3⟩
      have T3 := hide (show TS w W3 B p g c M C sl full cl n Mb r ((i : Int) + 1) 2 en3 sl3 from ⟨b3, l3, g3.trans T2.out.gr, (T2.out.ch.trans (Ch.alloc (Q := fun _ => False) _ _) (fun _ _ h => h.elim)).trans c3 (fun y _ e => e.elim (fun e => Or.inr (Or.inl e)) (fun e => Or.inr (Or.inr (Or.inr e))))⟩)
      clear b3 l3 g3 c3
      go_wp2_with fail
      go_roundw
      case rel => exact ⟨2, by omega, by go_num, hide ⟨_, _, T3.out⟩⟩
      case measure => simp [intOf]
    · have ix := idx2 r W2
      go_wp2_with fail
      clear ix
      refine (part_L (T2.out.bk.below (below1 _ _)) (by rw [T2.out.len]; exact hl) T2.out.li (fun x t ht => by rw [T2.out.len]; exact HB.out x t (cutM_sub r _ (by omega) ht)) (lnOf 2 r) (by rw [lnOf_k _ (by omega)]; omega) (by rw [T2.out.len]; exact hi) (cutM_ok r _ (by omega) (HS.out 2 (by omega)))).mono ?_
      rintro e W3 ⟨rfl, sl3, en3, b3, l3, g3, c3⟩
      have T3 := hide (show TS w W3 B p g c M C sl full cl n Mb r ((i : Int) + 1) 3 en3 sl3 from ⟨b3, l3, g3.trans T2.out.gr, (T2.out.ch.trans (Ch.alloc (Q := fun _ => False) _ _) (fun _ _ h => h.elim)).trans c3 (fun y _ e => e.elim (fun e => Or.inr (Or.inl e)) (fun e => Or.inr (Or.inr (Or.inr e))))⟩)
      clear b3 l3 g3 c3
      go_wp2_with fail
      go_roundw
      case rel => exact ⟨3, by omega, by go_num, hide ⟨_, _, T3.out⟩⟩
      case measure => simp [intOf]
    · go_wp2_with fail
      refine wp_reg (fun y => y = C) (R := fun W => TS w W B p g c M C sl full cl n Mb r ((i : Int) + 1) 3 en2 sl2) (by kernel_rfl) (T2.out.quiet (Ch.drew _)) ?_
      rintro V v zk
      have TV := hide v
      clear v
      have HG := hide (fun wq (zq : Ch (fun y => y = C) V wq) => show wq.cell? ⟨p, 3, none⟩ = some (.map (some C)) ∧ wq.cell? ⟨g, i * 18 + 3, none⟩ = some (.int .u32 r.ws) ∧ wq.cell? ⟨g, i * 18 + 4, none⟩ = some (.int .u32 r.wg) ∧ wq.cell? ⟨g, i * 18 + 8, none⟩ = some (.int .i64 r.ar) from by
        obtain ⟨a1, a2, a3, a4⟩ := TV.out.bk.apart
        have hgl := (TV.out.bk.foot g (Or.inr (Or.inr (Or.inr rfl)))).2
        have k1 := Lib.cell_of_heap (zq.box TV.out.bk.box a2)
        refine ⟨by simp [k1], ?_, ?_, ?_⟩
        · exact (zq.cell hgl (a4 g rfl).2.2 _).trans (TV.out.cells hi 3 _ (by decide) (by unfold slF rcF; rw [hr]; rfl))
        · exact (zq.cell hgl (a4 g rfl).2.2 _).trans (TV.out.cells hi 4 _ (by decide) (by unfold slF rcF; rw [hr]; rfl))
        · exact (zq.cell hgl (a4 g rfl).2.2 _).trans (TV.out.cells hi 8 _ (by decide) (by unfold slF rcF; rw [hr]; rfl)))
      apply tk 0 ta0 rfl (by kernel_rfl) (fun _ _ _ h => h) zk
      · intro wq zq
        go_simp
        try rfl
      go_frame
      apply tk 1 ta1 rfl (by kernel_rfl) (fun _ _ _ h => h) zk
      · intro wq zq
        go_simp
        try rfl
      go_frame
      apply tk 2 ta2 rfl (by kernel_rfl) (fun _ _ _ h => h) zk
      · intro wq zq
        go_simp
        try rfl
      go_frame
      apply tk 3 ta3 rfl (by kernel_rfl) (fun _ _ _ h => h) zk
      · intro wq zq
        obtain ⟨s1, s2, s3, s4⟩ := HG.out _ zq
        go_simp
        try rfl
      go_frame
      apply tk 4 ta4 rfl (by kernel_rfl) (fun _ _ _ h => h) zk
      · intro wq zq
        go_simp
        try rfl
      go_frame
      apply tk 5 ta5 rfl (by kernel_rfl) (fun _ _ _ h => h) zk
      · intro wq zq
        go_simp
        try rfl
      go_frame
      apply tk 6 ta6 rfl (by kernel_rfl) (fun _ _ _ h => h) zk
      · intro wq zq
        go_simp
        try rfl
      go_frame
      apply tk 7 ta7 rfl (by kernel_rfl) (fun _ _ _ h => h) zk
      · intro wq zq
        go_simp
        try rfl
      go_frame
      apply tk 8 ta8 rfl (by kernel_rfl) (fun _ _ _ h => h) zk
      · intro wq zq
        obtain ⟨s1, s2, s3, s4⟩ := HG.out _ zq
        go_simp
        try rfl
      go_frame
      apply tk 9 ta9 rfl (by kernel_rfl) (fun _ _ _ h => h) zk
      · intro wq zq
        go_simp
        try rfl
      go_frame
      apply tk 10 ta10 rfl (by kernel_rfl) (fun _ _ _ h => h) zk
      · intro wq zq
        go_simp
        try rfl
      go_frame
      apply tk 11 ta11 rfl (by kernel_rfl) (fun _ _ _ h => h) zk
      · intro wq zq
        go_simp
        try rfl
      go_frame
      apply tk 12 ta12 rfl (by kernel_rfl) (fun _ _ _ h => h) zk
      · intro wq zq
        go_simp
        try rfl
      go_frame
      apply tk 13 ta13 rfl (by kernel_rfl) (fun _ _ _ h => h) zk
      · intro wq zq
        obtain ⟨s1, s2, s3, s4⟩ := HG.out _ zq
        go_simp
        try rfl
      go_frame
      apply tk 14 ta14 rfl (by kernel_rfl) (fun _ _ _ h => h) zk
      · intro wq zq
        go_simp
        try rfl
      go_frame
      refine Go.Proofs.Ythnnpipekeanoaa.rd 15 ta15 rfl (by kernel_rfl) fun K hK => ?_
      refine step_delC (x := clR r) rfl (.tmp 26) (.tmp 37) rfl rfl TV.out.bk.cm rfl (fun W5 m5 c5 => ?_)
      have T5 := hide (show TS w W5 B p g c M C sl full (updW cl (clR r) none) n' Mb r ((i : Int) + 1) 3 en2 sl2 from ⟨TV.out.bk.claims (by rw [← HN'.out]; exact m5) c5, TV.out.li, TV.out.gr, TV.out.ch.trans c5 (fun y _ e => Or.inr (Or.inr (Or.inl e)))⟩)
      refine hK.out _ _ c5 (fun zk => ?_)
      clear hK K m5 c5
      try go_frame
      refine wpAnyH_done (by kernel_rfl) ?_ _
      clear HG TV
      have y0 : W5.cell? ⟨g, i * 18, none⟩ = some (.int .u32 sl[i].g) := T5.out.cells hi 0 _ (by decide) rfl
      have HT := T5.out.bk.there T5.out.len hi 0 18 (by omega)
      first | refine wp_anyH (take_r7 y0 HT ?_) | (go_step; first | refine wp_anyH (take_r7 y0 HT ?_) | (go_step; first | refine wp_anyH (take_r7 y0 HT ?_) | (go_step; refine wp_anyH (take_r7 y0 HT ?_))))
      intros
      dsimp only [Exit.inBlock, Exit.then]
      refine genK (R := fun W => Bk W B p (.slice (some ⟨g, 0, none⟩) sl.length c) M C (modS sl2 ((i : Int) + 1) (fun _ => zSl sl[i].g)) full en2 (updW cl (clR r) none) n' ∧ Ch (bkF p M C (.slice (some ⟨g, 0, none⟩) sl.length c)) w W) ⟨Bk.many hi (wipeO sl[i].g) W5 sl2 (wipe_good _) T5.out.bk T5.out.len, T5.out.ch.trans (wrs_ch (fun y => y = g) rfl i _ W5) (fun y _ (e : y = g) => Or.inr (Or.inr (Or.inr (by rw [e]; rfl))))⟩ ?_
      rintro W6 ⟨b6, c6⟩
      clear y0 HT
      have f1 := b6.cells.2.1
      have ff := frz b6.box 1
      have e8 : IntKind.u32.wrap ((i : Int) + 1 - 1) = (i : Int) := by rw [IntKind.wrap_u32]; omega
      have B8 := hide (fun f => b6.setF f)
      have C6 := hide c6
      clear b6 c6
      have hf0 := hf.1
      have hf1 := hf.2
      clear hf
      go_wp2_with fail
      all_goals
        go_end0
        refine ⟨rfl, sl2, en2, ?_, T5.out.li, T5.out.gr, C6.out.trans (Ch.set (Q := fun y => y = p) _ rfl _ _) (fun y _ e => Or.inl e)⟩
        first
          | (rw [← HF'.out, show min full (i : Int) = full by omega]; exact B8.out _)
          | (rw [← HF'.out, show min full (i : Int) = (i : Int) by omega]; exact B8.out _)

end Go.Proofs.Ythnnpipekeanoaa

namespace Go.Proofs.Ythnnpipekeanoaa
open Go.RowKit

theorem lkS_ne (sl : List Sl) (k : Nat) {s s' : Int} (h1 : 1 ≤ s') (hne : s ≠ s') (f : Sl → Sl) : lkS (modS sl s' f) k s = lkS sl k s := by
  unfold lkS modS
  by_cases h3 : 1 ≤ s
  · have : ¬ (s' - 1).toNat = (s - 1).toNat := by omega
    generalize (s - 1).toNat = i at this
    generalize (s' - 1).toNat = j at this
    simp [h3, this]
  · simp [h3]
theorem gr_wipe {sl sl' : List Sl} {i : Nat} (h : sl'.map Sl.gr = sl.map Sl.gr) (hi : i < sl.length) (f : Sl → Sl) (q : Int × Rc) (hf : ∀ z, z.gr = (sl[i]).gr → (f z).gr = q) : (modS sl' ((i : Int) + 1) f).map Sl.gr = (sl.map Sl.gr).set i q := by
  have hl := (gr_same h).1
  unfold modS
  rw [show ((i : Int) + 1 - 1).toNat = i by omega]
  refine List.ext_getElem (by simp [hl]) fun j h1 h2 => ?_
  rw [List.getElem_map, List.getElem_modify, List.getElem_set]
  have e : ∀ (j : Nat) (hj : j < sl'.length) (hj' : j < sl.length), sl'[j].gr = sl[j].gr := fun j hj hj' => by
    have := List.getElem_of_eq h (i := j) (by simpa using hj)
    simpa using this
  split
  · rename_i hij
    subst hij
    exact hf _ (e _ _ _)
  · rw [List.getElem_map]
    exact e _ _ _

section
variable {w : World} {B p M C n : Nat} {wv : Value} {A D : List Wt} {t : Wt} {sl : List Sl} {full : Int} {en : Ln → Option (Int × Int)} {cl : Int × Int × Int → Option Int}
theorem take_b (hb : Bk w B p wv M C sl full en cl n) (hl : sl.length ≤ 100001) (hI : BInv (A ++ t :: D) sl full en cl n) (ht : t.o = false) {i : Nat} (hm : t.r.ms = (i : Int) + 1) :
    Calls Try.prog 34 #[.pointer (some ⟨p, 0, none⟩), .int .u32 ((i : Int) + 1)] w fun e w' => e = .returned (.tuple #[]) ∧ ∃ sl' full' en' cl' n', Bk w' B p wv M C sl' full' en' cl' n' ∧ BInv (A ++ over t :: D) sl' full' en' cl' n' ∧ sl'.length = sl.length ∧ Ch (bkF p M C wv) w w' := by
  have hd := hI.dom t (by simp)
  have hi : i < sl.length := by omega
  have hr := hI.live t (by simp) ht i hi hm
  have hfl := hI.full_le
  have hs : ∀ k, k < 3 → ((i : Int) + 1) ∈ mbW (A ++ t :: D) (lnOf k t.r) := fun k hk => mbW_mem.2 ⟨t, by simp, stW_of hk ht, hm⟩
  have hc : (cl (clR t.r)).isSome = true := by
    have := hI.has t (by simp) ht
    unfold clT at this
    rw [this]
    rfl
  refine (take_is hb hl hI.lines (fun x s hs => (hI.bnd x s hs).2) hi hr hs ⟨hI.full0, by omega⟩ (n' := n - 1) (by rw [if_pos hc]) rfl).mono ?_
  rintro e w' ⟨rfl, sl', en', b', l', g', c'⟩
  rw [← hm, cut_mb hI.one ht] at l'
  have gw := gr_wipe (f := fun _ => zSl sl[i].g) g' hi (sl[i].g, zRc) (fun z _ => rfl)
  refine ⟨rfl, _, _, en', _, n - 1, b', hI.cut ht hi hm (l'.congr fun x s hx => ?_) gw rfl, by rw [modS_len]; exact (gr_same g').1, c'⟩
  refine lkS_ne _ _ (by omega) (fun e => ?_) _
  obtain ⟨u, h1, h2, h3⟩ := mbW_mem.1 hx
  have hu := mem_over h1 (stW_live h2)
  have := hu.elim (fun h => ((one_A hI.one ht).1 u h (stW_live h2)).1) (fun h => ((one_A hI.one ht).2 u h (stW_live h2)).1)
  exact this (by rw [h3, e, hm])
end

theorem cut_split {l : List Wt} {s g : Int} {k : Nat} (h : fndW l s g = some k) : ∃ A t D, l = A ++ t :: D ∧ t.o = false ∧ t.r.ms = s ∧ t.r.mg = g ∧ cutW l s g = A ++ over t :: D := by
  obtain ⟨hk, h1, h2, h3⟩ := fndW_some h
  have hs : l = l.take k ++ l[k] :: l.drop (k + 1) := by rw [List.getElem_cons_drop, List.take_append_drop]
  refine ⟨l.take k, l[k], l.drop (k + 1), hs, h1, h2, h3, ?_⟩
  unfold cutW
  rw [h]
  show l.modify k over = _
  rw [List.modify_eq_take_cons_drop hk]

set_option maxRecDepth 100000 in
set_option maxHeartbeats 8000000 in
theorem cut_b {w : World} {B p M C n : Nat} {wv : Value} {l : List Wt} {sl : List Sl} {full : Int} {en : Ln → Option (Int × Int)} {cl : Int × Int × Int → Option Int} (hb : Bk w B p wv M C sl full en cl n) (hl : sl.length ≤ 100001) (hi : BInv l sl full en cl n) {s g : Int} (hu : 0 ≤ s ∧ s ≤ 4294967295) :
    Calls Try.prog 15 #[.pointer (some ⟨p, 0, none⟩), hvW s g] w fun e w' => e = .returned (.int .i64 (ecB (fnW l s g) 111)) ∧ ∃ sl' full' en' cl' n', Bk w' B p wv M C sl' full' en' cl' n' ∧ BInv (cutW l s g) sl' full' en' cl' n' ∧ sl'.length = sl.length ∧ Ch (bkF p M C wv) w w' := by
  obtain ⟨w1, hw1⟩ : ∃ w1, w.alloc (.cells #[.int .u32 s, .int .u32 g] 41) = w1 := ⟨_, rfl⟩
  have hB1 : Below w.heap.size w w1 := by rw [← hw1]; exact below1 _ _
  have hh : w1.heap[w.heap.size]? = some (.cells #[.int .u32 s, .int .u32 g] 41 (0, 0)) := by rw [← hw1]; exact heap_new _ _
  have x0 : w1.cell? ⟨w.heap.size, 0, none⟩ = some (.int .u32 s) := by simp [Lib.cell_of_heap hh]
  have x1 : w1.cell? ⟨w.heap.size, 1, none⟩ = some (.int .u32 g) := by simp [Lib.cell_of_heap hh]
  have HB := hide hB1
  have HK := hide (hb.below hB1)
  have HI := hide hi
  have HH := hide hh
  clear hB1 hh hb hi
  go_enter Try.func15, Try.ntmps15
  go_wp2_with fail
  refine (know_b HK.out hl HI.out hu).mono ?_
  rintro e W2 ⟨rfl, h2⟩
  have H2 := hide h2
  have xs : W2.cell? ⟨w.heap.size, 0, none⟩ = some (.int .u32 s) := by simp [Lib.cell_of_heap ((Ch.of_below (Q := fun _ => False) h2).box HH.out (fun h => h))]
  have BW := hide (HK.out.below h2)
  clear h2 hw1 x0 x1
  cases hf : fndW l s g with
  | none =>
    have hq : fnW l s g = false := by unfold fnW; rw [hf]; rfl
    have hcw : cutW l s g = l := by unfold cutW; rw [hf]
    have HC := hide hcw
    have e1 : ecB (fnW l s g) 111 = 111 := by rw [hq]; rfl
    have HE := hide e1
    clear hcw hq hf
    go_wp2_with fail
    go_ret
    exact ⟨ret_int HE.out.symm, sl, full, en, cl, n, BW.out, by rw [HC.out]; exact HI.out, rfl, Ch.of_below (HB.out.trans (H2.out.mono HB.out.size))⟩
  | some k =>
    have hq : fnW l s g = true := by unfold fnW; rw [hf]; rfl
    obtain ⟨A, t, D, hl', ht, hms, hmg, hcw⟩ := cut_split hf
    have e1 : ecB (fnW l s g) 111 = 0 := by rw [hq]; rfl
    have HE := hide e1
    have HC := hide hcw
    have hI := HI.out
    rw [hl'] at hI
    obtain ⟨i, hi', hs⟩ := idx_of (s := s) (n := sl.length) (by rw [← hms]; have := hI.dom t (by simp); omega) (by rw [← hms]; have := hI.dom t (by simp); omega)
    subst hs
    have HT := hide (take_b BW.out hl hI ht hms)
    rw [e1]
    clear hcw hq hf hI ht hms hmg hl' hu e1
    go_wp2_with fail
    refine HT.out.mono ?_
    rintro e W3 ⟨rfl, sl', full', en', cl', n', b', i', l3, c'⟩
    have H3 := hide (And.intro b' (And.intro i' (And.intro l3 c')))
    clear b' i' l3 c'
    go_wp2_with fail
    go_ret
    exact ⟨ret_int HE.out.symm, sl', full', en', cl', n', H3.out.1, by rw [HC.out]; exact H3.out.2.1, H3.out.2.2.1, (Ch.of_below (HB.out.trans (H2.out.mono HB.out.size))).trans H3.out.2.2.2 (fun _ _ h => h)⟩

end Go.Proofs.Ythnnpipekeanoaa

namespace Go.Proofs.Ythnnpipekeanoaa
open Go.RowKit

abbrev lv0 : Oper := { dst := some 9, op := Op.move (Operand.tmp 0), type := 25, pos := "waitq.go:96", after := #[], guard := none }
abbrev lv1 : Oper := { dst := some 10, op := Op.nilCheck (Operand.tmp 9), type := 0, pos := "waitq.go:96", after := #[{ on := 0, ground := Ground.data }], guard := none }
abbrev lv2 : Oper := { dst := some 11, op := Op.fieldAddr 73 (Operand.tmp 10) 2, type := 0, pos := "waitq.go:96", after := #[{ on := 1, ground := Ground.data }], guard := none }
abbrev lv3 : Oper := { dst := some 12, op := Op.load 69 (Operand.tmp 11), type := 69, pos := "waitq.go:96", after := #[{ on := 2, ground := Ground.data }], guard := none }
abbrev lv4 : Oper := { dst := some 13, op := Op.load 41 (Operand.tmp 3), type := 41, pos := "waitq.go:96", after := #[], guard := none }
abbrev lv5 : Oper := { dst := some 14, op := Op.build 80 #[(0, Operand.const (Value.int IntKind.i64 1)), (2, Operand.tmp 13)], type := 80, pos := "waitq.go:96", after := #[{ on := 4, ground := Ground.data }], guard := none }
abbrev lv6 : Oper := { dst := some 15, op := Op.lookup 69 (Operand.tmp 12) (Operand.tmp 14) false, type := 83, pos := "waitq.go:96", after := #[{ on := 3, ground := Ground.data }, { on := 5, ground := Ground.data }], guard := none }
abbrev lv7 : Oper := { dst := some 6, op := Op.alloc 83, type := 0, pos := "waitq.go:96", after := #[], guard := none }
abbrev lv8 : Oper := { dst := none, op := Op.store 83 (Operand.tmp 6) (Operand.tmp 15), type := 0, pos := "waitq.go:96", after := #[{ on := 7, ground := Ground.data }, { on := 6, ground := Ground.data }, { on := 0, ground := Ground.phase }, { on := 1, ground := Ground.phase }, { on := 2, ground := Ground.phase }, { on := 3, ground := Ground.phase }, { on := 4, ground := Ground.phase }, { on := 5, ground := Ground.phase }, { on := 6, ground := Ground.phase }, { on := 7, ground := Ground.phase }], guard := none }

theorem leaW_over {A D : List Wt} {t : Wt} {s g : Int} (h : isWho s g t = true) : leaW (A ++ over t :: D) s g = leaW (A ++ t :: D) s g ∧ leaN (A ++ t :: D) s g = leaN (A ++ over t :: D) s g + 1 := by
  have ho : isWho s g (over t) = false := by simp [isWho, over]
  constructor
  · simp [leaW, h, ho]
  · simp only [leaN, List.countP_append, List.countP_cons, h, ho]
    simp
    omega
theorem leaW_none {l : List Wt} {s g : Int} (h : leaN l s g = 0) : leaW l s g = l := by
  unfold leaW
  refine List.ext_getElem (by simp) fun i h1 h2 => ?_
  rw [List.getElem_map]
  unfold leaN at h
  rw [List.countP_eq_zero] at h
  rw [if_neg (h _ (List.getElem_mem _))]
theorem leaN_sel (l : List Wt) (s g : Int) : leaN l s g = (mbW l ⟨1, 0, 0, 0, s, g⟩).length := by
  rw [mbW_len, stW_who]
  unfold leaN sel
  rw [List.length_map, List.countP_eq_length_filter]

/-- Leave, on its way -/
structure LvS (w W : World) (B p M C : Nat) (wv : Value) (s g : Int) (l l2 : List Wt) (len : Nat) : Prop where
  bk : ∃ sl full en cl n, Bk W B p wv M C sl full en cl n ∧ BInv l2 sl full en cl n ∧ sl.length = len
  nA : W.heap[w.heap.size]? = some (.cells #[.int .u32 s, .int .u32 g] 41 (0, 0))
  ch : Ch (bkF p M C wv) w W
  lw : leaW l2 s g = leaW l s g

theorem LvS.quiet {w W W' : World} {B p M C len : Nat} {wv : Value} {s g : Int} {l l2 : List Wt} (h : LvS w W B p M C wv s g l l2 len) (hc : Ch (fun _ => False) W W') : LvS w W' B p M C wv s g l l2 len := by
  obtain ⟨sl, full, en, cl, n, b, i, e⟩ := h.bk
  exact ⟨⟨sl, full, en, cl, n, b.ch hc (fun _ _ h => h), i, e⟩, hc.box h.nA (fun h => h), h.ch.trans hc (fun _ _ h => h.elim), h.lw⟩

set_option maxRecDepth 100000 in
set_option maxHeartbeats 8000000 in
theorem leave_b {w : World} {B p M C n0 : Nat} {wv : Value} {l : List Wt} {sla : List Sl} {full0 : Int} {en0 : Ln → Option (Int × Int)} {cl0 : Int × Int × Int → Option Int} (hb : Bk w B p wv M C sla full0 en0 cl0 n0) (hl : sla.length ≤ 100001) (hll : l.length ≤ 100000) (hi : BInv l sla full0 en0 cl0 n0) (s g : Int) :
    Calls Try.prog 16 #[.pointer (some ⟨p, 0, none⟩), hvW s g] w fun e w' => e = .returned (.int .i64 (leaN l s g : Int)) ∧ ∃ sl' full' en' cl' n', Bk w' B p wv M C sl' full' en' cl' n' ∧ BInv (leaW l s g) sl' full' en' cl' n' ∧ sl'.length = sla.length ∧ Ch (bkF p M C wv) w w' := by
  obtain ⟨w1, hw1⟩ : ∃ w1, w.alloc (.cells #[.int .u32 s, .int .u32 g] 41) = w1 := ⟨_, rfl⟩
  have hB1 : Below w.heap.size w w1 := by rw [← hw1]; exact below1 _ _
  have hh : w1.heap[w.heap.size]? = some (.cells #[.int .u32 s, .int .u32 g] 41 (0, 0)) := by rw [← hw1]; exact heap_new _ _
  obtain ⟨sl0, hsl0⟩ : ∃ k, sla.length = k := ⟨_, rfl⟩
  have T1 := hide (show LvS w w1 B p M C wv s g l l sl0 from ⟨⟨_, _, _, _, _, hb.below hB1, hi, hsl0⟩, hh, Ch.of_below hB1, rfl⟩)
  have HFT := hide (fun y hy => (hb.foot y hy).2)
  rw [hsl0] at hl ⊢
  clear hB1 hh hb hi hsl0
  have hn := List.countP_le_length (p := isWho s g) (l := l)
  have hn : leaN l s g ≤ l.length := hn
  go_enter Try.func16, Try.ntmps16
  go_wp2_with fail
  go_step3
  go_wp2_with fail
  go_step3
  go_wp2_with fail
  clear hw1
  go_loopw [5] (fun iv wr => ∃ (k : Nat) (l2 : List Wt), iv = .int .i64 (k : Int) ∧ k + leaN l2 s g = leaN l s g ∧ Hid (LvS w wr B p M C wv s g l l2 sl0)) (fun iv _ => leaN l s g - (intOf iv).toNat)
  case atStart => exact ⟨0, l, rfl, by omega, T1⟩
  case round =>
    obtain ⟨k, l2, rfl, hkl, HI⟩ := hrel
    obtain ⟨W2', rfl⟩ : ∃ x, x = wr := ⟨_, rfl⟩
    have t2 := HI.out
    go_wp2_with fail
    refine wp_reg (fun _ => False) (R := fun W => LvS w W B p M C wv s g l l2 sl0) (by kernel_rfl) (t2.quiet (Ch.drew _)) ?_
    rintro V v zk
    have TV := hide v
    clear v
    have HG := hide (fun wq (zq : Ch (fun _ => False) V wq) => have e := Lib.cell_of_heap (zq.box TV.out.nA (fun h => h)); show wq.cell? ⟨p, 2, none⟩ = some (.map (some M)) ∧ wq.cell? ⟨w.heap.size, 0, none⟩ = some (.int .u32 s) ∧ wq.cell? ⟨w.heap.size, 1, none⟩ = some (.int .u32 g) from by
      obtain ⟨sl, full, en, cl, n, b, -⟩ := TV.out.bk
      exact ⟨(b.ch zq (fun _ _ h => h)).cells.2.2.1, by simp [e], by simp [e]⟩)
    obtain ⟨sl, full, en, cl, n, bv, iv, hsl⟩ := TV.out.bk
    have HBV := hide bv
    have HIV := hide iv
    clear bv iv
    have hen := HIV.out.lines.en ⟨1, 0, 0, 0, s, g⟩
    have hls := leaN_sel l2 s g
    cases hL : mbW l2 ⟨1, 0, 0, 0, s, g⟩ with
    | nil =>
      rw [hL] at hen hls
      obtain ⟨e2, he2⟩ : ∃ e2, e0 (en ⟨1, 0, 0, 0, s, g⟩) = (0, e2) := ⟨0, by rw [hen]; rfl⟩
      have HEN := hide he2
      have hz : leaN l2 s g = 0 := hls
      have HW := hide (show leaW l s g = l2 by rw [← TV.out.lw]; exact leaW_none hz)
      have HKK := hide (show (k : Int) = (leaN l s g : Int) by omega)
      clear hen hls hL he2 hkl hz hn
      apply tk 0 lv0 rfl (by kernel_rfl) (fun _ _ _ h => h) zk
      · intro wq zq
        go_simp
        try rfl
      go_frame
      apply tk 1 lv1 rfl (by kernel_rfl) (fun _ _ _ h => h) zk
      · intro wq zq
        go_simp
        try rfl
      go_frame
      apply tk 2 lv2 rfl (by kernel_rfl) (fun _ _ _ h => h) zk
      · intro wq zq
        go_simp
        try rfl
      go_frame
      apply tk 3 lv3 rfl (by kernel_rfl) (fun _ _ _ h => h) zk
      · intro wq zq
        obtain ⟨s1, s2, s3⟩ := HG.out _ zq
        go_simp
        try rfl
      go_frame
      apply tk 4 lv4 rfl (by kernel_rfl) (fun _ _ _ h => h) zk
      · intro wq zq
        obtain ⟨s1, s2, s3⟩ := HG.out _ zq
        go_simp
        try rfl
      go_frame
      apply tk 5 lv5 rfl (by kernel_rfl) (fun _ _ _ h => h) zk
      · intro wq zq
        go_simp
        try rfl
      go_frame
      apply tk 6 lv6 rfl (by kernel_rfl) (fun _ _ _ h => h) zk
      · intro wq zq
        exact (val_lookL (x := ⟨1, 0, 0, 0, s, g⟩) (.tmp 12) (.tmp 14) rfl rfl rfl ((HBV.out.ch zq (fun _ _ h => h)).mp)).trans (by rw [HEN.out])
      go_frame
      refine Go.Proofs.Ythnnpipekeanoaa.rd 7 lv7 rfl (by kernel_rfl) fun K hK => ?_
      go_simp
      refine genK (R := fun W => Ch (fun _ => False) V W ∧ W.heap[V.heap.size]? = some (.cells #[.int .u32 0, .int .u32 0] 83 (0, 0))) ⟨zk.trans (Ch.alloc _ _) (fun _ _ h => h), heap_new _ _⟩ ?_
      rintro W2 ⟨c2, nE⟩
      clear zk
      refine hK.out _ _ ?_ (fun zk => ?_)
      · exact c2
      clear hK K
      try go_frame
      refine Go.Proofs.Ythnnpipekeanoaa.rd 8 lv8 rfl (by kernel_rfl) fun K hK => ?_
      have y0 := Lib.cell_of_heap nE
      have y1 := frz nE
      go_simp
      refine genK (R := fun W => Ch (fun _ => False) V W ∧ W.heap[V.heap.size]? = some (.cells #[.int .u32 0, .int .u32 e2] 83 (0, 0))) ⟨(c2.set_new (Nat.le_refl _) 0 _).set_new (Nat.le_refl _) 1 _, set2 nE⟩ ?_
      rintro W3 ⟨c3, mE⟩
      clear zk
      refine hK.out _ _ ?_ (fun zk => ?_)
      · exact c3
      clear hK K
      try go_frame
      clear y0 y1 nE c2
      refine wpAnyH_done (by kernel_rfl) ?_ _
      have ye := Lib.cell_of_heap mE
      have C3 := hide c3
      clear c3
      go_wp2_with fail
      rw [Exit.noGoto_ret]
      go_ret
      refine ⟨ret_int HKK.out, sl, full, en, cl, n, HBV.out.ch C3.out (fun _ _ h => h), by rw [HW.out]; exact HIV.out, hsl, TV.out.ch.trans C3.out (fun _ _ h => h.elim)⟩
    | cons s0 L' =>
      obtain ⟨t, ht1, ht2, ht3⟩ := mbW_mem.1 (show s0 ∈ mbW l2 ⟨1, 0, 0, 0, s, g⟩ by rw [hL]; simp)
      obtain ⟨A, D, hAD⟩ := List.append_of_mem ht1
      have hwho : isWho s g t = true := by rw [← stW_who]; exact ht2
      have hlive := stW_live ht2
      have iv := HIV.out
      rw [hAD] at iv hkl
      obtain ⟨i, hi', hs0⟩ := idx_of (s := t.r.ms) (n := sl.length) (by have := iv.dom t (by simp); omega) (by have := iv.dom t (by simp); omega)
      obtain ⟨q1, q2⟩ := leaW_over (A := A) (D := D) hwho
      rw [hL] at hen
      obtain ⟨e2, he2⟩ : ∃ e2, e0 (en ⟨1, 0, 0, 0, s, g⟩) = ((i : Int) + 1, e2) := ⟨L'.getLastD s0, by rw [hen]; show (s0, L'.getLastD s0) = _; rw [← ht3, hs0]⟩
      have HEN := hide he2
      have qz : (((i : Int) + 1) == 0) = false := by simp; omega
      have HLW := hide (show leaW (A ++ over t :: D) s g = leaW l s g by rw [q1, ← hAD]; exact TV.out.lw)
      have HKL := hide (show (k + 1) + leaN (A ++ over t :: D) s g = leaN l s g by omega)
      have HTK := hide (fun (W : World) (c : Ch (fun _ => False) V W) => take_b (HBV.out.ch c (fun _ _ h => h)) (by rw [hsl]; exact hl) iv hlive hs0)
      clear hen hls hL he2 ht1 ht2 ht3 hwho hlive iv q1 q2 hAD hkl hs0
      apply tk 0 lv0 rfl (by kernel_rfl) (fun _ _ _ h => h) zk
      · intro wq zq
        go_simp
        try rfl
      go_frame
      apply tk 1 lv1 rfl (by kernel_rfl) (fun _ _ _ h => h) zk
      · intro wq zq
        go_simp
        try rfl
      go_frame
      apply tk 2 lv2 rfl (by kernel_rfl) (fun _ _ _ h => h) zk
      · intro wq zq
        go_simp
        try rfl
      go_frame
      apply tk 3 lv3 rfl (by kernel_rfl) (fun _ _ _ h => h) zk
      · intro wq zq
        obtain ⟨s1, s2, s3⟩ := HG.out _ zq
        go_simp
        try rfl
      go_frame
      apply tk 4 lv4 rfl (by kernel_rfl) (fun _ _ _ h => h) zk
      · intro wq zq
        obtain ⟨s1, s2, s3⟩ := HG.out _ zq
        go_simp
        try rfl
      go_frame
      apply tk 5 lv5 rfl (by kernel_rfl) (fun _ _ _ h => h) zk
      · intro wq zq
        go_simp
        try rfl
      go_frame
      apply tk 6 lv6 rfl (by kernel_rfl) (fun _ _ _ h => h) zk
      · intro wq zq
        exact (val_lookL (x := ⟨1, 0, 0, 0, s, g⟩) (.tmp 12) (.tmp 14) rfl rfl rfl ((HBV.out.ch zq (fun _ _ h => h)).mp)).trans (by rw [HEN.out])
      go_frame
      refine Go.Proofs.Ythnnpipekeanoaa.rd 7 lv7 rfl (by kernel_rfl) fun K hK => ?_
      go_simp
      refine genK (R := fun W => Ch (fun _ => False) V W ∧ W.heap[V.heap.size]? = some (.cells #[.int .u32 0, .int .u32 0] 83 (0, 0))) ⟨zk.trans (Ch.alloc _ _) (fun _ _ h => h), heap_new _ _⟩ ?_
      rintro W2 ⟨c2, nE⟩
      clear zk
      refine hK.out _ _ ?_ (fun zk => ?_)
      · exact c2
      clear hK K
      try go_frame
      refine Go.Proofs.Ythnnpipekeanoaa.rd 8 lv8 rfl (by kernel_rfl) fun K hK => ?_
      have y0 := Lib.cell_of_heap nE
      have y1 := frz nE
      go_simp
      refine genK (R := fun W => Ch (fun _ => False) V W ∧ W.heap[V.heap.size]? = some (.cells #[.int .u32 ((i : Int) + 1), .int .u32 e2] 83 (0, 0))) ⟨(c2.set_new (Nat.le_refl _) 0 _).set_new (Nat.le_refl _) 1 _, set2 nE⟩ ?_
      rintro W3 ⟨c3, mE⟩
      clear zk
      refine hK.out _ _ ?_ (fun zk => ?_)
      · exact c3
      clear hK K
      try go_frame
      clear y0 y1 nE c2
      refine wpAnyH_done (by kernel_rfl) ?_ _
      have ye := Lib.cell_of_heap mE
      have C3 := hide c3
      clear c3
      go_wp2_with fail
      refine (HTK.out _ C3.out).mono ?_
      rintro e W4 ⟨rfl, sl', full', en', cl', n', b', i', l3, c'⟩
      have hlo : ¬ bkF p M C wv w.heap.size := fun h => by
        have := HFT.out _ h
        omega
      have T4 := hide (show LvS w W4 B p M C wv s g l (A ++ over t :: D) sl0 from ⟨⟨sl', full', en', cl', n', b', i', l3.trans hsl⟩, c'.box (C3.out.box TV.out.nA (fun h => h)) hlo, (TV.out.ch.trans C3.out (fun _ _ h => h.elim)).trans c' (fun _ _ h => h), HLW.out⟩)
      clear b' i' l3 c' hlo
      have ew : IntKind.i64.wrap ((k : Int) + 1) = (k : Int) + 1 := by have := HKL.out; rw [IntKind.wrap_i64]; omega
      go_wp2_with fail
      go_roundw
      case rel => exact ⟨k + 1, A ++ over t :: D, by go_num, HKL.out, T4⟩
      case measure => have := HKL.out; simp [intOf]; omega

end Go.Proofs.Ythnnpipekeanoaa
