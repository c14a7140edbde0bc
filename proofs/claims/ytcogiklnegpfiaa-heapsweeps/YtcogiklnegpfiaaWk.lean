/- Layer 13: HeapSweeps' walk. -/
import Derived.Test.YtcogiklnegpfiaaWj
import Derived.Test.YtcogiklnegpfiaaLi
namespace Go.Proofs.Ytcogiklnegpfiaa
open Go.RowKit Go.Shelf

abbrev lk0 : Oper := { dst := some 117, op := Op.move (Operand.tmp 9), type := 28, pos := "law.go:241", after := #[], guard := none }
abbrev lk1 : Oper := { dst := some 118, op := Op.move (Operand.tmp 9), type := 28, pos := "law.go:241", after := #[], guard := none }
abbrev lk2 : Oper := { dst := some 119, op := Op.nilCheck (Operand.tmp 118), type := 0, pos := "law.go:241", after := #[{ on := 1, ground := Ground.data }], guard := none }
abbrev lk3 : Oper := { dst := some 120, op := Op.fieldAddr 37 (Operand.tmp 119) 2, type := 0, pos := "law.go:241", after := #[{ on := 2, ground := Ground.data }], guard := none }
abbrev lk4 : Oper := { dst := some 121, op := Op.load 33 (Operand.tmp 120), type := 33, pos := "law.go:241", after := #[{ on := 3, ground := Ground.data }], guard := none }
abbrev lk5 : Oper := { dst := some 122, op := Op.load 43 (Operand.tmp 12), type := 43, pos := "law.go:241", after := #[], guard := none }
abbrev lk6 : Oper := { dst := some 123, op := Op.move (Operand.tmp 9), type := 28, pos := "law.go:241", after := #[], guard := none }
abbrev lk7 : Oper := { dst := some 124, op := Op.fieldAddr 45 (Operand.tmp 11) 2, type := 0, pos := "law.go:241", after := #[], guard := none }
abbrev lk8 : Oper := { dst := some 125, op := Op.load 3 (Operand.tmp 124), type := 3, pos := "law.go:241", after := #[{ on := 7, ground := Ground.data }], guard := none }
abbrev lk9 : Oper := { dst := some 126, op := Op.load 45 (Operand.tmp 11), type := 45, pos := "law.go:241", after := #[], guard := none }
abbrev lk10 : Oper := { dst := some 127, op := Op.call { callee := Callee.value (Operand.func 14), args := #[Operand.tmp 123, Operand.tmp 125, Operand.tmp 126], argTypes := #[28, 3, 45] }, type := 43, pos := "law.go:241", after := #[{ on := 6, ground := Ground.data }, { on := 8, ground := Ground.data }, { on := 9, ground := Ground.data }], guard := none }
abbrev lk11 : Oper := { dst := some 128, op := Op.build 51 #[(0, Operand.tmp 122), (1, Operand.tmp 127)], type := 51, pos := "law.go:241", after := #[{ on := 5, ground := Ground.data }, { on := 10, ground := Ground.data }], guard := none }
abbrev lk12 : Oper := { dst := some 129, op := Op.buildSlice 33 1 #[(0, Operand.tmp 128)], type := 33, pos := "law.go:241", after := #[{ on := 11, ground := Ground.data }], guard := none }
abbrev lk13 : Oper := { dst := some 130, op := Op.call { callee := Callee.builtin Builtin.append, args := #[Operand.tmp 121, Operand.tmp 129], argTypes := #[33, 33] }, type := 33, pos := "law.go:241", after := #[{ on := 4, ground := Ground.data }, { on := 12, ground := Ground.data }, { on := 10, ground := Ground.chain }], guard := none }
abbrev lk14 : Oper := { dst := some 131, op := Op.nilCheck (Operand.tmp 117), type := 0, pos := "law.go:241", after := #[{ on := 0, ground := Ground.data }, { on := 0, ground := Ground.phase }, { on := 1, ground := Ground.phase }, { on := 2, ground := Ground.phase }, { on := 3, ground := Ground.phase }, { on := 4, ground := Ground.phase }, { on := 5, ground := Ground.phase }, { on := 6, ground := Ground.phase }, { on := 7, ground := Ground.phase }, { on := 8, ground := Ground.phase }, { on := 9, ground := Ground.phase }, { on := 10, ground := Ground.phase }, { on := 11, ground := Ground.phase }, { on := 12, ground := Ground.phase }, { on := 13, ground := Ground.phase }], guard := none }
abbrev lk15 : Oper := { dst := some 132, op := Op.fieldAddr 37 (Operand.tmp 131) 2, type := 0, pos := "law.go:241", after := #[{ on := 14, ground := Ground.data }, { on := 0, ground := Ground.phase }, { on := 1, ground := Ground.phase }, { on := 2, ground := Ground.phase }, { on := 3, ground := Ground.phase }, { on := 4, ground := Ground.phase }, { on := 5, ground := Ground.phase }, { on := 6, ground := Ground.phase }, { on := 7, ground := Ground.phase }, { on := 8, ground := Ground.phase }, { on := 9, ground := Ground.phase }, { on := 10, ground := Ground.phase }, { on := 11, ground := Ground.phase }, { on := 12, ground := Ground.phase }, { on := 13, ground := Ground.phase }], guard := none }
abbrev lk16 : Oper := { dst := none, op := Op.store 33 (Operand.tmp 132) (Operand.tmp 130), type := 0, pos := "law.go:241", after := #[{ on := 15, ground := Ground.data }, { on := 13, ground := Ground.data }, { on := 13, ground := Ground.chain }, { on := 0, ground := Ground.phase }, { on := 1, ground := Ground.phase }, { on := 2, ground := Ground.phase }, { on := 3, ground := Ground.phase }, { on := 4, ground := Ground.phase }, { on := 5, ground := Ground.phase }, { on := 6, ground := Ground.phase }, { on := 7, ground := Ground.phase }, { on := 8, ground := Ground.phase }, { on := 9, ground := Ground.phase }, { on := 10, ground := Ground.phase }, { on := 11, ground := Ground.phase }, { on := 12, ground := Ground.phase }, { on := 13, ground := Ground.phase }], guard := none }
abbrev tl0 : Oper := { dst := some 99, op := Op.move (Operand.tmp 9), type := 28, pos := "law.go:260", after := #[], guard := none }
abbrev tl1 : Oper := { dst := some 100, op := Op.move (Operand.tmp 9), type := 28, pos := "law.go:260", after := #[], guard := none }
abbrev tl2 : Oper := { dst := some 101, op := Op.nilCheck (Operand.tmp 100), type := 0, pos := "law.go:260", after := #[{ on := 1, ground := Ground.data }], guard := none }
abbrev tl3 : Oper := { dst := some 102, op := Op.fieldAddr 37 (Operand.tmp 101) 3, type := 0, pos := "law.go:260", after := #[{ on := 2, ground := Ground.data }], guard := none }
abbrev tl4 : Oper := { dst := some 103, op := Op.load 34 (Operand.tmp 102), type := 34, pos := "law.go:260", after := #[{ on := 3, ground := Ground.data }], guard := none }
abbrev tl5 : Oper := { dst := some 104, op := Op.load 43 (Operand.tmp 15), type := 43, pos := "law.go:260", after := #[], guard := none }
abbrev tl6 : Oper := { dst := some 105, op := Op.buildSlice 34 1 #[(0, Operand.tmp 104)], type := 34, pos := "law.go:260", after := #[{ on := 5, ground := Ground.data }], guard := none }
abbrev tl7 : Oper := { dst := some 106, op := Op.call { callee := Callee.builtin Builtin.append, args := #[Operand.tmp 103, Operand.tmp 105], argTypes := #[34, 34] }, type := 34, pos := "law.go:260", after := #[{ on := 4, ground := Ground.data }, { on := 6, ground := Ground.data }], guard := none }
abbrev tl8 : Oper := { dst := some 107, op := Op.nilCheck (Operand.tmp 99), type := 0, pos := "law.go:260", after := #[{ on := 0, ground := Ground.data }, { on := 0, ground := Ground.phase }, { on := 1, ground := Ground.phase }, { on := 2, ground := Ground.phase }, { on := 3, ground := Ground.phase }, { on := 4, ground := Ground.phase }, { on := 5, ground := Ground.phase }, { on := 6, ground := Ground.phase }, { on := 7, ground := Ground.phase }], guard := none }
abbrev tl9 : Oper := { dst := some 108, op := Op.fieldAddr 37 (Operand.tmp 107) 3, type := 0, pos := "law.go:260", after := #[{ on := 8, ground := Ground.data }, { on := 0, ground := Ground.phase }, { on := 1, ground := Ground.phase }, { on := 2, ground := Ground.phase }, { on := 3, ground := Ground.phase }, { on := 4, ground := Ground.phase }, { on := 5, ground := Ground.phase }, { on := 6, ground := Ground.phase }, { on := 7, ground := Ground.phase }], guard := none }
abbrev tl10 : Oper := { dst := none, op := Op.store 34 (Operand.tmp 108) (Operand.tmp 106), type := 0, pos := "law.go:260", after := #[{ on := 9, ground := Ground.data }, { on := 7, ground := Ground.data }, { on := 7, ground := Ground.chain }, { on := 0, ground := Ground.phase }, { on := 1, ground := Ground.phase }, { on := 2, ground := Ground.phase }, { on := 3, ground := Ground.phase }, { on := 4, ground := Ground.phase }, { on := 5, ground := Ground.phase }, { on := 6, ground := Ground.phase }, { on := 7, ground := Ground.phase }], guard := none }

theorem info_lk : (Try.prog.info? 51).map (fun i => (i.zero, i.size, i.bytes)) = some (some (.agg #[.int .u32 0, .int .u32 0, .int .u32 0, .int .u32 0]), 4, 16) := by kernel_rfl
theorem blk_apart {w : World} {a b : Nat} {cs cs' : Array Value} {T T' : TypeId} {r r' : Nat × Nat} (h : w.heap[a]? = some (.cells cs T r)) (h' : w.heap[b]? = some (.cells cs' T' r')) (hT : T ≠ T') : ¬ a = b := fun e => by
  subst e
  rw [h] at h'
  injection h' with h'
  injection h' with _ h2 _
  exact hT h2

theorem row_two' {w : World} {B n c : Nat} {ea : Option Addr} {hs : List Hd} (h : Row hF 2 43 w B (.slice ea n c) hs) (hn : hs.length = n) {k : Nat} (hk : k < hs.length) : ∃ (bl : Nat) (x : Hd), ea = some ⟨bl, 0, none⟩ ∧ w.cell? ⟨bl, k * 2, none⟩ = some (.int .u32 x.1) ∧ w.cell? ⟨bl, k * 2 + 1, none⟩ = some (.int .u32 x.2) ∧ True ∧ (x.1, x.2) = hs[k] := by
  subst hn
  obtain ⟨g', c', cur, e, _, _, _, hcur, _, hc⟩ := h.at hF_len (by omega)
  injection e with e1 e2 e3
  subst e1
  exact ⟨g', hs[k], rfl, hc k hk 0 _ rfl, hc k hk 1 _ rfl, trivial, rfl⟩

/-- an op that came in, with its roots -/
def OpAt (w : World) (b o : Nat) (y : Oq × List Int) : Prop := (∀ j u, (opF y.1)[j]? = some u → w.cell? ⟨b, o + j, none⟩ = some u) ∧ RtsAt w.heap.size w y.1 y.2 ∧ I64 y.1.a ∧ I64 y.1.b ∧ Us y.1.s

set_option maxRecDepth 100000 in
set_option maxHeartbeats 16000000 in
theorem sweepsL_is {w : World} {size : Int} (hs0 : I64 size) {v : Value} {ops : List (Oq × List Int)} (hv : Lst w.heap.size 8 (OpAt w) v ops) :
    Calls Try.prog 4 #[.int .i64 size, v] w fun e w' => e = .returned (.bool true) ∧ Below w.heap.size w w' := by
  obtain ⟨sb, so, ⟨sa, sc, rfl, hsc, hsn, hsa⟩, hop⟩ := hv
  have hpk := (pkW_is (c := size) (n := 500) (by decide) rfl).1
  have HPK := hide (show ∀ V, Calls Try.prog 13 #[.int .i64 size, .int .i64 500] V fun e w' => e = .returned (.int .i64 (pkW size 500 : Int)) ∧ w' = V from fun V => picks_is hs0 (n := 500) (by decide) (by decide) V)
  have HSA := hide hsa
  have HOP := hide hop
  clear hsa hop hsc
  go_enter Try.func4, Try.ntmps4
  go_wp2_with fail
  refine (awake_is w).mono ?_
  rintro e w1 ⟨rfl, hb1⟩
  have B1 := hide hb1
  clear hb1
  go_wp2_with fail
  refine (HPK.out w1).mono ?_
  rintro e w2 ⟨rfl, rfl⟩
  generalize pkW size 500 = kk at hpk ⊢
  have eN : IntKind.i64.wrap (1 + (kk : Int)) = ((kk + 1 : Nat) : Int) := by rw [IntKind.wrap_i64]; omega
  obtain ⟨M, hM⟩ : ∃ M, kk + 1 = M := ⟨_, rfl⟩
  rw [hM] at eN
  have hM1 : 1 ≤ M := by omega
  have hM5 : M ≤ 500 := by omega
  clear hM hpk HPK
  go_wp2_with fail
  refine (hnew_is w2 M M rfl hM1 hM5).mono ?_
  rintro e w3 ⟨b, p, g, rfl, hp3, hb3⟩
  obtain ⟨w4, hw4⟩ : ∃ w4, w3.alloc (.cells #[.pointer (some ⟨b, 0, none⟩), .pointer none, .slice none 0 0, .slice none 0 0, .slice none 0 0, .slice none 0 0, .slice none 0 0, .slice none 0 0] 37) = w4 := ⟨_, rfl⟩
  have hb4 : Below w3.heap.size w3 w4 := by rw [← hw4]; exact below1 _ _
  have hn4 : w4.heap[w3.heap.size]? = some (.cells #[.pointer (some ⟨b, 0, none⟩), .pointer none, .slice none 0 0, .slice none 0 0, .slice none 0 0, .slice none 0 0, .slice none 0 0, .slice none 0 0] 37 (0, 0)) := by rw [← hw4]; exact heap_new _ _
  have B4 := hide ((B1.out.trans (hb3.mono B1.out.size)).trans (hb4.mono (Nat.le_trans B1.out.size hb3.size)))
  obtain ⟨P, hP⟩ : ∃ P : Sx, P = ⟨w3.heap.size, w.heap.size, w2.heap.size, b, p, g, M, .pointer none, .slice none 0 0, .slice none 0 0⟩ := ⟨_, rfl⟩
  have I4 := hide (show ∃ O, SI P w4 (.slice none 0 0) [] [] 0 O from by
    subst hP
    exact ⟨JO w3.heap.size (.slice none 0 0) (.slice none 0 0) (.slice none 0 0), hp3.below hb4, ⟨_, _, _, [], [], ⟨hn4, Row.nil _ _, Row.nil _ _, Row.nil _ _, fun y hy => (by cases hy)⟩, by simp, by simp, fun _ => Iff.rfl⟩, Row.nil _ _, fun y hy => (by cases hy), B4.out.size, fun t ht => (by cases ht), by simp, fun k hk => (by cases hk)⟩)
  have hbw : P.bw = w3.heap.size := by rw [hP]
  have hPM : P.M = M := by rw [hP]
  have hPb : P.b = b := by rw [hP]
  have HPN := hide (show P.N ≤ P.bw ∧ P.N ≤ P.B ∧ P.N = w.heap.size by subst hP; exact ⟨Nat.le_trans B1.out.size hb3.size, B1.out.size, rfl⟩)
  clear hp3 hb3 hb4 hn4 hP B1
  go_wp2_with fail
  rw [← hbw, ← hPb, ← hPM]
  have HNP := hide (And.intro hM1 hM5)
  rw [← hPM] at HNP
  have HN8 := hide hsn
  clear hbw hPb hPM hw4 eN hM1 hM5
  go_loopw [10] (fun iv wr => ∃ (k : Nat) (vT : Value) (l : List Th) (L : List Lk) (O : Nat → Prop), k ≤ ops.length ∧ k ≤ 400 ∧ iv = .int .i64 (k : Int) ∧ Hid (SI P wr vT l L (2004 * k) O) ∧ l.length ≤ k ∧ Hid (Below w.heap.size w wr)) (fun iv _ => ops.length - (intOf iv).toNat)
  case atStart =>
    obtain ⟨O, hO⟩ := I4.out
    exact ⟨0, _, [], [], O, Nat.zero_le _, Nat.zero_le _, rfl, hide hO, Nat.zero_le _, B4⟩
  case round =>
    clear I4 B4
    obtain ⟨k, vT, l, L, O, hk, hk4, rfl, H, hll, HB⟩ := hrel
    obtain ⟨W, rfl⟩ : ∃ x, x = wr := ⟨_, rfl⟩
    by_cases hlt : k < ops.length
    · have q1 : decide ((k : Int) < (ops.length : Int)) = true := decide_eq_true (by omega)
      by_cases h4 : k < 400
      · have q2 : decide ((k : Int) < 400) = true := decide_eq_true (by omega)
        obtain ⟨rfl, hsb⟩ := HSA.out (by omega)
        obtain ⟨hcs, hrt, ha, hbI, hus⟩ := HOP.out k hlt
        generalize ops[k] = y at hcs hrt ha hbI hus
        obtain ⟨o0, rs⟩ := y
        obtain ⟨ok, oa, ob, okd, ora, orn, orc, ohd, os, og⟩ := o0
        dsimp only at hcs hrt ha hbI hus
        have hrt2 : RtsAt w.heap.size W ⟨ok, oa, ob, okd, ora, orn, orc, false, os, og⟩ rs := by
          obtain ⟨h1, h2, h3, h4⟩ := hrt
          refine ⟨h1, h2, fun h0 => ?_, h4⟩
          obtain ⟨b', f', e, hb', hc'⟩ := h3 h0
          exact ⟨b', f', e, hb', fun i hi => (HB.out.cell (p := ⟨b', _, none⟩) hb').trans (hc' i hi)⟩
        obtain ⟨y0, y1, y2, y3, y4, y5, y6, y7⟩ : W.cell? ⟨sb, so + k * 8, none⟩ = some (.int .i64 ok) ∧ W.cell? ⟨sb, so + k * 8 + 1, none⟩ = some (.int .i64 oa) ∧ W.cell? ⟨sb, so + k * 8 + 2, none⟩ = some (.int .i64 ob) ∧ W.cell? ⟨sb, so + k * 8 + 3, none⟩ = some (.int .i64 okd) ∧ W.cell? ⟨sb, so + k * 8 + 4, none⟩ = some (.slice ora orn orc) ∧ W.cell? ⟨sb, so + k * 8 + 5, none⟩ = some (.bool ohd) ∧ W.cell? ⟨sb, so + k * 8 + 6, none⟩ = some (.int .u32 os) ∧ W.cell? ⟨sb, so + k * 8 + 7, none⟩ = some (.int .u32 og) := by
          have hh := fun j u (hj : (opF ⟨ok, oa, ob, okd, ora, orn, orc, ohd, os, og⟩)[j]? = some u) => (HB.out.cell (p := ⟨sb, so + k * 8 + j, none⟩) hsb).trans (hcs j u hj)
          exact ⟨hh 0 _ rfl, hh 1 _ rfl, hh 2 _ rfl, hh 3 _ rfl, hh 4 _ rfl, hh 5 _ rfl, hh 6 _ rfl, hh 7 _ rfl⟩
        have HRT := hide hrt2
        have HLL := hide hll
        clear hcs hrt hrt2 hll
        obtain ⟨oo, hoo⟩ : ∃ oo : Oq, oo = ⟨ok, oa, ob, okd, ora, orn, orc, false, os, og⟩ := ⟨_, rfl⟩
        obtain ⟨V1, hV1⟩ : ∃ V1, W.alloc (.cells #[.int .i64 ok, .int .i64 oa, .int .i64 ob, .int .i64 okd, .slice ora orn orc, .bool false, .int .u32 os, .int .u32 og] 45) = V1 := ⟨_, rfl⟩
        have d1 : Ch (fun _ => False) W V1 := by rw [← hV1]; exact Ch.alloc _ _
        have e1 : V1.heap[W.heap.size]? = some (.cells #[.int .i64 ok, .int .i64 oa, .int .i64 ob, .int .i64 okd, .slice ora orn orc, .bool false, .int .u32 os, .int .u32 og] 45 (0, 0)) := by rw [← hV1]; exact heap_new _ _
        have hs1 := H.out.quiet d1
        have hhl : (hnds l).length ≤ 100000 := by unfold hnds; rw [List.length_map]; have := HLL.out; omega
        have HHN := hide (fun c (hc : I64 c) V (cV : Ch (fun _ => False) V1 V) => show Calls Try.prog 14 #[.pointer (some ⟨P.bw, 0, none⟩), .int .i64 c, .agg #[.int .i64 ok, .int .i64 oa, .int .i64 ob, .int .i64 okd, .slice ora orn orc, .bool false, .int .u32 os, .int .u32 og]] V fun e w' => e = .returned (hv (hdlW (hnds l) c oo).1 (hdlW (hnds l) c oo).2) ∧ Below V.heap.size V w' from by
          obtain ⟨vL, vA, vE, hb, -⟩ := (hs1.quiet cV).box
          subst hoo
          exact handle_is hb rfl (hs1.quiet cV).tr hhl hc _)
        have husx := hdl_us hs1.hp.tb.wf hs1.hp.tb.m2 oa oo (by rw [hoo]; exact hus)
        have husy := hdl_us hs1.hp.tb.wf hs1.hp.tb.m2 ob oo (by rw [hoo]; exact hus)
        have HUR := hide (show ∀ x ∈ rsH (hnds l) oo rs, Us x.1 from fun x hx => by
          unfold rsH at hx
          obtain ⟨c, -, rfl⟩ := List.mem_map.1 hx
          exact hdl_us hs1.hp.tb.wf hs1.hp.tb.m2 c oo (by rw [hoo]; exact hus))
        obtain ⟨x1, x2, hx12⟩ : ∃ x1 x2, hdlW (hnds l) oa oo = (x1, x2) := ⟨_, _, rfl⟩
        obtain ⟨h1, h2, hh12⟩ : ∃ h1 h2, hdlW (hnds l) ob oo = (h1, h2) := ⟨_, _, rfl⟩
        have HHA := HHN.out oa ha
        rw [hx12] at HHA husx
        have HHB := HHN.out ob hbI
        rw [hh12] at HHB husy
        have HHA := hide HHA
        have HHB := hide HHB
        obtain ⟨s0, s1, s2, s3, s4, s5, s6, s7⟩ : V1.cell? ⟨W.heap.size, 0, none⟩ = some (.int .i64 ok) ∧ V1.cell? ⟨W.heap.size, 1, none⟩ = some (.int .i64 oa) ∧ V1.cell? ⟨W.heap.size, 2, none⟩ = some (.int .i64 ob) ∧ V1.cell? ⟨W.heap.size, 3, none⟩ = some (.int .i64 okd) ∧ V1.cell? ⟨W.heap.size, 4, none⟩ = some (.slice ora orn orc) ∧ V1.cell? ⟨W.heap.size, 5, none⟩ = some (.bool false) ∧ V1.cell? ⟨W.heap.size, 6, none⟩ = some (.int .u32 os) ∧ V1.cell? ⟨W.heap.size, 7, none⟩ = some (.int .u32 og) := by
          have e := Lib.cell_of_heap e1
          exact ⟨by simp [e], by simp [e], by simp [e], by simp [e], by simp [e], by simp [e], by simp [e], by simp [e]⟩
        have HS1 := hide hs1
        have D1 := hide d1
        have E1 := hide e1
        have HOO := hide hoo
        clear hs1 hhl HHN hoo hx12 hh12 d1 e1
        go_wp2_with fail
        clear hV1 y0 y1 y2 y3 y4 y5 y6 y7 s0 s1 s2 s3 s4 s5 s6 s7
        refine (HHA.out V1 (Ch.refl _ _)).mono ?_
        rintro e V2 ⟨rfl, hbV2⟩
        obtain ⟨V3, hV3⟩ : ∃ V3, V2.alloc (.cells #[.int .u32 x1, .int .u32 x2] 43) = V3 := ⟨_, rfl⟩
        have c13 : Ch (fun _ => False) V1 V3 := by rw [← hV3]; exact (Ch.of_below hbV2).trans (Ch.alloc _ _) (fun _ _ h => h)
        have e3 : V3.heap[V2.heap.size]? = some (.cells #[.int .u32 x1, .int .u32 x2] 43 (0, 0)) := by rw [← hV3]; exact heap_new _ _
        have e31 := c13.box E1.out (fun h => h)
        have HS3 := hide (HS1.out.quiet c13)
        have B3 := hide (HB.out.trans ((D1.out.trans c13 (fun _ _ h => h)).below HB.out.size (fun _ _ h => h)))
        have C13 := hide c13
        have HXE := hide e3
        have HOE := hide e31
        have hz13 := c13.size
        have u0 : V3.cell? ⟨W.heap.size, 0, none⟩ = some (.int .i64 ok) := by simp [Lib.cell_of_heap e31]
        clear hbV2 c13 e3 e31
        by_cases k2 : ok = 2
        · have t2 : (ok == 2) = true := by simpa using k2
          have k2h := hide k2
          clear k2
          obtain ⟨vL, vA, vE, hbx, hlk⟩ := HS3.out.box
          have t3 : V3.cell? ⟨P.bw, 2, none⟩ = some vL := by simp [Lib.cell_of_heap hbx]
          have hl9 := HS3.out.l4
          obtain ⟨La, Lc, hvL, -, -⟩ := hlk.form
          by_cases hl : L.length < 400
          · have q5 : decide ((L.length : Int) < 400) = true := decide_eq_true (by omega)
            have HL4 := hide hl
            have HUX := hide (show Us (Lk.ts ⟨x1, x2, h1, h2⟩) from husy)
            obtain ⟨i1, hi1, hx0, hx1, hx2⟩ := nf_open info_lk
            have hgn := HS3.out.toJ.geN HPN.out.1 HPN.out.2.1
            have HNL := hide (fun x (hx : x < w.heap.size) (e : x = P.bw ∨ vL.ownBlock = some x) => show False from by
              have h3 := HPN.out.2.2
              rcases e with e | e
              · have := HPN.out.1; omega
              · have := (own_in hlk e).1; omega)
            have HBX := hide (fun V (cV : Ch (fun _ => False) V3 V) => show (∃ vA vE, V.heap[P.bw]? = some (.cells #[.pointer (some ⟨P.b, 0, none⟩), P.pb, vL, vT, vA, P.vl, P.vw, vE] 37 (0, 0))) ∧ Row lkF 4 51 V P.N vL L from ⟨⟨vA, vE, cV.box hbx (fun h => h)⟩, hlk.ch cV (fun _ _ h => h)⟩)
            have HCL := hide (fun V (cV : Ch (fun _ => False) V3 V) => show V.cell? ⟨P.bw, 2, none⟩ = some vL from by simp [Lib.cell_of_heap (cV.box hbx (fun h => h))])
            have hb3 := (Array.getElem?_eq_some_iff.1 HS1.out.box.choose_spec.choose_spec.choose_spec.1).1
            have HCELL := hide (fun wq (kq : Ch (fun y => y = P.bw ∨ vL.ownBlock = some y) V3 wq) => show (wq.cell? ⟨V2.heap.size, 0, none⟩ = some (.int .u32 x1) ∧ wq.cell? ⟨V2.heap.size, 1, none⟩ = some (.int .u32 x2)) ∧ wq.cell? ⟨W.heap.size, 0, none⟩ = some (.int .i64 ok) ∧ wq.cell? ⟨W.heap.size, 1, none⟩ = some (.int .i64 oa) ∧ wq.cell? ⟨W.heap.size, 2, none⟩ = some (.int .i64 ob) ∧ wq.cell? ⟨W.heap.size, 3, none⟩ = some (.int .i64 okd) ∧ wq.cell? ⟨W.heap.size, 4, none⟩ = some (.slice ora orn orc) ∧ wq.cell? ⟨W.heap.size, 5, none⟩ = some (.bool false) ∧ wq.cell? ⟨W.heap.size, 6, none⟩ = some (.int .u32 os) ∧ wq.cell? ⟨W.heap.size, 7, none⟩ = some (.int .u32 og) from by
              have n1 : ¬ (V2.heap.size = P.bw ∨ vL.ownBlock = some V2.heap.size) := by
                rintro (e | e)
                · exact blk_apart HXE.out hbx (by decide) e
                · exact own_box hlk HXE.out (by decide) e
              have n2 : ¬ (W.heap.size = P.bw ∨ vL.ownBlock = some W.heap.size) := by
                rintro (e | e)
                · exact blk_apart HOE.out hbx (by decide) e
                · exact own_box hlk HOE.out (by decide) e
              have e1 := Lib.cell_of_heap (kq.box HXE.out n1)
              have e2 := Lib.cell_of_heap (kq.box HOE.out n2)
              exact ⟨⟨by simp [e1], by simp [e1]⟩, by simp [e2], by simp [e2], by simp [e2], by simp [e2], by simp [e2], by simp [e2], by simp [e2], by simp [e2]⟩)
            have HHN := hide (fun V (cV : Ch (fun _ => False) V3 V) => HHB.out V (C13.out.trans cV (fun _ _ h => h)))
            have HVL := hide hvL
            clear hbx hlk hgn hb3 hl
            rw [hvL] at t3
            clear hvL
            go_wp2
            clear hV3
            refine wp_reg (fun y => y = P.bw ∨ vL.ownBlock = some y) (R := fun V => Ch (fun _ => False) V3 V) (by kernel_rfl) (Ch.drew _) (fun V cV zk => ?_)
            have CV := hide cV
            have HSV := hide (HS3.out.quiet cV)
            clear cV
            have HHV := hide (HHN.out V CV.out)
            have HBV := hide (HBX.out V CV.out)
            have HC := hide (fun wq (kq : Ch (fun y => y = P.bw ∨ vL.ownBlock = some y) V wq) => HCELL.out wq ((CV.out.mono (Q' := fun y => y = P.bw ∨ vL.ownBlock = some y) (fun _ _ h => h.elim)).trans kq (fun _ _ h => h)))
            apply tk 0 lk0 rfl (by kernel_rfl) (fun _ _ _ h => h) zk
            · intro wq zq
              go_simp
              try rfl
            go_frame
            apply tk 1 lk1 rfl (by kernel_rfl) (fun _ _ _ h => h) zk
            · intro wq zq
              go_simp
              try rfl
            go_frame
            apply tk 2 lk2 rfl (by kernel_rfl) (fun _ _ _ h => h) zk
            · intro wq zq
              go_simp
              try rfl
            go_frame
            apply tk 3 lk3 rfl (by kernel_rfl) (fun _ _ _ h => h) zk
            · intro wq zq
              go_simp
              try rfl
            go_frame
            apply tk 5 lk5 rfl (by kernel_rfl) (fun _ _ _ h => h) zk
            · intro wq zq
              obtain ⟨s0, s1⟩ := (HC.out _ zq).1
              go_simp
              try rfl
            go_frame
            apply tk 6 lk6 rfl (by kernel_rfl) (fun _ _ _ h => h) zk
            · intro wq zq
              go_simp
              try rfl
            go_frame
            apply tk 7 lk7 rfl (by kernel_rfl) (fun _ _ _ h => h) zk
            · intro wq zq
              go_simp
              try rfl
            go_frame
            apply tk 8 lk8 rfl (by kernel_rfl) (fun _ _ _ h => h) zk
            · intro wq zq
              have s0 := (HC.out _ zq).2.2.2.1
              go_simp
              try rfl
            go_frame
            apply tk 9 lk9 rfl (by kernel_rfl) (fun _ _ _ h => h) zk
            · intro wq zq
              obtain ⟨s0, s1, s2, s3, s4, s5, s6, s7⟩ := (HC.out _ zq).2
              go_simp
              try rfl
            go_frame
            refine wpAnyH_ready (rs := [4, 10]) (by kernel_rfl) (by simp) ?_
            refine AllReadyH.cons (o := lk4) rfl (fun K hK => ?_) (AllReadyH.cons (o := lk10) rfl (fun K hK => ?_) AllReadyH.nil)
            · have s0 := HCL.out V CV.out
              go_simp
              refine hK.out _ _ ?_ (fun zk => ?_)
              · exact zk
              clear hK K
              try go_frame
              refine rd 10 lk10 rfl (by kernel_rfl) fun K hK => ?_
              go_simp
              refine (HHV.out).mono ?_
              rintro e w5 ⟨rfl, hb5⟩
              have c5 := Ch.of_below (Q := fun _ => False) hb5
              have HS5 := hide (HSV.out.quiet c5)
              have HB5 := hide (HBX.out w5 (CV.out.trans c5 (fun _ _ h => h)))
              have Z5 := hide (zk.trans (Ch.of_below (Q := fun y => y = P.bw ∨ vL.ownBlock = some y) hb5) (fun _ _ h => h))
              have C5 := hide c5
              clear hb5 c5
              go_wp2_with fail
              refine hK.out _ _ ?_ (fun zk => ?_)
              · exact Z5.out
              clear hK K
              try go_frame
              apply tk 11 lk11 rfl (by kernel_rfl) (fun _ _ _ h => h) zk
              · intro wq zq
                go_simp
                try rfl
              go_frame
              refine rd 12 lk12 rfl (by kernel_rfl) fun K hK => ?_
              go_simp
              refine hK.out _ _ ?_ (fun zk => ?_)
              · exact zk.trans (Ch.alloc (Q := fun y => y = P.bw ∨ vL.ownBlock = some y) _ _) (fun _ _ h => h)
              clear hK K
              try go_frame
              have HM5 := hide (show P.N ≤ (w5.alloc (.cells #[.int .u32 x1, .int .u32 x2, .int .u32 h1, .int .u32 h2] 51)).heap.size by rw [World.size_alloc]; have := HS5.out.low; omega)
              refine rd 13 lk13 rfl (by kernel_rfl) fun K hK => ?_
              refine step_append_at rfl (.tmp 121) (.tmp 129) 33 rfl P.N 51 i1 (.agg #[.int .u32 0, .int .u32 0, .int .u32 0, .int .u32 0]) 4 16 Try.underlying33 hi1 hx0 hx1 hx2 rfl (by decide) vL L.length (L.flatMap lkF) rfl (World.ownsRow.alloc (show w5.ownsRow P.N 51 4 vL L.length (L.flatMap lkF) from HB5.out.2) (.cells #[.int .u32 x1, .int .u32 x2, .int .u32 h1, .int .u32 h2] 51)) ⟨w5.heap.size, 0, none⟩ 1 1 (lkF ⟨x1, x2, h1, h2⟩) rfl rfl (row_new w5 (lkF ⟨x1, x2, h1, h2⟩) 51 rfl) (lkF_one _) (by unfold maxLen; omega) (by omega) HM5.out ?_
              intro v6 w6 hr6 hg6 ho6
              have X6 := hide (SJ.link HS5.out.toJ HB5.out.1 hr6 hg6 (ho6.imp_right fun e => ⟨_, by rw [World.size_alloc]; exact Nat.le_succ _, e⟩) HL4.out HUX.out)
              have Z6 := hide (zk.trans (Ch.of_grown (Q := fun y => y = P.bw ∨ vL.ownBlock = some y) hg6 (fun y e => Or.inr e)) (fun _ _ h => h))
              obtain ⟨a6, n6, c6, rfl⟩ := own_form hr6
              clear hr6 hg6 ho6
              refine hK.out _ _ ?_ (fun zk => ?_)
              · exact Z6.out
              clear hK K
              try go_frame
              apply tk 14 lk14 rfl (by kernel_rfl) (fun _ _ _ h => h) zk
              · intro wq zq
                go_simp
                try rfl
              go_frame
              apply tk 15 lk15 rfl (by kernel_rfl) (fun _ _ _ h => h) zk
              · intro wq zq
                go_simp
                try rfl
              go_frame
              have y6 := X6.out.2.2.1
              have f6 := X6.out.2.2.2
              refine rd 16 lk16 rfl (by kernel_rfl) fun K hK => ?_
              go_simp
              refine hK.out _ _ ?_ (fun zk => ?_)
              · exact zk.trans (Ch.set (Q := fun y => y = P.bw ∨ vL.ownBlock = some y) _ (Or.inl rfl) _ _) (fun _ _ h => h)
              clear hK K
              try go_frame
              refine wpAnyH_done (by kernel_rfl) ?_ _
              obtain ⟨OF, hSF⟩ := X6.out.1
              have HFI := hide (show SI P (w6.setCell ⟨P.bw, 2, none⟩ (.slice a6 n6 c6)) vT l (L ++ [⟨x1, x2, h1, h2⟩]) (2004 * (k + 1)) OF from (hSF.toI rfl).more (by omega))
              have HFB := hide (show Below w.heap.size w (w6.setCell ⟨P.bw, 2, none⟩ (.slice a6 n6 c6)) from B3.out.trans (((CV.out.trans C5.out (fun _ _ h => h)).mono (Q' := fun y => y = P.bw ∨ vL.ownBlock = some y) (fun _ _ h => h.elim)).trans X6.out.2.1 (fun _ _ h => h) |>.below B3.out.size (fun x hx e => HNL.out x hx e)))
              clear hSF y6 f6
              go_wp2
              go_roundw
              case rel => exact ⟨k + 1, vT, l, _, OF, by omega, by omega, by go_num, HFI, by have := HLL.out; omega, HFB⟩
              case measure => simp [intOf]; omega
            · go_simp
              refine (HHV.out).mono ?_
              rintro e w5 ⟨rfl, hb5⟩
              have c5 := Ch.of_below (Q := fun _ => False) hb5
              have HS5 := hide (HSV.out.quiet c5)
              have HB5 := hide (HBX.out w5 (CV.out.trans c5 (fun _ _ h => h)))
              have Z5 := hide (zk.trans (Ch.of_below (Q := fun y => y = P.bw ∨ vL.ownBlock = some y) hb5) (fun _ _ h => h))
              have C5 := hide c5
              clear hb5 c5
              go_wp2_with fail
              refine hK.out _ _ ?_ (fun zk => ?_)
              · exact Z5.out
              clear hK K
              try go_frame
              apply tk 11 lk11 rfl (by kernel_rfl) (fun _ _ _ h => h) zk
              · intro wq zq
                go_simp
                try rfl
              go_frame
              refine wpAnyH_ready (rs := [4, 12]) (by kernel_rfl) (by simp) ?_
              refine AllReadyH.cons (o := lk4) rfl (fun K hK => ?_) (AllReadyH.cons (o := lk12) rfl (fun K hK => ?_) AllReadyH.nil)
              · have s0 := HCL.out w5 (CV.out.trans C5.out (fun _ _ h => h))
                go_simp
                refine hK.out _ _ ?_ (fun zk => ?_)
                · exact zk
                clear hK K
                try go_frame
                refine rd 12 lk12 rfl (by kernel_rfl) fun K hK => ?_
                go_simp
                refine hK.out _ _ ?_ (fun zk => ?_)
                · exact zk.trans (Ch.alloc (Q := fun y => y = P.bw ∨ vL.ownBlock = some y) _ _) (fun _ _ h => h)
                clear hK K
                try go_frame
                have HM5 := hide (show P.N ≤ (w5.alloc (.cells #[.int .u32 x1, .int .u32 x2, .int .u32 h1, .int .u32 h2] 51)).heap.size by rw [World.size_alloc]; have := HS5.out.low; omega)
                refine rd 13 lk13 rfl (by kernel_rfl) fun K hK => ?_
                refine step_append_at rfl (.tmp 121) (.tmp 129) 33 rfl P.N 51 i1 (.agg #[.int .u32 0, .int .u32 0, .int .u32 0, .int .u32 0]) 4 16 Try.underlying33 hi1 hx0 hx1 hx2 rfl (by decide) vL L.length (L.flatMap lkF) rfl (World.ownsRow.alloc (show w5.ownsRow P.N 51 4 vL L.length (L.flatMap lkF) from HB5.out.2) (.cells #[.int .u32 x1, .int .u32 x2, .int .u32 h1, .int .u32 h2] 51)) ⟨w5.heap.size, 0, none⟩ 1 1 (lkF ⟨x1, x2, h1, h2⟩) rfl rfl (row_new w5 (lkF ⟨x1, x2, h1, h2⟩) 51 rfl) (lkF_one _) (by unfold maxLen; omega) (by omega) HM5.out ?_
                intro v6 w6 hr6 hg6 ho6
                have X6 := hide (SJ.link HS5.out.toJ HB5.out.1 hr6 hg6 (ho6.imp_right fun e => ⟨_, by rw [World.size_alloc]; exact Nat.le_succ _, e⟩) HL4.out HUX.out)
                have Z6 := hide (zk.trans (Ch.of_grown (Q := fun y => y = P.bw ∨ vL.ownBlock = some y) hg6 (fun y e => Or.inr e)) (fun _ _ h => h))
                obtain ⟨a6, n6, c6, rfl⟩ := own_form hr6
                clear hr6 hg6 ho6
                refine hK.out _ _ ?_ (fun zk => ?_)
                · exact Z6.out
                clear hK K
                try go_frame
                apply tk 14 lk14 rfl (by kernel_rfl) (fun _ _ _ h => h) zk
                · intro wq zq
                  go_simp
                  try rfl
                go_frame
                apply tk 15 lk15 rfl (by kernel_rfl) (fun _ _ _ h => h) zk
                · intro wq zq
                  go_simp
                  try rfl
                go_frame
                have y6 := X6.out.2.2.1
                have f6 := X6.out.2.2.2
                refine rd 16 lk16 rfl (by kernel_rfl) fun K hK => ?_
                go_simp
                refine hK.out _ _ ?_ (fun zk => ?_)
                · exact zk.trans (Ch.set (Q := fun y => y = P.bw ∨ vL.ownBlock = some y) _ (Or.inl rfl) _ _) (fun _ _ h => h)
                clear hK K
                try go_frame
                refine wpAnyH_done (by kernel_rfl) ?_ _
                obtain ⟨OF, hSF⟩ := X6.out.1
                have HFI := hide (show SI P (w6.setCell ⟨P.bw, 2, none⟩ (.slice a6 n6 c6)) vT l (L ++ [⟨x1, x2, h1, h2⟩]) (2004 * (k + 1)) OF from (hSF.toI rfl).more (by omega))
                have HFB := hide (show Below w.heap.size w (w6.setCell ⟨P.bw, 2, none⟩ (.slice a6 n6 c6)) from B3.out.trans (((CV.out.trans C5.out (fun _ _ h => h)).mono (Q' := fun y => y = P.bw ∨ vL.ownBlock = some y) (fun _ _ h => h.elim)).trans X6.out.2.1 (fun _ _ h => h) |>.below B3.out.size (fun x hx e => HNL.out x hx e)))
                clear hSF y6 f6
                go_wp2
                go_roundw
                case rel => exact ⟨k + 1, vT, l, _, OF, by omega, by omega, by go_num, HFI, by have := HLL.out; omega, HFB⟩
                case measure => simp [intOf]; omega
              · go_simp
                refine hK.out _ _ ?_ (fun zk => ?_)
                · exact zk.trans (Ch.alloc (Q := fun y => y = P.bw ∨ vL.ownBlock = some y) _ _) (fun _ _ h => h)
                clear hK K
                try go_frame
                refine rd 4 lk4 rfl (by kernel_rfl) fun K hK => ?_
                have s0 := HCL.out _ ((CV.out.trans C5.out (fun _ _ h => h)).trans (Ch.alloc _ (.cells #[.int .u32 x1, .int .u32 x2, .int .u32 h1, .int .u32 h2] 51)) (fun _ _ h => h))
                go_simp
                refine hK.out _ _ ?_ (fun zk => ?_)
                · exact zk
                clear hK K
                try go_frame
                have HM5 := hide (show P.N ≤ (w5.alloc (.cells #[.int .u32 x1, .int .u32 x2, .int .u32 h1, .int .u32 h2] 51)).heap.size by rw [World.size_alloc]; have := HS5.out.low; omega)
                refine rd 13 lk13 rfl (by kernel_rfl) fun K hK => ?_
                refine step_append_at rfl (.tmp 121) (.tmp 129) 33 rfl P.N 51 i1 (.agg #[.int .u32 0, .int .u32 0, .int .u32 0, .int .u32 0]) 4 16 Try.underlying33 hi1 hx0 hx1 hx2 rfl (by decide) vL L.length (L.flatMap lkF) rfl (World.ownsRow.alloc (show w5.ownsRow P.N 51 4 vL L.length (L.flatMap lkF) from HB5.out.2) (.cells #[.int .u32 x1, .int .u32 x2, .int .u32 h1, .int .u32 h2] 51)) ⟨w5.heap.size, 0, none⟩ 1 1 (lkF ⟨x1, x2, h1, h2⟩) rfl rfl (row_new w5 (lkF ⟨x1, x2, h1, h2⟩) 51 rfl) (lkF_one _) (by unfold maxLen; omega) (by omega) HM5.out ?_
                intro v6 w6 hr6 hg6 ho6
                have X6 := hide (SJ.link HS5.out.toJ HB5.out.1 hr6 hg6 (ho6.imp_right fun e => ⟨_, by rw [World.size_alloc]; exact Nat.le_succ _, e⟩) HL4.out HUX.out)
                have Z6 := hide (zk.trans (Ch.of_grown (Q := fun y => y = P.bw ∨ vL.ownBlock = some y) hg6 (fun y e => Or.inr e)) (fun _ _ h => h))
                obtain ⟨a6, n6, c6, rfl⟩ := own_form hr6
                clear hr6 hg6 ho6
                refine hK.out _ _ ?_ (fun zk => ?_)
                · exact Z6.out
                clear hK K
                try go_frame
                apply tk 14 lk14 rfl (by kernel_rfl) (fun _ _ _ h => h) zk
                · intro wq zq
                  go_simp
                  try rfl
                go_frame
                apply tk 15 lk15 rfl (by kernel_rfl) (fun _ _ _ h => h) zk
                · intro wq zq
                  go_simp
                  try rfl
                go_frame
                have y6 := X6.out.2.2.1
                have f6 := X6.out.2.2.2
                refine rd 16 lk16 rfl (by kernel_rfl) fun K hK => ?_
                go_simp
                refine hK.out _ _ ?_ (fun zk => ?_)
                · exact zk.trans (Ch.set (Q := fun y => y = P.bw ∨ vL.ownBlock = some y) _ (Or.inl rfl) _ _) (fun _ _ h => h)
                clear hK K
                try go_frame
                refine wpAnyH_done (by kernel_rfl) ?_ _
                obtain ⟨OF, hSF⟩ := X6.out.1
                have HFI := hide (show SI P (w6.setCell ⟨P.bw, 2, none⟩ (.slice a6 n6 c6)) vT l (L ++ [⟨x1, x2, h1, h2⟩]) (2004 * (k + 1)) OF from (hSF.toI rfl).more (by omega))
                have HFB := hide (show Below w.heap.size w (w6.setCell ⟨P.bw, 2, none⟩ (.slice a6 n6 c6)) from B3.out.trans (((CV.out.trans C5.out (fun _ _ h => h)).mono (Q' := fun y => y = P.bw ∨ vL.ownBlock = some y) (fun _ _ h => h.elim)).trans X6.out.2.1 (fun _ _ h => h) |>.below B3.out.size (fun x hx e => HNL.out x hx e)))
                clear hSF y6 f6
                go_wp2
                go_roundw
                case rel => exact ⟨k + 1, vT, l, _, OF, by omega, by omega, by go_num, HFI, by have := HLL.out; omega, HFB⟩
                case measure => simp [intOf]; omega
          · have q5 : decide ((L.length : Int) < 400) = false := decide_eq_false (by omega)
            rw [hvL] at t3
            clear hvL hbx hlk
            go_wp2
            go_roundw
            case rel => exact ⟨k + 1, vT, l, L, O, by omega, by omega, by go_num, hide (HS3.out.more (by omega)), by have := HLL.out; omega, B3⟩
            case measure => simp [intOf]; omega
        · have t2 : (ok == 2) = false := by simpa using k2
          have k2h := hide k2
          clear k2
          by_cases k5 : ok = 5
          · have t5 : (ok == 5) = true := by simpa using k5
            have k5h := hide k5
            clear k5
            obtain ⟨s0, s1, s2, s3, s4, s5, s6, s7⟩ : V3.cell? ⟨W.heap.size, 0, none⟩ = some (.int .i64 ok) ∧ V3.cell? ⟨W.heap.size, 1, none⟩ = some (.int .i64 oa) ∧ V3.cell? ⟨W.heap.size, 2, none⟩ = some (.int .i64 ob) ∧ V3.cell? ⟨W.heap.size, 3, none⟩ = some (.int .i64 okd) ∧ V3.cell? ⟨W.heap.size, 4, none⟩ = some (.slice ora orn orc) ∧ V3.cell? ⟨W.heap.size, 5, none⟩ = some (.bool false) ∧ V3.cell? ⟨W.heap.size, 6, none⟩ = some (.int .u32 os) ∧ V3.cell? ⟨W.heap.size, 7, none⟩ = some (.int .u32 og) := by
              have e := Lib.cell_of_heap HOE.out
              exact ⟨by simp [e], by simp [e], by simp [e], by simp [e], by simp [e], by simp [e], by simp [e], by simp [e]⟩
            have HSWP := hide (show Calls Try.prog 15 #[.pointer (some ⟨P.bw, 0, none⟩), .agg #[.int .i64 ok, .int .i64 oa, .int .i64 ob, .int .i64 okd, .slice ora orn orc, .bool false, .int .u32 os, .int .u32 og]] V3 fun e w' => e = .returned (.bool true) ∧ ∃ l' O', SI P w' vT l' L (2004 * k + 2004) O' ∧ l'.length = l.length ∧ hnds l' = hnds l ∧ Ch (fun y => O y ∨ y = P.p ∨ y = P.g) V3 w' ∧ ∀ y, O' y → O y ∨ V3.heap.size ≤ y from by
              have hr3 : RtsAt w.heap.size V3 oo rs := by
                obtain ⟨r1, r2, r3, r4⟩ := HRT.out
                rw [HOO.out]
                refine ⟨r1, r2, fun h0 => ?_, r4⟩
                obtain ⟨b', f', e, hb', hc'⟩ := r3 h0
                exact ⟨b', f', e, hb', fun i hi => ((D1.out.trans C13.out (fun _ _ h => h)).cell (Nat.lt_of_lt_of_le hb' HB.out.size) (fun h => h) _).trans (hc' i hi)⟩
              have := sweeps_is HS3.out (by omega) oo rs hr3 B3.out.size (by have := HLL.out; omega) HUR.out
              rw [show opV oo = .agg #[.int .i64 ok, .int .i64 oa, .int .i64 ob, .int .i64 okd, .slice ora orn orc, .bool false, .int .u32 os, .int .u32 og] by rw [HOO.out]] at this
              exact this)
            go_wp2_with fail
            clear hV3
            refine HSWP.out.mono ?_
            rintro e w9 ⟨rfl, l', O', hs9, hl9, -, hc9, -⟩
            have hgn := HS3.out.toJ.geN HPN.out.1 HPN.out.2.1
            have HF9 := hide (show SI P w9 vT l' L (2004 * (k + 1)) O' from hs9.more (by omega))
            have HB9 := hide (show Below w.heap.size w w9 from B3.out.trans (hc9.below B3.out.size (fun x hx e => by
              have h3 := HPN.out.2.2
              rcases e with e | e | e
              · have := hgn.1 x e; omega
              · have := hgn.2.1; omega
              · have := hgn.2.2; omega)))
            have HL9 := hide hl9
            clear hs9 hl9 hc9 hgn s0 s1 s2 s3 s4 s5 s6 s7
            go_wp2
            go_roundw
            case rel => exact ⟨k + 1, vT, l', L, O', by omega, by omega, by go_num, HF9, by have h1 := HL9.out; have h2 := HLL.out; omega, HB9⟩
            case measure => simp [intOf]; omega
          · have t5 : (ok == 5) = false := by simpa using k5
            have k5h := hide k5
            clear k5
            by_cases k6 : ok = 6
            · have t6 : (ok == 6) = true := by simpa using k6
              have k6h := hide k6
              clear k6
              obtain ⟨s0, s1, s2, s3, s4, s5, s6, s7⟩ : V3.cell? ⟨W.heap.size, 0, none⟩ = some (.int .i64 ok) ∧ V3.cell? ⟨W.heap.size, 1, none⟩ = some (.int .i64 oa) ∧ V3.cell? ⟨W.heap.size, 2, none⟩ = some (.int .i64 ob) ∧ V3.cell? ⟨W.heap.size, 3, none⟩ = some (.int .i64 okd) ∧ V3.cell? ⟨W.heap.size, 4, none⟩ = some (.slice ora orn orc) ∧ V3.cell? ⟨W.heap.size, 5, none⟩ = some (.bool false) ∧ V3.cell? ⟨W.heap.size, 6, none⟩ = some (.int .u32 os) ∧ V3.cell? ⟨W.heap.size, 7, none⟩ = some (.int .u32 og) := by
                have e := Lib.cell_of_heap HOE.out
                exact ⟨by simp [e], by simp [e], by simp [e], by simp [e], by simp [e], by simp [e], by simp [e], by simp [e]⟩
              have HSWP := hide (show Calls Try.prog 15 #[.pointer (some ⟨P.bw, 0, none⟩), .agg #[.int .i64 ok, .int .i64 oa, .int .i64 ob, .int .i64 okd, .slice ora orn orc, .bool false, .int .u32 os, .int .u32 og]] V3 fun e w' => e = .returned (.bool true) ∧ ∃ l' O', SI P w' vT l' L (2004 * k + 2004) O' ∧ l'.length = l.length ∧ hnds l' = hnds l ∧ Ch (fun y => O y ∨ y = P.p ∨ y = P.g) V3 w' ∧ ∀ y, O' y → O y ∨ V3.heap.size ≤ y from by
                have hr3 : RtsAt w.heap.size V3 oo rs := by
                  obtain ⟨r1, r2, r3, r4⟩ := HRT.out
                  rw [HOO.out]
                  refine ⟨r1, r2, fun h0 => ?_, r4⟩
                  obtain ⟨b', f', e, hb', hc'⟩ := r3 h0
                  exact ⟨b', f', e, hb', fun i hi => ((D1.out.trans C13.out (fun _ _ h => h)).cell (Nat.lt_of_lt_of_le hb' HB.out.size) (fun h => h) _).trans (hc' i hi)⟩
                have := sweeps_is HS3.out (by omega) oo rs hr3 B3.out.size (by have := HLL.out; omega) HUR.out
                rw [show opV oo = .agg #[.int .i64 ok, .int .i64 oa, .int .i64 ob, .int .i64 okd, .slice ora orn orc, .bool false, .int .u32 os, .int .u32 og] by rw [HOO.out]] at this
                exact this)
              go_wp2_with fail
              clear hV3
              refine HSWP.out.mono ?_
              rintro e w9 ⟨rfl, l', O', hs9, hl9, -, hc9, -⟩
              have hgn := HS3.out.toJ.geN HPN.out.1 HPN.out.2.1
              have HF9 := hide (show SI P w9 vT l' L (2004 * (k + 1)) O' from hs9.more (by omega))
              have HB9 := hide (show Below w.heap.size w w9 from B3.out.trans (hc9.below B3.out.size (fun x hx e => by
                have h3 := HPN.out.2.2
                rcases e with e | e | e
                · have := hgn.1 x e; omega
                · have := hgn.2.1; omega
                · have := hgn.2.2; omega)))
              have HL9 := hide hl9
              clear hs9 hl9 hc9 hgn s0 s1 s2 s3 s4 s5 s6 s7
              go_wp2
              go_roundw
              case rel => exact ⟨k + 1, vT, l', L, O', by omega, by omega, by go_num, HF9, by have h1 := HL9.out; have h2 := HLL.out; omega, HB9⟩
              case measure => simp [intOf]; omega
            · have t6 : (ok == 6) = false := by simpa using k6
              have k6h := hide k6
              clear k6
              obtain ⟨i0, hi0, hy0, hy1, hy2⟩ := nf_open info_hd
              have HHP3 := hide HS3.out.hp
              go_wp2_with fail
              clear hV3
              refine (hcount_is HHP3.out).mono ?_
              rintro e w5 ⟨rfl, hb5⟩
              have HS5 := hide (HS3.out.quiet (Ch.of_below hb5))
              have B5 := hide (B3.out.trans (hb5.mono B3.out.size))
              clear hb5
              go_wp2_with fail
              refine (hmake_is (k := 2) HS5.out.hp (by decide) (by have := HLL.out; omega)).mono ?_
              rintro e w6 ⟨rfl, hp6, hc6⟩
              have HTR6 := hide (HS5.out.tr.ch hc6 (fun y hy e => by have := (HS5.out.hp.apart HS5.out.tr (by decide) (by decide) (by decide) y hy); omega))
              obtain ⟨W8, hW8⟩ : ∃ W8, w6.alloc (.cells #[.int .u32 (tkS l P.M), .int .u32 (tkG l P.M)] 43) = W8 := ⟨_, rfl⟩
              have c8 : Ch (fun _ => False) w6 W8 := by rw [← hW8]; exact Ch.alloc _ _
              have n8 : W8.heap[w6.heap.size]? = some (.cells #[.int .u32 (tkS l P.M), .int .u32 (tkG l P.M)] 43 (0, 0)) := by rw [← hW8]; exact heap_new _ _
              have HJ8 := hide ((HS5.out.make hp6 hc6).quiet c8)
              have hgn := HS5.out.toJ.geN HPN.out.1 HPN.out.2.1
              have B8 := hide (show Below w.heap.size w W8 from (B5.out.trans (hc6.below B5.out.size (fun x hx e => by
                have h3 := HPN.out.2.2
                rcases e with e | e
                · have := hgn.2.1; omega
                · have := hgn.2.2; omega))).trans (c8.below (Nat.le_trans B5.out.size hc6.size) (fun _ _ h => h)))
              have N8 := hide n8
              have hfull := HS5.out.hp.tb.wf.full
              have HNA := hide (new_apart HS5.out.hp.tb.wf)
              have hcl := HS5.out.hp.tb.wf.cnt_le
              have hhl : (hnds l).length ≤ 1000 := by unfold hnds; rw [List.length_map]; have := HLL.out; omega
              obtain ⟨vL, vA, vE, hbx, -⟩ := HJ8.out.box
              have HBX := hide hbx
              obtain ⟨ta, tc, rfl, -, -⟩ := HJ8.out.tr.form
              clear hp6 hc6 c8 n8 hgn hbx
              have HL2 := hide (show (tkd l P.M 2).length ≤ k + 1 by rw [tkd_len]; have := HLL.out; split <;> omega)
              cases hB : tkB l P.M
              · rw [hB] at hfull
                have qn : decide ((cnt l : Int) < (P.M : Int)) = false := decide_eq_false (by have := of_decide_eq_false hfull.symm; omega)
                have qn2 : ¬ cnt l < P.M := of_decide_eq_false hfull.symm
                have hec : ec false 131 = 131 := rfl
                have HE := hide (show tkd l P.M 2 = l by unfold tkd; unfold tkB at hB; cases hE : emp l P.M 1 with | none => rfl | some s => rw [hE] at hB; cases hB)
                have HFS := hide (show SI P W8 (.slice ta (hnds l).length tc) (tkd l P.M 2) L (2004 * (k + 1)) O from (HJ8.out.toI (by rw [HE.out])).more (by omega))
                have t3 : W8.cell? ⟨P.bw, 3, none⟩ = some (.slice ta (hnds l).length tc) := by simp [Lib.cell_of_heap HBX.out]
                clear hfull hB hcl
                rw [hec]
                by_cases h0 : 0 < (hnds l).length
                · have q6 : decide ((0 : Int) < ((hnds l).length : Int)) = true := decide_eq_true (by omega)
                  go_wp2
                  go_loopw [17] (fun iv wr => iv = .int .i64 0 ∧ wr = W8) (fun iv _ => 0)
                  case atStart => exact ⟨rfl, rfl⟩
                  case round =>
                    obtain ⟨rfl, rfl⟩ := hrel
                    go_wp2
                    go_roundw
                    case rel => exact ⟨k + 1, _, _, L, O, by omega, by omega, by go_num, HFS, HL2.out, B8⟩
                    case measure => simp [intOf]; omega
                · have q6 : decide ((0 : Int) < ((hnds l).length : Int)) = false := decide_eq_false (by omega)
                  go_wp2
                  go_loopw [17] (fun iv wr => iv = .int .i64 0 ∧ wr = W8) (fun iv _ => 0)
                  case atStart => exact ⟨rfl, rfl⟩
                  case round =>
                    obtain ⟨rfl, rfl⟩ := hrel
                    go_wp2
                    go_roundw
                    case rel => exact ⟨k + 1, _, _, L, O, by omega, by omega, by go_num, HFS, HL2.out, B8⟩
                    case measure => simp [intOf]; omega
              · rw [hB] at hfull
                have qn : decide ((cnt l : Int) < (P.M : Int)) = true := decide_eq_true (by have := of_decide_eq_true hfull.symm; omega)
                have qn2 : cnt l < P.M := of_decide_eq_true hfull.symm
                have hec : ec true 131 = 0 := rfl
                have HNW := hide (show (tkS l P.M, tkG l P.M) ∉ hnds l from HNA.out.resolve_right (by rw [hB]; simp))
                have HTK := hide (show hnds (tkd l P.M 2) = hnds l ++ [(tkS l P.M, tkG l P.M)] by rw [hnds_tkd, hB]; rfl)
                clear hfull hB hcl
                rw [hec]
                go_wp2
                go_loopw [17] (fun iv wr => ∃ n : Nat, n ≤ (hnds l).length ∧ iv = .int .i64 (n : Int) ∧ Hid (Ch (fun _ => False) W8 wr)) (fun iv _ => (hnds l).length - (intOf iv).toNat)
                case atStart => exact ⟨0, Nat.zero_le _, rfl, hide (Ch.refl _ _)⟩
                case round =>
                  obtain ⟨n, hn, rfl, HCD⟩ := hrel
                  obtain ⟨W9, rfl⟩ : ∃ x, x = wr := ⟨_, rfl⟩
                  have t3 : W9.cell? ⟨P.bw, 3, none⟩ = some (.slice ta (hnds l).length tc) := by simp [Lib.cell_of_heap (HCD.out.box HBX.out (fun h => h))]
                  have hxb := Lib.cell_of_heap (HCD.out.box N8.out (fun h => h))
                  have x0 : W9.cell? ⟨w6.heap.size, 0, none⟩ = some (.int .u32 (tkS l P.M)) := by simp [hxb]
                  have x1' : W9.cell? ⟨w6.heap.size, 1, none⟩ = some (.int .u32 (tkG l P.M)) := by simp [hxb]
                  clear hxb
                  by_cases hnl : n < (hnds l).length
                  · have q6 : decide ((n : Int) < ((hnds l).length : Int)) = true := decide_eq_true (by omega)
                    obtain ⟨bl, z, rfl, y0, y1, -, hzz⟩ := row_two' (HJ8.out.tr.ch HCD.out (fun _ _ h => h)) rfl hnl
                    have hne : ¬ (z.1 = tkS l P.M ∧ z.2 = tkG l P.M) := fun e => HNW.out (by rw [← e.1, ← e.2, hzz]; exact List.getElem_mem hnl)
                    clear hzz
                    by_cases es : z.1 = tkS l P.M
                    · have qs : (z.1 == tkS l P.M) = true := by simpa using es
                      have qg : (z.2 == tkG l P.M) = false := by simpa using fun e => hne ⟨es, e⟩
                      clear es hne
                      go_wp2
                      go_quiet (fail)
                      go_wp2
                      go_roundw
                      case rel => exact ⟨n + 1, by omega, by go_num, hide (HCD.out.trans (Ch.drewN _ _) (fun _ _ h => h))⟩
                      case measure => simp [intOf]; omega
                    · have qs : (z.1 == tkS l P.M) = false := by simpa using es
                      clear es hne
                      go_wp2
                      go_quiet (fail)
                      go_wp2
                      go_roundw
                      case rel => exact ⟨n + 1, by omega, by go_num, hide (HCD.out.trans (Ch.drewN _ _) (fun _ _ h => h))⟩
                      case measure => simp [intOf]; omega
                  · have q6 : decide ((n : Int) < ((hnds l).length : Int)) = false := decide_eq_false (by omega)
                    obtain ⟨vT, hvT⟩ : ∃ vT, (Value.slice ta (hnds l).length tc) = vT := ⟨_, rfl⟩
                    have HJ9 := hide (HJ8.out.quiet HCD.out)
                    have HBX9 := hide (HCD.out.box HBX.out (fun h => h))
                    have N9 := hide (HCD.out.box N8.out (fun h => h))
                    rw [hvT] at HJ9 HBX9
                    have HT9 := hide (fun V (cV : Ch (fun _ => False) W9 V) => show V.cell? ⟨P.bw, 3, none⟩ = some vT from by simp [Lib.cell_of_heap (cV.box HBX9.out (fun h => h))])
                    have HX9 := hide (fun wq (kq : Ch (fun y => y = P.bw ∨ vT.ownBlock = some y) W9 wq) => show wq.cell? ⟨w6.heap.size, 0, none⟩ = some (.int .u32 (tkS l P.M)) ∧ wq.cell? ⟨w6.heap.size, 1, none⟩ = some (.int .u32 (tkG l P.M)) from by
                      have n1 : ¬ (w6.heap.size = P.bw ∨ vT.ownBlock = some w6.heap.size) := by
                        rintro (e | e)
                        · exact blk_apart N9.out HBX9.out (by decide) e
                        · have h1 : (Value.slice ta (hnds l).length tc).ownBlock = some w6.heap.size := by rw [hvT]; exact e
                          have h2 := (own_in HTR6.out h1).2.1
                          omega
                      have e1 := Lib.cell_of_heap (kq.box N9.out n1)
                      exact ⟨by simp [e1], by simp [e1]⟩)
                    have HB9 := hide (B8.out.trans (HCD.out.below B8.out.size (fun _ _ h => h)))
                    have HVT := hide hvT
                    clear x0 x1' hvT
                    go_wp2
                    clear t3
                    refine wp_reg (fun y => y = P.bw ∨ vT.ownBlock = some y) (R := fun V => Ch (fun _ => False) W9 V) (by kernel_rfl) (Ch.drew _) (fun V cV zk => ?_)
                    have CV := hide cV
                    have HSV := hide (HJ9.out.quiet cV)
                    clear cV
                    have HC := hide (fun wq (kq : Ch (fun y => y = P.bw ∨ vT.ownBlock = some y) V wq) => HX9.out wq ((CV.out.mono (Q' := fun y => y = P.bw ∨ vT.ownBlock = some y) (fun _ _ h => h.elim)).trans kq (fun _ _ h => h)))
                    apply tk 0 tl0 rfl (by kernel_rfl) (fun _ _ _ h => h) zk
                    · intro wq zq
                      go_simp
                      try rfl
                    go_frame
                    apply tk 1 tl1 rfl (by kernel_rfl) (fun _ _ _ h => h) zk
                    · intro wq zq
                      go_simp
                      try rfl
                    go_frame
                    apply tk 2 tl2 rfl (by kernel_rfl) (fun _ _ _ h => h) zk
                    · intro wq zq
                      go_simp
                      try rfl
                    go_frame
                    apply tk 3 tl3 rfl (by kernel_rfl) (fun _ _ _ h => h) zk
                    · intro wq zq
                      go_simp
                      try rfl
                    go_frame
                    apply tk 5 tl5 rfl (by kernel_rfl) (fun _ _ _ h => h) zk
                    · intro wq zq
                      obtain ⟨s0, s1⟩ := HC.out _ zq
                      go_simp
                      try rfl
                    go_frame
                    refine wpAnyH_ready (rs := [4, 6]) (by kernel_rfl) (by simp) ?_
                    refine AllReadyH.cons (o := tl4) rfl (fun K hK => ?_) (AllReadyH.cons (o := tl6) rfl (fun K hK => ?_) AllReadyH.nil)
                    · have s0 := HT9.out V CV.out
                      go_simp
                      refine hK.out _ _ ?_ (fun zk => ?_)
                      · exact zk
                      clear hK K
                      try go_frame
                      refine rd 6 tl6 rfl (by kernel_rfl) fun K hK => ?_
                      go_simp
                      refine hK.out _ _ ?_ (fun zk => ?_)
                      · exact zk.trans (Ch.alloc (Q := fun y => y = P.bw ∨ vT.ownBlock = some y) _ _) (fun _ _ h => h)
                      clear hK K
                      try go_frame
                      have HM5 := hide (show P.N ≤ (V.alloc (.cells #[.int .u32 (tkS l P.M), .int .u32 (tkG l P.M)] 43)).heap.size by rw [World.size_alloc]; have := HSV.out.low; omega)
                      refine rd 7 tl7 rfl (by kernel_rfl) fun K hK => ?_
                      refine step_append_at rfl (.tmp 103) (.tmp 105) 34 rfl P.N 43 i0 (.agg #[.int .u32 0, .int .u32 0]) 2 8 Try.underlying34 hi0 hy0 hy1 hy2 rfl (by decide) vT (hnds l).length ((hnds l).flatMap hF) rfl (World.ownsRow.alloc (show V.ownsRow P.N 43 2 vT (hnds l).length ((hnds l).flatMap hF) from HSV.out.tr) (.cells #[.int .u32 (tkS l P.M), .int .u32 (tkG l P.M)] 43)) ⟨V.heap.size, 0, none⟩ 1 1 (hF (tkS l P.M, tkG l P.M)) rfl rfl (row_new V (hF (tkS l P.M, tkG l P.M)) 43 rfl) (hF_one _) (by unfold maxLen; omega) (by omega) HM5.out ?_
                      intro v6 w16 hr6 hg6 ho6
                      have X6 := hide (SJ.told HSV.out hr6 hg6 (ho6.imp_right fun e => ⟨_, by rw [World.size_alloc]; exact Nat.le_succ _, e⟩))
                      have Z6 := hide (zk.trans (Ch.of_grown (Q := fun y => y = P.bw ∨ vT.ownBlock = some y) hg6 (fun y e => Or.inr e)) (fun _ _ h => h))
                      obtain ⟨a6, n6, c6, rfl⟩ := own_form hr6
                      clear hr6 hg6 ho6
                      refine hK.out _ _ ?_ (fun zk => ?_)
                      · exact Z6.out
                      clear hK K
                      try go_frame
                      apply tk 8 tl8 rfl (by kernel_rfl) (fun _ _ _ h => h) zk
                      · intro wq zq
                        go_simp
                        try rfl
                      go_frame
                      apply tk 9 tl9 rfl (by kernel_rfl) (fun _ _ _ h => h) zk
                      · intro wq zq
                        go_simp
                        try rfl
                      go_frame
                      have y6 := X6.out.2.2.1
                      have f6 := X6.out.2.2.2
                      refine rd 10 tl10 rfl (by kernel_rfl) fun K hK => ?_
                      go_simp
                      refine hK.out _ _ ?_ (fun zk => ?_)
                      · exact zk.trans (Ch.set (Q := fun y => y = P.bw ∨ vT.ownBlock = some y) _ (Or.inl rfl) _ _) (fun _ _ h => h)
                      clear hK K
                      try go_frame
                      refine wpAnyH_done (by kernel_rfl) ?_ _
                      have HFI := hide (show SI P (w16.setCell ⟨P.bw, 3, none⟩ (.slice a6 n6 c6)) (.slice a6 n6 c6) (tkd l P.M 2) L (2004 * (k + 1)) O from (X6.out.1.toI HTK.out.symm).more (by omega))
                      have HFB := hide (show Below w.heap.size w (w16.setCell ⟨P.bw, 3, none⟩ (.slice a6 n6 c6)) from HB9.out.trans ((CV.out.mono (Q' := fun y => y = P.bw ∨ vT.ownBlock = some y) (fun _ _ h => h.elim)).trans X6.out.2.1 (fun _ _ h => h) |>.below HB9.out.size (fun x hx e => by
                        have h3 := HPN.out.2.2
                        rcases e with e | e
                        · have := HPN.out.1; omega
                        · have := (own_in HJ9.out.tr e).1; omega)))
                      clear y6 f6
                      go_wp2
                      go_roundw
                      case rel => exact ⟨k + 1, _, _, L, O, by omega, by omega, by go_num, HFI, HL2.out, HFB⟩
                      case measure => simp [intOf]; omega
                    · go_simp
                      refine hK.out _ _ ?_ (fun zk => ?_)
                      · exact zk.trans (Ch.alloc (Q := fun y => y = P.bw ∨ vT.ownBlock = some y) _ _) (fun _ _ h => h)
                      clear hK K
                      try go_frame
                      refine rd 4 tl4 rfl (by kernel_rfl) fun K hK => ?_
                      have s0 := HT9.out _ (CV.out.trans (Ch.alloc _ (.cells #[.int .u32 (tkS l P.M), .int .u32 (tkG l P.M)] 43)) (fun _ _ h => h))
                      go_simp
                      refine hK.out _ _ ?_ (fun zk => ?_)
                      · exact zk
                      clear hK K
                      try go_frame
                      have HM5 := hide (show P.N ≤ (V.alloc (.cells #[.int .u32 (tkS l P.M), .int .u32 (tkG l P.M)] 43)).heap.size by rw [World.size_alloc]; have := HSV.out.low; omega)
                      refine rd 7 tl7 rfl (by kernel_rfl) fun K hK => ?_
                      refine step_append_at rfl (.tmp 103) (.tmp 105) 34 rfl P.N 43 i0 (.agg #[.int .u32 0, .int .u32 0]) 2 8 Try.underlying34 hi0 hy0 hy1 hy2 rfl (by decide) vT (hnds l).length ((hnds l).flatMap hF) rfl (World.ownsRow.alloc (show V.ownsRow P.N 43 2 vT (hnds l).length ((hnds l).flatMap hF) from HSV.out.tr) (.cells #[.int .u32 (tkS l P.M), .int .u32 (tkG l P.M)] 43)) ⟨V.heap.size, 0, none⟩ 1 1 (hF (tkS l P.M, tkG l P.M)) rfl rfl (row_new V (hF (tkS l P.M, tkG l P.M)) 43 rfl) (hF_one _) (by unfold maxLen; omega) (by omega) HM5.out ?_
                      intro v6 w16 hr6 hg6 ho6
                      have X6 := hide (SJ.told HSV.out hr6 hg6 (ho6.imp_right fun e => ⟨_, by rw [World.size_alloc]; exact Nat.le_succ _, e⟩))
                      have Z6 := hide (zk.trans (Ch.of_grown (Q := fun y => y = P.bw ∨ vT.ownBlock = some y) hg6 (fun y e => Or.inr e)) (fun _ _ h => h))
                      obtain ⟨a6, n6, c6, rfl⟩ := own_form hr6
                      clear hr6 hg6 ho6
                      refine hK.out _ _ ?_ (fun zk => ?_)
                      · exact Z6.out
                      clear hK K
                      try go_frame
                      apply tk 8 tl8 rfl (by kernel_rfl) (fun _ _ _ h => h) zk
                      · intro wq zq
                        go_simp
                        try rfl
                      go_frame
                      apply tk 9 tl9 rfl (by kernel_rfl) (fun _ _ _ h => h) zk
                      · intro wq zq
                        go_simp
                        try rfl
                      go_frame
                      have y6 := X6.out.2.2.1
                      have f6 := X6.out.2.2.2
                      refine rd 10 tl10 rfl (by kernel_rfl) fun K hK => ?_
                      go_simp
                      refine hK.out _ _ ?_ (fun zk => ?_)
                      · exact zk.trans (Ch.set (Q := fun y => y = P.bw ∨ vT.ownBlock = some y) _ (Or.inl rfl) _ _) (fun _ _ h => h)
                      clear hK K
                      try go_frame
                      refine wpAnyH_done (by kernel_rfl) ?_ _
                      have HFI := hide (show SI P (w16.setCell ⟨P.bw, 3, none⟩ (.slice a6 n6 c6)) (.slice a6 n6 c6) (tkd l P.M 2) L (2004 * (k + 1)) O from (X6.out.1.toI HTK.out.symm).more (by omega))
                      have HFB := hide (show Below w.heap.size w (w16.setCell ⟨P.bw, 3, none⟩ (.slice a6 n6 c6)) from HB9.out.trans ((CV.out.mono (Q' := fun y => y = P.bw ∨ vT.ownBlock = some y) (fun _ _ h => h.elim)).trans X6.out.2.1 (fun _ _ h => h) |>.below HB9.out.size (fun x hx e => by
                        have h3 := HPN.out.2.2
                        rcases e with e | e
                        · have := HPN.out.1; omega
                        · have := (own_in HJ9.out.tr e).1; omega)))
                      clear y6 f6
                      go_wp2
                      go_roundw
                      case rel => exact ⟨k + 1, _, _, L, O, by omega, by omega, by go_num, HFI, HL2.out, HFB⟩
                      case measure => simp [intOf]; omega
      · have q2 : decide ((k : Int) < 400) = false := decide_eq_false (by omega)
        go_wp2
        go_ret
        exact ⟨rfl, HB.out⟩
    · have q1 : decide ((k : Int) < (ops.length : Int)) = false := decide_eq_false (by omega)
      go_wp2
      go_ret
      exact ⟨rfl, HB.out⟩

end Go.Proofs.Ytcogiklnegpfiaa
