/- Layer 16: LocksTurn, walked. -/
import Derived.Test.YtoabhmpakcgloaaZlf
import Derived.Test.YtoabhmpakcgloaaZlg
import Derived.Test.YtoabhmpakcgloaaZlh
namespace Go.Proofs.Ytoabhmpakcgloaa
open Go.RowKit

abbrev yta0 : Oper := { dst := some 89, op := Op.move (Operand.tmp 12), type := 4, pos := "law.go:175", after := #[], guard := none }
abbrev yta1 : Oper := { dst := some 90, op := Op.move (Operand.tmp 89), type := 4, pos := "law.go:175", after := #[{ on := 0, ground := Ground.data }], guard := none }
abbrev yta2 : Oper := { dst := some 91, op := Op.move (Operand.tmp 13), type := 3, pos := "law.go:175", after := #[{ on := 1, ground := Ground.guard }], guard := some (1, false) }
abbrev yta3 : Oper := { dst := some 92, op := Op.indexAddr 31 (Operand.tmp 7) (Operand.tmp 91), type := 0, pos := "law.go:175", after := #[{ on := 2, ground := Ground.data }, { on := 1, ground := Ground.guard }], guard := some (1, false) }
abbrev yta4 : Oper := { dst := some 93, op := Op.load 30 (Operand.tmp 92), type := 30, pos := "law.go:175", after := #[{ on := 3, ground := Ground.data }, { on := 1, ground := Ground.guard }], guard := some (1, false) }
abbrev yta5 : Oper := { dst := some 94, op := Op.move (Operand.tmp 14), type := 3, pos := "law.go:175", after := #[{ on := 1, ground := Ground.guard }], guard := some (1, false) }
abbrev yta6 : Oper := { dst := some 95, op := Op.indexAddr 30 (Operand.tmp 93) (Operand.tmp 94), type := 0, pos := "law.go:175", after := #[{ on := 4, ground := Ground.data }, { on := 5, ground := Ground.data }, { on := 1, ground := Ground.guard }], guard := some (1, false) }
abbrev yta7 : Oper := { dst := some 96, op := Op.load 35 (Operand.tmp 95), type := 35, pos := "law.go:175", after := #[{ on := 6, ground := Ground.data }, { on := 1, ground := Ground.guard }], guard := some (1, false) }
abbrev yta8 : Oper := { dst := some 97, op := Op.load 35 (Operand.tmp 11), type := 35, pos := "law.go:175", after := #[{ on := 1, ground := Ground.guard }], guard := some (1, false) }
abbrev yta9 : Oper := { dst := some 98, op := Op.binOp BinOp.eql 35 (Operand.tmp 96) (Operand.tmp 97) 35, type := 4, pos := "law.go:175", after := #[{ on := 7, ground := Ground.data }, { on := 8, ground := Ground.data }, { on := 1, ground := Ground.guard }], guard := some (1, false) }
abbrev yta10 : Oper := { dst := some 99, op := Op.pick (Operand.tmp 90) (Operand.const (Value.bool true)) (Operand.tmp 98), type := 4, pos := "law.go:175", after := #[{ on := 1, ground := Ground.data }, { on := 9, ground := Ground.data }], guard := none }
abbrev yta11 : Oper := { dst := some 12, op := Op.assign (Operand.tmp 99), type := 4, pos := "law.go:175", after := #[{ on := 10, ground := Ground.data }, { on := 1, ground := Ground.chain }, { on := 0, ground := Ground.phase }, { on := 1, ground := Ground.phase }, { on := 2, ground := Ground.phase }, { on := 3, ground := Ground.phase }, { on := 4, ground := Ground.phase }, { on := 5, ground := Ground.phase }, { on := 6, ground := Ground.phase }, { on := 7, ground := Ground.phase }, { on := 8, ground := Ground.phase }, { on := 9, ground := Ground.phase }, { on := 10, ground := Ground.phase }], guard := none }

/-- a step: what, who, where -/
structure Sp where
  k : Int
  g : Int
  h : Int
structure SpAt (w : World) (b o : Nat) (y : Sp) : Prop where
  c0 : w.cell? ⟨b, o, none⟩ = some (.int .i64 y.k)
  c1 : w.cell? ⟨b, o + 1, none⟩ = some (.int .i64 y.g)
  c2 : w.cell? ⟨b, o + 2, none⟩ = some (.int .i64 y.h)
  k : I64 y.k
  g : I64 y.g
  h : I64 y.h
theorem SpAt.below {w w' : World} (hb : Below w.heap.size w w') {b o : Nat} {y : Sp} (h : SpAt w b o y) : SpAt w' b o y :=
  ⟨cell_below hb h.c0, cell_below hb h.c1, cell_below hb h.c2, h.k, h.g, h.h⟩
theorem ite_ht (a b c d : Int) (w : World) : (if a = c then if b = d then Result.ok (Next.value (Value.bool true)) w else Result.ok (Next.value (Value.bool false)) w else Result.ok (Next.value (Value.bool false)) w) = Result.ok (Next.value (Value.bool (a == c && b == d))) w := by
  by_cases h1 : a = c <;> by_cases h2 : b = d <;> simp [h1, h2]
/-- what the loop holds -/
def TuI (w wr : World) (N c bp A k : Nat) : Prop := ∃ l G v f, Tw w wr N c bp l (T3 f) G A v f ∧ TI l f ∧ l.length ≤ k ∧ ∀ j, j < 3 → (f j).length ≤ k
abbrev z3 : Nat → List Hnd := fun _ => []
theorem z3_take (q : Nat) (hq : q < 3) : fnl ((T3 z3).take q) ((q : Int) + 1, 1) = none ∧ (T3 z3).take q ++ [frL ((q : Int) + 1, 1) 2] = (T3 z3).take (q + 1) := by
  rcases three hq with rfl | rfl | rfl <;> exact ⟨rfl, rfl⟩
theorem len_up {f : Nat → List Hnd} {k j : Nat} {r : List Hnd} (h : ∀ i, i < 3 → (f i).length ≤ k) (hr : r.length ≤ k + 1) : ∀ i, i < 3 → (upF f j r i).length ≤ k + 1 := fun i hi => by
  by_cases e : i = j
  · subst e; rw [upF_self]; exact hr
  · rw [upF_ne f e]; exact Nat.le_succ_of_le (h i hi)

set_option maxRecDepth 100000 in
set_option maxHeartbeats 64000000 in
theorem lturn_is {w : World} {sv : Value} {sc : List Sp} (hsc : Lst w.heap.size 3 (SpAt w) sv sc) : Calls Try.prog 3 #[sv] w fun e w' => e = .returned (.bool true) ∧ Below w.heap.size w w' := by
  obtain ⟨sb, so, ⟨sa0, scap, rfl, hscl, hsc63, hsad⟩, hsat⟩ := hsc
  have HSA := hide hsad
  have HST := hide (fun (W : World) (hb : Below w.heap.size w W) i (h : i < sc.length) => (hsat i h).below hb)
  clear hsad hsat hscl hsc63
  go_enter Try.func3, Try.ntmps3
  go_wp2_with fail
  refine (awake16_is w).mono ?_
  rintro e w1 ⟨rfl, hb1⟩
  go_wp2_with fail
  refine (face.new w1).mono ?_
  rintro e w2 ⟨bp, F0, rfl, hp2, hb2⟩
  go_wp2_with fail
  refine (lw_new hp2 hb2.size).mono ?_
  rintro e w3 ⟨c, G0, rfl, hl3, hb3⟩
  have B3 := hide (hb1.trans ((hb2.trans (hb3.mono hb2.size)).mono hb1.size))
  have B1 := hide hb1
  have H3 := hide hl3
  clear hb1 hp2 hb2 hl3 hb3
  obtain ⟨w4, hw4⟩ : ∃ z, w3.alloc (.cells #[.slice none 0 0, .slice none 0 0, .slice none 0 0] 31) = z := ⟨_, rfl⟩
  have c34 : Ch (fun _ => False) w3 w4 := by rw [← hw4]; exact Ch.alloc _ _
  have TW0 := hide (show Tw w w4 w1.heap.size c bp [] ((T3 z3).take 0) G0 w3.heap.size (fun _ => .slice none 0 0) z3 from ⟨H3.out.quiet c34, B3.out.trans (c34.below B3.out.size (fun _ _ h => h)), B1.out.size, ⟨by rw [← hw4]; exact heap_new _ _, fun _ _ => OffRow.nil _ _, fun _ _ _ _ _ b hb => by cases hb⟩, B3.out.size⟩)
  have HW4 := hide hw4
  clear c34
  go_wp2_with fail
  try rw [HW4.out]
  clear hw4
  obtain ⟨A, hA⟩ : ∃ z, w3.heap.size = z := ⟨_, rfl⟩
  rw [hA] at TW0
  try rw [hA]
  clear hA
  go_loopw [8] (fun i wr => ∃ q : Nat, q ≤ 3 ∧ i = .int .i64 (q : Int) ∧ Hid (∃ G, Tw w wr w1.heap.size c bp [] ((T3 z3).take q) G A (fun _ => .slice none 0 0) z3)) (fun i _ => 3 - (intOf i).toNat)
  case atStart => exact ⟨0, by decide, rfl, hide ⟨G0, TW0.out⟩⟩
  case round =>
    obtain ⟨q, hq, rfl, HI⟩ := hrel
    obtain ⟨W0, rfl⟩ : ∃ x, x = wr := ⟨_, rfl⟩
    by_cases hq3 : q < 3
    · have i1 : (q : Int) < 3 := by omega
      have i0 : (0 : Int) ≤ (q : Int) := by omega
      have hqw : IntKind.i64.wrap ((q : Int) + 1) = (q : Int) + 1 := by rw [IntKind.wrap_i64]; omega
      have HQ := hide hq3
      clear hq hq3
      obtain ⟨G, tw⟩ := HI.out
      have TW := hide tw
      clear HI tw
      go_wp2_with fail
      refine (lhandle_is W0 (n := (q : Int) + 1) (by omega) (by omega)).mono ?_
      rintro e W1 ⟨rfl, hb⟩
      have TW := hide (TW.out.quiet (Ch.of_below hb))
      clear hb
      go_wp2_with fail
      refine (lw_make TW.out.s1 (x := ((q : Int) + 1, 1)) (nn_j q) (k := 2) (by decide) (z3_take q HQ.out).1).mono ?_
      rintro e W2 ⟨rfl, hans⟩
      rw [(z3_take q HQ.out).2] at hans
      obtain ⟨G2, tw2, -, -⟩ := TW.out.call hans
      have TW := hide tw2
      clear hans tw2
      go_wp2_with fail
      refine ⟨?rel, ?measure⟩
      case rel => exact ⟨q + 1, HQ.out, rfl, hide ⟨G2, TW.out⟩⟩
      case measure =>
        show 3 - ((q : Int) + 1).toNat < 3 - (q : Int).toNat
        have := HQ.out
        omega
    · have i1 : ¬ (q : Int) < 3 := by omega
      have hqe : q = 3 := by omega
      subst hqe
      clear hq hq3
      obtain ⟨G, tw⟩ := HI.out
      have TW0 := hide (show Tw w W0 w1.heap.size c bp [] (T3 z3) G A (fun _ => .slice none 0 0) z3 from tw)
      clear HI tw
      go_wp2_with fail
      go_loopw [9] (fun i wr => ∃ k : Nat, k ≤ sc.length ∧ k ≤ 500 ∧ i = .int .i64 (k : Int) ∧ Hid (TuI w wr w1.heap.size c bp A k)) (fun i _ => 500 - (intOf i).toNat)
      case atStart => exact ⟨0, Nat.zero_le _, by omega, rfl, hide ⟨[], G, _, z3, TW0.out, TI.start, Nat.le_refl _, fun _ _ => Nat.le_refl _⟩⟩
      case round =>
        obtain ⟨k, hk, hk5, rfl, HI⟩ := hrel
        obtain ⟨W9, rfl⟩ : ∃ x, x = wr := ⟨_, rfl⟩
        obtain ⟨l, G, v, f, tw, ti, hll, hfl⟩ := HI.out
        have TW := hide tw
        have TII := hide ti
        have HLN := hide (And.intro hll hfl)
        clear HI tw ti hll hfl
        by_cases hlt : k < sc.length
        · have i1 : (k : Int) < (sc.length : Int) := by omega
          by_cases h500 : k < 500
          · have i2 : (k : Int) < 500 := by omega
            have HL := hide (And.intro hlt h500)
            obtain ⟨y, hy⟩ : ∃ y, sc[k] = y := ⟨_, rfl⟩
            have hsa := (HSA.out (by omega)).1
            subst hsa
            have hT := fun (W : World) (hb : Below w.heap.size w W) => HST.out W hb k hlt
            rw [hy] at hT
            have HT := hide hT
            have i0' : (0 : Int) ≤ (k : Int) := by omega
            have hiw : IntKind.i64.wrap ((k : Int) + 1) = (k : Int) + 1 := by rw [IntKind.wrap_i64]; omega
            clear hlt h500 hk hk5 hy hT
            obtain ⟨t0, t1, t2, uk, ug, uh⟩ := HT.out W9 TW.out.bl
            have UG := hide ug
            have UH := hide uh
            go_wp2_with fail
            clear t0 t1 t2 uk ug uh
            refine (picks_is UH.out (n := 3) (by decide) (by decide) _).mono ?_
            rintro e wp ⟨rfl, hw⟩
            rw [hw]
            clear hw wp
            obtain ⟨j, hj⟩ : ∃ j, pkW y.h 3 = j := ⟨_, rfl⟩
            have HJ := hide (show j < 3 by rw [← hj]; exact pkW_lt y.h (by decide))
            rw [hj]
            clear hj
            have hpk := pkW_lt y.g (n := 6) (by decide)
            obtain ⟨t0, t1, t2, uk, ug, uh⟩ := HT.out W9 TW.out.bl
            go_wp2_with fail
            clear t0 t1 t2 uk ug uh
            refine (picks_is UG.out (n := 6) (by decide) (by decide) _).mono ?_
            rintro e wp ⟨rfl, hw⟩
            rw [hw]
            clear hw wp
            have hwr : IntKind.i64.wrap (11 + (pkW y.g 6 : Int)) = 11 + (pkW y.g 6 : Int) := by rw [IntKind.wrap_i64]; omega
            go_wp2_with fail
            clear hwr
            refine (lhandle_is W9 (n := (11 + (pkW y.g 6 : Int))) (by omega) (by omega)).mono ?_
            rintro e W1 ⟨rfl, hb⟩
            have TW := hide (TW.out.quiet (Ch.of_below hb))
            clear hb
            obtain ⟨W2, hW2⟩ : ∃ z, W1.alloc (.cells #[.int .u32 (11 + (pkW y.g 6 : Int)), .int .u32 1] 35) = z := ⟨_, rfl⟩
            have NG := hide (show W2.heap[W1.heap.size]? = some (.cells #[.int .u32 (11 + (pkW y.g 6 : Int)), .int .u32 1] 35 (0, 0)) by rw [← hW2]; exact heap_new _ _)
            have NGO := hide (show ∀ i, i < 3 → ∀ b, (v i).ownBlock = some b → b ≠ W1.heap.size from fun i hi b hb e => by have := (TW.out.tm.own hi hb).2.1; omega)
            have cA : Ch (fun _ => False) W1 W2 := by rw [← hW2]; exact Ch.alloc _ _
            have TW := hide (TW.out.quiet cA)
            have HW2 := hide hW2
            clear cA
            obtain ⟨g, hg⟩ : ∃ g : Hnd, g = ((11 + (pkW y.g 6 : Int)), 1) := ⟨_, rfl⟩
            have HG := hide (show nnH g = false ∧ UsW g.1 ∧ UsW g.2 from by rw [hg]; exact ⟨by simp [nnH], ⟨by show 0 ≤ 11 + (pkW y.g 6 : Int); omega, by show 11 + (pkW y.g 6 : Int) ≤ 4294967295; omega⟩, ⟨by show (0 : Int) ≤ 1; decide, by show (1 : Int) ≤ 4294967295; decide⟩⟩)
            have NG := hide (show W2.heap[W1.heap.size]? = some (.cells #[.int .u32 g.1, .int .u32 g.2] 35 (0, 0)) by rw [hg]; exact NG.out)
            obtain ⟨gb, hgb⟩ : ∃ z, W1.heap.size = z := ⟨_, rfl⟩
            rw [hgb] at NG NGO
            go_wp2_with fail
            try rw [HW2.out]
            try rw [hgb]
            clear hW2 hpk hg hgb
            go_loopw [12, 13] (fun bv qv wr => ∃ q : Nat, q ≤ 3 ∧ qv = .int .i64 (q : Int) ∧ bv = .bool (inT g f q) ∧ Hid (Ch (fun _ => False) W2 wr)) (fun _ qv _ => 3 - (intOf qv).toNat)
            case atStart => exact ⟨0, by decide, rfl, rfl, hide (Ch.refl _ _)⟩
            case round =>
              obtain ⟨q, hq, rfl, rfl, HC3⟩ := hrel
              obtain ⟨W3, rfl⟩ : ∃ x, x = wr := ⟨_, rfl⟩
              by_cases hq3 : q < 3
              · have j1 : (q : Int) < 3 := by omega
                have j0 : (0 : Int) ≤ (q : Int) := by omega
                have jw : IntKind.i64.wrap ((q : Int) + 1) = (q : Int) + 1 := by rw [IntKind.wrap_i64]; omega
                have HQ := hide hq3
                clear hq hq3
                obtain ⟨va, vc, hv, -, hvm⟩ := (TW.out.tm.row q HQ.out).form
                obtain ⟨nl, hnl⟩ : ∃ z, (f q).length = z := ⟨_, rfl⟩
                rw [hnl] at hv
                have HNL := hide hnl
                have HV := hide hv
                have HK1 := hide (show nl ≤ k from by rw [← hnl]; exact HLN.out.2 q HQ.out)
                clear hv hnl hvm
                go_wp2_with fail
                go_loopw [12, 14] (fun bv mv wr => ∃ m : Nat, m ≤ nl ∧ mv = .int .i64 ((m : Int) + 1) ∧ bv = .bool (inT g f q || inL g ((f q).tail.take m)) ∧ Hid (Ch (fun _ => False) W2 wr)) (fun _ mv _ => nl + 1 - (intOf mv).toNat)
                case atStart => exact ⟨0, Nat.zero_le _, rfl, by rw [List.take_zero]; show _ = Value.bool (inT g f q || false); rw [Bool.or_false], HC3⟩
                case round =>
                  obtain ⟨m, hm, rfl, rfl, HC4⟩ := hrel
                  obtain ⟨W4, rfl⟩ : ∃ x, x = wr := ⟨_, rfl⟩
                  have f0 : W4.cell? ⟨A, q, none⟩ = some (.slice va nl vc) := by have e := ((TW.out.quiet HC4.out).tm.cell HQ.out); rw [HV.out] at e; exact e
                  by_cases hml : m + 1 < nl
                  · have m1 : (m : Int) + 1 < (nl : Int) := by omega
                    have m0 : (0 : Int) ≤ (m : Int) + 1 := by omega
                    have HM := hide hml
                    have hlen : m + 1 < (f q).length := by rw [HNL.out]; exact hml
                    obtain ⟨lb, lo, lc, hv2, hcl⟩ := (TW.out.tm.row q HQ.out).at hkF_len hlen
                    rw [HNL.out, HV.out] at hv2
                    cases hv2
                    obtain ⟨z, hz⟩ : ∃ z, (f q)[m + 1] = z := ⟨_, rfl⟩
                    have h0 := hcl 0 _ rfl
                    have h1 := hcl 1 _ rfl
                    rw [hz] at h0 h1
                    simp only [Nat.add_zero] at h0
                    have HTK := hide (show (f q).tail.take (m + 1) = (f q).tail.take m ++ [z] from by rw [List.take_add_one, List.getElem?_tail, List.getElem?_eq_getElem hlen, hz]; rfl)
                    have HCL := hide (fun wq (kq : Ch (fun _ => False) W2 wq) => show (wq.cell? ⟨lb, lo + (m + 1) * 2, none⟩ = some (.int .u32 z.1) ∧ wq.cell? ⟨lb, lo + (m + 1) * 2 + 1, none⟩ = some (.int .u32 z.2)) ∧ (wq.cell? ⟨gb, 0, none⟩ = some (.int .u32 g.1) ∧ wq.cell? ⟨gb, 1, none⟩ = some (.int .u32 g.2)) ∧ wq.cell? ⟨A, q, none⟩ = some (.slice (some ⟨lb, lo, none⟩) nl vc) from by
                      have e := Lib.cell_of_heap (kq.box NG.out (fun h => h))
                      have e2 := ((TW.out.quiet kq).tm.cell HQ.out)
                      rw [HV.out] at e2
                      exact ⟨⟨(kq.cell (cell_lt h0) (fun h => h) _).trans h0, (kq.cell (cell_lt h1) (fun h => h) _).trans h1⟩, ⟨by simp [e], by simp [e]⟩, e2⟩)
                    have mw : IntKind.i64.wrap ((m : Int) + 1 + 1) = (m : Int) + 1 + 1 := by have := HK1.out; have := HL.out.2; rw [IntKind.wrap_i64]; omega
                    have mt : ((m : Int) + 1).toNat = m + 1 := by omega
                    obtain ⟨bq, hbq⟩ : ∃ b, (inT g f q || inL g ((f q).tail.take m)) = b := ⟨_, rfl⟩
                    have HBQ := hide hbq
                    rw [hbq]
                    clear hz h0 h1 hcl hbq hml hm hlen
                    cases bq with
                    | true =>
                      go_wp2
                      refine wp_reg (fun _ => False) (R := fun V => Ch (fun _ => False) W4 V) (by kernel_rfl) (Ch.drew _) (fun V cV zk => ?_)
                      have CV := hide cV
                      clear cV
                      have HX := hide (fun wq (kq : Ch (fun _ => False) V wq) => HCL.out wq (HC4.out.trans (CV.out.trans kq (fun _ _ h => h)) (fun _ _ h => h)))
                      apply tk 0 yta0 rfl (by kernel_rfl) (fun _ _ _ h => h) zk
                      · intro wq zq
                        go_simp
                        try rfl
                      go_frame
                      apply tk 1 yta1 rfl (by kernel_rfl) (fun _ _ _ h => h) zk
                      · intro wq zq
                        go_simp
                        try rfl
                      go_frame
                      apply sk 2 yta2 rfl (by kernel_rfl) (fun _ _ _ h => h) zk
                      go_frame
                      apply sk 3 yta3 rfl (by kernel_rfl) (fun _ _ _ h => h) zk
                      go_frame
                      apply sk 4 yta4 rfl (by kernel_rfl) (fun _ _ _ h => h) zk
                      go_frame
                      apply sk 5 yta5 rfl (by kernel_rfl) (fun _ _ _ h => h) zk
                      go_frame
                      apply sk 6 yta6 rfl (by kernel_rfl) (fun _ _ _ h => h) zk
                      go_frame
                      apply sk 7 yta7 rfl (by kernel_rfl) (fun _ _ _ h => h) zk
                      go_frame
                      apply sk 8 yta8 rfl (by kernel_rfl) (fun _ _ _ h => h) zk
                      go_frame
                      apply sk 9 yta9 rfl (by kernel_rfl) (fun _ _ _ h => h) zk
                      go_frame
                      apply tk 10 yta10 rfl (by kernel_rfl) (fun _ _ _ h => h) zk
                      · intro wq zq
                        go_simp
                        try rfl
                      go_frame
                      apply tk 11 yta11 rfl (by kernel_rfl) (fun _ _ _ h => h) zk
                      · intro wq zq
                        go_simp
                        try rfl
                      go_frame
                      refine wpAnyH_done (by kernel_rfl) ?_ _
                      clear f0
                      go_wp2
                      refine ⟨?rel, ?measure⟩
                      case rel => exact ⟨m + 1, Nat.le_of_lt HM.out, by rw [show (((m + 1 : Nat) : Int) + 1) = (m : Int) + 1 + 1 from rfl], by rw [HTK.out, inL_snoc, ← Bool.or_assoc, HBQ.out]; rfl, hide (HC4.out.trans CV.out (fun _ _ h => h))⟩
                      case measure =>
                        show nl + 1 - ((m : Int) + 1 + 1).toNat < nl + 1 - ((m : Int) + 1).toNat
                        have := HM.out
                        omega
                    | false =>
                      go_wp2
                      refine wp_reg (fun _ => False) (R := fun V => Ch (fun _ => False) W4 V) (by kernel_rfl) (Ch.drew _) (fun V cV zk => ?_)
                      have CV := hide cV
                      clear cV
                      have HX := hide (fun wq (kq : Ch (fun _ => False) V wq) => HCL.out wq (HC4.out.trans (CV.out.trans kq (fun _ _ h => h)) (fun _ _ h => h)))
                      apply tk 0 yta0 rfl (by kernel_rfl) (fun _ _ _ h => h) zk
                      · intro wq zq
                        go_simp
                        try rfl
                      go_frame
                      apply tk 1 yta1 rfl (by kernel_rfl) (fun _ _ _ h => h) zk
                      · intro wq zq
                        go_simp
                        try rfl
                      go_frame
                      apply tk 2 yta2 rfl (by kernel_rfl) (fun _ _ _ h => h) zk
                      · intro wq zq
                        go_simp
                        try rfl
                      go_frame
                      apply tk 3 yta3 rfl (by kernel_rfl) (fun _ _ _ h => h) zk
                      · intro wq zq
                        obtain ⟨⟨s0, s1⟩, ⟨s2, s3⟩, s4⟩ := HX.out _ zq
                        go_simp
                        try rfl
                      go_frame
                      apply tk 4 yta4 rfl (by kernel_rfl) (fun _ _ _ h => h) zk
                      · intro wq zq
                        obtain ⟨⟨s0, s1⟩, ⟨s2, s3⟩, s4⟩ := HX.out _ zq
                        go_simp
                        try rfl
                      go_frame
                      apply tk 5 yta5 rfl (by kernel_rfl) (fun _ _ _ h => h) zk
                      · intro wq zq
                        go_simp
                        try rfl
                      go_frame
                      apply tk 6 yta6 rfl (by kernel_rfl) (fun _ _ _ h => h) zk
                      · intro wq zq
                        obtain ⟨⟨s0, s1⟩, ⟨s2, s3⟩, s4⟩ := HX.out _ zq
                        go_simp
                        try rfl
                      go_frame
                      apply tk 7 yta7 rfl (by kernel_rfl) (fun _ _ _ h => h) zk
                      · intro wq zq
                        obtain ⟨⟨s0, s1⟩, ⟨s2, s3⟩, s4⟩ := HX.out _ zq
                        go_simp
                        try rfl
                      go_frame
                      apply tk 8 yta8 rfl (by kernel_rfl) (fun _ _ _ h => h) zk
                      · intro wq zq
                        obtain ⟨⟨s0, s1⟩, ⟨s2, s3⟩, s4⟩ := HX.out _ zq
                        go_simp
                        try rfl
                      go_frame
                      apply tk 9 yta9 rfl (by kernel_rfl) (fun _ _ _ h => h) zk
                      · intro wq zq
                        go_simp
                        exact ite_ht _ _ _ _ _
                      go_frame
                      apply tk 10 yta10 rfl (by kernel_rfl) (fun _ _ _ h => h) zk
                      · intro wq zq
                        go_simp
                        try rfl
                      go_frame
                      apply tk 11 yta11 rfl (by kernel_rfl) (fun _ _ _ h => h) zk
                      · intro wq zq
                        go_simp
                        try rfl
                      go_frame
                      refine wpAnyH_done (by kernel_rfl) ?_ _
                      clear f0
                      go_wp2
                      refine ⟨?rel, ?measure⟩
                      case rel => exact ⟨m + 1, Nat.le_of_lt HM.out, by rw [show (((m + 1 : Nat) : Int) + 1) = (m : Int) + 1 + 1 from rfl], by rw [HTK.out, inL_snoc, ← Bool.or_assoc, HBQ.out]; rw [Bool.false_or], hide (HC4.out.trans CV.out (fun _ _ h => h))⟩
                      case measure =>
                        show nl + 1 - ((m : Int) + 1 + 1).toNat < nl + 1 - ((m : Int) + 1).toNat
                        have := HM.out
                        omega
                  · have m1 : ¬ (m : Int) + 1 < (nl : Int) := by omega
                    have htk : (f q).tail.take m = (f q).tail := List.take_of_length_le (by rw [List.length_tail, HNL.out]; omega)
                    rw [htk]
                    clear htk hml hm
                    go_wp2_with fail
                    refine ⟨?rel, ?measure⟩
                    case rel => exact ⟨q + 1, HQ.out, rfl, rfl, HC4⟩
                    case measure =>
                      show 3 - ((q : Int) + 1).toNat < 3 - (q : Int).toNat
                      have := HQ.out
                      omega
              · have j1 : ¬ (q : Int) < 3 := by omega
                have hqe : q = 3 := by omega
                subst hqe
                have TW := hide (TW.out.quiet HC3.out)
                have NG := hide (HC3.out.box NG.out (fun h => h))
                clear hq hq3 j1
                have j0 : (0 : Int) ≤ (j : Int) := by omega
                have j3 : (j : Int) < 3 := by have := HJ.out; omega
                have jw : IntKind.i64.wrap ((j : Int) + 1) = (j : Int) + 1 := by have := HJ.out; rw [IntKind.wrap_i64]; omega
                have ujs : UsW ((j : Int) + 1) := by have := HJ.out; constructor <;> omega
                have uj1 : UsW 1 := by constructor <;> decide
                have UJ := hide (And.intro ujs uj1)
                clear ujs uj1
                by_cases hkd : y.k.tmod 2 = 0
                · have hk2 : (y.k.tmod 2 == 0) = true := by rw [hkd]; rfl
                  obtain ⟨t0, t1, t2, uk, ug, uh⟩ := HT.out W3 TW.out.bl
                  clear t1 t2 uk ug uh
                  go_wp2
                  clear t0 hk2 hkd
                  cases hin : inT g f 3 with
                  | true =>
                    have HIN := hide hin
                    clear hin
                    as_aux_lemma =>
                      go_wp2
                      refine wp_thenC (so_turn (c := c) (gb := gb) (j := j) (g := g) HJ.out (Qs := G) (fun y hy => (TW.out.s1.foot hy).2) (fun wq kq => by have e := Lib.cell_of_heap (kq.box NG.out (fun e => e.elim (TW.out.s1.nbox NG.out (by decide) (by decide) (by decide) (by decide) (by decide)) (fun e => by have := (Array.getElem?_eq_some_iff.1 NG.out).1; omega))); exact ⟨by simp [e], by simp [e]⟩) (R := fun dd er sv V w' => (dd.f = 0 ∧ er = 163 ∧ sv = .slice none 0 0) ∧ AnsL V w' w1.heap.size c bp G (l) (T3 f)) (fun V cV => (lw_lock (TW.out.quiet cV).s1 (by have := HLN.out.1; have := HL.out.2; omega) HG.out.2.1 HG.out.2.2 UJ.out.1 UJ.out.2).mono (fun e w' hh => ?_)) (fun D dd er sa sn sc2 V w6 w7 t107 t108 t109 t110 t111 t112 t113 t114 t115 cV hR hcQ hA hn7 hc7 hd => ?_))
                      · rw [tuA TII.out HG.out.1 HIN.out] at hh
                        obtain ⟨rfl, ha⟩ := hh
                        obtain ⟨G2, a1, a2, a3⟩ := ha
                        exact ⟨⟨0, zVa, false, []⟩, 163, none, 0, 0, rfl, ⟨⟨rfl, rfl, rfl⟩, G2, a1, a2, a3⟩, a2⟩
                      · obtain ⟨⟨hf, rfl, hsv⟩, hans⟩ := hR
                        injection hsv with e1 e2 e3
                        subst e1 e2 e3
                        rw [hf] at hn7
                        obtain ⟨G3, tw3, ch3⟩ := TW.out.asked cV hans hA hc7 hd
                        have NG := hide (ch3.box NG.out (fun e => e.elim (TW.out.s1.nbox NG.out (by decide) (by decide) (by decide) (by decide) (by decide)) (fun e => by have := (Array.getElem?_eq_some_iff.1 NG.out).1; omega)))
                        have ND := hide hn7
                        have TW := hide tw3
                        clear hf hn7 hans cV hcQ hA hc7 hd tw3 ch3
                        go_wp2
                        refine ⟨?rel, ?measure⟩
                        case rel => exact ⟨k + 1, HL.out.1, HL.out.2, rfl, hide ⟨l, _, _, f, TW.out, TII.out, by have := HLN.out.1; omega, fun i hi => Nat.le_succ_of_le (HLN.out.2 i hi)⟩⟩
                        case measure =>
                          show 500 - ((k : Int) + 1).toNat < 500 - (k : Int).toNat
                          have := HL.out
                          omega
                  | false =>
                    have HIN := hide hin
                    clear hin
                    by_cases hfj : f j = []
                    · have HF0 := hide hfj
                      clear hfj
                      as_aux_lemma =>
                        go_wp2
                        refine wp_thenC (so_turn (c := c) (gb := gb) (j := j) (g := g) HJ.out (Qs := G) (fun y hy => (TW.out.s1.foot hy).2) (fun wq kq => by have e := Lib.cell_of_heap (kq.box NG.out (fun e => e.elim (TW.out.s1.nbox NG.out (by decide) (by decide) (by decide) (by decide) (by decide)) (fun e => by have := (Array.getElem?_eq_some_iff.1 NG.out).1; omega))); exact ⟨by simp [e], by simp [e]⟩) (R := fun dd er sv V w' => (dd.f = 0 ∧ er = 0 ∧ sv = .slice none 0 0) ∧ AnsL V w' w1.heap.size c bp G (l) (T3 (upF f j (f j ++ [g])))) (fun V cV => (lw_lock (TW.out.quiet cV).s1 (by have := HLN.out.1; have := HL.out.2; omega) HG.out.2.1 HG.out.2.2 UJ.out.1 UJ.out.2).mono (fun e w' hh => ?_)) (fun D dd er sa sn sc2 V w6 w7 t107 t108 t109 t110 t111 t112 t113 t114 t115 cV hR hcQ hA hn7 hc7 hd => ?_))
                        · rw [(tuB TII.out HG.out.1 HIN.out HJ.out HF0.out).1] at hh
                          obtain ⟨rfl, ha⟩ := hh
                          obtain ⟨G2, a1, a2, a3⟩ := ha
                          exact ⟨⟨0, zVa, false, []⟩, 0, none, 0, 0, rfl, ⟨⟨rfl, rfl, rfl⟩, G2, a1, a2, a3⟩, a2⟩
                        · obtain ⟨⟨hf, rfl, hsv⟩, hans⟩ := hR
                          injection hsv with e1 e2 e3
                          subst e1 e2 e3
                          rw [hf] at hn7
                          obtain ⟨G3, tw3, ch3⟩ := TW.out.asked cV hans hA hc7 hd
                          have NG := hide (ch3.box NG.out (fun e => e.elim (TW.out.s1.nbox NG.out (by decide) (by decide) (by decide) (by decide) (by decide)) (fun e => by have := (Array.getElem?_eq_some_iff.1 NG.out).1; omega)))
                          have ND := hide hn7
                          have TW := hide tw3
                          clear hf hn7 hans cV hcQ hA hc7 hd tw3 ch3
                          obtain ⟨va, vc, hv, -, -⟩ := (TW.out.tm.row j HJ.out).form
                          rw [HF0.out] at hv
                          have hv : v j = .slice va 0 vc := hv
                          have HV := hide hv
                          clear hv
                          go_wp2
                          refine wp_thenC (pt_lb (A := A) (D := D) (j := j) HJ.out (fun wq kq => by have e := Lib.cell_of_heap (kq.box ND.out (fun h => h)); have e2 := ((TW.out.quiet kq).tm.cell HJ.out); rw [HV.out] at e2; exact ⟨by simp [e], by simp [e], e2⟩) (fun Y1 x119 x120 x121 x122 x123 x124 x125 x126 x127 x128 x129 x130 x131 x132 x133 x134 x135 x136 x137 x138 x139 x140 x141 x142 x143 x144 x145 x146 x147 cY1 => ?_))
                          have TW := hide (TW.out.quiet cY1)
                          have NG := hide (cY1.box NG.out (fun h => h))
                          clear cY1
                          go_wp2
                          refine wp_thenC (om_turn (A := A) (gb := gb) (j := j) (g := g) HJ.out TW.out.tm (by have h1 := HLN.out.2 j HJ.out; have h2 := HL.out.2; omega) TW.out.bl.size NG.out (fun e => NGO.out j HJ.out _ e rfl) (fun Y2 v9 y149 y150 y151 y152 y153 y154 y155 y156 tm2 cY2 => ?_))
                          have TW := hide (show Tw w Y2 w1.heap.size c bp _ (T3 (upF f j (f j ++ [g]))) G3 A (fun i => if i = j then v9 else v i) (upF f j (f j ++ [g])) from ⟨TW.out.s1.frame cY2 (fun y hy e => e.elim (fun e => TW.out.notG HJ.out e hy) (fun e => TW.out.notA (e ▸ hy))), TW.out.bl.trans (cY2.below TW.out.bl.size (fun y hy e => e.elim (fun e => by have := (TW.out.tm.own HJ.out e).1; omega) (fun e => by have := TW.out.la; omega))), TW.out.lo, tm2, TW.out.la⟩)
                          clear tm2 cY2
                          have HLL := hide (show l.length ≤ k + 1 by have := HLN.out.1; omega)
                          have HFF := hide (len_up (j := j) HLN.out.2 (r := f j ++ [g]) (by have := HLN.out.2 j HJ.out; rw [List.length_append, List.length_singleton]; omega))
                          have TZ := hide (tuB TII.out HG.out.1 HIN.out HJ.out HF0.out).2
                          have HFJ := hide (show upF f j (f j ++ [g]) j = g :: [] from by rw [upF_self, HF0.out]; rfl)
                          go_wp2_with fail
                          refine (lhandle_is Y2 (n := (j : Int) + 1) (by omega) (by omega)).mono ?_
                          rintro e X1 ⟨rfl, hb⟩
                          have TW := hide (TW.out.quiet (Ch.of_below hb))
                          clear hb
                          go_wp2_with fail
                          refine (lw_holder TW.out.s1 ((j : Int) + 1, 1)).mono ?_
                          rintro e X2 ⟨rfl, hb⟩
                          have TW := hide (TW.out.quiet (Ch.of_below hb))
                          clear hb
                          rw [T3_find _ HJ.out, show isMuL (some ⟨((j : Int) + 1, 1), true, hdO ((upF f j (f j ++ [g])) j), 0⟩) = true from rfl, show hdL (some ⟨((j : Int) + 1, 1), true, hdO ((upF f j (f j ++ [g])) j), 0⟩) = hdO ((upF f j (f j ++ [g])) j) from rfl]
                          rw [HFJ.out, show hdO (g :: ([] : List Hnd)) = g from rfl]
                          obtain ⟨ea, ec, hev, -, -⟩ := (TW.out.tm.row j HJ.out).form
                          rw [HFJ.out] at hev
                          obtain ⟨en, hen⟩ : ∃ z, (g :: ([] : List Hnd)).length = z := ⟨_, rfl⟩
                          have hen0 : 0 < en := by rw [← hen]; exact Nat.zero_lt_succ _
                          rw [hen] at hev
                          have hen1 : (0 : Int) < (en : Int) := by omega
                          have e0 : (X2.alloc (.cells #[.int .u32 g.1, .int .u32 g.2] 35)).cell? ⟨A, j, none⟩ = some (.slice ea en ec) := by have e := ((TW.out.quiet (Ch.alloc (Q := fun _ => False) X2 (.cells #[.int .u32 g.1, .int .u32 g.2] 35))).tm.cell HJ.out); rw [hev] at e; exact e
                          clear hev
                          go_wp2
                          have hnn := heap_new X2 (.cells #[.int .u32 g.1, .int .u32 g.2] 35)
                          have hca := Ch.alloc (Q := fun _ => False) X2 (.cells #[.int .u32 g.1, .int .u32 g.2] 35)
                          generalize X2.alloc (.cells #[.int .u32 g.1, .int .u32 g.2] 35) = X3 at hnn hca e0 ⊢
                          have TW := hide (TW.out.quiet hca)
                          have NH := hide hnn
                          clear hnn hca e0
                          refine wp_thenC (end_b HJ.out TW.out TZ.out (by have h1 := HLL.out; have h2 := HL.out.2; omega) HFJ.out NH.out (fun X4 e236 e237 e238 e239 e240 e241 e242 e243 e244 e245 e246 e247 e248 e249 e250 e251 e252 e253 e254 e255 e256 e257 e258 e259 e260 e261 e262 e263 e264 e265 e266 e267 e268 e269 e270 e271 e272 e273 cX4 => ?_))
                          have TW := hide (TW.out.quiet cX4)
                          clear cX4
                          go_wp2
                          refine ⟨?rel, ?measure⟩
                          case rel => exact ⟨k + 1, HL.out.1, HL.out.2, rfl, hide ⟨_, _, _, _, TW.out, TZ.out, HLL.out, HFF.out⟩⟩
                          case measure =>
                            show 500 - ((k : Int) + 1).toNat < 500 - (k : Int).toNat
                            have := HL.out
                            omega
                    · have HF0 := hide hfj
                      clear hfj
                      as_aux_lemma =>
                        go_wp2
                        refine wp_thenC (so_turn (c := c) (gb := gb) (j := j) (g := g) HJ.out (Qs := G) (fun y hy => (TW.out.s1.foot hy).2) (fun wq kq => by have e := Lib.cell_of_heap (kq.box NG.out (fun e => e.elim (TW.out.s1.nbox NG.out (by decide) (by decide) (by decide) (by decide) (by decide)) (fun e => by have := (Array.getElem?_eq_some_iff.1 NG.out).1; omega))); exact ⟨by simp [e], by simp [e]⟩) (R := fun dd er sv V w' => (dd.f = 1 ∧ er = 0 ∧ sv = .slice none 0 0) ∧ AnsL V w' w1.heap.size c bp G (putW l ((j : Int) + 1) 1 3 g.1 g.2 0 0 0 0) (T3 (upF f j (f j ++ [g])))) (fun V cV => (lw_lock (TW.out.quiet cV).s1 (by have := HLN.out.1; have := HL.out.2; omega) HG.out.2.1 HG.out.2.2 UJ.out.1 UJ.out.2).mono (fun e w' hh => ?_)) (fun D dd er sa sn sc2 V w6 w7 t107 t108 t109 t110 t111 t112 t113 t114 t115 cV hR hcQ hA hn7 hc7 hd => ?_))
                        · rw [(tuC TII.out HG.out.1 HG.out.2.1 HG.out.2.2 HIN.out HJ.out HF0.out).1] at hh
                          obtain ⟨rfl, ha⟩ := hh
                          obtain ⟨G2, a1, a2, a3⟩ := ha
                          exact ⟨⟨1, zVa, false, []⟩, 0, none, 0, 0, rfl, ⟨⟨rfl, rfl, rfl⟩, G2, a1, a2, a3⟩, a2⟩
                        · obtain ⟨⟨hf, rfl, hsv⟩, hans⟩ := hR
                          injection hsv with e1 e2 e3
                          subst e1 e2 e3
                          rw [hf] at hn7
                          obtain ⟨G3, tw3, ch3⟩ := TW.out.asked cV hans hA hc7 hd
                          have NG := hide (ch3.box NG.out (fun e => e.elim (TW.out.s1.nbox NG.out (by decide) (by decide) (by decide) (by decide) (by decide)) (fun e => by have := (Array.getElem?_eq_some_iff.1 NG.out).1; omega)))
                          have ND := hide hn7
                          have TW := hide tw3
                          clear hf hn7 hans cV hcQ hA hc7 hd tw3 ch3
                          obtain ⟨va, vc, hv, -, -⟩ := (TW.out.tm.row j HJ.out).form
                          obtain ⟨nl, hnl⟩ : ∃ z, (f j).length = z := ⟨_, rfl⟩
                          have hnl0 : 0 < nl := by rw [← hnl]; exact List.length_pos_iff.2 HF0.out
                          rw [hnl] at hv
                          have HV := hide hv
                          clear hv
                          go_wp2
                          refine wp_thenC (pt_lc (A := A) (D := D) (j := j) HJ.out hnl0 (fun wq kq => by have e := Lib.cell_of_heap (kq.box ND.out (fun h => h)); have e2 := ((TW.out.quiet kq).tm.cell HJ.out); rw [HV.out] at e2; exact ⟨by simp [e], by simp [e], e2⟩) (fun Y1 x119 x120 x121 x122 x123 x124 x125 x126 x127 x128 x129 x130 x131 x132 x133 x134 x135 x136 x137 x138 x139 x140 x141 x142 x143 x144 x145 x146 x147 cY1 => ?_))
                          have TW := hide (TW.out.quiet cY1)
                          have NG := hide (cY1.box NG.out (fun h => h))
                          clear cY1
                          go_wp2
                          refine wp_thenC (om_turn (A := A) (gb := gb) (j := j) (g := g) HJ.out TW.out.tm (by have h1 := HLN.out.2 j HJ.out; have h2 := HL.out.2; omega) TW.out.bl.size NG.out (fun e => NGO.out j HJ.out _ e rfl) (fun Y2 v9 y149 y150 y151 y152 y153 y154 y155 y156 tm2 cY2 => ?_))
                          have TW := hide (show Tw w Y2 w1.heap.size c bp _ (T3 (upF f j (f j ++ [g]))) G3 A (fun i => if i = j then v9 else v i) (upF f j (f j ++ [g])) from ⟨TW.out.s1.frame cY2 (fun y hy e => e.elim (fun e => TW.out.notG HJ.out e hy) (fun e => TW.out.notA (e ▸ hy))), TW.out.bl.trans (cY2.below TW.out.bl.size (fun y hy e => e.elim (fun e => by have := (TW.out.tm.own HJ.out e).1; omega) (fun e => by have := TW.out.la; omega))), TW.out.lo, tm2, TW.out.la⟩)
                          clear tm2 cY2
                          have HLL := hide (show (putW l ((j : Int) + 1) 1 3 g.1 g.2 0 0 0 0).length ≤ k + 1 by have := HLN.out.1; have := putW_len l ((j : Int) + 1) 1 3 g.1 g.2 0 0 0 0; omega)
                          have HFF := hide (len_up (j := j) HLN.out.2 (r := f j ++ [g]) (by have := HLN.out.2 j HJ.out; rw [List.length_append, List.length_singleton]; omega))
                          have TZ := hide (tuC TII.out HG.out.1 HG.out.2.1 HG.out.2.2 HIN.out HJ.out HF0.out).2
                          obtain ⟨x, r, hxr⟩ := List.exists_cons_of_ne_nil HF0.out
                          have HFJ := hide (show upF f j (f j ++ [g]) j = x :: (r ++ [g]) from by rw [upF_self, hxr]; rfl)
                          clear hxr
                          go_wp2_with fail
                          refine (lhandle_is Y2 (n := (j : Int) + 1) (by omega) (by omega)).mono ?_
                          rintro e X1 ⟨rfl, hb⟩
                          have TW := hide (TW.out.quiet (Ch.of_below hb))
                          clear hb
                          go_wp2_with fail
                          refine (lw_holder TW.out.s1 ((j : Int) + 1, 1)).mono ?_
                          rintro e X2 ⟨rfl, hb⟩
                          have TW := hide (TW.out.quiet (Ch.of_below hb))
                          clear hb
                          rw [T3_find _ HJ.out, show isMuL (some ⟨((j : Int) + 1, 1), true, hdO ((upF f j (f j ++ [g])) j), 0⟩) = true from rfl, show hdL (some ⟨((j : Int) + 1, 1), true, hdO ((upF f j (f j ++ [g])) j), 0⟩) = hdO ((upF f j (f j ++ [g])) j) from rfl]
                          rw [HFJ.out, show hdO (x :: (r ++ [g])) = x from rfl]
                          obtain ⟨ea, ec, hev, -, -⟩ := (TW.out.tm.row j HJ.out).form
                          rw [HFJ.out] at hev
                          obtain ⟨en, hen⟩ : ∃ z, (x :: (r ++ [g])).length = z := ⟨_, rfl⟩
                          have hen0 : 0 < en := by rw [← hen]; exact Nat.zero_lt_succ _
                          rw [hen] at hev
                          have hen1 : (0 : Int) < (en : Int) := by omega
                          have e0 : (X2.alloc (.cells #[.int .u32 x.1, .int .u32 x.2] 35)).cell? ⟨A, j, none⟩ = some (.slice ea en ec) := by have e := ((TW.out.quiet (Ch.alloc (Q := fun _ => False) X2 (.cells #[.int .u32 x.1, .int .u32 x.2] 35))).tm.cell HJ.out); rw [hev] at e; exact e
                          clear hev
                          go_wp2
                          have hnn := heap_new X2 (.cells #[.int .u32 x.1, .int .u32 x.2] 35)
                          have hca := Ch.alloc (Q := fun _ => False) X2 (.cells #[.int .u32 x.1, .int .u32 x.2] 35)
                          generalize X2.alloc (.cells #[.int .u32 x.1, .int .u32 x.2] 35) = X3 at hnn hca e0 ⊢
                          have TW := hide (TW.out.quiet hca)
                          have NH := hide hnn
                          clear hnn hca e0
                          refine wp_thenC (end_b HJ.out TW.out TZ.out (by have h1 := HLL.out; have h2 := HL.out.2; omega) HFJ.out NH.out (fun X4 e236 e237 e238 e239 e240 e241 e242 e243 e244 e245 e246 e247 e248 e249 e250 e251 e252 e253 e254 e255 e256 e257 e258 e259 e260 e261 e262 e263 e264 e265 e266 e267 e268 e269 e270 e271 e272 e273 cX4 => ?_))
                          have TW := hide (TW.out.quiet cX4)
                          clear cX4
                          go_wp2
                          refine ⟨?rel, ?measure⟩
                          case rel => exact ⟨k + 1, HL.out.1, HL.out.2, rfl, hide ⟨_, _, _, _, TW.out, TZ.out, HLL.out, HFF.out⟩⟩
                          case measure =>
                            show 500 - ((k : Int) + 1).toNat < 500 - (k : Int).toNat
                            have := HL.out
                            omega
                · have hk2 : (y.k.tmod 2 == 0) = false := by simpa using hkd
                  obtain ⟨t0, t1, t2, uk, ug, uh⟩ := HT.out W3 TW.out.bl
                  clear t1 t2 uk ug uh
                  go_wp2_with fail
                  clear t0 hk2 hkd
                  refine (lhandle_is W3 (n := (j : Int) + 1) (by omega) (by omega)).mono ?_
                  rintro e U1 ⟨rfl, hb⟩
                  have TW := hide (TW.out.quiet (Ch.of_below hb))
                  clear hb NG NGO HC3
                  go_wp2_with fail
                  refine (lw_unlock TW.out.s1 (by have := HLN.out.1; have := HL.out.2; omega) TII.out.ji.ok (x := ((j : Int) + 1, 1)) UJ.out.1 UJ.out.2).mono ?_
                  rintro e U2 ⟨sv, rfl, hrr, hans⟩
                  by_cases hfj : f j = []
                  · rw [tuD HJ.out hfj] at hrr hans ⊢
                    have HF0 := hide hfj
                    clear hfj
                    as_aux_lemma =>
                      obtain ⟨G3, tw3, ch3, -⟩ := TW.out.call hans
                      obtain ⟨sa, sc2, hsv, -, -⟩ := hrr.form
                      obtain ⟨sn, hsn⟩ : ∃ z, ([] : List Wk).length = z := ⟨_, rfl⟩
                      rw [hsn] at hsv
                      have TW := hide tw3
                      subst hsv
                      have HSN := hide hsn
                      have RW := hide hrr
                      clear hans hrr tw3 ch3 hsn
                      go_wp2
                      have hnn := heap_new U2 (.cells #[.int .i64 15, .int .i64 zVa.n, .int .u32 zVa.s, .int .u32 zVa.g, .bool false, .slice sa sn sc2] 46)
                      have hca := Ch.alloc (Q := fun _ => False) U2 (.cells #[.int .i64 15, .int .i64 zVa.n, .int .u32 zVa.s, .int .u32 zVa.g, .bool false, .slice sa sn sc2] 46)
                      generalize U2.alloc (.cells #[.int .i64 15, .int .i64 zVa.n, .int .u32 zVa.s, .int .u32 zVa.g, .bool false, .slice sa sn sc2] 46) = U3 at hnn hca ⊢
                      have TW := hide (TW.out.quiet hca)
                      have RW := hide (Row.ch RW.out hca (fun _ _ h => h))
                      have ND := hide hnn
                      clear hnn hca
                      obtain ⟨D, hD⟩ : ∃ z, U2.heap.size = z := ⟨_, rfl⟩
                      rw [hD] at ND ⊢
                      clear hD
                      obtain rfl : sn = 0 := HSN.out.symm
                      obtain ⟨va, vc, hv, -, -⟩ := (TW.out.tm.row j HJ.out).form
                      rw [HF0.out] at hv
                      have hv : v j = .slice va 0 vc := hv
                      have HV := hide hv
                      clear hv
                      refine wp_thenC (pt_ud (A := A) (D := D) (j := j) HJ.out (fun wq kq => by have e := Lib.cell_of_heap (kq.box ND.out (fun h => h)); have e2 := ((TW.out.quiet kq).tm.cell HJ.out); rw [HV.out] at e2; exact ⟨by simp [e], e2⟩) (fun Y1 x165 x166 x167 x168 x169 x170 x171 x172 x173 x174 x175 x176 cY1 => ?_))
                      have TW := hide (TW.out.quiet cY1)
                      have ND := hide (cY1.box ND.out (fun h => h))
                      clear cY1
                      have f0 : Y1.cell? ⟨A, j, none⟩ = some (.slice va 0 vc) := by have e := (TW.out.tm.cell HJ.out); rw [HV.out] at e; exact e
                      go_wp2
                      clear f0
                      refine wp_thenC (pt_vd (A := A) (D := D) (j := j) (a2 := sa) (c2 := sc2) (fun wq kq => by have e := Lib.cell_of_heap (kq.box ND.out (fun h => h)); exact ⟨by simp [e], by simp [e]⟩) (fun Y2 y189 y190 y191 y192 y193 y194 y195 y196 y197 y198 y199 y200 y201 y202 y203 y204 y205 y206 y207 y208 y209 y210 y211 y212 y213 y214 y215 y216 y217 y218 y219 y220 y221 cY2 => ?_))
                      have TW := hide (TW.out.quiet cY2)
                      clear cY2
                      have HLL := hide (show l.length ≤ k + 1 by have := HLN.out.1; omega)
                      have HFF := hide (show ∀ i, i < 3 → (f i).length ≤ k + 1 from fun i hi => Nat.le_succ_of_le (HLN.out.2 i hi))
                      have TZ := TII
                      have HFJ := HF0
                      go_wp2_with fail
                      refine (lhandle_is Y2 (n := (j : Int) + 1) (by omega) (by omega)).mono ?_
                      rintro e X1 ⟨rfl, hb⟩
                      have TW := hide (TW.out.quiet (Ch.of_below hb))
                      clear hb
                      go_wp2_with fail
                      refine (lw_holder TW.out.s1 ((j : Int) + 1, 1)).mono ?_
                      rintro e X2 ⟨rfl, hb⟩
                      have TW := hide (TW.out.quiet (Ch.of_below hb))
                      clear hb
                      rw [T3_find _ HJ.out, show isMuL (some ⟨((j : Int) + 1, 1), true, hdO (f j), 0⟩) = true from rfl, show hdL (some ⟨((j : Int) + 1, 1), true, hdO (f j), 0⟩) = hdO (f j) from rfl]
                      rw [HFJ.out, show hdO [] = ((0, 0) : Hnd) from rfl]
                      obtain ⟨ea, ec, hev, -, -⟩ := (TW.out.tm.row j HJ.out).form
                      rw [HFJ.out] at hev
                      have hev : _ = Value.slice ea 0 ec := hev
                      have e0 : (X2.alloc (.cells #[.int .u32 0, .int .u32 0] 35)).cell? ⟨A, j, none⟩ = some (.slice ea 0 ec) := by have e := ((TW.out.quiet (Ch.alloc (Q := fun _ => False) X2 (.cells #[.int .u32 0, .int .u32 0] 35))).tm.cell HJ.out); rw [hev] at e; exact e
                      clear hev
                      go_wp2
                      have hnn := heap_new X2 (.cells #[.int .u32 0, .int .u32 0] 35)
                      have hca := Ch.alloc (Q := fun _ => False) X2 (.cells #[.int .u32 0, .int .u32 0] 35)
                      generalize X2.alloc (.cells #[.int .u32 0, .int .u32 0] 35) = X3 at hnn hca e0 ⊢
                      have TW := hide (TW.out.quiet hca)
                      have NH := hide hnn
                      clear hnn hca e0
                      refine wp_thenC (end_a HJ.out TW.out TZ.out (by have h1 := HLL.out; have h2 := HL.out.2; omega) HFJ.out NH.out (fun X4 e236 e237 e238 e239 e240 e241 e242 e243 e244 e245 e246 e247 e248 e249 e250 e251 e252 e253 e254 e255 e256 e257 e258 e259 e260 e261 e262 e263 e264 e265 e266 e267 e268 e269 e270 e271 e272 e273 cX4 => ?_))
                      have TW := hide (TW.out.quiet cX4)
                      clear cX4
                      go_wp2
                      refine ⟨?rel, ?measure⟩
                      case rel => exact ⟨k + 1, HL.out.1, HL.out.2, rfl, hide ⟨_, _, _, _, TW.out, TZ.out, HLL.out, HFF.out⟩⟩
                      case measure =>
                        show 500 - ((k : Int) + 1).toNat < 500 - (k : Int).toNat
                        have := HL.out
                        omega
                  · obtain ⟨wk, l2, hun, hti, hl2, hwk⟩ := tuU TII.out HJ.out hfj
                    rw [hun] at hrr hans ⊢
                    obtain ⟨x, r, hxr⟩ := List.exists_cons_of_ne_nil hfj
                    have HXR := hide hxr
                    rw [hxr] at hwk hti hans
                    have TZ := hide hti
                    have HWK := hide (show wk.map wkWho = r.take 1 from hwk)
                    have HLL := hide (show l2.length ≤ k + 1 by rw [hl2]; have := HLN.out.1; omega)
                    clear hun hfj hti hl2 hwk hxr
                    obtain ⟨G3, tw3, ch3, -⟩ := TW.out.call hans
                    obtain ⟨sa, sc2, hsv, -, -⟩ := hrr.form
                    obtain ⟨sn, hsn⟩ : ∃ z, (wk : List Wk).length = z := ⟨_, rfl⟩
                    rw [hsn] at hsv
                    have TW := hide tw3
                    subst hsv
                    have HSN := hide hsn
                    have RW := hide hrr
                    clear hans hrr tw3 ch3 hsn
                    go_wp2
                    have hnn := heap_new U2 (.cells #[.int .i64 0, .int .i64 zVa.n, .int .u32 zVa.s, .int .u32 zVa.g, .bool false, .slice sa sn sc2] 46)
                    have hca := Ch.alloc (Q := fun _ => False) U2 (.cells #[.int .i64 0, .int .i64 zVa.n, .int .u32 zVa.s, .int .u32 zVa.g, .bool false, .slice sa sn sc2] 46)
                    generalize U2.alloc (.cells #[.int .i64 0, .int .i64 zVa.n, .int .u32 zVa.s, .int .u32 zVa.g, .bool false, .slice sa sn sc2] 46) = U3 at hnn hca ⊢
                    have TW := hide (TW.out.quiet hca)
                    have RW := hide (Row.ch RW.out hca (fun _ _ h => h))
                    have ND := hide hnn
                    clear hnn hca
                    obtain ⟨D, hD⟩ : ∃ z, U2.heap.size = z := ⟨_, rfl⟩
                    rw [hD] at ND ⊢
                    clear hD
                    have hlr := HLN.out.2 j HJ.out
                    rw [HXR.out, List.length_cons] at hlr
                    obtain ⟨lb, lo, lc, hv, -⟩ := (TW.out.tm.row j HJ.out).at hkF_len (i := 0) (by rw [HXR.out]; exact Nat.zero_lt_succ _)
                    have hcap := (TW.out.tm.row j HJ.out).form
                    rw [HXR.out] at hv
                    have hlc : (x :: r).length ≤ lc := by
                      obtain ⟨_, c9, e9, h9, -⟩ := hcap
                      rw [hv, HXR.out] at e9
                      injection e9 with _ _ e9
                      rw [HXR.out] at h9
                      omega
                    obtain ⟨nr, hnr⟩ : ∃ z, r.length = z := ⟨_, rfl⟩
                    rw [List.length_cons, hnr] at hv hlc
                    rw [hnr] at hlr
                    have HNR := hide hnr
                    have HV := hide hv
                    have HROW := hide (show OffRow hkF 2 35 U3 w.heap.size (.slice (some ⟨lb, lo, none⟩) (x :: r).length lc) (x :: r) from by have e := TW.out.tm.row j HJ.out; rw [HXR.out, hv] at e; rw [List.length_cons, hnr]; exact e)
                    clear hv hnr hcap
                    refine wp_thenC (pt_uu (A := A) (D := D) (j := j) (n := nr + 1) HJ.out (Nat.zero_lt_succ _) (fun wq kq => by have e := Lib.cell_of_heap (kq.box ND.out (fun h => h)); have e2 := ((TW.out.quiet kq).tm.cell HJ.out); rw [HV.out] at e2; exact ⟨by simp [e], e2⟩) (fun Y1 x165 x166 x167 x168 x169 x170 x171 x172 x173 x174 x175 x176 cY1 => ?_))
                    have TW := hide (TW.out.quiet cY1)
                    have ND := hide (cY1.box ND.out (fun h => h))
                    have RW := hide (Row.ch RW.out cY1 (fun _ _ h => h))
                    have HROW := hide (HROW.out.ch cY1 (fun _ _ h => h))
                    clear cY1
                    have f0 : Y1.cell? ⟨A, j, none⟩ = some (.slice (some ⟨lb, lo, none⟩) (nr + 1) lc) := by have e := (TW.out.tm.cell HJ.out); rw [HV.out] at e; exact e
                    have ff := TW.out.tm.fz j
                    have k1 : (0 : Int) < ((nr + 1 : Nat) : Int) := by omega
                    have k2 : (1 : Int) ≤ ((nr + 1 : Nat) : Int) := by omega
                    have k3 : (((nr + 1 : Nat) : Int) == 0) = false := by simp; omega
                    go_wp2_with fail
                    · as_aux_lemma =>
                        have hlc1 : lc = 1 := by first | assumption | omega
                        cases r with
                        | nil =>
                          subst hlc1
                          have hn0 : nr = 0 := HNR.out.symm
                          subst hn0
                          have hwk0 : wk = [] := List.map_eq_nil_iff.1 HWK.out
                          subst hwk0
                          have hsn0 : sn = 0 := HSN.out.symm
                          subst hsn0
                          have hr0 : OffRow hkF 2 35 Y1 w.heap.size (.slice (some ⟨lb, lo, none⟩) 0 0) [] := HROW.out.rest0
                          have tm2 := TW.out.tm.upd HJ.out (Ch.refl _ Y1) hr0 (fun b hb => .inl (by rw [HV.out]; exact hb))
                          have cY2 : Ch (fun y => y = A) Y1 (Y1.setCell ⟨A, j, none⟩ (.slice (some ⟨lb, lo, none⟩) 0 0)) := Ch.set (Q := fun y => y = A) _ rfl j _
                          have nDA : D ≠ A := box_ne ND.out TW.out.tm.box (by decide)
                          have nWA : ∀ b, Value.ownBlock (.slice sa 0 sc2) = some b → ¬ b = A := fun b hb e => by obtain ⟨_, _, cur, e2⟩ := own_in RW.out hb; exact box_ne e2 TW.out.tm.box (by decide) e
                          generalize Y1.setCell ⟨A, j, none⟩ (.slice (some ⟨lb, lo, none⟩) 0 0) = Y2 at tm2 cY2 ⊢
                          have RW := hide (Row.ch RW.out cY2 nWA)
                          have ND := hide (cY2.box ND.out nDA)
                          have TW := hide (show Tw w Y2 w1.heap.size c bp l2 (T3 (upF f j ([] : List Hnd))) G3 A (fun i => if i = j then .slice (some ⟨lb, lo, none⟩) 0 0 else v i) (upF f j ([] : List Hnd)) from ⟨TW.out.s1.frame cY2 (fun y hy e => TW.out.notA (e ▸ hy)), TW.out.bl.trans (cY2.below TW.out.bl.size (fun y hy e => by have := TW.out.la; omega)), TW.out.lo, tm2, TW.out.la⟩)
                          have HR2 := hide (show OffRow hkF 2 35 Y2 w.heap.size (.slice (some ⟨lb, lo, none⟩) 0 0) [] from by have e := TW.out.tm.row j HJ.out; rw [upF_self, if_pos rfl] at e; exact e)
                          have HC2 := hide (show Y2.cell? ⟨A, j, none⟩ = some (.slice (some ⟨lb, lo, none⟩) 0 0) from by have e := TW.out.tm.cell HJ.out; rw [if_pos rfl] at e; exact e)
                          clear tm2 cY2 nDA nWA hr0 f0 ff k1 k2 k3
                          have TZ := hide (show TI l2 (upF f j ([] : List Hnd)) from TZ.out)
                          have HFF := hide (len_up (j := j) HLN.out.2 (r := ([] : List Hnd)) (by rw [List.length_nil]; omega))
                          have HFJ := hide (show upF f j ([] : List Hnd) j = [] from upF_self f j _)
                          refine wp_thenC (pt_v0 (A := A) (D := D) (j := j) (a2 := sa) (c2 := sc2) HJ.out (fun wq kq => by have e := Lib.cell_of_heap (kq.box ND.out (fun h => h)); have e2 := (kq.cell (cell_lt HC2.out) (fun h => h) _).trans HC2.out; exact ⟨by simp [e], by simp [e], e2⟩) (fun Y3 z189 z190 z191 z192 z193 z194 z195 z196 z197 z198 z199 z200 z201 z202 z203 z204 z205 z206 z207 z208 z209 z210 z211 z212 z213 z214 z215 z216 z217 z218 z219 z220 z221 cY3 => ?_))
                          have TW := hide (TW.out.quiet cY3)
                          clear cY3
                          go_wp2_with fail
                          refine (lhandle_is Y3 (n := (j : Int) + 1) (by omega) (by omega)).mono ?_
                          rintro e X1 ⟨rfl, hb⟩
                          have TW := hide (TW.out.quiet (Ch.of_below hb))
                          clear hb
                          go_wp2_with fail
                          refine (lw_holder TW.out.s1 ((j : Int) + 1, 1)).mono ?_
                          rintro e X2 ⟨rfl, hb⟩
                          have TW := hide (TW.out.quiet (Ch.of_below hb))
                          clear hb
                          rw [T3_find _ HJ.out, show isMuL (some ⟨((j : Int) + 1, 1), true, hdO (upF f j ([] : List Hnd) j), 0⟩) = true from rfl, show hdL (some ⟨((j : Int) + 1, 1), true, hdO (upF f j ([] : List Hnd) j), 0⟩) = hdO (upF f j ([] : List Hnd) j) from rfl]
                          rw [HFJ.out, show hdO [] = ((0, 0) : Hnd) from rfl]
                          obtain ⟨ea, ec, hev, -, -⟩ := (TW.out.tm.row j HJ.out).form
                          rw [HFJ.out] at hev
                          have hev : _ = Value.slice ea 0 ec := hev
                          have e0 : (X2.alloc (.cells #[.int .u32 0, .int .u32 0] 35)).cell? ⟨A, j, none⟩ = some (.slice ea 0 ec) := by have e := ((TW.out.quiet (Ch.alloc (Q := fun _ => False) X2 (.cells #[.int .u32 0, .int .u32 0] 35))).tm.cell HJ.out); rw [hev] at e; exact e
                          clear hev
                          go_wp2
                          have hnn := heap_new X2 (.cells #[.int .u32 0, .int .u32 0] 35)
                          have hca := Ch.alloc (Q := fun _ => False) X2 (.cells #[.int .u32 0, .int .u32 0] 35)
                          generalize X2.alloc (.cells #[.int .u32 0, .int .u32 0] 35) = X3 at hnn hca e0 ⊢
                          have TW := hide (TW.out.quiet hca)
                          have NH := hide hnn
                          clear hnn hca e0
                          refine wp_thenC (end_a HJ.out TW.out TZ.out (by have h1 := HLL.out; have h2 := HL.out.2; omega) HFJ.out NH.out (fun X4 e236 e237 e238 e239 e240 e241 e242 e243 e244 e245 e246 e247 e248 e249 e250 e251 e252 e253 e254 e255 e256 e257 e258 e259 e260 e261 e262 e263 e264 e265 e266 e267 e268 e269 e270 e271 e272 e273 cX4 => ?_))
                          have TW := hide (TW.out.quiet cX4)
                          clear cX4
                          go_wp2
                          refine ⟨?rel, ?measure⟩
                          case rel => exact ⟨k + 1, HL.out.1, HL.out.2, rfl, hide ⟨_, _, _, _, TW.out, TZ.out, HLL.out, HFF.out⟩⟩
                          case measure =>
                            show 500 - ((k : Int) + 1).toNat < 500 - (k : Int).toNat
                            have := HL.out
                            omega
                        | cons y2 r2 =>
                          exfalso
                          have e := HNR.out
                          rw [List.length_cons] at e
                          omega
                    · as_aux_lemma =>
                        have hlc1 : ¬ lc = 1 := by first | assumption | omega
                        cases r with
                        | nil =>
                          have hn0 : nr = 0 := HNR.out.symm
                          subst hn0
                          have hwk0 : wk = [] := List.map_eq_nil_iff.1 HWK.out
                          subst hwk0
                          have hsn0 : sn = 0 := HSN.out.symm
                          subst hsn0
                          have hr0 : OffRow hkF 2 35 Y1 w.heap.size (.slice (some ⟨lb, lo + 2, none⟩) 0 (lc - 1)) [] := HROW.out.rest hkF_len
                          have tm2 := TW.out.tm.upd HJ.out (Ch.refl _ Y1) hr0 (fun b hb => .inl (by rw [HV.out]; exact hb))
                          have cY2 : Ch (fun y => y = A) Y1 (Y1.setCell ⟨A, j, none⟩ (.slice (some ⟨lb, lo + 2, none⟩) 0 (lc - 1))) := Ch.set (Q := fun y => y = A) _ rfl j _
                          have nDA : D ≠ A := box_ne ND.out TW.out.tm.box (by decide)
                          have nWA : ∀ b, Value.ownBlock (.slice sa 0 sc2) = some b → ¬ b = A := fun b hb e => by obtain ⟨_, _, cur, e2⟩ := own_in RW.out hb; exact box_ne e2 TW.out.tm.box (by decide) e
                          generalize Y1.setCell ⟨A, j, none⟩ (.slice (some ⟨lb, lo + 2, none⟩) 0 (lc - 1)) = Y2 at tm2 cY2 ⊢
                          have RW := hide (Row.ch RW.out cY2 nWA)
                          have ND := hide (cY2.box ND.out nDA)
                          have TW := hide (show Tw w Y2 w1.heap.size c bp l2 (T3 (upF f j ([] : List Hnd))) G3 A (fun i => if i = j then .slice (some ⟨lb, lo + 2, none⟩) 0 (lc - 1) else v i) (upF f j ([] : List Hnd)) from ⟨TW.out.s1.frame cY2 (fun y hy e => TW.out.notA (e ▸ hy)), TW.out.bl.trans (cY2.below TW.out.bl.size (fun y hy e => by have := TW.out.la; omega)), TW.out.lo, tm2, TW.out.la⟩)
                          have HR2 := hide (show OffRow hkF 2 35 Y2 w.heap.size (.slice (some ⟨lb, lo + 2, none⟩) 0 (lc - 1)) [] from by have e := TW.out.tm.row j HJ.out; rw [upF_self, if_pos rfl] at e; exact e)
                          have HC2 := hide (show Y2.cell? ⟨A, j, none⟩ = some (.slice (some ⟨lb, lo + 2, none⟩) 0 (lc - 1)) from by have e := TW.out.tm.cell HJ.out; rw [if_pos rfl] at e; exact e)
                          clear tm2 cY2 nDA nWA hr0 f0 ff k1 k2 k3
                          have TZ := hide (show TI l2 (upF f j ([] : List Hnd)) from TZ.out)
                          have HFF := hide (len_up (j := j) HLN.out.2 (r := ([] : List Hnd)) (by rw [List.length_nil]; omega))
                          have HFJ := hide (show upF f j ([] : List Hnd) j = [] from upF_self f j _)
                          refine wp_thenC (pt_v0 (A := A) (D := D) (j := j) (a2 := sa) (c2 := sc2) HJ.out (fun wq kq => by have e := Lib.cell_of_heap (kq.box ND.out (fun h => h)); have e2 := (kq.cell (cell_lt HC2.out) (fun h => h) _).trans HC2.out; exact ⟨by simp [e], by simp [e], e2⟩) (fun Y3 z189 z190 z191 z192 z193 z194 z195 z196 z197 z198 z199 z200 z201 z202 z203 z204 z205 z206 z207 z208 z209 z210 z211 z212 z213 z214 z215 z216 z217 z218 z219 z220 z221 cY3 => ?_))
                          have TW := hide (TW.out.quiet cY3)
                          clear cY3
                          go_wp2_with fail
                          refine (lhandle_is Y3 (n := (j : Int) + 1) (by omega) (by omega)).mono ?_
                          rintro e X1 ⟨rfl, hb⟩
                          have TW := hide (TW.out.quiet (Ch.of_below hb))
                          clear hb
                          go_wp2_with fail
                          refine (lw_holder TW.out.s1 ((j : Int) + 1, 1)).mono ?_
                          rintro e X2 ⟨rfl, hb⟩
                          have TW := hide (TW.out.quiet (Ch.of_below hb))
                          clear hb
                          rw [T3_find _ HJ.out, show isMuL (some ⟨((j : Int) + 1, 1), true, hdO (upF f j ([] : List Hnd) j), 0⟩) = true from rfl, show hdL (some ⟨((j : Int) + 1, 1), true, hdO (upF f j ([] : List Hnd) j), 0⟩) = hdO (upF f j ([] : List Hnd) j) from rfl]
                          rw [HFJ.out, show hdO [] = ((0, 0) : Hnd) from rfl]
                          obtain ⟨ea, ec, hev, -, -⟩ := (TW.out.tm.row j HJ.out).form
                          rw [HFJ.out] at hev
                          have hev : _ = Value.slice ea 0 ec := hev
                          have e0 : (X2.alloc (.cells #[.int .u32 0, .int .u32 0] 35)).cell? ⟨A, j, none⟩ = some (.slice ea 0 ec) := by have e := ((TW.out.quiet (Ch.alloc (Q := fun _ => False) X2 (.cells #[.int .u32 0, .int .u32 0] 35))).tm.cell HJ.out); rw [hev] at e; exact e
                          clear hev
                          go_wp2
                          have hnn := heap_new X2 (.cells #[.int .u32 0, .int .u32 0] 35)
                          have hca := Ch.alloc (Q := fun _ => False) X2 (.cells #[.int .u32 0, .int .u32 0] 35)
                          generalize X2.alloc (.cells #[.int .u32 0, .int .u32 0] 35) = X3 at hnn hca e0 ⊢
                          have TW := hide (TW.out.quiet hca)
                          have NH := hide hnn
                          clear hnn hca e0
                          refine wp_thenC (end_a HJ.out TW.out TZ.out (by have h1 := HLL.out; have h2 := HL.out.2; omega) HFJ.out NH.out (fun X4 e236 e237 e238 e239 e240 e241 e242 e243 e244 e245 e246 e247 e248 e249 e250 e251 e252 e253 e254 e255 e256 e257 e258 e259 e260 e261 e262 e263 e264 e265 e266 e267 e268 e269 e270 e271 e272 e273 cX4 => ?_))
                          have TW := hide (TW.out.quiet cX4)
                          clear cX4
                          go_wp2
                          refine ⟨?rel, ?measure⟩
                          case rel => exact ⟨k + 1, HL.out.1, HL.out.2, rfl, hide ⟨_, _, _, _, TW.out, TZ.out, HLL.out, HFF.out⟩⟩
                          case measure =>
                            show 500 - ((k : Int) + 1).toNat < 500 - (k : Int).toNat
                            have := HL.out
                            omega
                        | cons y2 r2 =>
                          obtain ⟨kw, wt, hwk1, hkw, hwt⟩ := List.map_eq_cons_iff.1 (show wk.map wkWho = y2 :: [] from HWK.out)
                          have hwt : wt = [] := List.map_eq_nil_iff.1 hwt
                          subst hwt
                          subst hwk1
                          subst hkw
                          have hsn1 : sn = 1 := HSN.out.symm
                          subst hsn1
                          have hnr0 : 0 < nr := by rw [← HNR.out]; exact Nat.zero_lt_succ _
                          have hr0 : OffRow hkF 2 35 Y1 w.heap.size (.slice (some ⟨lb, lo + 2, none⟩) nr (lc - 1)) (wkWho kw :: r2) := by have e := HROW.out.rest hkF_len; rw [HNR.out] at e; exact e
                          have tm2 := TW.out.tm.upd HJ.out (Ch.refl _ Y1) hr0 (fun b hb => .inl (by rw [HV.out]; exact hb))
                          have cY2 : Ch (fun y => y = A) Y1 (Y1.setCell ⟨A, j, none⟩ (.slice (some ⟨lb, lo + 2, none⟩) nr (lc - 1))) := Ch.set (Q := fun y => y = A) _ rfl j _
                          have nDA : D ≠ A := box_ne ND.out TW.out.tm.box (by decide)
                          have nWA : ∀ b, Value.ownBlock (.slice sa 1 sc2) = some b → ¬ b = A := fun b hb e => by obtain ⟨_, _, cur, e2⟩ := own_in RW.out hb; exact box_ne e2 TW.out.tm.box (by decide) e
                          generalize Y1.setCell ⟨A, j, none⟩ (.slice (some ⟨lb, lo + 2, none⟩) nr (lc - 1)) = Y2 at tm2 cY2 ⊢
                          have RW := hide (Row.ch RW.out cY2 nWA)
                          have ND := hide (cY2.box ND.out nDA)
                          have TW := hide (show Tw w Y2 w1.heap.size c bp l2 (T3 (upF f j (wkWho kw :: r2))) G3 A (fun i => if i = j then .slice (some ⟨lb, lo + 2, none⟩) nr (lc - 1) else v i) (upF f j (wkWho kw :: r2)) from ⟨TW.out.s1.frame cY2 (fun y hy e => TW.out.notA (e ▸ hy)), TW.out.bl.trans (cY2.below TW.out.bl.size (fun y hy e => by have := TW.out.la; omega)), TW.out.lo, tm2, TW.out.la⟩)
                          have HR2 := hide (show OffRow hkF 2 35 Y2 w.heap.size (.slice (some ⟨lb, lo + 2, none⟩) nr (lc - 1)) (wkWho kw :: r2) from by have e := TW.out.tm.row j HJ.out; rw [upF_self, if_pos rfl] at e; exact e)
                          have HC2 := hide (show Y2.cell? ⟨A, j, none⟩ = some (.slice (some ⟨lb, lo + 2, none⟩) nr (lc - 1)) from by have e := TW.out.tm.cell HJ.out; rw [if_pos rfl] at e; exact e)
                          clear tm2 cY2 nDA nWA hr0 f0 ff k1 k2 k3
                          have TZ := hide (show TI l2 (upF f j (wkWho kw :: r2)) from TZ.out)
                          have HFF := hide (len_up (j := j) HLN.out.2 (r := (wkWho kw :: r2)) (by have e := HNR.out; rw [List.length_cons] at e ⊢; omega))
                          have HFJ := hide (show upF f j (wkWho kw :: r2) j = wkWho kw :: r2 from upF_self f j _)
                          obtain ⟨nb, nc, cur, hv3, -, -, -, -, -, hwl⟩ := RW.out.at wkL_len (Nat.zero_lt_succ _)
                          injection hv3 with e1 e7 e2
                          clear e7
                          subst e1 e2
                          have w0 := hwl 0 (Nat.zero_lt_succ _) 0 _ rfl
                          have w1c := hwl 0 (Nat.zero_lt_succ _) 1 _ rfl
                          simp only [Nat.zero_mul, Nat.add_zero, Nat.zero_add] at w0 w1c
                          obtain ⟨lb2, lo2, lc2, hv4, hcl⟩ := HR2.out.at hkF_len (i := 0) (Nat.zero_lt_succ _)
                          injection hv4 with e3 e5 e6
                          clear e5 e6
                          injection e3 with e3
                          injection e3 with e3 e4
                          subst e3 e4
                          have q0 := hcl 0 _ rfl
                          have q1 := hcl 1 _ rfl
                          simp only [Nat.zero_mul, Nat.add_zero] at q0 q1
                          refine wp_thenC (pt_v1 (A := A) (D := D) (j := j) (c2 := sc2) (n := nr) (x := wkWho kw) HJ.out hnr0 (fun wq kq => by have e := Lib.cell_of_heap (kq.box ND.out (fun h => h)); have e2 := (kq.cell (cell_lt HC2.out) (fun h => h) _).trans HC2.out; exact ⟨by simp [e], by simp [e], e2, ⟨(kq.cell (cell_lt w0) (fun h => h) _).trans w0, (kq.cell (cell_lt w1c) (fun h => h) _).trans w1c⟩, (kq.cell (cell_lt q0) (fun h => h) _).trans q0, (kq.cell (cell_lt q1) (fun h => h) _).trans q1⟩) (fun Y3 z189 z190 z191 z192 z193 z194 z195 z196 z197 z198 z199 z200 z201 z202 z203 z204 z205 z206 z207 z208 z209 z210 z211 z212 z213 z214 z215 z216 z217 z218 z219 z220 z221 cY3 => ?_))
                          clear w0 w1c q0 q1 hcl hwl hnr0 hlc hlr hlc1
                          have TW := hide (TW.out.quiet cY3)
                          clear cY3
                          go_wp2_with fail
                          refine (lhandle_is Y3 (n := (j : Int) + 1) (by omega) (by omega)).mono ?_
                          rintro e X1 ⟨rfl, hb⟩
                          have TW := hide (TW.out.quiet (Ch.of_below hb))
                          clear hb
                          go_wp2_with fail
                          refine (lw_holder TW.out.s1 ((j : Int) + 1, 1)).mono ?_
                          rintro e X2 ⟨rfl, hb⟩
                          have TW := hide (TW.out.quiet (Ch.of_below hb))
                          clear hb
                          rw [T3_find _ HJ.out, show isMuL (some ⟨((j : Int) + 1, 1), true, hdO (upF f j (wkWho kw :: r2) j), 0⟩) = true from rfl, show hdL (some ⟨((j : Int) + 1, 1), true, hdO (upF f j (wkWho kw :: r2) j), 0⟩) = hdO (upF f j (wkWho kw :: r2) j) from rfl]
                          rw [HFJ.out, show hdO (wkWho kw :: r2) = wkWho kw from rfl]
                          obtain ⟨ea, ec, hev, -, -⟩ := (TW.out.tm.row j HJ.out).form
                          rw [HFJ.out] at hev
                          obtain ⟨en, hen⟩ : ∃ z, (wkWho kw :: r2).length = z := ⟨_, rfl⟩
                          have hen0 : 0 < en := by rw [← hen]; exact Nat.zero_lt_succ _
                          rw [hen] at hev
                          have hen1 : (0 : Int) < (en : Int) := by omega
                          have e0 : (X2.alloc (.cells #[.int .u32 (wkWho kw).1, .int .u32 (wkWho kw).2] 35)).cell? ⟨A, j, none⟩ = some (.slice ea en ec) := by have e := ((TW.out.quiet (Ch.alloc (Q := fun _ => False) X2 (.cells #[.int .u32 (wkWho kw).1, .int .u32 (wkWho kw).2] 35))).tm.cell HJ.out); rw [hev] at e; exact e
                          clear hev
                          go_wp2
                          have hnn := heap_new X2 (.cells #[.int .u32 (wkWho kw).1, .int .u32 (wkWho kw).2] 35)
                          have hca := Ch.alloc (Q := fun _ => False) X2 (.cells #[.int .u32 (wkWho kw).1, .int .u32 (wkWho kw).2] 35)
                          generalize X2.alloc (.cells #[.int .u32 (wkWho kw).1, .int .u32 (wkWho kw).2] 35) = X3 at hnn hca e0 ⊢
                          have TW := hide (TW.out.quiet hca)
                          have NH := hide hnn
                          clear hnn hca e0
                          refine wp_thenC (end_b HJ.out TW.out TZ.out (by have h1 := HLL.out; have h2 := HL.out.2; omega) HFJ.out NH.out (fun X4 e236 e237 e238 e239 e240 e241 e242 e243 e244 e245 e246 e247 e248 e249 e250 e251 e252 e253 e254 e255 e256 e257 e258 e259 e260 e261 e262 e263 e264 e265 e266 e267 e268 e269 e270 e271 e272 e273 cX4 => ?_))
                          have TW := hide (TW.out.quiet cX4)
                          clear cX4
                          go_wp2
                          refine ⟨?rel, ?measure⟩
                          case rel => exact ⟨k + 1, HL.out.1, HL.out.2, rfl, hide ⟨_, _, _, _, TW.out, TZ.out, HLL.out, HFF.out⟩⟩
                          case measure =>
                            show 500 - ((k : Int) + 1).toNat < 500 - (k : Int).toNat
                            have := HL.out
                            omega
          · have i2 : ¬ (k : Int) < 500 := by omega
            clear hlt h500 hk hk5
            go_wp2
            go_ret
            exact ⟨rfl, TW.out.bl⟩
        · have i1 : ¬ (k : Int) < (sc.length : Int) := by omega
          clear hlt hk hk5
          go_wp2
          go_ret
          exact ⟨rfl, TW.out.bl⟩

end Go.Proofs.Ytoabhmpakcgloaa
