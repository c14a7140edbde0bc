/- Layer 16: LocksJoin, walked. -/
import Derived.Test.YtoabhmpakcgloaaZld
namespace Go.Proofs.Ytoabhmpakcgloaa
open Go.RowKit

abbrev yja0 : Oper := { dst := some 77, op := Op.move (Operand.tmp 11), type := 4, pos := "law.go:233", after := #[], guard := none }
abbrev yja1 : Oper := { dst := some 78, op := Op.move (Operand.tmp 77), type := 4, pos := "law.go:233", after := #[{ on := 0, ground := Ground.data }], guard := none }
abbrev yja2 : Oper := { dst := some 79, op := Op.move (Operand.tmp 7), type := 30, pos := "law.go:233", after := #[{ on := 1, ground := Ground.guard }], guard := some (1, false) }
abbrev yja3 : Oper := { dst := some 80, op := Op.move (Operand.tmp 12), type := 3, pos := "law.go:233", after := #[{ on := 1, ground := Ground.guard }], guard := some (1, false) }
abbrev yja4 : Oper := { dst := some 81, op := Op.indexAddr 30 (Operand.tmp 79) (Operand.tmp 80), type := 0, pos := "law.go:233", after := #[{ on := 2, ground := Ground.data }, { on := 3, ground := Ground.data }, { on := 1, ground := Ground.guard }], guard := some (1, false) }
abbrev yja5 : Oper := { dst := some 82, op := Op.load 35 (Operand.tmp 81), type := 35, pos := "law.go:233", after := #[{ on := 4, ground := Ground.data }, { on := 1, ground := Ground.guard }], guard := some (1, false) }
abbrev yja6 : Oper := { dst := some 83, op := Op.load 35 (Operand.tmp 10), type := 35, pos := "law.go:233", after := #[{ on := 1, ground := Ground.guard }], guard := some (1, false) }
abbrev yja7 : Oper := { dst := some 84, op := Op.binOp BinOp.eql 35 (Operand.tmp 82) (Operand.tmp 83) 35, type := 4, pos := "law.go:233", after := #[{ on := 5, ground := Ground.data }, { on := 6, ground := Ground.data }, { on := 1, ground := Ground.guard }], guard := some (1, false) }
abbrev yja8 : Oper := { dst := some 85, op := Op.pick (Operand.tmp 78) (Operand.const (Value.bool true)) (Operand.tmp 84), type := 4, pos := "law.go:233", after := #[{ on := 1, ground := Ground.data }, { on := 7, ground := Ground.data }], guard := none }
abbrev yja9 : Oper := { dst := some 11, op := Op.assign (Operand.tmp 85), type := 4, pos := "law.go:233", after := #[{ on := 8, ground := Ground.data }, { on := 1, ground := Ground.chain }, { on := 0, ground := Ground.phase }, { on := 1, ground := Ground.phase }, { on := 2, ground := Ground.phase }, { on := 3, ground := Ground.phase }, { on := 4, ground := Ground.phase }, { on := 5, ground := Ground.phase }, { on := 6, ground := Ground.phase }, { on := 7, ground := Ground.phase }, { on := 8, ground := Ground.phase }], guard := none }
abbrev yjb0 : Oper := { dst := some 202, op := Op.fieldAddr 46 (Operand.tmp 15) 3, type := 0, pos := "law.go:254", after := #[], guard := none }
abbrev yjb1 : Oper := { dst := some 203, op := Op.load 44 (Operand.tmp 202), type := 44, pos := "law.go:254", after := #[{ on := 0, ground := Ground.data }], guard := none }
abbrev yjb2 : Oper := { dst := some 204, op := Op.move (Operand.tmp 18), type := 3, pos := "law.go:254", after := #[], guard := none }
abbrev yjb3 : Oper := { dst := some 205, op := Op.indexAddr 44 (Operand.tmp 203) (Operand.tmp 204), type := 0, pos := "law.go:254", after := #[{ on := 1, ground := Ground.data }, { on := 2, ground := Ground.data }], guard := none }
abbrev yjb4 : Oper := { dst := some 206, op := Op.fieldAddr 53 (Operand.tmp 205) 0, type := 0, pos := "law.go:254", after := #[{ on := 3, ground := Ground.data }], guard := none }
abbrev yjb5 : Oper := { dst := some 207, op := Op.load 35 (Operand.tmp 206), type := 35, pos := "law.go:254", after := #[{ on := 4, ground := Ground.data }], guard := none }
abbrev yjb6 : Oper := { dst := some 208, op := Op.move (Operand.tmp 7), type := 30, pos := "law.go:254", after := #[], guard := none }
abbrev yjb7 : Oper := { dst := some 209, op := Op.move (Operand.tmp 18), type := 3, pos := "law.go:254", after := #[], guard := none }
abbrev yjb8 : Oper := { dst := some 210, op := Op.indexAddr 30 (Operand.tmp 208) (Operand.tmp 209), type := 0, pos := "law.go:254", after := #[{ on := 6, ground := Ground.data }, { on := 7, ground := Ground.data }], guard := none }
abbrev yjb9 : Oper := { dst := some 211, op := Op.load 35 (Operand.tmp 210), type := 35, pos := "law.go:254", after := #[{ on := 8, ground := Ground.data }], guard := none }
abbrev yjb10 : Oper := { dst := some 212, op := Op.binOp BinOp.neq 35 (Operand.tmp 207) (Operand.tmp 211) 35, type := 4, pos := "law.go:254", after := #[{ on := 5, ground := Ground.data }, { on := 9, ground := Ground.data }], guard := none }

/-- what the loop holds -/
def JoI (w wr : World) (N c bp k : Nat) (t : Value) (n : Int) : Prop := ∃ l G line, Jw w wr N c bp l (gJ n) G t line ∧ JI l 1 4 (fun _ => line) ∧ l.length ≤ k ∧ line.length ≤ k ∧ CtOk n ∧ (n = 0 → line = [])
theorem ite_hd (a b c d : Int) (w : World) : (if a = c then if b = d then Result.ok (Next.value (Value.bool true)) w else Result.ok (Next.value (Value.bool false)) w else Result.ok (Next.value (Value.bool false)) w) = Result.ok (Next.value (Value.bool (a == c && b == d))) w := by
  by_cases h1 : a = c <;> by_cases h2 : b = d <;> simp [h1, h2]
theorem aj_make : fnl [] ((1, 1) : Hnd) = none := rfl

set_option maxRecDepth 100000 in
set_option maxHeartbeats 64000000 in
theorem ljoin_is {w : World} {sv : Value} {sc : List Cz} (hsc : Lst w.heap.size 3 (CzAt w) sv sc) : Calls Try.prog 4 #[sv] w fun e w' => e = .returned (.bool true) ∧ Below w.heap.size w w' := by
  obtain ⟨i0, hi0, hz0, hz1, hz2⟩ := nf_open nfHd
  obtain ⟨sb, so, ⟨sa0, scap, rfl, hscl, hsc63, hsad⟩, hsat⟩ := hsc
  have HSA := hide hsad
  have HST := hide (fun (W : World) (hb : Below w.heap.size w W) i (h : i < sc.length) => (hsat i h).below hb)
  clear hsad hsat hscl hsc63
  go_enter Try.func4, Try.ntmps4
  go_wp2_with fail
  refine (awake16_is w).mono ?_
  rintro e w1 ⟨rfl, hb1⟩
  go_wp2_with fail
  refine (face.new w1).mono ?_
  rintro e w2 ⟨bp, F0, rfl, hp2, hb2⟩
  go_wp2_with fail
  refine (lw_new hp2 hb2.size).mono ?_
  rintro e w3 ⟨c, G0, rfl, hl3, hb3⟩
  have B3 := hide (hb1.trans ((hb2.trans (hb3.mono hb2.size)).mono hb1.size))
  have B1 := hide hb1
  have H3 := hide hl3
  clear hb1 hp2 hb2 hl3 hb3
  go_wp2_with fail
  refine (lhandle_is w3 (n := 1) (by decide) (by decide)).mono ?_
  rintro e w4 ⟨rfl, hb4⟩
  have H4 := hide (H3.out.quiet (Ch.of_below hb4))
  have B4 := hide (B3.out.trans (hb4.mono B3.out.size))
  clear hb4
  go_wp2_with fail
  refine (lw_make H4.out (x := (1, 1)) rfl (k := 3) (by decide) rfl).mono ?_
  rintro e w5 ⟨rfl, G1, hl5, hc5, -⟩
  have TW0 := hide (show Jw w w5 w1.heap.size c bp [] (gJ 0) G1 (.slice none 0 0) [] from ⟨hl5, B4.out.trans (hc5.below B4.out.size (fun y hy e => by have := (H4.out.foot e).1; have := B1.out.size; omega)), B1.out.size, Row.nil _ _⟩)
  clear hl5 hc5
  go_wp2_with fail
  go_loopw [7, 8, 9] (fun t nv i wr => ∃ (k : Nat) (n : Int), k ≤ sc.length ∧ k ≤ 500 ∧ i = .int .i64 (k : Int) ∧ nv = .int .i64 n ∧ Hid (JoI w wr w1.heap.size c bp k t n)) (fun _ _ i _ => 500 - (intOf i).toNat)
  case atStart => exact ⟨0, 0, Nat.zero_le _, by omega, rfl, rfl, hide ⟨[], G1, [], TW0.out, JI.nil 1 4, Nat.le_refl _, Nat.le_refl _, ⟨by decide, by decide⟩, fun _ => rfl⟩⟩
  case round =>
    obtain ⟨k, n, hk, hk5, rfl, rfl, HI⟩ := hrel
    obtain ⟨W0, rfl⟩ : ∃ x, x = wr := ⟨_, rfl⟩
    obtain ⟨t0v, et⟩ : ∃ u, u = u7 := ⟨_, rfl⟩
    subst et
    obtain ⟨l, G, line, tw, ji, hll, hlk, hct, hz⟩ := HI.out
    obtain ⟨ta, tc, rfl, -, -⟩ := tw.ro.form
    obtain ⟨nl, hnl⟩ : ∃ z, line.length = z := ⟨_, rfl⟩
    have HNL := hide hnl
    rw [hnl] at tw hlk
    rw [hnl]
    have TW := hide tw
    have JII := hide ji
    have HLN := hide (And.intro hll hlk)
    have HCT := hide hct
    have HZ := hide hz
    clear HI tw ji hll hlk hct hz hnl
    by_cases hlt : k < sc.length
    · have i1 : (k : Int) < (sc.length : Int) := by omega
      by_cases h500 : k < 500
      · have i2 : (k : Int) < 500 := by omega
        have HL := hide (And.intro hlt h500)
        obtain ⟨y, hy⟩ : ∃ y, sc[k] = y := ⟨_, rfl⟩
        have hsa := (HSA.out (by omega)).1
        subst hsa
        have hT := fun (W : World) (hb : Below w.heap.size w W) => HST.out W hb k hlt
        rw [hy] at hT
        have HT := hide hT
        have HSB := hide (show sb < w.heap.size from cell_lt (hT w (Below.refl _ _)).c0)
        have i0' : (0 : Int) ≤ (k : Int) := by omega
        have hiw : IntKind.i64.wrap ((k : Int) + 1) = (k : Int) + 1 := by rw [IntKind.wrap_i64]; omega
        clear hlt h500 hk hk5 hy hT
        obtain ⟨t0, t1, t2, ug, un⟩ := HT.out W0 TW.out.bl
        have UG := hide ug
        have UN := hide un
        have hpk := pkW_lt y.g (n := 6) (by decide)
        go_wp2_with fail
        clear t0 t1 t2 ug un
        refine (picks_is UG.out (n := 6) (by decide) (by decide) _).mono ?_
        rintro e wp ⟨rfl, hw⟩
        rw [hw]
        clear hw wp
        have hwr : IntKind.i64.wrap (11 + (pkW y.g 6 : Int)) = 11 + (pkW y.g 6 : Int) := by rw [IntKind.wrap_i64]; omega
        go_wp2_with fail
        clear hwr
        refine (lhandle_is W0 (n := (11 + (pkW y.g 6 : Int))) (by omega) (by omega)).mono ?_
        rintro e W1 ⟨rfl, hb⟩
        have TW := hide (TW.out.quiet (Ch.of_below hb))
        have HGB := hide TW.out.bl.size
        clear hb
        obtain ⟨W2, hW2⟩ : ∃ z, W1.alloc (.cells #[.int .u32 (11 + (pkW y.g 6 : Int)), .int .u32 1] 35) = z := ⟨_, rfl⟩
        have NG := hide (show W2.heap[W1.heap.size]? = some (.cells #[.int .u32 (11 + (pkW y.g 6 : Int)), .int .u32 1] 35 (0, 0)) by rw [← hW2]; exact heap_new _ _)
        have NGO := hide (show ∀ b, Value.ownBlock (.slice ta nl tc) = some b → b ≠ W1.heap.size from fun b hb e => by have := (own_in TW.out.ro hb).2.1; omega)
        have cA : Ch (fun _ => False) W1 W2 := by rw [← hW2]; exact Ch.alloc _ _
        have TW := hide (TW.out.quiet cA)
        have HW2 := hide hW2
        clear cA
        obtain ⟨g, hg⟩ : ∃ g : Hnd, g = ((11 + (pkW y.g 6 : Int)), 1) := ⟨_, rfl⟩
        have HG := hide (show nnH g = false ∧ UsW g.1 ∧ UsW g.2 from by rw [hg]; exact ⟨by simp [nnH], ⟨by show 0 ≤ 11 + (pkW y.g 6 : Int); omega, by show 11 + (pkW y.g 6 : Int) ≤ 4294967295; omega⟩, ⟨by show (0 : Int) ≤ 1; decide, by show (1 : Int) ≤ 4294967295; decide⟩⟩)
        have NG := hide (show W2.heap[W1.heap.size]? = some (.cells #[.int .u32 g.1, .int .u32 g.2] 35 (0, 0)) by rw [hg]; exact NG.out)
        obtain ⟨gb, hgb⟩ : ∃ z, W1.heap.size = z := ⟨_, rfl⟩
        rw [hgb] at NG NGO HGB
        cases hwt : y.wt with
        | true =>
          obtain ⟨t0, t1, t2, ug, un⟩ := HT.out W2 TW.out.bl
          rw [hwt] at t0
          clear ug un
          go_wp2_with fail
          try rw [HW2.out]
          try rw [hgb]
          clear hW2 t0 t1 t2 hpk hg hgb
          go_loopw [11, 12] (fun bv i wr => ∃ q : Nat, q ≤ nl ∧ i = .int .i64 (q : Int) ∧ bv = .bool (inL g (line.take q)) ∧ Hid (Ch (fun _ => False) W2 wr)) (fun _ i _ => nl - (intOf i).toNat)
          case atStart => exact ⟨0, Nat.zero_le _, rfl, rfl, hide (Ch.refl _ _)⟩
          case round =>
            obtain ⟨q, hq, rfl, rfl, HC3⟩ := hrel
            obtain ⟨W3, rfl⟩ : ∃ x, x = wr := ⟨_, rfl⟩
            by_cases hql : q < nl
            · have q1 : (q : Int) < (nl : Int) := by omega
              have q0 : (0 : Int) ≤ (q : Int) := by omega
              have HQ := hide hql
              obtain ⟨lb, lc, cur, hv, -, -, -, -, -, hcl⟩ := TW.out.ro.at hkF_len (by rw [HNL.out]; omega)
              rw [HNL.out] at hv
              cases hv
              obtain ⟨z, hz⟩ : ∃ z, line[q]'(by rw [HNL.out]; exact hql) = z := ⟨_, rfl⟩
              have HTK := hide (show line.take (q + 1) = line.take q ++ [z] from by rw [List.take_add_one, List.getElem?_eq_getElem (by rw [HNL.out]; exact hql), hz]; rfl)
              have h0 := hcl q (by rw [HNL.out]; exact hql) 0 _ rfl
              have h1 := hcl q (by rw [HNL.out]; exact hql) 1 _ rfl
              rw [hz] at h0 h1
              have HCL := hide (fun wq (kq : Ch (fun _ => False) W2 wq) => show (wq.cell? ⟨lb, q * 2, none⟩ = some (.int .u32 z.1) ∧ wq.cell? ⟨lb, q * 2 + 1, none⟩ = some (.int .u32 z.2)) ∧ wq.cell? ⟨gb, 0, none⟩ = some (.int .u32 g.1) ∧ wq.cell? ⟨gb, 1, none⟩ = some (.int .u32 g.2) from by
                have e := Lib.cell_of_heap (kq.box NG.out (fun h => h))
                exact ⟨⟨(kq.cell (cell_lt h0) (fun h => h) _).trans h0, (kq.cell (cell_lt h1) (fun h => h) _).trans h1⟩, by simp [e], by simp [e]⟩)
              have hqw : IntKind.i64.wrap ((q : Int) + 1) = (q : Int) + 1 := by have := HLN.out.2; have := HL.out.2; rw [IntKind.wrap_i64]; omega
              obtain ⟨bq, hbq⟩ : ∃ b, inL g (line.take q) = b := ⟨_, rfl⟩
              have HBQ := hide hbq
              rw [hbq]
              clear hz h0 h1 hcl hbq hq hql
              cases bq with
              | true =>
                go_wp2_with fail
                refine wp_reg (fun _ => False) (R := fun V => Ch (fun _ => False) W3 V) (by kernel_rfl) (Ch.drew _) (fun V cV zk => ?_)
                have CV := hide cV
                clear cV
                have HX := hide (fun wq (kq : Ch (fun _ => False) V wq) => show (wq.cell? ⟨lb, q * 2, none⟩ = some (.int .u32 z.1) ∧ wq.cell? ⟨lb, q * 2 + 1, none⟩ = some (.int .u32 z.2)) ∧ wq.cell? ⟨gb, 0, none⟩ = some (.int .u32 g.1) ∧ wq.cell? ⟨gb, 1, none⟩ = some (.int .u32 g.2) from HCL.out wq (HC3.out.trans (CV.out.trans kq (fun _ _ h => h)) (fun _ _ h => h)))
                apply tk 0 yja0 rfl (by kernel_rfl) (fun _ _ _ h => h) zk
                · intro wq zq
                  go_simp
                  try rfl
                go_frame
                apply tk 1 yja1 rfl (by kernel_rfl) (fun _ _ _ h => h) zk
                · intro wq zq
                  go_simp
                  try rfl
                go_frame
                apply sk 2 yja2 rfl (by kernel_rfl) (fun _ _ _ h => h) zk
                go_frame
                apply sk 3 yja3 rfl (by kernel_rfl) (fun _ _ _ h => h) zk
                go_frame
                apply sk 4 yja4 rfl (by kernel_rfl) (fun _ _ _ h => h) zk
                go_frame
                apply sk 5 yja5 rfl (by kernel_rfl) (fun _ _ _ h => h) zk
                go_frame
                apply sk 6 yja6 rfl (by kernel_rfl) (fun _ _ _ h => h) zk
                go_frame
                apply sk 7 yja7 rfl (by kernel_rfl) (fun _ _ _ h => h) zk
                go_frame
                apply tk 8 yja8 rfl (by kernel_rfl) (fun _ _ _ h => h) zk
                · intro wq zq
                  go_simp
                  try rfl
                go_frame
                apply tk 9 yja9 rfl (by kernel_rfl) (fun _ _ _ h => h) zk
                · intro wq zq
                  go_simp
                  try rfl
                go_frame
                refine wpAnyH_done (by kernel_rfl) ?_ _
                go_wp2
                refine ⟨?rel, ?measure⟩
                case rel => exact ⟨q + 1, HQ.out, rfl, by rw [HTK.out, inL_snoc, HBQ.out]; rfl, hide (HC3.out.trans CV.out (fun _ _ h => h))⟩
                case measure =>
                  show nl - ((q : Int) + 1).toNat < nl - (q : Int).toNat
                  have := HQ.out
                  omega
              | false =>
                go_wp2_with fail
                refine wp_reg (fun _ => False) (R := fun V => Ch (fun _ => False) W3 V) (by kernel_rfl) (Ch.drew _) (fun V cV zk => ?_)
                have CV := hide cV
                clear cV
                have HX := hide (fun wq (kq : Ch (fun _ => False) V wq) => show (wq.cell? ⟨lb, q * 2, none⟩ = some (.int .u32 z.1) ∧ wq.cell? ⟨lb, q * 2 + 1, none⟩ = some (.int .u32 z.2)) ∧ wq.cell? ⟨gb, 0, none⟩ = some (.int .u32 g.1) ∧ wq.cell? ⟨gb, 1, none⟩ = some (.int .u32 g.2) from HCL.out wq (HC3.out.trans (CV.out.trans kq (fun _ _ h => h)) (fun _ _ h => h)))
                apply tk 0 yja0 rfl (by kernel_rfl) (fun _ _ _ h => h) zk
                · intro wq zq
                  go_simp
                  try rfl
                go_frame
                apply tk 1 yja1 rfl (by kernel_rfl) (fun _ _ _ h => h) zk
                · intro wq zq
                  go_simp
                  try rfl
                go_frame
                apply tk 2 yja2 rfl (by kernel_rfl) (fun _ _ _ h => h) zk
                · intro wq zq
                  go_simp
                  try rfl
                go_frame
                apply tk 3 yja3 rfl (by kernel_rfl) (fun _ _ _ h => h) zk
                · intro wq zq
                  go_simp
                  try rfl
                go_frame
                apply tk 4 yja4 rfl (by kernel_rfl) (fun _ _ _ h => h) zk
                · intro wq zq
                  obtain ⟨⟨s0, s1⟩, s2, s3⟩ := HX.out _ zq
                  go_simp
                  try rfl
                go_frame
                apply tk 5 yja5 rfl (by kernel_rfl) (fun _ _ _ h => h) zk
                · intro wq zq
                  obtain ⟨⟨s0, s1⟩, s2, s3⟩ := HX.out _ zq
                  go_simp
                  try rfl
                go_frame
                apply tk 6 yja6 rfl (by kernel_rfl) (fun _ _ _ h => h) zk
                · intro wq zq
                  obtain ⟨⟨s0, s1⟩, s2, s3⟩ := HX.out _ zq
                  go_simp
                  try rfl
                go_frame
                apply tk 7 yja7 rfl (by kernel_rfl) (fun _ _ _ h => h) zk
                · intro wq zq
                  go_simp
                  exact ite_hd _ _ _ _ _
                go_frame
                apply tk 8 yja8 rfl (by kernel_rfl) (fun _ _ _ h => h) zk
                · intro wq zq
                  go_simp
                  try rfl
                go_frame
                apply tk 9 yja9 rfl (by kernel_rfl) (fun _ _ _ h => h) zk
                · intro wq zq
                  go_simp
                  try rfl
                go_frame
                refine wpAnyH_done (by kernel_rfl) ?_ _
                go_wp2
                refine ⟨?rel, ?measure⟩
                case rel => exact ⟨q + 1, HQ.out, rfl, by rw [HTK.out, inL_snoc, HBQ.out]; rw [Bool.false_or], hide (HC3.out.trans CV.out (fun _ _ h => h))⟩
                case measure =>
                  show nl - ((q : Int) + 1).toNat < nl - (q : Int).toNat
                  have := HQ.out
                  omega
            · have q1 : ¬ (q : Int) < (nl : Int) := by omega
              have hqe : q = nl := by omega
              subst hqe
              have htk : line.take q = line := List.take_of_length_le (by rw [HNL.out]; exact Nat.le_refl _)
              rw [htk]
              have TW := hide (TW.out.quiet HC3.out)
              have NG := hide (HC3.out.box NG.out (fun h => h))
              clear htk hq hql
              by_cases hm : g ∈ line
              · have hin := (inL_iff g line).2 hm
                have HM := hide hm
                rw [hin]
                clear hin hm
                go_wp2
                refine wp_thenC (so_join (c := c) (gb := gb) (g := g) (Qs := G) (fun y hy => (TW.out.s1.foot hy).2) (fun wq kq => by have e := Lib.cell_of_heap (kq.box NG.out (fun e => e.elim (TW.out.s1.nbox NG.out (by decide) (by decide) (by decide) (by decide) (by decide)) (fun e => by have := (Array.getElem?_eq_some_iff.1 NG.out).1; omega))); exact ⟨by simp [e], by simp [e]⟩) (R := fun dd er _ V w' => (dd.f = 0 ∧ er = 163) ∧ AnsL V w' w1.heap.size c bp G (l) (gJ n)) (fun V cV => (lw_wait (TW.out.quiet cV).s1 (by have := HLN.out.1; have := HL.out.2; omega) HG.out.2.1 HG.out.2.2 (by constructor <;> decide) (by constructor <;> decide)).mono (fun e w' hh => ?_)) (fun A dd er sa sn sc V w6 w7 t86 t87 t88 t89 t90 t91 t92 cV hR hcQ hA hn7 hc7 hd => ?_))
                · rw [joA JII.out HG.out.1 HM.out] at hh
                  obtain ⟨rfl, ha⟩ := hh
                  obtain ⟨G2, a1, a2, a3⟩ := ha
                  exact ⟨⟨0, zVa, false, []⟩, 163, none, 0, 0, rfl, ⟨⟨rfl, rfl⟩, G2, a1, a2, a3⟩, a2⟩
                · obtain ⟨⟨hf, rfl⟩, hans⟩ := hR
                  rw [hf] at hn7
                  obtain ⟨G3, tw3, ch3⟩ := TW.out.asked cV hans hA hc7 hd
                  have NG := hide (ch3.box NG.out (fun e => e.elim (TW.out.s1.nbox NG.out (by decide) (by decide) (by decide) (by decide) (by decide)) (fun e => by have := (Array.getElem?_eq_some_iff.1 NG.out).1; omega)))
                  have d0 : w7.cell? ⟨A, 0, none⟩ = some (.int .i64 (0)) := by simp [Lib.cell_of_heap hn7]
                  have TW := hide tw3
                  clear hf hn7 hans cV hcQ hA hc7 hd tw3 ch3
                  have HLL := hide (show l.length ≤ k + 1 by have := HLN.out.1; omega)
                  have HLE := hide (show q ≤ k + 1 by have := HLN.out.2; omega)
                  have HNZ := HNL
                  have JZ := JII
                  have CZ := HCT
                  have ZZ := HZ
                  go_wp2_with fail
                  refine (lhandle_is w7 (n := 1) (by decide) (by decide)).mono ?_
                  rintro e X1 ⟨rfl, hb⟩
                  have TW := hide (TW.out.quiet (Ch.of_below hb))
                  clear hb
                  go_wp2_with fail
                  refine (lw_counter TW.out.s1 (1, 1)).mono ?_
                  rintro e X2 ⟨rfl, hb⟩
                  have TW := hide (TW.out.quiet (Ch.of_below hb))
                  clear hb
                  rw [gJ_find, show ctL (some ⟨(1, 1), false, (0, 0), n⟩) = n from rfl, show isGrL (some ⟨(1, 1), false, (0, 0), n⟩) = true from rfl]
                  obtain ⟨Fb, hpb, -⟩ := TW.out.s1.bk
                  have HPB := hide hpb
                  clear hpb
                  go_wp2_with fail
                  refine (face.count HPB.out (by have := HLL.out; omega)).mono ?_
                  rintro e X3 ⟨rfl, hb⟩
                  have TW := hide (TW.out.quiet (Ch.of_below hb))
                  clear hb
                  rw [JZ.out.count, HNZ.out]
                  go_wp2_with fail
                  refine ⟨?rel, ?measure⟩
                  case rel => exact ⟨k + 1, n, HL.out.1, HL.out.2, rfl, rfl, hide ⟨_, _, _, TW.out, JZ.out, HLL.out, by rw [HNZ.out]; exact HLE.out, CZ.out, ZZ.out⟩⟩
                  case measure =>
                    show 500 - ((k : Int) + 1).toNat < 500 - (k : Int).toNat
                    have := HL.out
                    omega
              · have hin : inL g line = false := by rw [Bool.eq_false_iff]; exact fun e => hm ((inL_iff g line).1 e)
                have HM := hide hm
                rw [hin]
                clear hin hm
                by_cases hn0 : n = 0
                · have HN0 := hide hn0
                  have p0 : ¬ n > 0 := by omega
                  clear hn0
                  go_wp2
                  refine wp_thenC (so_join (c := c) (gb := gb) (g := g) (Qs := G) (fun y hy => (TW.out.s1.foot hy).2) (fun wq kq => by have e := Lib.cell_of_heap (kq.box NG.out (fun e => e.elim (TW.out.s1.nbox NG.out (by decide) (by decide) (by decide) (by decide) (by decide)) (fun e => by have := (Array.getElem?_eq_some_iff.1 NG.out).1; omega))); exact ⟨by simp [e], by simp [e]⟩) (R := fun dd er _ V w' => (dd.f = 0 ∧ er = 0) ∧ AnsL V w' w1.heap.size c bp G (l) (gJ n)) (fun V cV => (lw_wait (TW.out.quiet cV).s1 (by have := HLN.out.1; have := HL.out.2; omega) HG.out.2.1 HG.out.2.2 (by constructor <;> decide) (by constructor <;> decide)).mono (fun e w' hh => ?_)) (fun A dd er sa sn sc V w6 w7 t86 t87 t88 t89 t90 t91 t92 cV hR hcQ hA hn7 hc7 hd => ?_))
                  · rw [joB JII.out HG.out.1 HM.out HN0.out] at hh
                    obtain ⟨rfl, ha⟩ := hh
                    obtain ⟨G2, a1, a2, a3⟩ := ha
                    exact ⟨⟨0, zVa, false, []⟩, 0, none, 0, 0, rfl, ⟨⟨rfl, rfl⟩, G2, a1, a2, a3⟩, a2⟩
                  · obtain ⟨⟨hf, rfl⟩, hans⟩ := hR
                    rw [hf] at hn7
                    obtain ⟨G3, tw3, ch3⟩ := TW.out.asked cV hans hA hc7 hd
                    have NG := hide (ch3.box NG.out (fun e => e.elim (TW.out.s1.nbox NG.out (by decide) (by decide) (by decide) (by decide) (by decide)) (fun e => by have := (Array.getElem?_eq_some_iff.1 NG.out).1; omega)))
                    have d0 : w7.cell? ⟨A, 0, none⟩ = some (.int .i64 (0)) := by simp [Lib.cell_of_heap hn7]
                    have TW := hide tw3
                    clear hf hn7 hans cV hcQ hA hc7 hd tw3 ch3
                    have HLL := hide (show l.length ≤ k + 1 by have := HLN.out.1; omega)
                    have HLE := hide (show q ≤ k + 1 by have := HLN.out.2; omega)
                    have HNZ := HNL
                    have JZ := JII
                    have CZ := HCT
                    have ZZ := HZ
                    go_wp2_with fail
                    refine (lhandle_is w7 (n := 1) (by decide) (by decide)).mono ?_
                    rintro e X1 ⟨rfl, hb⟩
                    have TW := hide (TW.out.quiet (Ch.of_below hb))
                    clear hb
                    go_wp2_with fail
                    refine (lw_counter TW.out.s1 (1, 1)).mono ?_
                    rintro e X2 ⟨rfl, hb⟩
                    have TW := hide (TW.out.quiet (Ch.of_below hb))
                    clear hb
                    rw [gJ_find, show ctL (some ⟨(1, 1), false, (0, 0), n⟩) = n from rfl, show isGrL (some ⟨(1, 1), false, (0, 0), n⟩) = true from rfl]
                    obtain ⟨Fb, hpb, -⟩ := TW.out.s1.bk
                    have HPB := hide hpb
                    clear hpb
                    go_wp2_with fail
                    refine (face.count HPB.out (by have := HLL.out; omega)).mono ?_
                    rintro e X3 ⟨rfl, hb⟩
                    have TW := hide (TW.out.quiet (Ch.of_below hb))
                    clear hb
                    rw [JZ.out.count, HNZ.out]
                    go_wp2_with fail
                    refine ⟨?rel, ?measure⟩
                    case rel => exact ⟨k + 1, n, HL.out.1, HL.out.2, rfl, rfl, hide ⟨_, _, _, TW.out, JZ.out, HLL.out, by rw [HNZ.out]; exact HLE.out, CZ.out, ZZ.out⟩⟩
                    case measure =>
                      show 500 - ((k : Int) + 1).toNat < 500 - (k : Int).toNat
                      have := HL.out
                      omega
                · have HN0 := hide hn0
                  have p0 : n > 0 := by have := HCT.out.1; omega
                  go_wp2
                  refine wp_thenC (so_join (c := c) (gb := gb) (g := g) (Qs := G) (fun y hy => (TW.out.s1.foot hy).2) (fun wq kq => by have e := Lib.cell_of_heap (kq.box NG.out (fun e => e.elim (TW.out.s1.nbox NG.out (by decide) (by decide) (by decide) (by decide) (by decide)) (fun e => by have := (Array.getElem?_eq_some_iff.1 NG.out).1; omega))); exact ⟨by simp [e], by simp [e]⟩) (R := fun dd er _ V w' => (dd.f = 1 ∧ er = 0) ∧ AnsL V w' w1.heap.size c bp G (putW l ((0 : Nat) + 1 : Int) 1 4 g.1 g.2 0 0 0 0) (gJ n)) (fun V cV => (lw_wait (TW.out.quiet cV).s1 (by have := HLN.out.1; have := HL.out.2; omega) HG.out.2.1 HG.out.2.2 (by constructor <;> decide) (by constructor <;> decide)).mono (fun e w' hh => ?_)) (fun A dd er sa sn sc V w6 w7 t86 t87 t88 t89 t90 t91 t92 cV hR hcQ hA hn7 hc7 hd => ?_))
                  · rw [joC JII.out HG.out.1 HM.out HN0.out] at hh
                    obtain ⟨rfl, ha⟩ := hh
                    obtain ⟨G2, a1, a2, a3⟩ := ha
                    exact ⟨⟨1, zVa, false, []⟩, 0, none, 0, 0, rfl, ⟨⟨rfl, rfl⟩, G2, a1, a2, a3⟩, a2⟩
                  · obtain ⟨⟨hf, rfl⟩, hans⟩ := hR
                    rw [hf] at hn7
                    obtain ⟨G3, tw3, ch3⟩ := TW.out.asked cV hans hA hc7 hd
                    have NG := hide (ch3.box NG.out (fun e => e.elim (TW.out.s1.nbox NG.out (by decide) (by decide) (by decide) (by decide) (by decide)) (fun e => by have := (Array.getElem?_eq_some_iff.1 NG.out).1; omega)))
                    have d0 : w7.cell? ⟨A, 0, none⟩ = some (.int .i64 (1)) := by simp [Lib.cell_of_heap hn7]
                    have TW := hide tw3
                    clear hf hn7 hans cV hcQ hA hc7 hd tw3 ch3
                    have HLL := hide (show (putW l ((0 : Nat) + 1 : Int) 1 4 g.1 g.2 0 0 0 0).length ≤ k + 1 by have := HLN.out.1; have := putW_len l ((0 : Nat) + 1 : Int) 1 4 g.1 g.2 0 0 0 0; omega)
                    have HLE := hide (show q + 1 ≤ k + 1 by have := HLN.out.2; omega)
                    have HNZ := hide (show (line ++ [g]).length = q + 1 by rw [List.length_append, HNL.out]; rfl)
                    have JZ := hide (joP JII.out HG.out.1 HG.out.2.1 HG.out.2.2 HM.out)
                    have CZ := HCT
                    have ZZ := hide (show n = 0 → line ++ [g] = [] from fun e => absurd e HN0.out)
                    have x0 : w7.cell? ⟨gb, 0, none⟩ = some (.int .u32 g.1) := by simp [Lib.cell_of_heap NG.out]
                    have x1 : w7.cell? ⟨gb, 1, none⟩ = some (.int .u32 g.2) := by simp [Lib.cell_of_heap NG.out]
                    have HOW := hide (World.ownsRow.alloc TW.out.ro (.cells #[.int .u32 g.1, .int .u32 g.2] 35))
                    rw [HNL.out] at HOW
                    have HN1 := hide (row_new w7 (hkF g) 35 rfl)
                    have HM0 := hide (show q ≤ 1000 by have h1 := HLN.out.2; have h2 := HL.out.2; omega)
                    have HM1 := hide (show q + 1 ≤ maxLen by unfold maxLen; have := HM0.out; omega)
                    have HM2 := hide (show (q + 1) * 8 ≤ 140737488355328 by have := HM0.out; omega)
                    have HM3 := hide (show w.heap.size ≤ (w7.alloc (.cells #[.int .u32 g.1, .int .u32 g.2] 35)).heap.size by have h2 := TW.out.bl.size; simp; omega)
                    go_wp2_with (at_builtin; refine wpList_append_own_at _ rfl _ _ 30 rfl w.heap.size 35 i0 (hvW 0 0) 2 8 Try.underlying30 hi0 hz0 hz1 hz2 rfl (by decide) _ q (line.flatMap hkF) rfl HOW.out ⟨w7.heap.size, 0, none⟩ 1 1 (hkF g) rfl rfl HN1.out (hkF_one _) HM1.out HM2.out HM3.out ?_)
                    intro v5 w8 hown5 hgrow5 _ _
                    clear x0 x1
                    have R5 := hide (show HdRow w8 w.heap.size v5 (line ++ [g]) from Row.snoc (by rw [HNL.out]; exact hown5))
                    have c78 := hide ((Ch.alloc (Q := fun y => Value.ownBlock (.slice ta q tc) = some y) w7 (.cells #[.int .u32 g.1, .int .u32 g.2] 35)).trans (Ch.of_grown (Q := fun y => Value.ownBlock (.slice ta q tc) = some y) hgrow5 (fun _ e => e)) (fun _ _ h => h))
                    have TW := hide (show Jw w w8 w1.heap.size c bp _ (gJ n) G3 v5 (line ++ [g]) from ⟨TW.out.s1.frame c78.out (fun y hy e => TW.out.notG e hy), TW.out.bl.trans (c78.out.below TW.out.bl.size (fun y hy e => by have := (own_in TW.out.ro e).1; omega)), TW.out.lo, R5.out⟩)
                    obtain ⟨v5a, v5c, rfl, -, -⟩ := R5.out.form
                    clear hown5 hgrow5
                    rw [HNZ.out] at TW R5 ⊢
                    go_wp2_with fail
                    refine (lhandle_is w8 (n := 1) (by decide) (by decide)).mono ?_
                    rintro e X1 ⟨rfl, hb⟩
                    have TW := hide (TW.out.quiet (Ch.of_below hb))
                    clear hb
                    go_wp2_with fail
                    refine (lw_counter TW.out.s1 (1, 1)).mono ?_
                    rintro e X2 ⟨rfl, hb⟩
                    have TW := hide (TW.out.quiet (Ch.of_below hb))
                    clear hb
                    rw [gJ_find, show ctL (some ⟨(1, 1), false, (0, 0), n⟩) = n from rfl, show isGrL (some ⟨(1, 1), false, (0, 0), n⟩) = true from rfl]
                    obtain ⟨Fb, hpb, -⟩ := TW.out.s1.bk
                    have HPB := hide hpb
                    clear hpb
                    go_wp2_with fail
                    refine (face.count HPB.out (by have := HLL.out; omega)).mono ?_
                    rintro e X3 ⟨rfl, hb⟩
                    have TW := hide (TW.out.quiet (Ch.of_below hb))
                    clear hb
                    rw [JZ.out.count, HNZ.out]
                    go_wp2_with fail
                    refine ⟨?rel, ?measure⟩
                    case rel => exact ⟨k + 1, n, HL.out.1, HL.out.2, rfl, rfl, hide ⟨_, _, _, TW.out, JZ.out, HLL.out, by rw [HNZ.out]; exact HLE.out, CZ.out, ZZ.out⟩⟩
                    case measure =>
                      show 500 - ((k : Int) + 1).toNat < 500 - (k : Int).toNat
                      have := HL.out
                      omega
        | false =>
          obtain ⟨t0, t1, t2, ug, un⟩ := HT.out W2 TW.out.bl
          rw [hwt] at t0
          clear ug un
          go_wp2_with fail
          try rw [HW2.out]
          try rw [hgb]
          clear hW2 t0 t1 t2 hpk hg hgb
          obtain ⟨t0, t1, t2, ug, un⟩ := HT.out W2 TW.out.bl
          have UN := hide un
          clear t0 t1 ug un
          go_wp2
          refine wp_thenC (so_more (c := c) (sb := sb) (so := so) (sn0 := sc.length) (sc0 := scap) (k := k) (m := y.n) i0' i1 (Qs := G) (fun z hz => (TW.out.s1.foot hz).2) (fun wq kq => (kq.cell (cell_lt t2) (fun e => by have h1 := HSB.out; have h2 := TW.out.bl.size; have h3 := TW.out.lo; rcases e with e | e; have := (TW.out.s1.foot e).1; omega; omega) _).trans t2) (R := fun dd er sv V w' => ∃ l2 ls2, AddR l (gJ n) (1, 1) y.n dd.f er dd.wk l2 ls2 ∧ WkRow w' V.heap.size sv dd.wk ∧ AnsL V w' w1.heap.size c bp G l2 ls2) (fun V cV => (lw_add (TW.out.quiet cV).s1 (by have := HLN.out.1; have := HL.out.2; omega) JII.out.ok (fun u hu => by rw [List.mem_singleton.1 hu]; exact HCT.out) (by constructor <;> decide) (by constructor <;> decide) y.n).mono (fun e w' hh => ?_)) (fun A dd er sa sn sc2 V w6 w7 t119 t120 t121 t122 t123 t124 t125 t126 t127 t128 t129 cV hR hcQ hA hn7 hc7 hd => ?_))
          · obtain ⟨sv, f, er, ws, l2, ls2, rfl, h2, h3, h4⟩ := hh
            obtain ⟨a5, c5, hv5, -, -⟩ := h3.form
            obtain ⟨G2, a1, a2, a3⟩ := h4
            refine ⟨⟨f, zVa, false, ws⟩, er, a5, ws.length, c5, by rw [hv5], ⟨l2, ls2, h2, by rw [← hv5]; exact h3, G2, a1, a2, a3⟩, a2⟩
          · obtain ⟨l2, ls2, hadd, hrow, hans⟩ := hR
            obtain ⟨rfl, hl2, hcase⟩ := joD JII.out hadd
            obtain ⟨ws, hws⟩ : ∃ z, dd.wk = z := ⟨_, rfl⟩
            rw [hws] at hrow hcase
            obtain ⟨f, hf⟩ : ∃ z, dd.f = z := ⟨_, rfl⟩
            rw [hf] at hn7 hcase
            obtain ⟨a6, c6, hv6, -, -⟩ := hrow.form
            obtain ⟨rfl, hsn, rfl⟩ : sa = a6 ∧ sn = ws.length ∧ sc2 = c6 := by injection hv6 with e1 e2 e3; exact ⟨e1, e2, e3⟩
            obtain ⟨G3, tw3, ch3⟩ := TW.out.asked cV hans hA hc7 hd
            have hWA : ¬ Value.ownBlock (.slice sa sn sc2) = some A := fun e => by
              have h1 := (own_in hrow e).1
              have h2 := (own_in hrow e).2.1
              rcases hd with hd | hd <;> omega
            have hrow7 := Row.ch hrow hc7 (fun b hb e => hWA (by rw [hb, e]))
            have HLL := hide (show l2.length ≤ k + 1 by have := HLN.out.1; omega)
            have ND := hide hn7
            have TWn := hide tw3
            have RW := hide hrow7
            clear hadd hl2 hws hf hrow hans cV hcQ hA hn7 hc7 hd tw3 ch3 hWA hrow7 t2
            have w1n : IntKind.i64.wrap (-n) = -n := by have h3 := HCT.out.1; have h4 := HCT.out.2; rw [IntKind.wrap_i64]; omega
            have w2n : IntKind.i64.wrap (2147483647 - n) = 2147483647 - n := by have h3 := HCT.out.1; have h4 := HCT.out.2; rw [IntKind.wrap_i64]; omega
            obtain ⟨t0, t1, t2, ug, un⟩ := HT.out w7 TWn.out.bl
            clear t0 t1 ug un
            have d0 : w7.cell? ⟨A, 0, none⟩ = some (.int .i64 f) := by simp [Lib.cell_of_heap ND.out]
            have d5 : w7.cell? ⟨A, 5, none⟩ = some (.slice sa sn sc2) := by simp [Lib.cell_of_heap ND.out]
            rcases hcase with ⟨hr0, hr1, rfl, rfl, hcase⟩ | ⟨hr, rfl, rfl, rfl, rfl⟩
            · have TW := TWn
              have HR := hide (And.intro hr0 hr1)
              have p1 : ¬ y.n < -n := by omega
              have p2 : ¬ y.n > 2147483647 - n := by omega
              have wn : IntKind.i64.wrap (n + y.n) = n + y.n := by rw [IntKind.wrap_i64]; omega
              have CZ := hide (show CtOk (n + y.n) from ⟨hr0, hr1⟩)
              clear hr0 hr1
              rcases hcase with ⟨h0, hmap, hji⟩ | ⟨h0, hws0, hl20⟩
              · have q1 : ¬ n + y.n > 0 := by omega
                have H0 := hide h0
                have HMP := hide hmap
                have hsl : sn = nl := by rw [hsn, ← List.length_map (f := wkWho), hmap]; exact HNL.out
                subst hsl
                have HJ := hide hji
                have q2 : (n + y.n == 0) = true := by rw [h0]; rfl
                clear hsn h0 hmap hji
                go_wp2_with fail
                go_loopw [18] (fun i wr => ∃ q : Nat, q ≤ ws.length ∧ i = .int .i64 (q : Int) ∧ Hid (Ch (fun _ => False) w7 wr)) (fun i _ => ws.length - (intOf i).toNat)
                case atStart => exact ⟨0, Nat.zero_le _, rfl, hide (Ch.refl _ _)⟩
                case round =>
                  obtain ⟨q, hq, rfl, HC3⟩ := hrel
                  obtain ⟨W3, rfl⟩ : ∃ x, x = wr := ⟨_, rfl⟩
                  clear d0 d5
                  have d5 : W3.cell? ⟨A, 5, none⟩ = some (.slice sa ws.length sc2) := by simp [Lib.cell_of_heap (HC3.out.box ND.out (fun h => h))]
                  by_cases hql : q < ws.length
                  · have z1 : (q : Int) < (ws.length : Int) := by omega
                    have z0 : (0 : Int) ≤ (q : Int) := by omega
                    have HQ := hide hql
                    obtain ⟨lb, lc, cur, hv, -, -, -, -, -, hcl⟩ := TW.out.ro.at hkF_len (by rw [HNL.out]; omega)
                    rw [HNL.out] at hv
                    cases hv
                    obtain ⟨wb, wc, wcur, hv2, -, -, -, -, -, hwl⟩ := RW.out.at wkL_len (by omega)
                    cases hv2
                    have hlq : q < ws.length := hql
                    have hlq2 : q < line.length := by rw [HNL.out]; exact hql
                    have hsame : line[q] = wkWho ws[q] := by have h := List.getElem_map (f := wkWho) (l := ws) (i := q) (h := by rw [List.length_map]; exact hlq); rw [← h]; exact (List.getElem_of_eq HMP.out.symm hlq2)
                    obtain ⟨kw, hkw⟩ : ∃ z, ws[q] = z := ⟨_, rfl⟩
                    have h0 := hcl q hlq2 0 _ rfl
                    have h1 := hcl q hlq2 1 _ rfl
                    have h2 := hwl q hlq 0 _ rfl
                    have h3 := hwl q hlq 1 _ rfl
                    rw [hsame, hkw] at h0 h1
                    rw [hkw] at h2 h3
                    have HCL := hide (fun wq (kq : Ch (fun _ => False) w7 wq) => show (wq.cell? ⟨lb, q * 2, none⟩ = some (.int .u32 kw.s) ∧ wq.cell? ⟨lb, q * 2 + 1, none⟩ = some (.int .u32 kw.g)) ∧ (wq.cell? ⟨wb, q * 8, none⟩ = some (.int .u32 kw.s) ∧ wq.cell? ⟨wb, q * 8 + 1, none⟩ = some (.int .u32 kw.g)) ∧ wq.cell? ⟨A, 5, none⟩ = some (.slice (some ⟨wb, 0, none⟩) ws.length sc2) from by
                      exact ⟨⟨(kq.cell (cell_lt h0) (fun h => h) _).trans h0, (kq.cell (cell_lt h1) (fun h => h) _).trans h1⟩, ⟨(kq.cell (cell_lt h2) (fun h => h) _).trans h2, (kq.cell (cell_lt h3) (fun h => h) _).trans h3⟩, by simp [Lib.cell_of_heap (kq.box ND.out (fun h => h))]⟩)
                    have hqw : IntKind.i64.wrap ((q : Int) + 1) = (q : Int) + 1 := by have := HLN.out.2; have := HL.out.2; rw [IntKind.wrap_i64]; omega
                    clear h0 h1 h2 h3 hcl hwl hq hql hlq hlq2 hsame hkw
                    go_wp2
                    clear d5
                    refine wp_reg (fun _ => False) (R := fun V => Ch (fun _ => False) W3 V) (by kernel_rfl) (Ch.drew _) (fun V4 cV zk => ?_)
                    have CV := hide cV
                    clear cV
                    have HX := hide (fun wq (kq : Ch (fun _ => False) V4 wq) => HCL.out wq (HC3.out.trans (CV.out.trans kq (fun _ _ h => h)) (fun _ _ h => h)))
                    apply tk 0 yjb0 rfl (by kernel_rfl) (fun _ _ _ h => h) zk
                    · intro wq zq
                      go_simp
                      try rfl
                    go_frame
                    apply tk 1 yjb1 rfl (by kernel_rfl) (fun _ _ _ h => h) zk
                    · intro wq zq
                      obtain ⟨⟨s0, s1⟩, ⟨s2, s3⟩, s4⟩ := HX.out _ zq
                      go_simp
                      try rfl
                    go_frame
                    apply tk 2 yjb2 rfl (by kernel_rfl) (fun _ _ _ h => h) zk
                    · intro wq zq
                      go_simp
                      try rfl
                    go_frame
                    apply tk 3 yjb3 rfl (by kernel_rfl) (fun _ _ _ h => h) zk
                    · intro wq zq
                      obtain ⟨⟨s0, s1⟩, ⟨s2, s3⟩, s4⟩ := HX.out _ zq
                      go_simp
                      try rfl
                    go_frame
                    apply tk 4 yjb4 rfl (by kernel_rfl) (fun _ _ _ h => h) zk
                    · intro wq zq
                      go_simp
                      try rfl
                    go_frame
                    apply tk 5 yjb5 rfl (by kernel_rfl) (fun _ _ _ h => h) zk
                    · intro wq zq
                      obtain ⟨⟨s0, s1⟩, ⟨s2, s3⟩, s4⟩ := HX.out _ zq
                      go_simp
                      try rfl
                    go_frame
                    apply tk 6 yjb6 rfl (by kernel_rfl) (fun _ _ _ h => h) zk
                    · intro wq zq
                      go_simp
                      try rfl
                    go_frame
                    apply tk 7 yjb7 rfl (by kernel_rfl) (fun _ _ _ h => h) zk
                    · intro wq zq
                      go_simp
                      try rfl
                    go_frame
                    apply tk 8 yjb8 rfl (by kernel_rfl) (fun _ _ _ h => h) zk
                    · intro wq zq
                      obtain ⟨⟨s0, s1⟩, ⟨s2, s3⟩, s4⟩ := HX.out _ zq
                      go_simp
                      try rfl
                    go_frame
                    apply tk 9 yjb9 rfl (by kernel_rfl) (fun _ _ _ h => h) zk
                    · intro wq zq
                      obtain ⟨⟨s0, s1⟩, ⟨s2, s3⟩, s4⟩ := HX.out _ zq
                      go_simp
                      try rfl
                    go_frame
                    apply tk 10 yjb10 rfl (by kernel_rfl) (fun _ _ _ h => h) zk
                    · intro wq zq
                      go_simp
                      try rfl
                    go_frame
                    refine wpAnyH_done (by kernel_rfl) ?_ _
                    have e1 : (kw.s == kw.s && kw.g == kw.g) = true := by simp
                    have e2 : (kw.s == kw.s) = true := by simp
                    have e3 : (kw.g == kw.g) = true := by simp
                    go_wp2
                    refine ⟨?rel, ?measure⟩
                    case rel => exact ⟨q + 1, HQ.out, rfl, hide (HC3.out.trans CV.out (fun _ _ h => h))⟩
                    case measure =>
                      show ws.length - ((q : Int) + 1).toNat < ws.length - (q : Int).toNat
                      have := HQ.out
                      omega
                  · have z1 : ¬ (q : Int) < (ws.length : Int) := by omega
                    have TW := hide (show Jw w W3 w1.heap.size c bp l2 (gJ (n + y.n)) G3 (.slice none 0 0) [] from ⟨(TW.out.quiet HC3.out).s1, (TW.out.quiet HC3.out).bl, TW.out.lo, Row.nil _ _⟩)
                    have HLE := hide (Nat.zero_le (k + 1))
                    have HNZ := hide (show ([] : List Hnd).length = 0 from rfl)
                    have JZ := HJ
                    clear hq hql
                    go_wp2_with fail
                    refine (lhandle_is W3 (n := 1) (by decide) (by decide)).mono ?_
                    rintro e X1 ⟨rfl, hb⟩
                    have TW := hide (TW.out.quiet (Ch.of_below hb))
                    clear hb
                    go_wp2_with fail
                    refine (lw_counter TW.out.s1 (1, 1)).mono ?_
                    rintro e X2 ⟨rfl, hb⟩
                    have TW := hide (TW.out.quiet (Ch.of_below hb))
                    clear hb
                    rw [gJ_find, show ctL (some ⟨(1, 1), false, (0, 0), (n + y.n)⟩) = (n + y.n) from rfl, show isGrL (some ⟨(1, 1), false, (0, 0), (n + y.n)⟩) = true from rfl]
                    obtain ⟨Fb, hpb, -⟩ := TW.out.s1.bk
                    have HPB := hide hpb
                    clear hpb
                    go_wp2_with fail
                    refine (face.count HPB.out (by have := HLL.out; omega)).mono ?_
                    rintro e X3 ⟨rfl, hb⟩
                    have TW := hide (TW.out.quiet (Ch.of_below hb))
                    clear hb
                    rw [JZ.out.count, HNZ.out]
                    go_wp2_with fail
                    refine ⟨?rel, ?measure⟩
                    case rel => exact ⟨k + 1, (n + y.n), HL.out.1, HL.out.2, rfl, rfl, hide ⟨_, _, _, TW.out, JZ.out, HLL.out, by rw [HNZ.out]; exact HLE.out, CZ.out, (fun _ => rfl)⟩⟩
                    case measure =>
                      show 500 - ((k : Int) + 1).toNat < 500 - (k : Int).toNat
                      have := HL.out
                      omega
              · subst hws0
                subst hl20
                have hsn0 : sn = 0 := by rw [hsn]; rfl
                subst hsn0
                clear hsn
                have q1 : n + y.n > 0 := by have := HR.out.1; omega
                have q2 : (n + y.n == 0) = false := by simpa using h0
                have HN0 := hide h0
                clear h0
                go_wp2_with fail
                go_loopw [18] (fun i wr => i = .int .i64 0 ∧ wr = w7) (fun _ _ => 0)
                case atStart => exact ⟨rfl, rfl⟩
                case round =>
                  obtain ⟨rfl, rfl⟩ := hrel
                  have HLE := hide (show nl ≤ k + 1 by have := HLN.out.2; omega)
                  have HNZ := HNL
                  have JZ := JII
                  have ZZ := hide (show n + y.n = 0 → line = [] from fun e => absurd e HN0.out)
                  go_wp2_with fail
                  refine (lhandle_is wr (n := 1) (by decide) (by decide)).mono ?_
                  rintro e X1 ⟨rfl, hb⟩
                  have TW := hide (TW.out.quiet (Ch.of_below hb))
                  clear hb
                  go_wp2_with fail
                  refine (lw_counter TW.out.s1 (1, 1)).mono ?_
                  rintro e X2 ⟨rfl, hb⟩
                  have TW := hide (TW.out.quiet (Ch.of_below hb))
                  clear hb
                  rw [gJ_find, show ctL (some ⟨(1, 1), false, (0, 0), (n + y.n)⟩) = (n + y.n) from rfl, show isGrL (some ⟨(1, 1), false, (0, 0), (n + y.n)⟩) = true from rfl]
                  obtain ⟨Fb, hpb, -⟩ := TW.out.s1.bk
                  have HPB := hide hpb
                  clear hpb
                  go_wp2_with fail
                  refine (face.count HPB.out (by have := HLL.out; omega)).mono ?_
                  rintro e X3 ⟨rfl, hb⟩
                  have TW := hide (TW.out.quiet (Ch.of_below hb))
                  clear hb
                  rw [JZ.out.count, HNZ.out]
                  go_wp2_with fail
                  refine ⟨?rel, ?measure⟩
                  case rel => exact ⟨k + 1, (n + y.n), HL.out.1, HL.out.2, rfl, rfl, hide ⟨_, _, _, TW.out, JZ.out, HLL.out, by rw [HNZ.out]; exact HLE.out, CZ.out, ZZ.out⟩⟩
                  case measure =>
                    show 500 - ((k : Int) + 1).toNat < 500 - (k : Int).toNat
                    have := HL.out
                    omega
            · have TW := TWn
              have hsn0 : sn = 0 := by rw [hsn]; rfl
              subst hsn0
              clear hsn
              have HLE := hide (show nl ≤ k + 1 by have := HLN.out.2; omega)
              have HNZ := HNL
              have JZ := JII
              have CZ := HCT
              have ZZ := HZ
              by_cases p1 : y.n < -n
              · go_wp2_with fail
                refine (lhandle_is w7 (n := 1) (by decide) (by decide)).mono ?_
                rintro e X1 ⟨rfl, hb⟩
                have TW := hide (TW.out.quiet (Ch.of_below hb))
                clear hb
                go_wp2_with fail
                refine (lw_counter TW.out.s1 (1, 1)).mono ?_
                rintro e X2 ⟨rfl, hb⟩
                have TW := hide (TW.out.quiet (Ch.of_below hb))
                clear hb
                rw [gJ_find, show ctL (some ⟨(1, 1), false, (0, 0), n⟩) = n from rfl, show isGrL (some ⟨(1, 1), false, (0, 0), n⟩) = true from rfl]
                obtain ⟨Fb, hpb, -⟩ := TW.out.s1.bk
                have HPB := hide hpb
                clear hpb
                go_wp2_with fail
                refine (face.count HPB.out (by have := HLL.out; omega)).mono ?_
                rintro e X3 ⟨rfl, hb⟩
                have TW := hide (TW.out.quiet (Ch.of_below hb))
                clear hb
                rw [JZ.out.count, HNZ.out]
                go_wp2_with fail
                refine ⟨?rel, ?measure⟩
                case rel => exact ⟨k + 1, n, HL.out.1, HL.out.2, rfl, rfl, hide ⟨_, _, _, TW.out, JZ.out, HLL.out, by rw [HNZ.out]; exact HLE.out, CZ.out, ZZ.out⟩⟩
                case measure =>
                  show 500 - ((k : Int) + 1).toNat < 500 - (k : Int).toNat
                  have := HL.out
                  omega
              · have p2 : y.n > 2147483647 - n := by omega
                go_wp2_with fail
                refine (lhandle_is w7 (n := 1) (by decide) (by decide)).mono ?_
                rintro e X1 ⟨rfl, hb⟩
                have TW := hide (TW.out.quiet (Ch.of_below hb))
                clear hb
                go_wp2_with fail
                refine (lw_counter TW.out.s1 (1, 1)).mono ?_
                rintro e X2 ⟨rfl, hb⟩
                have TW := hide (TW.out.quiet (Ch.of_below hb))
                clear hb
                rw [gJ_find, show ctL (some ⟨(1, 1), false, (0, 0), n⟩) = n from rfl, show isGrL (some ⟨(1, 1), false, (0, 0), n⟩) = true from rfl]
                obtain ⟨Fb, hpb, -⟩ := TW.out.s1.bk
                have HPB := hide hpb
                clear hpb
                go_wp2_with fail
                refine (face.count HPB.out (by have := HLL.out; omega)).mono ?_
                rintro e X3 ⟨rfl, hb⟩
                have TW := hide (TW.out.quiet (Ch.of_below hb))
                clear hb
                rw [JZ.out.count, HNZ.out]
                go_wp2_with fail
                refine ⟨?rel, ?measure⟩
                case rel => exact ⟨k + 1, n, HL.out.1, HL.out.2, rfl, rfl, hide ⟨_, _, _, TW.out, JZ.out, HLL.out, by rw [HNZ.out]; exact HLE.out, CZ.out, ZZ.out⟩⟩
                case measure =>
                  show 500 - ((k : Int) + 1).toNat < 500 - (k : Int).toNat
                  have := HL.out
                  omega
      · have i2 : ¬ (k : Int) < 500 := by omega
        clear hlt h500 hk hk5
        go_wp2
        go_ret
        exact ⟨rfl, TW.out.bl⟩
    · have i1 : ¬ (k : Int) < (sc.length : Int) := by omega
      clear hlt hk hk5
      go_wp2
      go_ret
      exact ⟨rfl, TW.out.bl⟩

end Go.Proofs.Ytoabhmpakcgloaa
