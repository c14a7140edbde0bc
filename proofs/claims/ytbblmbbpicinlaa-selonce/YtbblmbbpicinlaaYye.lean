/- Layer 15: SelOnce, walked. -/
import Derived.Test.YtbblmbbpicinlaaYyd
namespace Go.Proofs.Ytbblmbbpicinlaa
open Go.RowKit

abbrev oza0 : Oper := { dst := some 104, op := Op.move (Operand.tmp 7), type := 24, pos := "law.go:251", after := #[], guard := none }
abbrev oza1 : Oper := { dst := some 105, op := Op.move (Operand.tmp 10), type := 99, pos := "law.go:251", after := #[], guard := none }
abbrev oza2 : Oper := { dst := some 106, op := Op.load 72 (Operand.tmp 14), type := 72, pos := "law.go:251", after := #[], guard := none }
abbrev oza3 : Oper := { dst := some 107, op := Op.move (Operand.tmp 13), type := 94, pos := "law.go:251", after := #[], guard := none }
abbrev oza4 : Oper := { dst := some 108, op := Op.indexAddr 94 (Operand.tmp 107) (Operand.const (Value.int IntKind.i64 0)), type := 0, pos := "law.go:251", after := #[{ on := 3, ground := Ground.data }], guard := none }
abbrev oza5 : Oper := { dst := some 109, op := Op.fieldAddr 105 (Operand.tmp 108) 0, type := 0, pos := "law.go:251", after := #[{ on := 4, ground := Ground.data }], guard := none }
abbrev oza6 : Oper := { dst := some 110, op := Op.load 43 (Operand.tmp 109), type := 43, pos := "law.go:251", after := #[{ on := 5, ground := Ground.data }], guard := none }
abbrev oza7 : Oper := { dst := some 111, op := Op.build 46 #[], type := 46, pos := "law.go:251", after := #[], guard := none }
abbrev oza8 : Oper := { dst := some 112, op := Op.call { callee := Callee.value (Operand.func 42), args := #[Operand.tmp 104, Operand.tmp 105, Operand.tmp 106, Operand.tmp 110, Operand.const (Value.bool false), Operand.tmp 111], argTypes := #[24, 99, 72, 43, 4, 46] }, type := 106, pos := "law.go:251", after := #[{ on := 0, ground := Ground.data }, { on := 1, ground := Ground.data }, { on := 2, ground := Ground.data }, { on := 6, ground := Ground.data }, { on := 7, ground := Ground.data }], guard := none }
abbrev oza9 : Oper := { dst := some 103, op := Op.move (Operand.tmp 112), type := 106, pos := "law.go:251", after := #[{ on := 8, ground := Ground.data }], guard := none }
abbrev oza10 : Oper := { dst := some 113, op := Op.extract (Operand.tmp 103) 0, type := 99, pos := "law.go:251", after := #[{ on := 9, ground := Ground.data }], guard := none }
abbrev oza11 : Oper := { dst := some 114, op := Op.extract (Operand.tmp 103) 1, type := 4, pos := "law.go:251", after := #[{ on := 9, ground := Ground.data }, { on := 12, ground := Ground.gcOnly Departure.lateStores }], guard := none }
abbrev oza12 : Oper := { dst := some 16, op := Op.assign (Operand.tmp 113), type := 99, pos := "law.go:251", after := #[{ on := 10, ground := Ground.data }, { on := 8, ground := Ground.chain }, { on := 0, ground := Ground.phase }, { on := 1, ground := Ground.phase }, { on := 2, ground := Ground.phase }, { on := 3, ground := Ground.phase }, { on := 4, ground := Ground.phase }, { on := 5, ground := Ground.phase }, { on := 6, ground := Ground.phase }, { on := 7, ground := Ground.phase }, { on := 8, ground := Ground.phase }, { on := 9, ground := Ground.phase }, { on := 10, ground := Ground.phase }, { on := 11, ground := Ground.textOnly Departure.lateStores }], guard := none }
abbrev oza13 : Oper := { dst := some 17, op := Op.assign (Operand.tmp 114), type := 4, pos := "law.go:251", after := #[{ on := 11, ground := Ground.data }, { on := 12, ground := Ground.chain }, { on := 0, ground := Ground.phase }, { on := 1, ground := Ground.phase }, { on := 2, ground := Ground.phase }, { on := 3, ground := Ground.phase }, { on := 4, ground := Ground.phase }, { on := 5, ground := Ground.phase }, { on := 6, ground := Ground.phase }, { on := 7, ground := Ground.phase }, { on := 8, ground := Ground.phase }, { on := 9, ground := Ground.phase }, { on := 10, ground := Ground.phase }, { on := 11, ground := Ground.phase }, { on := 12, ground := Ground.phase }], guard := none }
abbrev ozb0 : Oper := { dst := some 215, op := Op.move (Operand.tmp 7), type := 24, pos := "law.go:280", after := #[], guard := none }
abbrev ozb1 : Oper := { dst := some 216, op := Op.move (Operand.tmp 10), type := 99, pos := "law.go:280", after := #[], guard := none }
abbrev ozb2 : Oper := { dst := some 217, op := Op.load 72 (Operand.tmp 23), type := 72, pos := "law.go:280", after := #[], guard := none }
abbrev ozb3 : Oper := { dst := some 218, op := Op.move (Operand.tmp 13), type := 94, pos := "law.go:280", after := #[], guard := none }
abbrev ozb4 : Oper := { dst := some 219, op := Op.move (Operand.tmp 22), type := 3, pos := "law.go:280", after := #[], guard := none }
abbrev ozb5 : Oper := { dst := some 220, op := Op.indexAddr 94 (Operand.tmp 218) (Operand.tmp 219), type := 0, pos := "law.go:280", after := #[{ on := 3, ground := Ground.data }, { on := 4, ground := Ground.data }], guard := none }
abbrev ozb6 : Oper := { dst := some 221, op := Op.fieldAddr 105 (Operand.tmp 220) 0, type := 0, pos := "law.go:280", after := #[{ on := 5, ground := Ground.data }], guard := none }
abbrev ozb7 : Oper := { dst := some 222, op := Op.load 43 (Operand.tmp 221), type := 43, pos := "law.go:280", after := #[{ on := 6, ground := Ground.data }], guard := none }
abbrev ozb8 : Oper := { dst := some 223, op := Op.move (Operand.tmp 13), type := 94, pos := "law.go:280", after := #[], guard := none }
abbrev ozb9 : Oper := { dst := some 224, op := Op.move (Operand.tmp 22), type := 3, pos := "law.go:280", after := #[], guard := none }
abbrev ozb10 : Oper := { dst := some 225, op := Op.indexAddr 94 (Operand.tmp 223) (Operand.tmp 224), type := 0, pos := "law.go:280", after := #[{ on := 8, ground := Ground.data }, { on := 9, ground := Ground.data }], guard := none }
abbrev ozb11 : Oper := { dst := some 226, op := Op.fieldAddr 105 (Operand.tmp 225) 1, type := 0, pos := "law.go:280", after := #[{ on := 10, ground := Ground.data }], guard := none }
abbrev ozb12 : Oper := { dst := some 227, op := Op.load 4 (Operand.tmp 226), type := 4, pos := "law.go:280", after := #[{ on := 11, ground := Ground.data }], guard := none }
abbrev ozb13 : Oper := { dst := some 228, op := Op.move (Operand.tmp 13), type := 94, pos := "law.go:280", after := #[], guard := none }
abbrev ozb14 : Oper := { dst := some 229, op := Op.move (Operand.tmp 22), type := 3, pos := "law.go:280", after := #[], guard := none }
abbrev ozb15 : Oper := { dst := some 230, op := Op.indexAddr 94 (Operand.tmp 228) (Operand.tmp 229), type := 0, pos := "law.go:280", after := #[{ on := 13, ground := Ground.data }, { on := 14, ground := Ground.data }], guard := none }
abbrev ozb16 : Oper := { dst := some 231, op := Op.fieldAddr 105 (Operand.tmp 230) 2, type := 0, pos := "law.go:280", after := #[{ on := 15, ground := Ground.data }], guard := none }
abbrev ozb17 : Oper := { dst := some 232, op := Op.load 46 (Operand.tmp 231), type := 46, pos := "law.go:280", after := #[{ on := 16, ground := Ground.data }], guard := none }
abbrev ozb18 : Oper := { dst := some 233, op := Op.call { callee := Callee.value (Operand.func 42), args := #[Operand.tmp 215, Operand.tmp 216, Operand.tmp 217, Operand.tmp 222, Operand.tmp 227, Operand.tmp 232], argTypes := #[24, 99, 72, 43, 4, 46] }, type := 106, pos := "law.go:280", after := #[{ on := 0, ground := Ground.data }, { on := 1, ground := Ground.data }, { on := 2, ground := Ground.data }, { on := 7, ground := Ground.data }, { on := 12, ground := Ground.data }, { on := 17, ground := Ground.data }], guard := none }
abbrev ozb19 : Oper := { dst := some 214, op := Op.move (Operand.tmp 233), type := 106, pos := "law.go:280", after := #[{ on := 18, ground := Ground.data }], guard := none }
abbrev ozb20 : Oper := { dst := some 234, op := Op.extract (Operand.tmp 214) 0, type := 99, pos := "law.go:280", after := #[{ on := 19, ground := Ground.data }], guard := none }
abbrev ozb21 : Oper := { dst := some 235, op := Op.extract (Operand.tmp 214) 1, type := 4, pos := "law.go:280", after := #[{ on := 19, ground := Ground.data }, { on := 22, ground := Ground.gcOnly Departure.lateStores }], guard := none }
abbrev ozb22 : Oper := { dst := some 25, op := Op.assign (Operand.tmp 234), type := 99, pos := "law.go:280", after := #[{ on := 20, ground := Ground.data }, { on := 18, ground := Ground.chain }, { on := 0, ground := Ground.phase }, { on := 1, ground := Ground.phase }, { on := 2, ground := Ground.phase }, { on := 3, ground := Ground.phase }, { on := 4, ground := Ground.phase }, { on := 5, ground := Ground.phase }, { on := 6, ground := Ground.phase }, { on := 7, ground := Ground.phase }, { on := 8, ground := Ground.phase }, { on := 9, ground := Ground.phase }, { on := 10, ground := Ground.phase }, { on := 11, ground := Ground.phase }, { on := 12, ground := Ground.phase }, { on := 13, ground := Ground.phase }, { on := 14, ground := Ground.phase }, { on := 15, ground := Ground.phase }, { on := 16, ground := Ground.phase }, { on := 17, ground := Ground.phase }, { on := 18, ground := Ground.phase }, { on := 19, ground := Ground.phase }, { on := 20, ground := Ground.phase }, { on := 21, ground := Ground.textOnly Departure.lateStores }], guard := none }
abbrev ozb23 : Oper := { dst := some 26, op := Op.assign (Operand.tmp 235), type := 4, pos := "law.go:280", after := #[{ on := 21, ground := Ground.data }, { on := 22, ground := Ground.chain }, { on := 0, ground := Ground.phase }, { on := 1, ground := Ground.phase }, { on := 2, ground := Ground.phase }, { on := 3, ground := Ground.phase }, { on := 4, ground := Ground.phase }, { on := 5, ground := Ground.phase }, { on := 6, ground := Ground.phase }, { on := 7, ground := Ground.phase }, { on := 8, ground := Ground.phase }, { on := 9, ground := Ground.phase }, { on := 10, ground := Ground.phase }, { on := 11, ground := Ground.phase }, { on := 12, ground := Ground.phase }, { on := 13, ground := Ground.phase }, { on := 14, ground := Ground.phase }, { on := 15, ground := Ground.phase }, { on := 16, ground := Ground.phase }, { on := 17, ground := Ground.phase }, { on := 18, ground := Ground.phase }, { on := 19, ground := Ground.phase }, { on := 20, ground := Ground.phase }, { on := 21, ground := Ground.phase }, { on := 22, ground := Ground.phase }], guard := none }
abbrev ozc0 : Oper := { dst := some 251, op := Op.move (Operand.tmp 7), type := 24, pos := "law.go:287", after := #[], guard := none }
abbrev ozc1 : Oper := { dst := some 252, op := Op.move (Operand.tmp 10), type := 99, pos := "law.go:287", after := #[], guard := none }
abbrev ozc2 : Oper := { dst := some 253, op := Op.move (Operand.tmp 27), type := 3, pos := "law.go:287", after := #[], guard := none }
abbrev ozc3 : Oper := { dst := some 254, op := Op.indexAddr 99 (Operand.tmp 252) (Operand.tmp 253), type := 0, pos := "law.go:287", after := #[{ on := 1, ground := Ground.data }, { on := 2, ground := Ground.data }], guard := none }
abbrev ozc4 : Oper := { dst := some 255, op := Op.fieldAddr 113 (Operand.tmp 254) 0, type := 0, pos := "law.go:287", after := #[{ on := 3, ground := Ground.data }], guard := none }
abbrev ozc5 : Oper := { dst := some 256, op := Op.load 43 (Operand.tmp 255), type := 43, pos := "law.go:287", after := #[{ on := 4, ground := Ground.data }], guard := none }
abbrev ozc6 : Oper := { dst := some 257, op := Op.call { callee := Callee.value (Operand.func 43), args := #[Operand.tmp 251, Operand.tmp 256], argTypes := #[24, 43] }, type := 33, pos := "law.go:287", after := #[{ on := 0, ground := Ground.data }, { on := 5, ground := Ground.data }], guard := none }
abbrev ozc7 : Oper := { dst := some 258, op := Op.call { callee := Callee.builtin Builtin.len, args := #[Operand.tmp 257], argTypes := #[33] }, type := 3, pos := "law.go:287", after := #[{ on := 6, ground := Ground.data }], guard := none }
abbrev ozc8 : Oper := { dst := some 259, op := Op.move (Operand.tmp 10), type := 99, pos := "law.go:287", after := #[], guard := none }
abbrev ozc9 : Oper := { dst := some 260, op := Op.move (Operand.tmp 27), type := 3, pos := "law.go:287", after := #[], guard := none }
abbrev ozc10 : Oper := { dst := some 261, op := Op.indexAddr 99 (Operand.tmp 259) (Operand.tmp 260), type := 0, pos := "law.go:287", after := #[{ on := 8, ground := Ground.data }, { on := 9, ground := Ground.data }], guard := none }
abbrev ozc11 : Oper := { dst := some 262, op := Op.fieldAddr 113 (Operand.tmp 261) 1, type := 0, pos := "law.go:287", after := #[{ on := 10, ground := Ground.data }], guard := none }
abbrev ozc12 : Oper := { dst := some 263, op := Op.load 94 (Operand.tmp 262), type := 94, pos := "law.go:287", after := #[{ on := 11, ground := Ground.data }], guard := none }
abbrev ozc13 : Oper := { dst := some 264, op := Op.call { callee := Callee.builtin Builtin.len, args := #[Operand.tmp 263], argTypes := #[94] }, type := 3, pos := "law.go:287", after := #[{ on := 12, ground := Ground.data }], guard := none }
abbrev ozc14 : Oper := { dst := some 265, op := Op.binOp BinOp.neq 3 (Operand.tmp 258) (Operand.tmp 264) 3, type := 4, pos := "law.go:287", after := #[{ on := 7, ground := Ground.data }, { on := 13, ground := Ground.data }], guard := none }

/-- what the loop holds -/
def OLI (w wr : World) (B c bp s n k : Nat) (t : Value) : Prop := ∃ l ks G ps, Ow w wr B c bp s l ks G ∧ WtOk l ∧ l.length ≤ 50 * k ∧ HsK ks n ∧ PI l ps ∧ ps.length ≤ k ∧ PaM wr ps ∧ PaRow wr w.heap.size t ps

set_option maxRecDepth 100000 in
set_option maxHeartbeats 64000000 in
theorem once_is {w : World} {za : Option Addr} {zb zo zc : Nat} {zs : List Int} (hz : IntsIn w za zb zo zs) (hzl : zs.length ≤ 9223372036854775807) {sv : Value} {sc : List (Tn × List On)} (hsc : Lst w.heap.size 4 (TnAt w.heap.size w) sv sc) : Calls Try.prog 7 #[.slice za zs.length zc, sv] w fun e w' => e = .returned (.bool true) ∧ Below w.heap.size w w' := by
  obtain ⟨i0, hi0, hz0, hz1, hz2⟩ := nf_open nfPa
  obtain ⟨sb, so, ⟨sa0, scap, rfl, hscl, hsc63, hsad⟩, hsat⟩ := hsc
  have HSA := hide hsad
  have HST := hide (fun (W : World) (hb : Below w.heap.size w W) i (h : i < sc.length) => (hsat i h).below hb)
  have HZ := hide hz
  clear hsad hsat hz hscl hsc63
  go_enter Try.func7, Try.ntmps7
  go_wp2_with fail
  refine (awake15_is w).mono ?_
  rintro e w1 ⟨rfl, hb1⟩
  have B1 := hide hb1
  go_wp2_with fail
  refine (made_is (cap := zc) (HZ.out.below hb1) hzl).mono ?_
  rintro e w2 ⟨c, bp, s, G0, rfl, sw2, sa2, hs2, hb2⟩
  have TW0 := hide (show Ow w w2 w1.heap.size c bp s [] (mkK 0 (zs.take 5)) G0 from ⟨sw2, sa2, B1.out.trans (hb2.mono B1.out.size), B1.out.size⟩)
  clear hb1 sw2 sa2 hb2 hs2
  obtain ⟨n, hn⟩ : ∃ z, min zs.length 5 = z := ⟨_, rfl⟩
  have HN := hide (show n ≤ 5 ∧ (0 < n → HsK (mkK 0 (zs.take 5)) n) from ⟨by omega, fun _ => by have := HsK.mk (zs.take 5); rw [List.length_take] at this; rwa [show min 5 zs.length = n by omega] at this⟩)
  have hmin : (if (5 : Int) < (zs.length : Int) then (5 : Int) else (zs.length : Int)) = (n : Int) := by split <;> omega
  go_wp2_with fail
  clear hmin
  go_loopw [10, 11] (fun t i wr => ∃ k : Nat, k ≤ sc.length ∧ k ≤ 400 ∧ i = .int .i64 (k : Int) ∧ Hid (OLI w wr w1.heap.size c bp s n k t)) (fun _ i _ => 400 - (intOf i).toNat)
  case atStart => exact ⟨0, Nat.zero_le _, by omega, rfl, hide ⟨[], _, G0, [], TW0.out, (fun t ht => by cases ht), Nat.le_refl _, (fun j hj => (HN.out.2 (by omega)) j hj), PI.nil, Nat.le_refl _, (fun q hq => by cases hq), Row.nil _ _⟩⟩
  case round =>
    obtain ⟨k, hk, hk4, rfl, HI⟩ := hrel
    obtain ⟨W0, rfl⟩ : ∃ x, x = wr := ⟨_, rfl⟩
    obtain ⟨t0v, et⟩ : ∃ u, u = u10 := ⟨_, rfl⟩
    subst et
    obtain ⟨l, ks, G, ps, tw, wo, hll, hsk, hpi, hpl, hpm, hpr⟩ := HI.out
    have TW := hide tw
    have WO := hide (And.intro wo (And.intro hll hsk))
    have PII := hide hpi
    have PL := hide hpl
    have PM := hide hpm
    have PR := hide hpr
    clear HI tw wo hll hsk hpi hpl hpm hpr
    by_cases hlt : k < sc.length
    · have i1 : (k : Int) < (sc.length : Int) := by omega
      by_cases h400 : k < 400
      · have i2 : (k : Int) < 400 := by omega
        by_cases hn0 : 0 < n
        · have i3 : (n : Int) > 0 := by omega
          have HL := hide (And.intro hlt h400)
          obtain ⟨y, hy⟩ : ∃ y, sc[k] = y := ⟨_, rfl⟩
          have hsa := (HSA.out (by omega)).1
          subst hsa
          have hT := fun (W : World) (hb : Below w.heap.size w W) => HST.out W hb k hlt
          rw [hy] at hT
          have HT := hide hT
          have HN0 := hide hn0
          have i0' : (0 : Int) ≤ (k : Int) := by omega
          have hrn : y.1.rn = y.2.length := (hT w (Below.refl _ _)).n
          have HRN := hide hrn
          have hiw : IntKind.i64.wrap ((k : Int) + 1) = (k : Int) + 1 := by rw [IntKind.wrap_i64]; omega
          clear hlt h400 hk hk4 hn0 hy hT hrn
          obtain ⟨t0, t1, t2, t3, ug, ut, uc, -, -⟩ := HT.out W0 TW.out.bl
          rw [HRN.out] at t3
          have UG := hide ug
          have hpk := pkW_lt y.1.g (n := 8) (by decide)
          go_wp2_with fail
          clear t0 t1 t2 t3 ug ut uc
          refine (picks_is UG.out (n := 8) (by decide) (by decide) _).mono ?_
          rintro e wp ⟨rfl, hw⟩
          rw [hw]
          clear hw wp
          have hwr : IntKind.i64.wrap (11 + (pkW y.1.g 8 : Int)) = 11 + (pkW y.1.g 8 : Int) := by rw [IntKind.wrap_i64]; omega
          go_wp2_with fail
          clear hwr
          refine (h15_is W0 (n := 11 + (pkW y.1.g 8 : Int)) (by omega) (by omega)).mono ?_
          rintro e V1 ⟨rfl, hb⟩
          have hc9 := Ch.of_below (Q := fun _ => False) hb
          have TW := hide (TW.out.quiet (hc9))
          have PM := hide (PM.out.quiet (hc9))
          have PR := hide (Row.ch PR.out (hc9) (fun _ _ h => h))
          clear hb hc9
          have HPK := hide hpk
          clear hpk
          obtain ⟨V2, hV2⟩ : ∃ z, V1.alloc (.cells #[.int .u32 (11 + (pkW y.1.g 8 : Int)), .int .u32 1] 43) = z := ⟨_, rfl⟩
          have NG := hide (show V2.heap[V1.heap.size]? = some (.cells #[.int .u32 (11 + (pkW y.1.g 8 : Int)), .int .u32 1] 43 (0, 0)) by rw [← hV2]; exact heap_new _ _)
          have cA : Ch (fun _ => False) V1 V2 := by rw [← hV2]; exact Ch.alloc _ _
          have TW := hide (TW.out.quiet (cA))
          have PM := hide (PM.out.quiet (cA))
          have PR := hide (Row.ch PR.out (cA) (fun _ _ h => h))
          have HV2 := hide hV2
          clear cA hV2
          have hbl := TW.out.bl
          rw [← HV2.out] at hbl
          obtain ⟨t0, t1, t2, t3, ug, ut, uc, -, hon⟩ := HT.out _ hbl
          rw [HRN.out] at t3 hon
          have HON := hide hon
          clear hon hbl
          go_wp2_with fail
          rw [HV2.out]
          clear t0 t1 t2 t3 ug ut uc
          have HON1 := hide (show Lst w.heap.size 2 (OnAt V2) (.slice y.1.ra y.2.length y.1.rc) y.2 from by have := HON.out; rwa [HV2.out] at this)
          refine (arms_is (tg := y.1.g) (tt := y.1.t) (tc := y.1.c) (m := (k : Int) + 1) HON1.out HN0.out HN.out.1 (by omega) (by have := HL.out; omega)).mono ?_
          rintro e V3 ⟨v3, rfl, hr3, hb⟩
          have hc9 := Ch.of_below (Q := fun _ => False) hb
          have TW := hide (TW.out.quiet (hc9))
          have PM := hide (PM.out.quiet (hc9))
          have PR := hide (Row.ch PR.out (hc9) (fun _ _ h => h))
          have NG := hide ((hc9).box NG.out (fun h => h))
          clear hb hc9
          have hok := fun x hx => amK_ok (n := n) HN0.out HN.out.1 (m := (k : Int) + 1) (by omega) (by have := HL.out; omega) (i := 0) (r := y.2.take 50) (by rw [List.length_take]; omega) x hx
          have hal : (amK n ((k : Int) + 1) 0 (y.2.take 50)).length ≤ 50 := by rw [amK_len, List.length_take]; omega
          obtain ⟨az, haz⟩ : ∃ z, amK n ((k : Int) + 1) 0 (y.2.take 50) = z := ⟨_, rfl⟩
          rw [haz] at hr3 hok hal
          have HOK := hide hok
          have HAL := hide hal
          clear hok haz hal
          have HFK := hide (show ∀ x ∈ az, ∃ kx, fnk ks x.h = some kx from fun x hx => by
            obtain ⟨j, hj, hh⟩ := (HOK.out x hx).2
            rw [hh]
            exact WO.out.2.2 j hj)
          have HNX := hide (show ∀ x ∈ az, nnH x.h = false from fun x hx => by
            obtain ⟨j, hj, hh⟩ := (HOK.out x hx).2
            rw [hh]
            unfold nnH
            simp)
          have GU := hide (show UsW (11 + (pkW y.1.g 8 : Int)) ∧ UsW 1 from ⟨⟨by omega, by have := HPK.out; omega⟩, by constructor <;> decide⟩)
          have HNG := hide (show nnH (11 + (pkW y.1.g 8 : Int), 1) = false from by unfold nnH; simp)
          have XA := hide (show ∀ z ∈ az, AmOk z from fun z hz => (HOK.out z hz).1)
          obtain ⟨aa, c3, rfl, -, -⟩ := hr3.form
          have RA := hide hr3
          clear hr3
          obtain ⟨t0, t1, t2, t3, ug, ut, uc, -, -⟩ := HT.out V3 TW.out.bl
          rw [HRN.out] at t3
          cases hq : (y.1.c.tmod 17 == 3) with
          | false =>
            as_aux_lemma =>
              have ng0 : V3.cell? ⟨V1.heap.size, 0, none⟩ = some (.int .u32 (11 + (pkW y.1.g 8 : Int))) := by simp [Lib.cell_of_heap NG.out]
              have ng1 : V3.cell? ⟨V1.heap.size, 1, none⟩ = some (.int .u32 1) := by simp [Lib.cell_of_heap NG.out]
              go_wp2_with fail
              clear t0 t1 t2 t3 ug ut uc
              clear ng0 ng1
              obtain ⟨FA, hpa, -, -⟩ := TW.out.s1.book
              refine (face.of (11 + (pkW y.1.g 8 : Int)) 1 GU.out.1 GU.out.2 hpa (by have h1 := WO.out.2.1; have h2 := HL.out.2; omega)).mono ?_
              rintro e V4 ⟨v4, rfl, hr4, hb⟩
              obtain ⟨a4, c4, rfl, -, -⟩ := hr4.form
              have hc9 := Ch.of_below (Q := fun _ => False) hb
              have TW := hide (TW.out.quiet (hc9))
              have PM := hide (PM.out.quiet (hc9))
              have PR := hide (Row.ch PR.out (hc9) (fun _ _ h => h))
              have NG := hide ((hc9).box NG.out (fun h => h))
              have RA := hide (Row.ch RA.out (hc9) (fun _ _ h => h))
              clear hb hc9 hr4 hpa
              obtain ⟨gp, hai, hgp⟩ := ArmsIn.of_row RA.out
              have AI := hide hai
              clear hai hgp
              by_cases hw : 0 < (sel (isWho (11 + (pkW y.1.g 8 : Int)) 1) l).length
              · have hw2 : ((sel (isWho (11 + (pkW y.1.g 8 : Int)) 1) l).length : Int) > 0 := by omega
                have hnw : sel (isWho (11 + (pkW y.1.g 8 : Int)) 1) l ≠ [] := fun e => by rw [e] at hw; exact absurd hw (by decide)
                have HNW := hide hnw
                clear hw hnw
                go_wp2_with fail
                refine (poll_is (cap := c3) (az := az) TW.out.s1 (by have h1 := WO.out.2.1; have h2 := HL.out.2; omega) TW.out.sa AI.out XA.out (by have := HAL.out; omega)).mono ?_
                rintro e V5 ⟨vz, rfl, hrz, hb⟩
                rw [pl_ok HFK.out HAL.out] at hrz ⊢
                obtain ⟨az9, cz, rfl, -, -⟩ := hrz.form
                have RZ := hide hrz
                have hc9 := Ch.of_below (Q := fun _ => False) hb
                have TW := hide (TW.out.quiet (hc9))
                have PM := hide (PM.out.quiet (hc9))
                have PR := hide (Row.ch PR.out (hc9) (fun _ _ h => h))
                have NG := hide ((hc9).box NG.out (fun h => h))
                have RA := hide (Row.ch RA.out (hc9) (fun _ _ h => h))
                clear hb hc9 hrz
                obtain ⟨gp2, hai, hgp⟩ := ArmsIn.of_row RA.out
                have AI := hide hai
                have HGP := hide hgp
                clear hai hgp
                obtain ⟨zl, hzl9⟩ : ∃ z, idxA l ks 0 az = z := ⟨_, rfl⟩
                rw [hzl9] at RZ ⊢
                have HZL := hide hzl9
                clear hzl9
                have zlen : zl.length ≤ 50 := by have h1 := idxA_len l ks 0 az; have h2 := HAL.out; rw [HZL.out] at h1; omega
                have ZLEN := hide zlen
                clear zlen
                have ng0 : V5.cell? ⟨V1.heap.size, 0, none⟩ = some (.int .u32 (11 + (pkW y.1.g 8 : Int))) := by simp [Lib.cell_of_heap NG.out]
                have ng1 : V5.cell? ⟨V1.heap.size, 1, none⟩ = some (.int .u32 1) := by simp [Lib.cell_of_heap NG.out]
                go_wp2_with fail
                clear ng0 ng1
                refine (park_err (cap := c3) (az := az) TW.out.s1 (by have h1 := WO.out.2.1; have h2 := HL.out.2; omega) TW.out.sa AI.out XA.out (by have := HAL.out; omega) (gr := (11 + (pkW y.1.g 8 : Int), 1)) GU.out.1 GU.out.2 (q := 143) (by rw [ak_wait HNG.out HNW.out]) (by decide)).mono ?_
                rintro e V6 ⟨rfl, hb⟩
                have hc9 := Ch.of_below (Q := fun _ => False) hb
                have TW := hide (TW.out.quiet (hc9))
                have PM := hide (PM.out.quiet (hc9))
                have PR := hide (Row.ch PR.out (hc9) (fun _ _ h => h))
                have NG := hide ((hc9).box NG.out (fun h => h))
                have RA := hide (Row.ch RA.out (hc9) (fun _ _ h => h))
                have RZ := hide (Row.ch RZ.out (hc9) (fun _ _ h => h))
                clear hb hc9
                go_wp2_with fail
                refine ⟨?rel, ?measure⟩
                case rel => exact ⟨k + 1, HL.out.1, HL.out.2, rfl, hide ⟨l, ks, _, ps, TW.out, WO.out.1, by have := WO.out.2.1; omega, WO.out.2.2, PII.out, by have := PL.out; omega, PM.out, PR.out⟩⟩
                case measure =>
                  show 400 - ((k : Int) + 1).toNat < 400 - (k : Int).toNat
                  have := HL.out
                  omega
              · have hw2 : ¬ ((sel (isWho (11 + (pkW y.1.g 8 : Int)) 1) l).length : Int) > 0 := by omega
                have NW := hide (show sel (isWho (11 + (pkW y.1.g 8 : Int)) 1) l = [] from List.eq_nil_of_length_eq_zero (by omega))
                clear hw
                go_wp2_with fail
                refine (poll_is (cap := c3) (az := az) TW.out.s1 (by have h1 := WO.out.2.1; have h2 := HL.out.2; omega) TW.out.sa AI.out XA.out (by have := HAL.out; omega)).mono ?_
                rintro e V7 ⟨vz, rfl, hrz, hb⟩
                rw [pl_ok HFK.out HAL.out] at hrz ⊢
                obtain ⟨az9, cz, rfl, -, -⟩ := hrz.form
                have RZ := hide hrz
                have hc9 := Ch.of_below (Q := fun _ => False) hb
                have TW := hide (TW.out.quiet (hc9))
                have PM := hide (PM.out.quiet (hc9))
                have PR := hide (Row.ch PR.out (hc9) (fun _ _ h => h))
                have NG := hide ((hc9).box NG.out (fun h => h))
                have RA := hide (Row.ch RA.out (hc9) (fun _ _ h => h))
                clear hb hc9 hrz
                obtain ⟨gp2, hai, hgp⟩ := ArmsIn.of_row RA.out
                have AI := hide hai
                have HGP := hide hgp
                clear hai hgp
                obtain ⟨zl, hzl9⟩ : ∃ z, idxA l ks 0 az = z := ⟨_, rfl⟩
                rw [hzl9] at RZ ⊢
                have HZL := hide hzl9
                clear hzl9
                have zlen : zl.length ≤ 50 := by have h1 := idxA_len l ks 0 az; have h2 := HAL.out; rw [HZL.out] at h1; omega
                have ZLEN := hide zlen
                clear zlen
                have AK := hide (show akA l ks (11 + (pkW y.1.g 8 : Int), 1) az = (zl, 0) from by rw [ak_free (gr := (11 + (pkW y.1.g 8 : Int), 1)) HNG.out NW.out HFK.out HAL.out, HZL.out])
                by_cases hz0 : zl = []
                · have hzp : ¬ (zl.length : Int) > 0 := by rw [hz0]; simp
                  have HZ0 := hide hz0
                  clear hz0
                  have ng0 : V7.cell? ⟨V1.heap.size, 0, none⟩ = some (.int .u32 (11 + (pkW y.1.g 8 : Int))) := by simp [Lib.cell_of_heap NG.out]
                  have ng1 : V7.cell? ⟨V1.heap.size, 1, none⟩ = some (.int .u32 1) := by simp [Lib.cell_of_heap NG.out]
                  go_wp2_with fail
                  clear ng0 ng1
                  refine (park_go (cap := c3) (az := az) TW.out.s1 (by have h1 := WO.out.2.1; have h2 := HL.out.2; omega) TW.out.sa AI.out XA.out (by have := HAL.out; omega) (gr := (11 + (pkW y.1.g 8 : Int), 1)) GU.out.1 GU.out.2 (fun h0 => by obtain ⟨cur, hcur⟩ := HGP.out h0; exact TW.out.s1.nb hcur (by decide)) (by rw [AK.out]) (by rw [AK.out]; exact HZ0.out)).mono ?_
                  rintro e V8 ⟨rfl, G3, hs9, hg9, hch⟩
                  have PM := hide (PM.out.keep TW.out.s1 hch)
                  have PR := hide (TW.out.s1.kr hch (by decide) PR.out)
                  have NG := hide (TW.out.s1.keep hch NG.out (by decide))
                  have RA := hide (TW.out.s1.kr hch (by decide) RA.out)
                  have RZ := hide (TW.out.s1.kr hch (by decide) RZ.out)
                  have TW := hide (TW.out.one hch hs9)
                  clear hs9 hch
                  clear hg9
                  have PKL := hide (show (pkL (11 + (pkW y.1.g 8 : Int), 1) 0 az l).length ≤ l.length + 50 from Nat.le_trans (pkL_len (11 + (pkW y.1.g 8 : Int), 1) 0 az l) (by have := HAL.out; omega))
                  have PWO := hide (pk_ok (g := (11 + (pkW y.1.g 8 : Int), 1)) (i := 0) GU.out.1 GU.out.2 WO.out.1 XA.out (by have := HAL.out; omega))
                  have ng0 : V8.cell? ⟨V1.heap.size, 0, none⟩ = some (.int .u32 (11 + (pkW y.1.g 8 : Int))) := by simp [Lib.cell_of_heap NG.out]
                  have ng1 : V8.cell? ⟨V1.heap.size, 1, none⟩ = some (.int .u32 1) := by simp [Lib.cell_of_heap NG.out]
                  go_wp2_with fail
                  clear ng0 ng1
                  obtain ⟨FB, hpb, -, -⟩ := TW.out.s1.book
                  refine (face.of (11 + (pkW y.1.g 8 : Int)) 1 GU.out.1 GU.out.2 hpb (by have h0 := PKL.out; have h1 := WO.out.2.1; have h2 := HL.out.2; omega)).mono ?_
                  rintro e V9 ⟨v6, rfl, hr6, hb⟩
                  obtain ⟨a6, c6, rfl, -, -⟩ := hr6.form
                  rw [pk_len (g := (11 + (pkW y.1.g 8 : Int), 1)) HNG.out NW.out]
                  have hc9 := Ch.of_below (Q := fun _ => False) hb
                  have TW := hide (TW.out.quiet (hc9))
                  have PM := hide (PM.out.quiet (hc9))
                  have PR := hide (Row.ch PR.out (hc9) (fun _ _ h => h))
                  have NG := hide ((hc9).box NG.out (fun h => h))
                  have RA := hide (Row.ch RA.out (hc9) (fun _ _ h => h))
                  have RZ := hide (Row.ch RZ.out (hc9) (fun _ _ h => h))
                  clear hb hc9 hr6 hpb
                  by_cases ha0 : az = []
                  · have HA0 := hide ha0
                    have hla : ¬ (az.length : Int) > 0 := by rw [ha0]; simp
                    clear ha0
                    go_wp2_with fail
                    refine ⟨?rel, ?measure⟩
                    case rel => exact ⟨k + 1, HL.out.1, HL.out.2, rfl, hide ⟨_, _, _, ps, TW.out, PWO.out, by have h1 := PKL.out; have h2 := WO.out.2.1; omega, WO.out.2.2, by have h := PII.out; rw [HA0.out]; exact h, by have := PL.out; omega, PM.out, PR.out⟩⟩
                    case measure =>
                      show 400 - ((k : Int) + 1).toNat < 400 - (k : Int).toNat
                      have := HL.out
                      omega
                  · have hla : (az.length : Int) > 0 := by have := List.length_pos_iff.2 ha0; omega
                    have hlp : 0 < az.length := List.length_pos_iff.2 ha0
                    obtain ⟨ga, c9, cur9, hv9, -, -, -, hcur9, -, -⟩ := RA.out.at amF_len hlp
                    injection hv9 with hv1 hv2 hv3
                    subst hv1 hv3
                    have HLP := hide hlp
                    have AB := hide (show ArmB V9 ga cur9 az from ⟨hcur9, AmL.of_row RA.out⟩)
                    clear ha0 hv2 hcur9 hlp
                    have HOW := hide (World.ownsRow.alloc PR.out (.cells #[.int .u32 (11 + (pkW y.1.g 8 : Int)), .int .u32 1, .slice (some ⟨ga, 0, none⟩) az.length c3] 113))
                    have HN1 := hide (row_new V9 (paF ⟨(11 + (pkW y.1.g 8 : Int), 1), ga, c3, az⟩) 113 rfl)
                    have HM1 := hide (show ps.length + 1 ≤ maxLen by unfold maxLen; have := PL.out; have := HL.out.2; omega)
                    have HM2 := hide (show (ps.length + 1) * 32 ≤ 140737488355328 by have := PL.out; have := HL.out.2; omega)
                    have HM3 := hide (show w.heap.size ≤ (V9.alloc (.cells #[.int .u32 (11 + (pkW y.1.g 8 : Int)), .int .u32 1, .slice (some ⟨ga, 0, none⟩) az.length c3] 113)).heap.size by have := TW.out.bl.size; simp; omega)
                    have ng0 : V9.cell? ⟨V1.heap.size, 0, none⟩ = some (.int .u32 (11 + (pkW y.1.g 8 : Int))) := by simp [Lib.cell_of_heap NG.out]
                    have ng1 : V9.cell? ⟨V1.heap.size, 1, none⟩ = some (.int .u32 1) := by simp [Lib.cell_of_heap NG.out]
                    go_wp2_with (at_builtin; refine wpList_append_own_at _ rfl _ _ 99 rfl w.heap.size 113 i0 (.agg #[.int .u32 0, .int .u32 0, .slice none 0 0]) 3 32 Try.underlying99 hi0 hz0 hz1 hz2 rfl (by decide) _ ps.length (ps.flatMap paF) rfl HOW.out ⟨V9.heap.size, 0, none⟩ 1 1 (paF ⟨(11 + (pkW y.1.g 8 : Int), 1), ga, c3, az⟩) rfl rfl HN1.out (paF_one _) HM1.out HM2.out HM3.out ?_)
                    intro v8 w8 hown8 hgrow8 _ _
                    clear ng0 ng1
                    have PR8 := hide (show PaRow w8 w.heap.size v8 (ps ++ [⟨(11 + (pkW y.1.g 8 : Int), 1), ga, c3, az⟩]) from Row.snoc hown8)
                    have c8 := (Ch.alloc (Q := fun y => t0v.ownBlock = some y) V9 (.cells #[.int .u32 (11 + (pkW y.1.g 8 : Int)), .int .u32 1, .slice (some ⟨ga, 0, none⟩) az.length c3] 113)).trans (Ch.of_grown (Q := fun y => t0v.ownBlock = some y) hgrow8 (fun _ e => e)) (fun _ _ h => h)
                    have nown : ∀ {b : Nat} {cs9 : Array Value} {T9 : TypeId}, V9.heap[b]? = some (.cells cs9 T9 (0, 0)) → 113 ≠ T9 → ¬ t0v.ownBlock = some b := fun hb hT => own_box PR.out hb hT
                    have ngo : ∀ y, t0v.ownBlock = some y → ¬ G3 y := fun y hy => by obtain ⟨_, _, cur, e2⟩ := own_in PR.out hy; exact TW.out.s1.nb e2 (by decide)
                    have TW := hide (show Ow w w8 w1.heap.size c bp s (pkL (11 + (pkW y.1.g 8 : Int), 1) 0 az l) ks G3 from ⟨TW.out.s1.frame c8 (fun y hy e => ngo y e hy), c8.box TW.out.sa (nown TW.out.sa (by decide)), TW.out.bl.trans (c8.below (N := w.heap.size) TW.out.bl.size (fun y hy e => by have := (own_in PR.out e).1; omega)), TW.out.lo⟩)
                    have PM := hide (show PaM w8 (ps ++ [⟨(11 + (pkW y.1.g 8 : Int), 1), ga, c3, az⟩]) from fun q hq => by
                      rcases List.mem_append.1 hq with hq | hq
                      · obtain ⟨cur, hb⟩ := PM.out q hq
                        exact ⟨cur, hb.mv (c8.box hb.1 (nown hb.1 (by decide)))⟩
                      · rw [List.mem_singleton.1 hq]
                        exact ⟨cur9, AB.out.mv (c8.box AB.out.1 (nown AB.out.1 (by decide)))⟩)
                    have PR := hide PR8.out
                    clear hown8 hgrow8 c8 nown ngo PR8
                    go_wp2_with fail
                    refine ⟨?rel, ?measure⟩
                    case rel => exact ⟨k + 1, HL.out.1, HL.out.2, rfl, hide ⟨_, _, _, _, TW.out, PWO.out, by have h1 := PKL.out; have h2 := WO.out.2.1; omega, WO.out.2.2, PII.out.park (q := ⟨(11 + (pkW y.1.g 8 : Int), 1), ga, c3, az⟩) HNG.out GU.out NW.out HLP.out HAL.out, by rw [List.length_append]; have := PL.out; simp; omega, PM.out, PR.out⟩⟩
                    case measure =>
                      show 400 - ((k : Int) + 1).toNat < 400 - (k : Int).toNat
                      have := HL.out
                      omega
                · as_aux_lemma =>
                    have hzp : (zl.length : Int) > 0 := by have := List.length_pos_iff.2 hz0; omega
                    have HZ0 := hide hz0
                    clear hz0
                    have ng0 : V7.cell? ⟨V1.heap.size, 0, none⟩ = some (.int .u32 (11 + (pkW y.1.g 8 : Int))) := by simp [Lib.cell_of_heap NG.out]
                    have ng1 : V7.cell? ⟨V1.heap.size, 1, none⟩ = some (.int .u32 1) := by simp [Lib.cell_of_heap NG.out]
                    go_wp2_with fail
                    clear ng0 ng1
                    refine (park_ready (cap := c3) (az := az) TW.out.s1 (by have h1 := WO.out.2.1; have h2 := HL.out.2; omega) TW.out.sa AI.out XA.out (by have := HAL.out; omega) (gr := (11 + (pkW y.1.g 8 : Int), 1)) GU.out.1 GU.out.2 (by rw [AK.out]) (by rw [AK.out]; exact HZ0.out)).mono ?_
                    rintro e V10 ⟨rfl, hb⟩
                    have hc9 := Ch.of_below (Q := fun _ => False) hb
                    have TW := hide (TW.out.quiet (hc9))
                    have PM := hide (PM.out.quiet (hc9))
                    have PR := hide (Row.ch PR.out (hc9) (fun _ _ h => h))
                    have NG := hide ((hc9).box NG.out (fun h => h))
                    have RA := hide (Row.ch RA.out (hc9) (fun _ _ h => h))
                    have RZ := hide (Row.ch RZ.out (hc9) (fun _ _ h => h))
                    clear hb hc9
                    obtain ⟨t0, t1, t2, t3, ug, ut, uc, -, -⟩ := HT.out V10 TW.out.bl
                    rw [HRN.out] at t3
                    have UT := hide ut
                    have zl1 : 0 < zl.length := List.length_pos_iff.2 HZ0.out
                    go_wp2_with fail
                    clear t0 t1 t2 t3 ug ut uc
                    refine (picks_is UT.out (n := zl.length) zl1 (by have := ZLEN.out; omega) _).mono ?_
                    rintro e wp ⟨rfl, hw⟩
                    rw [hw]
                    clear hw wp
                    have hpk := pkW_lt y.1.t zl1
                    obtain ⟨pk, hpke⟩ : ∃ z, pkW y.1.t zl.length = z := ⟨_, rfl⟩
                    rw [hpke] at hpk ⊢
                    obtain ⟨gz, hgz, kz⟩ := row_cells RZ.out inF_len (Ch.refl _ _) hpk
                    subst hgz
                    obtain ⟨z, hzz⟩ : ∃ z, zl[pk] = z := ⟨_, rfl⟩
                    rw [hzz] at kz
                    have z0 := kz 0 _ rfl
                    simp only [Nat.mul_one, Nat.add_zero] at z0
                    have hzm : z ∈ zl := by rw [← hzz]; exact List.getElem_mem hpk
                    have HZM := hide hzm
                    have hmem := hzm
                    rw [← HZL.out] at hmem
                    obtain ⟨m, hm, hzm2, hnx, hrd⟩ := idxA_mem hmem
                    rw [Nat.zero_add] at hzm2
                    subst hzm2
                    obtain ⟨x, hxe⟩ : ∃ x, az[z] = x := ⟨_, rfl⟩
                    rw [hxe] at hnx hrd
                    have HM := hide hm
                    have HXE := hide (show az[z]'(HM.out) = x from hxe)
                    have HXM := hide (show x ∈ az from by rw [← hxe]; exact List.getElem_mem hm)
                    obtain ⟨kx, hkx⟩ := HFK.out x HXM.out
                    have HKX := hide hkx
                    have HRD := hide hrd
                    have HNX1 := hide hnx
                    have XU := hide (XA.out x HXM.out)
                    have hp0 : (0 : Int) ≤ (pk : Int) := by omega
                    have hp1 : (pk : Int) < (zl.length : Int) := by omega
                    clear hm hxe hkx hrd hnx hmem hzm hzz kz hpke hpk zl1
                    cases hsd : x.sd with
                    | true =>
                      have HSD := hide hsd
                      clear hsd
                      have ng0 : V10.cell? ⟨V1.heap.size, 0, none⟩ = some (.int .u32 (11 + (pkW y.1.g 8 : Int))) := by simp [Lib.cell_of_heap NG.out]
                      have ng1 : V10.cell? ⟨V1.heap.size, 1, none⟩ = some (.int .u32 1) := by simp [Lib.cell_of_heap NG.out]
                      go_wp2_with fail
                      clear ng0 ng1
                      clear z0
                      obtain ⟨gp3, hai, -⟩ := ArmsIn.of_row RA.out
                      have AI := hide hai
                      clear hai
                      refine (take_send (cap := c3) (az := az) TW.out.s1 (by have h1 := WO.out.2.1; have h2 := HL.out.2; omega) TW.out.sa AI.out XA.out (by have := HAL.out; omega) (gr := (11 + (pkW y.1.g 8 : Int), 1)) GU.out.1 GU.out.2 (i := (z : Int)) WO.out.1 (by rw [AK.out]) (m := z) HM.out rfl (by rw [AK.out]; exact inN_mem HZM.out) (x := x) HXE.out HSD.out HNX1.out HKX.out).mono ?_
                      rintro e V11 ⟨sv1, rfl, ha⟩
                      have ST := hide (snd_st (k := kx) (g := (11 + (pkW y.1.g 8 : Int), 1)) (v := x.v) WO.out.1 GU.out.1 GU.out.2 XU.out.v0 XU.out.v1 XU.out.v2)
                      have RDY := hide (snd_rdy (v := x.v) (g := (11 + (pkW y.1.g 8 : Int), 1)) HKX.out HSD.out HRD.out)
                      obtain ⟨psn, hwk, hpin, hpln⟩ := snd_wk PII.out (x := kx) (g := (11 + (pkW y.1.g 8 : Int), 1)) (v := x.v) RDY.out.1
                      rw [(fnk_some HKX.out).2] at hwk
                      obtain ⟨R, hR⟩ : ∃ z, sndK l kx (11 + (pkW y.1.g 8 : Int), 1) x.v = z := ⟨_, rfl⟩
                      rw [hR] at ha ST RDY hwk hpin ⊢
                      clear hR
                      obtain ⟨dd, l1, k1⟩ := R
                      simp only at ha ST RDY hwk hpin ⊢
                      obtain ⟨df, dv, dok, dwk⟩ := dd
                      obtain rfl : dok = false := RDY.out.2
                      obtain ⟨⟨G3, hs9, hg9⟩, hrow, hch⟩ := ha
                      have PM := hide (PM.out.keep TW.out.s1 hch)
                      have PR := hide (TW.out.s1.kr hch (by decide) PR.out)
                      have NG := hide (TW.out.s1.keep hch NG.out (by decide))
                      have RA := hide (TW.out.s1.kr hch (by decide) RA.out)
                      have RZ := hide (TW.out.s1.kr hch (by decide) RZ.out)
                      have TW := hide (TW.out.one hch hs9)
                      clear hs9 hch
                      have R1 := hide hrow
                      have HWK := hide hwk
                      have PIN := hide hpin
                      have PLN := hide hpln
                      have DWL := hide (show dwk.length ≤ 1 from ST.out.2.2.2)
                      have LENL := hide (show l1.length ≤ 100000 from by have h0 := ST.out.2.1; have h1 := WO.out.2.1; have h2 := HL.out.2; omega)
                      obtain ⟨a5, c5, hsv1, -, -⟩ := hrow.form
                      obtain ⟨nv, hnv⟩ : ∃ z, dwk.length = z := ⟨_, rfl⟩
                      have nv1 : ¬ (nv : Int) > 1 := by have := DWL.out; omega
                      rw [hnv] at hsv1
                      subst hsv1
                      have HNV := hide hnv
                      clear hrow hg9 hwk hpin hpln hnv
                      obtain ⟨V12, hV12⟩ : ∃ z, V11.alloc (.cells #[.int .i64 df, .int .i64 dv.n, .int .u32 dv.s, .int .u32 dv.g, .bool false, .slice a5 nv c5] 72) = z := ⟨_, rfl⟩
                      have NX := hide (show V12.heap[V11.heap.size]? = some (.cells #[.int .i64 df, .int .i64 dv.n, .int .u32 dv.s, .int .u32 dv.g, .bool false, .slice a5 nv c5] 72 (0, 0)) by rw [← hV12]; exact heap_new _ _)
                      have cA : Ch (fun _ => False) V11 V12 := by rw [← hV12]; exact Ch.alloc _ _
                      have TW := hide (TW.out.quiet (cA))
                      have PM := hide (PM.out.quiet (cA))
                      have PR := hide (Row.ch PR.out (cA) (fun _ _ h => h))
                      have NG := hide ((cA).box NG.out (fun h => h))
                      have RA := hide (Row.ch RA.out (cA) (fun _ _ h => h))
                      have RZ := hide (Row.ch RZ.out (cA) (fun _ _ h => h))
                      have R1 := hide (Row.ch R1.out (cA) (fun _ _ h => h))
                      have HV12 := hide hV12
                      clear cA hV12
                      have nx0 : (V11.alloc (.cells #[.int .i64 df, .int .i64 dv.n, .int .u32 dv.s, .int .u32 dv.g, .bool false, .slice a5 nv c5] 72)).cell? ⟨V11.heap.size, 0, none⟩ = some (.int .i64 df) := by rw [HV12.out]; simp [Lib.cell_of_heap NX.out]
                      have nx1 : (V11.alloc (.cells #[.int .i64 df, .int .i64 dv.n, .int .u32 dv.s, .int .u32 dv.g, .bool false, .slice a5 nv c5] 72)).cell? ⟨V11.heap.size, 1, none⟩ = some (.int .i64 dv.n) := by rw [HV12.out]; simp [Lib.cell_of_heap NX.out]
                      have nx2 : (V11.alloc (.cells #[.int .i64 df, .int .i64 dv.n, .int .u32 dv.s, .int .u32 dv.g, .bool false, .slice a5 nv c5] 72)).cell? ⟨V11.heap.size, 2, none⟩ = some (.int .u32 dv.s) := by rw [HV12.out]; simp [Lib.cell_of_heap NX.out]
                      have nx3 : (V11.alloc (.cells #[.int .i64 df, .int .i64 dv.n, .int .u32 dv.s, .int .u32 dv.g, .bool false, .slice a5 nv c5] 72)).cell? ⟨V11.heap.size, 3, none⟩ = some (.int .u32 dv.g) := by rw [HV12.out]; simp [Lib.cell_of_heap NX.out]
                      have nx4 : (V11.alloc (.cells #[.int .i64 df, .int .i64 dv.n, .int .u32 dv.s, .int .u32 dv.g, .bool false, .slice a5 nv c5] 72)).cell? ⟨V11.heap.size, 4, none⟩ = some (.bool false) := by rw [HV12.out]; simp [Lib.cell_of_heap NX.out]
                      have nx5 : (V11.alloc (.cells #[.int .i64 df, .int .i64 dv.n, .int .u32 dv.s, .int .u32 dv.g, .bool false, .slice a5 nv c5] 72)).cell? ⟨V11.heap.size, 5, none⟩ = some (.slice a5 nv c5) := by rw [HV12.out]; simp [Lib.cell_of_heap NX.out]
                      obtain ⟨ga, hga, kga⟩ := row_cells RA.out amF_len (Ch.refl _ _) HM.out
                      subst hga
                      rw [HXE.out] at kga
                      have x2 := kga 2 _ rfl
                      rw [HSD.out, ← HV12.out] at x2
                      have hf1 : (df == 1) = false := by have := RDY.out.1; simpa using this
                      have zi0 : (0 : Int) ≤ (z : Int) := by omega
                      have zi1 : (z : Int) < (az.length : Int) := by have := HM.out; omega
                      clear kga
                      go_wp2_with fail
                      rw [HV12.out]
                      clear nx0 nx1 nx2 nx3 nx4 nx5
                      clear x2
                      refine wp_reg (fun _ => False) (R := fun V => Ch (fun _ => False) V12 V) (by kernel_rfl) (Ch.drew _) (fun V cV zk => ?_)
                      have TW := hide (TW.out.quiet (cV))
                      have PM := hide (PM.out.quiet (cV))
                      have PR := hide (Row.ch PR.out (cV) (fun _ _ h => h))
                      have NG := hide ((cV).box NG.out (fun h => h))
                      have NX := hide ((cV).box NX.out (fun h => h))
                      have RA := hide (Row.ch RA.out (cV) (fun _ _ h => h))
                      have RZ := hide (Row.ch RZ.out (cV) (fun _ _ h => h))
                      have R1 := hide (Row.ch R1.out (cV) (fun _ _ h => h))
                      clear cV
                      have HXX := hide (fun wq (kq : Ch (fun _ => False) V wq) => show (wq.cell? ⟨V11.heap.size, 0, none⟩ = some (.int .i64 df) ∧ wq.cell? ⟨V11.heap.size, 1, none⟩ = some (.int .i64 dv.n) ∧ wq.cell? ⟨V11.heap.size, 2, none⟩ = some (.int .u32 dv.s) ∧ wq.cell? ⟨V11.heap.size, 3, none⟩ = some (.int .u32 dv.g) ∧ wq.cell? ⟨V11.heap.size, 4, none⟩ = some (.bool false) ∧ wq.cell? ⟨V11.heap.size, 5, none⟩ = some (.slice a5 nv c5)) ∧ wq.cell? ⟨ga, z * 6, none⟩ = some (.int .u32 x.h.1) ∧ wq.cell? ⟨ga, z * 6 + 1, none⟩ = some (.int .u32 x.h.2) ∧ wq.cell? ⟨ga, z * 6 + 2, none⟩ = some (.bool true) ∧ wq.cell? ⟨ga, z * 6 + 3, none⟩ = some (.int .i64 x.v.n) ∧ wq.cell? ⟨ga, z * 6 + 4, none⟩ = some (.int .u32 x.v.s) ∧ wq.cell? ⟨ga, z * 6 + 5, none⟩ = some (.int .u32 x.v.g) from by
                        have e0 := Lib.cell_of_heap (kq.box NX.out (fun h => h))
                        obtain ⟨ga9, hga9, k9⟩ := row_cells RA.out amF_len kq HM.out
                        cases hga9
                        rw [HXE.out] at k9
                        have k2 := k9 2 _ rfl
                        rw [HSD.out] at k2
                        exact ⟨⟨by simp [e0], by simp [e0], by simp [e0], by simp [e0], by simp [e0], by simp [e0]⟩, k9 0 _ rfl, k9 1 _ rfl, k2, k9 3 _ rfl, k9 4 _ rfl, k9 5 _ rfl⟩)
                      apply tk 0 ozb0 rfl (by kernel_rfl) (fun _ _ _ h => h) zk
                      · intro wq zq
                        go_simp
                        try rfl
                      go_frame
                      apply tk 1 ozb1 rfl (by kernel_rfl) (fun _ _ _ h => h) zk
                      · intro wq zq
                        go_simp
                        try rfl
                      go_frame
                      apply tk 2 ozb2 rfl (by kernel_rfl) (fun _ _ _ h => h) zk
                      · intro wq zq
                        obtain ⟨⟨s0, s1, s2, s3, s4, s5⟩, s6, s7, s8, s9, s10, s11⟩ := HXX.out _ zq
                        go_simp
                        try rfl
                      go_frame
                      apply tk 3 ozb3 rfl (by kernel_rfl) (fun _ _ _ h => h) zk
                      · intro wq zq
                        go_simp
                        try rfl
                      go_frame
                      apply tk 4 ozb4 rfl (by kernel_rfl) (fun _ _ _ h => h) zk
                      · intro wq zq
                        go_simp
                        try rfl
                      go_frame
                      apply tk 5 ozb5 rfl (by kernel_rfl) (fun _ _ _ h => h) zk
                      · intro wq zq
                        go_simp
                        try rfl
                      go_frame
                      apply tk 6 ozb6 rfl (by kernel_rfl) (fun _ _ _ h => h) zk
                      · intro wq zq
                        go_simp
                        try rfl
                      go_frame
                      apply tk 7 ozb7 rfl (by kernel_rfl) (fun _ _ _ h => h) zk
                      · intro wq zq
                        obtain ⟨⟨s0, s1, s2, s3, s4, s5⟩, s6, s7, s8, s9, s10, s11⟩ := HXX.out _ zq
                        go_simp
                        try rfl
                      go_frame
                      apply tk 8 ozb8 rfl (by kernel_rfl) (fun _ _ _ h => h) zk
                      · intro wq zq
                        go_simp
                        try rfl
                      go_frame
                      apply tk 9 ozb9 rfl (by kernel_rfl) (fun _ _ _ h => h) zk
                      · intro wq zq
                        go_simp
                        try rfl
                      go_frame
                      apply tk 10 ozb10 rfl (by kernel_rfl) (fun _ _ _ h => h) zk
                      · intro wq zq
                        go_simp
                        try rfl
                      go_frame
                      apply tk 11 ozb11 rfl (by kernel_rfl) (fun _ _ _ h => h) zk
                      · intro wq zq
                        go_simp
                        try rfl
                      go_frame
                      apply tk 12 ozb12 rfl (by kernel_rfl) (fun _ _ _ h => h) zk
                      · intro wq zq
                        obtain ⟨⟨s0, s1, s2, s3, s4, s5⟩, s6, s7, s8, s9, s10, s11⟩ := HXX.out _ zq
                        go_simp
                        try rfl
                      go_frame
                      apply tk 13 ozb13 rfl (by kernel_rfl) (fun _ _ _ h => h) zk
                      · intro wq zq
                        go_simp
                        try rfl
                      go_frame
                      apply tk 14 ozb14 rfl (by kernel_rfl) (fun _ _ _ h => h) zk
                      · intro wq zq
                        go_simp
                        try rfl
                      go_frame
                      apply tk 15 ozb15 rfl (by kernel_rfl) (fun _ _ _ h => h) zk
                      · intro wq zq
                        go_simp
                        try rfl
                      go_frame
                      apply tk 16 ozb16 rfl (by kernel_rfl) (fun _ _ _ h => h) zk
                      · intro wq zq
                        go_simp
                        try rfl
                      go_frame
                      apply tk 17 ozb17 rfl (by kernel_rfl) (fun _ _ _ h => h) zk
                      · intro wq zq
                        obtain ⟨⟨s0, s1, s2, s3, s4, s5⟩, s6, s7, s8, s9, s10, s11⟩ := HXX.out _ zq
                        go_simp
                        try rfl
                      go_frame
                      obtain ⟨FW, hpw, -, -⟩ := TW.out.s1.book
                      refine Go.Proofs.Ytbblmbbpicinlaa.rd 18 ozb18 rfl (by kernel_rfl) fun K hK => ?_
                      go_simp
                      refine (woken_is (B0 := w.heap.size) (B1 := 0) (sent := true) (v := x.v) (h0 := x.h) (d := ⟨df, dv, false, dwk⟩) (dv := .slice a5 nv c5) (face.ch hpw zk (fun _ _ h => h)) LENL.out (Row.ch PR.out zk (fun _ _ h => h)) (Nat.le_trans TW.out.bl.size zk.size) (rowLow (Row.ch R1.out zk (fun _ _ h => h)) (Nat.zero_le _)) HWK.out (PM.out.quiet zk) (fun q hq => (PII.out.rg q hq).2.2.2) (by have h1 := PL.out; have h2 := HL.out.2; omega) (show dwk.length ≤ 1000000 from Nat.le_trans DWL.out (by decide))).mono ?_
                      rintro e V13 ⟨lv9, rfl, hpr9, hbw⟩
                      have ZW := hide (zk.trans (Ch.of_below (Q := fun _ => False) hbw) (fun _ _ h => h))
                      have PR9 := hide hpr9
                      clear hbw hpr9
                      go_wp2_with fail
                      refine hK.out _ _ ?_ (fun zk => ?_)
                      · exact ZW.out
                      clear hK K
                      try go_frame
                      apply tk 19 ozb19 rfl (by kernel_rfl) (fun _ _ _ h => h) zk
                      · intro wq zq
                        go_simp
                        try rfl
                      go_frame
                      apply tk 20 ozb20 rfl (by kernel_rfl) (fun _ _ _ h => h) zk
                      · intro wq zq
                        go_simp
                        try rfl
                      go_frame
                      apply tk 21 ozb21 rfl (by kernel_rfl) (fun _ _ _ h => h) zk
                      · intro wq zq
                        go_simp
                        try rfl
                      go_frame
                      apply tk 22 ozb22 rfl (by kernel_rfl) (fun _ _ _ h => h) zk
                      · intro wq zq
                        go_simp
                        try rfl
                      go_frame
                      apply tk 23 ozb23 rfl (by kernel_rfl) (fun _ _ _ h => h) zk
                      · intro wq zq
                        go_simp
                        try rfl
                      go_frame
                      refine wpAnyH_done (by kernel_rfl) ?_ _
                      have PM := hide (fun q (hq : q ∈ psn) => PM.out q (HWK.out.sub q hq))
                      clear hpw HXX
                      have PM := hide (show PaM V psn from PM.out)
                      have TW := hide (TW.out.quiet (zk))
                      have PM := hide (PM.out.quiet (zk))
                      have PR := hide (Row.ch PR.out (zk) (fun _ _ h => h))
                      have NG := hide ((zk).box NG.out (fun h => h))
                      have NX := hide ((zk).box NX.out (fun h => h))
                      have RA := hide (Row.ch RA.out (zk) (fun _ _ h => h))
                      have RZ := hide (Row.ch RZ.out (zk) (fun _ _ h => h))
                      have R1 := hide (Row.ch R1.out (zk) (fun _ _ h => h))
                      have PR := hide (show PaRow V13 w.heap.size lv9 psn from PR9.out)
                      clear zk ZW PR9
                      have nx0 : V13.cell? ⟨V11.heap.size, 0, none⟩ = some (.int .i64 df) := by simp [Lib.cell_of_heap NX.out]
                      have nx1 : V13.cell? ⟨V11.heap.size, 1, none⟩ = some (.int .i64 dv.n) := by simp [Lib.cell_of_heap NX.out]
                      have nx2 : V13.cell? ⟨V11.heap.size, 2, none⟩ = some (.int .u32 dv.s) := by simp [Lib.cell_of_heap NX.out]
                      have nx3 : V13.cell? ⟨V11.heap.size, 3, none⟩ = some (.int .u32 dv.g) := by simp [Lib.cell_of_heap NX.out]
                      have nx4 : V13.cell? ⟨V11.heap.size, 4, none⟩ = some (.bool false) := by simp [Lib.cell_of_heap NX.out]
                      have nx5 : V13.cell? ⟨V11.heap.size, 5, none⟩ = some (.slice a5 nv c5) := by simp [Lib.cell_of_heap NX.out]
                      go_wp2_with fail
                      clear nx0 nx1 nx2 nx3 nx4 nx5
                      refine ⟨?rel, ?measure⟩
                      case rel => exact ⟨k + 1, HL.out.1, HL.out.2, rfl, hide ⟨_, _, _, psn, TW.out, ST.out.1, by have h1 := ST.out.2.1; have h2 := WO.out.2.1; omega, WO.out.2.2.set _, PIN.out, by have h1 := PLN.out; have h2 := PL.out; omega, PM.out, PR.out⟩⟩
                      case measure =>
                        show 400 - ((k : Int) + 1).toNat < 400 - (k : Int).toNat
                        have := HL.out
                        omega
                    | false =>
                      have HSD := hide hsd
                      clear hsd
                      have ng0 : V10.cell? ⟨V1.heap.size, 0, none⟩ = some (.int .u32 (11 + (pkW y.1.g 8 : Int))) := by simp [Lib.cell_of_heap NG.out]
                      have ng1 : V10.cell? ⟨V1.heap.size, 1, none⟩ = some (.int .u32 1) := by simp [Lib.cell_of_heap NG.out]
                      go_wp2_with fail
                      clear ng0 ng1
                      clear z0
                      obtain ⟨gp3, hai, -⟩ := ArmsIn.of_row RA.out
                      have AI := hide hai
                      clear hai
                      refine (take_recv (cap := c3) (az := az) TW.out.s1 (by have h1 := WO.out.2.1; have h2 := HL.out.2; omega) TW.out.sa AI.out XA.out (by have := HAL.out; omega) (gr := (11 + (pkW y.1.g 8 : Int), 1)) GU.out.1 GU.out.2 (i := (z : Int)) WO.out.1 (by rw [AK.out]) (m := z) HM.out rfl (by rw [AK.out]; exact inN_mem HZM.out) (x := x) HXE.out HSD.out HNX1.out HKX.out).mono ?_
                      rintro e V14 ⟨sv1, rfl, ha⟩
                      have ST := hide (rcv_st (k := kx) (g := (11 + (pkW y.1.g 8 : Int), 1)) WO.out.1 GU.out.1 GU.out.2)
                      have RDY := hide (rcv_rdy (g := (11 + (pkW y.1.g 8 : Int), 1)) HKX.out HSD.out HRD.out)
                      obtain ⟨psn, hwk, hpin, hpln⟩ := rcv_wk PII.out (x := kx) (g := (11 + (pkW y.1.g 8 : Int), 1)) (v := x.v) RDY.out
                      rw [(fnk_some HKX.out).2] at hwk
                      obtain ⟨R, hR⟩ : ∃ z, rcvK l kx (11 + (pkW y.1.g 8 : Int), 1) = z := ⟨_, rfl⟩
                      rw [hR] at ha ST RDY hwk hpin ⊢
                      clear hR
                      obtain ⟨dd, l1, k1⟩ := R
                      simp only at ha ST RDY hwk hpin ⊢
                      obtain ⟨⟨G3, hs9, hg9⟩, hrow, hch⟩ := ha
                      have PM := hide (PM.out.keep TW.out.s1 hch)
                      have PR := hide (TW.out.s1.kr hch (by decide) PR.out)
                      have NG := hide (TW.out.s1.keep hch NG.out (by decide))
                      have RA := hide (TW.out.s1.kr hch (by decide) RA.out)
                      have RZ := hide (TW.out.s1.kr hch (by decide) RZ.out)
                      have TW := hide (TW.out.one hch hs9)
                      clear hs9 hch
                      have R1 := hide hrow
                      have HWK := hide hwk
                      have PIN := hide hpin
                      have PLN := hide hpln
                      have DWL := hide (show dd.wk.length ≤ 1 from ST.out.2.2.2)
                      have LENL := hide (show l1.length ≤ 100000 from by have h0 := ST.out.2.1; have h1 := WO.out.2.1; have h2 := HL.out.2; omega)
                      obtain ⟨a5, c5, hsv1, -, -⟩ := hrow.form
                      obtain ⟨nv, hnv⟩ : ∃ z, dd.wk.length = z := ⟨_, rfl⟩
                      have nv1 : ¬ (nv : Int) > 1 := by have := DWL.out; omega
                      rw [hnv] at hsv1
                      subst hsv1
                      have HNV := hide hnv
                      clear hrow hg9 hwk hpin hpln hnv
                      obtain ⟨V15, hV15⟩ : ∃ z, V14.alloc (.cells #[.int .i64 dd.f, .int .i64 dd.v.n, .int .u32 dd.v.s, .int .u32 dd.v.g, .bool dd.ok, .slice a5 nv c5] 72) = z := ⟨_, rfl⟩
                      have NX := hide (show V15.heap[V14.heap.size]? = some (.cells #[.int .i64 dd.f, .int .i64 dd.v.n, .int .u32 dd.v.s, .int .u32 dd.v.g, .bool dd.ok, .slice a5 nv c5] 72 (0, 0)) by rw [← hV15]; exact heap_new _ _)
                      have cA : Ch (fun _ => False) V14 V15 := by rw [← hV15]; exact Ch.alloc _ _
                      have TW := hide (TW.out.quiet (cA))
                      have PM := hide (PM.out.quiet (cA))
                      have PR := hide (Row.ch PR.out (cA) (fun _ _ h => h))
                      have NG := hide ((cA).box NG.out (fun h => h))
                      have RA := hide (Row.ch RA.out (cA) (fun _ _ h => h))
                      have RZ := hide (Row.ch RZ.out (cA) (fun _ _ h => h))
                      have R1 := hide (Row.ch R1.out (cA) (fun _ _ h => h))
                      have HV15 := hide hV15
                      clear cA hV15
                      have nx0 : (V14.alloc (.cells #[.int .i64 dd.f, .int .i64 dd.v.n, .int .u32 dd.v.s, .int .u32 dd.v.g, .bool dd.ok, .slice a5 nv c5] 72)).cell? ⟨V14.heap.size, 0, none⟩ = some (.int .i64 dd.f) := by rw [HV15.out]; simp [Lib.cell_of_heap NX.out]
                      have nx1 : (V14.alloc (.cells #[.int .i64 dd.f, .int .i64 dd.v.n, .int .u32 dd.v.s, .int .u32 dd.v.g, .bool dd.ok, .slice a5 nv c5] 72)).cell? ⟨V14.heap.size, 1, none⟩ = some (.int .i64 dd.v.n) := by rw [HV15.out]; simp [Lib.cell_of_heap NX.out]
                      have nx2 : (V14.alloc (.cells #[.int .i64 dd.f, .int .i64 dd.v.n, .int .u32 dd.v.s, .int .u32 dd.v.g, .bool dd.ok, .slice a5 nv c5] 72)).cell? ⟨V14.heap.size, 2, none⟩ = some (.int .u32 dd.v.s) := by rw [HV15.out]; simp [Lib.cell_of_heap NX.out]
                      have nx3 : (V14.alloc (.cells #[.int .i64 dd.f, .int .i64 dd.v.n, .int .u32 dd.v.s, .int .u32 dd.v.g, .bool dd.ok, .slice a5 nv c5] 72)).cell? ⟨V14.heap.size, 3, none⟩ = some (.int .u32 dd.v.g) := by rw [HV15.out]; simp [Lib.cell_of_heap NX.out]
                      have nx4 : (V14.alloc (.cells #[.int .i64 dd.f, .int .i64 dd.v.n, .int .u32 dd.v.s, .int .u32 dd.v.g, .bool dd.ok, .slice a5 nv c5] 72)).cell? ⟨V14.heap.size, 4, none⟩ = some (.bool dd.ok) := by rw [HV15.out]; simp [Lib.cell_of_heap NX.out]
                      have nx5 : (V14.alloc (.cells #[.int .i64 dd.f, .int .i64 dd.v.n, .int .u32 dd.v.s, .int .u32 dd.v.g, .bool dd.ok, .slice a5 nv c5] 72)).cell? ⟨V14.heap.size, 5, none⟩ = some (.slice a5 nv c5) := by rw [HV15.out]; simp [Lib.cell_of_heap NX.out]
                      obtain ⟨ga, hga, kga⟩ := row_cells RA.out amF_len (Ch.refl _ _) HM.out
                      subst hga
                      rw [HXE.out] at kga
                      have x2 := kga 2 _ rfl
                      rw [HSD.out, ← HV15.out] at x2
                      have hf1 : (dd.f == 1) = false := by have := RDY.out; simpa using this
                      have zi0 : (0 : Int) ≤ (z : Int) := by omega
                      have zi1 : (z : Int) < (az.length : Int) := by have := HM.out; omega
                      clear kga
                      go_wp2_with fail
                      rw [HV15.out]
                      clear nx0 nx1 nx2 nx3 nx4 nx5
                      clear x2
                      refine wp_reg (fun _ => False) (R := fun V => Ch (fun _ => False) V15 V) (by kernel_rfl) (Ch.drew _) (fun V cV zk => ?_)
                      have TW := hide (TW.out.quiet (cV))
                      have PM := hide (PM.out.quiet (cV))
                      have PR := hide (Row.ch PR.out (cV) (fun _ _ h => h))
                      have NG := hide ((cV).box NG.out (fun h => h))
                      have NX := hide ((cV).box NX.out (fun h => h))
                      have RA := hide (Row.ch RA.out (cV) (fun _ _ h => h))
                      have RZ := hide (Row.ch RZ.out (cV) (fun _ _ h => h))
                      have R1 := hide (Row.ch R1.out (cV) (fun _ _ h => h))
                      clear cV
                      have HXX := hide (fun wq (kq : Ch (fun _ => False) V wq) => show (wq.cell? ⟨V14.heap.size, 0, none⟩ = some (.int .i64 dd.f) ∧ wq.cell? ⟨V14.heap.size, 1, none⟩ = some (.int .i64 dd.v.n) ∧ wq.cell? ⟨V14.heap.size, 2, none⟩ = some (.int .u32 dd.v.s) ∧ wq.cell? ⟨V14.heap.size, 3, none⟩ = some (.int .u32 dd.v.g) ∧ wq.cell? ⟨V14.heap.size, 4, none⟩ = some (.bool dd.ok) ∧ wq.cell? ⟨V14.heap.size, 5, none⟩ = some (.slice a5 nv c5)) ∧ wq.cell? ⟨ga, z * 6, none⟩ = some (.int .u32 x.h.1) ∧ wq.cell? ⟨ga, z * 6 + 1, none⟩ = some (.int .u32 x.h.2) ∧ wq.cell? ⟨ga, z * 6 + 2, none⟩ = some (.bool false) ∧ wq.cell? ⟨ga, z * 6 + 3, none⟩ = some (.int .i64 x.v.n) ∧ wq.cell? ⟨ga, z * 6 + 4, none⟩ = some (.int .u32 x.v.s) ∧ wq.cell? ⟨ga, z * 6 + 5, none⟩ = some (.int .u32 x.v.g) from by
                        have e0 := Lib.cell_of_heap (kq.box NX.out (fun h => h))
                        obtain ⟨ga9, hga9, k9⟩ := row_cells RA.out amF_len kq HM.out
                        cases hga9
                        rw [HXE.out] at k9
                        have k2 := k9 2 _ rfl
                        rw [HSD.out] at k2
                        exact ⟨⟨by simp [e0], by simp [e0], by simp [e0], by simp [e0], by simp [e0], by simp [e0]⟩, k9 0 _ rfl, k9 1 _ rfl, k2, k9 3 _ rfl, k9 4 _ rfl, k9 5 _ rfl⟩)
                      apply tk 0 ozb0 rfl (by kernel_rfl) (fun _ _ _ h => h) zk
                      · intro wq zq
                        go_simp
                        try rfl
                      go_frame
                      apply tk 1 ozb1 rfl (by kernel_rfl) (fun _ _ _ h => h) zk
                      · intro wq zq
                        go_simp
                        try rfl
                      go_frame
                      apply tk 2 ozb2 rfl (by kernel_rfl) (fun _ _ _ h => h) zk
                      · intro wq zq
                        obtain ⟨⟨s0, s1, s2, s3, s4, s5⟩, s6, s7, s8, s9, s10, s11⟩ := HXX.out _ zq
                        go_simp
                        try rfl
                      go_frame
                      apply tk 3 ozb3 rfl (by kernel_rfl) (fun _ _ _ h => h) zk
                      · intro wq zq
                        go_simp
                        try rfl
                      go_frame
                      apply tk 4 ozb4 rfl (by kernel_rfl) (fun _ _ _ h => h) zk
                      · intro wq zq
                        go_simp
                        try rfl
                      go_frame
                      apply tk 5 ozb5 rfl (by kernel_rfl) (fun _ _ _ h => h) zk
                      · intro wq zq
                        go_simp
                        try rfl
                      go_frame
                      apply tk 6 ozb6 rfl (by kernel_rfl) (fun _ _ _ h => h) zk
                      · intro wq zq
                        go_simp
                        try rfl
                      go_frame
                      apply tk 7 ozb7 rfl (by kernel_rfl) (fun _ _ _ h => h) zk
                      · intro wq zq
                        obtain ⟨⟨s0, s1, s2, s3, s4, s5⟩, s6, s7, s8, s9, s10, s11⟩ := HXX.out _ zq
                        go_simp
                        try rfl
                      go_frame
                      apply tk 8 ozb8 rfl (by kernel_rfl) (fun _ _ _ h => h) zk
                      · intro wq zq
                        go_simp
                        try rfl
                      go_frame
                      apply tk 9 ozb9 rfl (by kernel_rfl) (fun _ _ _ h => h) zk
                      · intro wq zq
                        go_simp
                        try rfl
                      go_frame
                      apply tk 10 ozb10 rfl (by kernel_rfl) (fun _ _ _ h => h) zk
                      · intro wq zq
                        go_simp
                        try rfl
                      go_frame
                      apply tk 11 ozb11 rfl (by kernel_rfl) (fun _ _ _ h => h) zk
                      · intro wq zq
                        go_simp
                        try rfl
                      go_frame
                      apply tk 12 ozb12 rfl (by kernel_rfl) (fun _ _ _ h => h) zk
                      · intro wq zq
                        obtain ⟨⟨s0, s1, s2, s3, s4, s5⟩, s6, s7, s8, s9, s10, s11⟩ := HXX.out _ zq
                        go_simp
                        try rfl
                      go_frame
                      apply tk 13 ozb13 rfl (by kernel_rfl) (fun _ _ _ h => h) zk
                      · intro wq zq
                        go_simp
                        try rfl
                      go_frame
                      apply tk 14 ozb14 rfl (by kernel_rfl) (fun _ _ _ h => h) zk
                      · intro wq zq
                        go_simp
                        try rfl
                      go_frame
                      apply tk 15 ozb15 rfl (by kernel_rfl) (fun _ _ _ h => h) zk
                      · intro wq zq
                        go_simp
                        try rfl
                      go_frame
                      apply tk 16 ozb16 rfl (by kernel_rfl) (fun _ _ _ h => h) zk
                      · intro wq zq
                        go_simp
                        try rfl
                      go_frame
                      apply tk 17 ozb17 rfl (by kernel_rfl) (fun _ _ _ h => h) zk
                      · intro wq zq
                        obtain ⟨⟨s0, s1, s2, s3, s4, s5⟩, s6, s7, s8, s9, s10, s11⟩ := HXX.out _ zq
                        go_simp
                        try rfl
                      go_frame
                      obtain ⟨FW, hpw, -, -⟩ := TW.out.s1.book
                      refine Go.Proofs.Ytbblmbbpicinlaa.rd 18 ozb18 rfl (by kernel_rfl) fun K hK => ?_
                      go_simp
                      refine (woken_is (B0 := w.heap.size) (B1 := 0) (sent := false) (v := x.v) (h0 := x.h) (d := dd) (dv := .slice a5 nv c5) (face.ch hpw zk (fun _ _ h => h)) LENL.out (Row.ch PR.out zk (fun _ _ h => h)) (Nat.le_trans TW.out.bl.size zk.size) (rowLow (Row.ch R1.out zk (fun _ _ h => h)) (Nat.zero_le _)) HWK.out (PM.out.quiet zk) (fun q hq => (PII.out.rg q hq).2.2.2) (by have h1 := PL.out; have h2 := HL.out.2; omega) (by have := DWL.out; omega)).mono ?_
                      rintro e V16 ⟨lv9, rfl, hpr9, hbw⟩
                      have ZW := hide (zk.trans (Ch.of_below (Q := fun _ => False) hbw) (fun _ _ h => h))
                      have PR9 := hide hpr9
                      clear hbw hpr9
                      go_wp2_with fail
                      refine hK.out _ _ ?_ (fun zk => ?_)
                      · exact ZW.out
                      clear hK K
                      try go_frame
                      apply tk 19 ozb19 rfl (by kernel_rfl) (fun _ _ _ h => h) zk
                      · intro wq zq
                        go_simp
                        try rfl
                      go_frame
                      apply tk 20 ozb20 rfl (by kernel_rfl) (fun _ _ _ h => h) zk
                      · intro wq zq
                        go_simp
                        try rfl
                      go_frame
                      apply tk 21 ozb21 rfl (by kernel_rfl) (fun _ _ _ h => h) zk
                      · intro wq zq
                        go_simp
                        try rfl
                      go_frame
                      apply tk 22 ozb22 rfl (by kernel_rfl) (fun _ _ _ h => h) zk
                      · intro wq zq
                        go_simp
                        try rfl
                      go_frame
                      apply tk 23 ozb23 rfl (by kernel_rfl) (fun _ _ _ h => h) zk
                      · intro wq zq
                        go_simp
                        try rfl
                      go_frame
                      refine wpAnyH_done (by kernel_rfl) ?_ _
                      have PM := hide (fun q (hq : q ∈ psn) => PM.out q (HWK.out.sub q hq))
                      clear hpw HXX
                      have PM := hide (show PaM V psn from PM.out)
                      have TW := hide (TW.out.quiet (zk))
                      have PM := hide (PM.out.quiet (zk))
                      have PR := hide (Row.ch PR.out (zk) (fun _ _ h => h))
                      have NG := hide ((zk).box NG.out (fun h => h))
                      have NX := hide ((zk).box NX.out (fun h => h))
                      have RA := hide (Row.ch RA.out (zk) (fun _ _ h => h))
                      have RZ := hide (Row.ch RZ.out (zk) (fun _ _ h => h))
                      have R1 := hide (Row.ch R1.out (zk) (fun _ _ h => h))
                      have PR := hide (show PaRow V16 w.heap.size lv9 psn from PR9.out)
                      clear zk ZW PR9
                      have nx0 : V16.cell? ⟨V14.heap.size, 0, none⟩ = some (.int .i64 dd.f) := by simp [Lib.cell_of_heap NX.out]
                      have nx1 : V16.cell? ⟨V14.heap.size, 1, none⟩ = some (.int .i64 dd.v.n) := by simp [Lib.cell_of_heap NX.out]
                      have nx2 : V16.cell? ⟨V14.heap.size, 2, none⟩ = some (.int .u32 dd.v.s) := by simp [Lib.cell_of_heap NX.out]
                      have nx3 : V16.cell? ⟨V14.heap.size, 3, none⟩ = some (.int .u32 dd.v.g) := by simp [Lib.cell_of_heap NX.out]
                      have nx4 : V16.cell? ⟨V14.heap.size, 4, none⟩ = some (.bool dd.ok) := by simp [Lib.cell_of_heap NX.out]
                      have nx5 : V16.cell? ⟨V14.heap.size, 5, none⟩ = some (.slice a5 nv c5) := by simp [Lib.cell_of_heap NX.out]
                      go_wp2_with fail
                      clear nx0 nx1 nx2 nx3 nx4 nx5
                      refine ⟨?rel, ?measure⟩
                      case rel => exact ⟨k + 1, HL.out.1, HL.out.2, rfl, hide ⟨_, _, _, psn, TW.out, ST.out.1, by have h1 := ST.out.2.1; have h2 := WO.out.2.1; omega, WO.out.2.2.set _, PIN.out, by have h1 := PLN.out; have h2 := PL.out; omega, PM.out, PR.out⟩⟩
                      case measure =>
                        show 400 - ((k : Int) + 1).toNat < 400 - (k : Int).toNat
                        have := HL.out
                        omega
          | true =>
            by_cases hz9 : az = []
            · as_aux_lemma =>
                have hla9 : ¬ (az.length : Int) > 0 := by rw [hz9]; simp
                have HZ9 := hide hz9
                clear hz9
                have ng0 : V3.cell? ⟨V1.heap.size, 0, none⟩ = some (.int .u32 (11 + (pkW y.1.g 8 : Int))) := by simp [Lib.cell_of_heap NG.out]
                have ng1 : V3.cell? ⟨V1.heap.size, 1, none⟩ = some (.int .u32 1) := by simp [Lib.cell_of_heap NG.out]
                go_wp2_with fail
                clear t0 t1 t2 t3 ug ut uc hla9
                clear ng0 ng1
                obtain ⟨FA, hpa, -, -⟩ := TW.out.s1.book
                refine (face.of (11 + (pkW y.1.g 8 : Int)) 1 GU.out.1 GU.out.2 hpa (by have h1 := WO.out.2.1; have h2 := HL.out.2; omega)).mono ?_
                rintro e V17 ⟨v4, rfl, hr4, hb⟩
                obtain ⟨a4, c4, rfl, -, -⟩ := hr4.form
                have hc9 := Ch.of_below (Q := fun _ => False) hb
                have TW := hide (TW.out.quiet (hc9))
                have PM := hide (PM.out.quiet (hc9))
                have PR := hide (Row.ch PR.out (hc9) (fun _ _ h => h))
                have NG := hide ((hc9).box NG.out (fun h => h))
                have RA := hide (Row.ch RA.out (hc9) (fun _ _ h => h))
                clear hb hc9 hr4 hpa
                obtain ⟨gp, hai, hgp⟩ := ArmsIn.of_row RA.out
                have AI := hide hai
                clear hai hgp
                by_cases hw : 0 < (sel (isWho (11 + (pkW y.1.g 8 : Int)) 1) l).length
                · have hw2 : ((sel (isWho (11 + (pkW y.1.g 8 : Int)) 1) l).length : Int) > 0 := by omega
                  have hnw : sel (isWho (11 + (pkW y.1.g 8 : Int)) 1) l ≠ [] := fun e => by rw [e] at hw; exact absurd hw (by decide)
                  have HNW := hide hnw
                  clear hw hnw
                  go_wp2_with fail
                  refine (poll_is (cap := c3) (az := az) TW.out.s1 (by have h1 := WO.out.2.1; have h2 := HL.out.2; omega) TW.out.sa AI.out XA.out (by have := HAL.out; omega)).mono ?_
                  rintro e V18 ⟨vz, rfl, hrz, hb⟩
                  rw [pl_ok HFK.out HAL.out] at hrz ⊢
                  obtain ⟨az9, cz, rfl, -, -⟩ := hrz.form
                  have RZ := hide hrz
                  have hc9 := Ch.of_below (Q := fun _ => False) hb
                  have TW := hide (TW.out.quiet (hc9))
                  have PM := hide (PM.out.quiet (hc9))
                  have PR := hide (Row.ch PR.out (hc9) (fun _ _ h => h))
                  have NG := hide ((hc9).box NG.out (fun h => h))
                  have RA := hide (Row.ch RA.out (hc9) (fun _ _ h => h))
                  clear hb hc9 hrz
                  obtain ⟨gp2, hai, hgp⟩ := ArmsIn.of_row RA.out
                  have AI := hide hai
                  have HGP := hide hgp
                  clear hai hgp
                  obtain ⟨zl, hzl9⟩ : ∃ z, idxA l ks 0 az = z := ⟨_, rfl⟩
                  rw [hzl9] at RZ ⊢
                  have HZL := hide hzl9
                  clear hzl9
                  have zlen : zl.length ≤ 50 := by have h1 := idxA_len l ks 0 az; have h2 := HAL.out; rw [HZL.out] at h1; omega
                  have ZLEN := hide zlen
                  clear zlen
                  have ng0 : V18.cell? ⟨V1.heap.size, 0, none⟩ = some (.int .u32 (11 + (pkW y.1.g 8 : Int))) := by simp [Lib.cell_of_heap NG.out]
                  have ng1 : V18.cell? ⟨V1.heap.size, 1, none⟩ = some (.int .u32 1) := by simp [Lib.cell_of_heap NG.out]
                  go_wp2_with fail
                  clear ng0 ng1
                  refine (park_err (cap := c3) (az := az) TW.out.s1 (by have h1 := WO.out.2.1; have h2 := HL.out.2; omega) TW.out.sa AI.out XA.out (by have := HAL.out; omega) (gr := (11 + (pkW y.1.g 8 : Int), 1)) GU.out.1 GU.out.2 (q := 143) (by rw [ak_wait HNG.out HNW.out]) (by decide)).mono ?_
                  rintro e V19 ⟨rfl, hb⟩
                  have hc9 := Ch.of_below (Q := fun _ => False) hb
                  have TW := hide (TW.out.quiet (hc9))
                  have PM := hide (PM.out.quiet (hc9))
                  have PR := hide (Row.ch PR.out (hc9) (fun _ _ h => h))
                  have NG := hide ((hc9).box NG.out (fun h => h))
                  have RA := hide (Row.ch RA.out (hc9) (fun _ _ h => h))
                  have RZ := hide (Row.ch RZ.out (hc9) (fun _ _ h => h))
                  clear hb hc9
                  go_wp2_with fail
                  refine ⟨?rel, ?measure⟩
                  case rel => exact ⟨k + 1, HL.out.1, HL.out.2, rfl, hide ⟨l, ks, _, ps, TW.out, WO.out.1, by have := WO.out.2.1; omega, WO.out.2.2, PII.out, by have := PL.out; omega, PM.out, PR.out⟩⟩
                  case measure =>
                    show 400 - ((k : Int) + 1).toNat < 400 - (k : Int).toNat
                    have := HL.out
                    omega
                · have hw2 : ¬ ((sel (isWho (11 + (pkW y.1.g 8 : Int)) 1) l).length : Int) > 0 := by omega
                  have NW := hide (show sel (isWho (11 + (pkW y.1.g 8 : Int)) 1) l = [] from List.eq_nil_of_length_eq_zero (by omega))
                  clear hw
                  go_wp2_with fail
                  refine (poll_is (cap := c3) (az := az) TW.out.s1 (by have h1 := WO.out.2.1; have h2 := HL.out.2; omega) TW.out.sa AI.out XA.out (by have := HAL.out; omega)).mono ?_
                  rintro e V20 ⟨vz, rfl, hrz, hb⟩
                  rw [pl_ok HFK.out HAL.out] at hrz ⊢
                  obtain ⟨az9, cz, rfl, -, -⟩ := hrz.form
                  have RZ := hide hrz
                  have hc9 := Ch.of_below (Q := fun _ => False) hb
                  have TW := hide (TW.out.quiet (hc9))
                  have PM := hide (PM.out.quiet (hc9))
                  have PR := hide (Row.ch PR.out (hc9) (fun _ _ h => h))
                  have NG := hide ((hc9).box NG.out (fun h => h))
                  have RA := hide (Row.ch RA.out (hc9) (fun _ _ h => h))
                  clear hb hc9 hrz
                  obtain ⟨gp2, hai, hgp⟩ := ArmsIn.of_row RA.out
                  have AI := hide hai
                  have HGP := hide hgp
                  clear hai hgp
                  obtain ⟨zl, hzl9⟩ : ∃ z, idxA l ks 0 az = z := ⟨_, rfl⟩
                  rw [hzl9] at RZ ⊢
                  have HZL := hide hzl9
                  clear hzl9
                  have zlen : zl.length ≤ 50 := by have h1 := idxA_len l ks 0 az; have h2 := HAL.out; rw [HZL.out] at h1; omega
                  have ZLEN := hide zlen
                  clear zlen
                  have AK := hide (show akA l ks (11 + (pkW y.1.g 8 : Int), 1) az = (zl, 0) from by rw [ak_free (gr := (11 + (pkW y.1.g 8 : Int), 1)) HNG.out NW.out HFK.out HAL.out, HZL.out])
                  by_cases hz0 : zl = []
                  · have hzp : ¬ (zl.length : Int) > 0 := by rw [hz0]; simp
                    have HZ0 := hide hz0
                    clear hz0
                    have ng0 : V20.cell? ⟨V1.heap.size, 0, none⟩ = some (.int .u32 (11 + (pkW y.1.g 8 : Int))) := by simp [Lib.cell_of_heap NG.out]
                    have ng1 : V20.cell? ⟨V1.heap.size, 1, none⟩ = some (.int .u32 1) := by simp [Lib.cell_of_heap NG.out]
                    go_wp2_with fail
                    clear ng0 ng1
                    refine (park_go (cap := c3) (az := az) TW.out.s1 (by have h1 := WO.out.2.1; have h2 := HL.out.2; omega) TW.out.sa AI.out XA.out (by have := HAL.out; omega) (gr := (11 + (pkW y.1.g 8 : Int), 1)) GU.out.1 GU.out.2 (fun h0 => by obtain ⟨cur, hcur⟩ := HGP.out h0; exact TW.out.s1.nb hcur (by decide)) (by rw [AK.out]) (by rw [AK.out]; exact HZ0.out)).mono ?_
                    rintro e V21 ⟨rfl, G3, hs9, hg9, hch⟩
                    have PM := hide (PM.out.keep TW.out.s1 hch)
                    have PR := hide (TW.out.s1.kr hch (by decide) PR.out)
                    have NG := hide (TW.out.s1.keep hch NG.out (by decide))
                    have RA := hide (TW.out.s1.kr hch (by decide) RA.out)
                    have RZ := hide (TW.out.s1.kr hch (by decide) RZ.out)
                    have TW := hide (TW.out.one hch hs9)
                    clear hs9 hch
                    clear hg9
                    have PKL := hide (show (pkL (11 + (pkW y.1.g 8 : Int), 1) 0 az l).length ≤ l.length + 50 from Nat.le_trans (pkL_len (11 + (pkW y.1.g 8 : Int), 1) 0 az l) (by have := HAL.out; omega))
                    have PWO := hide (pk_ok (g := (11 + (pkW y.1.g 8 : Int), 1)) (i := 0) GU.out.1 GU.out.2 WO.out.1 XA.out (by have := HAL.out; omega))
                    have ng0 : V21.cell? ⟨V1.heap.size, 0, none⟩ = some (.int .u32 (11 + (pkW y.1.g 8 : Int))) := by simp [Lib.cell_of_heap NG.out]
                    have ng1 : V21.cell? ⟨V1.heap.size, 1, none⟩ = some (.int .u32 1) := by simp [Lib.cell_of_heap NG.out]
                    go_wp2_with fail
                    clear ng0 ng1
                    obtain ⟨FB, hpb, -, -⟩ := TW.out.s1.book
                    refine (face.of (11 + (pkW y.1.g 8 : Int)) 1 GU.out.1 GU.out.2 hpb (by have h0 := PKL.out; have h1 := WO.out.2.1; have h2 := HL.out.2; omega)).mono ?_
                    rintro e V22 ⟨v6, rfl, hr6, hb⟩
                    obtain ⟨a6, c6, rfl, -, -⟩ := hr6.form
                    rw [pk_len (g := (11 + (pkW y.1.g 8 : Int), 1)) HNG.out NW.out]
                    have hc9 := Ch.of_below (Q := fun _ => False) hb
                    have TW := hide (TW.out.quiet (hc9))
                    have PM := hide (PM.out.quiet (hc9))
                    have PR := hide (Row.ch PR.out (hc9) (fun _ _ h => h))
                    have NG := hide ((hc9).box NG.out (fun h => h))
                    have RA := hide (Row.ch RA.out (hc9) (fun _ _ h => h))
                    have RZ := hide (Row.ch RZ.out (hc9) (fun _ _ h => h))
                    clear hb hc9 hr6 hpb
                    have ha0 := HZ9.out
                    have HA0 := hide ha0
                    have hla : ¬ (az.length : Int) > 0 := by rw [ha0]; simp
                    clear ha0
                    go_wp2_with fail
                    refine ⟨?rel, ?measure⟩
                    case rel => exact ⟨k + 1, HL.out.1, HL.out.2, rfl, hide ⟨_, _, _, ps, TW.out, PWO.out, by have h1 := PKL.out; have h2 := WO.out.2.1; omega, WO.out.2.2, by have h := PII.out; rw [HA0.out]; exact h, by have := PL.out; omega, PM.out, PR.out⟩⟩
                    case measure =>
                      show 400 - ((k : Int) + 1).toNat < 400 - (k : Int).toNat
                      have := HL.out
                      omega
                  · exact absurd (show zl = [] from by rw [← HZL.out, HZ9.out]; rfl) hz0
            · as_aux_lemma =>
                have hla9 : (az.length : Int) > 0 := by have := List.length_pos_iff.2 hz9; omega
                have HM := hide (show 0 < az.length from List.length_pos_iff.2 hz9)
                obtain ⟨x, hxe⟩ : ∃ x, az[0]'(HM.out) = x := ⟨_, rfl⟩
                have HXE := hide (show az[0]'(HM.out) = x from hxe)
                have HXM := hide (show x ∈ az from by rw [← hxe]; exact List.getElem_mem _)
                obtain ⟨kx, hkx⟩ := HFK.out x HXM.out
                have HKX := hide hkx
                have XU := hide (XA.out x HXM.out)
                obtain ⟨ga, hga, kga⟩ := row_cells RA.out amF_len (Ch.refl _ _) HM.out
                subst hga
                rw [hxe] at kga
                have x0 := kga 0 _ rfl
                have x1 := kga 1 _ rfl
                simp only [Nat.zero_mul, Nat.zero_add] at x0 x1
                clear hz9 hxe hkx kga
                go_wp2_with fail
                clear t0 t1 t2 t3 ug ut uc x0 x1
                refine (sw_close TW.out.s1 (by have h1 := WO.out.2.1; have h2 := HL.out.2; omega) WO.out.1 HKX.out (HNX.out x HXM.out) XU.out.h1 XU.out.h2).mono ?_
                rintro e V30 ⟨dd, l1, k1, sv1, hk1, rfl, ha⟩
                have ST := hide (cls_st WO.out.1 hk1)
                obtain ⟨psn, hwk, hpin, hpln⟩ := cls_wk PII.out hk1
                rw [(fnk_some HKX.out).2] at hwk
                obtain ⟨⟨G3, hs9, hg9⟩, hrow, hch⟩ := ha
                have PM := hide (PM.out.keep TW.out.s1 hch)
                have PR := hide (TW.out.s1.kr hch (by decide) PR.out)
                have NG := hide (TW.out.s1.keep hch NG.out (by decide))
                have RA := hide (TW.out.s1.kr hch (by decide) RA.out)
                have TW := hide (TW.out.one hch hs9)
                clear hs9 hch
                have R1 := hide hrow
                have HWK := hide hwk
                have PIN := hide hpin
                have PLN := hide hpln
                have DWL := hide (show dd.wk.length ≤ 1000000 from by have h0 := ST.out.2.2.2; have h1 := WO.out.2.1; have h2 := HL.out.2; omega)
                have LENL := hide (show l1.length ≤ 100000 from by have h0 := ST.out.2.1; have h1 := WO.out.2.1; have h2 := HL.out.2; omega)
                obtain ⟨a5, c5, hsv1, -, -⟩ := hrow.form
                obtain ⟨nv, hnv⟩ : ∃ z, dd.wk.length = z := ⟨_, rfl⟩
                rw [hnv] at hsv1
                subst hsv1
                have HNV := hide hnv
                clear hrow hg9 hwk hpin hpln hnv hk1
                obtain ⟨V31, hV31⟩ : ∃ z, V30.alloc (.cells #[.int .i64 dd.f, .int .i64 dd.v.n, .int .u32 dd.v.s, .int .u32 dd.v.g, .bool dd.ok, .slice a5 nv c5] 72) = z := ⟨_, rfl⟩
                have NX := hide (show V31.heap[V30.heap.size]? = some (.cells #[.int .i64 dd.f, .int .i64 dd.v.n, .int .u32 dd.v.s, .int .u32 dd.v.g, .bool dd.ok, .slice a5 nv c5] 72 (0, 0)) by rw [← hV31]; exact heap_new _ _)
                have cA : Ch (fun _ => False) V30 V31 := by rw [← hV31]; exact Ch.alloc _ _
                have TW := hide (TW.out.quiet (cA))
                have PM := hide (PM.out.quiet (cA))
                have PR := hide (Row.ch PR.out (cA) (fun _ _ h => h))
                have NG := hide ((cA).box NG.out (fun h => h))
                have RA := hide (Row.ch RA.out (cA) (fun _ _ h => h))
                have R1 := hide (Row.ch R1.out (cA) (fun _ _ h => h))
                have HV31 := hide hV31
                clear cA hV31
                go_wp2_with fail
                rw [HV31.out]
                refine wp_reg (fun _ => False) (R := fun V => Ch (fun _ => False) V31 V) (by kernel_rfl) (Ch.drew _) (fun V cV zk => ?_)
                have TW := hide (TW.out.quiet (cV))
                have PM := hide (PM.out.quiet (cV))
                have PR := hide (Row.ch PR.out (cV) (fun _ _ h => h))
                have NG := hide ((cV).box NG.out (fun h => h))
                have NX := hide ((cV).box NX.out (fun h => h))
                have RA := hide (Row.ch RA.out (cV) (fun _ _ h => h))
                have R1 := hide (Row.ch R1.out (cV) (fun _ _ h => h))
                clear cV
                have HXX := hide (fun wq (kq : Ch (fun _ => False) V wq) => show (wq.cell? ⟨V30.heap.size, 0, none⟩ = some (.int .i64 dd.f) ∧ wq.cell? ⟨V30.heap.size, 1, none⟩ = some (.int .i64 dd.v.n) ∧ wq.cell? ⟨V30.heap.size, 2, none⟩ = some (.int .u32 dd.v.s) ∧ wq.cell? ⟨V30.heap.size, 3, none⟩ = some (.int .u32 dd.v.g) ∧ wq.cell? ⟨V30.heap.size, 4, none⟩ = some (.bool dd.ok) ∧ wq.cell? ⟨V30.heap.size, 5, none⟩ = some (.slice a5 nv c5)) ∧ wq.cell? ⟨ga, 0, none⟩ = some (.int .u32 x.h.1) ∧ wq.cell? ⟨ga, 1, none⟩ = some (.int .u32 x.h.2) ∧ wq.cell? ⟨ga, 2, none⟩ = some (.bool x.sd) ∧ wq.cell? ⟨ga, 3, none⟩ = some (.int .i64 x.v.n) ∧ wq.cell? ⟨ga, 4, none⟩ = some (.int .u32 x.v.s) ∧ wq.cell? ⟨ga, 5, none⟩ = some (.int .u32 x.v.g) from by
                  have e0 := Lib.cell_of_heap (kq.box NX.out (fun h => h))
                  obtain ⟨ga9, hga9, k9⟩ := row_cells RA.out amF_len kq HM.out
                  cases hga9
                  rw [HXE.out] at k9
                  have k2 := k9 2 _ rfl
                  skip
                  exact ⟨⟨by simp [e0], by simp [e0], by simp [e0], by simp [e0], by simp [e0], by simp [e0]⟩, by simpa using k9 0 _ rfl, by simpa using k9 1 _ rfl, k2, by simpa using k9 3 _ rfl, by simpa using k9 4 _ rfl, by simpa using k9 5 _ rfl⟩)
                apply tk 0 oza0 rfl (by kernel_rfl) (fun _ _ _ h => h) zk
                · intro wq zq
                  go_simp
                  try rfl
                go_frame
                apply tk 1 oza1 rfl (by kernel_rfl) (fun _ _ _ h => h) zk
                · intro wq zq
                  go_simp
                  try rfl
                go_frame
                apply tk 2 oza2 rfl (by kernel_rfl) (fun _ _ _ h => h) zk
                · intro wq zq
                  obtain ⟨⟨s0, s1, s2, s3, s4, s5⟩, s6, s7, s8, s9, s10, s11⟩ := HXX.out _ zq
                  go_simp
                  try rfl
                go_frame
                apply tk 3 oza3 rfl (by kernel_rfl) (fun _ _ _ h => h) zk
                · intro wq zq
                  go_simp
                  try rfl
                go_frame
                apply tk 4 oza4 rfl (by kernel_rfl) (fun _ _ _ h => h) zk
                · intro wq zq
                  go_simp
                  try rfl
                go_frame
                apply tk 5 oza5 rfl (by kernel_rfl) (fun _ _ _ h => h) zk
                · intro wq zq
                  go_simp
                  try rfl
                go_frame
                apply tk 6 oza6 rfl (by kernel_rfl) (fun _ _ _ h => h) zk
                · intro wq zq
                  obtain ⟨⟨s0, s1, s2, s3, s4, s5⟩, s6, s7, s8, s9, s10, s11⟩ := HXX.out _ zq
                  go_simp
                  try rfl
                go_frame
                apply tk 7 oza7 rfl (by kernel_rfl) (fun _ _ _ h => h) zk
                · intro wq zq
                  go_simp
                  try rfl
                go_frame
                obtain ⟨FW, hpw, -, -⟩ := TW.out.s1.book
                refine Go.Proofs.Ytbblmbbpicinlaa.rd 8 oza8 rfl (by kernel_rfl) fun K hK => ?_
                go_simp
                refine (woken_is (B0 := w.heap.size) (B1 := 0) (sent := false) (v := zVa) (h0 := x.h) (d := dd) (dv := .slice a5 nv c5) (face.ch hpw zk (fun _ _ h => h)) LENL.out (Row.ch PR.out zk (fun _ _ h => h)) (Nat.le_trans TW.out.bl.size zk.size) (rowLow (Row.ch R1.out zk (fun _ _ h => h)) (Nat.zero_le _)) HWK.out (PM.out.quiet zk) (fun q hq => (PII.out.rg q hq).2.2.2) (by have h1 := PL.out; have h2 := HL.out.2; omega) (by have := DWL.out; omega)).mono ?_
                rintro e V32 ⟨lv9, rfl, hpr9, hbw⟩
                have ZW := hide (zk.trans (Ch.of_below (Q := fun _ => False) hbw) (fun _ _ h => h))
                have PR9 := hide hpr9
                clear hbw hpr9
                go_wp2_with fail
                refine hK.out _ _ ?_ (fun zk => ?_)
                · exact ZW.out
                clear hK K
                try go_frame
                apply tk 9 oza9 rfl (by kernel_rfl) (fun _ _ _ h => h) zk
                · intro wq zq
                  go_simp
                  try rfl
                go_frame
                apply tk 10 oza10 rfl (by kernel_rfl) (fun _ _ _ h => h) zk
                · intro wq zq
                  go_simp
                  try rfl
                go_frame
                apply tk 11 oza11 rfl (by kernel_rfl) (fun _ _ _ h => h) zk
                · intro wq zq
                  go_simp
                  try rfl
                go_frame
                apply tk 12 oza12 rfl (by kernel_rfl) (fun _ _ _ h => h) zk
                · intro wq zq
                  go_simp
                  try rfl
                go_frame
                apply tk 13 oza13 rfl (by kernel_rfl) (fun _ _ _ h => h) zk
                · intro wq zq
                  go_simp
                  try rfl
                go_frame
                refine wpAnyH_done (by kernel_rfl) ?_ _
                have PM := hide (fun q (hq : q ∈ psn) => PM.out q (HWK.out.sub q hq))
                clear hpw HXX
                have PM := hide (show PaM V psn from PM.out)
                have TW := hide (TW.out.quiet (zk))
                have PM := hide (PM.out.quiet (zk))
                have PR := hide (Row.ch PR.out (zk) (fun _ _ h => h))
                have NG := hide ((zk).box NG.out (fun h => h))
                have NX := hide ((zk).box NX.out (fun h => h))
                have RA := hide (Row.ch RA.out (zk) (fun _ _ h => h))
                have R1 := hide (Row.ch R1.out (zk) (fun _ _ h => h))
                have PR := hide (show PaRow V32 w.heap.size lv9 psn from PR9.out)
                clear zk ZW PR9
                go_wp2_with fail
                refine ⟨?rel, ?measure⟩
                case rel => exact ⟨k + 1, HL.out.1, HL.out.2, rfl, hide ⟨_, _, _, psn, TW.out, ST.out.1, by have h1 := ST.out.2.1; have h2 := WO.out.2.1; omega, WO.out.2.2.set _, PIN.out, by have h1 := PLN.out; have h2 := PL.out; omega, PM.out, PR.out⟩⟩
                case measure =>
                  show 400 - ((k : Int) + 1).toNat < 400 - (k : Int).toNat
                  have := HL.out
                  omega
        · have i3 : ¬ (n : Int) > 0 := by omega
          have KL := hide (show ps.length ≤ 400 by have := PL.out; omega)
          have LL := hide (show l.length ≤ 20000 by have := WO.out.2.1; omega)
          clear hlt h400 hn0 hk hk4
          obtain ⟨apf, cpf, haf, -, -⟩ := PR.out.form
          subst haf
          go_wp2_with fail
          go_loopw [27] (fun i wr => ∃ q : Nat, q ≤ ps.length ∧ i = .int .i64 (q : Int) ∧ Hid (Ch (fun _ => False) W0 wr)) (fun i _ => ps.length - (intOf i).toNat)
          case atStart => exact ⟨0, Nat.zero_le _, rfl, hide (Ch.refl _ _)⟩
          case round =>
            obtain ⟨q, hq, rfl, HC⟩ := hrel
            obtain ⟨V0, rfl⟩ : ∃ x, x = wr := ⟨_, rfl⟩
            by_cases hql : q < ps.length
            · have j1 : (q : Int) < (ps.length : Int) := by omega
              have j2 : (q : Int) ≤ 400 := by have := KL.out; omega
              have HQL := hide hql
              obtain ⟨p, hpx⟩ : ∃ p, ps[q] = p := ⟨_, rfl⟩
              have HPX := hide (show ps[q]'(HQL.out) = p from hpx)
              have HPM := hide (show p ∈ ps from by rw [← hpx]; exact List.getElem_mem hql)
              obtain ⟨gl, hgl, -⟩ := row_cells PR.out paF_len (Ch.refl _ _) hql
              subst hgl
              clear hql hq hpx
              go_wp2_with fail
              refine wp_reg (fun _ => False) (R := fun V => Ch (fun _ => False) V0 V) (by kernel_rfl) (Ch.drew _) (fun V cV zk => ?_)
              have CV := hide (HC.out.trans cV (fun _ _ h => h))
              clear cV
              have HXX := hide (fun wq (kq : Ch (fun _ => False) V wq) => show wq.cell? ⟨gl, q * 3, none⟩ = some (.int .u32 p.g.1) ∧ wq.cell? ⟨gl, q * 3 + 1, none⟩ = some (.int .u32 p.g.2) ∧ wq.cell? ⟨gl, q * 3 + 2, none⟩ = some (.slice (some ⟨p.ga, 0, none⟩) p.az.length p.c) from by
                obtain ⟨g9, e9, k9⟩ := row_cells PR.out paF_len (CV.out.trans kq (fun _ _ h => h)) HQL.out
                cases e9
                rw [HPX.out] at k9
                exact ⟨k9 0 _ rfl, k9 1 _ rfl, k9 2 _ rfl⟩)
              apply tk 0 ozc0 rfl (by kernel_rfl) (fun _ _ _ h => h) zk
              · intro wq zq
                go_simp
                try rfl
              go_frame
              apply tk 1 ozc1 rfl (by kernel_rfl) (fun _ _ _ h => h) zk
              · intro wq zq
                go_simp
                try rfl
              go_frame
              apply tk 2 ozc2 rfl (by kernel_rfl) (fun _ _ _ h => h) zk
              · intro wq zq
                go_simp
                try rfl
              go_frame
              apply tk 3 ozc3 rfl (by kernel_rfl) (fun _ _ _ h => h) zk
              · intro wq zq
                go_simp
                try rfl
              go_frame
              apply tk 4 ozc4 rfl (by kernel_rfl) (fun _ _ _ h => h) zk
              · intro wq zq
                go_simp
                try rfl
              go_frame
              apply tk 5 ozc5 rfl (by kernel_rfl) (fun _ _ _ h => h) zk
              · intro wq zq
                obtain ⟨s0, s1, s2⟩ := HXX.out _ zq
                go_simp
                try rfl
              go_frame
              apply tk 8 ozc8 rfl (by kernel_rfl) (fun _ _ _ h => h) zk
              · intro wq zq
                go_simp
                try rfl
              go_frame
              apply tk 9 ozc9 rfl (by kernel_rfl) (fun _ _ _ h => h) zk
              · intro wq zq
                go_simp
                try rfl
              go_frame
              apply tk 10 ozc10 rfl (by kernel_rfl) (fun _ _ _ h => h) zk
              · intro wq zq
                go_simp
                try rfl
              go_frame
              apply tk 11 ozc11 rfl (by kernel_rfl) (fun _ _ _ h => h) zk
              · intro wq zq
                go_simp
                try rfl
              go_frame
              apply tk 12 ozc12 rfl (by kernel_rfl) (fun _ _ _ h => h) zk
              · intro wq zq
                obtain ⟨s0, s1, s2⟩ := HXX.out _ zq
                go_simp
                try rfl
              go_frame
              apply tk 13 ozc13 rfl (by kernel_rfl) (fun _ _ _ h => h) zk
              · intro wq zq
                go_simp
                try rfl
              go_frame
              obtain ⟨FL, hpL, -, -⟩ := (TW.out.quiet (CV.out.trans zk (fun _ _ h => h))).s1.book
              refine Go.Proofs.Ytbblmbbpicinlaa.rd 6 ozc6 rfl (by kernel_rfl) fun K hK => ?_
              go_simp
              refine (face.of p.g.1 p.g.2 (PII.out.rg p HPM.out).2.1.1 (PII.out.rg p HPM.out).2.1.2 hpL (by have := LL.out; omega)).mono ?_
              rintro e V1 ⟨v9, rfl, hr9, hb⟩
              obtain ⟨a9, c9, rfl, -, -⟩ := hr9.form
              rw [PII.out.len HPM.out]
              have Z9 := hide (zk.trans (Ch.of_below (Q := fun _ => False) hb) (fun _ _ h => h))
              clear hb hr9 hpL
              go_wp2_with fail
              refine hK.out _ _ ?_ (fun zk => ?_)
              · exact Z9.out
              clear hK K
              try go_frame
              apply tk 7 ozc7 rfl (by kernel_rfl) (fun _ _ _ h => h) zk
              · intro wq zq
                go_simp
                try rfl
              go_frame
              apply tk 14 ozc14 rfl (by kernel_rfl) (fun _ _ _ h => h) zk
              · intro wq zq
                go_simp
                try rfl
              go_frame
              refine wpAnyH_done (by kernel_rfl) ?_ _
              have CW := hide (CV.out.trans zk (fun _ _ h => h))
              clear HXX zk Z9
              have jw : IntKind.i64.wrap ((q : Int) + 1) = (q : Int) + 1 := by rw [IntKind.wrap_i64]; omega
              go_wp2_with fail
              refine ⟨?rel, ?measure⟩
              case rel => exact ⟨q + 1, HQL.out, rfl, CW⟩
              case measure =>
                show ps.length - ((q : Int) + 1).toNat < ps.length - (q : Int).toNat
                have := HQL.out
                omega
            · have j1 : ¬ (q : Int) < (ps.length : Int) := by omega
              clear hql hq
              go_wp2_with fail
              go_ret
              exact ⟨rfl, TW.out.bl.trans (HC.out.below (N := w.heap.size) TW.out.bl.size (fun _ _ h => h))⟩
      · have i2 : ¬ (k : Int) < 400 := by omega
        have KL := hide (show ps.length ≤ 400 by have := PL.out; omega)
        have LL := hide (show l.length ≤ 20000 by have := WO.out.2.1; omega)
        clear hlt h400 hk hk4
        obtain ⟨apf, cpf, haf, -, -⟩ := PR.out.form
        subst haf
        go_wp2_with fail
        go_loopw [27] (fun i wr => ∃ q : Nat, q ≤ ps.length ∧ i = .int .i64 (q : Int) ∧ Hid (Ch (fun _ => False) W0 wr)) (fun i _ => ps.length - (intOf i).toNat)
        case atStart => exact ⟨0, Nat.zero_le _, rfl, hide (Ch.refl _ _)⟩
        case round =>
          obtain ⟨q, hq, rfl, HC⟩ := hrel
          obtain ⟨V0, rfl⟩ : ∃ x, x = wr := ⟨_, rfl⟩
          by_cases hql : q < ps.length
          · have j1 : (q : Int) < (ps.length : Int) := by omega
            have j2 : (q : Int) ≤ 400 := by have := KL.out; omega
            have HQL := hide hql
            obtain ⟨p, hpx⟩ : ∃ p, ps[q] = p := ⟨_, rfl⟩
            have HPX := hide (show ps[q]'(HQL.out) = p from hpx)
            have HPM := hide (show p ∈ ps from by rw [← hpx]; exact List.getElem_mem hql)
            obtain ⟨gl, hgl, -⟩ := row_cells PR.out paF_len (Ch.refl _ _) hql
            subst hgl
            clear hql hq hpx
            go_wp2_with fail
            refine wp_reg (fun _ => False) (R := fun V => Ch (fun _ => False) V0 V) (by kernel_rfl) (Ch.drew _) (fun V cV zk => ?_)
            have CV := hide (HC.out.trans cV (fun _ _ h => h))
            clear cV
            have HXX := hide (fun wq (kq : Ch (fun _ => False) V wq) => show wq.cell? ⟨gl, q * 3, none⟩ = some (.int .u32 p.g.1) ∧ wq.cell? ⟨gl, q * 3 + 1, none⟩ = some (.int .u32 p.g.2) ∧ wq.cell? ⟨gl, q * 3 + 2, none⟩ = some (.slice (some ⟨p.ga, 0, none⟩) p.az.length p.c) from by
              obtain ⟨g9, e9, k9⟩ := row_cells PR.out paF_len (CV.out.trans kq (fun _ _ h => h)) HQL.out
              cases e9
              rw [HPX.out] at k9
              exact ⟨k9 0 _ rfl, k9 1 _ rfl, k9 2 _ rfl⟩)
            apply tk 0 ozc0 rfl (by kernel_rfl) (fun _ _ _ h => h) zk
            · intro wq zq
              go_simp
              try rfl
            go_frame
            apply tk 1 ozc1 rfl (by kernel_rfl) (fun _ _ _ h => h) zk
            · intro wq zq
              go_simp
              try rfl
            go_frame
            apply tk 2 ozc2 rfl (by kernel_rfl) (fun _ _ _ h => h) zk
            · intro wq zq
              go_simp
              try rfl
            go_frame
            apply tk 3 ozc3 rfl (by kernel_rfl) (fun _ _ _ h => h) zk
            · intro wq zq
              go_simp
              try rfl
            go_frame
            apply tk 4 ozc4 rfl (by kernel_rfl) (fun _ _ _ h => h) zk
            · intro wq zq
              go_simp
              try rfl
            go_frame
            apply tk 5 ozc5 rfl (by kernel_rfl) (fun _ _ _ h => h) zk
            · intro wq zq
              obtain ⟨s0, s1, s2⟩ := HXX.out _ zq
              go_simp
              try rfl
            go_frame
            apply tk 8 ozc8 rfl (by kernel_rfl) (fun _ _ _ h => h) zk
            · intro wq zq
              go_simp
              try rfl
            go_frame
            apply tk 9 ozc9 rfl (by kernel_rfl) (fun _ _ _ h => h) zk
            · intro wq zq
              go_simp
              try rfl
            go_frame
            apply tk 10 ozc10 rfl (by kernel_rfl) (fun _ _ _ h => h) zk
            · intro wq zq
              go_simp
              try rfl
            go_frame
            apply tk 11 ozc11 rfl (by kernel_rfl) (fun _ _ _ h => h) zk
            · intro wq zq
              go_simp
              try rfl
            go_frame
            apply tk 12 ozc12 rfl (by kernel_rfl) (fun _ _ _ h => h) zk
            · intro wq zq
              obtain ⟨s0, s1, s2⟩ := HXX.out _ zq
              go_simp
              try rfl
            go_frame
            apply tk 13 ozc13 rfl (by kernel_rfl) (fun _ _ _ h => h) zk
            · intro wq zq
              go_simp
              try rfl
            go_frame
            obtain ⟨FL, hpL, -, -⟩ := (TW.out.quiet (CV.out.trans zk (fun _ _ h => h))).s1.book
            refine Go.Proofs.Ytbblmbbpicinlaa.rd 6 ozc6 rfl (by kernel_rfl) fun K hK => ?_
            go_simp
            refine (face.of p.g.1 p.g.2 (PII.out.rg p HPM.out).2.1.1 (PII.out.rg p HPM.out).2.1.2 hpL (by have := LL.out; omega)).mono ?_
            rintro e V1 ⟨v9, rfl, hr9, hb⟩
            obtain ⟨a9, c9, rfl, -, -⟩ := hr9.form
            rw [PII.out.len HPM.out]
            have Z9 := hide (zk.trans (Ch.of_below (Q := fun _ => False) hb) (fun _ _ h => h))
            clear hb hr9 hpL
            go_wp2_with fail
            refine hK.out _ _ ?_ (fun zk => ?_)
            · exact Z9.out
            clear hK K
            try go_frame
            apply tk 7 ozc7 rfl (by kernel_rfl) (fun _ _ _ h => h) zk
            · intro wq zq
              go_simp
              try rfl
            go_frame
            apply tk 14 ozc14 rfl (by kernel_rfl) (fun _ _ _ h => h) zk
            · intro wq zq
              go_simp
              try rfl
            go_frame
            refine wpAnyH_done (by kernel_rfl) ?_ _
            have CW := hide (CV.out.trans zk (fun _ _ h => h))
            clear HXX zk Z9
            have jw : IntKind.i64.wrap ((q : Int) + 1) = (q : Int) + 1 := by rw [IntKind.wrap_i64]; omega
            go_wp2_with fail
            refine ⟨?rel, ?measure⟩
            case rel => exact ⟨q + 1, HQL.out, rfl, CW⟩
            case measure =>
              show ps.length - ((q : Int) + 1).toNat < ps.length - (q : Int).toNat
              have := HQL.out
              omega
          · have j1 : ¬ (q : Int) < (ps.length : Int) := by omega
            clear hql hq
            go_wp2_with fail
            go_ret
            exact ⟨rfl, TW.out.bl.trans (HC.out.below (N := w.heap.size) TW.out.bl.size (fun _ _ h => h))⟩
    · have i1 : ¬ (k : Int) < (sc.length : Int) := by omega
      have KL := hide (show ps.length ≤ 400 by have := PL.out; omega)
      have LL := hide (show l.length ≤ 20000 by have := WO.out.2.1; omega)
      clear hlt hk hk4
      obtain ⟨apf, cpf, haf, -, -⟩ := PR.out.form
      subst haf
      go_wp2_with fail
      go_loopw [27] (fun i wr => ∃ q : Nat, q ≤ ps.length ∧ i = .int .i64 (q : Int) ∧ Hid (Ch (fun _ => False) W0 wr)) (fun i _ => ps.length - (intOf i).toNat)
      case atStart => exact ⟨0, Nat.zero_le _, rfl, hide (Ch.refl _ _)⟩
      case round =>
        obtain ⟨q, hq, rfl, HC⟩ := hrel
        obtain ⟨V0, rfl⟩ : ∃ x, x = wr := ⟨_, rfl⟩
        by_cases hql : q < ps.length
        · have j1 : (q : Int) < (ps.length : Int) := by omega
          have j2 : (q : Int) ≤ 400 := by have := KL.out; omega
          have HQL := hide hql
          obtain ⟨p, hpx⟩ : ∃ p, ps[q] = p := ⟨_, rfl⟩
          have HPX := hide (show ps[q]'(HQL.out) = p from hpx)
          have HPM := hide (show p ∈ ps from by rw [← hpx]; exact List.getElem_mem hql)
          obtain ⟨gl, hgl, -⟩ := row_cells PR.out paF_len (Ch.refl _ _) hql
          subst hgl
          clear hql hq hpx
          go_wp2_with fail
          refine wp_reg (fun _ => False) (R := fun V => Ch (fun _ => False) V0 V) (by kernel_rfl) (Ch.drew _) (fun V cV zk => ?_)
          have CV := hide (HC.out.trans cV (fun _ _ h => h))
          clear cV
          have HXX := hide (fun wq (kq : Ch (fun _ => False) V wq) => show wq.cell? ⟨gl, q * 3, none⟩ = some (.int .u32 p.g.1) ∧ wq.cell? ⟨gl, q * 3 + 1, none⟩ = some (.int .u32 p.g.2) ∧ wq.cell? ⟨gl, q * 3 + 2, none⟩ = some (.slice (some ⟨p.ga, 0, none⟩) p.az.length p.c) from by
            obtain ⟨g9, e9, k9⟩ := row_cells PR.out paF_len (CV.out.trans kq (fun _ _ h => h)) HQL.out
            cases e9
            rw [HPX.out] at k9
            exact ⟨k9 0 _ rfl, k9 1 _ rfl, k9 2 _ rfl⟩)
          apply tk 0 ozc0 rfl (by kernel_rfl) (fun _ _ _ h => h) zk
          · intro wq zq
            go_simp
            try rfl
          go_frame
          apply tk 1 ozc1 rfl (by kernel_rfl) (fun _ _ _ h => h) zk
          · intro wq zq
            go_simp
            try rfl
          go_frame
          apply tk 2 ozc2 rfl (by kernel_rfl) (fun _ _ _ h => h) zk
          · intro wq zq
            go_simp
            try rfl
          go_frame
          apply tk 3 ozc3 rfl (by kernel_rfl) (fun _ _ _ h => h) zk
          · intro wq zq
            go_simp
            try rfl
          go_frame
          apply tk 4 ozc4 rfl (by kernel_rfl) (fun _ _ _ h => h) zk
          · intro wq zq
            go_simp
            try rfl
          go_frame
          apply tk 5 ozc5 rfl (by kernel_rfl) (fun _ _ _ h => h) zk
          · intro wq zq
            obtain ⟨s0, s1, s2⟩ := HXX.out _ zq
            go_simp
            try rfl
          go_frame
          apply tk 8 ozc8 rfl (by kernel_rfl) (fun _ _ _ h => h) zk
          · intro wq zq
            go_simp
            try rfl
          go_frame
          apply tk 9 ozc9 rfl (by kernel_rfl) (fun _ _ _ h => h) zk
          · intro wq zq
            go_simp
            try rfl
          go_frame
          apply tk 10 ozc10 rfl (by kernel_rfl) (fun _ _ _ h => h) zk
          · intro wq zq
            go_simp
            try rfl
          go_frame
          apply tk 11 ozc11 rfl (by kernel_rfl) (fun _ _ _ h => h) zk
          · intro wq zq
            go_simp
            try rfl
          go_frame
          apply tk 12 ozc12 rfl (by kernel_rfl) (fun _ _ _ h => h) zk
          · intro wq zq
            obtain ⟨s0, s1, s2⟩ := HXX.out _ zq
            go_simp
            try rfl
          go_frame
          apply tk 13 ozc13 rfl (by kernel_rfl) (fun _ _ _ h => h) zk
          · intro wq zq
            go_simp
            try rfl
          go_frame
          obtain ⟨FL, hpL, -, -⟩ := (TW.out.quiet (CV.out.trans zk (fun _ _ h => h))).s1.book
          refine Go.Proofs.Ytbblmbbpicinlaa.rd 6 ozc6 rfl (by kernel_rfl) fun K hK => ?_
          go_simp
          refine (face.of p.g.1 p.g.2 (PII.out.rg p HPM.out).2.1.1 (PII.out.rg p HPM.out).2.1.2 hpL (by have := LL.out; omega)).mono ?_
          rintro e V1 ⟨v9, rfl, hr9, hb⟩
          obtain ⟨a9, c9, rfl, -, -⟩ := hr9.form
          rw [PII.out.len HPM.out]
          have Z9 := hide (zk.trans (Ch.of_below (Q := fun _ => False) hb) (fun _ _ h => h))
          clear hb hr9 hpL
          go_wp2_with fail
          refine hK.out _ _ ?_ (fun zk => ?_)
          · exact Z9.out
          clear hK K
          try go_frame
          apply tk 7 ozc7 rfl (by kernel_rfl) (fun _ _ _ h => h) zk
          · intro wq zq
            go_simp
            try rfl
          go_frame
          apply tk 14 ozc14 rfl (by kernel_rfl) (fun _ _ _ h => h) zk
          · intro wq zq
            go_simp
            try rfl
          go_frame
          refine wpAnyH_done (by kernel_rfl) ?_ _
          have CW := hide (CV.out.trans zk (fun _ _ h => h))
          clear HXX zk Z9
          have jw : IntKind.i64.wrap ((q : Int) + 1) = (q : Int) + 1 := by rw [IntKind.wrap_i64]; omega
          go_wp2_with fail
          refine ⟨?rel, ?measure⟩
          case rel => exact ⟨q + 1, HQL.out, rfl, CW⟩
          case measure =>
            show ps.length - ((q : Int) + 1).toNat < ps.length - (q : Int).toNat
            have := HQL.out
            omega
        · have j1 : ¬ (q : Int) < (ps.length : Int) := by omega
          clear hql hq
          go_wp2_with fail
          go_ret
          exact ⟨rfl, TW.out.bl.trans (HC.out.below (N := w.heap.size) TW.out.bl.size (fun _ _ h => h))⟩

end Go.Proofs.Ytbblmbbpicinlaa
