/- Layer 15: SelAlone, walked. -/
import Derived.Test.YtbblmbbpicinlaaYyb
namespace Go.Proofs.Ytbblmbbpicinlaa
open Go.RowKit

abbrev kza0 : Oper := { dst := some 157, op := Op.move (Operand.tmp 9), type := 26, pos := "law.go:327", after := #[], guard := none }
abbrev kza1 : Oper := { dst := some 158, op := Op.load 43 (Operand.tmp 14), type := 43, pos := "law.go:327", after := #[], guard := none }
abbrev kza2 : Oper := { dst := some 159, op := Op.move (Operand.tmp 15), type := 94, pos := "law.go:327", after := #[], guard := none }
abbrev kza3 : Oper := { dst := some 160, op := Op.indexAddr 94 (Operand.tmp 159) (Operand.const (Value.int IntKind.i64 0)), type := 0, pos := "law.go:327", after := #[{ on := 2, ground := Ground.data }], guard := none }
abbrev kza4 : Oper := { dst := some 161, op := Op.fieldAddr 105 (Operand.tmp 160) 0, type := 0, pos := "law.go:327", after := #[{ on := 3, ground := Ground.data }], guard := none }
abbrev kza5 : Oper := { dst := some 162, op := Op.load 43 (Operand.tmp 161), type := 43, pos := "law.go:327", after := #[{ on := 4, ground := Ground.data }], guard := none }
abbrev kza6 : Oper := { dst := some 163, op := Op.move (Operand.tmp 15), type := 94, pos := "law.go:327", after := #[], guard := none }
abbrev kza7 : Oper := { dst := some 164, op := Op.indexAddr 94 (Operand.tmp 163) (Operand.const (Value.int IntKind.i64 0)), type := 0, pos := "law.go:327", after := #[{ on := 6, ground := Ground.data }], guard := none }
abbrev kza8 : Oper := { dst := some 165, op := Op.fieldAddr 105 (Operand.tmp 164) 2, type := 0, pos := "law.go:327", after := #[{ on := 7, ground := Ground.data }], guard := none }
abbrev kza9 : Oper := { dst := some 166, op := Op.load 46 (Operand.tmp 165), type := 46, pos := "law.go:327", after := #[{ on := 8, ground := Ground.data }], guard := none }
abbrev kza10 : Oper := { dst := some 167, op := Op.call { callee := Callee.value (Operand.func 25), args := #[Operand.tmp 157, Operand.tmp 158, Operand.tmp 162, Operand.tmp 166], argTypes := #[26, 43, 43, 46] }, type := 73, pos := "law.go:327", after := #[{ on := 0, ground := Ground.data }, { on := 1, ground := Ground.data }, { on := 5, ground := Ground.data }, { on := 9, ground := Ground.data }], guard := none }
abbrev kza11 : Oper := { dst := some 156, op := Op.move (Operand.tmp 167), type := 73, pos := "law.go:327", after := #[{ on := 10, ground := Ground.data }], guard := none }
abbrev kza12 : Oper := { dst := some 168, op := Op.extract (Operand.tmp 156) 0, type := 72, pos := "law.go:327", after := #[{ on := 11, ground := Ground.data }], guard := none }
abbrev kza13 : Oper := { dst := some 169, op := Op.extract (Operand.tmp 156) 1, type := 27, pos := "law.go:327", after := #[{ on := 11, ground := Ground.data }, { on := 14, ground := Ground.gcOnly Departure.lateStores }], guard := none }
abbrev kza14 : Oper := { dst := none, op := Op.store 72 (Operand.tmp 23) (Operand.tmp 168), type := 0, pos := "law.go:327", after := #[{ on := 12, ground := Ground.data }, { on := 10, ground := Ground.chain }, { on := 0, ground := Ground.phase }, { on := 1, ground := Ground.phase }, { on := 2, ground := Ground.phase }, { on := 3, ground := Ground.phase }, { on := 4, ground := Ground.phase }, { on := 5, ground := Ground.phase }, { on := 6, ground := Ground.phase }, { on := 7, ground := Ground.phase }, { on := 8, ground := Ground.phase }, { on := 9, ground := Ground.phase }, { on := 10, ground := Ground.phase }, { on := 11, ground := Ground.phase }, { on := 12, ground := Ground.phase }, { on := 13, ground := Ground.textOnly Departure.lateStores }], guard := none }
abbrev kza15 : Oper := { dst := some 24, op := Op.assign (Operand.tmp 169), type := 27, pos := "law.go:327", after := #[{ on := 13, ground := Ground.data }, { on := 14, ground := Ground.chain }, { on := 0, ground := Ground.phase }, { on := 1, ground := Ground.phase }, { on := 2, ground := Ground.phase }, { on := 3, ground := Ground.phase }, { on := 4, ground := Ground.phase }, { on := 5, ground := Ground.phase }, { on := 6, ground := Ground.phase }, { on := 7, ground := Ground.phase }, { on := 8, ground := Ground.phase }, { on := 9, ground := Ground.phase }, { on := 10, ground := Ground.phase }, { on := 11, ground := Ground.phase }, { on := 12, ground := Ground.phase }, { on := 13, ground := Ground.phase }, { on := 14, ground := Ground.phase }], guard := none }
abbrev kzb0 : Oper := { dst := some 171, op := Op.move (Operand.tmp 9), type := 26, pos := "law.go:329", after := #[], guard := none }
abbrev kzb1 : Oper := { dst := some 172, op := Op.load 43 (Operand.tmp 14), type := 43, pos := "law.go:329", after := #[], guard := none }
abbrev kzb2 : Oper := { dst := some 173, op := Op.move (Operand.tmp 15), type := 94, pos := "law.go:329", after := #[], guard := none }
abbrev kzb3 : Oper := { dst := some 174, op := Op.indexAddr 94 (Operand.tmp 173) (Operand.const (Value.int IntKind.i64 0)), type := 0, pos := "law.go:329", after := #[{ on := 2, ground := Ground.data }], guard := none }
abbrev kzb4 : Oper := { dst := some 175, op := Op.fieldAddr 105 (Operand.tmp 174) 0, type := 0, pos := "law.go:329", after := #[{ on := 3, ground := Ground.data }], guard := none }
abbrev kzb5 : Oper := { dst := some 176, op := Op.load 43 (Operand.tmp 175), type := 43, pos := "law.go:329", after := #[{ on := 4, ground := Ground.data }], guard := none }
abbrev kzb6 : Oper := { dst := some 177, op := Op.call { callee := Callee.value (Operand.func 21), args := #[Operand.tmp 171, Operand.tmp 172, Operand.tmp 176], argTypes := #[26, 43, 43] }, type := 73, pos := "law.go:329", after := #[{ on := 0, ground := Ground.data }, { on := 1, ground := Ground.data }, { on := 5, ground := Ground.data }], guard := none }
abbrev kzb7 : Oper := { dst := some 170, op := Op.move (Operand.tmp 177), type := 73, pos := "law.go:329", after := #[{ on := 6, ground := Ground.data }], guard := none }
abbrev kzb8 : Oper := { dst := some 178, op := Op.extract (Operand.tmp 170) 0, type := 72, pos := "law.go:329", after := #[{ on := 7, ground := Ground.data }], guard := none }
abbrev kzb9 : Oper := { dst := some 179, op := Op.extract (Operand.tmp 170) 1, type := 27, pos := "law.go:329", after := #[{ on := 7, ground := Ground.data }, { on := 10, ground := Ground.gcOnly Departure.lateStores }], guard := none }
abbrev kzb10 : Oper := { dst := none, op := Op.store 72 (Operand.tmp 23) (Operand.tmp 178), type := 0, pos := "law.go:329", after := #[{ on := 8, ground := Ground.data }, { on := 6, ground := Ground.chain }, { on := 0, ground := Ground.phase }, { on := 1, ground := Ground.phase }, { on := 2, ground := Ground.phase }, { on := 3, ground := Ground.phase }, { on := 4, ground := Ground.phase }, { on := 5, ground := Ground.phase }, { on := 6, ground := Ground.phase }, { on := 7, ground := Ground.phase }, { on := 8, ground := Ground.phase }, { on := 9, ground := Ground.textOnly Departure.lateStores }], guard := none }
abbrev kzb11 : Oper := { dst := some 24, op := Op.assign (Operand.tmp 179), type := 27, pos := "law.go:329", after := #[{ on := 9, ground := Ground.data }, { on := 10, ground := Ground.chain }, { on := 0, ground := Ground.phase }, { on := 1, ground := Ground.phase }, { on := 2, ground := Ground.phase }, { on := 3, ground := Ground.phase }, { on := 4, ground := Ground.phase }, { on := 5, ground := Ground.phase }, { on := 6, ground := Ground.phase }, { on := 7, ground := Ground.phase }, { on := 8, ground := Ground.phase }, { on := 9, ground := Ground.phase }, { on := 10, ground := Ground.phase }], guard := none }

/-- what the loop holds -/
def ALI (w wr : World) (B B2 c bp s d a2 n k : Nat) : Prop := ∃ l ks G G2, Tw w wr B B2 c bp s d a2 l ks l ks G G2 ∧ WtOk l ∧ l.length ≤ k ∧ HsK ks n

set_option maxRecDepth 100000 in
set_option maxHeartbeats 64000000 in
theorem alone_is {w : World} {za : Option Addr} {zb zo zc : Nat} {zs : List Int} (hz : IntsIn w za zb zo zs) (hzl : zs.length ≤ 9223372036854775807) {sv : Value} {sc : List (Tn × List On)} (hsc : Lst w.heap.size 4 (TnAt w.heap.size w) sv sc) : Calls Try.prog 8 #[.slice za zs.length zc, sv] w fun e w' => e = .returned (.bool true) ∧ Below w.heap.size w w' := by
  obtain ⟨sb, so, ⟨sa0, scap, rfl, hscl, hsc63, hsad⟩, hsat⟩ := hsc
  have HSA := hide hsad
  have HST := hide (fun (W : World) (hb : Below w.heap.size w W) i (h : i < sc.length) => (hsat i h).below hb)
  have HZ := hide hz
  have HS63 := hide hsc63
  clear hsad hsat hz hscl hsc63
  go_enter Try.func8, Try.ntmps8
  go_wp2_with fail
  refine (awake15_is w).mono ?_
  rintro e w1 ⟨rfl, hb1⟩
  have B1 := hide hb1
  go_wp2_with fail
  refine (made_is (cap := zc) (HZ.out.below hb1) hzl).mono ?_
  rintro e w2 ⟨c, bp, s, G0, rfl, sw2, sa2, hs2, hb2⟩
  have B2 := hide (B1.out.trans (hb2.mono B1.out.size))
  have S2 := hide sw2
  have A2 := hide sa2
  have L1 := hide hb1.size
  have L2 := hide hb2.size
  clear hb1 sw2 sa2 hb2 hs2
  go_wp2_with fail
  refine (made_is (cap := zc) (HZ.out.below B2.out) hzl).mono ?_
  rintro e w3 ⟨d, a2, s2', G1, rfl, sw3, sa3, hs3, hb3⟩
  have TW0 := hide (show Tw w w3 w1.heap.size w2.heap.size c bp s d a2 [] (mkK 0 (zs.take 5)) [] (mkK 0 (zs.take 5)) G0 G1 from ⟨S2.out.below hb3, sw3, fun y hy e => by have h1 := (S2.out.foot hy).2; have h2 := (sw3.foot e).1; omega, (Ch.of_below (Q := fun _ => False) hb3).box A2.out (fun h => h), B2.out.trans (hb3.mono B2.out.size), L1.out, by have h1 := L1.out; have h2 := L2.out; omega⟩)
  clear sw3 sa3 hb3 hs3
  obtain ⟨n, hn⟩ : ∃ z, min zs.length 5 = z := ⟨_, rfl⟩
  have HN := hide (show n ≤ 5 ∧ (0 < n → HsK (mkK 0 (zs.take 5)) n) from ⟨by omega, fun _ => by have := HsK.mk (zs.take 5); rw [List.length_take] at this; rwa [show min 5 zs.length = n by omega] at this⟩)
  have hmin : (if (5 : Int) < (zs.length : Int) then (5 : Int) else (zs.length : Int)) = (n : Int) := by split <;> omega
  go_wp2_with fail
  go_loopw [13] (fun i wr => ∃ k : Nat, k ≤ sc.length ∧ k ≤ 400 ∧ i = .int .i64 (k : Int) ∧ Hid (ALI w wr w1.heap.size w2.heap.size c bp s d a2 n k)) (fun i _ => 400 - (intOf i).toNat)
  case atStart => exact ⟨0, Nat.zero_le _, by omega, rfl, hide ⟨[], _, G0, G1, TW0.out, (fun t ht => by cases ht), Nat.le_refl _, fun j hj => (HN.out.2 (by omega)) j hj⟩⟩
  case round =>
    obtain ⟨k, hk, hk4, rfl, HI⟩ := hrel
    obtain ⟨W0, rfl⟩ : ∃ x, x = wr := ⟨_, rfl⟩
    by_cases hlt : k < sc.length
    · have i1 : (k : Int) < (sc.length : Int) := by omega
      by_cases h400 : k < 400
      · have i2 : (k : Int) < 400 := by omega
        by_cases hn0 : 0 < n
        · have i3 : (n : Int) > 0 := by omega
          obtain ⟨l, ks, G, G2, tw, wo, hll, hsk⟩ := HI.out
          have TW := hide tw
          have WO := hide (And.intro wo (And.intro hll hsk))
          have HL := hide (And.intro hlt h400)
          obtain ⟨y, hy⟩ : ∃ y, sc[k] = y := ⟨_, rfl⟩
          have hsa := (HSA.out (by omega)).1
          subst hsa
          have hT := fun (W : World) (hb : Below w.heap.size w W) => HST.out W hb k hlt
          rw [hy] at hT
          have HT := hide hT
          have HN0 := hide hn0
          have i0 : (0 : Int) ≤ (k : Int) := by omega
          have hrn : y.1.rn = y.2.length := (hT w (Below.refl _ _)).n
          have HRN := hide hrn
          have hiw : IntKind.i64.wrap ((k : Int) + 1) = (k : Int) + 1 := by rw [IntKind.wrap_i64]; omega
          clear HI tw wo hll hsk hlt h400 hk hk4 hn0 hy hT hrn
          obtain ⟨t0, t1, t2, t3, ug, ut, uc, -, -⟩ := HT.out W0 TW.out.bl
          rw [HRN.out] at t3
          have UG := hide ug
          have hpk := pkW_lt y.1.g (n := 8) (by decide)
          go_wp2_with fail
          clear t0 t1 t2 t3 ug ut uc
          refine (picks_is UG.out (n := 8) (by decide) (by decide) _).mono ?_
          rintro e wp ⟨rfl, hw⟩
          rw [hw]
          clear hw wp
          have hwr : IntKind.i64.wrap (11 + (pkW y.1.g 8 : Int)) = 11 + (pkW y.1.g 8 : Int) := by rw [IntKind.wrap_i64]; omega
          go_wp2_with fail
          clear hwr
          refine (h15_is W0 (n := 11 + (pkW y.1.g 8 : Int)) (by omega) (by omega)).mono ?_
          rintro e V1 ⟨rfl, hb⟩
          have hc9 := Ch.of_below (Q := fun _ => False) hb
          have TW := hide (TW.out.quiet (hc9))
          clear hb hc9
          have HPK := hide hpk
          clear hpk
          obtain ⟨V2, hV2⟩ : ∃ z, V1.alloc (.cells #[.int .u32 (11 + (pkW y.1.g 8 : Int)), .int .u32 1] 43) = z := ⟨_, rfl⟩
          try rw [hV2]
          have NG := hide (show V2.heap[V1.heap.size]? = some (.cells #[.int .u32 (11 + (pkW y.1.g 8 : Int)), .int .u32 1] 43 (0, 0)) by rw [← hV2]; exact heap_new _ _)
          have cA : Ch (fun _ => False) V1 V2 := by rw [← hV2]; exact Ch.alloc _ _
          have TW := hide (TW.out.quiet (cA))
          have HV2 := hide hV2
          clear cA hV2
          have hbl := TW.out.bl
          rw [← HV2.out] at hbl
          obtain ⟨t0, t1, t2, t3, ug, ut, uc, -, hon⟩ := HT.out _ hbl
          rw [HRN.out] at t3 hon
          have HON := hide hon
          clear hon hbl
          go_wp2_with fail
          rw [HV2.out]
          clear t0 t1 t2 t3 ug ut uc
          have HON1 := hide (show Lst w.heap.size 2 (OnAt V2) (.slice y.1.ra y.2.length y.1.rc) y.2 from by have := HON.out; rwa [HV2.out] at this)
          refine (arms_is (tg := y.1.g) (tt := y.1.t) (tc := y.1.c) (m := (k : Int) + 1) HON1.out HN0.out HN.out.1 (by omega) (by have := HL.out; omega)).mono ?_
          rintro e V3 ⟨v3, rfl, hr3, hb⟩
          have hc9 := Ch.of_below (Q := fun _ => False) hb
          have TW := hide (TW.out.quiet (hc9))
          have NG := hide ((hc9).box NG.out (fun h => h))
          clear hb hc9
          have hok := fun x hx => amK_ok (n := n) HN0.out HN.out.1 (m := (k : Int) + 1) (by omega) (by have := HL.out; omega) (i := 0) (r := y.2.take 50) (by rw [List.length_take]; omega) x hx
          obtain ⟨az, haz⟩ : ∃ z, amK n ((k : Int) + 1) 0 (y.2.take 50) = z := ⟨_, rfl⟩
          rw [haz] at hr3 hok
          have HOK := hide hok
          clear hok haz
          cases az with
          | nil =>
            obtain ⟨a3, c3, rfl, -, -⟩ := hr3.form
            rw [List.length_nil]
            clear hr3
            go_wp2_with fail
            refine ⟨?rel, ?measure⟩
            case rel => exact ⟨k + 1, HL.out.1, HL.out.2, rfl, hide ⟨l, ks, _, _, TW.out, WO.out.1, by have := WO.out.2.1; omega, WO.out.2.2⟩⟩
            case measure =>
              show 400 - ((k : Int) + 1).toNat < 400 - (k : Int).toNat
              have := HL.out
              omega
          | cons x more =>
            obtain ⟨ga, c3, cur3, rfl, hcl, -, -, hcur, -, -⟩ := hr3.at amF_len (by simp)
            have AB := hide (show ArmB V3 ga cur3 (x :: more) from ⟨hcur, AmL.of_row hr3⟩)
            have hl1 : ((x :: more).length : Int) = (more.length : Int) + 1 := by rw [List.length_cons]; omega
            have hcl1 : (1 : Int) ≤ (c3 : Int) := by rw [List.length_cons] at hcl; omega
            have HCL := hide (And.intro hcl1 hcl)
            have hle0 : (((more.length + 1 : Nat)) : Int) = (more.length : Int) + 1 := by omega
            have hle1 : ((more.length : Int) + 1 == 0) = false := by simp; omega
            rw [List.length_cons] at hcl ⊢
            clear hr3 hcur hl1
            have XOK := hide (HOK.out x (List.mem_cons_self ..))
            obtain ⟨kx, hkx⟩ : ∃ kx, fnk ks x.h = some kx := by
              obtain ⟨j, hj, hh⟩ := XOK.out.2
              rw [hh]
              exact WO.out.2.2 j hj
            have HKX := hide hkx
            have HNX := hide (show nnH x.h = false from by
              obtain ⟨j, hj, hh⟩ := XOK.out.2
              rw [hh]
              unfold nnH
              simp)
            clear hkx
            have ng0 : V3.cell? ⟨V1.heap.size, 0, none⟩ = some (.int .u32 (11 + (pkW y.1.g 8 : Int))) := by simp [Lib.cell_of_heap NG.out]
            have ng1 : V3.cell? ⟨V1.heap.size, 1, none⟩ = some (.int .u32 1) := by simp [Lib.cell_of_heap NG.out]
            go_wp2_with fail
            clear hle1
            clear ng0 ng1
            obtain ⟨F2, hp2, -, -⟩ := TW.out.s2.book
            have GU := hide (show UsW (11 + (pkW y.1.g 8 : Int)) ∧ UsW 1 from ⟨⟨by omega, by have := HPK.out; omega⟩, by constructor <;> decide⟩)
            refine (face.of (11 + (pkW y.1.g 8 : Int)) 1 GU.out.1 GU.out.2 hp2 (by have h1 := WO.out.2.1; have h2 := HL.out.2; omega)).mono ?_
            rintro e V4 ⟨v4, rfl, hr4, hb⟩
            obtain ⟨a4, c4, rfl, -, -⟩ := hr4.form
            have hc9 := Ch.of_below (Q := fun _ => False) hb
            have TW := hide (TW.out.quiet (hc9))
            have NG := hide ((hc9).box NG.out (fun h => h))
            have AB := hide (AB.out.mv ((hc9).box AB.out.1 (fun h => h)))
            clear hb hc9 hr4 hp2
            by_cases hw : 0 < (sel (isWho (11 + (pkW y.1.g 8 : Int)) 1) l).length
            · have hw2 : ((sel (isWho (11 + (pkW y.1.g 8 : Int)) 1) l).length : Int) > 0 := by omega
              clear hw
              go_wp2_with fail
              refine ⟨?rel, ?measure⟩
              case rel => exact ⟨k + 1, HL.out.1, HL.out.2, rfl, hide ⟨l, ks, _, _, TW.out, WO.out.1, by have := WO.out.2.1; omega, WO.out.2.2⟩⟩
              case measure =>
                show 400 - ((k : Int) + 1).toNat < 400 - (k : Int).toNat
                have := HL.out
                omega
            · have hw2 : ¬ ((sel (isWho (11 + (pkW y.1.g 8 : Int)) 1) l).length : Int) > 0 := by omega
              have NW := hide (show sel (isWho (11 + (pkW y.1.g 8 : Int)) 1) l = [] from List.eq_nil_of_length_eq_zero (by omega))
              clear hw
              obtain ⟨t0, t1, t2, t3, ug, ut, uc, -, -⟩ := HT.out V4 TW.out.bl
              rw [HRN.out] at t3
              have hcl2 := HCL.out.1
              cases hq : (y.1.c.tmod 17 == 3) with
              | true =>
                obtain ⟨y0, y1, y2, y3, y4, y5⟩ := AB.out.2 0 (by simp)
                simp only [List.getElem_cons_zero, Nat.zero_mul, Nat.zero_add] at y0 y1 y2 y3 y4 y5
                go_wp2_with fail
                clear y0 y1 y2 y3 y4 y5
                clear t0 t1 t2 t3 ug ut uc hcl2
                have XU := hide XOK.out.1
                refine (sw_close TW.out.s1 (by have h1 := WO.out.2.1; have h2 := HL.out.2; omega) WO.out.1 HKX.out HNX.out XU.out.h1 XU.out.h2).mono ?_
                rintro e V5 ⟨d1, l1, x1, sv1, hk1, rfl, ha⟩
                obtain ⟨⟨G3, hs9, hg9⟩, hrow, hch⟩ := ha
                have NG := hide (TW.out.s1.keep hch NG.out (by decide))
                have AB := hide (AB.out.mv (TW.out.s1.keep hch AB.out.1 (by decide)))
                have TW := hide (TW.out.one hch hs9 hg9)
                clear hs9 hg9 hch
                have R1 := hide hrow
                obtain ⟨a5, c5, hsv1, -, -⟩ := hrow.form
                have CK1 := hide hk1
                have cst := cls_st WO.out.1 hk1
                have CST := hide cst
                obtain ⟨nv, hnv⟩ : ∃ z, d1.wk.length = z := ⟨_, rfl⟩
                rw [hnv] at hsv1
                subst hsv1
                clear hrow hk1 cst hnv
                obtain ⟨V6, hV6⟩ : ∃ z, V5.alloc (.cells #[.int .i64 d1.f, .int .i64 d1.v.n, .int .u32 d1.v.s, .int .u32 d1.v.g, .bool d1.ok, .slice a5 nv c5] 72) = z := ⟨_, rfl⟩
                try rw [hV6]
                have NX := hide (show V6.heap[V5.heap.size]? = some (.cells #[.int .i64 d1.f, .int .i64 d1.v.n, .int .u32 d1.v.s, .int .u32 d1.v.g, .bool d1.ok, .slice a5 nv c5] 72 (0, 0)) by rw [← hV6]; exact heap_new _ _)
                have cA : Ch (fun _ => False) V5 V6 := by rw [← hV6]; exact Ch.alloc _ _
                have TW := hide (TW.out.quiet (cA))
                have NG := hide ((cA).box NG.out (fun h => h))
                have AB := hide (AB.out.mv ((cA).box AB.out.1 (fun h => h)))
                have R1 := hide (Row.ch R1.out (cA) (fun _ _ h => h))
                have HV6 := hide hV6
                clear cA hV6
                obtain ⟨y0, y1, y2, y3, y4, y5⟩ := AB.out.2 0 (by simp)
                simp only [List.getElem_cons_zero, Nat.zero_mul, Nat.zero_add] at y0 y1 y2 y3 y4 y5
                rw [← HV6.out] at y0 y1 y2 y3 y4 y5
                go_wp2_with fail
                rw [HV6.out]
                clear y0 y1 y2 y3 y4 y5
                refine (sw_close TW.out.s2 (by have h1 := WO.out.2.1; have h2 := HL.out.2; omega) WO.out.1 HKX.out HNX.out XU.out.h1 XU.out.h2).mono ?_
                rintro e V7 ⟨d2, l2, x2, sv2, hk2, rfl, ha⟩
                obtain ⟨rfl, rfl, rfl⟩ := CK1.out.unique hk2
                clear hk2
                obtain ⟨⟨G4, hs9, hg9⟩, hrow, hch⟩ := ha
                have NG := hide (TW.out.s2.keep hch NG.out (by decide))
                have NX := hide (TW.out.s2.keep hch NX.out (by decide))
                have AB := hide (AB.out.mv (TW.out.s2.keep hch AB.out.1 (by decide)))
                have R1 := hide (TW.out.s2.krow hch R1.out)
                have TW := hide (TW.out.two hch hs9 hg9)
                clear hs9 hg9 hch
                have R2 := hide hrow
                obtain ⟨a6, c6, hsv2, -, -⟩ := hrow.form
                obtain ⟨nv2, hnv2⟩ : ∃ z, d2.wk.length = z := ⟨_, rfl⟩
                rw [hnv2] at hsv2
                subst hsv2
                clear hrow hnv2
                obtain ⟨V8, hV8⟩ : ∃ z, V7.alloc (.cells #[.int .i64 d2.f, .int .i64 d2.v.n, .int .u32 d2.v.s, .int .u32 d2.v.g, .bool d2.ok, .slice a6 nv2 c6] 72) = z := ⟨_, rfl⟩
                try rw [hV8]
                have NY := hide (show V8.heap[V7.heap.size]? = some (.cells #[.int .i64 d2.f, .int .i64 d2.v.n, .int .u32 d2.v.s, .int .u32 d2.v.g, .bool d2.ok, .slice a6 nv2 c6] 72 (0, 0)) by rw [← hV8]; exact heap_new _ _)
                have cA : Ch (fun _ => False) V7 V8 := by rw [← hV8]; exact Ch.alloc _ _
                have TW := hide (TW.out.quiet (cA))
                have NG := hide ((cA).box NG.out (fun h => h))
                have NX := hide ((cA).box NX.out (fun h => h))
                have AB := hide (AB.out.mv ((cA).box AB.out.1 (fun h => h)))
                have R1 := hide (Row.ch R1.out (cA) (fun _ _ h => h))
                have R2 := hide (Row.ch R2.out (cA) (fun _ _ h => h))
                have HV8 := hide hV8
                clear cA hV8
                have nx0 : (V7.alloc (.cells #[.int .i64 d2.f, .int .i64 d2.v.n, .int .u32 d2.v.s, .int .u32 d2.v.g, .bool d2.ok, .slice a6 nv2 c6] 72)).cell? ⟨V5.heap.size, 0, none⟩ = some (.int .i64 d2.f) := by rw [HV8.out]; simp [Lib.cell_of_heap NX.out]
                have nx1 : (V7.alloc (.cells #[.int .i64 d2.f, .int .i64 d2.v.n, .int .u32 d2.v.s, .int .u32 d2.v.g, .bool d2.ok, .slice a6 nv2 c6] 72)).cell? ⟨V5.heap.size, 1, none⟩ = some (.int .i64 d2.v.n) := by rw [HV8.out]; simp [Lib.cell_of_heap NX.out]
                have nx2 : (V7.alloc (.cells #[.int .i64 d2.f, .int .i64 d2.v.n, .int .u32 d2.v.s, .int .u32 d2.v.g, .bool d2.ok, .slice a6 nv2 c6] 72)).cell? ⟨V5.heap.size, 2, none⟩ = some (.int .u32 d2.v.s) := by rw [HV8.out]; simp [Lib.cell_of_heap NX.out]
                have nx3 : (V7.alloc (.cells #[.int .i64 d2.f, .int .i64 d2.v.n, .int .u32 d2.v.s, .int .u32 d2.v.g, .bool d2.ok, .slice a6 nv2 c6] 72)).cell? ⟨V5.heap.size, 3, none⟩ = some (.int .u32 d2.v.g) := by rw [HV8.out]; simp [Lib.cell_of_heap NX.out]
                have nx4 : (V7.alloc (.cells #[.int .i64 d2.f, .int .i64 d2.v.n, .int .u32 d2.v.s, .int .u32 d2.v.g, .bool d2.ok, .slice a6 nv2 c6] 72)).cell? ⟨V5.heap.size, 4, none⟩ = some (.bool d2.ok) := by rw [HV8.out]; simp [Lib.cell_of_heap NX.out]
                have nx5 : (V7.alloc (.cells #[.int .i64 d2.f, .int .i64 d2.v.n, .int .u32 d2.v.s, .int .u32 d2.v.g, .bool d2.ok, .slice a6 nv2 c6] 72)).cell? ⟨V5.heap.size, 5, none⟩ = some (.slice a5 nv c5) := by rw [HV8.out]; simp [Lib.cell_of_heap NX.out]
                have ny0 : (V7.alloc (.cells #[.int .i64 d2.f, .int .i64 d2.v.n, .int .u32 d2.v.s, .int .u32 d2.v.g, .bool d2.ok, .slice a6 nv2 c6] 72)).cell? ⟨V7.heap.size, 0, none⟩ = some (.int .i64 d2.f) := by rw [HV8.out]; simp [Lib.cell_of_heap NY.out]
                have ny1 : (V7.alloc (.cells #[.int .i64 d2.f, .int .i64 d2.v.n, .int .u32 d2.v.s, .int .u32 d2.v.g, .bool d2.ok, .slice a6 nv2 c6] 72)).cell? ⟨V7.heap.size, 1, none⟩ = some (.int .i64 d2.v.n) := by rw [HV8.out]; simp [Lib.cell_of_heap NY.out]
                have ny2 : (V7.alloc (.cells #[.int .i64 d2.f, .int .i64 d2.v.n, .int .u32 d2.v.s, .int .u32 d2.v.g, .bool d2.ok, .slice a6 nv2 c6] 72)).cell? ⟨V7.heap.size, 2, none⟩ = some (.int .u32 d2.v.s) := by rw [HV8.out]; simp [Lib.cell_of_heap NY.out]
                have ny3 : (V7.alloc (.cells #[.int .i64 d2.f, .int .i64 d2.v.n, .int .u32 d2.v.s, .int .u32 d2.v.g, .bool d2.ok, .slice a6 nv2 c6] 72)).cell? ⟨V7.heap.size, 3, none⟩ = some (.int .u32 d2.v.g) := by rw [HV8.out]; simp [Lib.cell_of_heap NY.out]
                have ny4 : (V7.alloc (.cells #[.int .i64 d2.f, .int .i64 d2.v.n, .int .u32 d2.v.s, .int .u32 d2.v.g, .bool d2.ok, .slice a6 nv2 c6] 72)).cell? ⟨V7.heap.size, 4, none⟩ = some (.bool d2.ok) := by rw [HV8.out]; simp [Lib.cell_of_heap NY.out]
                have ny5 : (V7.alloc (.cells #[.int .i64 d2.f, .int .i64 d2.v.n, .int .u32 d2.v.s, .int .u32 d2.v.g, .bool d2.ok, .slice a6 nv2 c6] 72)).cell? ⟨V7.heap.size, 5, none⟩ = some (.slice a6 nv2 c6) := by rw [HV8.out]; simp [Lib.cell_of_heap NY.out]
                go_wp2_with fail
                rw [HV8.out]
                clear nx0 nx1 nx2 nx3 nx4 nx5 ny0 ny1 ny2 ny3 ny4 ny5
                refine (same_eq (d := d2) R1.out R2.out (by have h1 := CST.out.2.2.2; have h2 := WO.out.2.1; have h3 := HL.out.2; omega)).mono ?_
                rintro e V9 ⟨rfl, hb⟩
                have hc9 := Ch.of_below (Q := fun _ => False) hb
                have TW := hide (TW.out.quiet (hc9))
                have NG := hide ((hc9).box NG.out (fun h => h))
                have NX := hide ((hc9).box NX.out (fun h => h))
                have NY := hide ((hc9).box NY.out (fun h => h))
                have AB := hide (AB.out.mv ((hc9).box AB.out.1 (fun h => h)))
                have R1 := hide (Row.ch R1.out (hc9) (fun _ _ h => h))
                have R2 := hide (Row.ch R2.out (hc9) (fun _ _ h => h))
                clear hb hc9
                go_wp2_with fail
                refine ⟨?rel, ?measure⟩
                case rel => exact ⟨k + 1, HL.out.1, HL.out.2, rfl, hide ⟨_, _, _, _, TW.out, CST.out.1, by have h1 := CST.out.2.1; have h2 := WO.out.2.1; omega, WO.out.2.2.set _⟩⟩
                case measure =>
                  show 400 - ((k : Int) + 1).toNat < 400 - (k : Int).toNat
                  have := HL.out
                  omega
              | false =>
                cases hsd : x.sd with
                | true =>
                  cases hrd : rdA l ks x with
                  | true =>
                    have HSD := hide hsd
                    have HRD := hide hrd
                    clear hsd hrd
                    obtain ⟨V10, hV10⟩ : ∃ z, V4.alloc (.cells #[.int .i64 1, .int .i64 0, .int .u32 0, .int .u32 0, .bool false, .slice none 0 0] 72) = z := ⟨_, rfl⟩
                    try rw [hV10]
                    have NX := hide (show V10.heap[V4.heap.size]? = some (.cells #[.int .i64 1, .int .i64 0, .int .u32 0, .int .u32 0, .bool false, .slice none 0 0] 72 (0, 0)) by rw [← hV10]; exact heap_new _ _)
                    have SZX := hide (show w.heap.size ≤ V4.heap.size from TW.out.bl.size)
                    have cA : Ch (fun _ => False) V4 V10 := by rw [← hV10]; exact Ch.alloc _ _
                    have TW := hide (TW.out.quiet (cA))
                    have NG := hide ((cA).box NG.out (fun h => h))
                    have AB := hide (AB.out.mv ((cA).box AB.out.1 (fun h => h)))
                    have HV10 := hide hV10
                    clear cA hV10
                    have ng0 : (V4.alloc (.cells #[.int .i64 1, .int .i64 0, .int .u32 0, .int .u32 0, .bool false, .slice none 0 0] 72)).cell? ⟨V1.heap.size, 0, none⟩ = some (.int .u32 (11 + (pkW y.1.g 8 : Int))) := by rw [HV10.out]; simp [Lib.cell_of_heap NG.out]
                    have ng1 : (V4.alloc (.cells #[.int .i64 1, .int .i64 0, .int .u32 0, .int .u32 0, .bool false, .slice none 0 0] 72)).cell? ⟨V1.heap.size, 1, none⟩ = some (.int .u32 1) := by rw [HV10.out]; simp [Lib.cell_of_heap NG.out]
                    go_wp2_with fail
                    rw [HV10.out]
                    clear ng0 ng1
                    clear t0 t1 t2 t3 ug ut uc hcl2
                    have AI := hide (show ArmsIn V10 (some ⟨ga, 0, none⟩) ga [x] from ⟨fun _ => rfl, by have := AB.out.2.take 1; exact this⟩)
                    have XU := hide XOK.out.1
                    have XA := hide (show ∀ z ∈ [x], AmOk z from fun z hz => by rw [List.mem_singleton.1 hz]; exact XOK.out.1)
                    have AK := hide (show akA l ks (11 + (pkW y.1.g 8 : Int), 1) [x] = ([0], 0) from by rw [ak_one (gr := (11 + (pkW y.1.g 8 : Int), 1)) (by unfold nnH; simp) NW.out HNX.out HKX.out, HRD.out]; rfl)
                    refine (park_ready (cap := c3) (az := [x]) TW.out.s1 (by have h1 := WO.out.2.1; have h2 := HL.out.2; omega) TW.out.sa AI.out XA.out (by simp) (gr := (11 + (pkW y.1.g 8 : Int), 1)) GU.out.1 GU.out.2 (by rw [AK.out]) (by rw [AK.out]; decide)).mono ?_
                    rintro e V11 ⟨rfl, hb⟩
                    have hc9 := Ch.of_below (Q := fun _ => False) hb
                    have TW := hide (TW.out.quiet (hc9))
                    have NG := hide ((hc9).box NG.out (fun h => h))
                    have NX := hide ((hc9).box NX.out (fun h => h))
                    have AB := hide (AB.out.mv ((hc9).box AB.out.1 (fun h => h)))
                    clear hb hc9
                    have ng0 : V11.cell? ⟨V1.heap.size, 0, none⟩ = some (.int .u32 (11 + (pkW y.1.g 8 : Int))) := by simp [Lib.cell_of_heap NG.out]
                    have ng1 : V11.cell? ⟨V1.heap.size, 1, none⟩ = some (.int .u32 1) := by simp [Lib.cell_of_heap NG.out]
                    go_wp2_with fail
                    clear ng0 ng1
                    have AI := hide (show ArmsIn V11 (some ⟨ga, 0, none⟩) ga [x] from ⟨fun _ => rfl, by have := AB.out.2.take 1; exact this⟩)
                    refine (take_send (cap := c3) (az := [x]) TW.out.s1 (by have h1 := WO.out.2.1; have h2 := HL.out.2; omega) TW.out.sa AI.out XA.out (by simp) (gr := (11 + (pkW y.1.g 8 : Int), 1)) GU.out.1 GU.out.2 (i := 0) WO.out.1 (by rw [AK.out]) (m := 0) (by simp) rfl (by rw [AK.out]; rfl) (x := x) rfl HSD.out HNX.out HKX.out).mono ?_
                    rintro e V12 ⟨sv1, rfl, ha⟩
                    have ST := hide (snd_st (k := kx) (g := (11 + (pkW y.1.g 8 : Int), 1)) (v := x.v) WO.out.1 GU.out.1 GU.out.2 XU.out.v0 XU.out.v1 XU.out.v2)
                    obtain ⟨R, hR⟩ : ∃ z, sndK l kx (11 + (pkW y.1.g 8 : Int), 1) x.v = z := ⟨_, rfl⟩
                    rw [hR] at ha ST ⊢
                    have HR := hide hR
                    clear hR
                    obtain ⟨dd, l1, k1⟩ := R
                    simp only at ha ST ⊢
                    obtain ⟨⟨G3, hs9, hg9⟩, hrow, hch⟩ := ha
                    have NG := hide (TW.out.s1.keep hch NG.out (by decide))
                    have NX := hide (TW.out.s1.keep hch NX.out (by decide))
                    have AB := hide (AB.out.mv (TW.out.s1.keep hch AB.out.1 (by decide)))
                    have TW := hide (TW.out.one hch hs9 hg9)
                    clear hs9 hg9 hch
                    have R1 := hide hrow
                    obtain ⟨a5, c5, hsv1, -, -⟩ := hrow.form
                    obtain ⟨nv, hnv⟩ : ∃ z, dd.wk.length = z := ⟨_, rfl⟩
                    rw [hnv] at hsv1
                    subst hsv1
                    clear hrow hnv
                    have nx0 : V12.cell? ⟨V4.heap.size, 0, none⟩ = some (.int .i64 1) := by simp [Lib.cell_of_heap NX.out]
                    have nx1 : V12.cell? ⟨V4.heap.size, 1, none⟩ = some (.int .i64 0) := by simp [Lib.cell_of_heap NX.out]
                    have nx2 : V12.cell? ⟨V4.heap.size, 2, none⟩ = some (.int .u32 0) := by simp [Lib.cell_of_heap NX.out]
                    have nx3 : V12.cell? ⟨V4.heap.size, 3, none⟩ = some (.int .u32 0) := by simp [Lib.cell_of_heap NX.out]
                    have nx4 : V12.cell? ⟨V4.heap.size, 4, none⟩ = some (.bool false) := by simp [Lib.cell_of_heap NX.out]
                    have nx5 : V12.cell? ⟨V4.heap.size, 5, none⟩ = some (.slice none 0 0) := by simp [Lib.cell_of_heap NX.out]
                    have nxf : ∀ j, V12.frozen? ⟨V4.heap.size, j, none⟩ = false := frz NX.out
                    have HSE := hide (did_set NX.out (.int .i64 dd.f) (.int .i64 dd.v.n) (.int .u32 dd.v.s) (.int .u32 dd.v.g) (.bool dd.ok) (.slice a5 nv c5))
                    obtain ⟨V13, hV13⟩ : ∃ z, ((((((V12.setCell ⟨V4.heap.size, 0, none⟩ (.int .i64 dd.f)).setCell ⟨V4.heap.size, 1, none⟩ (.int .i64 dd.v.n)).setCell ⟨V4.heap.size, 2, none⟩ (.int .u32 dd.v.s)).setCell ⟨V4.heap.size, 3, none⟩ (.int .u32 dd.v.g)).setCell ⟨V4.heap.size, 4, none⟩ (.bool dd.ok)).setCell ⟨V4.heap.size, 5, none⟩ (.slice a5 nv c5)) = z := ⟨_, rfl⟩
                    have hse := HSE.out
                    rw [hV13] at hse
                    have SZE := hide (show V13.heap.size = V12.heap.size by rw [← hV13]; simp only [size_set])
                    have HV13 := hide hV13
                    have ne9 : ∀ {b : Nat} {cs9 : Array Value} {T9 : TypeId}, V12.heap[b]? = some (.cells cs9 T9 (0, 0)) → T9 ≠ 72 → ¬ b = V4.heap.size := fun h1 h2 e => by rw [e, NX.out] at h1; injection h1 with h1; injection h1 with _ h3 _; exact h2 h3.symm
                    have sz9 : w.heap.size ≤ V4.heap.size := SZX.out
                    have TW := hide (TW.out.away hse.2 (TW.out.s1.nb NX.out (by decide)) (TW.out.s2.nb NX.out (by decide)) (fun e => ne9 TW.out.sa (by decide) e.symm) sz9)
                    have NG := hide (hse.2.box NG.out (ne9 NG.out (by decide)))
                    have AB := hide (AB.out.mv (hse.2.box AB.out.1 (ne9 AB.out.1 (by decide))))
                    have R1 := hide (Row.ch R1.out hse.2 (fun b hb e => by obtain ⟨_, _, cur9, e9⟩ := own_in R1.out hb; exact ne9 e9 (by decide) e))
                    have NX := hide hse.1
                    clear hse ne9 sz9 hV13
                    obtain ⟨V14, hV14⟩ : ∃ z, V13.alloc (.cells #[.int .i64 0, .int .i64 0, .int .u32 0, .int .u32 0, .bool false, .slice none 0 0] 72) = z := ⟨_, rfl⟩
                    have NY := hide (show V14.heap[V12.heap.size]? = some (.cells #[.int .i64 0, .int .i64 0, .int .u32 0, .int .u32 0, .bool false, .slice none 0 0] 72 (0, 0)) by rw [← hV14, ← SZE.out]; exact heap_new _ _)
                    have SXY := hide (show V4.heap.size < V12.heap.size from by rw [← SZE.out]; exact (Array.getElem?_eq_some_iff.1 NX.out).1)
                    have cA : Ch (fun _ => False) V13 V14 := by rw [← hV14]; exact Ch.alloc _ _
                    have TW := hide (TW.out.quiet (cA))
                    have NG := hide ((cA).box NG.out (fun h => h))
                    have NX := hide ((cA).box NX.out (fun h => h))
                    have AB := hide (AB.out.mv ((cA).box AB.out.1 (fun h => h)))
                    have R1 := hide (Row.ch R1.out (cA) (fun _ _ h => h))
                    have HV14 := hide hV14
                    clear cA hV14
                    have HXV14 := hide (show (((((((V12.setCell ⟨V4.heap.size, 0, none⟩ (.int .i64 dd.f)).setCell ⟨V4.heap.size, 1, none⟩ (.int .i64 dd.v.n)).setCell ⟨V4.heap.size, 2, none⟩ (.int .u32 dd.v.s)).setCell ⟨V4.heap.size, 3, none⟩ (.int .u32 dd.v.g)).setCell ⟨V4.heap.size, 4, none⟩ (.bool dd.ok)).setCell ⟨V4.heap.size, 5, none⟩ (.slice a5 nv c5)).alloc (.cells #[.int .i64 0, .int .i64 0, .int .u32 0, .int .u32 0, .bool false, .slice none 0 0] 72)) = V14 from by rw [HV13.out, HV14.out])
                    obtain ⟨y0, y1, y2, y3, y4, y5⟩ := AB.out.2 0 (by simp)
                    simp only [List.getElem_cons_zero, Nat.zero_mul, Nat.zero_add] at y0 y1 y2 y3 y4 y5
                    rw [HSD.out] at y2
                    rw [← HXV14.out] at y0 y1 y2 y3 y4 y5
                    go_wp2_with fail
                    rw [HXV14.out]
                    clear y0 y1 y2 y3 y4 y5
                    clear nx0 nx1 nx2 nx3 nx4 nx5
                    clear nxf
                    refine wp_reg (fun z => G2 z ∨ z = V12.heap.size) (R := fun V => Ch (fun _ => False) V14 V) (by kernel_rfl) (Ch.drew _) (fun V cV zk => ?_)
                    have TW := hide (TW.out.quiet (cV))
                    have NG := hide ((cV).box NG.out (fun h => h))
                    have NX := hide ((cV).box NX.out (fun h => h))
                    have NY := hide ((cV).box NY.out (fun h => h))
                    have AB := hide (AB.out.mv ((cV).box AB.out.1 (fun h => h)))
                    have R1 := hide (Row.ch R1.out (cV) (fun _ _ h => h))
                    clear cV
                    have nq1 : ¬ (G2 V1.heap.size ∨ V1.heap.size = V12.heap.size) := fun e => e.elim (TW.out.s2.nb NG.out (by decide)) (fun e => by have h1 := NG.out; rw [e, NY.out] at h1; injection h1 with h1; injection h1 with _ h4 _; exact absurd h4 (by decide))
                    have nq2 : ¬ (G2 ga ∨ ga = V12.heap.size) := fun e => e.elim (TW.out.s2.nb AB.out.1 (by decide)) (fun e => by have h1 := AB.out.1; rw [e, NY.out] at h1; injection h1 with h1; injection h1 with _ h4 _; exact absurd h4 (by decide))
                    have HXX := hide (fun wq (kq : Ch (fun z => G2 z ∨ z = V12.heap.size) V wq) => show (wq.cell? ⟨V1.heap.size, 0, none⟩ = some (.int .u32 (11 + (pkW y.1.g 8 : Int))) ∧ wq.cell? ⟨V1.heap.size, 1, none⟩ = some (.int .u32 1)) ∧ wq.cell? ⟨ga, 0, none⟩ = some (.int .u32 x.h.1) ∧ wq.cell? ⟨ga, 1, none⟩ = some (.int .u32 x.h.2) ∧ wq.cell? ⟨ga, 3, none⟩ = some (.int .i64 x.v.n) ∧ wq.cell? ⟨ga, 4, none⟩ = some (.int .u32 x.v.s) ∧ wq.cell? ⟨ga, 5, none⟩ = some (.int .u32 x.v.g) from by
                      have e1 := Lib.cell_of_heap (kq.box NG.out nq1)
                      obtain ⟨y0, y1, y2, y3, y4, y5⟩ := (AB.out.mv (kq.box AB.out.1 nq2)).2 0 (by simp)
                      simp only [List.getElem_cons_zero, Nat.zero_mul, Nat.zero_add] at y0 y1 y2 y3 y4 y5
                      exact ⟨⟨by simp [e1], by simp [e1]⟩, y0, y1, y3, y4, y5⟩)
                    apply tk 0 kza0 rfl (by kernel_rfl) (fun _ _ _ h => h) zk
                    · intro wq zq
                      go_simp
                      try rfl
                    go_frame
                    apply tk 1 kza1 rfl (by kernel_rfl) (fun _ _ _ h => h) zk
                    · intro wq zq
                      obtain ⟨⟨s0, s1⟩, s2, s3, s4, s5, s6⟩ := HXX.out _ zq
                      go_simp
                      try rfl
                    go_frame
                    apply tk 2 kza2 rfl (by kernel_rfl) (fun _ _ _ h => h) zk
                    · intro wq zq
                      go_simp
                      try rfl
                    go_frame
                    apply tk 3 kza3 rfl (by kernel_rfl) (fun _ _ _ h => h) zk
                    · intro wq zq
                      go_simp
                      try rfl
                    go_frame
                    apply tk 4 kza4 rfl (by kernel_rfl) (fun _ _ _ h => h) zk
                    · intro wq zq
                      go_simp
                      try rfl
                    go_frame
                    apply tk 5 kza5 rfl (by kernel_rfl) (fun _ _ _ h => h) zk
                    · intro wq zq
                      obtain ⟨⟨s0, s1⟩, s2, s3, s4, s5, s6⟩ := HXX.out _ zq
                      go_simp
                      try rfl
                    go_frame
                    apply tk 6 kza6 rfl (by kernel_rfl) (fun _ _ _ h => h) zk
                    · intro wq zq
                      go_simp
                      try rfl
                    go_frame
                    apply tk 7 kza7 rfl (by kernel_rfl) (fun _ _ _ h => h) zk
                    · intro wq zq
                      go_simp
                      try rfl
                    go_frame
                    apply tk 8 kza8 rfl (by kernel_rfl) (fun _ _ _ h => h) zk
                    · intro wq zq
                      go_simp
                      try rfl
                    go_frame
                    apply tk 9 kza9 rfl (by kernel_rfl) (fun _ _ _ h => h) zk
                    · intro wq zq
                      obtain ⟨⟨s0, s1⟩, s2, s3, s4, s5, s6⟩ := HXX.out _ zq
                      go_simp
                      try rfl
                    go_frame
                    refine Go.Proofs.Ytbblmbbpicinlaa.rd 10 kza10 rfl (by kernel_rfl) fun K hK => ?_
                    go_simp
                    refine (sw_send TW.out.s2 (by have h1 := WO.out.2.1; have h2 := HL.out.2; omega) WO.out.1 HKX.out HNX.out (g := (11 + (pkW y.1.g 8 : Int), 1)) (by unfold nnH; simp) NW.out XU.out.h1 XU.out.h2 GU.out.1 GU.out.2 XU.out.v0 XU.out.v1 XU.out.v2).mono ?_
                    rintro e V15 ⟨sv2, rfl, ha⟩
                    rw [HR.out] at ha ⊢
                    simp only at ha ⊢
                    have Z9 := hide (zk.trans ha.ch (fun _ _ h => .inl h))
                    obtain ⟨⟨G4, hs9, hg9⟩, hrow, hch⟩ := ha
                    have NG := hide (TW.out.s2.keep hch NG.out (by decide))
                    have NX := hide (TW.out.s2.keep hch NX.out (by decide))
                    have NY := hide (TW.out.s2.keep hch NY.out (by decide))
                    have AB := hide (AB.out.mv (TW.out.s2.keep hch AB.out.1 (by decide)))
                    have R1 := hide (TW.out.s2.krow hch R1.out)
                    have TW := hide (TW.out.two hch hs9 hg9)
                    clear hs9 hg9 hch
                    have R2 := hide hrow
                    obtain ⟨a6, c6, hsv2, -, -⟩ := hrow.form
                    obtain ⟨nv2, hnv2⟩ : ∃ z, dd.wk.length = z := ⟨_, rfl⟩
                    rw [hnv2] at hsv2
                    subst hsv2
                    clear hrow hnv2
                    go_wp2_with fail
                    refine hK.out _ _ ?_ (fun zk => ?_)
                    · exact Z9.out
                    clear hK K
                    try go_frame
                    apply tk 11 kza11 rfl (by kernel_rfl) (fun _ _ _ h => h) zk
                    · intro wq zq
                      go_simp
                      try rfl
                    go_frame
                    apply tk 12 kza12 rfl (by kernel_rfl) (fun _ _ _ h => h) zk
                    · intro wq zq
                      go_simp
                      try rfl
                    go_frame
                    apply tk 13 kza13 rfl (by kernel_rfl) (fun _ _ _ h => h) zk
                    · intro wq zq
                      go_simp
                      try rfl
                    go_frame
                    have ny0 : V15.cell? ⟨V12.heap.size, 0, none⟩ = some (.int .i64 0) := by simp [Lib.cell_of_heap NY.out]
                    have ny1 : V15.cell? ⟨V12.heap.size, 1, none⟩ = some (.int .i64 0) := by simp [Lib.cell_of_heap NY.out]
                    have ny2 : V15.cell? ⟨V12.heap.size, 2, none⟩ = some (.int .u32 0) := by simp [Lib.cell_of_heap NY.out]
                    have ny3 : V15.cell? ⟨V12.heap.size, 3, none⟩ = some (.int .u32 0) := by simp [Lib.cell_of_heap NY.out]
                    have ny4 : V15.cell? ⟨V12.heap.size, 4, none⟩ = some (.bool false) := by simp [Lib.cell_of_heap NY.out]
                    have ny5 : V15.cell? ⟨V12.heap.size, 5, none⟩ = some (.slice none 0 0) := by simp [Lib.cell_of_heap NY.out]
                    have nyf : ∀ j, V15.frozen? ⟨V12.heap.size, j, none⟩ = false := frz NY.out
                    have HSY := hide (did_set NY.out (.int .i64 dd.f) (.int .i64 dd.v.n) (.int .u32 dd.v.s) (.int .u32 dd.v.g) (.bool dd.ok) (.slice a6 nv2 c6))
                    refine Go.Proofs.Ytbblmbbpicinlaa.rd 14 kza14 rfl (by kernel_rfl) fun K hK => ?_
                    go_simp
                    refine hK.out _ _ ?_ (fun zk => ?_)
                    · exact zk.trans HSY.out.2 (fun z hz e => .inr e)
                    clear hK K
                    try go_frame
                    apply tk 15 kza15 rfl (by kernel_rfl) (fun _ _ _ h => h) zk
                    · intro wq zq
                      go_simp
                      try rfl
                    go_frame
                    refine wpAnyH_done (by kernel_rfl) ?_ _
                    obtain ⟨V16, hV16⟩ : ∃ z, ((((((V15.setCell ⟨V12.heap.size, 0, none⟩ (.int .i64 dd.f)).setCell ⟨V12.heap.size, 1, none⟩ (.int .i64 dd.v.n)).setCell ⟨V12.heap.size, 2, none⟩ (.int .u32 dd.v.s)).setCell ⟨V12.heap.size, 3, none⟩ (.int .u32 dd.v.g)).setCell ⟨V12.heap.size, 4, none⟩ (.bool dd.ok)).setCell ⟨V12.heap.size, 5, none⟩ (.slice a6 nv2 c6)) = z := ⟨_, rfl⟩
                    have hse := HSY.out
                    rw [hV16] at hse zk ⊢
                    have ne9 : ∀ {b : Nat} {cs9 : Array Value} {T9 : TypeId}, V15.heap[b]? = some (.cells cs9 T9 (0, 0)) → T9 ≠ 72 → ¬ b = V12.heap.size := fun h1 h2 e => by rw [e, NY.out] at h1; injection h1 with h1; injection h1 with _ h3 _; exact h2 h3.symm
                    have nxy : ¬ V4.heap.size = V12.heap.size := fun e => by have h1 := SXY.out; omega
                    have TW := hide (TW.out.away hse.2 (TW.out.s1.nb NY.out (by decide)) (TW.out.s2.nb NY.out (by decide)) (fun e => ne9 TW.out.sa (by decide) e.symm) (by have h1 := SXY.out; have h2 := SZX.out; omega))
                    have NX := hide (hse.2.box NX.out nxy)
                    have R1 := hide (Row.ch R1.out hse.2 (fun b hb e => by obtain ⟨_, _, cur9, e9⟩ := own_in R1.out hb; exact ne9 e9 (by decide) e))
                    have R2 := hide (Row.ch R2.out hse.2 (fun b hb e => by obtain ⟨_, _, cur9, e9⟩ := own_in R2.out hb; exact ne9 e9 (by decide) e))
                    have NY := hide hse.1
                    clear hse ne9 nxy hV16
                    clear ny0 ny1 ny2 ny3 ny4 ny5
                    clear nyf
                    have nx0 : V16.cell? ⟨V4.heap.size, 0, none⟩ = some (.int .i64 dd.f) := by simp [Lib.cell_of_heap NX.out]
                    have nx1 : V16.cell? ⟨V4.heap.size, 1, none⟩ = some (.int .i64 dd.v.n) := by simp [Lib.cell_of_heap NX.out]
                    have nx2 : V16.cell? ⟨V4.heap.size, 2, none⟩ = some (.int .u32 dd.v.s) := by simp [Lib.cell_of_heap NX.out]
                    have nx3 : V16.cell? ⟨V4.heap.size, 3, none⟩ = some (.int .u32 dd.v.g) := by simp [Lib.cell_of_heap NX.out]
                    have nx4 : V16.cell? ⟨V4.heap.size, 4, none⟩ = some (.bool dd.ok) := by simp [Lib.cell_of_heap NX.out]
                    have nx5 : V16.cell? ⟨V4.heap.size, 5, none⟩ = some (.slice a5 nv c5) := by simp [Lib.cell_of_heap NX.out]
                    have ny0 : V16.cell? ⟨V12.heap.size, 0, none⟩ = some (.int .i64 dd.f) := by simp [Lib.cell_of_heap NY.out]
                    have ny1 : V16.cell? ⟨V12.heap.size, 1, none⟩ = some (.int .i64 dd.v.n) := by simp [Lib.cell_of_heap NY.out]
                    have ny2 : V16.cell? ⟨V12.heap.size, 2, none⟩ = some (.int .u32 dd.v.s) := by simp [Lib.cell_of_heap NY.out]
                    have ny3 : V16.cell? ⟨V12.heap.size, 3, none⟩ = some (.int .u32 dd.v.g) := by simp [Lib.cell_of_heap NY.out]
                    have ny4 : V16.cell? ⟨V12.heap.size, 4, none⟩ = some (.bool dd.ok) := by simp [Lib.cell_of_heap NY.out]
                    have ny5 : V16.cell? ⟨V12.heap.size, 5, none⟩ = some (.slice a6 nv2 c6) := by simp [Lib.cell_of_heap NY.out]
                    clear zk HXX nq1 nq2
                    go_wp2_with fail
                    clear nx0 nx1 nx2 nx3 nx4 nx5 ny0 ny1 ny2 ny3 ny4 ny5
                    refine (same_eq (d := dd) R1.out R2.out (by have := ST.out.2.2.2; omega)).mono ?_
                    rintro e V17 ⟨rfl, hb⟩
                    have hc9 := Ch.of_below (Q := fun _ => False) hb
                    have TW := hide (TW.out.quiet (hc9))
                    have NX := hide ((hc9).box NX.out (fun h => h))
                    have NY := hide ((hc9).box NY.out (fun h => h))
                    have R1 := hide (Row.ch R1.out (hc9) (fun _ _ h => h))
                    have R2 := hide (Row.ch R2.out (hc9) (fun _ _ h => h))
                    clear hb hc9
                    go_wp2_with fail
                    obtain ⟨FA, hpa, -, -⟩ := TW.out.s1.book
                    refine (face.all hpa (by have := ST.out.2.1; have h1 := WO.out.2.1; have h2 := HL.out.2; omega)).mono ?_
                    rintro e V18 ⟨va, rfl, hra, hb⟩
                    have RA := hide hra
                    have hc9 := Ch.of_below (Q := fun _ => False) hb
                    have TW := hide (TW.out.quiet (hc9))
                    clear hb hc9 hra hpa
                    go_wp2_with fail
                    obtain ⟨FB, hpb, -, -⟩ := TW.out.s2.book
                    refine (face.all hpb (by have := ST.out.2.1; have h1 := WO.out.2.1; have h2 := HL.out.2; omega)).mono ?_
                    rintro e V19 ⟨vb, rfl, hrb, hb⟩
                    have RB := hide hrb
                    have hc9 := Ch.of_below (Q := fun _ => False) hb
                    have RA := hide (Row.ch RA.out hc9 (fun _ _ h => h))
                    have TW := hide (TW.out.quiet (hc9))
                    clear hb hc9 hrb hpb
                    go_wp2_with fail
                    refine (waits_eq RA.out RB.out rfl (by have h0 := sel_le isNow l1; have := ST.out.2.1; have h1 := WO.out.2.1; have h2 := HL.out.2; omega)).mono ?_
                    rintro e V20 ⟨rfl, hb⟩
                    have hc9 := Ch.of_below (Q := fun _ => False) hb
                    have TW := hide (TW.out.quiet (hc9))
                    clear hb hc9
                    go_wp2_with fail
                    refine ⟨?rel, ?measure⟩
                    case rel => exact ⟨k + 1, HL.out.1, HL.out.2, rfl, hide ⟨_, _, _, _, TW.out, ST.out.1, by have h1 := ST.out.2.1; have h2 := WO.out.2.1; omega, WO.out.2.2.set _⟩⟩
                    case measure =>
                      show 400 - ((k : Int) + 1).toNat < 400 - (k : Int).toNat
                      have := HL.out
                      omega
                  | false =>
                    have HSD := hide hsd
                    have HRD := hide hrd
                    clear hsd hrd
                    obtain ⟨V21, hV21⟩ : ∃ z, V4.alloc (.cells #[.int .i64 1, .int .i64 0, .int .u32 0, .int .u32 0, .bool false, .slice none 0 0] 72) = z := ⟨_, rfl⟩
                    try rw [hV21]
                    have NX := hide (show V21.heap[V4.heap.size]? = some (.cells #[.int .i64 1, .int .i64 0, .int .u32 0, .int .u32 0, .bool false, .slice none 0 0] 72 (0, 0)) by rw [← hV21]; exact heap_new _ _)
                    have SZX := hide (show w.heap.size ≤ V4.heap.size from TW.out.bl.size)
                    have cA : Ch (fun _ => False) V4 V21 := by rw [← hV21]; exact Ch.alloc _ _
                    have TW := hide (TW.out.quiet (cA))
                    have NG := hide ((cA).box NG.out (fun h => h))
                    have AB := hide (AB.out.mv ((cA).box AB.out.1 (fun h => h)))
                    have HV21 := hide hV21
                    clear cA hV21
                    have ng0 : (V4.alloc (.cells #[.int .i64 1, .int .i64 0, .int .u32 0, .int .u32 0, .bool false, .slice none 0 0] 72)).cell? ⟨V1.heap.size, 0, none⟩ = some (.int .u32 (11 + (pkW y.1.g 8 : Int))) := by rw [HV21.out]; simp [Lib.cell_of_heap NG.out]
                    have ng1 : (V4.alloc (.cells #[.int .i64 1, .int .i64 0, .int .u32 0, .int .u32 0, .bool false, .slice none 0 0] 72)).cell? ⟨V1.heap.size, 1, none⟩ = some (.int .u32 1) := by rw [HV21.out]; simp [Lib.cell_of_heap NG.out]
                    go_wp2_with fail
                    rw [HV21.out]
                    clear ng0 ng1
                    clear t0 t1 t2 t3 ug ut uc hcl2
                    have AI := hide (show ArmsIn V21 (some ⟨ga, 0, none⟩) ga [x] from ⟨fun _ => rfl, by have := AB.out.2.take 1; exact this⟩)
                    have XU := hide XOK.out.1
                    have XA := hide (show ∀ z ∈ [x], AmOk z from fun z hz => by rw [List.mem_singleton.1 hz]; exact XOK.out.1)
                    have AK := hide (show akA l ks (11 + (pkW y.1.g 8 : Int), 1) [x] = ([], 0) from by rw [ak_one (gr := (11 + (pkW y.1.g 8 : Int), 1)) (by unfold nnH; simp) NW.out HNX.out HKX.out, HRD.out]; rfl)
                    refine (park_go (cap := c3) (az := [x]) TW.out.s1 (by have h1 := WO.out.2.1; have h2 := HL.out.2; omega) TW.out.sa AI.out XA.out (by simp) (gr := (11 + (pkW y.1.g 8 : Int), 1)) GU.out.1 GU.out.2 (fun _ => TW.out.s1.nb AB.out.1 (by decide)) (by rw [AK.out]) (by rw [AK.out])).mono ?_
                    rintro e V22 ⟨rfl, G3, hs9, hg9, hch⟩
                    have NG := hide (TW.out.s1.keep hch NG.out (by decide))
                    have NX := hide (TW.out.s1.keep hch NX.out (by decide))
                    have AB := hide (AB.out.mv (TW.out.s1.keep hch AB.out.1 (by decide)))
                    have TW := hide (TW.out.one hch hs9 hg9)
                    clear hs9 hg9 hch
                    obtain ⟨V23, hV23⟩ : ∃ z, V22.alloc (.cells #[.int .i64 0, .int .i64 0, .int .u32 0, .int .u32 0, .bool false, .slice none 0 0] 72) = z := ⟨_, rfl⟩
                    try rw [hV23]
                    have NY := hide (show V23.heap[V22.heap.size]? = some (.cells #[.int .i64 0, .int .i64 0, .int .u32 0, .int .u32 0, .bool false, .slice none 0 0] 72 (0, 0)) by rw [← hV23]; exact heap_new _ _)
                    have SXY := hide (show V4.heap.size < V22.heap.size from (Array.getElem?_eq_some_iff.1 NX.out).1)
                    have cA : Ch (fun _ => False) V22 V23 := by rw [← hV23]; exact Ch.alloc _ _
                    have TW := hide (TW.out.quiet (cA))
                    have NG := hide ((cA).box NG.out (fun h => h))
                    have NX := hide ((cA).box NX.out (fun h => h))
                    have AB := hide (AB.out.mv ((cA).box AB.out.1 (fun h => h)))
                    have HV23 := hide hV23
                    clear cA hV23
                    have HXV23 := hide HV23.out
                    obtain ⟨y0, y1, y2, y3, y4, y5⟩ := AB.out.2 0 (by simp)
                    simp only [List.getElem_cons_zero, Nat.zero_mul, Nat.zero_add] at y0 y1 y2 y3 y4 y5
                    rw [HSD.out] at y2
                    rw [← HXV23.out] at y0 y1 y2 y3 y4 y5
                    go_wp2_with fail
                    rw [HXV23.out]
                    clear y0 y1 y2 y3 y4 y5
                    refine wp_reg (fun z => G2 z ∨ z = V22.heap.size) (R := fun V => Ch (fun _ => False) V23 V) (by kernel_rfl) (Ch.drew _) (fun V cV zk => ?_)
                    have TW := hide (TW.out.quiet (cV))
                    have NG := hide ((cV).box NG.out (fun h => h))
                    have NX := hide ((cV).box NX.out (fun h => h))
                    have NY := hide ((cV).box NY.out (fun h => h))
                    have AB := hide (AB.out.mv ((cV).box AB.out.1 (fun h => h)))
                    clear cV
                    have nq1 : ¬ (G2 V1.heap.size ∨ V1.heap.size = V22.heap.size) := fun e => e.elim (TW.out.s2.nb NG.out (by decide)) (fun e => by have h1 := NG.out; rw [e, NY.out] at h1; injection h1 with h1; injection h1 with _ h4 _; exact absurd h4 (by decide))
                    have nq2 : ¬ (G2 ga ∨ ga = V22.heap.size) := fun e => e.elim (TW.out.s2.nb AB.out.1 (by decide)) (fun e => by have h1 := AB.out.1; rw [e, NY.out] at h1; injection h1 with h1; injection h1 with _ h4 _; exact absurd h4 (by decide))
                    have HXX := hide (fun wq (kq : Ch (fun z => G2 z ∨ z = V22.heap.size) V wq) => show (wq.cell? ⟨V1.heap.size, 0, none⟩ = some (.int .u32 (11 + (pkW y.1.g 8 : Int))) ∧ wq.cell? ⟨V1.heap.size, 1, none⟩ = some (.int .u32 1)) ∧ wq.cell? ⟨ga, 0, none⟩ = some (.int .u32 x.h.1) ∧ wq.cell? ⟨ga, 1, none⟩ = some (.int .u32 x.h.2) ∧ wq.cell? ⟨ga, 3, none⟩ = some (.int .i64 x.v.n) ∧ wq.cell? ⟨ga, 4, none⟩ = some (.int .u32 x.v.s) ∧ wq.cell? ⟨ga, 5, none⟩ = some (.int .u32 x.v.g) from by
                      have e1 := Lib.cell_of_heap (kq.box NG.out nq1)
                      obtain ⟨y0, y1, y2, y3, y4, y5⟩ := (AB.out.mv (kq.box AB.out.1 nq2)).2 0 (by simp)
                      simp only [List.getElem_cons_zero, Nat.zero_mul, Nat.zero_add] at y0 y1 y2 y3 y4 y5
                      exact ⟨⟨by simp [e1], by simp [e1]⟩, y0, y1, y3, y4, y5⟩)
                    apply tk 0 kza0 rfl (by kernel_rfl) (fun _ _ _ h => h) zk
                    · intro wq zq
                      go_simp
                      try rfl
                    go_frame
                    apply tk 1 kza1 rfl (by kernel_rfl) (fun _ _ _ h => h) zk
                    · intro wq zq
                      obtain ⟨⟨s0, s1⟩, s2, s3, s4, s5, s6⟩ := HXX.out _ zq
                      go_simp
                      try rfl
                    go_frame
                    apply tk 2 kza2 rfl (by kernel_rfl) (fun _ _ _ h => h) zk
                    · intro wq zq
                      go_simp
                      try rfl
                    go_frame
                    apply tk 3 kza3 rfl (by kernel_rfl) (fun _ _ _ h => h) zk
                    · intro wq zq
                      go_simp
                      try rfl
                    go_frame
                    apply tk 4 kza4 rfl (by kernel_rfl) (fun _ _ _ h => h) zk
                    · intro wq zq
                      go_simp
                      try rfl
                    go_frame
                    apply tk 5 kza5 rfl (by kernel_rfl) (fun _ _ _ h => h) zk
                    · intro wq zq
                      obtain ⟨⟨s0, s1⟩, s2, s3, s4, s5, s6⟩ := HXX.out _ zq
                      go_simp
                      try rfl
                    go_frame
                    apply tk 6 kza6 rfl (by kernel_rfl) (fun _ _ _ h => h) zk
                    · intro wq zq
                      go_simp
                      try rfl
                    go_frame
                    apply tk 7 kza7 rfl (by kernel_rfl) (fun _ _ _ h => h) zk
                    · intro wq zq
                      go_simp
                      try rfl
                    go_frame
                    apply tk 8 kza8 rfl (by kernel_rfl) (fun _ _ _ h => h) zk
                    · intro wq zq
                      go_simp
                      try rfl
                    go_frame
                    apply tk 9 kza9 rfl (by kernel_rfl) (fun _ _ _ h => h) zk
                    · intro wq zq
                      obtain ⟨⟨s0, s1⟩, s2, s3, s4, s5, s6⟩ := HXX.out _ zq
                      go_simp
                      try rfl
                    go_frame
                    refine Go.Proofs.Ytbblmbbpicinlaa.rd 10 kza10 rfl (by kernel_rfl) fun K hK => ?_
                    go_simp
                    refine (sw_send TW.out.s2 (by have h1 := WO.out.2.1; have h2 := HL.out.2; omega) WO.out.1 HKX.out HNX.out (g := (11 + (pkW y.1.g 8 : Int), 1)) (by unfold nnH; simp) NW.out XU.out.h1 XU.out.h2 GU.out.1 GU.out.2 XU.out.v0 XU.out.v1 XU.out.v2).mono ?_
                    rintro e V24 ⟨sv2, rfl, ha⟩
                    rw [snd_park (gr := (11 + (pkW y.1.g 8 : Int), 1)) HKX.out HSD.out HRD.out] at ha ⊢
                    simp only at ha ⊢
                    rw [setk_self TW.out.s2.nd (fnk_some HKX.out).1] at ha
                    have Z9 := hide (zk.trans ha.ch (fun _ _ h => .inl h))
                    obtain ⟨⟨G4, hs9, hg9⟩, hrow, hch⟩ := ha
                    have NG := hide (TW.out.s2.keep hch NG.out (by decide))
                    have NX := hide (TW.out.s2.keep hch NX.out (by decide))
                    have NY := hide (TW.out.s2.keep hch NY.out (by decide))
                    have AB := hide (AB.out.mv (TW.out.s2.keep hch AB.out.1 (by decide)))
                    have TW := hide (TW.out.two hch hs9 hg9)
                    clear hs9 hg9 hch
                    have R2 := hide hrow
                    obtain ⟨a6, c6, hsv2, -, -⟩ := hrow.form
                    have hsv2 : sv2 = .slice a6 0 c6 := hsv2
                    subst hsv2
                    clear hrow
                    go_wp2_with fail
                    refine hK.out _ _ ?_ (fun zk => ?_)
                    · exact Z9.out
                    clear hK K
                    try go_frame
                    apply tk 11 kza11 rfl (by kernel_rfl) (fun _ _ _ h => h) zk
                    · intro wq zq
                      go_simp
                      try rfl
                    go_frame
                    apply tk 12 kza12 rfl (by kernel_rfl) (fun _ _ _ h => h) zk
                    · intro wq zq
                      go_simp
                      try rfl
                    go_frame
                    apply tk 13 kza13 rfl (by kernel_rfl) (fun _ _ _ h => h) zk
                    · intro wq zq
                      go_simp
                      try rfl
                    go_frame
                    have ny0 : V24.cell? ⟨V22.heap.size, 0, none⟩ = some (.int .i64 0) := by simp [Lib.cell_of_heap NY.out]
                    have ny1 : V24.cell? ⟨V22.heap.size, 1, none⟩ = some (.int .i64 0) := by simp [Lib.cell_of_heap NY.out]
                    have ny2 : V24.cell? ⟨V22.heap.size, 2, none⟩ = some (.int .u32 0) := by simp [Lib.cell_of_heap NY.out]
                    have ny3 : V24.cell? ⟨V22.heap.size, 3, none⟩ = some (.int .u32 0) := by simp [Lib.cell_of_heap NY.out]
                    have ny4 : V24.cell? ⟨V22.heap.size, 4, none⟩ = some (.bool false) := by simp [Lib.cell_of_heap NY.out]
                    have ny5 : V24.cell? ⟨V22.heap.size, 5, none⟩ = some (.slice none 0 0) := by simp [Lib.cell_of_heap NY.out]
                    have nyf : ∀ j, V24.frozen? ⟨V22.heap.size, j, none⟩ = false := frz NY.out
                    have HSY := hide (did_set NY.out (.int .i64 1) (.int .i64 zVa.n) (.int .u32 zVa.s) (.int .u32 zVa.g) (.bool false) (.slice a6 0 c6))
                    refine Go.Proofs.Ytbblmbbpicinlaa.rd 14 kza14 rfl (by kernel_rfl) fun K hK => ?_
                    go_simp
                    refine hK.out _ _ ?_ (fun zk => ?_)
                    · exact zk.trans HSY.out.2 (fun z hz e => .inr e)
                    clear hK K
                    try go_frame
                    apply tk 15 kza15 rfl (by kernel_rfl) (fun _ _ _ h => h) zk
                    · intro wq zq
                      go_simp
                      try rfl
                    go_frame
                    refine wpAnyH_done (by kernel_rfl) ?_ _
                    obtain ⟨V25, hV25⟩ : ∃ z, ((((((V24.setCell ⟨V22.heap.size, 0, none⟩ (.int .i64 1)).setCell ⟨V22.heap.size, 1, none⟩ (.int .i64 zVa.n)).setCell ⟨V22.heap.size, 2, none⟩ (.int .u32 zVa.s)).setCell ⟨V22.heap.size, 3, none⟩ (.int .u32 zVa.g)).setCell ⟨V22.heap.size, 4, none⟩ (.bool false)).setCell ⟨V22.heap.size, 5, none⟩ (.slice a6 0 c6)) = z := ⟨_, rfl⟩
                    have hse := HSY.out
                    rw [hV25] at hse zk ⊢
                    have ne9 : ∀ {b : Nat} {cs9 : Array Value} {T9 : TypeId}, V24.heap[b]? = some (.cells cs9 T9 (0, 0)) → T9 ≠ 72 → ¬ b = V22.heap.size := fun h1 h2 e => by rw [e, NY.out] at h1; injection h1 with h1; injection h1 with _ h3 _; exact h2 h3.symm
                    have nxy : ¬ V4.heap.size = V22.heap.size := fun e => by have h1 := SXY.out; omega
                    have TW := hide (TW.out.away hse.2 (TW.out.s1.nb NY.out (by decide)) (TW.out.s2.nb NY.out (by decide)) (fun e => ne9 TW.out.sa (by decide) e.symm) (by have h1 := SXY.out; have h2 := SZX.out; omega))
                    have NX := hide (hse.2.box NX.out nxy)
                    have R2 := hide (Row.ch R2.out hse.2 (fun b hb e => by obtain ⟨_, _, cur9, e9⟩ := own_in R2.out hb; exact ne9 e9 (by decide) e))
                    have NY := hide hse.1
                    clear hse ne9 nxy hV25
                    clear ny0 ny1 ny2 ny3 ny4 ny5
                    clear nyf
                    have nx0 : V25.cell? ⟨V4.heap.size, 0, none⟩ = some (.int .i64 1) := by simp [Lib.cell_of_heap NX.out]
                    have nx1 : V25.cell? ⟨V4.heap.size, 1, none⟩ = some (.int .i64 0) := by simp [Lib.cell_of_heap NX.out]
                    have nx2 : V25.cell? ⟨V4.heap.size, 2, none⟩ = some (.int .u32 0) := by simp [Lib.cell_of_heap NX.out]
                    have nx3 : V25.cell? ⟨V4.heap.size, 3, none⟩ = some (.int .u32 0) := by simp [Lib.cell_of_heap NX.out]
                    have nx4 : V25.cell? ⟨V4.heap.size, 4, none⟩ = some (.bool false) := by simp [Lib.cell_of_heap NX.out]
                    have nx5 : V25.cell? ⟨V4.heap.size, 5, none⟩ = some (.slice none 0 0) := by simp [Lib.cell_of_heap NX.out]
                    have ny0 : V25.cell? ⟨V22.heap.size, 0, none⟩ = some (.int .i64 1) := by simp [Lib.cell_of_heap NY.out]
                    have ny1 : V25.cell? ⟨V22.heap.size, 1, none⟩ = some (.int .i64 zVa.n) := by simp [Lib.cell_of_heap NY.out]
                    have ny2 : V25.cell? ⟨V22.heap.size, 2, none⟩ = some (.int .u32 zVa.s) := by simp [Lib.cell_of_heap NY.out]
                    have ny3 : V25.cell? ⟨V22.heap.size, 3, none⟩ = some (.int .u32 zVa.g) := by simp [Lib.cell_of_heap NY.out]
                    have ny4 : V25.cell? ⟨V22.heap.size, 4, none⟩ = some (.bool false) := by simp [Lib.cell_of_heap NY.out]
                    have ny5 : V25.cell? ⟨V22.heap.size, 5, none⟩ = some (.slice a6 0 c6) := by simp [Lib.cell_of_heap NY.out]
                    clear zk HXX nq1 nq2
                    go_wp2_with fail
                    clear nx0 nx1 nx2 nx3 nx4 nx5 ny0 ny1 ny2 ny3 ny4 ny5
                    refine (same_eq (d := ⟨1, zVa, false, []⟩) (Row.nil _ 0) R2.out (by simp)).mono ?_
                    rintro e V26 ⟨rfl, hb⟩
                    have hc9 := Ch.of_below (Q := fun _ => False) hb
                    have TW := hide (TW.out.quiet (hc9))
                    have NX := hide ((hc9).box NX.out (fun h => h))
                    have NY := hide ((hc9).box NY.out (fun h => h))
                    have R2 := hide (Row.ch R2.out (hc9) (fun _ _ h => h))
                    clear hb hc9
                    go_wp2_with fail
                    obtain ⟨FA, hpa, -, -⟩ := TW.out.s1.book
                    have PKL := hide (show (pkL (11 + (pkW y.1.g 8 : Int), 1) 0 [x] l).length ≤ l.length + 1 from pkL_len (11 + (pkW y.1.g 8 : Int), 1) 0 [x] l)
                    refine (face.all hpa (by have := PKL.out; have h1 := WO.out.2.1; have h2 := HL.out.2; omega)).mono ?_
                    rintro e V27 ⟨va, rfl, hra, hb⟩
                    have RA := hide hra
                    have hc9 := Ch.of_below (Q := fun _ => False) hb
                    have TW := hide (TW.out.quiet (hc9))
                    clear hb hc9 hra hpa
                    go_wp2_with fail
                    obtain ⟨FB, hpb, -, -⟩ := TW.out.s2.book
                    refine (face.all hpb (by have := PKL.out; have h1 := WO.out.2.1; have h2 := HL.out.2; omega)).mono ?_
                    rintro e V28 ⟨vb, rfl, hrb, hb⟩
                    have RB := hide hrb
                    have hc9 := Ch.of_below (Q := fun _ => False) hb
                    have RA := hide (Row.ch RA.out hc9 (fun _ _ h => h))
                    have TW := hide (TW.out.quiet (hc9))
                    clear hb hc9 hrb hpb
                    go_wp2_with fail
                    refine (waits_eq RA.out RB.out rfl (by have h0 := sel_le isNow (pkL (11 + (pkW y.1.g 8 : Int), 1) 0 [x] l); have := PKL.out; have h1 := WO.out.2.1; have h2 := HL.out.2; omega)).mono ?_
                    rintro e V29 ⟨rfl, hb⟩
                    have hc9 := Ch.of_below (Q := fun _ => False) hb
                    have TW := hide (TW.out.quiet (hc9))
                    clear hb hc9
                    have PWO := hide (show WtOk (pkL (11 + (pkW y.1.g 8 : Int), 1) 0 [x] l) from (WtOk.put WO.out.1 GU.out.1 GU.out.2 (by constructor <;> decide) (wt_ok XU.out).2.1 (wt_ok XU.out).2.2.1 (wt_ok XU.out).2.2.2))
                    go_wp2_with fail
                    refine ⟨?rel, ?measure⟩
                    case rel => exact ⟨k + 1, HL.out.1, HL.out.2, rfl, hide ⟨_, _, _, _, TW.out, PWO.out, by have h1 := PKL.out; have h2 := WO.out.2.1; omega, WO.out.2.2⟩⟩
                    case measure =>
                      show 400 - ((k : Int) + 1).toNat < 400 - (k : Int).toNat
                      have := HL.out
                      omega
                | false =>
                  cases hrd : rdA l ks x with
                  | true =>
                    have HSD := hide hsd
                    have HRD := hide hrd
                    clear hsd hrd
                    obtain ⟨V30, hV30⟩ : ∃ z, V4.alloc (.cells #[.int .i64 1, .int .i64 0, .int .u32 0, .int .u32 0, .bool false, .slice none 0 0] 72) = z := ⟨_, rfl⟩
                    try rw [hV30]
                    have NX := hide (show V30.heap[V4.heap.size]? = some (.cells #[.int .i64 1, .int .i64 0, .int .u32 0, .int .u32 0, .bool false, .slice none 0 0] 72 (0, 0)) by rw [← hV30]; exact heap_new _ _)
                    have SZX := hide (show w.heap.size ≤ V4.heap.size from TW.out.bl.size)
                    have cA : Ch (fun _ => False) V4 V30 := by rw [← hV30]; exact Ch.alloc _ _
                    have TW := hide (TW.out.quiet (cA))
                    have NG := hide ((cA).box NG.out (fun h => h))
                    have AB := hide (AB.out.mv ((cA).box AB.out.1 (fun h => h)))
                    have HV30 := hide hV30
                    clear cA hV30
                    have ng0 : (V4.alloc (.cells #[.int .i64 1, .int .i64 0, .int .u32 0, .int .u32 0, .bool false, .slice none 0 0] 72)).cell? ⟨V1.heap.size, 0, none⟩ = some (.int .u32 (11 + (pkW y.1.g 8 : Int))) := by rw [HV30.out]; simp [Lib.cell_of_heap NG.out]
                    have ng1 : (V4.alloc (.cells #[.int .i64 1, .int .i64 0, .int .u32 0, .int .u32 0, .bool false, .slice none 0 0] 72)).cell? ⟨V1.heap.size, 1, none⟩ = some (.int .u32 1) := by rw [HV30.out]; simp [Lib.cell_of_heap NG.out]
                    go_wp2_with fail
                    rw [HV30.out]
                    clear ng0 ng1
                    clear t0 t1 t2 t3 ug ut uc hcl2
                    have AI := hide (show ArmsIn V30 (some ⟨ga, 0, none⟩) ga [x] from ⟨fun _ => rfl, by have := AB.out.2.take 1; exact this⟩)
                    have XU := hide XOK.out.1
                    have XA := hide (show ∀ z ∈ [x], AmOk z from fun z hz => by rw [List.mem_singleton.1 hz]; exact XOK.out.1)
                    have AK := hide (show akA l ks (11 + (pkW y.1.g 8 : Int), 1) [x] = ([0], 0) from by rw [ak_one (gr := (11 + (pkW y.1.g 8 : Int), 1)) (by unfold nnH; simp) NW.out HNX.out HKX.out, HRD.out]; rfl)
                    refine (park_ready (cap := c3) (az := [x]) TW.out.s1 (by have h1 := WO.out.2.1; have h2 := HL.out.2; omega) TW.out.sa AI.out XA.out (by simp) (gr := (11 + (pkW y.1.g 8 : Int), 1)) GU.out.1 GU.out.2 (by rw [AK.out]) (by rw [AK.out]; decide)).mono ?_
                    rintro e V31 ⟨rfl, hb⟩
                    have hc9 := Ch.of_below (Q := fun _ => False) hb
                    have TW := hide (TW.out.quiet (hc9))
                    have NG := hide ((hc9).box NG.out (fun h => h))
                    have NX := hide ((hc9).box NX.out (fun h => h))
                    have AB := hide (AB.out.mv ((hc9).box AB.out.1 (fun h => h)))
                    clear hb hc9
                    have ng0 : V31.cell? ⟨V1.heap.size, 0, none⟩ = some (.int .u32 (11 + (pkW y.1.g 8 : Int))) := by simp [Lib.cell_of_heap NG.out]
                    have ng1 : V31.cell? ⟨V1.heap.size, 1, none⟩ = some (.int .u32 1) := by simp [Lib.cell_of_heap NG.out]
                    go_wp2_with fail
                    clear ng0 ng1
                    have AI := hide (show ArmsIn V31 (some ⟨ga, 0, none⟩) ga [x] from ⟨fun _ => rfl, by have := AB.out.2.take 1; exact this⟩)
                    refine (take_recv (cap := c3) (az := [x]) TW.out.s1 (by have h1 := WO.out.2.1; have h2 := HL.out.2; omega) TW.out.sa AI.out XA.out (by simp) (gr := (11 + (pkW y.1.g 8 : Int), 1)) GU.out.1 GU.out.2 (i := 0) WO.out.1 (by rw [AK.out]) (m := 0) (by simp) rfl (by rw [AK.out]; rfl) (x := x) rfl HSD.out HNX.out HKX.out).mono ?_
                    rintro e V32 ⟨sv1, rfl, ha⟩
                    have ST := hide (rcv_st (k := kx) (g := (11 + (pkW y.1.g 8 : Int), 1)) WO.out.1 GU.out.1 GU.out.2)
                    obtain ⟨R, hR⟩ : ∃ z, rcvK l kx (11 + (pkW y.1.g 8 : Int), 1) = z := ⟨_, rfl⟩
                    rw [hR] at ha ST ⊢
                    have HR := hide hR
                    clear hR
                    obtain ⟨dd, l1, k1⟩ := R
                    simp only at ha ST ⊢
                    obtain ⟨⟨G3, hs9, hg9⟩, hrow, hch⟩ := ha
                    have NG := hide (TW.out.s1.keep hch NG.out (by decide))
                    have NX := hide (TW.out.s1.keep hch NX.out (by decide))
                    have AB := hide (AB.out.mv (TW.out.s1.keep hch AB.out.1 (by decide)))
                    have TW := hide (TW.out.one hch hs9 hg9)
                    clear hs9 hg9 hch
                    have R1 := hide hrow
                    obtain ⟨a5, c5, hsv1, -, -⟩ := hrow.form
                    obtain ⟨nv, hnv⟩ : ∃ z, dd.wk.length = z := ⟨_, rfl⟩
                    rw [hnv] at hsv1
                    subst hsv1
                    clear hrow hnv
                    have nx0 : V32.cell? ⟨V4.heap.size, 0, none⟩ = some (.int .i64 1) := by simp [Lib.cell_of_heap NX.out]
                    have nx1 : V32.cell? ⟨V4.heap.size, 1, none⟩ = some (.int .i64 0) := by simp [Lib.cell_of_heap NX.out]
                    have nx2 : V32.cell? ⟨V4.heap.size, 2, none⟩ = some (.int .u32 0) := by simp [Lib.cell_of_heap NX.out]
                    have nx3 : V32.cell? ⟨V4.heap.size, 3, none⟩ = some (.int .u32 0) := by simp [Lib.cell_of_heap NX.out]
                    have nx4 : V32.cell? ⟨V4.heap.size, 4, none⟩ = some (.bool false) := by simp [Lib.cell_of_heap NX.out]
                    have nx5 : V32.cell? ⟨V4.heap.size, 5, none⟩ = some (.slice none 0 0) := by simp [Lib.cell_of_heap NX.out]
                    have nxf : ∀ j, V32.frozen? ⟨V4.heap.size, j, none⟩ = false := frz NX.out
                    have HSE := hide (did_set NX.out (.int .i64 dd.f) (.int .i64 dd.v.n) (.int .u32 dd.v.s) (.int .u32 dd.v.g) (.bool dd.ok) (.slice a5 nv c5))
                    obtain ⟨V33, hV33⟩ : ∃ z, ((((((V32.setCell ⟨V4.heap.size, 0, none⟩ (.int .i64 dd.f)).setCell ⟨V4.heap.size, 1, none⟩ (.int .i64 dd.v.n)).setCell ⟨V4.heap.size, 2, none⟩ (.int .u32 dd.v.s)).setCell ⟨V4.heap.size, 3, none⟩ (.int .u32 dd.v.g)).setCell ⟨V4.heap.size, 4, none⟩ (.bool dd.ok)).setCell ⟨V4.heap.size, 5, none⟩ (.slice a5 nv c5)) = z := ⟨_, rfl⟩
                    have hse := HSE.out
                    rw [hV33] at hse
                    have SZE := hide (show V33.heap.size = V32.heap.size by rw [← hV33]; simp only [size_set])
                    have HV33 := hide hV33
                    have ne9 : ∀ {b : Nat} {cs9 : Array Value} {T9 : TypeId}, V32.heap[b]? = some (.cells cs9 T9 (0, 0)) → T9 ≠ 72 → ¬ b = V4.heap.size := fun h1 h2 e => by rw [e, NX.out] at h1; injection h1 with h1; injection h1 with _ h3 _; exact h2 h3.symm
                    have sz9 : w.heap.size ≤ V4.heap.size := SZX.out
                    have TW := hide (TW.out.away hse.2 (TW.out.s1.nb NX.out (by decide)) (TW.out.s2.nb NX.out (by decide)) (fun e => ne9 TW.out.sa (by decide) e.symm) sz9)
                    have NG := hide (hse.2.box NG.out (ne9 NG.out (by decide)))
                    have AB := hide (AB.out.mv (hse.2.box AB.out.1 (ne9 AB.out.1 (by decide))))
                    have R1 := hide (Row.ch R1.out hse.2 (fun b hb e => by obtain ⟨_, _, cur9, e9⟩ := own_in R1.out hb; exact ne9 e9 (by decide) e))
                    have NX := hide hse.1
                    clear hse ne9 sz9 hV33
                    obtain ⟨V34, hV34⟩ : ∃ z, V33.alloc (.cells #[.int .i64 0, .int .i64 0, .int .u32 0, .int .u32 0, .bool false, .slice none 0 0] 72) = z := ⟨_, rfl⟩
                    have NY := hide (show V34.heap[V32.heap.size]? = some (.cells #[.int .i64 0, .int .i64 0, .int .u32 0, .int .u32 0, .bool false, .slice none 0 0] 72 (0, 0)) by rw [← hV34, ← SZE.out]; exact heap_new _ _)
                    have SXY := hide (show V4.heap.size < V32.heap.size from by rw [← SZE.out]; exact (Array.getElem?_eq_some_iff.1 NX.out).1)
                    have cA : Ch (fun _ => False) V33 V34 := by rw [← hV34]; exact Ch.alloc _ _
                    have TW := hide (TW.out.quiet (cA))
                    have NG := hide ((cA).box NG.out (fun h => h))
                    have NX := hide ((cA).box NX.out (fun h => h))
                    have AB := hide (AB.out.mv ((cA).box AB.out.1 (fun h => h)))
                    have R1 := hide (Row.ch R1.out (cA) (fun _ _ h => h))
                    have HV34 := hide hV34
                    clear cA hV34
                    have HXV34 := hide (show (((((((V32.setCell ⟨V4.heap.size, 0, none⟩ (.int .i64 dd.f)).setCell ⟨V4.heap.size, 1, none⟩ (.int .i64 dd.v.n)).setCell ⟨V4.heap.size, 2, none⟩ (.int .u32 dd.v.s)).setCell ⟨V4.heap.size, 3, none⟩ (.int .u32 dd.v.g)).setCell ⟨V4.heap.size, 4, none⟩ (.bool dd.ok)).setCell ⟨V4.heap.size, 5, none⟩ (.slice a5 nv c5)).alloc (.cells #[.int .i64 0, .int .i64 0, .int .u32 0, .int .u32 0, .bool false, .slice none 0 0] 72)) = V34 from by rw [HV33.out, HV34.out])
                    obtain ⟨y0, y1, y2, y3, y4, y5⟩ := AB.out.2 0 (by simp)
                    simp only [List.getElem_cons_zero, Nat.zero_mul, Nat.zero_add] at y0 y1 y2 y3 y4 y5
                    rw [HSD.out] at y2
                    rw [← HXV34.out] at y0 y1 y2 y3 y4 y5
                    go_wp2_with fail
                    rw [HXV34.out]
                    clear y0 y1 y2 y3 y4 y5
                    clear nx0 nx1 nx2 nx3 nx4 nx5
                    clear nxf
                    refine wp_reg (fun z => G2 z ∨ z = V32.heap.size) (R := fun V => Ch (fun _ => False) V34 V) (by kernel_rfl) (Ch.drew _) (fun V cV zk => ?_)
                    have TW := hide (TW.out.quiet (cV))
                    have NG := hide ((cV).box NG.out (fun h => h))
                    have NX := hide ((cV).box NX.out (fun h => h))
                    have NY := hide ((cV).box NY.out (fun h => h))
                    have AB := hide (AB.out.mv ((cV).box AB.out.1 (fun h => h)))
                    have R1 := hide (Row.ch R1.out (cV) (fun _ _ h => h))
                    clear cV
                    have nq1 : ¬ (G2 V1.heap.size ∨ V1.heap.size = V32.heap.size) := fun e => e.elim (TW.out.s2.nb NG.out (by decide)) (fun e => by have h1 := NG.out; rw [e, NY.out] at h1; injection h1 with h1; injection h1 with _ h4 _; exact absurd h4 (by decide))
                    have nq2 : ¬ (G2 ga ∨ ga = V32.heap.size) := fun e => e.elim (TW.out.s2.nb AB.out.1 (by decide)) (fun e => by have h1 := AB.out.1; rw [e, NY.out] at h1; injection h1 with h1; injection h1 with _ h4 _; exact absurd h4 (by decide))
                    have HXX := hide (fun wq (kq : Ch (fun z => G2 z ∨ z = V32.heap.size) V wq) => show (wq.cell? ⟨V1.heap.size, 0, none⟩ = some (.int .u32 (11 + (pkW y.1.g 8 : Int))) ∧ wq.cell? ⟨V1.heap.size, 1, none⟩ = some (.int .u32 1)) ∧ wq.cell? ⟨ga, 0, none⟩ = some (.int .u32 x.h.1) ∧ wq.cell? ⟨ga, 1, none⟩ = some (.int .u32 x.h.2) ∧ wq.cell? ⟨ga, 3, none⟩ = some (.int .i64 x.v.n) ∧ wq.cell? ⟨ga, 4, none⟩ = some (.int .u32 x.v.s) ∧ wq.cell? ⟨ga, 5, none⟩ = some (.int .u32 x.v.g) from by
                      have e1 := Lib.cell_of_heap (kq.box NG.out nq1)
                      obtain ⟨y0, y1, y2, y3, y4, y5⟩ := (AB.out.mv (kq.box AB.out.1 nq2)).2 0 (by simp)
                      simp only [List.getElem_cons_zero, Nat.zero_mul, Nat.zero_add] at y0 y1 y2 y3 y4 y5
                      exact ⟨⟨by simp [e1], by simp [e1]⟩, y0, y1, y3, y4, y5⟩)
                    apply tk 0 kzb0 rfl (by kernel_rfl) (fun _ _ _ h => h) zk
                    · intro wq zq
                      go_simp
                      try rfl
                    go_frame
                    apply tk 1 kzb1 rfl (by kernel_rfl) (fun _ _ _ h => h) zk
                    · intro wq zq
                      obtain ⟨⟨s0, s1⟩, s2, s3, s4, s5, s6⟩ := HXX.out _ zq
                      go_simp
                      try rfl
                    go_frame
                    apply tk 2 kzb2 rfl (by kernel_rfl) (fun _ _ _ h => h) zk
                    · intro wq zq
                      go_simp
                      try rfl
                    go_frame
                    apply tk 3 kzb3 rfl (by kernel_rfl) (fun _ _ _ h => h) zk
                    · intro wq zq
                      go_simp
                      try rfl
                    go_frame
                    apply tk 4 kzb4 rfl (by kernel_rfl) (fun _ _ _ h => h) zk
                    · intro wq zq
                      go_simp
                      try rfl
                    go_frame
                    apply tk 5 kzb5 rfl (by kernel_rfl) (fun _ _ _ h => h) zk
                    · intro wq zq
                      obtain ⟨⟨s0, s1⟩, s2, s3, s4, s5, s6⟩ := HXX.out _ zq
                      go_simp
                      try rfl
                    go_frame
                    refine Go.Proofs.Ytbblmbbpicinlaa.rd 6 kzb6 rfl (by kernel_rfl) fun K hK => ?_
                    go_simp
                    refine (sw_recv TW.out.s2 (by have h1 := WO.out.2.1; have h2 := HL.out.2; omega) WO.out.1 HKX.out HNX.out (g := (11 + (pkW y.1.g 8 : Int), 1)) (by unfold nnH; simp) NW.out XU.out.h1 XU.out.h2 GU.out.1 GU.out.2).mono ?_
                    rintro e V35 ⟨sv2, rfl, ha⟩
                    rw [HR.out] at ha ⊢
                    simp only at ha ⊢
                    have Z9 := hide (zk.trans ha.ch (fun _ _ h => .inl h))
                    obtain ⟨⟨G4, hs9, hg9⟩, hrow, hch⟩ := ha
                    have NG := hide (TW.out.s2.keep hch NG.out (by decide))
                    have NX := hide (TW.out.s2.keep hch NX.out (by decide))
                    have NY := hide (TW.out.s2.keep hch NY.out (by decide))
                    have AB := hide (AB.out.mv (TW.out.s2.keep hch AB.out.1 (by decide)))
                    have R1 := hide (TW.out.s2.krow hch R1.out)
                    have TW := hide (TW.out.two hch hs9 hg9)
                    clear hs9 hg9 hch
                    have R2 := hide hrow
                    obtain ⟨a6, c6, hsv2, -, -⟩ := hrow.form
                    obtain ⟨nv2, hnv2⟩ : ∃ z, dd.wk.length = z := ⟨_, rfl⟩
                    rw [hnv2] at hsv2
                    subst hsv2
                    clear hrow hnv2
                    go_wp2_with fail
                    refine hK.out _ _ ?_ (fun zk => ?_)
                    · exact Z9.out
                    clear hK K
                    try go_frame
                    apply tk 7 kzb7 rfl (by kernel_rfl) (fun _ _ _ h => h) zk
                    · intro wq zq
                      go_simp
                      try rfl
                    go_frame
                    apply tk 8 kzb8 rfl (by kernel_rfl) (fun _ _ _ h => h) zk
                    · intro wq zq
                      go_simp
                      try rfl
                    go_frame
                    apply tk 9 kzb9 rfl (by kernel_rfl) (fun _ _ _ h => h) zk
                    · intro wq zq
                      go_simp
                      try rfl
                    go_frame
                    have ny0 : V35.cell? ⟨V32.heap.size, 0, none⟩ = some (.int .i64 0) := by simp [Lib.cell_of_heap NY.out]
                    have ny1 : V35.cell? ⟨V32.heap.size, 1, none⟩ = some (.int .i64 0) := by simp [Lib.cell_of_heap NY.out]
                    have ny2 : V35.cell? ⟨V32.heap.size, 2, none⟩ = some (.int .u32 0) := by simp [Lib.cell_of_heap NY.out]
                    have ny3 : V35.cell? ⟨V32.heap.size, 3, none⟩ = some (.int .u32 0) := by simp [Lib.cell_of_heap NY.out]
                    have ny4 : V35.cell? ⟨V32.heap.size, 4, none⟩ = some (.bool false) := by simp [Lib.cell_of_heap NY.out]
                    have ny5 : V35.cell? ⟨V32.heap.size, 5, none⟩ = some (.slice none 0 0) := by simp [Lib.cell_of_heap NY.out]
                    have nyf : ∀ j, V35.frozen? ⟨V32.heap.size, j, none⟩ = false := frz NY.out
                    have HSY := hide (did_set NY.out (.int .i64 dd.f) (.int .i64 dd.v.n) (.int .u32 dd.v.s) (.int .u32 dd.v.g) (.bool dd.ok) (.slice a6 nv2 c6))
                    refine Go.Proofs.Ytbblmbbpicinlaa.rd 10 kzb10 rfl (by kernel_rfl) fun K hK => ?_
                    go_simp
                    refine hK.out _ _ ?_ (fun zk => ?_)
                    · exact zk.trans HSY.out.2 (fun z hz e => .inr e)
                    clear hK K
                    try go_frame
                    apply tk 11 kzb11 rfl (by kernel_rfl) (fun _ _ _ h => h) zk
                    · intro wq zq
                      go_simp
                      try rfl
                    go_frame
                    refine wpAnyH_done (by kernel_rfl) ?_ _
                    obtain ⟨V36, hV36⟩ : ∃ z, ((((((V35.setCell ⟨V32.heap.size, 0, none⟩ (.int .i64 dd.f)).setCell ⟨V32.heap.size, 1, none⟩ (.int .i64 dd.v.n)).setCell ⟨V32.heap.size, 2, none⟩ (.int .u32 dd.v.s)).setCell ⟨V32.heap.size, 3, none⟩ (.int .u32 dd.v.g)).setCell ⟨V32.heap.size, 4, none⟩ (.bool dd.ok)).setCell ⟨V32.heap.size, 5, none⟩ (.slice a6 nv2 c6)) = z := ⟨_, rfl⟩
                    have hse := HSY.out
                    rw [hV36] at hse zk ⊢
                    have ne9 : ∀ {b : Nat} {cs9 : Array Value} {T9 : TypeId}, V35.heap[b]? = some (.cells cs9 T9 (0, 0)) → T9 ≠ 72 → ¬ b = V32.heap.size := fun h1 h2 e => by rw [e, NY.out] at h1; injection h1 with h1; injection h1 with _ h3 _; exact h2 h3.symm
                    have nxy : ¬ V4.heap.size = V32.heap.size := fun e => by have h1 := SXY.out; omega
                    have TW := hide (TW.out.away hse.2 (TW.out.s1.nb NY.out (by decide)) (TW.out.s2.nb NY.out (by decide)) (fun e => ne9 TW.out.sa (by decide) e.symm) (by have h1 := SXY.out; have h2 := SZX.out; omega))
                    have NX := hide (hse.2.box NX.out nxy)
                    have R1 := hide (Row.ch R1.out hse.2 (fun b hb e => by obtain ⟨_, _, cur9, e9⟩ := own_in R1.out hb; exact ne9 e9 (by decide) e))
                    have R2 := hide (Row.ch R2.out hse.2 (fun b hb e => by obtain ⟨_, _, cur9, e9⟩ := own_in R2.out hb; exact ne9 e9 (by decide) e))
                    have NY := hide hse.1
                    clear hse ne9 nxy hV36
                    clear ny0 ny1 ny2 ny3 ny4 ny5
                    clear nyf
                    have nx0 : V36.cell? ⟨V4.heap.size, 0, none⟩ = some (.int .i64 dd.f) := by simp [Lib.cell_of_heap NX.out]
                    have nx1 : V36.cell? ⟨V4.heap.size, 1, none⟩ = some (.int .i64 dd.v.n) := by simp [Lib.cell_of_heap NX.out]
                    have nx2 : V36.cell? ⟨V4.heap.size, 2, none⟩ = some (.int .u32 dd.v.s) := by simp [Lib.cell_of_heap NX.out]
                    have nx3 : V36.cell? ⟨V4.heap.size, 3, none⟩ = some (.int .u32 dd.v.g) := by simp [Lib.cell_of_heap NX.out]
                    have nx4 : V36.cell? ⟨V4.heap.size, 4, none⟩ = some (.bool dd.ok) := by simp [Lib.cell_of_heap NX.out]
                    have nx5 : V36.cell? ⟨V4.heap.size, 5, none⟩ = some (.slice a5 nv c5) := by simp [Lib.cell_of_heap NX.out]
                    have ny0 : V36.cell? ⟨V32.heap.size, 0, none⟩ = some (.int .i64 dd.f) := by simp [Lib.cell_of_heap NY.out]
                    have ny1 : V36.cell? ⟨V32.heap.size, 1, none⟩ = some (.int .i64 dd.v.n) := by simp [Lib.cell_of_heap NY.out]
                    have ny2 : V36.cell? ⟨V32.heap.size, 2, none⟩ = some (.int .u32 dd.v.s) := by simp [Lib.cell_of_heap NY.out]
                    have ny3 : V36.cell? ⟨V32.heap.size, 3, none⟩ = some (.int .u32 dd.v.g) := by simp [Lib.cell_of_heap NY.out]
                    have ny4 : V36.cell? ⟨V32.heap.size, 4, none⟩ = some (.bool dd.ok) := by simp [Lib.cell_of_heap NY.out]
                    have ny5 : V36.cell? ⟨V32.heap.size, 5, none⟩ = some (.slice a6 nv2 c6) := by simp [Lib.cell_of_heap NY.out]
                    clear zk HXX nq1 nq2
                    go_wp2_with fail
                    clear nx0 nx1 nx2 nx3 nx4 nx5 ny0 ny1 ny2 ny3 ny4 ny5
                    refine (same_eq (d := dd) R1.out R2.out (by have := ST.out.2.2.2; omega)).mono ?_
                    rintro e V37 ⟨rfl, hb⟩
                    have hc9 := Ch.of_below (Q := fun _ => False) hb
                    have TW := hide (TW.out.quiet (hc9))
                    have NX := hide ((hc9).box NX.out (fun h => h))
                    have NY := hide ((hc9).box NY.out (fun h => h))
                    have R1 := hide (Row.ch R1.out (hc9) (fun _ _ h => h))
                    have R2 := hide (Row.ch R2.out (hc9) (fun _ _ h => h))
                    clear hb hc9
                    go_wp2_with fail
                    obtain ⟨FA, hpa, -, -⟩ := TW.out.s1.book
                    refine (face.all hpa (by have := ST.out.2.1; have h1 := WO.out.2.1; have h2 := HL.out.2; omega)).mono ?_
                    rintro e V38 ⟨va, rfl, hra, hb⟩
                    have RA := hide hra
                    have hc9 := Ch.of_below (Q := fun _ => False) hb
                    have TW := hide (TW.out.quiet (hc9))
                    clear hb hc9 hra hpa
                    go_wp2_with fail
                    obtain ⟨FB, hpb, -, -⟩ := TW.out.s2.book
                    refine (face.all hpb (by have := ST.out.2.1; have h1 := WO.out.2.1; have h2 := HL.out.2; omega)).mono ?_
                    rintro e V39 ⟨vb, rfl, hrb, hb⟩
                    have RB := hide hrb
                    have hc9 := Ch.of_below (Q := fun _ => False) hb
                    have RA := hide (Row.ch RA.out hc9 (fun _ _ h => h))
                    have TW := hide (TW.out.quiet (hc9))
                    clear hb hc9 hrb hpb
                    go_wp2_with fail
                    refine (waits_eq RA.out RB.out rfl (by have h0 := sel_le isNow l1; have := ST.out.2.1; have h1 := WO.out.2.1; have h2 := HL.out.2; omega)).mono ?_
                    rintro e V40 ⟨rfl, hb⟩
                    have hc9 := Ch.of_below (Q := fun _ => False) hb
                    have TW := hide (TW.out.quiet (hc9))
                    clear hb hc9
                    go_wp2_with fail
                    refine ⟨?rel, ?measure⟩
                    case rel => exact ⟨k + 1, HL.out.1, HL.out.2, rfl, hide ⟨_, _, _, _, TW.out, ST.out.1, by have h1 := ST.out.2.1; have h2 := WO.out.2.1; omega, WO.out.2.2.set _⟩⟩
                    case measure =>
                      show 400 - ((k : Int) + 1).toNat < 400 - (k : Int).toNat
                      have := HL.out
                      omega
                  | false =>
                    have HSD := hide hsd
                    have HRD := hide hrd
                    clear hsd hrd
                    obtain ⟨V41, hV41⟩ : ∃ z, V4.alloc (.cells #[.int .i64 1, .int .i64 0, .int .u32 0, .int .u32 0, .bool false, .slice none 0 0] 72) = z := ⟨_, rfl⟩
                    try rw [hV41]
                    have NX := hide (show V41.heap[V4.heap.size]? = some (.cells #[.int .i64 1, .int .i64 0, .int .u32 0, .int .u32 0, .bool false, .slice none 0 0] 72 (0, 0)) by rw [← hV41]; exact heap_new _ _)
                    have SZX := hide (show w.heap.size ≤ V4.heap.size from TW.out.bl.size)
                    have cA : Ch (fun _ => False) V4 V41 := by rw [← hV41]; exact Ch.alloc _ _
                    have TW := hide (TW.out.quiet (cA))
                    have NG := hide ((cA).box NG.out (fun h => h))
                    have AB := hide (AB.out.mv ((cA).box AB.out.1 (fun h => h)))
                    have HV41 := hide hV41
                    clear cA hV41
                    have ng0 : (V4.alloc (.cells #[.int .i64 1, .int .i64 0, .int .u32 0, .int .u32 0, .bool false, .slice none 0 0] 72)).cell? ⟨V1.heap.size, 0, none⟩ = some (.int .u32 (11 + (pkW y.1.g 8 : Int))) := by rw [HV41.out]; simp [Lib.cell_of_heap NG.out]
                    have ng1 : (V4.alloc (.cells #[.int .i64 1, .int .i64 0, .int .u32 0, .int .u32 0, .bool false, .slice none 0 0] 72)).cell? ⟨V1.heap.size, 1, none⟩ = some (.int .u32 1) := by rw [HV41.out]; simp [Lib.cell_of_heap NG.out]
                    go_wp2_with fail
                    rw [HV41.out]
                    clear ng0 ng1
                    clear t0 t1 t2 t3 ug ut uc hcl2
                    have AI := hide (show ArmsIn V41 (some ⟨ga, 0, none⟩) ga [x] from ⟨fun _ => rfl, by have := AB.out.2.take 1; exact this⟩)
                    have XU := hide XOK.out.1
                    have XA := hide (show ∀ z ∈ [x], AmOk z from fun z hz => by rw [List.mem_singleton.1 hz]; exact XOK.out.1)
                    have AK := hide (show akA l ks (11 + (pkW y.1.g 8 : Int), 1) [x] = ([], 0) from by rw [ak_one (gr := (11 + (pkW y.1.g 8 : Int), 1)) (by unfold nnH; simp) NW.out HNX.out HKX.out, HRD.out]; rfl)
                    refine (park_go (cap := c3) (az := [x]) TW.out.s1 (by have h1 := WO.out.2.1; have h2 := HL.out.2; omega) TW.out.sa AI.out XA.out (by simp) (gr := (11 + (pkW y.1.g 8 : Int), 1)) GU.out.1 GU.out.2 (fun _ => TW.out.s1.nb AB.out.1 (by decide)) (by rw [AK.out]) (by rw [AK.out])).mono ?_
                    rintro e V42 ⟨rfl, G3, hs9, hg9, hch⟩
                    have NG := hide (TW.out.s1.keep hch NG.out (by decide))
                    have NX := hide (TW.out.s1.keep hch NX.out (by decide))
                    have AB := hide (AB.out.mv (TW.out.s1.keep hch AB.out.1 (by decide)))
                    have TW := hide (TW.out.one hch hs9 hg9)
                    clear hs9 hg9 hch
                    obtain ⟨V43, hV43⟩ : ∃ z, V42.alloc (.cells #[.int .i64 0, .int .i64 0, .int .u32 0, .int .u32 0, .bool false, .slice none 0 0] 72) = z := ⟨_, rfl⟩
                    try rw [hV43]
                    have NY := hide (show V43.heap[V42.heap.size]? = some (.cells #[.int .i64 0, .int .i64 0, .int .u32 0, .int .u32 0, .bool false, .slice none 0 0] 72 (0, 0)) by rw [← hV43]; exact heap_new _ _)
                    have SXY := hide (show V4.heap.size < V42.heap.size from (Array.getElem?_eq_some_iff.1 NX.out).1)
                    have cA : Ch (fun _ => False) V42 V43 := by rw [← hV43]; exact Ch.alloc _ _
                    have TW := hide (TW.out.quiet (cA))
                    have NG := hide ((cA).box NG.out (fun h => h))
                    have NX := hide ((cA).box NX.out (fun h => h))
                    have AB := hide (AB.out.mv ((cA).box AB.out.1 (fun h => h)))
                    have HV43 := hide hV43
                    clear cA hV43
                    have HXV43 := hide HV43.out
                    obtain ⟨y0, y1, y2, y3, y4, y5⟩ := AB.out.2 0 (by simp)
                    simp only [List.getElem_cons_zero, Nat.zero_mul, Nat.zero_add] at y0 y1 y2 y3 y4 y5
                    rw [HSD.out] at y2
                    rw [← HXV43.out] at y0 y1 y2 y3 y4 y5
                    go_wp2_with fail
                    rw [HXV43.out]
                    clear y0 y1 y2 y3 y4 y5
                    refine wp_reg (fun z => G2 z ∨ z = V42.heap.size) (R := fun V => Ch (fun _ => False) V43 V) (by kernel_rfl) (Ch.drew _) (fun V cV zk => ?_)
                    have TW := hide (TW.out.quiet (cV))
                    have NG := hide ((cV).box NG.out (fun h => h))
                    have NX := hide ((cV).box NX.out (fun h => h))
                    have NY := hide ((cV).box NY.out (fun h => h))
                    have AB := hide (AB.out.mv ((cV).box AB.out.1 (fun h => h)))
                    clear cV
                    have nq1 : ¬ (G2 V1.heap.size ∨ V1.heap.size = V42.heap.size) := fun e => e.elim (TW.out.s2.nb NG.out (by decide)) (fun e => by have h1 := NG.out; rw [e, NY.out] at h1; injection h1 with h1; injection h1 with _ h4 _; exact absurd h4 (by decide))
                    have nq2 : ¬ (G2 ga ∨ ga = V42.heap.size) := fun e => e.elim (TW.out.s2.nb AB.out.1 (by decide)) (fun e => by have h1 := AB.out.1; rw [e, NY.out] at h1; injection h1 with h1; injection h1 with _ h4 _; exact absurd h4 (by decide))
                    have HXX := hide (fun wq (kq : Ch (fun z => G2 z ∨ z = V42.heap.size) V wq) => show (wq.cell? ⟨V1.heap.size, 0, none⟩ = some (.int .u32 (11 + (pkW y.1.g 8 : Int))) ∧ wq.cell? ⟨V1.heap.size, 1, none⟩ = some (.int .u32 1)) ∧ wq.cell? ⟨ga, 0, none⟩ = some (.int .u32 x.h.1) ∧ wq.cell? ⟨ga, 1, none⟩ = some (.int .u32 x.h.2) ∧ wq.cell? ⟨ga, 3, none⟩ = some (.int .i64 x.v.n) ∧ wq.cell? ⟨ga, 4, none⟩ = some (.int .u32 x.v.s) ∧ wq.cell? ⟨ga, 5, none⟩ = some (.int .u32 x.v.g) from by
                      have e1 := Lib.cell_of_heap (kq.box NG.out nq1)
                      obtain ⟨y0, y1, y2, y3, y4, y5⟩ := (AB.out.mv (kq.box AB.out.1 nq2)).2 0 (by simp)
                      simp only [List.getElem_cons_zero, Nat.zero_mul, Nat.zero_add] at y0 y1 y2 y3 y4 y5
                      exact ⟨⟨by simp [e1], by simp [e1]⟩, y0, y1, y3, y4, y5⟩)
                    apply tk 0 kzb0 rfl (by kernel_rfl) (fun _ _ _ h => h) zk
                    · intro wq zq
                      go_simp
                      try rfl
                    go_frame
                    apply tk 1 kzb1 rfl (by kernel_rfl) (fun _ _ _ h => h) zk
                    · intro wq zq
                      obtain ⟨⟨s0, s1⟩, s2, s3, s4, s5, s6⟩ := HXX.out _ zq
                      go_simp
                      try rfl
                    go_frame
                    apply tk 2 kzb2 rfl (by kernel_rfl) (fun _ _ _ h => h) zk
                    · intro wq zq
                      go_simp
                      try rfl
                    go_frame
                    apply tk 3 kzb3 rfl (by kernel_rfl) (fun _ _ _ h => h) zk
                    · intro wq zq
                      go_simp
                      try rfl
                    go_frame
                    apply tk 4 kzb4 rfl (by kernel_rfl) (fun _ _ _ h => h) zk
                    · intro wq zq
                      go_simp
                      try rfl
                    go_frame
                    apply tk 5 kzb5 rfl (by kernel_rfl) (fun _ _ _ h => h) zk
                    · intro wq zq
                      obtain ⟨⟨s0, s1⟩, s2, s3, s4, s5, s6⟩ := HXX.out _ zq
                      go_simp
                      try rfl
                    go_frame
                    refine Go.Proofs.Ytbblmbbpicinlaa.rd 6 kzb6 rfl (by kernel_rfl) fun K hK => ?_
                    go_simp
                    refine (sw_recv TW.out.s2 (by have h1 := WO.out.2.1; have h2 := HL.out.2; omega) WO.out.1 HKX.out HNX.out (g := (11 + (pkW y.1.g 8 : Int), 1)) (by unfold nnH; simp) NW.out XU.out.h1 XU.out.h2 GU.out.1 GU.out.2).mono ?_
                    rintro e V44 ⟨sv2, rfl, ha⟩
                    rw [rcv_park (gr := (11 + (pkW y.1.g 8 : Int), 1)) HKX.out HSD.out HRD.out] at ha ⊢
                    simp only at ha ⊢
                    rw [setk_self TW.out.s2.nd (fnk_some HKX.out).1] at ha
                    have Z9 := hide (zk.trans ha.ch (fun _ _ h => .inl h))
                    obtain ⟨⟨G4, hs9, hg9⟩, hrow, hch⟩ := ha
                    have NG := hide (TW.out.s2.keep hch NG.out (by decide))
                    have NX := hide (TW.out.s2.keep hch NX.out (by decide))
                    have NY := hide (TW.out.s2.keep hch NY.out (by decide))
                    have AB := hide (AB.out.mv (TW.out.s2.keep hch AB.out.1 (by decide)))
                    have TW := hide (TW.out.two hch hs9 hg9)
                    clear hs9 hg9 hch
                    have R2 := hide hrow
                    obtain ⟨a6, c6, hsv2, -, -⟩ := hrow.form
                    have hsv2 : sv2 = .slice a6 0 c6 := hsv2
                    subst hsv2
                    clear hrow
                    go_wp2_with fail
                    refine hK.out _ _ ?_ (fun zk => ?_)
                    · exact Z9.out
                    clear hK K
                    try go_frame
                    apply tk 7 kzb7 rfl (by kernel_rfl) (fun _ _ _ h => h) zk
                    · intro wq zq
                      go_simp
                      try rfl
                    go_frame
                    apply tk 8 kzb8 rfl (by kernel_rfl) (fun _ _ _ h => h) zk
                    · intro wq zq
                      go_simp
                      try rfl
                    go_frame
                    apply tk 9 kzb9 rfl (by kernel_rfl) (fun _ _ _ h => h) zk
                    · intro wq zq
                      go_simp
                      try rfl
                    go_frame
                    have ny0 : V44.cell? ⟨V42.heap.size, 0, none⟩ = some (.int .i64 0) := by simp [Lib.cell_of_heap NY.out]
                    have ny1 : V44.cell? ⟨V42.heap.size, 1, none⟩ = some (.int .i64 0) := by simp [Lib.cell_of_heap NY.out]
                    have ny2 : V44.cell? ⟨V42.heap.size, 2, none⟩ = some (.int .u32 0) := by simp [Lib.cell_of_heap NY.out]
                    have ny3 : V44.cell? ⟨V42.heap.size, 3, none⟩ = some (.int .u32 0) := by simp [Lib.cell_of_heap NY.out]
                    have ny4 : V44.cell? ⟨V42.heap.size, 4, none⟩ = some (.bool false) := by simp [Lib.cell_of_heap NY.out]
                    have ny5 : V44.cell? ⟨V42.heap.size, 5, none⟩ = some (.slice none 0 0) := by simp [Lib.cell_of_heap NY.out]
                    have nyf : ∀ j, V44.frozen? ⟨V42.heap.size, j, none⟩ = false := frz NY.out
                    have HSY := hide (did_set NY.out (.int .i64 1) (.int .i64 zVa.n) (.int .u32 zVa.s) (.int .u32 zVa.g) (.bool false) (.slice a6 0 c6))
                    refine Go.Proofs.Ytbblmbbpicinlaa.rd 10 kzb10 rfl (by kernel_rfl) fun K hK => ?_
                    go_simp
                    refine hK.out _ _ ?_ (fun zk => ?_)
                    · exact zk.trans HSY.out.2 (fun z hz e => .inr e)
                    clear hK K
                    try go_frame
                    apply tk 11 kzb11 rfl (by kernel_rfl) (fun _ _ _ h => h) zk
                    · intro wq zq
                      go_simp
                      try rfl
                    go_frame
                    refine wpAnyH_done (by kernel_rfl) ?_ _
                    obtain ⟨V45, hV45⟩ : ∃ z, ((((((V44.setCell ⟨V42.heap.size, 0, none⟩ (.int .i64 1)).setCell ⟨V42.heap.size, 1, none⟩ (.int .i64 zVa.n)).setCell ⟨V42.heap.size, 2, none⟩ (.int .u32 zVa.s)).setCell ⟨V42.heap.size, 3, none⟩ (.int .u32 zVa.g)).setCell ⟨V42.heap.size, 4, none⟩ (.bool false)).setCell ⟨V42.heap.size, 5, none⟩ (.slice a6 0 c6)) = z := ⟨_, rfl⟩
                    have hse := HSY.out
                    rw [hV45] at hse zk ⊢
                    have ne9 : ∀ {b : Nat} {cs9 : Array Value} {T9 : TypeId}, V44.heap[b]? = some (.cells cs9 T9 (0, 0)) → T9 ≠ 72 → ¬ b = V42.heap.size := fun h1 h2 e => by rw [e, NY.out] at h1; injection h1 with h1; injection h1 with _ h3 _; exact h2 h3.symm
                    have nxy : ¬ V4.heap.size = V42.heap.size := fun e => by have h1 := SXY.out; omega
                    have TW := hide (TW.out.away hse.2 (TW.out.s1.nb NY.out (by decide)) (TW.out.s2.nb NY.out (by decide)) (fun e => ne9 TW.out.sa (by decide) e.symm) (by have h1 := SXY.out; have h2 := SZX.out; omega))
                    have NX := hide (hse.2.box NX.out nxy)
                    have R2 := hide (Row.ch R2.out hse.2 (fun b hb e => by obtain ⟨_, _, cur9, e9⟩ := own_in R2.out hb; exact ne9 e9 (by decide) e))
                    have NY := hide hse.1
                    clear hse ne9 nxy hV45
                    clear ny0 ny1 ny2 ny3 ny4 ny5
                    clear nyf
                    have nx0 : V45.cell? ⟨V4.heap.size, 0, none⟩ = some (.int .i64 1) := by simp [Lib.cell_of_heap NX.out]
                    have nx1 : V45.cell? ⟨V4.heap.size, 1, none⟩ = some (.int .i64 0) := by simp [Lib.cell_of_heap NX.out]
                    have nx2 : V45.cell? ⟨V4.heap.size, 2, none⟩ = some (.int .u32 0) := by simp [Lib.cell_of_heap NX.out]
                    have nx3 : V45.cell? ⟨V4.heap.size, 3, none⟩ = some (.int .u32 0) := by simp [Lib.cell_of_heap NX.out]
                    have nx4 : V45.cell? ⟨V4.heap.size, 4, none⟩ = some (.bool false) := by simp [Lib.cell_of_heap NX.out]
                    have nx5 : V45.cell? ⟨V4.heap.size, 5, none⟩ = some (.slice none 0 0) := by simp [Lib.cell_of_heap NX.out]
                    have ny0 : V45.cell? ⟨V42.heap.size, 0, none⟩ = some (.int .i64 1) := by simp [Lib.cell_of_heap NY.out]
                    have ny1 : V45.cell? ⟨V42.heap.size, 1, none⟩ = some (.int .i64 zVa.n) := by simp [Lib.cell_of_heap NY.out]
                    have ny2 : V45.cell? ⟨V42.heap.size, 2, none⟩ = some (.int .u32 zVa.s) := by simp [Lib.cell_of_heap NY.out]
                    have ny3 : V45.cell? ⟨V42.heap.size, 3, none⟩ = some (.int .u32 zVa.g) := by simp [Lib.cell_of_heap NY.out]
                    have ny4 : V45.cell? ⟨V42.heap.size, 4, none⟩ = some (.bool false) := by simp [Lib.cell_of_heap NY.out]
                    have ny5 : V45.cell? ⟨V42.heap.size, 5, none⟩ = some (.slice a6 0 c6) := by simp [Lib.cell_of_heap NY.out]
                    clear zk HXX nq1 nq2
                    go_wp2_with fail
                    clear nx0 nx1 nx2 nx3 nx4 nx5 ny0 ny1 ny2 ny3 ny4 ny5
                    refine (same_eq (d := ⟨1, zVa, false, []⟩) (Row.nil _ 0) R2.out (by simp)).mono ?_
                    rintro e V46 ⟨rfl, hb⟩
                    have hc9 := Ch.of_below (Q := fun _ => False) hb
                    have TW := hide (TW.out.quiet (hc9))
                    have NX := hide ((hc9).box NX.out (fun h => h))
                    have NY := hide ((hc9).box NY.out (fun h => h))
                    have R2 := hide (Row.ch R2.out (hc9) (fun _ _ h => h))
                    clear hb hc9
                    go_wp2_with fail
                    obtain ⟨FA, hpa, -, -⟩ := TW.out.s1.book
                    have PKL := hide (show (pkL (11 + (pkW y.1.g 8 : Int), 1) 0 [x] l).length ≤ l.length + 1 from pkL_len (11 + (pkW y.1.g 8 : Int), 1) 0 [x] l)
                    refine (face.all hpa (by have := PKL.out; have h1 := WO.out.2.1; have h2 := HL.out.2; omega)).mono ?_
                    rintro e V47 ⟨va, rfl, hra, hb⟩
                    have RA := hide hra
                    have hc9 := Ch.of_below (Q := fun _ => False) hb
                    have TW := hide (TW.out.quiet (hc9))
                    clear hb hc9 hra hpa
                    go_wp2_with fail
                    obtain ⟨FB, hpb, -, -⟩ := TW.out.s2.book
                    refine (face.all hpb (by have := PKL.out; have h1 := WO.out.2.1; have h2 := HL.out.2; omega)).mono ?_
                    rintro e V48 ⟨vb, rfl, hrb, hb⟩
                    have RB := hide hrb
                    have hc9 := Ch.of_below (Q := fun _ => False) hb
                    have RA := hide (Row.ch RA.out hc9 (fun _ _ h => h))
                    have TW := hide (TW.out.quiet (hc9))
                    clear hb hc9 hrb hpb
                    go_wp2_with fail
                    refine (waits_eq RA.out RB.out rfl (by have h0 := sel_le isNow (pkL (11 + (pkW y.1.g 8 : Int), 1) 0 [x] l); have := PKL.out; have h1 := WO.out.2.1; have h2 := HL.out.2; omega)).mono ?_
                    rintro e V49 ⟨rfl, hb⟩
                    have hc9 := Ch.of_below (Q := fun _ => False) hb
                    have TW := hide (TW.out.quiet (hc9))
                    clear hb hc9
                    have PWO := hide (show WtOk (pkL (11 + (pkW y.1.g 8 : Int), 1) 0 [x] l) from (WtOk.put WO.out.1 GU.out.1 GU.out.2 (by constructor <;> decide) (wt_ok XU.out).2.1 (wt_ok XU.out).2.2.1 (wt_ok XU.out).2.2.2))
                    go_wp2_with fail
                    refine ⟨?rel, ?measure⟩
                    case rel => exact ⟨k + 1, HL.out.1, HL.out.2, rfl, hide ⟨_, _, _, _, TW.out, PWO.out, by have h1 := PKL.out; have h2 := WO.out.2.1; omega, WO.out.2.2⟩⟩
                    case measure =>
                      show 400 - ((k : Int) + 1).toNat < 400 - (k : Int).toNat
                      have := HL.out
                      omega
        · have i3 : ¬ (n : Int) > 0 := by omega
          obtain ⟨l, ks, G, G2, tw, -⟩ := HI.out
          have TW := hide tw
          clear tw HI hlt h400 hn0 hk hk4
          go_wp2_with fail
          go_ret
          exact ⟨rfl, TW.out.bl⟩
      · have i2 : ¬ (k : Int) < 400 := by omega
        obtain ⟨l, ks, G, G2, tw, -⟩ := HI.out
        have TW := hide tw
        clear tw HI hlt h400 hk hk4
        go_wp2_with fail
        go_ret
        exact ⟨rfl, TW.out.bl⟩
    · have i1 : ¬ (k : Int) < (sc.length : Int) := by omega
      obtain ⟨l, ks, G, G2, tw, -⟩ := HI.out
      have TW := hide tw
      clear tw HI hlt hk hk4
      go_wp2_with fail
      go_ret
      exact ⟨rfl, TW.out.bl⟩

end Go.Proofs.Ytbblmbbpicinlaa
