/- The law of joined tokens: its walk at lists with an end behind. -/
import Derived.Test.YtkbgnbcphmkjkaaDoorWBA
namespace Go.Proofs.YtkbgnbcphmkjkaaDoor
open Go.RowKit

set_option maxRecDepth 100000 in
set_option maxHeartbeats 8000000 in
theorem lback_Bn {w : World} {b off cap K : Nat} {l : List RT} {m : List Tok} (hr : RRow w b off l) (hf : RFit l) (hL : l.length = K + 2) (hV : Vars w) (hj : jok l = true) (hs : (jtx l).length ≤ 20000) (hsc : scan (jtx l) = .ok m)
    (hml : m.length = K + 2) (htok : ∀ i (_ : i < K + 1) (h1 : i < l.length) (h2 : i < m.length), m[i].k = l[i].k ∧ m[i].t = l[i].st ∧ m[i].n = l[i].sn) (hcalls : ∀ (h : K < l.length), callsK l[K].k l[K].t.data.toList = false)
    (hend : ∀ (h : K + 1 < m.length), m[K + 1] = endAt (jtx l).length 1) (hlast : ∀ (h : K + 1 < l.length), l[K + 1].k = 0) :
    Calls Tryd.prog 3 #[.slice (some ⟨b, off, none⟩) (K + 2) cap] w fun e w' => e = .returned (.bool true) ∧ Below w.heap.size w w' := by
  have HV := hide hV
  obtain ⟨S, hS⟩ : ∃ S, (⟨(jtx l).toArray⟩ : ByteArray) = S := ⟨_, rfl⟩
  have hz : S.size = (jtx l).length := by rw [← hS, arr_size]
  have hzl : S.data.toList = jtx l := by rw [← hS, arr_list]
  have q : decide (20000 < (S.size : Int)) = false := decide_eq_false (by omega)
  have HJ := hide (join_yes (cap := cap) hr hf hL hV.toTab hj hS)
  rw [← hz] at hend
  rw [← hzl] at hsc
  have HSC := hide hsc
  have HML := hide hml
  have HTOK := hide htok
  have HCALLS := hide hcalls
  have HEND := hide hend
  have HLAST := hide hlast
  have HR := hide hr
  have HL := hide hL
  have hbound := hf.len
  rw [hL] at hbound
  have HSS := hide (show S.size ≤ 281474976710656 by omega)
  clear hV hr hf hL hj hS hz hzl hs hsc hml htok hcalls hend hlast
  go_enter Tryd.func3, Tryd.ntmps3
  go_wp2_with fail
  refine (unhide HJ).mono ?_
  rintro e w1 ⟨rfl, b1⟩
  have HB1 := hide b1
  have HV1 := hide ((unhide HV).below b1)
  clear b1
  go_wp2_with fail
  refine (join17 w1 (unhide HV1).toTab).mono ?_
  rintro e w2 ⟨rfl, b2⟩
  have HB2 := hide ((unhide HB1).trans (b2.mono (unhide HB1).size))
  have HV2 := hide ((unhide HV1).below b2)
  clear b2 HB1 HV1
  go_wp2_with fail
  refine (scan_is (unhide HSS) (unhide HV2) (unhide HSC) (unhide HML)).mono ?_
  rintro e w3 ⟨g, cp, rfl, hg, hrow, b3⟩
  have HB3 := hide ((unhide HB2).trans (b3.mono (unhide HB2).size))
  have HRow := hide hrow
  have HR3 := hide ((unhide HR).below (unhide HB3))
  clear b3 hg hrow HB2 HV2 HJ HV HSC
  have z0 := ((unhide HR3).cell (K + 1) (by rw [unhide HL]; omega)).1
  rw [unhide HLAST (by rw [unhide HL]; omega)] at z0
  have hn1 : (K : Int) + 2 - 1 = (K : Int) + 1 := by omega
  have c1 : ((K : Int) + 2 == (K : Int) + 1 + 2) = false := by simp; omega
  have c2 : ¬ ((K : Int) + 2 = (K : Int) + 1 + 2) := by omega
  go_wp2
  clear z0
  go_loopw [10] (fun i wr => ∃ k : Nat, k ≤ K + 1 ∧ i = .int .i64 (k : Int) ∧ Below w3.heap.size w3 wr) (fun i _ => K + 1 - (intOf i).toNat)
  case atStart => exact ⟨0, by omega, rfl, Below.refl _ _⟩
  case round =>
    obtain ⟨k, hk, rfl, hB⟩ := hrel
    have hgl := (unhide HRow).lt
    have HRr := hide ((unhide HR3).below hB)
    have HRowr := hide ((unhide HRow).below hB hgl (Nat.le_refl _))
    have hszr := hB.size
    have HBr := hide hB
    clear hB hgl
    by_cases hlt : k < K + 1
    · have hkl : k < l.length := by rw [unhide HL]; omega
      have hkm : k < m.length := by rw [unhide HML]; omega
      obtain ⟨z0, z1, z2, z3, z4⟩ := (unhide HRr).cell k hkl
      obtain ⟨t1, t2, t3⟩ := unhide HTOK k hlt hkl hkm
      generalize l[k] = x at *
      by_cases k3 : x.k = 3
      · have hst : x.st = [] := by unfold RT.st; rw [if_pos k3]
        have hsn : x.sn = x.n := by unfold RT.sn; rw [if_pos k3]
        rw [hst] at t2
        rw [hsn] at t3
        rw [k3] at t1 z0
        have HBx := hide ((unhide HBr).alloc hszr (.cells #[.int .i64 3, .string x.t, .int .i64 x.n, .int .i64 x.a, .int .i64 x.l] 28))
        have HRowx := hide ((unhide HRowr).below ((Below.refl wr.heap.size wr).alloc (Nat.le_refl _) (.cells #[.int .i64 3, .string x.t, .int .i64 x.n, .int .i64 x.a, .int .i64 x.l] 28)) (unhide HRowr).lt (Nat.le_refl _))
        obtain ⟨y0, y1, y2, y3, y4⟩ := (unhide HRowx).tell hkm t1 (by rw [t2]) t3
        generalize x.sn = sn at *
        generalize m[k].at_ = ma at *
        generalize m[k].line = mal at *
        clear t1 t2 t3 hst hsn k3
        go_wp2
        go_roundw
        case rel => exact ⟨k + 1, by omega, by go_num, (unhide HBx).alloc (by rw [World.size_alloc]; omega) _⟩
        case measure => simp [intOf]; omega
      · by_cases k6 : x.k = 6
        · have hst : x.st = [59] := by unfold RT.st; rw [if_neg k3, if_pos k6]
          rw [hst] at t2
          rw [k6] at t1 z0
          have HBx := hide ((unhide HBr).alloc hszr (.cells #[.int .i64 6, .string x.t, .int .i64 x.n, .int .i64 x.a, .int .i64 x.l] 28))
          have HRowx := hide ((unhide HRowr).below ((Below.refl wr.heap.size wr).alloc (Nat.le_refl _) (.cells #[.int .i64 6, .string x.t, .int .i64 x.n, .int .i64 x.a, .int .i64 x.l] 28)) (unhide HRowr).lt (Nat.le_refl _))
          obtain ⟨y0, y1, y2, y3, y4⟩ := (unhide HRowx).tell hkm t1 (by rw [t2]) t3
          generalize x.sn = sn at *
          generalize m[k].at_ = ma at *
          generalize m[k].line = mal at *
          clear t1 t2 t3 hst k3 k6
          go_wp2
          go_roundw
          case rel => exact ⟨k + 1, by omega, by go_num, (unhide HBx).alloc (by rw [World.size_alloc]; omega) _⟩
          case measure => simp [intOf]; omega
        · have hst : x.st = x.t.data.toList := by unfold RT.st; rw [if_neg k3, if_neg k6]
          rw [hst] at t2
          have HBx := hide ((unhide HBr).alloc hszr (.cells #[.int .i64 x.k, .string x.t, .int .i64 x.n, .int .i64 x.a, .int .i64 x.l] 28))
          have HRowx := hide ((unhide HRowr).below ((Below.refl wr.heap.size wr).alloc (Nat.le_refl _) (.cells #[.int .i64 x.k, .string x.t, .int .i64 x.n, .int .i64 x.a, .int .i64 x.l] 28)) (unhide HRowr).lt (Nat.le_refl _))
          obtain ⟨y0, y1, y2, y3, y4⟩ := (unhide HRowx).tell (t := x.t) hkm t1 (by rw [t2]) t3
          generalize x.sn = sn at *
          generalize m[k].at_ = ma at *
          generalize m[k].line = mal at *
          have q3 : (x.k == 3) = false := beq_false_of_ne k3
          have q6 : (x.k == 6) = false := beq_false_of_ne k6
          have q3n : (x.k != 3) = true := bne_iff_ne.2 k3
          have q6n : (x.k != 6) = true := bne_iff_ne.2 k6
          have q1 : (x.t.toList == x.t.toList) = true := by simp
          have q2 : (x.t.toList != x.t.toList) = false := by simp
          clear t1 t2 t3 hst 
          go_wp2
          go_roundw
          case rel => exact ⟨k + 1, by omega, by go_num, (unhide HBx).alloc (by rw [World.size_alloc]; omega) _⟩
          case measure => simp [intOf]; omega
    · have e : k = K + 1 := by omega
      subst e
      have hkl : K < l.length := by rw [unhide HL]; omega
      obtain ⟨z0, z1, z2, z3, z4⟩ := (unhide HRr).cell K hkl
      have HC := hide (unhide HCALLS hkl)
      generalize l[K] = x at *
      have HBw := hide ((unhide HB3).trans ((unhide HBr).mono (unhide HB3).size))
      obtain ⟨wx, rfl⟩ : ∃ q, q = wr := ⟨_, rfl⟩
      go_wp2_with fail
      refine (refcallsX_any x.k x.t x.n x.a x.l _).mono ?_
      rintro e w4 ⟨rfl, b4⟩
      rw [unhide HC]
      have HB4 := hide ((unhide HBw).trans (b4.mono (unhide HBw).size))
      have HRow4 := hide ((unhide HRowr).below b4 (unhide HRowr).lt (Nat.le_refl _))
      have hee : K + 1 < m.length := by rw [unhide HML]; omega
      obtain ⟨y0, y1, y2, y3, y4⟩ := (unhide HRow4).cell (K + 1) hee
      rw [unhide HEND hee] at y0 y1 y2 y3 y4
      replace y0 : w4.cell? ⟨g, (K + 1) * 5, none⟩ = some (.int .i64 0) := y0
      replace y1 : w4.cell? ⟨g, (K + 1) * 5 + 1, none⟩ = some (.string ⟨#[]⟩) := y1
      replace y2 : w4.cell? ⟨g, (K + 1) * 5 + 2, none⟩ = some (.int .i64 0) := y2
      replace y3 : w4.cell? ⟨g, (K + 1) * 5 + 3, none⟩ = some (.int .i64 (S.size : Int)) := y3
      replace y4 : w4.cell? ⟨g, (K + 1) * 5 + 4, none⟩ = some (.int .i64 1) := y4
      have HBz := hide ((unhide HB4).alloc (unhide HB4).size (.cells #[.int .i64 0, .string ⟨#[]⟩, .int .i64 0, .int .i64 (S.size : Int), .int .i64 1] 28))
      clear b4 z0 z1 z2 z3 z4 hlt hk
      go_wp2
      go_ret
      exact ⟨rfl, unhide HBz⟩

set_option maxRecDepth 100000 in
set_option maxHeartbeats 8000000 in
theorem lback_Bp {w : World} {b off cap K : Nat} {l : List RT} {m : List Tok} (hr : RRow w b off l) (hf : RFit l) (hL : l.length = K + 2) (hV : Vars w) (hj : jok l = true) (hs : (jtx l).length ≤ 20000) (hsc : scan (jtx l) = .ok m)
    (hml : m.length = K + 3) (htok : ∀ i (_ : i < K + 1) (h1 : i < l.length) (h2 : i < m.length), m[i].k = l[i].k ∧ m[i].t = l[i].st ∧ m[i].n = l[i].sn) (hcalls : ∀ (h : K < l.length), callsK l[K].k l[K].t.data.toList = true) (hsemi : ∀ (h : K + 1 < m.length), m[K + 1] = semiAt (jtx l).length 1)
    (hend : ∀ (h : K + 2 < m.length), m[K + 2] = endAt (jtx l).length 1) (hlast : ∀ (h : K + 1 < l.length), l[K + 1].k = 0) :
    Calls Tryd.prog 3 #[.slice (some ⟨b, off, none⟩) (K + 2) cap] w fun e w' => e = .returned (.bool true) ∧ Below w.heap.size w w' := by
  have HV := hide hV
  obtain ⟨S, hS⟩ : ∃ S, (⟨(jtx l).toArray⟩ : ByteArray) = S := ⟨_, rfl⟩
  have hz : S.size = (jtx l).length := by rw [← hS, arr_size]
  have hzl : S.data.toList = jtx l := by rw [← hS, arr_list]
  have q : decide (20000 < (S.size : Int)) = false := decide_eq_false (by omega)
  have HJ := hide (join_yes (cap := cap) hr hf hL hV.toTab hj hS)
  rw [← hz] at hsemi hend
  rw [← hzl] at hsc
  have HSC := hide hsc
  have HML := hide hml
  have HTOK := hide htok
  have HCALLS := hide hcalls
  have HEND := hide hend
  have HSEMI := hide hsemi
  have HLAST := hide hlast
  have HR := hide hr
  have HL := hide hL
  have hbound := hf.len
  rw [hL] at hbound
  have HSS := hide (show S.size ≤ 281474976710656 by omega)
  clear hV hr hf hL hj hS hz hzl hs hsc hml htok hcalls hend hlast hsemi
  go_enter Tryd.func3, Tryd.ntmps3
  go_wp2_with fail
  refine (unhide HJ).mono ?_
  rintro e w1 ⟨rfl, b1⟩
  have HB1 := hide b1
  have HV1 := hide ((unhide HV).below b1)
  clear b1
  go_wp2_with fail
  refine (join17 w1 (unhide HV1).toTab).mono ?_
  rintro e w2 ⟨rfl, b2⟩
  have HB2 := hide ((unhide HB1).trans (b2.mono (unhide HB1).size))
  have HV2 := hide ((unhide HV1).below b2)
  clear b2 HB1 HV1
  go_wp2_with fail
  refine (scan_is (unhide HSS) (unhide HV2) (unhide HSC) (unhide HML)).mono ?_
  rintro e w3 ⟨g, cp, rfl, hg, hrow, b3⟩
  have HB3 := hide ((unhide HB2).trans (b3.mono (unhide HB2).size))
  have HRow := hide hrow
  have HR3 := hide ((unhide HR).below (unhide HB3))
  clear b3 hg hrow HB2 HV2 HJ HV HSC
  have z0 := ((unhide HR3).cell (K + 1) (by rw [unhide HL]; omega)).1
  rw [unhide HLAST (by rw [unhide HL]; omega)] at z0
  have hn1 : (K : Int) + 2 - 1 = (K : Int) + 1 := by omega
  have c1 : ((K : Int) + 3 == (K : Int) + 1 + 1) = false := by simp; omega
  have c2 : ((K : Int) + 3 != (K : Int) + 1 + 1) = true := by simp; omega
  have c3 : ¬ ((K : Int) + 3 = (K : Int) + 1 + 1) := by omega
  have c4 : ((K : Int) + 3 != (K : Int) + 1 + 2) = false := by simp; omega
  have c5 : ((K : Int) + 3 == (K : Int) + 1 + 2) = true := by simp; omega
  go_wp2
  clear z0
  go_loopw [10] (fun i wr => ∃ k : Nat, k ≤ K + 1 ∧ i = .int .i64 (k : Int) ∧ Below w3.heap.size w3 wr) (fun i _ => K + 1 - (intOf i).toNat)
  case atStart => exact ⟨0, by omega, rfl, Below.refl _ _⟩
  case round =>
    obtain ⟨k, hk, rfl, hB⟩ := hrel
    have hgl := (unhide HRow).lt
    have HRr := hide ((unhide HR3).below hB)
    have HRowr := hide ((unhide HRow).below hB hgl (Nat.le_refl _))
    have hszr := hB.size
    have HBr := hide hB
    clear hB hgl
    by_cases hlt : k < K + 1
    · have hkl : k < l.length := by rw [unhide HL]; omega
      have hkm : k < m.length := by rw [unhide HML]; omega
      obtain ⟨z0, z1, z2, z3, z4⟩ := (unhide HRr).cell k hkl
      obtain ⟨t1, t2, t3⟩ := unhide HTOK k hlt hkl hkm
      generalize l[k] = x at *
      by_cases k3 : x.k = 3
      · have hst : x.st = [] := by unfold RT.st; rw [if_pos k3]
        have hsn : x.sn = x.n := by unfold RT.sn; rw [if_pos k3]
        rw [hst] at t2
        rw [hsn] at t3
        rw [k3] at t1 z0
        have HBx := hide ((unhide HBr).alloc hszr (.cells #[.int .i64 3, .string x.t, .int .i64 x.n, .int .i64 x.a, .int .i64 x.l] 28))
        have HRowx := hide ((unhide HRowr).below ((Below.refl wr.heap.size wr).alloc (Nat.le_refl _) (.cells #[.int .i64 3, .string x.t, .int .i64 x.n, .int .i64 x.a, .int .i64 x.l] 28)) (unhide HRowr).lt (Nat.le_refl _))
        obtain ⟨y0, y1, y2, y3, y4⟩ := (unhide HRowx).tell hkm t1 (by rw [t2]) t3
        generalize x.sn = sn at *
        generalize m[k].at_ = ma at *
        generalize m[k].line = mal at *
        clear t1 t2 t3 hst hsn k3
        go_wp2
        go_roundw
        case rel => exact ⟨k + 1, by omega, by go_num, (unhide HBx).alloc (by rw [World.size_alloc]; omega) _⟩
        case measure => simp [intOf]; omega
      · by_cases k6 : x.k = 6
        · have hst : x.st = [59] := by unfold RT.st; rw [if_neg k3, if_pos k6]
          rw [hst] at t2
          rw [k6] at t1 z0
          have HBx := hide ((unhide HBr).alloc hszr (.cells #[.int .i64 6, .string x.t, .int .i64 x.n, .int .i64 x.a, .int .i64 x.l] 28))
          have HRowx := hide ((unhide HRowr).below ((Below.refl wr.heap.size wr).alloc (Nat.le_refl _) (.cells #[.int .i64 6, .string x.t, .int .i64 x.n, .int .i64 x.a, .int .i64 x.l] 28)) (unhide HRowr).lt (Nat.le_refl _))
          obtain ⟨y0, y1, y2, y3, y4⟩ := (unhide HRowx).tell hkm t1 (by rw [t2]) t3
          generalize x.sn = sn at *
          generalize m[k].at_ = ma at *
          generalize m[k].line = mal at *
          clear t1 t2 t3 hst k3 k6
          go_wp2
          go_roundw
          case rel => exact ⟨k + 1, by omega, by go_num, (unhide HBx).alloc (by rw [World.size_alloc]; omega) _⟩
          case measure => simp [intOf]; omega
        · have hst : x.st = x.t.data.toList := by unfold RT.st; rw [if_neg k3, if_neg k6]
          rw [hst] at t2
          have HBx := hide ((unhide HBr).alloc hszr (.cells #[.int .i64 x.k, .string x.t, .int .i64 x.n, .int .i64 x.a, .int .i64 x.l] 28))
          have HRowx := hide ((unhide HRowr).below ((Below.refl wr.heap.size wr).alloc (Nat.le_refl _) (.cells #[.int .i64 x.k, .string x.t, .int .i64 x.n, .int .i64 x.a, .int .i64 x.l] 28)) (unhide HRowr).lt (Nat.le_refl _))
          obtain ⟨y0, y1, y2, y3, y4⟩ := (unhide HRowx).tell (t := x.t) hkm t1 (by rw [t2]) t3
          generalize x.sn = sn at *
          generalize m[k].at_ = ma at *
          generalize m[k].line = mal at *
          have q3 : (x.k == 3) = false := beq_false_of_ne k3
          have q6 : (x.k == 6) = false := beq_false_of_ne k6
          have q3n : (x.k != 3) = true := bne_iff_ne.2 k3
          have q6n : (x.k != 6) = true := bne_iff_ne.2 k6
          have q1 : (x.t.toList == x.t.toList) = true := by simp
          have q2 : (x.t.toList != x.t.toList) = false := by simp
          clear t1 t2 t3 hst 
          go_wp2
          go_roundw
          case rel => exact ⟨k + 1, by omega, by go_num, (unhide HBx).alloc (by rw [World.size_alloc]; omega) _⟩
          case measure => simp [intOf]; omega
    · have e : k = K + 1 := by omega
      subst e
      have hkl : K < l.length := by rw [unhide HL]; omega
      obtain ⟨z0, z1, z2, z3, z4⟩ := (unhide HRr).cell K hkl
      have HC := hide (unhide HCALLS hkl)
      generalize l[K] = x at *
      have HBw := hide ((unhide HB3).trans ((unhide HBr).mono (unhide HB3).size))
      obtain ⟨wx, rfl⟩ : ∃ q, q = wr := ⟨_, rfl⟩
      go_wp2_with fail
      refine (refcallsX_any x.k x.t x.n x.a x.l _).mono ?_
      rintro e w4 ⟨rfl, b4⟩
      rw [unhide HC]
      have HB4 := hide ((unhide HBw).trans (b4.mono (unhide HBw).size))
      have HRow4 := hide ((unhide HRowr).below b4 (unhide HRowr).lt (Nat.le_refl _))
      have hee : K + 2 < m.length := by rw [unhide HML]; omega
      obtain ⟨y0, y1, y2, y3, y4⟩ := (unhide HRow4).cell (K + 2) hee
      rw [unhide HEND hee] at y0 y1 y2 y3 y4
      replace y0 : w4.cell? ⟨g, (K + 2) * 5, none⟩ = some (.int .i64 0) := y0
      replace y1 : w4.cell? ⟨g, (K + 2) * 5 + 1, none⟩ = some (.string ⟨#[]⟩) := y1
      replace y2 : w4.cell? ⟨g, (K + 2) * 5 + 2, none⟩ = some (.int .i64 0) := y2
      replace y3 : w4.cell? ⟨g, (K + 2) * 5 + 3, none⟩ = some (.int .i64 (S.size : Int)) := y3
      replace y4 : w4.cell? ⟨g, (K + 2) * 5 + 4, none⟩ = some (.int .i64 1) := y4
      have hss : K + 1 < m.length := by rw [unhide HML]; omega
      obtain ⟨u0, u1, u2, u3, u4⟩ := (unhide HRow4).cell (K + 1) hss
      rw [unhide HSEMI hss] at u0 u1 u2 u3 u4
      replace u0 : w4.cell? ⟨g, (K + 1) * 5, none⟩ = some (.int .i64 6) := u0
      replace u1 : w4.cell? ⟨g, (K + 1) * 5 + 1, none⟩ = some (.string ⟨#[10]⟩) := u1
      replace u3 : w4.cell? ⟨g, (K + 1) * 5 + 3, none⟩ = some (.int .i64 (S.size : Int)) := u3
      clear u2 u4
      have HBz := hide ((unhide HB4).alloc (unhide HB4).size (.cells #[.int .i64 0, .string ⟨#[]⟩, .int .i64 0, .int .i64 (S.size : Int), .int .i64 1] 28))
      clear b4 z0 z1 z2 z3 z4 hlt hk
      go_wp2
      go_ret
      exact ⟨rfl, unhide HBz⟩

end Go.Proofs.YtkbgnbcphmkjkaaDoor
