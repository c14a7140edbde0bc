/- The statements' walks: CodeSafe. -/
import Derived.Test.YtgheaieghoekhaaDoorMc
import Derived.Test.YtgheaieghoekhaaDoorSb
namespace Go.Proofs.YtgheaieghoekhaaDoor
open Go.RowKit

theorem tS_o {op : Int} (hk : knw op = true) (h1 : ¬ op = 21) (h2 : ¬ op = 26) (h3 : ¬ op = 27) : tS op.toNat = false := by
  obtain ⟨k, rfl, hk⟩ := knw_k hk
  unfold tS
  rw [Int.toNat_natCast]
  simp
  omega

set_option maxRecDepth 100000 in
set_option maxHeartbeats 16000000 in
theorem safe_walk {w : World} {v1 v2 v3 tv : Value} {p : Pg} (h : Gd w.heap.size w v1 v2 v3 p) {ts : List Bool} (ht : Lst w.heap.size 1 (BoAt w) tv ts) :
    Calls Tryd.prog 5 #[pv v1 v2 v3 p.mn, tv] w fun e w' => e = .returned (.bool true) ∧ Below w.heap.size w w' := by
  obtain ⟨W, hW⟩ : ∃ W, W = w.alloc (.cells #[v1, v2, v3, .int .i64 p.mn] 26) := ⟨_, rfl⟩
  have hb0 : Below w.heap.size w W := by rw [hW]; exact below1 w _
  have hsW : W.heap.size = w.heap.size + 1 := by rw [hW]; simp
  have n0 : W.heap[w.heap.size]? = some (.cells #[v1, v2, v3, .int .i64 p.mn] 26 (0, 0)) := by rw [hW]; exact heap_new w _
  have hGW := h.below hb0 (by omega)
  obtain ⟨b1, o1, ⟨a1, c1, rfl, hc1, hm1, hs1⟩, hl1⟩ := h.hf
  obtain ⟨bt, ot, ⟨at', ct, rfl, hct, hmt, hst⟩, hlt'⟩ := ht
  have HT := hide hGW.t
  have HGW := hide hGW
  have N0 := hide n0
  have HW := hide hW
  have HB0 := hide hb0
  have H1 := hide hl1
  have HS1 := hide hs1
  have HTL := hide hlt'
  have HST := hide hst
  have hg := h.g
  obtain ⟨ea, eb, ec, hc⟩ : ∃ a b c, chk p = (a, b, c) := ⟨_, _, _, rfl⟩
  have HC := hide hc
  clear h hb0 n0 hW hGW hl1 hs1 hlt' hst hc
  by_cases hz : ea = 0
  rotate_left
  · have q : (ea != 0) = true := by simpa using hz
    clear hz
    go_enter Tryd.func5, Tryd.ntmps5
    go_wp2_with fail
    rw [← unhide HW]
    refine (awake_is (unhide HT) (by omega)).mono ?_
    rintro e u1 ⟨rfl, hB1⟩
    have hs1 := hB1.size
    have m0 := blkO hB1 (unhide N0) (by omega)
    have x0 : u1.cell? ⟨w.heap.size, 0, none⟩ = some (.slice a1 p.fs.length c1) := by simp [World.cell?, m0]
    have x1 : u1.cell? ⟨w.heap.size, 1, none⟩ = some (v2) := by simp [World.cell?, m0]
    have x2 : u1.cell? ⟨w.heap.size, 2, none⟩ = some (v3) := by simp [World.cell?, m0]
    have x3 : u1.cell? ⟨w.heap.size, 3, none⟩ = some (.int .i64 p.mn) := by simp [World.cell?, m0]
    have HG1 := hide ((unhide HGW).below (hB1.mono (by omega)) (by omega))
    have HB1 := hide hB1
    clear hB1 m0
    go_wp2_with fail
    refine (check_is (unhide HG1) (unhide HC)).mono ?_
    rintro e u2 ⟨rfl, hB2⟩
    have HB2 := hide ((unhide HB1).trans (hB2.mono hs1))
    clear hB2
    go_wp2
    go_ret
    exact ⟨rfl, (unhide HB0).trans ((unhide HB2).mono (by omega))⟩
  subst hz
  go_enter Tryd.func5, Tryd.ntmps5
  go_wp2_with fail
  rw [← unhide HW]
  refine (awake_is (unhide HT) (by omega)).mono ?_
  rintro e u1 ⟨rfl, hB1⟩
  have hs1 := hB1.size
  have m0 := blkO hB1 (unhide N0) (by omega)
  have x0 : u1.cell? ⟨w.heap.size, 0, none⟩ = some (.slice a1 p.fs.length c1) := by simp [World.cell?, m0]
  have x1 : u1.cell? ⟨w.heap.size, 1, none⟩ = some (v2) := by simp [World.cell?, m0]
  have x2 : u1.cell? ⟨w.heap.size, 2, none⟩ = some (v3) := by simp [World.cell?, m0]
  have x3 : u1.cell? ⟨w.heap.size, 3, none⟩ = some (.int .i64 p.mn) := by simp [World.cell?, m0]
  have HG1 := hide ((unhide HGW).below (hB1.mono (by omega)) (by omega))
  have HB1 := hide hB1
  have M0 := hide m0
  clear hB1 m0
  go_wp2_with fail
  refine (check_is (unhide HG1) (unhide HC)).mono ?_
  rintro e u2 ⟨rfl, hB2⟩
  have hs2 := hB2.size
  have HB2 := hide ((unhide HB1).trans (hB2.mono hs1))
  clear hB2 x0 x1 x2 x3
  go_wp2
  go_loopw [9] (fun i wr => ∃ k : Nat, k ≤ p.fs.length ∧ i = .int .i64 k ∧ Below W.heap.size W wr) (fun i _ => p.fs.length - (intOf i).toNat)
  case atStart => exact ⟨0, Nat.zero_le _, rfl, unhide HB2⟩
  case round =>
    obtain ⟨k, hk, rfl, hB⟩ := hrel
    have hsz := hB.size
    have m0 := blkO hB (unhide N0) (by omega)
    have x0 : wr.cell? ⟨w.heap.size, 0, none⟩ = some (.slice a1 p.fs.length c1) := by simp [World.cell?, m0]
    have x1 : wr.cell? ⟨w.heap.size, 1, none⟩ = some (v2) := by simp [World.cell?, m0]
    have x2 : wr.cell? ⟨w.heap.size, 2, none⟩ = some (v3) := by simp [World.cell?, m0]
    have x3 : wr.cell? ⟨w.heap.size, 3, none⟩ = some (.int .i64 p.mn) := by simp [World.cell?, m0]
    by_cases hlt : k < p.fs.length
    rotate_left
    · have HB := hide hB
      clear hB m0
      go_wp2
      go_ret
      exact ⟨rfl, (unhide HB0).trans ((unhide HB).mono (by omega))⟩
    obtain ⟨rfl, hb1⟩ := unhide HS1 (by omega)
    have ok := chk_ok (unhide HC) p.fs[k] (List.getElem_mem hlt)
    have HGr := hide ((unhide HGW).below (hB.mono (by omega)) (by omega))
    have HDP := hide (deps_ok (unhide HGr) (unhide HC) k hlt)
    have HF := hide (unhide H1 k hlt)
    have HBo := hide hB
    have MM := hide m0
    generalize p.fs[k] = f at *
    obtain ⟨hpos, hmx⟩ := ok.len
    have OK := hide ok
    clear hB m0 ok
    obtain ⟨wo, rfl⟩ : ∃ x, x = wr := ⟨_, rfl⟩
    go_wp2_with fail
    refine (unhide HDP).mono ?_
    rintro e wq ⟨⟨D, hD, hR, rfl⟩, hBq⟩
    have hsq := hBq.size
    have hBN : Below w.heap.size w wq := (unhide HB0).trans (((unhide HBo).trans (hBq.mono hsz)).mono (by omega))
    have m0 := blkO hBq (unhide MM) (by omega)
    have y0 : wq.cell? ⟨w.heap.size, 0, none⟩ = some (.slice (some ⟨b1, o1, none⟩) p.fs.length c1) := by simp [World.cell?, m0]
    obtain ⟨v, g1, g2, g3, g4, g5, b5, o5, ⟨a5, c5, rfl, hc5, hm5, hs5⟩, hl5⟩ := FuAt.below hBN hb1 (unhide HF)
    obtain ⟨rfl, hb5⟩ := hs5 hpos
    have z2 : b1 < wq.heap.size := by omega
    have HQ := hide m0
    have HRq := hide hR
    have H5 := hide hl5
    have HBq := hide ((unhide HBo).trans (hBq.mono hsz))
    have HGq := hide ((unhide HGr).below (hBq.mono (by omega)) (by omega))
    have qn : ((f.cd.length : Int) != (f.cd.length : Int)) = false := by simp
    clear hR hBq hBN hl5 hs5 m0 x0 x1 x2 x3 g1 g2 g3 g4 HDP
    go_wp2
    clear y0 g5 qn
    go_loopw [13, 14, 15, 16] (fun a d s i wr => ∃ (t a' s' : Nat) (d' : Int), t ≤ ts.length ∧ i = .int .i64 t ∧ a = .int .i64 a' ∧ d = .int .i64 d' ∧ s = .int .i64 s' ∧ Way p f a' s' d' ∧ s' ≤ f.cd.length ∧ Below wq.heap.size wq wr) (fun _ _ _ i _ => ts.length - (intOf i).toNat)
    case atStart => exact ⟨0, 0, 0, 0, Nat.zero_le _, rfl, rfl, rfl, rfl, way0 (unhide OK), Nat.zero_le _, Below.refl _ _⟩
    case round =>
      obtain ⟨t, a', s', d', hts, rfl, rfl, rfl, rfl, hWay, hs', hB⟩ := hrel
      have hszr := hB.size
      by_cases htl : t < ts.length
      rotate_left
      · have HB := hide hB
        clear hB hWay
        go_wp2
        go_roundw
        case rel => exact ⟨k + 1, by omega, by go_num, (unhide HBq).trans ((unhide HB).mono (by omega))⟩
        case measure => simp [intOf]; omega
      obtain ⟨e1, e2, e3, e4⟩ := hWay.step (unhide OK)
      have hkn := (okI_k (fstBad_none (unhide OK).bad (f.cd[a']'hWay.lt) (List.getElem_mem hWay.lt))).1
      have hnx := hWay.next (unhide OK)
      have hjp := hWay.jump (unhide OK)
      have haL := hWay.lt
      have hdl := (unhide OK).all.1
      have hRr := (unhide HRq).below hB (by have := (unhide HRq).lt; omega)
      have hdl' : (dps p f.cd 0 (dp0 f.cd.length)).2.2.length = f.cd.length := hdl
      have c0 : wr.cell? ⟨D, a', none⟩ = some (.int .i64 d') := by
        have h1 := hRr.cell (i := a') (by omega)
        have h2 : (dps p f.cd 0 (dp0 f.cd.length)).2.2.getD a' 0 = d' := hWay.eq
        rw [getD_at _ (by omega)] at h2
        rw [h1, h2]
      obtain ⟨i1, i2, i3, i4⟩ := InAt.below (hB.mono (by omega)) hb5 (unhide H5 a' hWay.lt)
      have m0 := blkO hB (unhide HQ) (by omega)
      have x0 : wr.cell? ⟨w.heap.size, 0, none⟩ = some (.slice (some ⟨b1, o1, none⟩) p.fs.length c1) := by simp [World.cell?, m0]
      have x1 : wr.cell? ⟨w.heap.size, 1, none⟩ = some (v2) := by simp [World.cell?, m0]
      have x2 : wr.cell? ⟨w.heap.size, 2, none⟩ = some (v3) := by simp [World.cell?, m0]
      have x3 : wr.cell? ⟨w.heap.size, 3, none⟩ = some (.int .i64 p.mn) := by simp [World.cell?, m0]
      have hlo := hWay.lo
      have hhi := hWay.hi
      have HGr2 := hide (((unhide HGq).below (hB.mono (by omega)) (by omega)).alloc (.cells #[.int .i64 (f.cd[a']'hWay.lt).op, .int .i64 (f.cd[a']'hWay.lt).a, .int .i64 (f.cd[a']'hWay.lt).b, .int .i64 (f.cd[a']'hWay.lt).l] 29))
      obtain ⟨rfl, hbt⟩ := unhide HST (by omega)
      have tc : wr.cell? ⟨bt, ot + t, none⟩ = some (.bool ts[t]) := by
        have h1 := (((unhide HB0).trans (((unhide HBq).trans (hB.mono (by omega))).mono (by omega)))).cell (p := ⟨bt, ot + t * 1, none⟩) hbt
        rw [Nat.mul_one] at h1
        rw [h1]
        have h2 := unhide HTL t htl
        unfold BoAt at h2
        rwa [Nat.mul_one] at h2
      have z5 : b5 < wr.heap.size := by omega
      have z6 : D < wr.heap.size := hRr.lt
      have z7 : w.heap.size < wr.heap.size := by omega
      have z8 : bt < wr.heap.size := by omega
      generalize hx : f.cd[a']'hWay.lt = x at *
      obtain ⟨tk, gv, he⟩ : ∃ tk gv, eff p x = (tk, gv) := ⟨_, _, rfl⟩
      rw [he] at e1 e2 e3 hnx hjp
      simp only at e1 e2 e3 hnx hjp
      have hgv := eff_gv p x
      rw [he] at hgv
      obtain ⟨hg0, hg3⟩ := hgv
      simp only at hg0 hg3
      have q1 : decide ((a' : Int) < 0) = false := by simp
      have q2 : decide ((f.cd.length : Int) ≤ (a' : Int)) = false := by simp; omega
      have q3 : (d' != d') = false := by simp
      have q4 : decide (d' < tk) = false := by simp; omega
      have q5 : decide (1000 < d' - tk + gv) = false := by simp; omega
      have HE := hide he
      have HNX := hide hnx
      have HJP := hide hjp
      have HKN := hide hkn
      have HB := hide hB
      generalize ts[t] = tz at *
      clear hWay hnx hjp hkn hB hRr m0 he hx
      obtain ⟨op, xa, xb, xl⟩ := x
      simp only at *
      by_cases c1 : op = 1
      · subst c1
        have HNX2 := hide (unhide HNX rfl)
        clear HNX HJP
        have e5 : (0 : Nat) < f.cd.length := e4
        have q6 : decide ((f.cd.length : Int) ≤ 0) = false := decide_eq_false (by omega)
        have q7 : ¬ f.cd = [] := fun e => by rw [e] at e5; cases e5
        have q8 : ¬ f.cd.length = 0 := by omega
        go_wp2_with fail
        refine (effect_is (unhide HGr2) ⟨1, xa, xb, xl⟩ (unhide HE)).mono ?_
        rintro e w5 ⟨rfl, hB5⟩
        have hB5s := hB5.size
        simp only [World.size_alloc] at hB5s
        have mx := blkO hB5 (heap_new wr _) (by simp)
        have y0 : w5.cell? ⟨wr.heap.size, 0, none⟩ = some (.int .i64 1) := by simp [World.cell?, mx]
        have y1 : w5.cell? ⟨wr.heap.size, 1, none⟩ = some (.int .i64 xa) := by simp [World.cell?, mx]
        have tc5 : w5.cell? ⟨bt, ot + t, none⟩ = some (.bool tz) := (hB5.cell (p := ⟨bt, ot + t, none⟩) (by show bt < _; simp; omega)).trans (((below1 wr _).cell (p := ⟨bt, ot + t, none⟩) z8).trans tc)
        have HB5 := hide ((unhide HB).trans (((below1 wr _).trans (hB5.mono (by simp))).mono (by omega)))
        clear hB5 mx tc x0 x1 x2 x3 c0 i1 i2 i3 i4
        go_wp2
        go_roundw
        case rel => exact ⟨t + 1, a' + 1, 0, d' - tk + gv, by omega, by go_num, by go_num, rfl, by go_num, unhide HNX2, by omega, unhide HB5⟩
        case measure => simp [intOf]; omega
      by_cases c26 : op = 26
      · subst c26
        have e5 : s' + 1 < f.cd.length := e4
        have q6 : decide ((f.cd.length : Int) ≤ (s' : Int) + 1) = false := by simp; omega
        clear HNX HJP
        go_wp2_with fail
        refine (effect_is (unhide HGr2) ⟨26, xa, xb, xl⟩ (unhide HE)).mono ?_
        rintro e w5 ⟨rfl, hB5⟩
        have hB5s := hB5.size
        simp only [World.size_alloc] at hB5s
        have mx := blkO hB5 (heap_new wr _) (by simp)
        have y0 : w5.cell? ⟨wr.heap.size, 0, none⟩ = some (.int .i64 26) := by simp [World.cell?, mx]
        have y1 : w5.cell? ⟨wr.heap.size, 1, none⟩ = some (.int .i64 xa) := by simp [World.cell?, mx]
        have tc5 : w5.cell? ⟨bt, ot + t, none⟩ = some (.bool tz) := (hB5.cell (p := ⟨bt, ot + t, none⟩) (by show bt < _; simp; omega)).trans (((below1 wr _).cell (p := ⟨bt, ot + t, none⟩) z8).trans tc)
        have HB5 := hide ((unhide HB).trans (((below1 wr _).trans (hB5.mono (by simp))).mono (by omega)))
        clear hB5 mx tc x0 x1 x2 x3 c0 i1 i2 i3 i4
        go_wp2
        go_roundw
        case rel => exact ⟨k + 1, by omega, by go_num, (unhide HBq).trans ((unhide HB5).mono (by omega))⟩
        case measure => simp [intOf]; omega
      by_cases c27 : op = 27
      · subst c27
        have e5 : s' + 1 < f.cd.length := e4
        have q6 : decide ((f.cd.length : Int) ≤ (s' : Int) + 1) = false := by simp; omega
        clear HNX HJP
        go_wp2_with fail
        refine (effect_is (unhide HGr2) ⟨27, xa, xb, xl⟩ (unhide HE)).mono ?_
        rintro e w5 ⟨rfl, hB5⟩
        have hB5s := hB5.size
        simp only [World.size_alloc] at hB5s
        have mx := blkO hB5 (heap_new wr _) (by simp)
        have y0 : w5.cell? ⟨wr.heap.size, 0, none⟩ = some (.int .i64 27) := by simp [World.cell?, mx]
        have y1 : w5.cell? ⟨wr.heap.size, 1, none⟩ = some (.int .i64 xa) := by simp [World.cell?, mx]
        have tc5 : w5.cell? ⟨bt, ot + t, none⟩ = some (.bool tz) := (hB5.cell (p := ⟨bt, ot + t, none⟩) (by show bt < _; simp; omega)).trans (((below1 wr _).cell (p := ⟨bt, ot + t, none⟩) z8).trans tc)
        have HB5 := hide ((unhide HB).trans (((below1 wr _).trans (hB5.mono (by simp))).mono (by omega)))
        clear hB5 mx tc x0 x1 x2 x3 c0 i1 i2 i3 i4
        go_wp2
        go_roundw
        case rel => exact ⟨k + 1, by omega, by go_num, (unhide HBq).trans ((unhide HB5).mono (by omega))⟩
        case measure => simp [intOf]; omega
      by_cases c21 : op = 21
      · subst c21
        have e5 : s' + 1 < f.cd.length := e4
        have q6 : decide ((f.cd.length : Int) ≤ (s' : Int) + 1) = false := by simp; omega
        obtain ⟨j, rfl, hJ⟩ := unhide HJP rfl
        have HJ2 := hide hJ
        have hjl := hJ.lt
        clear HNX HJP hJ
        go_wp2_with fail
        refine (effect_is (unhide HGr2) ⟨21, (j : Int), xb, xl⟩ (unhide HE)).mono ?_
        rintro e w5 ⟨rfl, hB5⟩
        have hB5s := hB5.size
        simp only [World.size_alloc] at hB5s
        have mx := blkO hB5 (heap_new wr _) (by simp)
        have y0 : w5.cell? ⟨wr.heap.size, 0, none⟩ = some (.int .i64 21) := by simp [World.cell?, mx]
        have y1 : w5.cell? ⟨wr.heap.size, 1, none⟩ = some (.int .i64 (j : Int)) := by simp [World.cell?, mx]
        have tc5 : w5.cell? ⟨bt, ot + t, none⟩ = some (.bool tz) := (hB5.cell (p := ⟨bt, ot + t, none⟩) (by show bt < _; simp; omega)).trans (((below1 wr _).cell (p := ⟨bt, ot + t, none⟩) z8).trans tc)
        have HB5 := hide ((unhide HB).trans (((below1 wr _).trans (hB5.mono (by simp))).mono (by omega)))
        clear hB5 mx tc x0 x1 x2 x3 c0 i1 i2 i3 i4
        go_wp2
        go_roundw
        case rel => exact ⟨t + 1, j, s' + 1, d' - tk + gv, by omega, by go_num, rfl, rfl, by go_num, unhide HJ2, by omega, unhide HB5⟩
        case measure => simp [intOf]; omega
      by_cases c22 : op = 22
      · subst c22
        have e5 : s' + 1 < f.cd.length := e4
        have q6 : decide ((f.cd.length : Int) ≤ (s' : Int) + 1) = false := by simp; omega
        obtain ⟨j, rfl, hJ⟩ := unhide HJP rfl
        have HJ2 := hide hJ
        have HNX2 := hide (unhide HNX rfl)
        clear HNX HJP hJ
        cases tz
        · go_wp2_with fail
          refine (effect_is (unhide HGr2) ⟨22, (j : Int), xb, xl⟩ (unhide HE)).mono ?_
          rintro e w5 ⟨rfl, hB5⟩
          have hB5s := hB5.size
          simp only [World.size_alloc] at hB5s
          have mx := blkO hB5 (heap_new wr _) (by simp)
          have y0 : w5.cell? ⟨wr.heap.size, 0, none⟩ = some (.int .i64 22) := by simp [World.cell?, mx]
          have y1 : w5.cell? ⟨wr.heap.size, 1, none⟩ = some (.int .i64 (j : Int)) := by simp [World.cell?, mx]
          have tc5 : w5.cell? ⟨bt, ot + t, none⟩ = some (.bool false) := (hB5.cell (p := ⟨bt, ot + t, none⟩) (by show bt < _; simp; omega)).trans (((below1 wr _).cell (p := ⟨bt, ot + t, none⟩) z8).trans tc)
          have HB5 := hide ((unhide HB).trans (((below1 wr _).trans (hB5.mono (by simp))).mono (by omega)))
          clear hB5 mx tc x0 x1 x2 x3 c0 i1 i2 i3 i4
          go_wp2
          go_roundw
          case rel => exact ⟨t + 1, a' + 1, s' + 1, d' - tk + gv, by omega, by go_num, by go_num, rfl, by go_num, unhide HNX2, by omega, unhide HB5⟩
          case measure => simp [intOf]; omega
        · go_wp2_with fail
          refine (effect_is (unhide HGr2) ⟨22, (j : Int), xb, xl⟩ (unhide HE)).mono ?_
          rintro e w5 ⟨rfl, hB5⟩
          have hB5s := hB5.size
          simp only [World.size_alloc] at hB5s
          have mx := blkO hB5 (heap_new wr _) (by simp)
          have y0 : w5.cell? ⟨wr.heap.size, 0, none⟩ = some (.int .i64 22) := by simp [World.cell?, mx]
          have y1 : w5.cell? ⟨wr.heap.size, 1, none⟩ = some (.int .i64 (j : Int)) := by simp [World.cell?, mx]
          have tc5 : w5.cell? ⟨bt, ot + t, none⟩ = some (.bool true) := (hB5.cell (p := ⟨bt, ot + t, none⟩) (by show bt < _; simp; omega)).trans (((below1 wr _).cell (p := ⟨bt, ot + t, none⟩) z8).trans tc)
          have HB5 := hide ((unhide HB).trans (((below1 wr _).trans (hB5.mono (by simp))).mono (by omega)))
          clear hB5 mx tc x0 x1 x2 x3 c0 i1 i2 i3 i4
          go_wp2
          go_roundw
          case rel => exact ⟨t + 1, j, s' + 1, d' - tk + gv, by omega, by go_num, rfl, rfl, by go_num, unhide HJ2, by omega, unhide HB5⟩
          case measure => simp [intOf]; omega
      by_cases c23 : op = 23
      · subst c23
        have e5 : s' + 1 < f.cd.length := e4
        have q6 : decide ((f.cd.length : Int) ≤ (s' : Int) + 1) = false := by simp; omega
        obtain ⟨j, rfl, hJ⟩ := unhide HJP rfl
        have HJ2 := hide hJ
        have HNX2 := hide (unhide HNX rfl)
        clear HNX HJP hJ
        cases tz
        · go_wp2_with fail
          refine (effect_is (unhide HGr2) ⟨23, (j : Int), xb, xl⟩ (unhide HE)).mono ?_
          rintro e w5 ⟨rfl, hB5⟩
          have hB5s := hB5.size
          simp only [World.size_alloc] at hB5s
          have mx := blkO hB5 (heap_new wr _) (by simp)
          have y0 : w5.cell? ⟨wr.heap.size, 0, none⟩ = some (.int .i64 23) := by simp [World.cell?, mx]
          have y1 : w5.cell? ⟨wr.heap.size, 1, none⟩ = some (.int .i64 (j : Int)) := by simp [World.cell?, mx]
          have tc5 : w5.cell? ⟨bt, ot + t, none⟩ = some (.bool false) := (hB5.cell (p := ⟨bt, ot + t, none⟩) (by show bt < _; simp; omega)).trans (((below1 wr _).cell (p := ⟨bt, ot + t, none⟩) z8).trans tc)
          have HB5 := hide ((unhide HB).trans (((below1 wr _).trans (hB5.mono (by simp))).mono (by omega)))
          clear hB5 mx tc x0 x1 x2 x3 c0 i1 i2 i3 i4
          go_wp2
          go_roundw
          case rel => exact ⟨t + 1, a' + 1, s' + 1, d' - tk + gv, by omega, by go_num, by go_num, rfl, by go_num, unhide HNX2, by omega, unhide HB5⟩
          case measure => simp [intOf]; omega
        · go_wp2_with fail
          refine (effect_is (unhide HGr2) ⟨23, (j : Int), xb, xl⟩ (unhide HE)).mono ?_
          rintro e w5 ⟨rfl, hB5⟩
          have hB5s := hB5.size
          simp only [World.size_alloc] at hB5s
          have mx := blkO hB5 (heap_new wr _) (by simp)
          have y0 : w5.cell? ⟨wr.heap.size, 0, none⟩ = some (.int .i64 23) := by simp [World.cell?, mx]
          have y1 : w5.cell? ⟨wr.heap.size, 1, none⟩ = some (.int .i64 (j : Int)) := by simp [World.cell?, mx]
          have tc5 : w5.cell? ⟨bt, ot + t, none⟩ = some (.bool true) := (hB5.cell (p := ⟨bt, ot + t, none⟩) (by show bt < _; simp; omega)).trans (((below1 wr _).cell (p := ⟨bt, ot + t, none⟩) z8).trans tc)
          have HB5 := hide ((unhide HB).trans (((below1 wr _).trans (hB5.mono (by simp))).mono (by omega)))
          clear hB5 mx tc x0 x1 x2 x3 c0 i1 i2 i3 i4
          go_wp2
          go_roundw
          case rel => exact ⟨t + 1, j, s' + 1, d' - tk + gv, by omega, by go_num, rfl, rfl, by go_num, unhide HJ2, by omega, unhide HB5⟩
          case measure => simp [intOf]; omega
      have e5 : s' + 1 < f.cd.length := by have := e4; unfold since' at this; rwa [if_neg c1] at this
      have HNX2 := hide (show Way p f (a' + 1) (s' + 1) (d' - tk + gv) from by have := unhide HNX (tS_o (unhide HKN) c21 c26 c27); unfold since' at this; rwa [if_neg c1] at this)
      have q6 : decide ((f.cd.length : Int) ≤ (s' : Int) + 1) = false := by simp; omega
      have r1 : (op == 1) = false := by simpa using c1
      have r2 : (op == 26) = false := by simpa using c26
      have r3 : (op == 27) = false := by simpa using c27
      have r4 : (op == 21) = false := by simpa using c21
      have r5 : (op == 22) = false := by simpa using c22
      have r6 : (op == 23) = false := by simpa using c23
      clear HNX HJP c1 c26 c27 c21 c22 c23
      go_wp2_with fail
      refine (effect_is (unhide HGr2) ⟨op, xa, xb, xl⟩ (unhide HE)).mono ?_
      rintro e w5 ⟨rfl, hB5⟩
      have hB5s := hB5.size
      simp only [World.size_alloc] at hB5s
      have mx := blkO hB5 (heap_new wr _) (by simp)
      have y0 : w5.cell? ⟨wr.heap.size, 0, none⟩ = some (.int .i64 op) := by simp [World.cell?, mx]
      have y1 : w5.cell? ⟨wr.heap.size, 1, none⟩ = some (.int .i64 xa) := by simp [World.cell?, mx]
      have tc5 : w5.cell? ⟨bt, ot + t, none⟩ = some (.bool tz) := (hB5.cell (p := ⟨bt, ot + t, none⟩) (by show bt < _; simp; omega)).trans (((below1 wr _).cell (p := ⟨bt, ot + t, none⟩) z8).trans tc)
      have HB5 := hide ((unhide HB).trans (((below1 wr _).trans (hB5.mono (by simp))).mono (by omega)))
      clear hB5 mx tc x0 x1 x2 x3 c0 i1 i2 i3 i4
      go_wp2
      go_roundw
      case rel => exact ⟨t + 1, a' + 1, s' + 1, d' - tk + gv, by omega, by go_num, by go_num, rfl, by go_num, unhide HNX2, by omega, unhide HB5⟩
      case measure => simp [intOf]; omega

end Go.Proofs.YtgheaieghoekhaaDoor
