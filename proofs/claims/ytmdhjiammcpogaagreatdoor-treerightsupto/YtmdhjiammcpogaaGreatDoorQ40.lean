import Derived.Test.YtmdhjiammcpogaaGreatDoorQ39
namespace Go.Proofs.YtmdhjiammcpogaaGreatDoor
set_option maxRecDepth 100000
set_option maxHeartbeats 16000000
open Go.RowKit
variable {S : Nat -> Prop} {b : Bool} {f : Nd} {m : Md} {t : Tr} {u v : Value} {w : World}
theorem rbare_fff (h : mrk f.k = false) : rbare f false false false = emp f := by simp [rbare, dE, h, emp]
theorem rbare_fft (h : mrk f.k = false) : rbare f false false true = emn f := by simp [rbare, dE, h, emn]
theorem all_one {P : Tr -> Bool} {l : List Tr} (h : l.length = 1) : l.all P = P (l[0]'(by omega)) := by
 rcases l with _ | ⟨a, _ | ⟨b, r⟩⟩
 ·simp at h
 ·simp
 ·simp at h
theorem rRecv_b (w : World) : Calls Tryz.prog 130 #[nv f u] w fun e w' => e = .returned (.bool (kRecv f)) /\ Below w.heap.size w w' := rRecv_is rfl w
theorem rtarget_is (hF : AllF t) (hK : Kids w m S v t.ks) (hN : ∀ i, S i -> i < w.heap.size) (h : okT t = b) :
 Calls Tryz.prog 147 #[nv t.f v] w fun e w' => e = .returned (.bool b) /\ Below w.heap.size w w' := by
 have HH := zz h
 have HK := zz hK
 have HN := zz hN
 have HF := zz hF
 clear h hK hN hF
 obtain ⟨Av, cv, bv, ov, rfl, hlv, hAv, hrv⟩ := HK.out.form
 have HAv := zz hAv
 have HRv := zz hrv
 clear hAv hrv
 unfold nv
 by_cases k21 : t.f.k = 21
 ·have q21 := yk k21
  have HQ21 := zz k21
  clear k21
  go_enter Tryz.func147, Tryz.ntmps147
  go_wp2_with fail
  obtain ⟨w1, hw1, HB1, HX1, hs1⟩ := jb w t.f (.slice Av t.ks.length cv)
  rw [hw1]
  clear hw1
  refine (refname_any t.f.t _ HF.out.nf.tl).mono ?_
  rintro e w2 ⟨rfl, b⟩
  have hz2 := b.size
  have HB2 := bt2 HB1 b
  have HX2 := bx HX1 b
  clear b HB1 HX1
  have x0 := HX2.out.cell
  cases c0 : isName t.f.t
  ·have Hc0 := zz c0
   clear c0
   have E := zz (show false = b by rw [<- HH.out, okT_eq, HQ21.out, Hc0.out]; rfl)
   go_wp2
   go_ret
   exact ⟨zb E.out, HB2.out⟩
  ·have Hc0 := zz c0
   clear c0
   by_cases hl : t.ks.length = 0
   ·have ql : ((t.ks.length : Int) == 0) = true := by simp [hl]
    have HL := zz hl
    clear hl
    go_wp2_with fail
    refine (rbare_is (f := t.f) (x := true) (y := true) (z := false) rfl _).mono ?_
    rintro e w3 ⟨rfl, b⟩
    have hz3 := b.size
    have HB3 := bt2 HB2 b
    have HX3 := bx HX2 b
    clear b HB2 HX2 x0
    have x0 := HX3.out.cell
    have E := zz (show rbare t.f true true false = b by rw [rbare_ttf, <- HH.out, okT_eq, HQ21.out, Hc0.out, decide_eq_true HL.out]; rfl)
    go_wp2
    go_ret
    exact ⟨zb E.out, HB3.out⟩
   ·have ql : ((t.ks.length : Int) == 0) = false := beq_false_of_ne (by omega)
    have HL := zz hl
    clear hl
    have E := zz (show false = b by rw [<- HH.out, okT_eq, HQ21.out, Hc0.out, decide_eq_false HL.out]; rfl)
    go_wp2
    go_ret
    exact ⟨zb E.out, HB2.out⟩
 have q21 := beq_false_of_ne k21
 have HQ21 := zz k21
 clear k21
 go_enter Tryz.func147, Tryz.ntmps147
 go_wp2_with fail
 obtain ⟨w1, hw1, HB1, HX1, hs1⟩ := jb w t.f (.slice Av t.ks.length cv)
 rw [hw1]
 clear hw1
 refine (refname_any t.f.t _ HF.out.nf.tl).mono ?_
 rintro e w2 ⟨rfl, b⟩
 have hz2 := b.size
 have HB2 := bt2 HB1 b
 have HX2 := bx HX1 b
 clear b HB1 HX1
 have x0 := HX2.out.cell
 have E := zz (show false = b by rw [<- HH.out, okT_eq, beq_false_of_ne HQ21.out]; rfl)
 go_wp2
 go_ret
 exact ⟨zb E.out, HB2.out⟩
theorem rnothing_is (hF : AllF t) (hK : Kids w m S v t.ks) (hN : ∀ i, S i -> i < w.heap.size) (h : okN t = b) :
 Calls Tryz.prog 125 #[nv t.f v] w fun e w' => e = .returned (.bool b) /\ Below w.heap.size w w' := by
 have HH := zz h
 have HK := zz hK
 have HN := zz hN
 have HF := zz hF
 clear h hK hN hF
 obtain ⟨Av, cv, bv, ov, rfl, hlv, hAv, hrv⟩ := HK.out.form
 have HAv := zz hAv
 have HRv := zz hrv
 clear hAv hrv
 unfold nv
 by_cases k0 : t.f.k = 0
 ·have q0 := yk k0
  have HQ0 := zz k0
  clear k0
  by_cases hl : t.ks.length = 0
  ·have ql : ((t.ks.length : Int) == 0) = true := by simp [hl]
   have HL := zz hl
   clear hl
   go_enter Tryz.func125, Tryz.ntmps125
   go_wp2_with fail
   obtain ⟨w1, hw1, HB1, HX1, hs1⟩ := jb w t.f (.slice Av t.ks.length cv)
   rw [hw1]
   clear hw1
   refine (rbare_is (f := t.f) (x := false) (y := false) (z := false) rfl _).mono ?_
   rintro e w2 ⟨rfl, b⟩
   have hz2 := b.size
   have HB2 := bt2 HB1 b
   have HX2 := bx HX1 b
   clear b HB1 HX1
   have x0 := HX2.out.cell
   have E := zz (show rbare t.f false false false = b by rw [rbare_fff (show mrk t.f.k = false by rw [HQ0.out]; rfl), <- HH.out, okN_eq, HQ0.out, decide_eq_true HL.out]; rfl)
   go_wp2
   go_ret
   exact ⟨zb E.out, HB2.out⟩
  ·have ql : ((t.ks.length : Int) == 0) = false := beq_false_of_ne (by omega)
   have HL := zz hl
   clear hl
   go_enter Tryz.func125, Tryz.ntmps125
   have E := zz (show false = b by rw [<- HH.out, okN_eq, HQ0.out, decide_eq_false HL.out]; rfl)
   go_wp2
   go_ret
   exact ⟨zb E.out, (box1 _ _).out⟩
 have q0 := beq_false_of_ne k0
 have HQ0 := zz k0
 clear k0
 go_enter Tryz.func125, Tryz.ntmps125
 have E := zz (show false = b by rw [<- HH.out, okN_eq, beq_false_of_ne HQ0.out]; rfl)
 go_wp2
 go_ret
 exact ⟨zb E.out, (box1 _ _).out⟩
theorem rsimple_9 (hE : ∀ k ∈ t.ks, AskE k) (hk : t.f.k = 9) (hF : AllF t) (hK : Kids w m S v t.ks) (hN : ∀ i, S i -> i < w.heap.size) (h : okM t = b) :
 Calls Tryz.prog 105 #[nv t.f v] w fun e w' => e = .returned (.bool b) /\ Below w.heap.size w w' := by
 have HH := zz h
 have HK := zz hK
 have HN := zz hN
 have HF := zz hF
 clear h hK hN hF
 obtain ⟨Av, cv, bv, ov, rfl, hlv, hAv, hrv⟩ := HK.out.form
 have HAv := zz hAv
 have HRv := zz hrv
 clear hAv hrv
 unfold nv
 have HE := zz hE
 clear hE
 have q6 := nk 6 hk rfl
 have q7 := nk 7 hk rfl
 have q8 := nk 8 hk rfl
 have q9 := yk hk
 have q10 := nk 10 hk rfl
 have HKK := zz hk
 clear hk
 go_enter Tryz.func105, Tryz.ntmps105
 go_wp2_with fail
 obtain ⟨w1, hw1, HB1, HX1, hs1⟩ := jb w t.f (.slice Av t.ks.length cv)
 rw [hw1]
 clear hw1
 refine (exprs_is (x := false) (b := (t.ks.all okE)) HE.out ((HK.out.below HB1.out HN.out).lstR) (fun i hi => by have := HN.out i hi; have := HB1.out.size; omega) (allX_false _)).mono ?_
 rintro e w2 ⟨rfl, b⟩
 have hz2 := b.size
 have HB2 := bt2 HB1 b
 have HX2 := bx HX1 b
 clear b HB1 HX1
 have x0 := HX2.out.cell
 cases c0 : t.ks.all okE
 ·have Hc0 := zz c0
  clear c0
  have E := zz (show false = b by rw [<- HH.out, okM_yes (show kSimp t.f = true by unfold kSimp; rw [HKK.out]; rfl), fit_9 HKK.out, Hc0.out]; rfl)
  go_wp2
  go_ret
  exact ⟨zb E.out, HB2.out⟩
 ·have Hc0 := zz c0
  clear c0
  by_cases hl : t.ks.length = 2
  ·have ql : ((t.ks.length : Int) == 2) = true := by simp [hl]
   have HL := zz hl
   clear hl
   go_wp2_with fail
   refine (rbare_is (f := t.f) (x := false) (y := false) (z := false) rfl _).mono ?_
   rintro e w3 ⟨rfl, b⟩
   have hz3 := b.size
   have HB3 := bt2 HB2 b
   have HX3 := bx HX2 b
   clear b HB2 HX2 x0
   have x0 := HX3.out.cell
   have E := zz (show rbare t.f false false false = b by rw [rbare_fff (show mrk t.f.k = false by rw [HKK.out]; rfl), <- HH.out, okM_yes (show kSimp t.f = true by unfold kSimp; rw [HKK.out]; rfl), fit_9 HKK.out, Hc0.out, decide_eq_true HL.out]; rfl)
   go_wp2
   go_ret
   exact ⟨zb E.out, HB3.out⟩
  ·have ql : ((t.ks.length : Int) == 2) = false := beq_false_of_ne (by omega)
   have HL := zz hl
   clear hl
   have E := zz (show false = b by rw [<- HH.out, okM_yes (show kSimp t.f = true by unfold kSimp; rw [HKK.out]; rfl), fit_9 HKK.out, Hc0.out, decide_eq_false HL.out]; rfl)
   go_wp2
   go_ret
   exact ⟨zb E.out, HB2.out⟩
theorem rsimple_8 (hk : t.f.k = 8) (hF : AllF t) (hK : Kids w m S v t.ks) (hN : ∀ i, S i -> i < w.heap.size) (h : okM t = b) :
 Calls Tryz.prog 105 #[nv t.f v] w fun e w' => e = .returned (.bool b) /\ Below w.heap.size w w' := by
 have HH := zz h
 have HK := zz hK
 have HN := zz hN
 have HF := zz hF
 clear h hK hN hF
 obtain ⟨Av, cv, bv, ov, rfl, hlv, hAv, hrv⟩ := HK.out.form
 have HAv := zz hAv
 have HRv := zz hrv
 clear hAv hrv
 unfold nv
 have q6 := nk 6 hk rfl
 have q7 := nk 7 hk rfl
 have q8 := yk hk
 have q9 := nk 9 hk rfl
 have q10 := nk 10 hk rfl
 have HKK := zz hk
 clear hk
 by_cases n1 : t.f.n = 1
 ·have qn := yk n1
  have HN1 := zz qn
  clear n1
  by_cases hl : t.ks.length = 1
  ·have ql : ((t.ks.length : Int) == 1) = true := by simp [hl]
   have HL := zz hl
   clear hl
   obtain ⟨hA1, hbv, _⟩ := HAv.out (by have := HL.out; omega)
   subst hA1
   have hl1 : 0 < t.ks.length := by have := HL.out; omega
   have HO := zz (all_one (P := fun k => k.f.k == 21 && lf k) HL.out)
   have hq := HRv.out.get 0 hl1
   have hq2 : NodeAt w m S bv (ov) t.ks[0] := by simpa using hq
   clear hq
   obtain ⟨vp0, p00, p01, p02, p03, p04, p05, p06, p07, hkp0⟩ := hq2.open
   have HKp0 := zz hkp0
   clear hkp0 hq2
   obtain ⟨Ap, cp, bp, op, rfl, _, _, _⟩ := HKp0.out.form
   by_cases hp21 : t.ks[0].f.k = 21
   ·have qp := yk hp21
    have HP := zz hp21
    clear hp21
    have al : ∀ o j z, w.cell? ⟨bv, j, none⟩ = some z -> (w.alloc o).cell? ⟨bv, j, none⟩ = some z := fun o j z h => (World.cell?_alloc_lt _ _ _ (HN.out bv hbv)).trans h
    have r0 := fun o => al o _ _ p00
    have r1 := fun o => al o _ _ p01
    have r2 := fun o => al o _ _ p02
    have r3 := fun o => al o _ _ p03
    have r4 := fun o => al o _ _ p04
    have r5 := fun o => al o _ _ p05
    have r6 := fun o => al o _ _ p06
    have r7 := fun o => al o _ _ p07
    clear al p00 p01 p02 p03 p04 p05 p06 p07
    go_enter Tryz.func105, Tryz.ntmps105
    go_wp2_with fail
    obtain ⟨w1, hw1, HB1, HX1, hs1⟩ := jb w t.f (.slice (some ⟨bv, ov, none⟩) t.ks.length cv)
    rw [hw1]
    clear hw1
    refine (rleaf_is (t := t.ks[0]) (b := lf t.ks[0]) (AllFs.get HF.out.ks _ (List.getElem_mem hl1)) (HKp0.out.below HB1.out HN.out) (fun i hi => by have := HN.out i hi; omega) rfl).mono ?_
    rintro e w2 ⟨rfl, b⟩
    have hz2 := b.size
    have HB2 := bt2 HB1 b
    have HX2 := bx HX1 b
    clear b HB1 HX1 r0 r1 r2 r3 r4 r5 r6 r7
    have x0 := HX2.out.cell
    cases c0 : lf t.ks[0]
    ·have Hc0 := zz c0
     clear c0
     have E := zz (show false = b by rw [<- HH.out, okM_yes (show kSimp t.f = true by unfold kSimp; rw [HKK.out]; rfl), fit_8 HKK.out, HN1.out, Bool.true_or, decide_eq_true HL.out, HO.out, HP.out, Hc0.out]; simp)
     go_wp2
     go_ret
     exact ⟨zb E.out, HB2.out⟩
    ·have Hc0 := zz c0
     clear c0
     go_wp2_with fail
     refine (rbare_is (f := t.f) (x := false) (y := false) (z := true) rfl _).mono ?_
     rintro e w3 ⟨rfl, b⟩
     have hz3 := b.size
     have HB3 := bt2 HB2 b
     have HX3 := bx HX2 b
     clear b HB2 HX2 x0
     have x0 := HX3.out.cell
     have E := zz (show rbare t.f false false true = b by rw [rbare_fft (show mrk t.f.k = false by rw [HKK.out]; rfl), <- HH.out, okM_yes (show kSimp t.f = true by unfold kSimp; rw [HKK.out]; rfl), fit_8 HKK.out, HN1.out, Bool.true_or, decide_eq_true HL.out, HO.out, HP.out, Hc0.out]; simp)
     go_wp2
     go_ret
     exact ⟨zb E.out, HB3.out⟩
   ·have qp := beq_false_of_ne hp21
    have HP := zz hp21
    clear hp21
    have al : ∀ o j z, w.cell? ⟨bv, j, none⟩ = some z -> (w.alloc o).cell? ⟨bv, j, none⟩ = some z := fun o j z h => (World.cell?_alloc_lt _ _ _ (HN.out bv hbv)).trans h
    have r0 := fun o => al o _ _ p00
    have r1 := fun o => al o _ _ p01
    have r2 := fun o => al o _ _ p02
    have r3 := fun o => al o _ _ p03
    have r4 := fun o => al o _ _ p04
    have r5 := fun o => al o _ _ p05
    have r6 := fun o => al o _ _ p06
    have r7 := fun o => al o _ _ p07
    clear al p00 p01 p02 p03 p04 p05 p06 p07
    go_enter Tryz.func105, Tryz.ntmps105
    have E := zz (show false = b by rw [<- HH.out, okM_yes (show kSimp t.f = true by unfold kSimp; rw [HKK.out]; rfl), fit_8 HKK.out, HN1.out, Bool.true_or, decide_eq_true HL.out, HO.out, beq_false_of_ne HP.out]; simp)
    go_wp2
    go_ret
    exact ⟨zb E.out, (box1 _ _).out⟩
  ·have ql : ((t.ks.length : Int) == 1) = false := beq_false_of_ne (by omega)
   have HL := zz hl
   clear hl
   go_enter Tryz.func105, Tryz.ntmps105
   have E := zz (show false = b by rw [<- HH.out, okM_yes (show kSimp t.f = true by unfold kSimp; rw [HKK.out]; rfl), fit_8 HKK.out, HN1.out, Bool.true_or, decide_eq_false HL.out]; simp)
   go_wp2
   go_ret
   exact ⟨zb E.out, (box1 _ _).out⟩
 have qn := beq_false_of_ne n1
 have HN1 := zz qn
 clear n1
 by_cases n2 : t.f.n = -1
 ·have qm : (t.f.n == -1) = true := by rw [n2]; rfl
  have HN2 := zz qm
  clear n2
  by_cases hl : t.ks.length = 1
  ·have ql : ((t.ks.length : Int) == 1) = true := by simp [hl]
   have HL := zz hl
   clear hl
   obtain ⟨hA1, hbv, _⟩ := HAv.out (by have := HL.out; omega)
   subst hA1
   have hl1 : 0 < t.ks.length := by have := HL.out; omega
   have HO := zz (all_one (P := fun k => k.f.k == 21 && lf k) HL.out)
   have hq := HRv.out.get 0 hl1
   have hq2 : NodeAt w m S bv (ov) t.ks[0] := by simpa using hq
   clear hq
   obtain ⟨vp0, p00, p01, p02, p03, p04, p05, p06, p07, hkp0⟩ := hq2.open
   have HKp0 := zz hkp0
   clear hkp0 hq2
   obtain ⟨Ap, cp, bp, op, rfl, _, _, _⟩ := HKp0.out.form
   by_cases hp21 : t.ks[0].f.k = 21
   ·have qp := yk hp21
    have HP := zz hp21
    clear hp21
    have al : ∀ o j z, w.cell? ⟨bv, j, none⟩ = some z -> (w.alloc o).cell? ⟨bv, j, none⟩ = some z := fun o j z h => (World.cell?_alloc_lt _ _ _ (HN.out bv hbv)).trans h
    have r0 := fun o => al o _ _ p00
    have r1 := fun o => al o _ _ p01
    have r2 := fun o => al o _ _ p02
    have r3 := fun o => al o _ _ p03
    have r4 := fun o => al o _ _ p04
    have r5 := fun o => al o _ _ p05
    have r6 := fun o => al o _ _ p06
    have r7 := fun o => al o _ _ p07
    clear al p00 p01 p02 p03 p04 p05 p06 p07
    go_enter Tryz.func105, Tryz.ntmps105
    go_wp2_with fail
    obtain ⟨w1, hw1, HB1, HX1, hs1⟩ := jb w t.f (.slice (some ⟨bv, ov, none⟩) t.ks.length cv)
    rw [hw1]
    clear hw1
    refine (rleaf_is (t := t.ks[0]) (b := lf t.ks[0]) (AllFs.get HF.out.ks _ (List.getElem_mem hl1)) (HKp0.out.below HB1.out HN.out) (fun i hi => by have := HN.out i hi; omega) rfl).mono ?_
    rintro e w2 ⟨rfl, b⟩
    have hz2 := b.size
    have HB2 := bt2 HB1 b
    have HX2 := bx HX1 b
    clear b HB1 HX1 r0 r1 r2 r3 r4 r5 r6 r7
    have x0 := HX2.out.cell
    cases c0 : lf t.ks[0]
    ·have Hc0 := zz c0
     clear c0
     have E := zz (show false = b by rw [<- HH.out, okM_yes (show kSimp t.f = true by unfold kSimp; rw [HKK.out]; rfl), fit_8 HKK.out, HN1.out, HN2.out, Bool.false_or, decide_eq_true HL.out, HO.out, HP.out, Hc0.out]; simp)
     go_wp2
     go_ret
     exact ⟨zb E.out, HB2.out⟩
    ·have Hc0 := zz c0
     clear c0
     go_wp2_with fail
     refine (rbare_is (f := t.f) (x := false) (y := false) (z := true) rfl _).mono ?_
     rintro e w3 ⟨rfl, b⟩
     have hz3 := b.size
     have HB3 := bt2 HB2 b
     have HX3 := bx HX2 b
     clear b HB2 HX2 x0
     have x0 := HX3.out.cell
     have E := zz (show rbare t.f false false true = b by rw [rbare_fft (show mrk t.f.k = false by rw [HKK.out]; rfl), <- HH.out, okM_yes (show kSimp t.f = true by unfold kSimp; rw [HKK.out]; rfl), fit_8 HKK.out, HN1.out, HN2.out, Bool.false_or, decide_eq_true HL.out, HO.out, HP.out, Hc0.out]; simp)
     go_wp2
     go_ret
     exact ⟨zb E.out, HB3.out⟩
   ·have qp := beq_false_of_ne hp21
    have HP := zz hp21
    clear hp21
    have al : ∀ o j z, w.cell? ⟨bv, j, none⟩ = some z -> (w.alloc o).cell? ⟨bv, j, none⟩ = some z := fun o j z h => (World.cell?_alloc_lt _ _ _ (HN.out bv hbv)).trans h
    have r0 := fun o => al o _ _ p00
    have r1 := fun o => al o _ _ p01
    have r2 := fun o => al o _ _ p02
    have r3 := fun o => al o _ _ p03
    have r4 := fun o => al o _ _ p04
    have r5 := fun o => al o _ _ p05
    have r6 := fun o => al o _ _ p06
    have r7 := fun o => al o _ _ p07
    clear al p00 p01 p02 p03 p04 p05 p06 p07
    go_enter Tryz.func105, Tryz.ntmps105
    have E := zz (show false = b by rw [<- HH.out, okM_yes (show kSimp t.f = true by unfold kSimp; rw [HKK.out]; rfl), fit_8 HKK.out, HN1.out, HN2.out, Bool.false_or, decide_eq_true HL.out, HO.out, beq_false_of_ne HP.out]; simp)
    go_wp2
    go_ret
    exact ⟨zb E.out, (box1 _ _).out⟩
  ·have ql : ((t.ks.length : Int) == 1) = false := beq_false_of_ne (by omega)
   have HL := zz hl
   clear hl
   go_enter Tryz.func105, Tryz.ntmps105
   have E := zz (show false = b by rw [<- HH.out, okM_yes (show kSimp t.f = true by unfold kSimp; rw [HKK.out]; rfl), fit_8 HKK.out, HN1.out, HN2.out, Bool.false_or, decide_eq_false HL.out]; simp)
   go_wp2
   go_ret
   exact ⟨zb E.out, (box1 _ _).out⟩
 ·have qm : (t.f.n == -1) = false := beq_false_of_ne n2
  have HN2 := zz qm
  clear n2
  go_enter Tryz.func105, Tryz.ntmps105
  have E := zz (show false = b by rw [<- HH.out, okM_yes (show kSimp t.f = true by unfold kSimp; rw [HKK.out]; rfl), fit_8 HKK.out, HN1.out, HN2.out]; rfl)
  go_wp2
  go_ret
  exact ⟨zb E.out, (box1 _ _).out⟩
theorem rsimple_10 (hE : ∀ k ∈ t.ks, AskE k) (hk : t.f.k = 10) (hF : AllF t) (hK : Kids w m S v t.ks) (hN : ∀ i, S i -> i < w.heap.size) (h : okM t = b) :
 Calls Tryz.prog 105 #[nv t.f v] w fun e w' => e = .returned (.bool b) /\ Below w.heap.size w w' := by
 have HH := zz h
 have HK := zz hK
 have HN := zz hN
 have HF := zz hF
 clear h hK hN hF
 obtain ⟨Av, cv, bv, ov, rfl, hlv, hAv, hrv⟩ := HK.out.form
 have HAv := zz hAv
 have HRv := zz hrv
 clear hAv hrv
 unfold nv
 have HE := zz hE
 clear hE
 have q6 := nk 6 hk rfl
 have q7 := nk 7 hk rfl
 have q8 := nk 8 hk rfl
 have q9 := nk 9 hk rfl
 have q10 := yk hk
 have HKK := zz hk
 clear hk
 by_cases hl : t.ks.length = 1
 rotate_left
 ·have ql : ((t.ks.length : Int) != 1) = true := by simp; omega
  have HL := zz hl
  clear hl
  go_enter Tryz.func105, Tryz.ntmps105
  have E := zz (show false = b by rw [<- HH.out, okM_yes (show kSimp t.f = true by unfold kSimp; rw [HKK.out]; rfl), fit_10 HKK.out, decide_eq_false HL.out]; rfl)
  go_wp2
  go_ret
  exact ⟨zb E.out, (box1 _ _).out⟩
 have ql : ((t.ks.length : Int) != 1) = false := by simp [hl]
 have HL := zz hl
 have hl1 : 0 < t.ks.length := by omega
 clear hl
 have HO := zz (all_one (P := fun k => okE k && (kRecv k.f || k.f.k == 28 || k.f.k == 30)) HL.out)
 obtain ⟨hA1, hbv, _⟩ := HAv.out hl1
 subst hA1
 go_enter Tryz.func105, Tryz.ntmps105
 go_wp2_with fail
 obtain ⟨w1, hw1, HB1, HX1, hs1⟩ := jb w t.f (.slice (some ⟨bv, ov, none⟩) t.ks.length cv)
 rw [hw1]
 clear hw1
 refine (rbare_is (f := t.f) (x := false) (y := false) (z := false) (r := emp t.f) (rbare_fff (show mrk t.f.k = false by rw [HKK.out]; rfl)) _).mono ?_
 rintro e w2 ⟨rfl, b⟩
 have hz2 := b.size
 have HB2 := bt2 HB1 b
 have HX2 := bx HX1 b
 clear b HB1 HX1
 have x0 := HX2.out.cell
 cases c0 : emp t.f
 ·have Hc0 := zz c0
  clear c0
  have E := zz (show false = b by rw [<- HH.out, okM_yes (show kSimp t.f = true by unfold kSimp; rw [HKK.out]; rfl), fit_10 HKK.out, decide_eq_true HL.out, Hc0.out]; rfl)
  go_wp2
  go_ret
  exact ⟨zb E.out, HB2.out⟩
 ·have Hc0 := zz c0
  clear c0
  have hq := (HRv.out.agree (Agree.of_below HB2.out HN.out) hbv).get 0 hl1
  have hq2 : NodeAt w2 m S bv (ov) t.ks[0] := by simpa using hq
  clear hq
  obtain ⟨vp0, p00, p01, p02, p03, p04, p05, p06, p07, hkp0⟩ := hq2.open
  have HKp0 := zz hkp0
  clear hkp0 hq2
  obtain ⟨Ap, cp, bp, op, rfl, _, _, _⟩ := HKp0.out.form
  go_wp2_with fail
  obtain ⟨w3, hw3, HB3', HY3, hs3⟩ := jb w2 t.ks[0].f (.slice Ap t.ks[0].ks.length cp)
  rw [hw3]
  clear hw3
  have HB3 := zz (HB2.out.trans (HB3'.out.mono HB2.out.size))
  have HX3 := zz (HX2.out.below HB3'.out (by omega))
  have HKp3 := zz (HKp0.out.below HB3'.out (fun i hi => by have := HN.out i hi; omega))
  refine (rRecv_b (f := t.ks[0].f) _).mono ?_
  rintro e w4 ⟨rfl, b⟩
  have hz4 := b.size
  have HB4 := bt2 HB3 b
  have HY4 := zz (HY3.out.below b (by omega))
  have HKp4 := zz (HKp3.out.below b (fun i hi => by have := HN.out i hi; omega))
  clear b HB3 HB3' HX3 HY3 HX2 HB2 HKp3 x0 p00 p01 p02 p03 p04 p05 p06 p07
  have y0 := HY4.out.cell
  go_wp2_with fail
  refine (HE.out t.ks[0] (List.getElem_mem hl1) _ _ m S HKp4.out (fun i hi => by have := HN.out i hi; omega)).mono ?_
  rintro e w5 ⟨rfl, b⟩
  have hz5 := b.size
  have HB5 := bt2 HB4 b
  have HY5 := zz (HY4.out.below b (by omega))
  clear b HB4 HY4 y0
  have y0 := HY5.out.cell
  cases c1 : okE t.ks[0]
  ·have Hc1 := zz c1
   clear c1
   have E := zz (show false = b by rw [<- HH.out, okM_yes (show kSimp t.f = true by unfold kSimp; rw [HKK.out]; rfl), fit_10 HKK.out, decide_eq_true HL.out, HO.out, Hc0.out, Hc1.out]; rfl)
   go_wp2
   go_ret
   exact ⟨zb E.out, HB5.out⟩
  ·have Hc1 := zz c1
   clear c1
   cases c2 : kRecv t.ks[0].f
   ·have Hc2 := zz c2
    clear c2
    by_cases k28 : t.ks[0].f.k = 28
    ·have q28 := yk k28
     have HK28 := zz q28
     clear k28
     have E := zz (show true = b by rw [<- HH.out, okM_yes (show kSimp t.f = true by unfold kSimp; rw [HKK.out]; rfl), fit_10 HKK.out, decide_eq_true HL.out, HO.out, Hc0.out, Hc1.out, Hc2.out, HK28.out]; rfl)
     go_wp2
     go_ret
     exact ⟨zb E.out, HB5.out⟩
    have q28 := beq_false_of_ne k28
    have HK28 := zz q28
    clear k28
    by_cases k30 : t.ks[0].f.k = 30
    ·have q30 := yk k30
     have HK30 := zz q30
     clear k30
     have E := zz (show true = b by rw [<- HH.out, okM_yes (show kSimp t.f = true by unfold kSimp; rw [HKK.out]; rfl), fit_10 HKK.out, decide_eq_true HL.out, HO.out, Hc0.out, Hc1.out, Hc2.out, HK28.out, HK30.out]; rfl)
     go_wp2
     go_ret
     exact ⟨zb E.out, HB5.out⟩
    ·have q30 := beq_false_of_ne k30
     have HK30 := zz q30
     clear k30
     have E := zz (show false = b by rw [<- HH.out, okM_yes (show kSimp t.f = true by unfold kSimp; rw [HKK.out]; rfl), fit_10 HKK.out, decide_eq_true HL.out, HO.out, Hc0.out, Hc1.out, Hc2.out, HK28.out, HK30.out]; rfl)
     go_wp2
     go_ret
     exact ⟨zb E.out, HB5.out⟩
   ·have Hc2 := zz c2
    clear c2
    have E := zz (show true = b by rw [<- HH.out, okM_yes (show kSimp t.f = true by unfold kSimp; rw [HKK.out]; rfl), fit_10 HKK.out, decide_eq_true HL.out, HO.out, Hc0.out, Hc1.out, Hc2.out]; rfl)
    go_wp2
    go_ret
    exact ⟨zb E.out, HB5.out⟩
end Go.Proofs.YtmdhjiammcpogaaGreatDoor
