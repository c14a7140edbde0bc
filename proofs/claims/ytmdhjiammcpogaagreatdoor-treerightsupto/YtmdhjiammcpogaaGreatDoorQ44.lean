import Derived.Test.YtmdhjiammcpogaaGreatDoorQ43
namespace Go.Proofs.YtmdhjiammcpogaaGreatDoor
set_option maxRecDepth 100000
set_option maxHeartbeats 16000000
open Go.RowKit
variable {S : Nat -> Prop} {b : Bool} {m : Md} {t : Tr} {ts : List Tr} {v : Value} {w : World}
theorem okC_num {kd : Int} (hkd : kd = 14 ∨ kd = 16) (h : okC kd t = true) : t.f.n = 0 ∨ t.f.n = 1 := by
 rw [okC, Bool.and_eq_true, beq_iff_eq] at h
 obtain ⟨h1, h2⟩ := h
 have hk : t.f.k = 14 ∨ t.f.k = 16 := by rw [h1]; exact hkd
 by_cases h0 : t.f.n = 0
 ·exact Or.inl h0
 by_cases h1' : t.f.n = 1
 ·exact Or.inr h1'
 ·rw [clause_num hk h0 h1'] at h2
  cases h2
theorem rclauses_is {va : Value} {kd : Int} (hkd : kd = 14 ∨ kd = 16) (hC : ∀ t ∈ ts, AskC kd t) (hK : LstR w m S va ts) (hS : ∀ i, S i -> i < w.heap.size) (h : clsOk kd ts = b) :
 Calls Tryz.prog 103 #[va, .int .i64 kd] w fun e w' => e = .returned (.bool b) /\ Below w.heap.size w w' := by
 obtain ⟨A, ca, ba, oa, rfl, hla, hA, hra⟩ := hK
 have HA := zz hA
 have HR := zz hra
 have HG := zz hC
 have HS := zz hS
 have HH := zz h
 have HKD := zz hkd
 clear hA hra hC hS h hkd
 go_enter Tryz.func103, Tryz.ntmps103
 go_wp2
 go_loopw [5, 6] (fun d i wr => ∃ k : Nat, k <= ts.length /\ i = .int .i64 k /\ d = .int .i64 (dfs (ts.take k) : Int) /\ Below w.heap.size w wr /\ (ts.take k).all (okC kd) = true) (fun _ i _ => ts.length - (intOf i).toNat)
 case atStart => exact ⟨0, Nat.zero_le _, rfl, by rw [List.take_zero]; rfl, Below.refl _ _, by rw [List.take_zero]; rfl⟩
 case round =>
  obtain ⟨k, hk, rfl, rfl, hbw, hall⟩ := hrel
  have hsz := hbw.size
  have HBW := zz hbw
  have HALL := zz hall
  have hdl := dfs_le ts k
  clear hbw hall
  by_cases hkl : k < ts.length
  ·obtain ⟨hA1, hb⟩ := HA.out (by omega)
   subst hA1
   obtain ⟨v', c0, c1, c2, c3, c4, c5, c6, c7, hk'⟩ := ((HR.out.agree (Agree.of_below HBW.out HS.out) hb).get k hkl).open
   have HK' := zz hk'
   have HDS := zz (dfs_succ hkl)
   have i0 : (0 : Int) <= (k : Int) := by omega
   have i1 : (k : Int) < (ts.length : Int) := by omega
   clear hk'
   go_wp2_with fail
   refine (HG.out ts[k] (List.getElem_mem hkl) wr _ m S HK'.out (fun i hi => by have := HS.out i hi; omega)).mono ?_
   rintro e w2 ⟨rfl, b2⟩
   have HB2 := zz (HBW.out.trans (b2.mono hsz))
   clear b2 c0 c1 c2 c3 c4 c5 c6 c7
   cases hp : okC kd ts[k]
   ·have E := zz (show false = b by rw [<- HH.out]; unfold clsOk; rw [all_no hkl hp]; rfl)
    clear hp
    go_wp2
    go_ret
    exact ⟨zb E.out, HB2.out⟩
   have H1 := zz (show (ts.take (k + 1)).all (okC kd) = true by rw [all_succ hkl, HALL.out, hp]; rfl)
   obtain ⟨v2, c0, c1, c2, c3, c4, c5, c6, c7, hk2⟩ := ((HR.out.agree (Agree.of_below HB2.out HS.out) hb).get k hkl).open
   clear hk2
   rcases okC_num HKD.out hp with hn | hn
   ·rw [hn] at c2
    have HDN := zz (show dfs (ts.take (k + 1)) = dfs (ts.take k) by rw [HDS.out]; simp [kDef, hn])
    clear hp hn
    go_wp2
    go_roundw
    case rel => exact ⟨k + 1, by omega, by go_num, by rw [HDN.out], HB2.out, H1.out⟩
    case measure => simp [intOf]; omega
   ·rw [hn] at c2
    have HDN := zz (show dfs (ts.take (k + 1)) = dfs (ts.take k) + 1 by rw [HDS.out]; simp [kDef, hn])
    clear hp hn
    go_wp2
    go_roundw
    case rel => exact ⟨k + 1, by omega, by go_num, by rw [HDN.out]; go_num, HB2.out, H1.out⟩
    case measure => simp [intOf]; omega
  ·have HT := zz (show ts.take k = ts from List.take_of_length_le (by omega))
   by_cases hd : dfs (ts.take k) <= 1
   ·have qd : decide ((dfs (ts.take k) : Int) <= 1) = true := decide_eq_true (by omega)
    have E := zz (show true = b by
     have h9 := HALL.out
     rw [HT.out] at h9 hd
     rw [<- HH.out]
     unfold clsOk
     rw [h9, decide_eq_true hd]
     rfl)
    clear hd
    go_wp2
    go_ret
    exact ⟨zb E.out, HBW.out⟩
   ·have qd : decide ((dfs (ts.take k) : Int) <= 1) = false := decide_eq_false (by omega)
    have E := zz (show false = b by
     rw [HT.out] at hd
     rw [<- HH.out]
     unfold clsOk
     rw [decide_eq_false hd, Bool.and_false])
    clear hd
    go_wp2
    go_ret
    exact ⟨zb E.out, HBW.out⟩
theorem rstmt_4 (hS : ∀ k ∈ t.ks, AskS k) (hk : t.f.k = 4) (hF : AllF t) (hK : Kids w m S v t.ks) (hN : ∀ i, S i -> i < w.heap.size) (h : okS t = b) :
 Calls Tryz.prog 76 #[nv t.f v] w fun e w' => e = .returned (.bool b) /\ Below w.heap.size w w' := by
 have HH := zz h
 have HK := zz hK
 have HN := zz hN
 have HF := zz hF
 clear h hK hN hF
 obtain ⟨Av, cv, bv, ov, rfl, hlv, hAv, hrv⟩ := HK.out.form
 have HAv := zz hAv
 have HRv := zz hrv
 clear hAv hrv
 unfold nv
 have q4 := yk hk
 have q5 := nk 5 hk rfl
 have q11 := nk 11 hk rfl
 have q12 := nk 12 hk rfl
 have q13 := nk 13 hk rfl
 have q15 := nk 15 hk rfl
 have q17 := nk 17 hk rfl
 have q18 := nk 18 hk rfl
 have q19 := nk 19 hk rfl
 have q20 := nk 20 hk rfl
 have HKK := zz hk
 clear hk
 have HS := zz hS
 clear hS
 go_enter Tryz.func76, Tryz.ntmps76
 go_wp2_with fail
 obtain ⟨w1, hw1, HB1, HX1, hs1⟩ := jb w t.f (.slice Av t.ks.length cv)
 rw [hw1]
 clear hw1
 refine (rblock_is (t := t) (b := okB t) HS.out HF.out (HK.out.below HB1.out HN.out) (fun i hi => by have := HN.out i hi; have := HB1.out.size; omega) rfl).mono ?_
 rintro e w2 ⟨rfl, b⟩
 have hz2 := b.size
 have HB2 := bt2 HB1 b
 have HX2 := bx HX1 b
 clear b HB1 HX1
 have x0 := HX2.out.cell
 have E := zz (show okB t = b by rw [<- HH.out, okS_4 HKK.out])
 go_wp2
 go_ret
 exact ⟨zb E.out, HB2.out⟩
theorem rstmt_5 (hE : ∀ k ∈ t.ks, AskE k) (hk : t.f.k = 5) (hF : AllF t) (hK : Kids w m S v t.ks) (hN : ∀ i, S i -> i < w.heap.size) (h : okS t = b) :
 Calls Tryz.prog 76 #[nv t.f v] w fun e w' => e = .returned (.bool b) /\ Below w.heap.size w w' := by
 have HH := zz h
 have HK := zz hK
 have HN := zz hN
 have HF := zz hF
 clear h hK hN hF
 obtain ⟨Av, cv, bv, ov, rfl, hlv, hAv, hrv⟩ := HK.out.form
 have HAv := zz hAv
 have HRv := zz hrv
 clear hAv hrv
 unfold nv
 have HE := zz hE
 clear hE
 have q4 := nk 4 hk rfl
 have q5 := yk hk
 have q11 := nk 11 hk rfl
 have q12 := nk 12 hk rfl
 have q13 := nk 13 hk rfl
 have q15 := nk 15 hk rfl
 have q17 := nk 17 hk rfl
 have q18 := nk 18 hk rfl
 have q19 := nk 19 hk rfl
 have q20 := nk 20 hk rfl
 have HKK := zz hk
 clear hk
 go_enter Tryz.func76, Tryz.ntmps76
 go_wp2_with fail
 obtain ⟨w1, hw1, HB1, HX1, hs1⟩ := jb w t.f (.slice Av t.ks.length cv)
 rw [hw1]
 clear hw1
 refine (proper_is (s := t.f.t) (r := kNamed t.f) HF.out.nf.tl name_blank _).mono ?_
 rintro e w2 ⟨rfl, b⟩
 have hz2 := b.size
 have HB2 := bt2 HB1 b
 have HX2 := bx HX1 b
 clear b HB1 HX1
 have x0 := HX2.out.cell
 go_wp2_with fail
 refine (rright_b (s := t.f.y) HF.out.nf.yl _).mono ?_
 rintro e w3 ⟨rfl, b⟩
 have hz3 := b.size
 have HB3 := bt2 HB2 b
 have HX3 := bx HX2 b
 clear b HB2 HX2 x0
 have x0 := HX3.out.cell
 go_wp2_with fail
 refine (exprs_is (x := false) (b := (t.ks.all okE)) HE.out ((HK.out.below HB3.out HN.out).lstR) (fun i hi => by have := HN.out i hi; have := HB3.out.size; omega) (allX_false _)).mono ?_
 rintro e w4 ⟨rfl, b⟩
 have hz4 := b.size
 have HB4 := bt2 HB3 b
 have HX4 := bx HX3 b
 clear b HB3 HX3 x0
 have x0 := HX4.out.cell
 cases c0 : kNamed t.f
 ·have Hc0 := zz c0
  clear c0
  have E := zz (show false = b by rw [<- HH.out, okS_5 HKK.out, Hc0.out]; rfl)
  go_wp2
  go_ret
  exact ⟨zb E.out, HB4.out⟩
 ·have Hc0 := zz c0
  clear c0
  cases c1 : right t.f.y.data.toList
  ·have Hc1 := zz c1
   clear c1
   have E := zz (show false = b by rw [<- HH.out, okS_5 HKK.out, Hc0.out, Hc1.out]; rfl)
   go_wp2
   go_ret
   exact ⟨zb E.out, HB4.out⟩
  ·have Hc1 := zz c1
   clear c1
   cases c2 : t.ks.all okE
   ·have Hc2 := zz c2
    clear c2
    have E := zz (show false = b by rw [<- HH.out, okS_5 HKK.out, Hc0.out, Hc1.out, Hc2.out]; rfl)
    go_wp2
    go_ret
    exact ⟨zb E.out, HB4.out⟩
   ·have Hc2 := zz c2
    clear c2
    by_cases hl : t.ks.length <= 1
    ·have ql : decide ((t.ks.length : Int) <= 1) = true := decide_eq_true (by omega)
     have HL := zz hl
     clear hl
     go_wp2_with fail
     refine (rbare_is (f := t.f) (x := true) (y := true) (z := false) rfl _).mono ?_
     rintro e w5 ⟨rfl, b⟩
     have hz5 := b.size
     have HB5 := bt2 HB4 b
     have HX5 := bx HX4 b
     clear b HB4 HX4 x0
     have x0 := HX5.out.cell
     have E := zz (show rbare t.f true true false = b by rw [rbare_ttf, <- HH.out, okS_5 HKK.out, Hc0.out, Hc1.out, Hc2.out, decide_eq_true HL.out]; rfl)
     go_wp2
     go_ret
     exact ⟨zb E.out, HB5.out⟩
    ·have ql : decide ((t.ks.length : Int) <= 1) = false := decide_eq_false (by omega)
     have HL := zz hl
     clear hl
     have E := zz (show false = b by rw [<- HH.out, okS_5 HKK.out, Hc0.out, Hc1.out, Hc2.out, decide_eq_false HL.out]; rfl)
     go_wp2
     go_ret
     exact ⟨zb E.out, HB4.out⟩
theorem rstmt_18 (hE : ∀ k ∈ t.ks, AskE k) (hk : t.f.k = 18) (hF : AllF t) (hK : Kids w m S v t.ks) (hN : ∀ i, S i -> i < w.heap.size) (h : okS t = b) :
 Calls Tryz.prog 76 #[nv t.f v] w fun e w' => e = .returned (.bool b) /\ Below w.heap.size w w' := by
 have HH := zz h
 have HK := zz hK
 have HN := zz hN
 have HF := zz hF
 clear h hK hN hF
 obtain ⟨Av, cv, bv, ov, rfl, hlv, hAv, hrv⟩ := HK.out.form
 have HAv := zz hAv
 have HRv := zz hrv
 clear hAv hrv
 unfold nv
 have HE := zz hE
 clear hE
 have q4 := nk 4 hk rfl
 have q5 := nk 5 hk rfl
 have q11 := nk 11 hk rfl
 have q12 := nk 12 hk rfl
 have q13 := nk 13 hk rfl
 have q15 := nk 15 hk rfl
 have q17 := nk 17 hk rfl
 have q18 := yk hk
 have q19 := nk 19 hk rfl
 have q20 := nk 20 hk rfl
 have HKK := zz hk
 clear hk
 go_enter Tryz.func76, Tryz.ntmps76
 go_wp2_with fail
 obtain ⟨w1, hw1, HB1, HX1, hs1⟩ := jb w t.f (.slice Av t.ks.length cv)
 rw [hw1]
 clear hw1
 refine (exprs_is (x := false) (b := (t.ks.all okE)) HE.out ((HK.out.below HB1.out HN.out).lstR) (fun i hi => by have := HN.out i hi; have := HB1.out.size; omega) (allX_false _)).mono ?_
 rintro e w2 ⟨rfl, b⟩
 have hz2 := b.size
 have HB2 := bt2 HB1 b
 have HX2 := bx HX1 b
 clear b HB1 HX1
 have x0 := HX2.out.cell
 cases c0 : t.ks.all okE
 ·have Hc0 := zz c0
  clear c0
  have E := zz (show false = b by rw [<- HH.out, okS_18 HKK.out, Hc0.out]; rfl)
  go_wp2
  go_ret
  exact ⟨zb E.out, HB2.out⟩
 ·have Hc0 := zz c0
  clear c0
  by_cases hl : t.ks.length <= 1
  ·have ql : decide ((t.ks.length : Int) <= 1) = true := decide_eq_true (by omega)
   have HL := zz hl
   clear hl
   go_wp2_with fail
   refine (rbare_is (f := t.f) (x := false) (y := false) (z := false) rfl _).mono ?_
   rintro e w3 ⟨rfl, b⟩
   have hz3 := b.size
   have HB3 := bt2 HB2 b
   have HX3 := bx HX2 b
   clear b HB2 HX2 x0
   have x0 := HX3.out.cell
   have E := zz (show rbare t.f false false false = b by rw [rbare_fff (show mrk t.f.k = false by rw [HKK.out]; rfl), <- HH.out, okS_18 HKK.out, Hc0.out, decide_eq_true HL.out]; rfl)
   go_wp2
   go_ret
   exact ⟨zb E.out, HB3.out⟩
  ·have ql : decide ((t.ks.length : Int) <= 1) = false := decide_eq_false (by omega)
   have HL := zz hl
   clear hl
   have E := zz (show false = b by rw [<- HH.out, okS_18 HKK.out, Hc0.out, decide_eq_false HL.out]; rfl)
   go_wp2
   go_ret
   exact ⟨zb E.out, HB2.out⟩
theorem rstmt_19 (hk : t.f.k = 19) (hF : AllF t) (hK : Kids w m S v t.ks) (hN : ∀ i, S i -> i < w.heap.size) (h : okS t = b) :
 Calls Tryz.prog 76 #[nv t.f v] w fun e w' => e = .returned (.bool b) /\ Below w.heap.size w w' := by
 have HH := zz h
 have HK := zz hK
 have HN := zz hN
 have HF := zz hF
 clear h hK hN hF
 obtain ⟨Av, cv, bv, ov, rfl, hlv, hAv, hrv⟩ := HK.out.form
 have HAv := zz hAv
 have HRv := zz hrv
 clear hAv hrv
 unfold nv
 have q4 := nk 4 hk rfl
 have q5 := nk 5 hk rfl
 have q11 := nk 11 hk rfl
 have q12 := nk 12 hk rfl
 have q13 := nk 13 hk rfl
 have q15 := nk 15 hk rfl
 have q17 := nk 17 hk rfl
 have q18 := nk 18 hk rfl
 have q19 := yk hk
 have q20 := nk 20 hk rfl
 have HKK := zz hk
 clear hk
 by_cases hl : t.ks.length = 0
 ·have ql : ((t.ks.length : Int) == 0) = true := by simp [hl]
  have HL := zz hl
  clear hl
  go_enter Tryz.func76, Tryz.ntmps76
  go_wp2_with fail
  obtain ⟨w1, hw1, HB1, HX1, hs1⟩ := jb w t.f (.slice Av t.ks.length cv)
  rw [hw1]
  clear hw1
  refine (rbare_is (f := t.f) (x := false) (y := false) (z := false) rfl _).mono ?_
  rintro e w2 ⟨rfl, b⟩
  have hz2 := b.size
  have HB2 := bt2 HB1 b
  have HX2 := bx HX1 b
  clear b HB1 HX1
  have x0 := HX2.out.cell
  have E := zz (show rbare t.f false false false = b by rw [rbare_fff (show mrk t.f.k = false by rw [HKK.out]; rfl), <- HH.out, okS_bc (Or.inl HKK.out), decide_eq_true HL.out]; rfl)
  go_wp2
  go_ret
  exact ⟨zb E.out, HB2.out⟩
 ·have ql : ((t.ks.length : Int) == 0) = false := beq_false_of_ne (by omega)
  have HL := zz hl
  clear hl
  go_enter Tryz.func76, Tryz.ntmps76
  have E := zz (show false = b by rw [<- HH.out, okS_bc (Or.inl HKK.out), decide_eq_false HL.out]; rfl)
  go_wp2
  go_ret
  exact ⟨zb E.out, (box1 _ _).out⟩
theorem rstmt_20 (hk : t.f.k = 20) (hF : AllF t) (hK : Kids w m S v t.ks) (hN : ∀ i, S i -> i < w.heap.size) (h : okS t = b) :
 Calls Tryz.prog 76 #[nv t.f v] w fun e w' => e = .returned (.bool b) /\ Below w.heap.size w w' := by
 have HH := zz h
 have HK := zz hK
 have HN := zz hN
 have HF := zz hF
 clear h hK hN hF
 obtain ⟨Av, cv, bv, ov, rfl, hlv, hAv, hrv⟩ := HK.out.form
 have HAv := zz hAv
 have HRv := zz hrv
 clear hAv hrv
 unfold nv
 have q4 := nk 4 hk rfl
 have q5 := nk 5 hk rfl
 have q11 := nk 11 hk rfl
 have q12 := nk 12 hk rfl
 have q13 := nk 13 hk rfl
 have q15 := nk 15 hk rfl
 have q17 := nk 17 hk rfl
 have q18 := nk 18 hk rfl
 have q19 := nk 19 hk rfl
 have q20 := yk hk
 have HKK := zz hk
 clear hk
 by_cases hl : t.ks.length = 0
 ·have ql : ((t.ks.length : Int) == 0) = true := by simp [hl]
  have HL := zz hl
  clear hl
  go_enter Tryz.func76, Tryz.ntmps76
  go_wp2_with fail
  obtain ⟨w1, hw1, HB1, HX1, hs1⟩ := jb w t.f (.slice Av t.ks.length cv)
  rw [hw1]
  clear hw1
  refine (rbare_is (f := t.f) (x := false) (y := false) (z := false) rfl _).mono ?_
  rintro e w2 ⟨rfl, b⟩
  have hz2 := b.size
  have HB2 := bt2 HB1 b
  have HX2 := bx HX1 b
  clear b HB1 HX1
  have x0 := HX2.out.cell
  have E := zz (show rbare t.f false false false = b by rw [rbare_fff (show mrk t.f.k = false by rw [HKK.out]; rfl), <- HH.out, okS_bc (Or.inr HKK.out), decide_eq_true HL.out]; rfl)
  go_wp2
  go_ret
  exact ⟨zb E.out, HB2.out⟩
 ·have ql : ((t.ks.length : Int) == 0) = false := beq_false_of_ne (by omega)
  have HL := zz hl
  clear hl
  go_enter Tryz.func76, Tryz.ntmps76
  have E := zz (show false = b by rw [<- HH.out, okS_bc (Or.inr HKK.out), decide_eq_false HL.out]; rfl)
  go_wp2
  go_ret
  exact ⟨zb E.out, (box1 _ _).out⟩
theorem rstmt_11 (hI : AskIf t) (hk : t.f.k = 11) (hF : AllF t) (hK : Kids w m S v t.ks) (hN : ∀ i, S i -> i < w.heap.size) (h : okS t = b) :
 Calls Tryz.prog 76 #[nv t.f v] w fun e w' => e = .returned (.bool b) /\ Below w.heap.size w w' := by
 have HH := zz h
 have HK := zz hK
 have HN := zz hN
 have HF := zz hF
 clear h hK hN hF
 obtain ⟨Av, cv, bv, ov, rfl, hlv, hAv, hrv⟩ := HK.out.form
 have HAv := zz hAv
 have HRv := zz hrv
 clear hAv hrv
 unfold nv
 have q4 := nk 4 hk rfl
 have q5 := nk 5 hk rfl
 have q11 := yk hk
 have q12 := nk 12 hk rfl
 have q13 := nk 13 hk rfl
 have q15 := nk 15 hk rfl
 have q17 := nk 17 hk rfl
 have q18 := nk 18 hk rfl
 have q19 := nk 19 hk rfl
 have q20 := nk 20 hk rfl
 have HKK := zz hk
 clear hk
 have HI := zz hI
 clear hI
 go_enter Tryz.func76, Tryz.ntmps76
 go_wp2_with fail
 obtain ⟨w1, hw1, HB1, HX1, hs1⟩ := jb w t.f (.slice Av t.ks.length cv)
 rw [hw1]
 clear hw1
 refine (HI.out _ _ m S HKK.out (HK.out.below HB1.out HN.out) (fun i hi => by have := HN.out i hi; have := HB1.out.size; omega)).mono ?_
 rintro e w2 ⟨rfl, b⟩
 have hz2 := b.size
 have HB2 := bt2 HB1 b
 have HX2 := bx HX1 b
 clear b HB1 HX1
 have x0 := HX2.out.cell
 have E := zz (show fitT t = b by rw [<- HH.out, okS_fit (show kStmt t.f = true by simp [kStmt, HKK.out])])
 go_wp2
 go_ret
 exact ⟨zb E.out, HB2.out⟩
def AskFor (t : Tr) : Prop := ∀ (w : World) (v : Value) (m : Md) (S : Nat -> Prop), t.f.k = 12 -> Kids w m S v t.ks -> (∀ i, S i -> i < w.heap.size) ->
 Calls Tryz.prog 102 #[nv t.f v] w fun e w' => e = .returned (.bool (fitT t)) /\ Below w.heap.size w w'
theorem rstmt_12 (hI : AskFor t) (hk : t.f.k = 12) (hF : AllF t) (hK : Kids w m S v t.ks) (hN : ∀ i, S i -> i < w.heap.size) (h : okS t = b) :
 Calls Tryz.prog 76 #[nv t.f v] w fun e w' => e = .returned (.bool b) /\ Below w.heap.size w w' := by
 have HH := zz h
 have HK := zz hK
 have HN := zz hN
 have HF := zz hF
 clear h hK hN hF
 obtain ⟨Av, cv, bv, ov, rfl, hlv, hAv, hrv⟩ := HK.out.form
 have HAv := zz hAv
 have HRv := zz hrv
 clear hAv hrv
 unfold nv
 have q4 := nk 4 hk rfl
 have q5 := nk 5 hk rfl
 have q11 := nk 11 hk rfl
 have q12 := yk hk
 have q13 := nk 13 hk rfl
 have q15 := nk 15 hk rfl
 have q17 := nk 17 hk rfl
 have q18 := nk 18 hk rfl
 have q19 := nk 19 hk rfl
 have q20 := nk 20 hk rfl
 have HKK := zz hk
 clear hk
 have HI := zz hI
 clear hI
 go_enter Tryz.func76, Tryz.ntmps76
 go_wp2_with fail
 obtain ⟨w1, hw1, HB1, HX1, hs1⟩ := jb w t.f (.slice Av t.ks.length cv)
 rw [hw1]
 clear hw1
 refine (HI.out _ _ m S HKK.out (HK.out.below HB1.out HN.out) (fun i hi => by have := HN.out i hi; have := HB1.out.size; omega)).mono ?_
 rintro e w2 ⟨rfl, b⟩
 have hz2 := b.size
 have HB2 := bt2 HB1 b
 have HX2 := bx HX1 b
 clear b HB1 HX1
 have x0 := HX2.out.cell
 have E := zz (show fitT t = b by rw [<- HH.out, okS_fit (show kStmt t.f = true by simp [kStmt, HKK.out])])
 go_wp2
 go_ret
 exact ⟨zb E.out, HB2.out⟩
theorem rstmt_15 (hC : ∀ k ∈ t.ks, AskC 16 k) (hk : t.f.k = 15) (hF : AllF t) (hK : Kids w m S v t.ks) (hN : ∀ i, S i -> i < w.heap.size) (h : okS t = b) :
 Calls Tryz.prog 76 #[nv t.f v] w fun e w' => e = .returned (.bool b) /\ Below w.heap.size w w' := by
 have HH := zz h
 have HK := zz hK
 have HN := zz hN
 have HF := zz hF
 clear h hK hN hF
 obtain ⟨Av, cv, bv, ov, rfl, hlv, hAv, hrv⟩ := HK.out.form
 have HAv := zz hAv
 have HRv := zz hrv
 clear hAv hrv
 unfold nv
 have q4 := nk 4 hk rfl
 have q5 := nk 5 hk rfl
 have q11 := nk 11 hk rfl
 have q12 := nk 12 hk rfl
 have q13 := nk 13 hk rfl
 have q15 := yk hk
 have q17 := nk 17 hk rfl
 have q18 := nk 18 hk rfl
 have q19 := nk 19 hk rfl
 have q20 := nk 20 hk rfl
 have HKK := zz hk
 clear hk
 have HC := zz hC
 clear hC
 go_enter Tryz.func76, Tryz.ntmps76
 go_wp2_with fail
 obtain ⟨w1, hw1, HB1, HX1, hs1⟩ := jb w t.f (.slice Av t.ks.length cv)
 rw [hw1]
 clear hw1
 refine (rbare_is (f := t.f) (x := false) (y := false) (z := false) (r := emp t.f) (rbare_fff (show mrk t.f.k = false by rw [HKK.out]; rfl)) _).mono ?_
 rintro e w2 ⟨rfl, b⟩
 have hz2 := b.size
 have HB2 := bt2 HB1 b
 have HX2 := bx HX1 b
 clear b HB1 HX1
 have x0 := HX2.out.cell
 cases c0 : emp t.f
 ·have Hc0 := zz c0
  clear c0
  have E := zz (show false = b by rw [<- HH.out, okS_15 HKK.out, Hc0.out]; rfl)
  go_wp2
  go_ret
  exact ⟨zb E.out, HB2.out⟩
 ·have Hc0 := zz c0
  clear c0
  go_wp2_with fail
  refine (rclauses_is (kd := 16) (b := clsOk 16 t.ks) (Or.inr rfl) HC.out ((HK.out.below HB2.out HN.out).lstR) (fun i hi => by have := HN.out i hi; have := HB2.out.size; omega) rfl).mono ?_
  rintro e w3 ⟨rfl, b⟩
  have hz3 := b.size
  have HB3 := bt2 HB2 b
  have HX3 := bx HX2 b
  clear b HB2 HX2 x0
  have x0 := HX3.out.cell
  have E := zz (show clsOk 16 t.ks = b by rw [<- HH.out, okS_15 HKK.out, Hc0.out]; rfl)
  go_wp2
  go_ret
  exact ⟨zb E.out, HB3.out⟩
theorem rstmt_17 (hE : ∀ s ∈ t.ks, ∀ k ∈ s.ks, AskE k) (hk : t.f.k = 17) (hF : AllF t) (hK : Kids w m S v t.ks) (hN : ∀ i, S i -> i < w.heap.size) (h : okS t = b) :
 Calls Tryz.prog 76 #[nv t.f v] w fun e w' => e = .returned (.bool b) /\ Below w.heap.size w w' := by
 have HH := zz h
 have HK := zz hK
 have HN := zz hN
 have HF := zz hF
 clear h hK hN hF
 obtain ⟨Av, cv, bv, ov, rfl, hlv, hAv, hrv⟩ := HK.out.form
 have HAv := zz hAv
 have HRv := zz hrv
 clear hAv hrv
 unfold nv
 have q4 := nk 4 hk rfl
 have q5 := nk 5 hk rfl
 have q11 := nk 11 hk rfl
 have q12 := nk 12 hk rfl
 have q13 := nk 13 hk rfl
 have q15 := nk 15 hk rfl
 have q17 := yk hk
 have q18 := nk 18 hk rfl
 have q19 := nk 19 hk rfl
 have q20 := nk 20 hk rfl
 have HKK := zz hk
 clear hk
 have HE := zz hE
 clear hE
 by_cases hl : t.ks.length = 1
 ·have ql : ((t.ks.length : Int) == 1) = true := by simp [hl]
  have HL := zz hl
  clear hl
  obtain ⟨hA1, hbv, _⟩ := HAv.out (by have := HL.out; omega)
  subst hA1
  have hl1 : 0 < t.ks.length := by have := HL.out; omega
  have HO := zz (all_one (P := fun k => k.f.k == 28 && kNamed k.f && rcall k) HL.out)
  have hq := HRv.out.get 0 hl1
  have hq2 : NodeAt w m S bv (ov) t.ks[0] := by simpa using hq
  clear hq
  obtain ⟨vp0, p00, p01, p02, p03, p04, p05, p06, p07, hkp0⟩ := hq2.open
  have HKp0 := zz hkp0
  clear hkp0 hq2
  obtain ⟨Ap, cp, bp, op, rfl, _, _, _⟩ := HKp0.out.form
  have al : ∀ o j z, w.cell? ⟨bv, j, none⟩ = some z -> (w.alloc o).cell? ⟨bv, j, none⟩ = some z := fun o j z h => (World.cell?_alloc_lt _ _ _ (HN.out bv hbv)).trans h
  have r0 := fun o => al o _ _ p00
  have r1 := fun o => al o _ _ p01
  have r2 := fun o => al o _ _ p02
  have r3 := fun o => al o _ _ p03
  have r4 := fun o => al o _ _ p04
  have r5 := fun o => al o _ _ p05
  have r6 := fun o => al o _ _ p06
  have r7 := fun o => al o _ _ p07
  clear al p00 p01 p02 p03 p04 p05 p06 p07
  by_cases kk : t.ks[0].f.k = 28
  ·have qp := yk kk
   have HP := zz qp
   clear kk
   go_enter Tryz.func76, Tryz.ntmps76
   go_wp2_with fail
   obtain ⟨w1, hw1, HB1, HX1, hs1⟩ := jb w t.f (.slice (some ⟨bv, ov, none⟩) t.ks.length cv)
   rw [hw1]
   clear hw1
   refine (proper_is (s := t.ks[0].f.t) (r := kNamed t.ks[0].f) (AllFs.get HF.out.ks _ (List.getElem_mem hl1)).nf.tl name_blank _).mono ?_
   rintro e w2 ⟨rfl, b⟩
   have hz2 := b.size
   have HB2 := bt2 HB1 b
   have HX2 := bx HX1 b
   clear b HB1 HX1 r0 r1 r2 r3 r4 r5 r6 r7
   have x0 := HX2.out.cell
   cases c0 : kNamed t.ks[0].f
   ·have Hc0 := zz c0
    clear c0
    have E := zz (show false = b by rw [<- HH.out, okS_17 HKK.out, decide_eq_true HL.out, HO.out, HP.out, Hc0.out]; rfl)
    go_wp2
    go_ret
    exact ⟨zb E.out, HB2.out⟩
   ·have Hc0 := zz c0
    clear c0
    have hq := (HRv.out.agree (Agree.of_below HB2.out HN.out) hbv).get 0 hl1
    have hq2 : NodeAt w2 m S bv (ov) t.ks[0] := by simpa using hq
    clear hq
    obtain ⟨vs0, s00, s01, s02, s03, s04, s05, s06, s07, hks0⟩ := hq2.open
    have HKs0 := zz hks0
    clear hks0 hq2
    obtain ⟨As, cs, bs, os, rfl, _, _, _⟩ := HKs0.out.form
    go_wp2_with fail
    refine (rcall_is (t := t.ks[0]) (b := rcall t.ks[0]) (HE.out t.ks[0] (List.getElem_mem hl1)) (AllFs.get HF.out.ks _ (List.getElem_mem hl1)) HKs0.out (fun i hi => by have := HN.out i hi; have := HB2.out.size; omega) rfl).mono ?_
    rintro e w3 ⟨rfl, b⟩
    have hz3 := b.size
    have HB3 := bt2 HB2 b
    have HX3 := bx HX2 b
    clear b HB2 HX2 x0 s00 s01 s02 s03 s04 s05 s06 s07
    have x0 := HX3.out.cell
    cases c1 : rcall t.ks[0]
    ·have Hc1 := zz c1
     clear c1
     have E := zz (show false = b by rw [<- HH.out, okS_17 HKK.out, decide_eq_true HL.out, HO.out, HP.out, Hc0.out, Hc1.out]; rfl)
     go_wp2
     go_ret
     exact ⟨zb E.out, HB3.out⟩
    ·have Hc1 := zz c1
     clear c1
     go_wp2_with fail
     refine (rbare_is (f := t.f) (x := false) (y := false) (z := false) rfl _).mono ?_
     rintro e w4 ⟨rfl, b⟩
     have hz4 := b.size
     have HB4 := bt2 HB3 b
     have HX4 := bx HX3 b
     clear b HB3 HX3 x0
     have x0 := HX4.out.cell
     have E := zz (show rbare t.f false false false = b by rw [rbare_fff (show mrk t.f.k = false by rw [HKK.out]; rfl), <- HH.out, okS_17 HKK.out, decide_eq_true HL.out, HO.out, HP.out, Hc0.out, Hc1.out]; rfl)
     go_wp2
     go_ret
     exact ⟨zb E.out, HB4.out⟩
  ·have qp := beq_false_of_ne kk
   have HP := zz qp
   clear kk
   go_enter Tryz.func76, Tryz.ntmps76
   have E := zz (show false = b by rw [<- HH.out, okS_17 HKK.out, decide_eq_true HL.out, HO.out, HP.out]; rfl)
   go_wp2
   go_ret
   exact ⟨zb E.out, (box1 _ _).out⟩
 ·have ql : ((t.ks.length : Int) == 1) = false := beq_false_of_ne (by omega)
  have HL := zz hl
  clear hl
  go_enter Tryz.func76, Tryz.ntmps76
  have E := zz (show false = b by rw [<- HH.out, okS_17 HKK.out, decide_eq_false HL.out]; rfl)
  go_wp2
  go_ret
  exact ⟨zb E.out, (box1 _ _).out⟩
theorem rstmt_simple (hE : ∀ k ∈ t.ks, AskE k) (hk : ∀ z ∈ ([4, 5, 11, 12, 13, 15, 17, 18, 19, 20] : List Int), ¬ t.f.k = z) (hF : AllF t) (hK : Kids w m S v t.ks) (hN : ∀ i, S i -> i < w.heap.size) (h : okS t = b) :
 Calls Tryz.prog 76 #[nv t.f v] w fun e w' => e = .returned (.bool b) /\ Below w.heap.size w w' := by
 have HH := zz h
 have HK := zz hK
 have HN := zz hN
 have HF := zz hF
 clear h hK hN hF
 obtain ⟨Av, cv, bv, ov, rfl, hlv, hAv, hrv⟩ := HK.out.form
 have HAv := zz hAv
 have HRv := zz hrv
 clear hAv hrv
 unfold nv
 have q4 : (t.f.k == 4) = false := beq_false_of_ne (hk 4 (by simp))
 have q5 : (t.f.k == 5) = false := beq_false_of_ne (hk 5 (by simp))
 have q11 : (t.f.k == 11) = false := beq_false_of_ne (hk 11 (by simp))
 have q12 : (t.f.k == 12) = false := beq_false_of_ne (hk 12 (by simp))
 have q13 : (t.f.k == 13) = false := beq_false_of_ne (hk 13 (by simp))
 have q15 : (t.f.k == 15) = false := beq_false_of_ne (hk 15 (by simp))
 have q17 : (t.f.k == 17) = false := beq_false_of_ne (hk 17 (by simp))
 have q18 : (t.f.k == 18) = false := beq_false_of_ne (hk 18 (by simp))
 have q19 : (t.f.k == 19) = false := beq_false_of_ne (hk 19 (by simp))
 have q20 : (t.f.k == 20) = false := beq_false_of_ne (hk 20 (by simp))
 have HKK := zz hk
 have HE := zz hE
 clear hk hE
 go_enter Tryz.func76, Tryz.ntmps76
 go_wp2_with fail
 obtain ⟨w1, hw1, HB1, HX1, hs1⟩ := jb w t.f (.slice Av t.ks.length cv)
 rw [hw1]
 clear hw1
 refine (rsimple_is (t := t) (b := okM t) HE.out HF.out (HK.out.below HB1.out HN.out) (fun i hi => by have := HN.out i hi; have := HB1.out.size; omega) rfl).mono ?_
 rintro e w2 ⟨rfl, b⟩
 have hz2 := b.size
 have HB2 := bt2 HB1 b
 have HX2 := bx HX1 b
 clear b HB1 HX1
 have x0 := HX2.out.cell
 have E := zz (show okM t = b by rw [<- HH.out, okS_simple HKK.out])
 go_wp2
 go_ret
 exact ⟨zb E.out, HB2.out⟩
end Go.Proofs.YtmdhjiammcpogaaGreatDoor
