import Derived.Test.YtmdhjiammcpogaaGreatDoorQ38
namespace Go.Proofs.YtmdhjiammcpogaaGreatDoor
set_option maxRecDepth 100000
set_option maxHeartbeats 16000000
open Go.RowKit
variable {S : Nat -> Prop} {b : Bool} {m : Md} {s : ByteArray} {t : Tr} {v : Value} {w : World}
theorem rbnd_b (w : World) : Calls Tryz.prog 121 #[.string s] w fun e w' => e = .returned (.int .i64 (bnd s.data.toList)) /\ Below w.heap.size w w' :=
 (rbnd_is rfl w).mono (by rintro e w' ⟨rfl, rfl⟩; exact ⟨rfl, Below.refl _ _⟩)
theorem rright_b (hz : Fit s) (w : World) : Calls Tryz.prog 40 #[.string s] w fun e w' => e = .returned (.bool (right s.data.toList)) /\ Below w.heap.size w w' :=
 (rright_is hz rfl rfl w).mono (by rintro e w' ⟨rfl, h⟩; exact ⟨rfl, h.below⟩)
theorem rbare_ttf (f : Nd) : rbare f true true false = (f.n == 0) := by simp [rbare]
theorem rbare_ftf (f : Nd) : rbare f false true false = (decide (f.t.data.toList = []) && f.n == 0) := by simp [rbare, dE]
theorem rcall_is (hE : ∀ k ∈ t.ks, AskE k) (hF : AllF t) (hK : Kids w m S v t.ks) (hN : ∀ i, S i -> i < w.heap.size) (h : rcall t = b) :
 Calls Tryz.prog 104 #[nv t.f v] w fun e w' => e = .returned (.bool b) /\ Below w.heap.size w w' := by
 have HH := zz h
 have HK := zz hK
 have HN := zz hN
 have HF := zz hF
 clear h hK hN hF
 obtain ⟨Av, cv, bv, ov, rfl, hlv, hAv, hrv⟩ := HK.out.form
 clear hAv hrv
 unfold nv
 have HE := zz hE
 clear hE
 by_cases hpr : t.f.t.data.toList = [112, 114, 105, 110, 116, 108, 110]
 ·have qpr : (t.f.t.toList == [112, 114, 105, 110, 116, 108, 110]) = true := by rw [ByteArray.toList_eq]; rw [hpr]; rfl
  have HPR := zz hpr
  clear hpr
  go_enter Tryz.func104, Tryz.ntmps104
  go_wp2_with fail
  obtain ⟨w1, hw1, HB1, HX1, hs1⟩ := jb w t.f (.slice Av t.ks.length cv)
  rw [hw1]
  clear hw1
  refine (one_call (s := t.f.t) (r := cWord t.f.t.data.toList) [⟨#[108, 101, 110]⟩, ⟨#[99, 97, 112]⟩, ⟨#[99, 108, 111, 115, 101]⟩, ⟨#[121, 105, 101, 108, 100]⟩, ⟨#[112, 114, 105, 110, 116, 108, 110]⟩] (by omega) rfl rfl (by simp) (one_cword _)).mono ?_
  rintro e w2 ⟨rfl, b⟩
  have hz2 := b.size
  have HB2 := bt2 HB1 b
  have HX2 := bx HX1 b
  clear b HB1 HX1
  have x0 := HX2.out.cell
  go_wp2_with fail
  refine (proper_is (s := t.f.t) (r := kNamed t.f) HF.out.nf.tl name_blank _).mono ?_
  rintro e w3 ⟨rfl, b⟩
  have hz3 := b.size
  have HB3 := bt2 HB2 b
  have HX3 := bx HX2 b
  clear b HB2 HX2 x0
  have x0 := HX3.out.cell
  go_wp2_with fail
  refine (exprs_is (x := true) (b := (t.ks.all okI)) HE.out ((HK.out.below HB3.out HN.out).lstR) (fun i hi => by have := HN.out i hi; have := HB3.out.size; omega) (allX_true _)).mono ?_
  rintro e w4 ⟨rfl, b⟩
  have hz4 := b.size
  have HB4 := bt2 HB3 b
  have HX4 := bx HX3 b
  clear b HB3 HX3 x0
  have x0 := HX4.out.cell
  cases c0 : cWord t.f.t.data.toList
  ·have Hc0 := zz c0
   clear c0
   cases c1 : kNamed t.f
   ·have Hc1 := zz c1
    clear c1
    have E := zz (show false = b by rw [<- HH.out]; unfold rcall; rw [if_pos HPR.out, Hc0.out, Hc1.out]; rfl)
    go_wp2
    go_ret
    exact ⟨zb E.out, HB4.out⟩
   ·have Hc1 := zz c1
    clear c1
    cases c2 : t.ks.all okI
    ·have Hc2 := zz c2
     clear c2
     have E := zz (show false = b by rw [<- HH.out]; unfold rcall; rw [if_pos HPR.out, Hc0.out, Hc1.out, Hc2.out]; rfl)
     go_wp2
     go_ret
     exact ⟨zb E.out, HB4.out⟩
    ·have Hc2 := zz c2
     clear c2
     go_wp2_with fail
     refine (rbare_is (f := t.f) (x := true) (y := true) (z := false) rfl _).mono ?_
     rintro e w5 ⟨rfl, b⟩
     have hz5 := b.size
     have HB5 := bt2 HB4 b
     have HX5 := bx HX4 b
     clear b HB4 HX4 x0
     have x0 := HX5.out.cell
     have E := zz (show rbare t.f true true false = b by rw [rbare_ttf, <- HH.out]; unfold rcall; rw [if_pos HPR.out, Hc0.out, Hc1.out, Hc2.out]; rfl)
     go_wp2
     go_ret
     exact ⟨zb E.out, HB5.out⟩
  ·have Hc0 := zz c0
   clear c0
   cases c1 : t.ks.all okI
   ·have Hc1 := zz c1
    clear c1
    have E := zz (show false = b by rw [<- HH.out]; unfold rcall; rw [if_pos HPR.out, Hc0.out, Hc1.out]; rfl)
    go_wp2
    go_ret
    exact ⟨zb E.out, HB4.out⟩
   ·have Hc1 := zz c1
    clear c1
    go_wp2_with fail
    refine (rbare_is (f := t.f) (x := true) (y := true) (z := false) rfl _).mono ?_
    rintro e w5 ⟨rfl, b⟩
    have hz5 := b.size
    have HB5 := bt2 HB4 b
    have HX5 := bx HX4 b
    clear b HB4 HX4 x0
    have x0 := HX5.out.cell
    have E := zz (show rbare t.f true true false = b by rw [rbare_ttf, <- HH.out]; unfold rcall; rw [if_pos HPR.out, Hc0.out, Hc1.out]; rfl)
    go_wp2
    go_ret
    exact ⟨zb E.out, HB5.out⟩
 ·have qpr : (t.f.t.toList == [112, 114, 105, 110, 116, 108, 110]) = false := by rw [ByteArray.toList_eq]; exact beq_false_of_ne hpr
  have HPR := zz hpr
  clear hpr
  go_enter Tryz.func104, Tryz.ntmps104
  go_wp2_with fail
  obtain ⟨w1, hw1, HB1, HX1, hs1⟩ := jb w t.f (.slice Av t.ks.length cv)
  rw [hw1]
  clear hw1
  refine (one_call (s := t.f.t) (r := cWord t.f.t.data.toList) [⟨#[108, 101, 110]⟩, ⟨#[99, 97, 112]⟩, ⟨#[99, 108, 111, 115, 101]⟩, ⟨#[121, 105, 101, 108, 100]⟩, ⟨#[112, 114, 105, 110, 116, 108, 110]⟩] (by omega) rfl rfl (by simp) (one_cword _)).mono ?_
  rintro e w2 ⟨rfl, b⟩
  have hz2 := b.size
  have HB2 := bt2 HB1 b
  have HX2 := bx HX1 b
  clear b HB1 HX1
  have x0 := HX2.out.cell
  go_wp2_with fail
  refine (proper_is (s := t.f.t) (r := kNamed t.f) HF.out.nf.tl name_blank _).mono ?_
  rintro e w3 ⟨rfl, b⟩
  have hz3 := b.size
  have HB3 := bt2 HB2 b
  have HX3 := bx HX2 b
  clear b HB2 HX2 x0
  have x0 := HX3.out.cell
  go_wp2_with fail
  refine (exprs_is (x := false) (b := (t.ks.all okE)) HE.out ((HK.out.below HB3.out HN.out).lstR) (fun i hi => by have := HN.out i hi; have := HB3.out.size; omega) (allX_false _)).mono ?_
  rintro e w4 ⟨rfl, b⟩
  have hz4 := b.size
  have HB4 := bt2 HB3 b
  have HX4 := bx HX3 b
  clear b HB3 HX3 x0
  have x0 := HX4.out.cell
  cases c0 : cWord t.f.t.data.toList
  ·have Hc0 := zz c0
   clear c0
   cases c1 : kNamed t.f
   ·have Hc1 := zz c1
    clear c1
    have E := zz (show false = b by rw [<- HH.out]; unfold rcall; rw [if_neg HPR.out, Hc0.out, Hc1.out]; rfl)
    go_wp2
    go_ret
    exact ⟨zb E.out, HB4.out⟩
   ·have Hc1 := zz c1
    clear c1
    cases c2 : t.ks.all okE
    ·have Hc2 := zz c2
     clear c2
     have E := zz (show false = b by rw [<- HH.out]; unfold rcall; rw [if_neg HPR.out, Hc0.out, Hc1.out, Hc2.out]; rfl)
     go_wp2
     go_ret
     exact ⟨zb E.out, HB4.out⟩
    ·have Hc2 := zz c2
     clear c2
     go_wp2_with fail
     refine (rbare_is (f := t.f) (x := true) (y := true) (z := false) rfl _).mono ?_
     rintro e w5 ⟨rfl, b⟩
     have hz5 := b.size
     have HB5 := bt2 HB4 b
     have HX5 := bx HX4 b
     clear b HB4 HX4 x0
     have x0 := HX5.out.cell
     have E := zz (show rbare t.f true true false = b by rw [rbare_ttf, <- HH.out]; unfold rcall; rw [if_neg HPR.out, Hc0.out, Hc1.out, Hc2.out]; rfl)
     go_wp2
     go_ret
     exact ⟨zb E.out, HB5.out⟩
  ·have Hc0 := zz c0
   clear c0
   cases c1 : t.ks.all okE
   ·have Hc1 := zz c1
    clear c1
    have E := zz (show false = b by rw [<- HH.out]; unfold rcall; rw [if_neg HPR.out, Hc0.out, Hc1.out]; rfl)
    go_wp2
    go_ret
    exact ⟨zb E.out, HB4.out⟩
   ·have Hc1 := zz c1
    clear c1
    go_wp2_with fail
    refine (rbare_is (f := t.f) (x := true) (y := true) (z := false) rfl _).mono ?_
    rintro e w5 ⟨rfl, b⟩
    have hz5 := b.size
    have HB5 := bt2 HB4 b
    have HX5 := bx HX4 b
    clear b HB4 HX4 x0
    have x0 := HX5.out.cell
    have E := zz (show rbare t.f true true false = b by rw [rbare_ttf, <- HH.out]; unfold rcall; rw [if_neg HPR.out, Hc0.out, Hc1.out]; rfl)
    go_wp2
    go_ret
    exact ⟨zb E.out, HB5.out⟩
theorem rexpr_step (hE : ∀ k ∈ t.ks, AskE k) (hF : AllF t) (hK : Kids w m S v t.ks) (hN : ∀ i, S i -> i < w.heap.size) (h : okE t = b) :
 Calls Tryz.prog 124 #[nv t.f v] w fun e w' => e = .returned (.bool b) /\ Below w.heap.size w w' := by
 have HH := zz h
 have HK := zz hK
 have HN := zz hN
 have HF := zz hF
 clear h hK hN hF
 obtain ⟨Av, cv, bv, ov, rfl, hlv, hAv, hrv⟩ := HK.out.form
 clear hAv hrv
 unfold nv
 have HE := zz hE
 clear hE
 by_cases k26 : t.f.k = 26
 ·have q26 := yk k26
  have HQ26 := zz k26
  clear k26
  go_enter Tryz.func124, Tryz.ntmps124
  go_wp2_with fail
  obtain ⟨w1, hw1, HB1, HX1, hs1⟩ := jb w t.f (.slice Av t.ks.length cv)
  rw [hw1]
  clear hw1
  refine (one_call (s := t.f.t) (r := uSign t.f.t.data.toList) [⟨#[43]⟩, ⟨#[45]⟩, ⟨#[33]⟩, ⟨#[60, 45]⟩] (by omega) rfl rfl (by simp) (one_usign _)).mono ?_
  rintro e w2 ⟨rfl, b⟩
  have hz2 := b.size
  have HB2 := bt2 HB1 b
  have HX2 := bx HX1 b
  clear b HB1 HX1
  have x0 := HX2.out.cell
  go_wp2_with fail
  refine (exprs_is (x := false) (b := (t.ks.all okE)) HE.out ((HK.out.below HB2.out HN.out).lstR) (fun i hi => by have := HN.out i hi; have := HB2.out.size; omega) (allX_false _)).mono ?_
  rintro e w3 ⟨rfl, b⟩
  have hz3 := b.size
  have HB3 := bt2 HB2 b
  have HX3 := bx HX2 b
  clear b HB2 HX2 x0
  have x0 := HX3.out.cell
  cases c0 : uSign t.f.t.data.toList
  ·have Hc0 := zz c0
   clear c0
   have E := zz (show false = b by rw [<- HH.out, okE_26 HQ26.out, Hc0.out]; rfl)
   go_wp2
   go_ret
   exact ⟨zb E.out, HB3.out⟩
  ·have Hc0 := zz c0
   clear c0
   cases c1 : t.ks.all okE
   ·have Hc1 := zz c1
    clear c1
    have E := zz (show false = b by rw [<- HH.out, okE_26 HQ26.out, Hc0.out, Hc1.out]; rfl)
    go_wp2
    go_ret
    exact ⟨zb E.out, HB3.out⟩
   ·have Hc1 := zz c1
    clear c1
    by_cases hl : t.ks.length = 1
    ·have ql : ((t.ks.length : Int) == 1) = true := by simp [hl]
     have HL := zz hl
     clear hl
     go_wp2_with fail
     refine (rbare_is (f := t.f) (x := true) (y := true) (z := false) rfl _).mono ?_
     rintro e w4 ⟨rfl, b⟩
     have hz4 := b.size
     have HB4 := bt2 HB3 b
     have HX4 := bx HX3 b
     clear b HB3 HX3 x0
     have x0 := HX4.out.cell
     have E := zz (show rbare t.f true true false = b by rw [rbare_ttf, <- HH.out, okE_26 HQ26.out, Hc0.out, Hc1.out, decide_eq_true HL.out]; rfl)
     go_wp2
     go_ret
     exact ⟨zb E.out, HB4.out⟩
    ·have ql : ((t.ks.length : Int) == 1) = false := beq_false_of_ne (by omega)
     have HL := zz hl
     clear hl
     have E := zz (show false = b by rw [<- HH.out, okE_26 HQ26.out, Hc0.out, Hc1.out, decide_eq_false HL.out]; rfl)
     go_wp2
     go_ret
     exact ⟨zb E.out, HB3.out⟩
 have q26 := beq_false_of_ne k26
 have HQ26 := zz k26
 clear k26
 by_cases k27 : t.f.k = 27
 ·have q27 := yk k27
  have HQ27 := zz k27
  clear k27
  go_enter Tryz.func124, Tryz.ntmps124
  go_wp2_with fail
  obtain ⟨w1, hw1, HB1, HX1, hs1⟩ := jb w t.f (.slice Av t.ks.length cv)
  rw [hw1]
  clear hw1
  refine (exprs_is (x := false) (b := (t.ks.all okE)) HE.out ((HK.out.below HB1.out HN.out).lstR) (fun i hi => by have := HN.out i hi; have := HB1.out.size; omega) (allX_false _)).mono ?_
  rintro e w2 ⟨rfl, b⟩
  have hz2 := b.size
  have HB2 := bt2 HB1 b
  have HX2 := bx HX1 b
  clear b HB1 HX1
  have x0 := HX2.out.cell
  go_wp2_with fail
  refine (rbnd_b (s := t.f.t) _).mono ?_
  rintro e w3 ⟨rfl, b⟩
  have hz3 := b.size
  have HB3 := bt2 HB2 b
  have HX3 := bx HX2 b
  clear b HB2 HX2 x0
  have x0 := HX3.out.cell
  by_cases hb : 0 < bnd t.f.t.data.toList
  ·have qb : decide (0 < bnd t.f.t.data.toList) = true := decide_eq_true hb
   have HBN := zz hb
   clear hb
   cases c0 : t.ks.all okE
   ·have Hc0 := zz c0
    clear c0
    have E := zz (show false = b by rw [<- HH.out, okE_27 HQ27.out, decide_eq_true HBN.out, Hc0.out]; rfl)
    go_wp2
    go_ret
    exact ⟨zb E.out, HB3.out⟩
   ·have Hc0 := zz c0
    clear c0
    by_cases hl : t.ks.length = 2
    ·have ql : ((t.ks.length : Int) == 2) = true := by simp [hl]
     have HL := zz hl
     clear hl
     go_wp2_with fail
     refine (rbare_is (f := t.f) (x := true) (y := true) (z := false) rfl _).mono ?_
     rintro e w4 ⟨rfl, b⟩
     have hz4 := b.size
     have HB4 := bt2 HB3 b
     have HX4 := bx HX3 b
     clear b HB3 HX3 x0
     have x0 := HX4.out.cell
     have E := zz (show rbare t.f true true false = b by rw [rbare_ttf, <- HH.out, okE_27 HQ27.out, decide_eq_true HBN.out, Hc0.out, decide_eq_true HL.out]; rfl)
     go_wp2
     go_ret
     exact ⟨zb E.out, HB4.out⟩
    ·have ql : ((t.ks.length : Int) == 2) = false := beq_false_of_ne (by omega)
     have HL := zz hl
     clear hl
     have E := zz (show false = b by rw [<- HH.out, okE_27 HQ27.out, decide_eq_true HBN.out, Hc0.out, decide_eq_false HL.out]; rfl)
     go_wp2
     go_ret
     exact ⟨zb E.out, HB3.out⟩
  ·have qb : decide (0 < bnd t.f.t.data.toList) = false := decide_eq_false hb
   have HBN := zz hb
   clear hb
   have E := zz (show false = b by rw [<- HH.out, okE_27 HQ27.out, decide_eq_false HBN.out]; rfl)
   go_wp2
   go_ret
   exact ⟨zb E.out, HB3.out⟩
 have q27 := beq_false_of_ne k27
 have HQ27 := zz k27
 clear k27
 by_cases k28 : t.f.k = 28
 ·have q28 := yk k28
  have HQ28 := zz k28
  clear k28
  go_enter Tryz.func124, Tryz.ntmps124
  go_wp2_with fail
  obtain ⟨w1, hw1, HB1, HX1, hs1⟩ := jb w t.f (.slice Av t.ks.length cv)
  rw [hw1]
  clear hw1
  refine (rcall_is (t := t) (b := rcall t) HE.out HF.out (HK.out.below HB1.out HN.out) (fun i hi => by have := HN.out i hi; have := HB1.out.size; omega) rfl).mono ?_
  rintro e w2 ⟨rfl, b⟩
  have hz2 := b.size
  have HB2 := bt2 HB1 b
  have HX2 := bx HX1 b
  clear b HB1 HX1
  have x0 := HX2.out.cell
  have E := zz (show rcall t = b by rw [<- HH.out, okE_28 HQ28.out])
  go_wp2
  go_ret
  exact ⟨zb E.out, HB2.out⟩
 have q28 := beq_false_of_ne k28
 have HQ28 := zz k28
 clear k28
 by_cases k29 : t.f.k = 29
 ·have q29 := yk k29
  have HQ29 := zz k29
  clear k29
  go_enter Tryz.func124, Tryz.ntmps124
  go_wp2_with fail
  obtain ⟨w1, hw1, HB1, HX1, hs1⟩ := jb w t.f (.slice Av t.ks.length cv)
  rw [hw1]
  clear hw1
  refine (exprs_is (x := false) (b := (t.ks.all okE)) HE.out ((HK.out.below HB1.out HN.out).lstR) (fun i hi => by have := HN.out i hi; have := HB1.out.size; omega) (allX_false _)).mono ?_
  rintro e w2 ⟨rfl, b⟩
  have hz2 := b.size
  have HB2 := bt2 HB1 b
  have HX2 := bx HX1 b
  clear b HB1 HX1
  have x0 := HX2.out.cell
  go_wp2_with fail
  refine (rright_b (s := t.f.y) HF.out.nf.yl _).mono ?_
  rintro e w3 ⟨rfl, b⟩
  have hz3 := b.size
  have HB3 := bt2 HB2 b
  have HX3 := bx HX2 b
  clear b HB2 HX2 x0
  have x0 := HX3.out.cell
  cases c0 : t.ks.all okE
  ·have Hc0 := zz c0
   clear c0
   have E := zz (show false = b by rw [<- HH.out, okE_29 HQ29.out, Hc0.out]; rfl)
   go_wp2
   go_ret
   exact ⟨zb E.out, HB3.out⟩
  ·have Hc0 := zz c0
   clear c0
   cases c1 : right t.f.y.data.toList
   ·have Hc1 := zz c1
    clear c1
    have E := zz (show false = b by rw [<- HH.out, okE_29 HQ29.out, Hc0.out, Hc1.out]; rfl)
    go_wp2
    go_ret
    exact ⟨zb E.out, HB3.out⟩
   ·have Hc1 := zz c1
    clear c1
    by_cases hl : t.ks.length <= 1
    ·have ql : decide ((t.ks.length : Int) <= 1) = true := decide_eq_true (by omega)
     have HL := zz hl
     clear hl
     go_wp2_with fail
     refine (rbare_is (f := t.f) (x := false) (y := true) (z := false) rfl _).mono ?_
     rintro e w4 ⟨rfl, b⟩
     have hz4 := b.size
     have HB4 := bt2 HB3 b
     have HX4 := bx HX3 b
     clear b HB3 HX3 x0
     have x0 := HX4.out.cell
     have E := zz (show rbare t.f false true false = b by rw [rbare_ftf, <- HH.out, okE_29 HQ29.out, Hc0.out, Hc1.out, decide_eq_true HL.out]; rfl)
     go_wp2
     go_ret
     exact ⟨zb E.out, HB4.out⟩
    ·have ql : decide ((t.ks.length : Int) <= 1) = false := decide_eq_false (by omega)
     have HL := zz hl
     clear hl
     have E := zz (show false = b by rw [<- HH.out, okE_29 HQ29.out, Hc0.out, Hc1.out, decide_eq_false HL.out]; rfl)
     go_wp2
     go_ret
     exact ⟨zb E.out, HB3.out⟩
 have q29 := beq_false_of_ne k29
 have HQ29 := zz k29
 clear k29
 by_cases k30 : t.f.k = 30
 ·have q30 := yk k30
  have HQ30 := zz k30
  clear k30
  go_enter Tryz.func124, Tryz.ntmps124
  go_wp2_with fail
  obtain ⟨w1, hw1, HB1, HX1, hs1⟩ := jb w t.f (.slice Av t.ks.length cv)
  rw [hw1]
  clear hw1
  refine (one_call (s := t.f.t) (r := mName t.f.t.data.toList) [⟨#[76, 111, 99, 107]⟩, ⟨#[85, 110, 108, 111, 99, 107]⟩, ⟨#[65, 100, 100]⟩, ⟨#[68, 111, 110, 101]⟩, ⟨#[87, 97, 105, 116]⟩] (by omega) rfl rfl (by simp) (one_mname _)).mono ?_
  rintro e w2 ⟨rfl, b⟩
  have hz2 := b.size
  have HB2 := bt2 HB1 b
  have HX2 := bx HX1 b
  clear b HB1 HX1
  have x0 := HX2.out.cell
  go_wp2_with fail
  refine (exprs_is (x := false) (b := (t.ks.all okE)) HE.out ((HK.out.below HB2.out HN.out).lstR) (fun i hi => by have := HN.out i hi; have := HB2.out.size; omega) (allX_false _)).mono ?_
  rintro e w3 ⟨rfl, b⟩
  have hz3 := b.size
  have HB3 := bt2 HB2 b
  have HX3 := bx HX2 b
  clear b HB2 HX2 x0
  have x0 := HX3.out.cell
  cases c0 : mName t.f.t.data.toList
  ·have Hc0 := zz c0
   clear c0
   have E := zz (show false = b by rw [<- HH.out, okE_30 HQ30.out, Hc0.out]; rfl)
   go_wp2
   go_ret
   exact ⟨zb E.out, HB3.out⟩
  ·have Hc0 := zz c0
   clear c0
   cases c1 : t.ks.all okE
   ·have Hc1 := zz c1
    clear c1
    have E := zz (show false = b by rw [<- HH.out, okE_30 HQ30.out, Hc0.out, Hc1.out]; rfl)
    go_wp2
    go_ret
    exact ⟨zb E.out, HB3.out⟩
   ·have Hc1 := zz c1
    clear c1
    by_cases hl : 1 <= t.ks.length
    ·have ql : decide (1 <= (t.ks.length : Int)) = true := decide_eq_true (by omega)
     have HL := zz hl
     clear hl
     go_wp2_with fail
     refine (rbare_is (f := t.f) (x := true) (y := true) (z := false) rfl _).mono ?_
     rintro e w4 ⟨rfl, b⟩
     have hz4 := b.size
     have HB4 := bt2 HB3 b
     have HX4 := bx HX3 b
     clear b HB3 HX3 x0
     have x0 := HX4.out.cell
     have E := zz (show rbare t.f true true false = b by rw [rbare_ttf, <- HH.out, okE_30 HQ30.out, Hc0.out, Hc1.out, decide_eq_true HL.out]; rfl)
     go_wp2
     go_ret
     exact ⟨zb E.out, HB4.out⟩
    ·have ql : decide (1 <= (t.ks.length : Int)) = false := decide_eq_false (by omega)
     have HL := zz hl
     clear hl
     have E := zz (show false = b by rw [<- HH.out, okE_30 HQ30.out, Hc0.out, Hc1.out, decide_eq_false HL.out]; rfl)
     go_wp2
     go_ret
     exact ⟨zb E.out, HB3.out⟩
 have q30 := beq_false_of_ne k30
 have HQ30 := zz k30
 clear k30
 go_enter Tryz.func124, Tryz.ntmps124
 go_wp2_with fail
 obtain ⟨w1, hw1, HB1, HX1, hs1⟩ := jb w t.f (.slice Av t.ks.length cv)
 rw [hw1]
 clear hw1
 refine (rleaf_is (t := t) (b := lf t) HF.out (HK.out.below HB1.out HN.out) (fun i hi => by have := HN.out i hi; have := HB1.out.size; omega) rfl).mono ?_
 rintro e w2 ⟨rfl, b⟩
 have hz2 := b.size
 have HB2 := bt2 HB1 b
 have HX2 := bx HX1 b
 clear b HB1 HX1
 have x0 := HX2.out.cell
 have E := zz (show lf t = b by rw [<- HH.out, okE_leaf HQ26.out HQ27.out HQ28.out HQ29.out HQ30.out])
 go_wp2
 go_ret
 exact ⟨zb E.out, HB2.out⟩
theorem expr_all (n : Nat) : ∀ t : Tr, cnt t <= n -> AllF t -> AskE t := by
 induction n with
 | zero => intro t h; have := cnt_pos t; omega
 | succ n ih =>
  intro t hc hF w v m S hK hN
  refine rexpr_step (b := okE t) (fun k hk => ih k ?_ (AllFs.get hF.ks k hk)) hF hK hN rfl
  have h1 := cnts_mem hk
  have h2 : cnt t = 1 + cnts t.ks := by cases t; rfl
  omega
end Go.Proofs.YtmdhjiammcpogaaGreatDoor
