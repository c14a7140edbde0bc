import Derived.Test.YtmdhjiammcpogaaGreatDoorQ27
namespace Go.Proofs.YtmdhjiammcpogaaGreatDoor
set_option maxRecDepth 100000
set_option maxHeartbeats 16000000
open Go.RowKit
variable {S : Nat -> Prop} {b : Bool} {m : Md} {t : Tr} {ts : List Tr} {v : Value} {w w' : World}
def AskE (t : Tr) : Prop := ∀ (w : World) (v : Value) (m : Md) (S : Nat -> Prop), Kids w m S v t.ks -> (∀ i, S i -> i < w.heap.size) ->
 Calls Tryz.prog 124 #[nv t.f v] w fun e w' => e = .returned (.bool (okE t)) /\ Below w.heap.size w w'
def LstR (w : World) (m : Md) (S : Nat -> Prop) (v : Value) (ts : List Tr) : Prop := ∃ A c b o, v = .slice A ts.length c /\ ts.length <= 9223372036854775807 /\ (0 < ts.length -> A = some ⟨b, o, none⟩ /\ S b) /\ RowAt w m S b o ts
theorem Kids.lstR (h : Kids w m S v ts) : LstR w m S v ts := by
 obtain ⟨A, c, b, o, h1, h2, h3, h4⟩ := h.form
 exact ⟨A, c, b, o, h1, h2, fun h => ⟨(h3 h).1, (h3 h).2.1⟩, h4⟩
theorem LstR.agree {w w' : World} {m : Md} {S : Nat -> Prop} {v : Value} {ts : List Tr} (ha : Agree S w w') (h : LstR w m S v ts) : LstR w' m S v ts := by
 obtain ⟨A, c, b, o, h1, h2, h4, h5⟩ := h
 refine ⟨A, c, b, o, h1, h2, h4, ?_⟩
 by_cases h0 : 0 < ts.length
 ·exact h5.agree ha (h4 h0).2
 ·obtain rfl : ts = [] := List.eq_nil_of_length_eq_zero (by omega)
  exact trivial
theorem LstR.below {M : Nat} (h : LstR w m S v ts) (hb : Below M w w') (hn : ∀ i, S i -> i < M) : LstR w' m S v ts := h.agree (Agree.of_below hb hn)
def okX (x : Bool) (t : Tr) : Bool := if x = true then okI t else okE t
theorem all_no {P : Tr -> Bool} {k : Nat} (hk : k < ts.length) (h : P ts[k] = false) : ts.all P = false := by
 cases e : ts.all P
 ·rfl
 ·have := List.all_eq_true.1 e _ (List.getElem_mem hk)
  rw [h] at this
  cases this
theorem exprs_is {va : Value} {x : Bool} (hE : ∀ t ∈ ts, AskE t) (hK : LstR w m S va ts) (hS : ∀ i, S i -> i < w.heap.size) (h : ts.all (okX x) = b) :
 Calls Tryz.prog 100 #[va, .bool x] w fun e w' => e = .returned (.bool b) /\ Below w.heap.size w w' := by
 obtain ⟨A, ca, ba, oa, rfl, hla, hA, hra⟩ := hK
 have HA := zz hA
 have HR := zz hra
 have HG := zz hE
 have HS := zz hS
 have HH := zz h
 clear hA hra hE hS h
 go_enter Tryz.func100, Tryz.ntmps100
 go_wp2
 go_loopw [5] (fun i wr => ∃ k : Nat, k <= ts.length /\ i = .int .i64 k /\ Below w.heap.size w wr /\ (ts.take k).all (okX x) = true) (fun i _ => ts.length - (intOf i).toNat)
 case atStart => exact ⟨0, Nat.zero_le _, rfl, Below.refl _ _, by rw [List.take_zero]; rfl⟩
 case round =>
  obtain ⟨k, hk, rfl, hbw, hall⟩ := hrel
  have hsz := hbw.size
  have HBW := zz hbw
  have HALL := zz hall
  clear hbw hall
  by_cases hkl : k < ts.length
  rotate_left
  ·have E := zz (show true = b by rw [<- HH.out, <- HALL.out, List.take_of_length_le (by omega)])
   go_wp2
   go_ret
   exact ⟨zb E.out, HBW.out⟩
  obtain ⟨hA1, hb⟩ := HA.out (by omega)
  subst hA1
  obtain ⟨v', c0, c1, c2, c3, c4, c5, c6, c7, hk'⟩ := ((HR.out.agree (Agree.of_below HBW.out HS.out) hb).get k hkl).open
  obtain ⟨A', c', b', o', rfl, hl', _, _⟩ := hk'.form
  have HK' := zz hk'
  have HAS := zz (all_succ (P := okX x) hkl)
  have i0 : (0 : Int) <= (k : Int) := by omega
  have i1 : (k : Int) < (ts.length : Int) := by omega
  clear hk'
  have HNO := zz (fun h : okX x ts[k] = false => show false = b by rw [<- HH.out]; exact (all_no hkl h).symm)
  have HYES := zz (fun h : okX x ts[k] = true => show (ts.take (k + 1)).all (okX x) = true by rw [HAS.out, HALL.out, h]; rfl)
  by_cases hx : x = true /\ ts[k].f.k = 25
  ·obtain ⟨rfl, hk25⟩ := hx
   have q25 := yk hk25
   have HT := zz (show okX true ts[k] = _ from okI_text hk25)
   clear hk25
   cases hy : dE ts[k].f.y
   ·have qy := qE hy
    have E := zz (HNO.out (by rw [HT.out]; unfold dE at hy; rw [hy]; rfl))
    clear hy
    go_wp2
    go_ret
    exact ⟨zb E.out, HBW.out⟩
   have qy := qE hy
   have HY := zz hy
   clear hy
   by_cases hn : ts[k].f.n = 0
   rotate_left
   ·have qn : (ts[k].f.n != 0) = true := by simp [hn]
    have E := zz (HNO.out (by rw [HT.out, beq_false_of_ne hn]; simp))
    clear hn
    go_wp2
    go_ret
    exact ⟨zb E.out, HBW.out⟩
   have qn : (ts[k].f.n != 0) = false := by simp [hn]
   have HN0 := zz hn
   clear hn
   by_cases hl0 : ts[k].ks.length = 0
   rotate_left
   ·have ql : 0 < ts[k].ks.length := by omega
    have E := zz (HNO.out (by rw [HT.out, decide_eq_false hl0]; simp))
    clear hl0
    go_wp2
    go_ret
    exact ⟨zb E.out, HBW.out⟩
   have H1 := zz (HYES.out (by rw [HT.out, HN0.out, decide_eq_true hl0]; have := HY.out; unfold dE at this; rw [this]; rfl))
   go_wp2
   go_roundw
   case rel => exact ⟨k + 1, by omega, by go_num, HBW.out, H1.out⟩
   case measure => simp [intOf]; omega
  ·have hok : okX x ts[k] = okE ts[k] := by
    unfold okX
    cases x
    ·rfl
    ·exact okI_expr fun h => hx ⟨rfl, h⟩
   have HOK := zz hok
   clear hok
   cases x
   ·clear hx
    go_wp2_with fail
    refine (HG.out ts[k] (List.getElem_mem hkl) wr _ m S HK'.out (fun i hi => by have := HS.out i hi; omega)).mono ?_
    rintro e w2 ⟨rfl, b2⟩
    have HB2 := zz (HBW.out.trans (b2.mono hsz))
    clear b2 c0 c1 c2 c3 c4 c5 c6 c7
    cases hp : okE ts[k]
    ·have E := zz (HNO.out (by rw [HOK.out]; exact hp))
     clear hp
     go_wp2
     go_ret
     exact ⟨zb E.out, HB2.out⟩
    ·have H1 := zz (HYES.out (by rw [HOK.out]; exact hp))
     clear hp
     go_wp2
     go_roundw
     case rel => exact ⟨k + 1, by omega, by go_num, HB2.out, H1.out⟩
     case measure => simp [intOf]; omega
   ·have q25 : (ts[k].f.k == 25) = false := beq_false_of_ne fun h => hx ⟨rfl, h⟩
    clear hx
    go_wp2_with fail
    refine (HG.out ts[k] (List.getElem_mem hkl) wr _ m S HK'.out (fun i hi => by have := HS.out i hi; omega)).mono ?_
    rintro e w2 ⟨rfl, b2⟩
    have HB2 := zz (HBW.out.trans (b2.mono hsz))
    clear b2 c0 c1 c2 c3 c4 c5 c6 c7
    cases hp : okE ts[k]
    ·have E := zz (HNO.out (by rw [HOK.out]; exact hp))
     clear hp
     go_wp2
     go_ret
     exact ⟨zb E.out, HB2.out⟩
    ·have H1 := zz (HYES.out (by rw [HOK.out]; exact hp))
     clear hp
     go_wp2
     go_roundw
     case rel => exact ⟨k + 1, by omega, by go_num, HB2.out, H1.out⟩
     case measure => simp [intOf]; omega
theorem allX_true (l : List Tr) : l.all (okX true) = l.all okI := by congr
theorem allX_false (l : List Tr) : l.all (okX false) = l.all okE := by congr
theorem rleaf_is (hF : AllF t) (hK : Kids w m S v t.ks) (hN : ∀ i, S i -> i < w.heap.size) (h : lf t = b) :
 Calls Tryz.prog 126 #[nv t.f v] w fun e w' => e = .returned (.bool b) /\ Below w.heap.size w w' := by
 have HH := zz h
 have HK := zz hK
 have HN := zz hN
 have HF := zz hF
 clear h hK hN hF
 obtain ⟨Av, cv, bv, ov, rfl, hlv, hAv, hrv⟩ := HK.out.form
 clear hAv hrv
 unfold nv
 by_cases h0 : t.ks.length = 0
 rotate_left
 ·have q0 : 0 < t.ks.length := by omega
  have H0 := zz h0
  clear h0
  go_enter Tryz.func126, Tryz.ntmps126
  have E := zz (show false = b by rw [<- HH.out]; unfold lf; rw [decide_eq_false H0.out]; rfl)
  go_wp2
  go_ret
  exact ⟨zb E.out, (box1 _ _).out⟩
 have H0 := zz h0
 by_cases k21 : t.f.k = 21
 ·have q21 := yk k21
  have HQ21 := zz k21
  clear k21
  go_enter Tryz.func126, Tryz.ntmps126
  go_wp2_with fail
  obtain ⟨w1, hw1, HB1, HX1, hs1⟩ := jb w t.f (.slice Av 0 cv)
  rw [hw1]
  clear hw1
  refine (proper_is (s := t.f.t) (r := kNamed t.f) HF.out.nf.tl name_blank _).mono ?_
  rintro e w2 ⟨rfl, b⟩
  have hz2 := b.size
  have HB2 := zz (HB1.out.trans (b.mono (by omega)))
  have HX2 := bx HX1 b
  clear b HB1 HX1
  have x0 := HX2.out.cell
  cases c0 : kNamed t.f
  ·have Hc0 := zz c0
   clear c0
   have E := zz (show false = b by rw [<- HH.out]; unfold lf; simp [H0.out, HQ21.out, Hc0.out])
   go_wp2
   go_ret
   exact ⟨zb E.out, HB2.out⟩
  ·have Hc0 := zz c0
   clear c0
   go_wp2_with fail
   refine (rbare_is (f := t.f) (x := true) (y := true) (z := false) rfl _).mono ?_
   rintro e w3 ⟨rfl, b⟩
   have hz3 := b.size
   have HB3 := zz (HB2.out.trans (b.mono (by omega)))
   have HX3 := bx HX2 b
   clear b HB2 HX2 x0
   have x0 := HX3.out.cell
   have E := zz (show rbare t.f true true false = b by rw [<- HH.out]; unfold lf; simp [H0.out, HQ21.out, Hc0.out, rbare])
   go_wp2
   go_ret
   exact ⟨zb E.out, HB3.out⟩
 have q21 := beq_false_of_ne k21
 have HQ21 := zz k21
 clear k21
 by_cases k22 : t.f.k = 22
 ·have q22 := yk k22
  have HQ22 := zz k22
  clear k22
  by_cases hp : 0 <= t.f.n
  ·have qp : decide (0 <= t.f.n) = true := decide_eq_true hp
   have HP := zz hp
   clear hp
   go_enter Tryz.func126, Tryz.ntmps126
   go_wp2_with fail
   obtain ⟨w1, hw1, HB1, HX1, hs1⟩ := jb w t.f (.slice Av 0 cv)
   rw [hw1]
   clear hw1
   refine (rbare_is (f := t.f) (x := false) (y := true) (z := true) rfl _).mono ?_
   rintro e w2 ⟨rfl, b⟩
   have hz2 := b.size
   have HB2 := zz (HB1.out.trans (b.mono (by omega)))
   have HX2 := bx HX1 b
   clear b HB1 HX1
   have x0 := HX2.out.cell
   have E := zz (show rbare t.f false true true = b by rw [<- HH.out]; unfold lf; simp [H0.out, HQ22.out, HP.out, rbare, dE])
   go_wp2
   go_ret
   exact ⟨zb E.out, HB2.out⟩
  ·have qp : decide (0 <= t.f.n) = false := decide_eq_false hp
   have HP := zz hp
   clear hp
   go_enter Tryz.func126, Tryz.ntmps126
   have E := zz (show false = b by rw [<- HH.out]; unfold lf; simp [H0.out, HQ22.out, HP.out])
   go_wp2
   go_ret
   exact ⟨zb E.out, (box1 _ _).out⟩
 have q22 := beq_false_of_ne k22
 have HQ22 := zz k22
 clear k22
 by_cases k23 : t.f.k = 23
 ·have q23 := yk k23
  have HQ23 := zz k23
  clear k23
  by_cases hp : t.f.n = 0
  ·have qp := yk hp
   have HP := zz hp
   clear hp
   go_enter Tryz.func126, Tryz.ntmps126
   go_wp2_with fail
   obtain ⟨w1, hw1, HB1, HX1, hs1⟩ := jb w t.f (.slice Av 0 cv)
   rw [hw1]
   clear hw1
   refine (rbare_is (f := t.f) (x := false) (y := true) (z := true) rfl _).mono ?_
   rintro e w2 ⟨rfl, b⟩
   have hz2 := b.size
   have HB2 := zz (HB1.out.trans (b.mono (by omega)))
   have HX2 := bx HX1 b
   clear b HB1 HX1
   have x0 := HX2.out.cell
   have E := zz (show rbare t.f false true true = b by rw [<- HH.out]; unfold lf; simp [H0.out, HQ23.out, HP.out, rbare, dE])
   go_wp2
   go_ret
   exact ⟨zb E.out, HB2.out⟩
  have qp := beq_false_of_ne hp
  have HP := zz hp
  clear hp
  by_cases hp : t.f.n = 1
  ·have qp1 := yk hp
   have HP1 := zz hp
   clear hp
   go_enter Tryz.func126, Tryz.ntmps126
   go_wp2_with fail
   obtain ⟨w1, hw1, HB1, HX1, hs1⟩ := jb w t.f (.slice Av 0 cv)
   rw [hw1]
   clear hw1
   refine (rbare_is (f := t.f) (x := false) (y := true) (z := true) rfl _).mono ?_
   rintro e w2 ⟨rfl, b⟩
   have hz2 := b.size
   have HB2 := zz (HB1.out.trans (b.mono (by omega)))
   have HX2 := bx HX1 b
   clear b HB1 HX1
   have x0 := HX2.out.cell
   have E := zz (show rbare t.f false true true = b by rw [<- HH.out]; unfold lf; simp [H0.out, HQ23.out, HP1.out, rbare, dE])
   go_wp2
   go_ret
   exact ⟨zb E.out, HB2.out⟩
  ·have qp1 := beq_false_of_ne hp
   have HP1 := zz hp
   clear hp
   go_enter Tryz.func126, Tryz.ntmps126
   have E := zz (show false = b by rw [<- HH.out]; unfold lf; simp [H0.out, HQ23.out, HP.out, HP1.out])
   go_wp2
   go_ret
   exact ⟨zb E.out, (box1 _ _).out⟩
 have q23 := beq_false_of_ne k23
 have HQ23 := zz k23
 clear k23
 by_cases k24 : t.f.k = 24
 ·have q24 := yk k24
  have HQ24 := zz k24
  clear k24
  go_enter Tryz.func126, Tryz.ntmps126
  go_wp2_with fail
  obtain ⟨w1, hw1, HB1, HX1, hs1⟩ := jb w t.f (.slice Av 0 cv)
  rw [hw1]
  clear hw1
  refine (rbare_is (f := t.f) (x := false) (y := true) (z := false) rfl _).mono ?_
  rintro e w2 ⟨rfl, b⟩
  have hz2 := b.size
  have HB2 := zz (HB1.out.trans (b.mono (by omega)))
  have HX2 := bx HX1 b
  clear b HB1 HX1
  have x0 := HX2.out.cell
  have E := zz (show rbare t.f false true false = b by rw [<- HH.out]; unfold lf; simp [H0.out, HQ24.out, rbare, dE])
  go_wp2
  go_ret
  exact ⟨zb E.out, HB2.out⟩
 have q24 := beq_false_of_ne k24
 have HQ24 := zz k24
 clear k24
 go_enter Tryz.func126, Tryz.ntmps126
 have E := zz (show false = b by rw [<- HH.out]; unfold lf; simp [H0.out, HQ21.out, HQ22.out, HQ23.out, HQ24.out])
 go_wp2
 go_ret
 exact ⟨zb E.out, (box1 _ _).out⟩
end Go.Proofs.YtmdhjiammcpogaaGreatDoor
