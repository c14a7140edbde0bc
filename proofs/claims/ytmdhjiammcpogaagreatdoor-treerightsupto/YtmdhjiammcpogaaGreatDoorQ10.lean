import Derived.Test.YtmdhjiammcpogaaGreatDoorQ09
namespace Go.Proofs.YtmdhjiammcpogaaGreatDoor
set_option maxRecDepth 100000
set_option maxHeartbeats 16000000
section
open Go.RowKit
variable {S : Nat -> Prop} {b : Bool} {f : Nd} {m : Md} {ts : List Tr} {u : Value} {w : World}
def lastRecv (ts : List Tr) : Bool := match ts[ts.length - 1]? with
 | some t => kRecv t.f
 | none => false
def kComm (f : Nd) (ts : List Tr) : Bool := if f.k = 9 then true else if f.k = 10 ∨ f.k = 6 ∨ f.k = 7 then lastRecv ts else false
theorem kComm_is (hK : Lst w m S u ts) (hS : ∀ i, S i -> i < w.heap.size) (h : kComm f ts = b) :
 Calls Tryz.prog 66 #[nv f u] w fun e w' => e = .returned (.bool b) /\ Below w.heap.size w w' := by
 obtain ⟨k, t, n, y, s, a, l⟩ := f
 unfold nv
 unfold kComm at h
 have HL := zz hK
 have HS := zz hS
 obtain ⟨A0, c0, b0, o0, rfl, hla, hcap, hA, hra⟩ := hK
 have HA := zz hA
 have HR := zz hra
 clear hA hra
 clear hS
 by_cases c9 : k = 9
 ·subst c9
  have E := zz (show true = b from h)
  clear h
  go_enter Tryz.func66, Tryz.ntmps66
  go_wp2
  go_ret
  exact ⟨zb E.out, (box1 _ _).out⟩
 have q9 := beq_false_of_ne c9
 by_cases c10 : k = 10
 ·subst c10
  have HE := zz (show lastRecv ts = b from h)
  clear h c9 q9
  by_cases h0 : ts.length = 0
  ·have E := zz (show false = b by
    rw [<- HE.out]
    obtain rfl : ts = [] := List.eq_nil_of_length_eq_zero h0
    rfl)
   rw [h0]
   clear h0 hla hcap
   go_enter Tryz.func66, Tryz.ntmps66
   go_wp2
   go_ret
   exact ⟨zb E.out, (box1 _ _).out⟩
  ·obtain ⟨hA1, hb⟩ := HA.out (by omega)
   subst hA1
   obtain ⟨N, hN⟩ : ∃ N, ts.length = N + 1 := ⟨ts.length - 1, by omega⟩
   have hkl : N < ts.length := by omega
   have hbw := HS.out b0 hb
   obtain ⟨v', x0, x1, x2, x3, x4, x5, x6, x7, _⟩ := (HR.out.get N hkl).open
   have al : ∀ o j z, w.cell? ⟨b0, j, none⟩ = some z -> (w.alloc o).cell? ⟨b0, j, none⟩ = some z := fun o j z h => (World.cell?_alloc_lt _ _ _ hbw).trans h
   have y0 := fun o => al o _ _ x0
   have y1 := fun o => al o _ _ x1
   have y2 := fun o => al o _ _ x2
   have y3 := fun o => al o _ _ x3
   have y4 := fun o => al o _ _ x4
   have y5 := fun o => al o _ _ x5
   have y6 := fun o => al o _ _ x6
   have y7 := fun o => al o _ _ x7
   have HRV := zz (show kRecv ts[N].f = b by
    rw [<- HE.out]
    unfold lastRecv
    rw [show ts.length - 1 = N by omega, List.getElem?_eq_getElem hkl])
   clear al x0 x1 x2 x3 x4 x5 x6 x7
   rw [hN] at hla hcap |-
   have i0 : (0 : Int) <= (N : Int) := by omega
   have i1 : (N : Int) < ((N + 1 : Nat) : Int) := by omega
   go_enter Tryz.func66, Tryz.ntmps66
   go_wp2_with fail
   refine (kRecv_is (f := ts[N].f) HRV.out _).mono ?_
   rintro e w2 ⟨rfl, b2⟩
   have HB2 := zz (((box1 w _).out).trans (b2.mono ((box1 w _).out).size))
   clear b2 y0 y1 y2 y3 y4 y5 y6 y7
   go_wp2
   go_ret
   exact ⟨rfl, HB2.out⟩
 have q10 := beq_false_of_ne c10
 by_cases c6 : k = 6
 ·subst c6
  have HE := zz (show lastRecv ts = b from h)
  clear h c9 q9 c10 q10
  by_cases h0 : ts.length = 0
  ·have E := zz (show false = b by
    rw [<- HE.out]
    obtain rfl : ts = [] := List.eq_nil_of_length_eq_zero h0
    rfl)
   rw [h0]
   clear h0 hla hcap
   go_enter Tryz.func66, Tryz.ntmps66
   go_wp2
   go_ret
   exact ⟨zb E.out, (box1 _ _).out⟩
  ·obtain ⟨hA1, hb⟩ := HA.out (by omega)
   subst hA1
   obtain ⟨N, hN⟩ : ∃ N, ts.length = N + 1 := ⟨ts.length - 1, by omega⟩
   have hkl : N < ts.length := by omega
   have hbw := HS.out b0 hb
   obtain ⟨v', x0, x1, x2, x3, x4, x5, x6, x7, _⟩ := (HR.out.get N hkl).open
   have al : ∀ o j z, w.cell? ⟨b0, j, none⟩ = some z -> (w.alloc o).cell? ⟨b0, j, none⟩ = some z := fun o j z h => (World.cell?_alloc_lt _ _ _ hbw).trans h
   have y0 := fun o => al o _ _ x0
   have y1 := fun o => al o _ _ x1
   have y2 := fun o => al o _ _ x2
   have y3 := fun o => al o _ _ x3
   have y4 := fun o => al o _ _ x4
   have y5 := fun o => al o _ _ x5
   have y6 := fun o => al o _ _ x6
   have y7 := fun o => al o _ _ x7
   have HRV := zz (show kRecv ts[N].f = b by
    rw [<- HE.out]
    unfold lastRecv
    rw [show ts.length - 1 = N by omega, List.getElem?_eq_getElem hkl])
   clear al x0 x1 x2 x3 x4 x5 x6 x7
   rw [hN] at hla hcap |-
   have i0 : (0 : Int) <= (N : Int) := by omega
   have i1 : (N : Int) < ((N + 1 : Nat) : Int) := by omega
   go_enter Tryz.func66, Tryz.ntmps66
   go_wp2_with fail
   refine (kRecv_is (f := ts[N].f) HRV.out _).mono ?_
   rintro e w2 ⟨rfl, b2⟩
   have HB2 := zz (((box1 w _).out).trans (b2.mono ((box1 w _).out).size))
   clear b2 y0 y1 y2 y3 y4 y5 y6 y7
   go_wp2
   go_ret
   exact ⟨rfl, HB2.out⟩
 have q6 := beq_false_of_ne c6
 by_cases c7 : k = 7
 ·subst c7
  have HE := zz (show lastRecv ts = b from h)
  clear h c9 q9 c10 q10 c6 q6
  by_cases h0 : ts.length = 0
  ·have E := zz (show false = b by
    rw [<- HE.out]
    obtain rfl : ts = [] := List.eq_nil_of_length_eq_zero h0
    rfl)
   rw [h0]
   clear h0 hla hcap
   go_enter Tryz.func66, Tryz.ntmps66
   go_wp2
   go_ret
   exact ⟨zb E.out, (box1 _ _).out⟩
  ·obtain ⟨hA1, hb⟩ := HA.out (by omega)
   subst hA1
   obtain ⟨N, hN⟩ : ∃ N, ts.length = N + 1 := ⟨ts.length - 1, by omega⟩
   have hkl : N < ts.length := by omega
   have hbw := HS.out b0 hb
   obtain ⟨v', x0, x1, x2, x3, x4, x5, x6, x7, _⟩ := (HR.out.get N hkl).open
   have al : ∀ o j z, w.cell? ⟨b0, j, none⟩ = some z -> (w.alloc o).cell? ⟨b0, j, none⟩ = some z := fun o j z h => (World.cell?_alloc_lt _ _ _ hbw).trans h
   have y0 := fun o => al o _ _ x0
   have y1 := fun o => al o _ _ x1
   have y2 := fun o => al o _ _ x2
   have y3 := fun o => al o _ _ x3
   have y4 := fun o => al o _ _ x4
   have y5 := fun o => al o _ _ x5
   have y6 := fun o => al o _ _ x6
   have y7 := fun o => al o _ _ x7
   have HRV := zz (show kRecv ts[N].f = b by
    rw [<- HE.out]
    unfold lastRecv
    rw [show ts.length - 1 = N by omega, List.getElem?_eq_getElem hkl])
   clear al x0 x1 x2 x3 x4 x5 x6 x7
   rw [hN] at hla hcap |-
   have i0 : (0 : Int) <= (N : Int) := by omega
   have i1 : (N : Int) < ((N + 1 : Nat) : Int) := by omega
   go_enter Tryz.func66, Tryz.ntmps66
   go_wp2_with fail
   refine (kRecv_is (f := ts[N].f) HRV.out _).mono ?_
   rintro e w2 ⟨rfl, b2⟩
   have HB2 := zz (((box1 w _).out).trans (b2.mono ((box1 w _).out).size))
   clear b2 y0 y1 y2 y3 y4 y5 y6 y7
   go_wp2
   go_ret
   exact ⟨rfl, HB2.out⟩
 have q7 := beq_false_of_ne c7
 rw [if_neg c9, if_neg (show ¬(k = 10 ∨ k = 6 ∨ k = 7) from fun hh => by rcases hh with hh | hh | hh; exact c10 hh; exact c6 hh; exact c7 hh)] at h
 have E := zz h
 clear h c9 c10 c6 c7
 go_enter Tryz.func66, Tryz.ntmps66
 go_wp2
 go_ret
 exact ⟨zb E.out, (box1 _ _).out⟩
end
section
open Go.RowKit
variable {S : Nat -> Prop} {b : Bool} {f : Nd} {m : Md} {ts : List Tr} {u : Value} {w : World}
def clFit (f : Nd) (ts : List Tr) (fc : Bool) : Bool := if kDef f = true then mat [onF kBlock] ts else fc
theorem clFit_is {fc : Bool} (hK : Lst w m S u ts) (hS : ∀ i, S i -> i < w.heap.size) (h : clFit f ts fc = b) :
 Calls Tryz.prog 64 #[nv f u, .bool fc] w fun e w' => e = .returned (.bool b) /\ Below w.heap.size w w' := by
 obtain ⟨k, t, n, y, s, a, l⟩ := f
 unfold nv
 unfold clFit at h
 have HL := zz hK
 have HS := zz hS
 obtain ⟨A0, c0, b0, o0, rfl, _, _, _, _⟩ := hK
 clear hS
 cases hd : kDef ⟨k, t, n, y, s, a, l⟩
 ·have HD := zz hd
  have E := zz (show fc = b by rw [<- h, hd]; rfl)
  clear h hd
  go_enter Tryz.func64, Tryz.ntmps64
  go_wp2_with fail
  refine (kDef_is (f := ⟨k, t, n, y, s, a, l⟩) HD.out _).mono ?_
  rintro e w1 ⟨rfl, b1⟩
  have HB := zz (((box1 w _).out).trans (b1.mono ((box1 w _).out).size))
  clear b1
  go_wp2
  go_ret
  exact ⟨zb E.out, HB.out⟩
 ·have HD := zz hd
  have E := zz (show mat [onF kBlock] ts = b by rw [<- h, hd]; rfl)
  clear h hd
  go_enter Tryz.func64, Tryz.ntmps64
  go_wp2_with fail
  obtain ⟨w1, hw1, HB1, HX1, hs1⟩ := jb w ⟨k, t, n, y, s, a, l⟩ (.slice A0 ts.length c0)
  simp only at hw1
  rw [hw1]
  clear hw1
  refine (kDef_is (f := ⟨k, t, n, y, s, a, l⟩) HD.out _).mono ?_
  rintro e w2 ⟨rfl, b2⟩
  have hsz := b2.size
  have x0 := (HX1.out.below b2 (by omega)).cell
  have HB2 := zz (HB1.out.trans (b2.mono (by omega)))
  clear b2 HX1 HB1
  go_wp2_with fail
  refine (match_call [60] [onF kBlock] (by omega) rfl rfl rfl (by simp) (HL.out.below HB2.out HS.out) (fun i hi => by have := HS.out i hi; omega) (List.forall_mem_cons.2 ⟨en_isBlock, (fun _ h => by cases h)⟩) (fun j h1 _ _ => match j, h1 with
   | 0, _ => as_isBlock _
   | _ + 1, h => absurd h (by simp))).mono ?_
  rintro e w3 ⟨rfl, b3⟩
  rw [E.out]
  have HB3 := zz (HB2.out.trans (b3.mono (by omega)))
  clear b3 x0
  go_wp2
  go_ret
  exact ⟨rfl, HB3.out⟩
end
section
open Go.RowKit
variable {t : Tr}
def swFit (f : Nd) (ts : List Tr) : Bool := if f.n = 0 then cls 14 ts else match ts with
 | [] => false
 | t :: r => kExpr t.f && cls 14 r
abbrev onC (t : Tr) : Bool := kComm t.f t.ks
def kFit (f : Nd) (ts : List Tr) : Bool :=
 if f.k = 1 then ts.all (onF kFunc)
 else if f.k = 2 then eib (onF kParam) ts
 else if f.k = 4 then ts.all (onF kStmt)
 else if f.k = 5 ∨ f.k = 18 ∨ f.k = 29 then decide (ts.length = 0) || mat [onF kExpr] ts
 else if f.k = 6 ∨ f.k = 7 then tgFit f ts
 else if f.k = 8 then mat [onF kOwn] ts
 else if f.k = 9 ∨ f.k = 27 then mat [onF kExpr, onF kExpr] ts
 else if f.k = 10 then mat [onF kDo] ts
 else if f.k = 11 then mat [onF kExpr, onF kBlock] ts || mat [onF kExpr, onF kBlock, onF kElse] ts
 else if f.k = 12 then hdFit f ts
 else if f.k = 13 then swFit f ts
 else if f.k = 14 then clFit f ts (decide (1 < ts.length) && eib (onF kExpr) ts)
 else if f.k = 15 then cls 16 ts
 else if f.k = 16 then clFit f ts (mat [onC, onF kBlock] ts)
 else if f.k = 17 then mat [onF kNCall] ts
 else if f.k = 26 then mat [onF kExpr] ts
 else if f.k = 28 then argFit f ts
 else if f.k = 30 then decide (0 < ts.length) && ts.all (onF kExpr)
 else decide (ts.length = 0)
def fit (f : Nd) (ts : List Tr) : Bool := txtFit f && numFit f && typFit f && kFit f ts
mutual
def fitT : Tr -> Bool
 | .mk f ks => fit f ks && fitTs ks
def fitTs : List Tr -> Bool
 | [] => true
 | t :: r => fitT t && fitTs r
end
theorem fitTs_all : ∀ (l : List Tr), fitTs l = l.all fitT
 | [] => rfl
 | t :: r => by unfold fitTs; rw [fitTs_all r]; rfl
theorem fitT_eq (t : Tr) : fitT t = (fit t.f t.ks && t.ks.all fitT) := by
 cases t
 unfold fitT
 rw [fitTs_all]
 rfl
mutual
def AllF : Tr -> Prop
 | .mk f ks => NFit f /\ AllFs ks
def AllFs : List Tr -> Prop
 | [] => True
 | t :: r => AllF t /\ AllFs r
end
theorem AllFs.get : ∀ {l : List Tr}, AllFs l -> ∀ t ∈ l, AllF t
 | _ :: _, h, t, ht => by
  rcases List.mem_cons.1 ht with rfl | ht
  ·exact h.1
  ·exact AllFs.get h.2 t ht
theorem AllF.nf (h : AllF t) : NFit t.f := by cases t; exact h.1
theorem AllF.ks (h : AllF t) : AllFs t.ks := by cases t; exact h.2
end
section
open Go.RowKit
variable {f : Nd} {t : Tr}
abbrev okE (t : Tr) : Bool := kExpr t.f && fitT t
abbrev okI (t : Tr) : Bool := kItem t.f && fitT t
abbrev okB (t : Tr) : Bool := kBlock t.f && fitT t
abbrev okS (t : Tr) : Bool := kStmt t.f && fitT t
def kSimp (f : Nd) : Bool := f.k == 6 || f.k == 7 || f.k == 8 || f.k == 9 || f.k == 10
abbrev okM (t : Tr) : Bool := kSimp t.f && fitT t
abbrev okT (t : Tr) : Bool := kTarget t.f && fitT t
abbrev okN (t : Tr) : Bool := kNone t.f && fitT t
abbrev okC (kd : Int) (t : Tr) : Bool := t.f.k == kd && fitT t
abbrev okF (t : Tr) : Bool := kFunc t.f && fitT t
abbrev okP (t : Tr) : Bool := kParam t.f && fitT t
def lf (t : Tr) : Bool := decide (t.ks.length = 0) && (if t.f.k = 21 then kNamed t.f && t.f.n == 0 else if t.f.k = 22 then decide (0 <= t.f.n) && decide (t.f.t.data.toList = []) else if t.f.k = 23 then (t.f.n == 0 || t.f.n == 1) && decide (t.f.t.data.toList = []) else t.f.k == 24 && (decide (t.f.t.data.toList = []) && t.f.n == 0))
def rcall (t : Tr) : Bool := (cWord t.f.t.data.toList || kNamed t.f) && (if t.f.t.data.toList = [112, 114, 105, 110, 116, 108, 110] then t.ks.all okI else t.ks.all okE) && t.f.n == 0
theorem all_and (P Q : Tr -> Bool) (l : List Tr) : (l.all fun t => P t && Q t) = (l.all P && l.all Q) := by
 induction l with
 | nil => rfl
 | cons a r ih =>
  simp only [List.all_cons, ih]
  cases P a <;> cases Q a <;> cases r.all P <;> cases r.all Q <;> rfl
theorem mat1 (p : Tr -> Bool) (l : List Tr) : mat [p] l = (decide (l.length = 1) && l.all p) := by
 rcases l with _ | ⟨a, _ | ⟨b, r⟩⟩ <;> simp [mat]
theorem mat2 (p : Tr -> Bool) (l : List Tr) : mat [p, p] l = (decide (l.length = 2) && l.all p) := by
 rcases l with _ | ⟨a, _ | ⟨b, _ | ⟨c, r⟩⟩⟩ <;> simp [mat]
theorem name_blank : (isName f.t && !decide (f.t.data.toList = [95])) = kNamed f := by unfold kNamed; rw [Bool.and_comm]
theorem okE_26 (h : t.f.k = 26) : okE t = (uSign t.f.t.data.toList && t.ks.all okE && decide (t.ks.length = 1) && t.f.n == 0) := by
 rw [okE, fitT_eq, all_and]
 generalize t.f = f at *
 generalize t.ks = ks at *
 have e1 : fit f ks = (uSign f.t.data.toList && f.n == 0 && (decide (ks.length = 1) && ks.all (fun t => kExpr t.f))) := by
  unfold fit txtFit numFit typFit kFit; simp [h, mrk, mat1]
 have e2 : kExpr f = true := by simp [kExpr, mrk, kBlank, h]
 simp only [e1, e2]
 first | (simp [Bool.and_comm, Bool.and_left_comm, Bool.and_assoc]; done) | grind
theorem okE_27 (h : t.f.k = 27) : okE t = (decide (0 < bnd t.f.t.data.toList) && t.ks.all okE && decide (t.ks.length = 2) && t.f.n == 0) := by
 rw [okE, fitT_eq, all_and]
 generalize t.f = f at *
 generalize t.ks = ks at *
 have e1 : fit f ks = (decide (0 < bnd f.t.data.toList) && f.n == 0 && (decide (ks.length = 2) && ks.all (fun t => kExpr t.f))) := by
  unfold fit txtFit numFit typFit kFit; simp [h, mrk, mat2]
 have e2 : kExpr f = true := by simp [kExpr, mrk, kBlank, h]
 simp only [e1, e2]
 first | (simp [Bool.and_comm, Bool.and_left_comm, Bool.and_assoc]; done) | grind
theorem okE_28 (h : t.f.k = 28) : okE t = rcall t := by
 rw [okE, fitT_eq, rcall, all_and, all_and]
 generalize t.f = f at *
 generalize t.ks = ks at *
 have e1 : fit f ks = ((kNamed f || cWord f.t.data.toList) && f.n == 0 && argFit f ks) := by
  unfold fit txtFit numFit typFit kFit; simp [h, mrk]
 have e2 : kExpr f = true := by simp [kExpr, mrk, kBlank, h]
 simp only [e1, e2]
 unfold argFit
 by_cases hp : f.t.data.toList = [112, 114, 105, 110, 116, 108, 110]
 ·simp only [if_pos hp]
  first | (simp [Bool.and_comm, Bool.and_left_comm, Bool.and_assoc]; done) | grind
 ·simp only [if_neg hp]
  first | (simp [Bool.and_comm, Bool.and_left_comm, Bool.and_assoc]; done) | grind
theorem opt1 (l : List Tr) : (decide (l.length = 0) || mat [onF kExpr] l) = (decide (l.length <= 1) && l.all (fun t => kExpr t.f)) := by
 rcases l with _ | ⟨a, _ | ⟨b, r⟩⟩ <;> simp [mat]
theorem okE_29 (h : t.f.k = 29) : okE t = (t.ks.all okE && right t.f.y.data.toList && decide (t.ks.length <= 1) && (decide (t.f.t.data.toList = []) && t.f.n == 0)) := by
 rw [okE, fitT_eq, all_and]
 generalize t.f = f at *
 generalize t.ks = ks at *
 have e1 : fit f ks = (decide (f.t.data.toList = []) && f.n == 0 && right f.y.data.toList && (decide (ks.length <= 1) && ks.all (fun t => kExpr t.f))) := by
  rw [<- opt1]
  unfold fit txtFit numFit typFit kFit
  simp [h]
 have e2 : kExpr f = true := by simp [kExpr, h]
 simp only [e1, e2]
 first | (simp [Bool.and_comm, Bool.and_left_comm, Bool.and_assoc]; done) | grind
theorem okE_30 (h : t.f.k = 30) : okE t = (mName t.f.t.data.toList && t.ks.all okE && decide (1 <= t.ks.length) && t.f.n == 0) := by
 rw [okE, fitT_eq, all_and]
 generalize t.f = f at *
 generalize t.ks = ks at *
 have e1 : fit f ks = (mName f.t.data.toList && f.n == 0 && (decide (1 <= ks.length) && ks.all (fun t => kExpr t.f))) := by
  unfold fit txtFit numFit typFit kFit; simp [h, mrk]
  rfl
 have e2 : kExpr f = true := by simp [kExpr, mrk, kBlank, h]
 simp only [e1, e2]
 first | (simp [Bool.and_comm, Bool.and_left_comm, Bool.and_assoc]; done) | grind
theorem all_nil {l : List Tr} (P : Tr -> Bool) (h : l.length = 0) : l.all P = true := by rw [List.eq_nil_of_length_eq_zero h]; rfl
theorem okE_leaf (h26 : ¬ t.f.k = 26) (h27 : ¬ t.f.k = 27) (h28 : ¬ t.f.k = 28) (h29 : ¬ t.f.k = 29) (h30 : ¬ t.f.k = 30) : okE t = lf t := by
 rw [okE, fitT_eq, lf]
 generalize t.f = f at *
 generalize t.ks = ks at *
 by_cases h21 : f.k = 21
 ·have e1 : fit f ks = (isName f.t && f.n == 0 && decide (ks.length = 0)) := by
   unfold fit txtFit numFit typFit kFit; simp [h21, mrk]
  have e2 : kExpr f = !decide (f.t.data.toList = [95]) := by simp [kExpr, mrk, kBlank, h21]
  simp only [e1, e2, if_pos h21, kNamed]
  by_cases h0 : ks.length = 0
  ·rw [all_nil _ h0, decide_eq_true h0]
   first | (simp [Bool.and_comm, Bool.and_left_comm]; done) | grind
  ·rw [decide_eq_false h0]
   simp
 simp only [if_neg h21]
 by_cases h22 : f.k = 22
 ·have e1 : fit f ks = (decide (f.t.data.toList = []) && decide (0 <= f.n) && decide (ks.length = 0)) := by
   unfold fit txtFit numFit typFit kFit; simp [h22, mrk]
  have e2 : kExpr f = true := by simp [kExpr, mrk, kBlank, h22]
  simp only [e1, e2, if_pos h22]
  by_cases h0 : ks.length = 0
  ·rw [all_nil _ h0, decide_eq_true h0]
   first | (simp [Bool.and_comm]; done) | grind
  ·rw [decide_eq_false h0]
   simp
 simp only [if_neg h22]
 by_cases h23 : f.k = 23
 ·have e1 : fit f ks = (decide (f.t.data.toList = []) && (f.n == 0 || f.n == 1) && decide (ks.length = 0)) := by
   unfold fit txtFit numFit typFit kFit; simp [h23, mrk]
  have e2 : kExpr f = true := by simp [kExpr, mrk, kBlank, h23]
  simp only [e1, e2, if_pos h23]
  by_cases h0 : ks.length = 0
  ·rw [all_nil _ h0, decide_eq_true h0]
   first | (simp [Bool.and_comm]; done) | grind
  ·rw [decide_eq_false h0]
   simp
 simp only [if_neg h23]
 by_cases h24 : f.k = 24
 ·have e1 : fit f ks = (decide (f.t.data.toList = []) && f.n == 0 && decide (ks.length = 0)) := by
   unfold fit txtFit numFit typFit kFit; simp [h24, mrk]
  have e2 : kExpr f = true := by simp [kExpr, mrk, kBlank, h24]
  rw [e1, e2, h24]
  by_cases h0 : ks.length = 0
  ·rw [all_nil _ h0, decide_eq_true h0]
   first | (simp [Bool.and_comm]; done) | grind
  ·rw [decide_eq_false h0]
   simp
 ·have e2 : kExpr f = false := by simp [kExpr, mrk, h21, h22, h23, h24, h26, h27, h28, h29, h30]
  rw [e2, beq_false_of_ne h24]
  simp
theorem okI_text (h : t.f.k = 25) : okI t = (decide (t.f.y.data.toList = []) && t.f.n == 0 && decide (t.ks.length = 0)) := by
 rw [okI, fitT_eq]
 generalize t.f = f at *
 generalize t.ks = ks at *
 have e1 : fit f ks = (f.n == 0 && decide (f.y.data.toList = []) && decide (ks.length = 0)) := by
  unfold fit txtFit numFit typFit kFit; simp [h, mrk]
 have e2 : kItem f = true := by simp [kItem, h]
 simp only [e1, e2]
 by_cases h0 : ks.length = 0
 ·rw [all_nil _ h0, decide_eq_true h0]
  first | (simp [Bool.and_comm]; done) | grind
 ·rw [decide_eq_false h0]
  simp
theorem okI_expr (h : ¬ t.f.k = 25) : okI t = okE t := by
 unfold okI okE kItem
 rw [beq_false_of_ne h, Bool.false_or]
end
section
open Go.RowKit
variable {t : Tr}
theorem okT_eq (t : Tr) : okT t = (t.f.k == 21 && isName t.f.t && decide (t.ks.length = 0) && t.f.n == 0) := by
 rw [okT, fitT_eq]
 generalize t.f = f at *
 generalize t.ks = ks at *
 by_cases h : f.k = 21
 ·have e1 : fit f ks = (isName f.t && f.n == 0 && decide (ks.length = 0)) := by
   unfold fit txtFit numFit typFit kFit; simp [h, mrk]
  rw [e1, kTarget, h]
  by_cases h0 : ks.length = 0
  ·rw [all_nil _ h0, decide_eq_true h0]
   simp
  ·rw [decide_eq_false h0]
   simp
 ·rw [kTarget, beq_false_of_ne h]
  rfl
theorem okN_eq (t : Tr) : okN t = (t.f.k == 0 && decide (t.ks.length = 0) && (decide (t.f.t.data.toList = []) && decide (t.f.y.data.toList = []) && t.f.n == 0)) := by
 rw [okN, fitT_eq]
 generalize t.f = f at *
 generalize t.ks = ks at *
 by_cases h : f.k = 0
 ·have e1 : fit f ks = (decide (f.t.data.toList = []) && f.n == 0 && decide (f.y.data.toList = []) && decide (ks.length = 0)) := by
   unfold fit txtFit numFit typFit kFit; simp [h, mrk]
  rw [e1, kNone, h]
  by_cases h0 : ks.length = 0
  ·rw [all_nil _ h0, decide_eq_true h0]
   simp [Bool.and_comm, Bool.and_left_comm, Bool.and_assoc]
  ·rw [decide_eq_false h0]
   simp
 ·rw [kNone, beq_false_of_ne h]
  rfl
abbrev emp (f : Nd) : Bool := decide (f.t.data.toList = []) && decide (f.y.data.toList = []) && f.n == 0
abbrev emn (f : Nd) : Bool := decide (f.t.data.toList = []) && decide (f.y.data.toList = [])
theorem okB_eq (t : Tr) : okB t = (t.f.k == 4 && emp t.f && t.ks.all okS) := by
 rw [okB, fitT_eq, all_and]
 generalize t.f = f at *
 generalize t.ks = ks at *
 by_cases h : f.k = 4
 ·have e1 : fit f ks = (decide (f.t.data.toList = []) && f.n == 0 && decide (f.y.data.toList = []) && ks.all (fun t => kStmt t.f)) := by
   unfold fit txtFit numFit typFit kFit; simp [h, mrk]
  rw [e1, kBlock, h, emp]
  simp [Bool.and_comm, Bool.and_left_comm, Bool.and_assoc]
 ·rw [kBlock, beq_false_of_ne h]
  rfl
theorem fit_9 (h : t.f.k = 9) : fitT t = (t.ks.all okE && decide (t.ks.length = 2) && emp t.f) := by
 rw [fitT_eq, all_and]
 generalize t.f = f at *
 generalize t.ks = ks at *
 have e1 : fit f ks = (decide (f.t.data.toList = []) && f.n == 0 && decide (f.y.data.toList = []) && (decide (ks.length = 2) && ks.all (fun t => kExpr t.f))) := by
  unfold fit txtFit numFit typFit kFit; simp [h, mrk, mat2]
 rw [e1, emp]
 simp [Bool.and_comm, Bool.and_left_comm, Bool.and_assoc]
theorem fit_10 (h : t.f.k = 10) : fitT t = (decide (t.ks.length = 1) && emp t.f && t.ks.all fun k => okE k && (kRecv k.f || k.f.k == 28 || k.f.k == 30)) := by
 rw [fitT_eq]
 generalize t.f = f at *
 generalize t.ks = ks at *
 have e1 : fit f ks = (decide (f.t.data.toList = []) && f.n == 0 && decide (f.y.data.toList = []) && (decide (ks.length = 1) && ks.all (fun t => kDo t.f))) := by
  unfold fit txtFit numFit typFit kFit; simp [h, mrk, mat1]
 rw [e1, emp]
 rcases ks with _ | ⟨a, _ | ⟨b, r⟩⟩
 ·simp
 ·have e2 : kDo a.f = true -> kExpr a.f = true := by
   intro hd
   unfold kDo kRecv at hd
   unfold kExpr mrk kBlank
   simp only [Bool.or_eq_true, Bool.and_eq_true, beq_iff_eq] at hd
   rcases hd with (hd | hd) | hd
   ·simp [hd]
   ·simp [hd]
   ·simp [hd.1]
  have e3 : kDo a.f = (kRecv a.f || a.f.k == 28 || a.f.k == 30) := by
   unfold kDo
   cases (a.f.k == 28) <;> cases (a.f.k == 30) <;> cases kRecv a.f <;> rfl
  simp only [List.length_cons, List.length_nil, List.all_cons, List.all_nil, okE, <- e3]
  cases hd : kDo a.f
  ·simp
  ·rw [e2 hd]
   simp [Bool.and_comm, Bool.and_left_comm, Bool.and_assoc]
 ·simp
theorem fit_8 (h : t.f.k = 8) : fitT t = ((t.f.n == 1 || t.f.n == (-1)) && decide (t.ks.length = 1) && (t.ks.all fun k => k.f.k == 21 && lf k) && emn t.f) := by
 rw [fitT_eq]
 generalize t.f = f at *
 generalize t.ks = ks at *
 have e1 : fit f ks = (decide (f.t.data.toList = []) && (f.n == 1 || f.n == (-1)) && decide (f.y.data.toList = []) && (decide (ks.length = 1) && ks.all (fun t => kOwn t.f))) := by
  unfold fit txtFit numFit typFit kFit; simp [h, mrk, mat1]
 rw [e1, emn]
 rcases ks with _ | ⟨a, _ | ⟨b, r⟩⟩
 ·simp
 ·have e2 : (kOwn a.f && fitT a) = (a.f.k == 21 && lf a) := by
   by_cases hk : a.f.k = 21
   ·rw [<- okE_leaf (t := a) (by omega) (by omega) (by omega) (by omega) (by omega), okE]
    have e3 : kOwn a.f = kExpr a.f := by unfold kOwn kExpr mrk kBlank; simp [hk]
    rw [e3, hk]
    simp
   ·rw [kOwn, beq_false_of_ne hk]
    rfl
  simp only [List.length_cons, List.length_nil, List.all_cons, List.all_nil, <- e2]
  simp [Bool.and_comm, Bool.and_left_comm, Bool.and_assoc]
 ·simp
theorem okM_no (h6 : ¬ t.f.k = 6) (h7 : ¬ t.f.k = 7) (h8 : ¬ t.f.k = 8) (h9 : ¬ t.f.k = 9) (h10 : ¬ t.f.k = 10) : okM t = false := by
 rw [okM, kSimp, beq_false_of_ne h6, beq_false_of_ne h7, beq_false_of_ne h8, beq_false_of_ne h9, beq_false_of_ne h10]
 rfl
theorem okM_yes (h : kSimp t.f = true) : okM t = fitT t := by rw [okM, h]; rfl
end
section
open Go.RowKit
variable {a t : Tr} {f : Nd} {ks r ts : List Tr}
theorem recv_expr (h : kRecv f = true) : kExpr f = true := by
 unfold kRecv at h
 simp only [Bool.and_eq_true, beq_iff_eq] at h
 unfold kExpr mrk kBlank
 simp [h.1]
theorem let_fit (h : f.k = 6 ∨ f.k = 7) : fit f ks = (emn f && (f.n == 1 || f.n == 2) && tgFit f ks) := by
 rw [emn]
 rcases h with h | h
 ·unfold fit txtFit numFit typFit kFit; simp [h, mrk]
  first | (simp [Bool.and_comm, Bool.and_left_comm]; done) | grind
 ·unfold fit txtFit numFit typFit kFit; simp [h, mrk]
  first | (simp [Bool.and_comm, Bool.and_left_comm]; done) | grind
theorem blank_of (h : kTarget a.f = true) : kBlank a.f = decide (a.f.t.data.toList = [95]) := by
 unfold kTarget at h
 unfold kBlank
 rw [h]
 rfl
theorem let1 (h : t.f.k = 6 ∨ t.f.k = 7) (hn : t.f.n = 1) {e : Tr} (hk : t.ks = [a, e]) : fitT t = (emn t.f && okT a && okE e && (!decide (a.f.t.data.toList = [95]) || t.f.k == 7)) := by
 rw [fitT_eq, let_fit h, hk]
 have e1 : (tgFit t.f [a, e] && [a, e].all fitT) = (okT a && okE e && (!decide (a.f.t.data.toList = [95]) || t.f.k == 7)) := by
  unfold tgFit
  simp only [hn, List.length_cons, List.length_nil, mat, if_true, List.all_cons, List.all_nil, Bool.and_true]
  simp only [okT, okE]
  cases ht : kTarget a.f
  ·simp [onF, ht]
  ·rcases h with h | h
   ·simp [onF, ht, blank_of ht, h]
    cases decide (a.f.t.data.toList = [95]) <;> cases kExpr e.f <;> cases fitT a <;> cases fitT e <;> simp
   ·simp [onF, ht, h]
    cases kExpr e.f <;> cases fitT a <;> cases fitT e <;> rfl
 rw [hn]
 cases emn t.f
 ·simp
 ·simpa [Bool.and_assoc] using e1
theorem let2 (h : t.f.k = 6 ∨ t.f.k = 7) (hn : t.f.n = 2) {b e : Tr} (hk : t.ks = [a, b, e]) : fitT t = (emn t.f && okT a && okT b && okE e && kRecv e.f && ((!decide (a.f.t.data.toList = [95]) || !decide (b.f.t.data.toList = [95])) || t.f.k == 7)) := by
 rw [fitT_eq, let_fit h, hk]
 have e1 : (tgFit t.f [a, b, e] && [a, b, e].all fitT) = (okT a && okT b && okE e && kRecv e.f && ((!decide (a.f.t.data.toList = [95]) || !decide (b.f.t.data.toList = [95])) || t.f.k == 7)) := by
  unfold tgFit
  simp only [hn, List.length_cons, List.length_nil, mat, List.all_cons, List.all_nil, Bool.and_true]
  simp only [okT, okE]
  cases hr : kRecv e.f
  ·simp [onF, hr]
  rw [recv_expr hr]
  cases ht : kTarget a.f
  ·simp [onF, ht]
  cases hb : kTarget b.f
  ·simp [onF, hb]
  rcases h with h | h
  ·simp [onF, ht, hb, hr, blank_of ht, blank_of hb, h]
   cases decide (a.f.t.data.toList = [95]) <;> cases decide (b.f.t.data.toList = [95]) <;> cases fitT a <;> cases fitT b <;> cases fitT e <;> simp
  ·simp [onF, ht, hb, hr, h]
   cases fitT a <;> cases fitT b <;> cases fitT e <;> rfl
 rw [hn]
 cases emn t.f
 ·simp
 ·simpa [Bool.and_assoc] using e1
theorem mat_nolen {ps : List (Tr -> Bool)} (h : ¬ ps.length = ts.length) : mat ps ts = false := by
 cases e : mat ps ts
 ·rfl
 ·exact absurd (mat_len e) h
theorem let_no (h : t.f.k = 6 ∨ t.f.k = 7) (hc : ¬ ((t.f.n = 1 /\ t.ks.length = 2) ∨ (t.f.n = 2 /\ t.ks.length = 3))) : fitT t = false := by
 rw [fitT_eq, let_fit h]
 by_cases h1 : t.f.n = 1
 ·have hl : ¬ t.ks.length = 2 := fun e => hc (Or.inl ⟨h1, e⟩)
  unfold tgFit
  simp only [h1, if_true]
  rw [mat_nolen (by simp; omega)]
  simp
 by_cases h2 : t.f.n = 2
 ·have hl : ¬ t.ks.length = 3 := fun e => hc (Or.inr ⟨h2, e⟩)
  unfold tgFit
  rw [if_neg h1, mat_nolen (by simp; omega)]
  simp
 ·rw [beq_false_of_ne h1, beq_false_of_ne h2]
  simp
theorem if_fit (h : f.k = 11) : fit f ks = (emp f && (mat [onF kExpr, onF kBlock] ks || mat [onF kExpr, onF kBlock, onF kElse] ks)) := by
 rw [emp]
 unfold fit txtFit numFit typFit kFit; simp [h, mrk]
 first | (simp [Bool.and_comm, Bool.and_left_comm]; done) | grind
theorem if2 (h : t.f.k = 11) {b : Tr} (hk : t.ks = [a, b]) : fitT t = (emp t.f && okE a && okB b) := by
 rw [fitT_eq, if_fit h, hk]
 simp only [mat, okE, okB, onF, List.all_cons, List.all_nil]
 first | (simp [Bool.and_comm, Bool.and_left_comm]; done) | grind
theorem if3 (h : t.f.k = 11) {b c : Tr} (hk : t.ks = [a, b, c]) : fitT t = (emp t.f && okE a && okB b && (if c.f.k = 11 then fitT c else okB c)) := by
 rw [fitT_eq, if_fit h, hk]
 simp only [mat, okE, okB, onF, List.all_cons, List.all_nil, kElse]
 by_cases hc : c.f.k = 11
 ·rw [if_pos hc, hc]
  first | (simp [Bool.and_comm, Bool.and_left_comm]; done) | grind
 ·rw [if_neg hc, beq_false_of_ne hc]
  unfold kBlock
  first | (simp [Bool.and_comm, Bool.and_left_comm]; done) | grind
theorem if_no (h : t.f.k = 11) (h2 : ¬ t.ks.length = 2) (h3 : ¬ t.ks.length = 3) : fitT t = false := by
 rw [fitT_eq, if_fit h, mat_nolen (by simp; omega), mat_nolen (by simp; omega)]
 simp
theorem clause_fit (h : f.k = 14 ∨ f.k = 16) : fit f ks = (emn f && (f.n == 0 || f.n == 1) && kFit f ks) := by
 rw [emn]
 rcases h with h | h
 ·unfold fit txtFit numFit typFit; simp [h, mrk]
  first | (simp [Bool.and_comm, Bool.and_left_comm]; done) | grind
 ·unfold fit txtFit numFit typFit; simp [h, mrk]
  first | (simp [Bool.and_comm, Bool.and_left_comm]; done) | grind
theorem kFit_14 (ks : List Tr) (h : f.k = 14) : kFit f ks = clFit f ks (decide (1 < ks.length) && eib (onF kExpr) ks) := by unfold kFit; simp [h]
theorem kFit_16 (ks : List Tr) (h : f.k = 16) : kFit f ks = clFit f ks (mat [onC, onF kBlock] ks) := by unfold kFit; simp [h]
theorem snoc_of {l : List Tr} (h : 0 < l.length) : ∃ r x, l = r ++ [x] /\ r.length = l.length - 1 := by
 have h0 : l ≠ [] := by intro e; rw [e] at h; simp at h
 exact ⟨l.dropLast, l.getLast h0, (List.dropLast_concat_getLast h0).symm, by simp⟩
theorem eib_snoc (P : Tr -> Bool) (r : List Tr) (x : Tr) : eib P (r ++ [x]) = (kBlock x.f && r.all P) := by
 unfold eib
 simp
theorem clause_def (h : t.f.k = 14 ∨ t.f.k = 16) (hn : t.f.n = 1) {x : Tr} (hk : t.ks = r ++ [x]) : fitT t = (emn t.f && okB x && decide (r.length = 0)) := by
 rw [fitT_eq, clause_fit h, hk]
 have e1 : kFit t.f (r ++ [x]) = mat [onF kBlock] (r ++ [x]) := by
  rcases h with h | h
  ·rw [kFit_14 _ h]; unfold clFit kDef; simp [hn]
  ·rw [kFit_16 _ h]; unfold clFit kDef; simp [hn]
 rw [e1, hn]
 rcases r with _ | ⟨a, r⟩
 ·simp only [List.nil_append, mat, onF, okB, List.all_cons, List.all_nil, List.length_nil]
  first | (simp [Bool.and_comm, Bool.and_left_comm]; done) | grind
 ·rw [mat_nolen (by simp)]
  simp
theorem clause_case (h : t.f.k = 14) (hn : t.f.n = 0) {x : Tr} (hk : t.ks = r ++ [x]) : fitT t = (emn t.f && okB x && r.all okE && decide (1 <= r.length)) := by
 rw [fitT_eq, clause_fit (Or.inl h), hk, kFit_14 _ h, all_and]
 unfold clFit kDef
 simp only [hn]
 rw [eib_snoc, List.all_append]
 rcases r with _ | ⟨a, r⟩
 ·simp
 ·simp only [okB, onF, List.all_cons, List.all_nil, List.length_append, List.length_cons, List.length_nil]
  simp
  first | (simp [Bool.and_comm, Bool.and_left_comm]; done) | grind
theorem clause_none (h : t.f.k = 14 ∨ t.f.k = 16) (hn : t.f.n = 0 ∨ t.f.n = 1) (hk : t.ks.length = 0) : fitT t = false := by
 rw [fitT_eq, clause_fit h, List.eq_nil_of_length_eq_zero hk]
 rcases h with h | h
 ·rw [kFit_14 _ h]; unfold clFit kDef; rcases hn with hn | hn <;> simp [hn, mat, eib]
 ·rw [kFit_16 _ h]; unfold clFit kDef; rcases hn with hn | hn <;> simp [hn, mat]
theorem clause_num (h : t.f.k = 14 ∨ t.f.k = 16) (h0 : ¬ t.f.n = 0) (h1 : ¬ t.f.n = 1) : fitT t = false := by
 rw [fitT_eq, clause_fit h, beq_false_of_ne h0, beq_false_of_ne h1]
 simp
theorem arm_len (h : t.f.k = 16) (hn : t.f.n = 0) (hk : ¬ t.ks.length = 2) : fitT t = false := by
 rw [fitT_eq, clause_fit (Or.inr h), kFit_16 _ h]
 unfold clFit kDef
 rw [mat_nolen (ps := [onC, onF kBlock]) (by simp; omega)]
 simp [hn]
def commOk (s : Tr) : Bool := okM s && (s.f.k == 9 || (!(s.f.k == 8) && lastRecv s.ks))
theorem comm_eq (s : Tr) : (onC s && fitT s) = commOk s := by
 unfold commOk okM kSimp onC kComm
 by_cases h9 : s.f.k = 9
 ·simp [h9]
 rw [if_neg h9, beq_false_of_ne h9]
 by_cases h8 : s.f.k = 8
 ·simp [h8]
 rw [beq_false_of_ne h8]
 by_cases h : s.f.k = 10 ∨ s.f.k = 6 ∨ s.f.k = 7
 ·rw [if_pos h]
  rcases h with h | h | h
  ·simp [h, Bool.and_comm]
  ·simp [h, Bool.and_comm]
  ·simp [h, Bool.and_comm]
 ·rw [if_neg h, beq_false_of_ne fun e => h (Or.inl e), beq_false_of_ne fun e => h (Or.inr (Or.inl e)), beq_false_of_ne fun e => h (Or.inr (Or.inr e))]
  simp
theorem arm2 (h : t.f.k = 16) (hn : t.f.n = 0) {s x : Tr} (hk : t.ks = [s, x]) : fitT t = (emn t.f && okB x && commOk s) := by
 rw [fitT_eq, clause_fit (Or.inr h), hk, kFit_16 _ h, <- comm_eq]
 unfold clFit kDef
 simp only [hn, mat, okB, onF, List.all_cons, List.all_nil]
 simp
 first | (simp [Bool.and_comm, Bool.and_left_comm]; done) | grind
end
section
open Go.RowKit
variable {f : Nd} {ks r : List Tr} {t : Tr}
def txt12 (f : Nd) : Bool := decide (f.t.data.toList = []) || (f.n == 3 && (decide (f.t.data.toList = [58, 61]) || decide (f.t.data.toList = [61])))
theorem for_fit (h : f.k = 12) : fit f ks = (txt12 f && (decide (0 <= f.n) && decide (f.n <= 3)) && decide (f.y.data.toList = []) && hdFit f ks) := by
 unfold fit txtFit numFit typFit kFit txt12; simp [h, mrk]
theorem for0 (h : t.f.k = 12) (hn : t.f.n = 0) {b : Tr} (hk : t.ks = [b]) : fitT t = (emn t.f && okB b) := by
 rw [fitT_eq, for_fit h, hk]
 unfold hdFit txt12
 simp only [hn, mat, okB, emn, onF, List.all_cons, List.all_nil]
 simp
 first | (simp [Bool.and_comm, Bool.and_left_comm]; done) | grind
theorem for1 (h : t.f.k = 12) (hn : t.f.n = 1) {e b : Tr} (hk : t.ks = [e, b]) : fitT t = (emn t.f && okB b && okE e) := by
 rw [fitT_eq, for_fit h, hk]
 unfold hdFit txt12
 simp only [hn, mat, okB, okE, emn, onF, List.all_cons, List.all_nil]
 simp
 first | (simp [Bool.and_comm, Bool.and_left_comm]; done) | grind
theorem start_eq (s : Tr) : (kStart s.f && fitT s) = (okM s || okN s) := by
 simp only [okM, okN, kStart, kNext, kSimp, kNone]
 cases fitT s <;> cases (s.f.k == 0) <;> cases (s.f.k == 6) <;> cases (s.f.k == 7) <;> cases (s.f.k == 8) <;> cases (s.f.k == 9) <;> cases (s.f.k == 10) <;> rfl
theorem next_eq (s : Tr) : (kNext s.f && fitT s) = ((okM s && !(s.f.k == 6)) || okN s) := by
 simp only [okM, okN, kNext, kSimp, kNone]
 by_cases h6 : s.f.k = 6
 ·simp [h6]
 ·rw [beq_false_of_ne h6]
  cases fitT s <;> cases (s.f.k == 0) <;> cases (s.f.k == 7) <;> cases (s.f.k == 8) <;> cases (s.f.k == 9) <;> cases (s.f.k == 10) <;> rfl
theorem cond_eq (c : Tr) : (kCond c.f && fitT c) = (okE c || okN c) := by
 simp only [okE, okN, kCond]
 cases fitT c <;> cases kNone c.f <;> cases kExpr c.f <;> rfl
theorem for2 (h : t.f.k = 12) (hn : t.f.n = 2) {s c x b : Tr} (hk : t.ks = [s, c, x, b]) : fitT t = (emn t.f && okB b && ((okM s || okN s) && (okE c || okN c) && ((okM x && !(x.f.k == 6)) || okN x))) := by
 rw [fitT_eq, for_fit h, hk, <- start_eq, <- next_eq, <- cond_eq]
 unfold hdFit txt12
 simp only [hn, mat, okB, emn, onF, List.all_cons, List.all_nil]
 simp
 first | (simp [Bool.and_comm, Bool.and_left_comm]; done) | grind
theorem own_eq (x : Tr) : (kOwn x.f && fitT x) = (x.f.k == 21 && lf x) := by
 by_cases hk : x.f.k = 21
 ·rw [<- okE_leaf (t := x) (by omega) (by omega) (by omega) (by omega) (by omega), okE]
  have e3 : kOwn x.f = kExpr x.f := by unfold kOwn kExpr mrk kBlank; simp [hk]
  rw [e3, hk]
  simp
 ·rw [kOwn, beq_false_of_ne hk]
  rfl
theorem for3 (h : t.f.k = 12) (hn : t.f.n = 3) {x e b : Tr} (hk : t.ks = [x, e, b]) : fitT t = (decide (t.f.y.data.toList = []) && okB b && (okE e && ((x.f.k == 21 && lf x && (decide (t.f.t.data.toList = [58, 61]) || decide (t.f.t.data.toList = [61]))) || (okN x && decide (t.f.t.data.toList = []))))) := by
 rw [fitT_eq, for_fit h, hk, <- own_eq]
 unfold hdFit txt12
 by_cases ht : t.f.t.data.toList = []
 ·simp only [hn, ht, mat, okB, okE, okN, onF, List.all_cons, List.all_nil]
  simp
  first | (simp [Bool.and_comm, Bool.and_left_comm]; done) | grind
 ·simp only [hn, ht, mat, okB, okE, okN, onF, List.all_cons, List.all_nil]
  simp
  first | (simp [Bool.and_comm, Bool.and_left_comm]; done) | grind
theorem for_num (h : t.f.k = 12) (hn : t.f.n < 0 ∨ 3 < t.f.n) : fitT t = false := by
 rw [fitT_eq, for_fit h]
 rcases hn with hn | hn
 ·rw [decide_eq_false (show ¬ 0 <= t.f.n by omega)]
  simp
 ·rw [decide_eq_false (show ¬ t.f.n <= 3 by omega)]
  simp
theorem for_len (h : t.f.k = 12) (hc : ¬ ((t.f.n = 0 /\ t.ks.length = 1) ∨ (t.f.n = 1 /\ t.ks.length = 2) ∨ (t.f.n = 2 /\ t.ks.length = 4) ∨ (t.f.n = 3 /\ t.ks.length = 3))) : fitT t = false := by
 by_cases h0 : t.f.n < 0 ∨ 3 < t.f.n
 ·exact for_num h h0
 rw [fitT_eq, for_fit h]
 have : hdFit t.f t.ks = false := by
  unfold hdFit
  split
  ·exact mat_nolen (by simp; omega)
  split
  ·exact mat_nolen (by simp; omega)
  split
  ·exact mat_nolen (by simp; omega)
  split
  ·exact mat_nolen (by simp; omega)
  ·exact mat_nolen (by simp; omega)
 rw [this]
 simp
theorem okS_5 (h : t.f.k = 5) : okS t = (kNamed t.f && right t.f.y.data.toList && t.ks.all okE && decide (t.ks.length <= 1) && t.f.n == 0) := by
 rw [okS, fitT_eq, all_and]
 generalize t.f = f at *
 generalize t.ks = ks at *
 have e1 : fit f ks = (kNamed f && f.n == 0 && right f.y.data.toList && (decide (ks.length <= 1) && ks.all (fun t => kExpr t.f))) := by
  rw [<- opt1]
  unfold fit txtFit numFit typFit kFit; simp [h]
 have e2 : kStmt f = true := by simp [kStmt, h]
 rw [e1, e2]
 first | (simp [Bool.and_comm, Bool.and_left_comm, Bool.and_assoc]; done) | grind
theorem okS_18 (h : t.f.k = 18) : okS t = (t.ks.all okE && decide (t.ks.length <= 1) && emp t.f) := by
 rw [okS, fitT_eq, all_and]
 generalize t.f = f at *
 generalize t.ks = ks at *
 have e1 : fit f ks = (decide (f.t.data.toList = []) && f.n == 0 && decide (f.y.data.toList = []) && (decide (ks.length <= 1) && ks.all (fun t => kExpr t.f))) := by
  rw [<- opt1]
  unfold fit txtFit numFit typFit kFit; simp [h, mrk]
 have e2 : kStmt f = true := by simp [kStmt, h]
 rw [e1, e2, emp]
 first | (simp [Bool.and_comm, Bool.and_left_comm, Bool.and_assoc]; done) | grind
theorem okS_bc (h : t.f.k = 19 ∨ t.f.k = 20) : okS t = (decide (t.ks.length = 0) && emp t.f) := by
 rw [okS, fitT_eq]
 generalize t.f = f at *
 generalize t.ks = ks at *
 have e1 : fit f ks = (decide (f.t.data.toList = []) && f.n == 0 && decide (f.y.data.toList = []) && decide (ks.length = 0)) := by
  unfold fit txtFit numFit typFit kFit
  rcases h with h | h <;> simp [h, mrk]
 have e2 : kStmt f = true := by rcases h with h | h <;> simp [kStmt, h]
 rw [e1, e2, emp]
 by_cases h0 : ks.length = 0
 ·rw [all_nil _ h0, decide_eq_true h0]
  first | (simp [Bool.and_comm, Bool.and_left_comm]; done) | grind
 ·rw [decide_eq_false h0]
  simp
theorem okS_17 (h : t.f.k = 17) : okS t = (decide (t.ks.length = 1) && (t.ks.all fun k => k.f.k == 28 && kNamed k.f && rcall k) && emp t.f) := by
 rw [okS, fitT_eq]
 generalize t.f = f at *
 generalize t.ks = ks at *
 have e1 : fit f ks = (decide (f.t.data.toList = []) && f.n == 0 && decide (f.y.data.toList = []) && (decide (ks.length = 1) && ks.all (fun t => kNCall t.f))) := by
  unfold fit txtFit numFit typFit kFit; simp [h, mrk, mat1]
 have e2 : kStmt f = true := by simp [kStmt, h]
 have e3 : ∀ k : Tr, (kNCall k.f && fitT k) = (k.f.k == 28 && kNamed k.f && rcall k) := fun k => by
  unfold kNCall
  by_cases hk : k.f.k = 28
  ·have e4 : kExpr k.f = true := by simp [kExpr, mrk, kBlank, hk]
   rw [<- okE_28 hk, okE, e4]
   rfl
  ·rw [beq_false_of_ne hk]
   rfl
 have e5 : (ks.all (fun t => kNCall t.f) && ks.all fitT) = ks.all fun k => k.f.k == 28 && kNamed k.f && rcall k := by
  rw [<- all_and]
  congr 1
  funext k
  exact e3 k
 rw [e1, e2, emp, <- e5]
 first | (simp [Bool.and_comm, Bool.and_left_comm, Bool.and_assoc]; done) | grind
def clsOk (kd : Int) (l : List Tr) : Bool := l.all (okC kd) && decide (dfs l <= 1)
theorem cls_eq (kd : Int) (l : List Tr) : (cls kd l && l.all fitT) = clsOk kd l := by
 unfold cls clsOk
 rw [all_and]
 first | (simp [Bool.and_comm, Bool.and_left_comm]; done) | grind
theorem okS_15 (h : t.f.k = 15) : okS t = (emp t.f && clsOk 16 t.ks) := by
 rw [okS, fitT_eq, <- cls_eq]
 generalize t.f = f at *
 generalize t.ks = ks at *
 have e1 : fit f ks = (decide (f.t.data.toList = []) && f.n == 0 && decide (f.y.data.toList = []) && cls 16 ks) := by
  unfold fit txtFit numFit typFit kFit; simp [h, mrk]
 have e2 : kStmt f = true := by simp [kStmt, h]
 rw [e1, e2, emp]
 first | (simp [Bool.and_comm, Bool.and_left_comm, Bool.and_assoc]; done) | grind
theorem sw_fit (h : f.k = 13) : fit f ks = (emn f && (f.n == 0 || f.n == 1) && swFit f ks) := by
 rw [emn]
 unfold fit txtFit numFit typFit kFit; simp [h, mrk]
 first | (simp [Bool.and_comm, Bool.and_left_comm]; done) | grind
theorem okS_13a (h : t.f.k = 13) (hn : t.f.n = 0) : okS t = (emn t.f && clsOk 14 t.ks) := by
 rw [okS, fitT_eq, sw_fit h, <- cls_eq]
 have e2 : kStmt t.f = true := by simp [kStmt, h]
 unfold swFit
 rw [e2, hn]
 first | (simp [Bool.and_assoc]; done) | grind
theorem okS_13b (h : t.f.k = 13) (hn : t.f.n = 1) {e : Tr} (hk : t.ks = e :: r) : okS t = (emn t.f && okE e && clsOk 14 r) := by
 rw [okS, fitT_eq, sw_fit h, <- cls_eq, hk]
 have e2 : kStmt t.f = true := by simp [kStmt, h]
 unfold swFit
 rw [e2, hn]
 simp only [okE, List.all_cons]
 simp
 first | (simp [Bool.and_comm, Bool.and_left_comm]; done) | grind
theorem okS_13n (h : t.f.k = 13) (hn : t.f.n = 1) (hk : t.ks.length = 0) : okS t = false := by
 rw [okS, fitT_eq, sw_fit h, List.eq_nil_of_length_eq_zero hk]
 unfold swFit
 rw [hn]
 simp
theorem okS_13m (h : t.f.k = 13) (h0 : ¬ t.f.n = 0) (h1 : ¬ t.f.n = 1) : okS t = false := by
 rw [okS, fitT_eq, sw_fit h, beq_false_of_ne h0, beq_false_of_ne h1]
 simp
theorem okS_fit (h : kStmt t.f = true) : okS t = fitT t := by rw [okS, h]; rfl
theorem okS_4 (h : t.f.k = 4) : okS t = okB t := by
 have e1 : kStmt t.f = true := by simp [kStmt, h]
 have e2 : kBlock t.f = true := by simp [kBlock, h]
 rw [okS, okB, e1, e2]
theorem okS_simple (h : ∀ z ∈ ([4, 5, 11, 12, 13, 15, 17, 18, 19, 20] : List Int), ¬ t.f.k = z) : okS t = okM t := by
 rw [okS, okM]
 congr 1
 unfold kStmt kSimp
 simp only [List.mem_cons, List.not_mem_nil, or_false, forall_eq_or_imp, forall_eq] at h
 obtain ⟨h4, h5, h11, h12, h13, h15, h17, h18, h19, h20⟩ := h
 rw [beq_false_of_ne h4, beq_false_of_ne h5, beq_false_of_ne h11, beq_false_of_ne h12, beq_false_of_ne h13, beq_false_of_ne h15, beq_false_of_ne h17, beq_false_of_ne h18, beq_false_of_ne h19, beq_false_of_ne h20]
 simp
theorem okP_eq (t : Tr) : okP t = (t.f.k == 3 && kNamed t.f && right t.f.y.data.toList && decide (t.ks.length = 0) && t.f.n == 0) := by
 rw [okP, fitT_eq]
 generalize t.f = f at *
 generalize t.ks = ks at *
 by_cases h : f.k = 3
 ·have e1 : fit f ks = (kNamed f && f.n == 0 && right f.y.data.toList && decide (ks.length = 0)) := by
   unfold fit txtFit numFit typFit kFit; simp [h]
  rw [e1, kParam, h]
  by_cases h0 : ks.length = 0
  ·rw [all_nil _ h0, decide_eq_true h0]
   first | (simp [Bool.and_comm]; done) | grind
  ·rw [decide_eq_false h0]
   simp
 ·rw [kParam, beq_false_of_ne h]
  rfl
theorem okF_2 (h : t.f.k = 2) {x : Tr} (hk : t.ks = r ++ [x]) : okF t = (kNamed t.f && t.f.n == 0 && (decide (t.f.y.data.toList = []) || right t.f.y.data.toList) && r.all okP && okB x) := by
 rw [okF, fitT_eq, hk, all_and]
 have e1 : fit t.f (r ++ [x]) = (kNamed t.f && t.f.n == 0 && (decide (t.f.y.data.toList = []) || right t.f.y.data.toList) && eib (onF kParam) (r ++ [x])) := by
  unfold fit txtFit numFit typFit kFit; simp [h]
 have e2 : kFunc t.f = true := by simp [kFunc, h]
 rw [e1, e2, eib_snoc, List.all_append]
 simp only [okB, List.all_cons, List.all_nil]
 first | (simp [Bool.and_comm, Bool.and_left_comm]; done) | grind
theorem okF_nil (h : t.f.k = 2) (hk : t.ks.length = 0) : okF t = false := by
 rw [okF, fitT_eq, List.eq_nil_of_length_eq_zero hk]
 have e1 : fit t.f [] = false := by unfold fit kFit eib; simp [h]
 rw [e1]
 simp
theorem okF_no (h : ¬ t.f.k = 2) : okF t = false := by rw [okF, kFunc, beq_false_of_ne h]; rfl
theorem file_eq (h : t.f.k = 1) : fitT t = (emp t.f && t.ks.all okF) := by
 rw [fitT_eq, all_and]
 generalize t.f = f at *
 generalize t.ks = ks at *
 have e1 : fit f ks = (decide (f.t.data.toList = []) && f.n == 0 && decide (f.y.data.toList = []) && ks.all (fun t => kFunc t.f)) := by
  unfold fit txtFit numFit typFit kFit; simp [h, mrk]
 rw [e1, emp]
 first | (simp [Bool.and_comm, Bool.and_left_comm, Bool.and_assoc]; done) | grind
end
end Go.Proofs.YtmdhjiammcpogaaGreatDoor
