import Derived.Test.YtmdhjiammcpogaaGreatDoorQ10
namespace Go.Proofs.YtmdhjiammcpogaaGreatDoor
set_option maxRecDepth 100000
set_option maxHeartbeats 16000000
open Go.RowKit
variable {A : Option Addr} {S : Nat -> Prop} {b : Bool} {c n : Nat} {f : Nd} {m : Md} {ts : List Tr} {u : Value} {w : World}
theorem clauses_at {b o : Nat} {kd : Int} (hn : n = ts.length) (hA : 0 < ts.length -> A = some ⟨b, o, none⟩) (hb : S b) (hl : ts.length <= 9223372036854775807) (hc : ts.length <= c) (hr : RowAt w m S b o ts) (hS : ∀ i, S i -> i < w.heap.size) :
 Calls Tryz.prog 65 #[.slice A n c, .int .i64 kd] w fun e w' => e = .returned (.bool (cls kd ts)) /\ Below w.heap.size w w' := by
 subst hn
 exact clauses_is ⟨A, c, b, o, rfl, hl, hc, fun h => ⟨hA h, hb⟩, hr⟩ hS
theorem swFit_is (hK : Lst w m S u ts) (hS : ∀ i, S i -> i < w.heap.size) (h : swFit f ts = b) :
 Calls Tryz.prog 63 #[nv f u] w fun e w' => e = .returned (.bool b) /\ Below w.heap.size w w' := by
 obtain ⟨k, t, n, y, s, a, l⟩ := f
 unfold nv
 unfold swFit at h
 have HL := zz hK
 have HS := zz hS
 obtain ⟨A0, c0, b0, o0, rfl, hla, hcap, hA, hra⟩ := hK
 clear hS
 by_cases cn : n = 0
 ·subst cn
  have E := zz (show cls 14 ts = b from h)
  clear h hA hra
  go_enter Tryz.func63, Tryz.ntmps63
  go_wp2_with fail
  obtain ⟨w1, hw1, HB1, HX1, hs1⟩ := jb w ⟨k, t, 0, y, s, a, l⟩ (.slice A0 ts.length c0)
  simp only at hw1
  rw [hw1]
  clear hw1 HX1
  refine (clauses_is (HL.out.below HB1.out HS.out) (fun i hi => by have := HS.out i hi; omega)).mono ?_
  rintro e w2 ⟨rfl, b2⟩
  rw [E.out]
  have HB2 := zz (HB1.out.trans (b2.mono (by omega)))
  clear b2
  go_wp2
  go_ret
  exact ⟨rfl, HB2.out⟩
 rw [if_neg cn] at h
 have qn := beq_false_of_ne cn
 clear cn
 cases ts with
 | nil =>
  have E := zz (show false = b from h)
  clear h hA hra
  simp only [List.length_nil] at *
  go_enter Tryz.func63, Tryz.ntmps63
  go_wp2
  go_ret
  exact ⟨zb E.out, (box1 _ _).out⟩
 | cons t0 r =>
  obtain ⟨hA1, hb⟩ := hA (by simp)
  subst hA1
  have HR := zz hra.2
  obtain ⟨v', x0, x1, x2, x3, x4, x5, x6, x7, _⟩ := hra.1.open
  have hbw := HS.out b0 hb
  have al : ∀ o j z, w.cell? ⟨b0, j, none⟩ = some z -> (w.alloc o).cell? ⟨b0, j, none⟩ = some z := fun o j z h => (World.cell?_alloc_lt _ _ _ hbw).trans h
  have y0 := fun o => al o _ _ x0
  have y1 := fun o => al o _ _ x1
  have y2 := fun o => al o _ _ x2
  have y3 := fun o => al o _ _ x3
  have y4 := fun o => al o _ _ x4
  have y5 := fun o => al o _ _ x5
  have y6 := fun o => al o _ _ x6
  have y7 := fun o => al o _ _ x7
  rw [List.length_cons] at hla hcap
  simp only [List.length_cons]
  clear al x0 x1 x2 x3 x4 x5 x6 x7 hra hA HL
  cases he : kExpr t0.f
  ·have HE := zz he
   have E := zz (show false = b by rw [<- h]; simp only [he]; rfl)
   clear h he
   go_enter Tryz.func63, Tryz.ntmps63
   go_wp2_with fail
   refine (kExpr_is (f := t0.f) HE.out _).mono ?_
   rintro e w2 ⟨rfl, b2⟩
   have HB2 := zz (((box1 w _).out).trans (b2.mono ((box1 w _).out).size))
   clear b2 y0 y1 y2 y3 y4 y5 y6 y7
   go_wp2
   go_ret
   exact ⟨zb E.out, HB2.out⟩
  ·have HE := zz he
   have E := zz (show cls 14 r = b by rw [<- h]; simp only [he]; rfl)
   clear h he
   have i1 : (1 : Int) <= (c0 : Int) := by omega
   go_enter Tryz.func63, Tryz.ntmps63
   go_wp2_with fail
   obtain ⟨w1, hw1, HB1, HX1, hs1⟩ := jb w ⟨k, t, n, y, s, a, l⟩ (.slice (some ⟨b0, o0, none⟩) (r.length + 1) c0)
   simp only at hw1
   rw [hw1]
   clear hw1
   refine (kExpr_is (f := t0.f) HE.out _).mono ?_
   rintro e w2 ⟨rfl, b2⟩
   have hsz := b2.size
   obtain ⟨x0, x1, x2, x3, x4, x5, x6, x7⟩ := (HX1.out.below b2 (by omega)).cell
   have HB2 := zz (HB1.out.trans (b2.mono (by omega)))
   clear b2 HX1 HB1 y0 y1 y2 y3 y4 y5 y6 y7
   go_wp2_with fail
   all_goals
    refine (clauses_at (ts := r) (b := b0) (o := o0 + 8) ?hn ?hA hb (by omega) (by omega) (HR.out.agree (Agree.of_below HB2.out HS.out) hb) (fun i hi => by have := HS.out i hi; omega)).mono ?_
    case hn => rfl
    case hA => intro h0; first | rfl | (exfalso; omega)
    rintro e w3 ⟨rfl, b3⟩
    rw [E.out]
    have HB3 := zz (HB2.out.trans (b3.mono (by omega)))
    clear b3 x0 x1 x2 x3 x4 x5 x6 x7
    go_wp2
    go_ret
    exact ⟨rfl, HB3.out⟩
theorem match_calld {va : Value} {T : TypeId} {bt : Nat} {cs : Array Value} (gs : List FuncId) (ps : List (Tr -> Bool)) (hbt : bt = w.heap.size) (hnn : n = gs.length) (hcs : cs = (gs.map fv).toArray) (hl : ps.length = gs.length) (hn : gs.length <= 100) (hK : Lst w m S va ts) (hS : ∀ i, S i -> i < w.heap.size) (hf : ∀ g ∈ gs, Enters g) (hg : ∀ j (h1 : j < gs.length) (h2 : j < ts.length) (h3 : j < ps.length), Asks gs[j] m S ps[j] ts[j]) :
 Calls Tryz.prog 55 #[va, .slice (some ⟨bt, 0, none⟩) n c] (w.alloc (.cells cs T)).drew fun e w' => e = .returned (.bool (mat ps ts)) /\ Below w.heap.size w w' := by
 have e1 : (w.alloc (.cells cs T)).drew = w.drew.alloc (.cells cs T) := rfl
 rw [e1]
 refine (match_call (w := w.drew) gs ps hbt hnn hcs hl hn (hK.below (zd w) hS) hS hf hg).mono ?_
 rintro e w' ⟨rfl, b⟩
 exact ⟨rfl, below_undrew b⟩
theorem as_isNamedCall (t : Tr) (hf : NFit t.f) : Asks 67 m S (onF kNCall) t := fun w _ _ _ => kNCall_is hf rfl w
theorem en_isNamedCall : Enters 67 := enters_of Tryz.func67 (by kernel_rfl) (by kernel_rfl)
theorem as_isComm (hm : m.mark = true) (t : Tr) : Asks 66 m S onC t := fun _ _ hK hS => kComm_is (hK.lst hm) hS rfl
theorem en_isComm : Enters 66 := enters_of Tryz.func66 (by kernel_rfl) (by kernel_rfl)
theorem kids_1 (hK : Lst w m S u ts) (hS : ∀ i, S i -> i < w.heap.size) (h : kFit f ts = b) (hk : f.k = 1) :
 Calls Tryz.prog 28 #[nv f u] w fun e w' => e = .returned (.bool b) /\ Below w.heap.size w w' := by
 obtain ⟨k, t, n, y, s, a, l⟩ := f
 unfold nv
 have HL := zz hK
 have HS := zz hS
 obtain ⟨A0, c0, b0, o0, rfl, hla, hcap, hA, hra⟩ := hK
 clear hS hcap hA hra
 obtain rfl : k = 1 := hk
 have E := zz (show ts.all (onF kFunc) = b by rw [<- h]; rfl)
 clear h
 go_enter Tryz.func28, Tryz.ntmps28
 go_wp2_with fail
 obtain ⟨w1, hw1, HB1, HX1, hs1⟩ := jb w ⟨1, t, n, y, s, a, l⟩ (.slice A0 ts.length c0)
 simp only at hw1
 rw [hw1]
 clear hw1
 clear HX1
 refine (each_is (HL.out.below HB1.out HS.out) (fun i hi => by have := HS.out i hi; omega) en_isFunc (fun x _ => as_isFunc x)).mono ?_
 rintro e w9 ⟨rfl, b9⟩
 rw [E.out]
 have HB9 := zz (HB1.out.trans (b9.mono (by omega)))
 clear b9
 go_wp2
 go_ret
 exact ⟨rfl, HB9.out⟩
theorem kids_2 (hK : Lst w m S u ts) (hS : ∀ i, S i -> i < w.heap.size) (h : kFit f ts = b) (hk : f.k = 2) :
 Calls Tryz.prog 28 #[nv f u] w fun e w' => e = .returned (.bool b) /\ Below w.heap.size w w' := by
 obtain ⟨k, t, n, y, s, a, l⟩ := f
 unfold nv
 have HL := zz hK
 have HS := zz hS
 obtain ⟨A0, c0, b0, o0, rfl, hla, hcap, hA, hra⟩ := hK
 clear hS hcap hA hra
 obtain rfl : k = 2 := hk
 have E := zz (show eib (onF kParam) ts = b by rw [<- h]; rfl)
 clear h
 go_enter Tryz.func28, Tryz.ntmps28
 go_wp2_with fail
 obtain ⟨w1, hw1, HB1, HX1, hs1⟩ := jb w ⟨2, t, n, y, s, a, l⟩ (.slice A0 ts.length c0)
 simp only at hw1
 rw [hw1]
 clear hw1
 clear HX1
 refine (ends_is (HL.out.below HB1.out HS.out) (fun i hi => by have := HS.out i hi; omega) en_isParam (fun x _ => as_isParam x)).mono ?_
 rintro e w9 ⟨rfl, b9⟩
 rw [E.out]
 have HB9 := zz (HB1.out.trans (b9.mono (by omega)))
 clear b9
 go_wp2
 go_ret
 exact ⟨rfl, HB9.out⟩
theorem kids_4 (hK : Lst w m S u ts) (hS : ∀ i, S i -> i < w.heap.size) (h : kFit f ts = b) (hk : f.k = 4) :
 Calls Tryz.prog 28 #[nv f u] w fun e w' => e = .returned (.bool b) /\ Below w.heap.size w w' := by
 obtain ⟨k, t, n, y, s, a, l⟩ := f
 unfold nv
 have HL := zz hK
 have HS := zz hS
 obtain ⟨A0, c0, b0, o0, rfl, hla, hcap, hA, hra⟩ := hK
 clear hS hcap hA hra
 obtain rfl : k = 4 := hk
 have E := zz (show ts.all (onF kStmt) = b by rw [<- h]; rfl)
 clear h
 go_enter Tryz.func28, Tryz.ntmps28
 go_wp2_with fail
 obtain ⟨w1, hw1, HB1, HX1, hs1⟩ := jb w ⟨4, t, n, y, s, a, l⟩ (.slice A0 ts.length c0)
 simp only at hw1
 rw [hw1]
 clear hw1
 clear HX1
 refine (each_is (HL.out.below HB1.out HS.out) (fun i hi => by have := HS.out i hi; omega) en_isStatement (fun x _ => as_isStatement x)).mono ?_
 rintro e w9 ⟨rfl, b9⟩
 rw [E.out]
 have HB9 := zz (HB1.out.trans (b9.mono (by omega)))
 clear b9
 go_wp2
 go_ret
 exact ⟨rfl, HB9.out⟩
theorem kids_5 (hK : Lst w m S u ts) (hS : ∀ i, S i -> i < w.heap.size) (h : kFit f ts = b) (hk : f.k = 5) :
 Calls Tryz.prog 28 #[nv f u] w fun e w' => e = .returned (.bool b) /\ Below w.heap.size w w' := by
 obtain ⟨k, t, n, y, s, a, l⟩ := f
 unfold nv
 have HL := zz hK
 have HS := zz hS
 obtain ⟨A0, c0, b0, o0, rfl, hla, hcap, hA, hra⟩ := hK
 clear hS hcap hA hra
 obtain rfl : k = 5 := hk
 by_cases h0 : ts.length = 0
 ·have q0 : ((ts.length : Int) == 0) = true := by rw [h0]; rfl
  have E := zz (show true = b by rw [<- h]; show true = (decide (ts.length = 0) || mat [onF kExpr] ts); rw [decide_eq_true h0]; rfl)
  clear h h0
  go_enter Tryz.func28, Tryz.ntmps28
  go_wp2
  go_ret
  exact ⟨zb E.out, (box1 _ _).out⟩
 ·have q0 : ((ts.length : Int) == 0) = false := beq_false_of_ne (by omega)
  have E := zz (show mat [onF kExpr] ts = b by rw [<- h]; show _ = (decide (ts.length = 0) || mat [onF kExpr] ts); rw [decide_eq_false h0]; rfl)
  clear h h0
  go_enter Tryz.func28, Tryz.ntmps28
  go_wp2_with fail
  obtain ⟨w1, hw1, HB1, HX1, hs1⟩ := jb w ⟨5, t, n, y, s, a, l⟩ (.slice A0 ts.length c0)
  simp only at hw1
  rw [hw1]
  clear hw1
  clear HX1
  refine (match_call [56] [onF kExpr] (by omega) rfl rfl rfl (by simp) (HL.out.below HB1.out HS.out) (fun i hi => by have := HS.out i hi; omega) (List.forall_mem_cons.2 ⟨en_isExpr, (fun _ h => by cases h)⟩) (fun j h1 _ _ => match j, h1 with
   | 0, _ => as_isExpr _
   | _ + 1, h => absurd h (by simp))).mono ?_
  rintro e w9 ⟨rfl, b9⟩
  rw [E.out]
  have HB9 := zz (HB1.out.trans (b9.mono (by omega)))
  clear b9
  go_wp2
  go_ret
  exact ⟨rfl, HB9.out⟩
theorem kids_18 (hK : Lst w m S u ts) (hS : ∀ i, S i -> i < w.heap.size) (h : kFit f ts = b) (hk : f.k = 18) :
 Calls Tryz.prog 28 #[nv f u] w fun e w' => e = .returned (.bool b) /\ Below w.heap.size w w' := by
 obtain ⟨k, t, n, y, s, a, l⟩ := f
 unfold nv
 have HL := zz hK
 have HS := zz hS
 obtain ⟨A0, c0, b0, o0, rfl, hla, hcap, hA, hra⟩ := hK
 clear hS hcap hA hra
 obtain rfl : k = 18 := hk
 by_cases h0 : ts.length = 0
 ·have q0 : ((ts.length : Int) == 0) = true := by rw [h0]; rfl
  have E := zz (show true = b by rw [<- h]; show true = (decide (ts.length = 0) || mat [onF kExpr] ts); rw [decide_eq_true h0]; rfl)
  clear h h0
  go_enter Tryz.func28, Tryz.ntmps28
  go_wp2
  go_ret
  exact ⟨zb E.out, (box1 _ _).out⟩
 ·have q0 : ((ts.length : Int) == 0) = false := beq_false_of_ne (by omega)
  have E := zz (show mat [onF kExpr] ts = b by rw [<- h]; show _ = (decide (ts.length = 0) || mat [onF kExpr] ts); rw [decide_eq_false h0]; rfl)
  clear h h0
  go_enter Tryz.func28, Tryz.ntmps28
  go_wp2_with fail
  obtain ⟨w1, hw1, HB1, HX1, hs1⟩ := jb w ⟨18, t, n, y, s, a, l⟩ (.slice A0 ts.length c0)
  simp only at hw1
  rw [hw1]
  clear hw1
  clear HX1
  refine (match_call [56] [onF kExpr] (by omega) rfl rfl rfl (by simp) (HL.out.below HB1.out HS.out) (fun i hi => by have := HS.out i hi; omega) (List.forall_mem_cons.2 ⟨en_isExpr, (fun _ h => by cases h)⟩) (fun j h1 _ _ => match j, h1 with
   | 0, _ => as_isExpr _
   | _ + 1, h => absurd h (by simp))).mono ?_
  rintro e w9 ⟨rfl, b9⟩
  rw [E.out]
  have HB9 := zz (HB1.out.trans (b9.mono (by omega)))
  clear b9
  go_wp2
  go_ret
  exact ⟨rfl, HB9.out⟩
theorem kids_29 (hK : Lst w m S u ts) (hS : ∀ i, S i -> i < w.heap.size) (h : kFit f ts = b) (hk : f.k = 29) :
 Calls Tryz.prog 28 #[nv f u] w fun e w' => e = .returned (.bool b) /\ Below w.heap.size w w' := by
 obtain ⟨k, t, n, y, s, a, l⟩ := f
 unfold nv
 have HL := zz hK
 have HS := zz hS
 obtain ⟨A0, c0, b0, o0, rfl, hla, hcap, hA, hra⟩ := hK
 clear hS hcap hA hra
 obtain rfl : k = 29 := hk
 by_cases h0 : ts.length = 0
 ·have q0 : ((ts.length : Int) == 0) = true := by rw [h0]; rfl
  have E := zz (show true = b by rw [<- h]; show true = (decide (ts.length = 0) || mat [onF kExpr] ts); rw [decide_eq_true h0]; rfl)
  clear h h0
  go_enter Tryz.func28, Tryz.ntmps28
  go_wp2
  go_ret
  exact ⟨zb E.out, (box1 _ _).out⟩
 ·have q0 : ((ts.length : Int) == 0) = false := beq_false_of_ne (by omega)
  have E := zz (show mat [onF kExpr] ts = b by rw [<- h]; show _ = (decide (ts.length = 0) || mat [onF kExpr] ts); rw [decide_eq_false h0]; rfl)
  clear h h0
  go_enter Tryz.func28, Tryz.ntmps28
  go_wp2_with fail
  obtain ⟨w1, hw1, HB1, HX1, hs1⟩ := jb w ⟨29, t, n, y, s, a, l⟩ (.slice A0 ts.length c0)
  simp only at hw1
  rw [hw1]
  clear hw1
  clear HX1
  refine (match_call [56] [onF kExpr] (by omega) rfl rfl rfl (by simp) (HL.out.below HB1.out HS.out) (fun i hi => by have := HS.out i hi; omega) (List.forall_mem_cons.2 ⟨en_isExpr, (fun _ h => by cases h)⟩) (fun j h1 _ _ => match j, h1 with
   | 0, _ => as_isExpr _
   | _ + 1, h => absurd h (by simp))).mono ?_
  rintro e w9 ⟨rfl, b9⟩
  rw [E.out]
  have HB9 := zz (HB1.out.trans (b9.mono (by omega)))
  clear b9
  go_wp2
  go_ret
  exact ⟨rfl, HB9.out⟩
theorem kids_6 (hK : Lst w m S u ts) (hS : ∀ i, S i -> i < w.heap.size) (h : kFit f ts = b) (hk : f.k = 6) :
 Calls Tryz.prog 28 #[nv f u] w fun e w' => e = .returned (.bool b) /\ Below w.heap.size w w' := by
 obtain ⟨k, t, n, y, s, a, l⟩ := f
 unfold nv
 have HL := zz hK
 have HS := zz hS
 obtain ⟨A0, c0, b0, o0, rfl, hla, hcap, hA, hra⟩ := hK
 clear hS hcap hA hra
 obtain rfl : k = 6 := hk
 have E := zz (show tgFit ⟨6, t, n, y, s, a, l⟩ ts = b by rw [<- h]; rfl)
 clear h
 go_enter Tryz.func28, Tryz.ntmps28
 go_wp2_with fail
 obtain ⟨w1, hw1, HB1, HX1, hs1⟩ := jb w ⟨6, t, n, y, s, a, l⟩ (.slice A0 ts.length c0)
 simp only at hw1
 rw [hw1]
 clear hw1
 clear HX1
 refine (tgFit_is (f := ⟨6, t, n, y, s, a, l⟩) (HL.out.below HB1.out HS.out) (fun i hi => by have := HS.out i hi; omega) rfl).mono ?_
 rintro e w9 ⟨rfl, b9⟩
 rw [E.out]
 have HB9 := zz (HB1.out.trans (b9.mono (by omega)))
 clear b9
 go_wp2
 go_ret
 exact ⟨rfl, HB9.out⟩
theorem kids_7 (hK : Lst w m S u ts) (hS : ∀ i, S i -> i < w.heap.size) (h : kFit f ts = b) (hk : f.k = 7) :
 Calls Tryz.prog 28 #[nv f u] w fun e w' => e = .returned (.bool b) /\ Below w.heap.size w w' := by
 obtain ⟨k, t, n, y, s, a, l⟩ := f
 unfold nv
 have HL := zz hK
 have HS := zz hS
 obtain ⟨A0, c0, b0, o0, rfl, hla, hcap, hA, hra⟩ := hK
 clear hS hcap hA hra
 obtain rfl : k = 7 := hk
 have E := zz (show tgFit ⟨7, t, n, y, s, a, l⟩ ts = b by rw [<- h]; rfl)
 clear h
 go_enter Tryz.func28, Tryz.ntmps28
 go_wp2_with fail
 obtain ⟨w1, hw1, HB1, HX1, hs1⟩ := jb w ⟨7, t, n, y, s, a, l⟩ (.slice A0 ts.length c0)
 simp only at hw1
 rw [hw1]
 clear hw1
 clear HX1
 refine (tgFit_is (f := ⟨7, t, n, y, s, a, l⟩) (HL.out.below HB1.out HS.out) (fun i hi => by have := HS.out i hi; omega) rfl).mono ?_
 rintro e w9 ⟨rfl, b9⟩
 rw [E.out]
 have HB9 := zz (HB1.out.trans (b9.mono (by omega)))
 clear b9
 go_wp2
 go_ret
 exact ⟨rfl, HB9.out⟩
theorem kids_8 (hK : Lst w m S u ts) (hS : ∀ i, S i -> i < w.heap.size) (h : kFit f ts = b) (hk : f.k = 8) :
 Calls Tryz.prog 28 #[nv f u] w fun e w' => e = .returned (.bool b) /\ Below w.heap.size w w' := by
 obtain ⟨k, t, n, y, s, a, l⟩ := f
 unfold nv
 have HL := zz hK
 have HS := zz hS
 obtain ⟨A0, c0, b0, o0, rfl, hla, hcap, hA, hra⟩ := hK
 clear hS hcap hA hra
 obtain rfl : k = 8 := hk
 have E := zz (show mat [onF kOwn] ts = b by rw [<- h]; rfl)
 clear h
 go_enter Tryz.func28, Tryz.ntmps28
 go_wp2_with fail
 obtain ⟨w1, hw1, HB1, HX1, hs1⟩ := jb w ⟨8, t, n, y, s, a, l⟩ (.slice A0 ts.length c0)
 simp only at hw1
 rw [hw1]
 clear hw1
 clear HX1
 refine (match_call [58] [onF kOwn] (by omega) rfl rfl rfl (by simp) (HL.out.below HB1.out HS.out) (fun i hi => by have := HS.out i hi; omega) (List.forall_mem_cons.2 ⟨en_isOwnName, (fun _ h => by cases h)⟩) (fun j h1 _ _ => match j, h1 with
  | 0, _ => as_isOwnName _
  | _ + 1, h => absurd h (by simp))).mono ?_
 rintro e w9 ⟨rfl, b9⟩
 rw [E.out]
 have HB9 := zz (HB1.out.trans (b9.mono (by omega)))
 clear b9
 go_wp2
 go_ret
 exact ⟨rfl, HB9.out⟩
theorem kids_9 (hK : Lst w m S u ts) (hS : ∀ i, S i -> i < w.heap.size) (h : kFit f ts = b) (hk : f.k = 9) :
 Calls Tryz.prog 28 #[nv f u] w fun e w' => e = .returned (.bool b) /\ Below w.heap.size w w' := by
 obtain ⟨k, t, n, y, s, a, l⟩ := f
 unfold nv
 have HL := zz hK
 have HS := zz hS
 obtain ⟨A0, c0, b0, o0, rfl, hla, hcap, hA, hra⟩ := hK
 clear hS hcap hA hra
 obtain rfl : k = 9 := hk
 have E := zz (show mat [onF kExpr, onF kExpr] ts = b by rw [<- h]; rfl)
 clear h
 go_enter Tryz.func28, Tryz.ntmps28
 go_wp2_with fail
 obtain ⟨w1, hw1, HB1, HX1, hs1⟩ := jb w ⟨9, t, n, y, s, a, l⟩ (.slice A0 ts.length c0)
 simp only at hw1
 rw [hw1]
 clear hw1
 clear HX1
 refine (match_call [56, 56] [onF kExpr, onF kExpr] (by omega) rfl rfl rfl (by simp) (HL.out.below HB1.out HS.out) (fun i hi => by have := HS.out i hi; omega) (List.forall_mem_cons.2 ⟨en_isExpr, (List.forall_mem_cons.2 ⟨en_isExpr, (fun _ h => by cases h)⟩)⟩) (fun j h1 _ _ => match j, h1 with
  | 0, _ => as_isExpr _
  | 1, _ => as_isExpr _
  | _ + 2, h => absurd h (by simp))).mono ?_
 rintro e w9 ⟨rfl, b9⟩
 rw [E.out]
 have HB9 := zz (HB1.out.trans (b9.mono (by omega)))
 clear b9
 go_wp2
 go_ret
 exact ⟨rfl, HB9.out⟩
theorem kids_27 (hK : Lst w m S u ts) (hS : ∀ i, S i -> i < w.heap.size) (h : kFit f ts = b) (hk : f.k = 27) :
 Calls Tryz.prog 28 #[nv f u] w fun e w' => e = .returned (.bool b) /\ Below w.heap.size w w' := by
 obtain ⟨k, t, n, y, s, a, l⟩ := f
 unfold nv
 have HL := zz hK
 have HS := zz hS
 obtain ⟨A0, c0, b0, o0, rfl, hla, hcap, hA, hra⟩ := hK
 clear hS hcap hA hra
 obtain rfl : k = 27 := hk
 have E := zz (show mat [onF kExpr, onF kExpr] ts = b by rw [<- h]; rfl)
 clear h
 go_enter Tryz.func28, Tryz.ntmps28
 go_wp2_with fail
 obtain ⟨w1, hw1, HB1, HX1, hs1⟩ := jb w ⟨27, t, n, y, s, a, l⟩ (.slice A0 ts.length c0)
 simp only at hw1
 rw [hw1]
 clear hw1
 clear HX1
 refine (match_call [56, 56] [onF kExpr, onF kExpr] (by omega) rfl rfl rfl (by simp) (HL.out.below HB1.out HS.out) (fun i hi => by have := HS.out i hi; omega) (List.forall_mem_cons.2 ⟨en_isExpr, (List.forall_mem_cons.2 ⟨en_isExpr, (fun _ h => by cases h)⟩)⟩) (fun j h1 _ _ => match j, h1 with
  | 0, _ => as_isExpr _
  | 1, _ => as_isExpr _
  | _ + 2, h => absurd h (by simp))).mono ?_
 rintro e w9 ⟨rfl, b9⟩
 rw [E.out]
 have HB9 := zz (HB1.out.trans (b9.mono (by omega)))
 clear b9
 go_wp2
 go_ret
 exact ⟨rfl, HB9.out⟩
theorem kids_10 (hK : Lst w m S u ts) (hS : ∀ i, S i -> i < w.heap.size) (h : kFit f ts = b) (hk : f.k = 10) :
 Calls Tryz.prog 28 #[nv f u] w fun e w' => e = .returned (.bool b) /\ Below w.heap.size w w' := by
 obtain ⟨k, t, n, y, s, a, l⟩ := f
 unfold nv
 have HL := zz hK
 have HS := zz hS
 obtain ⟨A0, c0, b0, o0, rfl, hla, hcap, hA, hra⟩ := hK
 clear hS hcap hA hra
 obtain rfl : k = 10 := hk
 have E := zz (show mat [onF kDo] ts = b by rw [<- h]; rfl)
 clear h
 go_enter Tryz.func28, Tryz.ntmps28
 go_wp2_with fail
 obtain ⟨w1, hw1, HB1, HX1, hs1⟩ := jb w ⟨10, t, n, y, s, a, l⟩ (.slice A0 ts.length c0)
 simp only at hw1
 rw [hw1]
 clear hw1
 clear HX1
 refine (match_call [59] [onF kDo] (by omega) rfl rfl rfl (by simp) (HL.out.below HB1.out HS.out) (fun i hi => by have := HS.out i hi; omega) (List.forall_mem_cons.2 ⟨en_isDoable, (fun _ h => by cases h)⟩) (fun j h1 _ _ => match j, h1 with
  | 0, _ => as_isDoable _
  | _ + 1, h => absurd h (by simp))).mono ?_
 rintro e w9 ⟨rfl, b9⟩
 rw [E.out]
 have HB9 := zz (HB1.out.trans (b9.mono (by omega)))
 clear b9
 go_wp2
 go_ret
 exact ⟨rfl, HB9.out⟩
theorem kids_11 (hK : Lst w m S u ts) (hS : ∀ i, S i -> i < w.heap.size) (h : kFit f ts = b) (hk : f.k = 11) :
 Calls Tryz.prog 28 #[nv f u] w fun e w' => e = .returned (.bool b) /\ Below w.heap.size w w' := by
 obtain ⟨k, t, n, y, s, a, l⟩ := f
 unfold nv
 have HL := zz hK
 have HS := zz hS
 obtain ⟨A0, c0, b0, o0, rfl, hla, hcap, hA, hra⟩ := hK
 clear hS hcap hA hra
 obtain rfl : k = 11 := hk
 cases hM : mat [onF kExpr, onF kBlock] ts
 ·have HM := zz hM
  have E := zz (show mat [onF kExpr, onF kBlock, onF kElse] ts = b by rw [<- h]; show _ = (mat [onF kExpr, onF kBlock] ts || mat [onF kExpr, onF kBlock, onF kElse] ts); rw [hM]; rfl)
  clear h hM
  go_enter Tryz.func28, Tryz.ntmps28
  go_wp2_with fail
  obtain ⟨w1, hw1, HB1, HX1, hs1⟩ := jb w ⟨11, t, n, y, s, a, l⟩ (.slice A0 ts.length c0)
  simp only at hw1
  rw [hw1]
  clear hw1
  clear HX1
  refine (match_call [56, 60] [onF kExpr, onF kBlock] (by omega) rfl rfl rfl (by simp) (HL.out.below HB1.out HS.out) (fun i hi => by have := HS.out i hi; omega) (List.forall_mem_cons.2 ⟨en_isExpr, (List.forall_mem_cons.2 ⟨en_isBlock, (fun _ h => by cases h)⟩)⟩) (fun j h1 _ _ => match j, h1 with
   | 0, _ => as_isExpr _
   | 1, _ => as_isBlock _
   | _ + 2, h => absurd h (by simp))).mono ?_
  rintro e w2 ⟨rfl, b2⟩
  rw [HM.out]
  have hsz := b2.size
  have HB2 := zz (HB1.out.trans (b2.mono (by omega)))
  clear b2 HB1
  go_wp2_with fail
  refine (match_call [56, 60, 61] [onF kExpr, onF kBlock, onF kElse] (by omega) rfl rfl rfl (by simp) (HL.out.below HB2.out HS.out) (fun i hi => by have := HS.out i hi; omega) (List.forall_mem_cons.2 ⟨en_isExpr, (List.forall_mem_cons.2 ⟨en_isBlock, (List.forall_mem_cons.2 ⟨en_isElse, (fun _ h => by cases h)⟩)⟩)⟩) (fun j h1 _ _ => match j, h1 with
   | 0, _ => as_isExpr _
   | 1, _ => as_isBlock _
   | 2, _ => as_isElse _
   | _ + 3, h => absurd h (by simp))).mono ?_
  rintro e w9 ⟨rfl, b9⟩
  rw [E.out]
  have HB9 := zz (HB2.out.trans (b9.mono (by omega)))
  clear b9
  go_wp2
  go_ret
  exact ⟨rfl, HB9.out⟩
 ·have HM := zz hM
  have E := zz (show true = b by rw [<- h]; show _ = (mat [onF kExpr, onF kBlock] ts || mat [onF kExpr, onF kBlock, onF kElse] ts); rw [hM]; rfl)
  clear h hM
  go_enter Tryz.func28, Tryz.ntmps28
  go_wp2_with fail
  obtain ⟨w1, hw1, HB1, HX1, hs1⟩ := jb w ⟨11, t, n, y, s, a, l⟩ (.slice A0 ts.length c0)
  simp only at hw1
  rw [hw1]
  clear hw1
  clear HX1
  refine (match_call [56, 60] [onF kExpr, onF kBlock] (by omega) rfl rfl rfl (by simp) (HL.out.below HB1.out HS.out) (fun i hi => by have := HS.out i hi; omega) (List.forall_mem_cons.2 ⟨en_isExpr, (List.forall_mem_cons.2 ⟨en_isBlock, (fun _ h => by cases h)⟩)⟩) (fun j h1 _ _ => match j, h1 with
   | 0, _ => as_isExpr _
   | 1, _ => as_isBlock _
   | _ + 2, h => absurd h (by simp))).mono ?_
  rintro e w2 ⟨rfl, b2⟩
  rw [HM.out]
  have HB2 := zz (HB1.out.trans (b2.mono (by omega)))
  clear b2 HB1
  go_wp2
  go_ret
  exact ⟨zb E.out, HB2.out⟩
theorem kids_12 (hK : Lst w m S u ts) (hS : ∀ i, S i -> i < w.heap.size) (h : kFit f ts = b) (hk : f.k = 12) :
 Calls Tryz.prog 28 #[nv f u] w fun e w' => e = .returned (.bool b) /\ Below w.heap.size w w' := by
 obtain ⟨k, t, n, y, s, a, l⟩ := f
 unfold nv
 have HL := zz hK
 have HS := zz hS
 obtain ⟨A0, c0, b0, o0, rfl, hla, hcap, hA, hra⟩ := hK
 clear hS hcap hA hra
 obtain rfl : k = 12 := hk
 have E := zz (show hdFit ⟨12, t, n, y, s, a, l⟩ ts = b by rw [<- h]; rfl)
 clear h
 go_enter Tryz.func28, Tryz.ntmps28
 go_wp2_with fail
 obtain ⟨w1, hw1, HB1, HX1, hs1⟩ := jb w ⟨12, t, n, y, s, a, l⟩ (.slice A0 ts.length c0)
 simp only at hw1
 rw [hw1]
 clear hw1
 clear HX1
 refine (hdFit_is (f := ⟨12, t, n, y, s, a, l⟩) (HL.out.below HB1.out HS.out) (fun i hi => by have := HS.out i hi; omega) rfl).mono ?_
 rintro e w9 ⟨rfl, b9⟩
 rw [E.out]
 have HB9 := zz (HB1.out.trans (b9.mono (by omega)))
 clear b9
 go_wp2
 go_ret
 exact ⟨rfl, HB9.out⟩
theorem kids_13 (hK : Lst w m S u ts) (hS : ∀ i, S i -> i < w.heap.size) (h : kFit f ts = b) (hk : f.k = 13) :
 Calls Tryz.prog 28 #[nv f u] w fun e w' => e = .returned (.bool b) /\ Below w.heap.size w w' := by
 obtain ⟨k, t, n, y, s, a, l⟩ := f
 unfold nv
 have HL := zz hK
 have HS := zz hS
 obtain ⟨A0, c0, b0, o0, rfl, hla, hcap, hA, hra⟩ := hK
 clear hS hcap hA hra
 obtain rfl : k = 13 := hk
 have E := zz (show swFit ⟨13, t, n, y, s, a, l⟩ ts = b by rw [<- h]; rfl)
 clear h
 go_enter Tryz.func28, Tryz.ntmps28
 go_wp2_with fail
 obtain ⟨w1, hw1, HB1, HX1, hs1⟩ := jb w ⟨13, t, n, y, s, a, l⟩ (.slice A0 ts.length c0)
 simp only at hw1
 rw [hw1]
 clear hw1
 clear HX1
 refine (swFit_is (f := ⟨13, t, n, y, s, a, l⟩) (HL.out.below HB1.out HS.out) (fun i hi => by have := HS.out i hi; omega) rfl).mono ?_
 rintro e w9 ⟨rfl, b9⟩
 rw [E.out]
 have HB9 := zz (HB1.out.trans (b9.mono (by omega)))
 clear b9
 go_wp2
 go_ret
 exact ⟨rfl, HB9.out⟩
theorem kids_14 (hK : Lst w m S u ts) (hS : ∀ i, S i -> i < w.heap.size) (h : kFit f ts = b) (hk : f.k = 14) :
 Calls Tryz.prog 28 #[nv f u] w fun e w' => e = .returned (.bool b) /\ Below w.heap.size w w' := by
 obtain ⟨k, t, n, y, s, a, l⟩ := f
 unfold nv
 have HL := zz hK
 have HS := zz hS
 obtain ⟨A0, c0, b0, o0, rfl, hla, hcap, hA, hra⟩ := hK
 clear hS hcap hA hra
 obtain rfl : k = 14 := hk
 by_cases h1 : 1 < ts.length
 ·have q1 : decide (1 < (ts.length : Int)) = true := decide_eq_true (by omega)
  have E := zz (show clFit ⟨14, t, n, y, s, a, l⟩ ts (eib (onF kExpr) ts) = b by rw [<- h]; show _ = clFit _ ts (decide (1 < ts.length) && eib (onF kExpr) ts); rw [decide_eq_true h1]; rfl)
  clear h h1
  go_enter Tryz.func28, Tryz.ntmps28
  go_wp2
  obtain ⟨w1, hw1, HB1, HX1, hs1⟩ := jb w ⟨14, t, n, y, s, a, l⟩ (.slice A0 ts.length c0)
  simp only at hw1
  rw [hw1]
  clear hw1
  have HLw := zz (HL.out.below HB1.out HS.out)
  refine wp_region_held_drew (S := Below w1.heap.size w1) (by kernel_rfl) ?_ (fun zk => ?_)
  ·exact zd _
  apply tk 0 o69_ rfl (by kernel_rfl) (fun _ _ _ h => h) zk
  ·intro wq zq
   have x0 := (HX1.out.below zq (by omega)).cell
   go_simp
   try rfl
  go_frame
  apply tk 1 o70_ rfl (by kernel_rfl) (fun _ _ _ h => h) zk
  ·intro wq zq
   go_simp
   try rfl
  go_frame
  apply tk 2 o71_ rfl (by kernel_rfl) (fun _ _ _ h => h) zk
  ·intro wq zq
   go_simp
   try rfl
  go_frame
  apply tk 3 o72_ rfl (by kernel_rfl) (fun _ _ _ h => h) zk
  ·intro wq zq
   go_simp
   try rfl
  go_frame
  apply tk 4 o73_ rfl (by kernel_rfl) (fun _ _ _ h => h) zk
  ·intro wq zq
   go_simp
   try rfl
  go_frame
  apply tk 5 o74_ rfl (by kernel_rfl) (fun _ _ _ h => h) zk
  ·intro wq zq
   go_simp
   try rfl
  go_frame
  refine rd 6 o75_ rfl (by kernel_rfl) fun K hK => ?_
  go_simp
  refine (ends_is (HLw.out.below zk (fun i hi => by have := HS.out i hi; omega)) (fun i hi => by have := HS.out i hi; have := zk.size; omega) en_isExpr (fun x _ => as_isExpr x)).mono ?_
  rintro e w5 ⟨rfl, b5⟩
  have HB5 := bt2 (zz zk) b5
  clear b5
  go_wp2_with fail
  refine hK.out _ _ ?_ (fun zk => ?_)
  ·exact HB5.out
  clear hK K
  try go_frame
  apply tk 7 o76_ rfl (by kernel_rfl) (fun _ _ _ h => h) zk
  ·intro wq zq
   go_simp
   try rfl
  go_frame
  refine rd 8 o77_ rfl (by kernel_rfl) fun K hK => ?_
  go_simp
  refine (clFit_is (f := ⟨14, t, n, y, s, a, l⟩) (fc := (eib (onF kExpr) ts)) (HLw.out.below zk (fun i hi => by have := HS.out i hi; omega)) (fun i hi => by have := HS.out i hi; have := zk.size; omega) E.out).mono ?_
  rintro e w8 ⟨rfl, b8⟩
  have HB8 := bt2 (zz zk) b8
  clear b8
  go_wp2_with fail
  refine hK.out _ _ ?_ (fun zk => ?_)
  ·exact HB8.out
  clear hK K
  try go_frame
  apply tk 9 o78_ rfl (by kernel_rfl) (fun _ _ _ h => h) zk
  ·intro wq zq
   go_simp
   try rfl
  go_frame
  refine wpAnyH_done (by kernel_rfl) ?_ _
  have HB9 := zz (HB1.out.trans (zk.mono (by omega)))
  go_wp2
  go_ret
  exact ⟨rfl, HB9.out⟩
 ·have q1 : decide (1 < (ts.length : Int)) = false := decide_eq_false (by omega)
  have E := zz (show clFit ⟨14, t, n, y, s, a, l⟩ ts false = b by rw [<- h]; show _ = clFit _ ts (decide (1 < ts.length) && eib (onF kExpr) ts); rw [decide_eq_false h1]; rfl)
  clear h h1
  go_enter Tryz.func28, Tryz.ntmps28
  go_wp2
  obtain ⟨w1, hw1, HB1, HX1, hs1⟩ := jb w ⟨14, t, n, y, s, a, l⟩ (.slice A0 ts.length c0)
  simp only at hw1
  rw [hw1]
  clear hw1
  have HLw := zz (HL.out.below HB1.out HS.out)
  refine wp_region_held_drew (S := Below w1.heap.size w1) (by kernel_rfl) ?_ (fun zk => ?_)
  ·exact zd _
  apply tk 0 o69_ rfl (by kernel_rfl) (fun _ _ _ h => h) zk
  ·intro wq zq
   have x0 := (HX1.out.below zq (by omega)).cell
   go_simp
   try rfl
  go_frame
  apply tk 1 o70_ rfl (by kernel_rfl) (fun _ _ _ h => h) zk
  ·intro wq zq
   go_simp
   try rfl
  go_frame
  apply tk 2 o71_ rfl (by kernel_rfl) (fun _ _ _ h => h) zk
  ·intro wq zq
   go_simp
   try rfl
  go_frame
  apply tk 3 o72_ rfl (by kernel_rfl) (fun _ _ _ h => h) zk
  ·intro wq zq
   go_simp
   try rfl
  go_frame
  apply tk 4 o73_ rfl (by kernel_rfl) (fun _ _ _ h => h) zk
  ·intro wq zq
   go_simp
   try rfl
  go_frame
  refine sk 5 o74_ rfl (by kernel_rfl) (fun _ _ _ h => h) zk ?_
  go_frame
  refine sk 6 o75_ rfl (by kernel_rfl) (fun _ _ _ h => h) zk ?_
  go_frame
  apply tk 7 o76_ rfl (by kernel_rfl) (fun _ _ _ h => h) zk
  ·intro wq zq
   go_simp
   try rfl
  go_frame
  refine rd 8 o77_ rfl (by kernel_rfl) fun K hK => ?_
  go_simp
  refine (clFit_is (f := ⟨14, t, n, y, s, a, l⟩) (fc := false) (HLw.out.below zk (fun i hi => by have := HS.out i hi; omega)) (fun i hi => by have := HS.out i hi; have := zk.size; omega) E.out).mono ?_
  rintro e w8 ⟨rfl, b8⟩
  have HB8 := bt2 (zz zk) b8
  clear b8
  go_wp2_with fail
  refine hK.out _ _ ?_ (fun zk => ?_)
  ·exact HB8.out
  clear hK K
  try go_frame
  apply tk 9 o78_ rfl (by kernel_rfl) (fun _ _ _ h => h) zk
  ·intro wq zq
   go_simp
   try rfl
  go_frame
  refine wpAnyH_done (by kernel_rfl) ?_ _
  have HB9 := zz (HB1.out.trans (zk.mono (by omega)))
  go_wp2
  go_ret
  exact ⟨rfl, HB9.out⟩
theorem kids_15 (hK : Lst w m S u ts) (hS : ∀ i, S i -> i < w.heap.size) (h : kFit f ts = b) (hk : f.k = 15) :
 Calls Tryz.prog 28 #[nv f u] w fun e w' => e = .returned (.bool b) /\ Below w.heap.size w w' := by
 obtain ⟨k, t, n, y, s, a, l⟩ := f
 unfold nv
 have HL := zz hK
 have HS := zz hS
 obtain ⟨A0, c0, b0, o0, rfl, hla, hcap, hA, hra⟩ := hK
 clear hS hcap hA hra
 obtain rfl : k = 15 := hk
 have E := zz (show cls 16 ts = b by rw [<- h]; rfl)
 clear h
 go_enter Tryz.func28, Tryz.ntmps28
 go_wp2_with fail
 obtain ⟨w1, hw1, HB1, HX1, hs1⟩ := jb w ⟨15, t, n, y, s, a, l⟩ (.slice A0 ts.length c0)
 simp only at hw1
 rw [hw1]
 clear hw1
 clear HX1
 refine (clauses_is (HL.out.below HB1.out HS.out) (fun i hi => by have := HS.out i hi; omega)).mono ?_
 rintro e w9 ⟨rfl, b9⟩
 rw [E.out]
 have HB9 := zz (HB1.out.trans (b9.mono (by omega)))
 clear b9
 go_wp2
 go_ret
 exact ⟨rfl, HB9.out⟩
theorem kids_16 (hm : m.mark = true) (hK : Lst w m S u ts) (hS : ∀ i, S i -> i < w.heap.size) (h : kFit f ts = b) (hk : f.k = 16) :
 Calls Tryz.prog 28 #[nv f u] w fun e w' => e = .returned (.bool b) /\ Below w.heap.size w w' := by
 obtain ⟨k, t, n, y, s, a, l⟩ := f
 unfold nv
 have HL := zz hK
 have HS := zz hS
 obtain ⟨A0, c0, b0, o0, rfl, hla, hcap, hA, hra⟩ := hK
 clear hS hcap hA hra
 obtain rfl : k = 16 := hk
 have E := zz (show clFit ⟨16, t, n, y, s, a, l⟩ ts (mat [onC, onF kBlock] ts) = b by rw [<- h]; rfl)
 clear h
 go_enter Tryz.func28, Tryz.ntmps28
 go_wp2
 obtain ⟨w1, hw1, HB1, HX1, hs1⟩ := jb w ⟨16, t, n, y, s, a, l⟩ (.slice A0 ts.length c0)
 simp only at hw1
 rw [hw1]
 clear hw1
 have HLw := zz (HL.out.below HB1.out HS.out)
 refine wp_region_held_drew (S := Below w1.heap.size w1) (by kernel_rfl) ?_ (fun zk => ?_)
 ·exact zd _
 apply tk 0 o79_ rfl (by kernel_rfl) (fun _ _ _ h => h) zk
 ·intro wq zq
  have x0 := (HX1.out.below zq (by omega)).cell
  go_simp
  try rfl
 go_frame
 apply tk 1 o80_ rfl (by kernel_rfl) (fun _ _ _ h => h) zk
 ·intro wq zq
  go_simp
  try rfl
 go_frame
 refine rd 2 o81_ rfl (by kernel_rfl) fun K hK => ?_
 go_simp
 refine hK.out _ _ ?_ (fun zk => ?_)
 ·exact zk.alloc zk.size _
 clear hK K
 try go_frame
 refine rd 3 o82_ rfl (by kernel_rfl) fun K hK => ?_
 go_simp
 refine (match_calld [66, 60] [onC, onF kBlock] (by omega) rfl rfl rfl (by simp) HLw.out (fun i hi => by have := HS.out i hi; omega) (List.forall_mem_cons.2 ⟨en_isComm, (List.forall_mem_cons.2 ⟨en_isBlock, (fun _ h => by cases h)⟩)⟩) (fun j h1 _ _ => match j, h1 with
  | 0, _ => as_isComm hm _
  | 1, _ => as_isBlock _
  | _ + 2, h => absurd h (by simp))).mono ?_
 rintro e w5 ⟨rfl, b5⟩
 have HB5 := zz b5
 clear b5
 go_wp2_with fail
 refine hK.out _ _ ?_ (fun zk => ?_)
 ·exact HB5.out
 clear hK K
 try go_frame
 refine rd 4 o83_ rfl (by kernel_rfl) fun K hK => ?_
 go_simp
 refine (clFit_is (f := ⟨16, t, n, y, s, a, l⟩) (fc := mat [onC, onF kBlock] ts) (HLw.out.below zk (fun i hi => by have := HS.out i hi; omega)) (fun i hi => by have := HS.out i hi; have := zk.size; omega) E.out).mono ?_
 rintro e w8 ⟨rfl, b8⟩
 have HB8 := bt2 (zz zk) b8
 clear b8
 go_wp2_with fail
 refine hK.out _ _ ?_ (fun zk => ?_)
 ·exact HB8.out
 clear hK K
 try go_frame
 apply tk 5 o84_ rfl (by kernel_rfl) (fun _ _ _ h => h) zk
 ·intro wq zq
  go_simp
  try rfl
 go_frame
 refine wpAnyH_done (by kernel_rfl) ?_ _
 have HB9 := zz (HB1.out.trans (zk.mono (by omega)))
 go_wp2
 go_ret
 exact ⟨rfl, HB9.out⟩
theorem kids_17 (hF : AllFs ts) (hK : Lst w m S u ts) (hS : ∀ i, S i -> i < w.heap.size) (h : kFit f ts = b) (hk : f.k = 17) :
 Calls Tryz.prog 28 #[nv f u] w fun e w' => e = .returned (.bool b) /\ Below w.heap.size w w' := by
 obtain ⟨k, t, n, y, s, a, l⟩ := f
 unfold nv
 have HL := zz hK
 have HS := zz hS
 have HF := zz hF
 obtain ⟨A0, c0, b0, o0, rfl, hla, hcap, hA, hra⟩ := hK
 clear hS hF hcap hA hra
 obtain rfl : k = 17 := hk
 have E := zz (show mat [onF kNCall] ts = b by rw [<- h]; rfl)
 clear h
 go_enter Tryz.func28, Tryz.ntmps28
 go_wp2_with fail
 obtain ⟨w1, hw1, HB1, HX1, hs1⟩ := jb w ⟨17, t, n, y, s, a, l⟩ (.slice A0 ts.length c0)
 simp only at hw1
 rw [hw1]
 clear hw1
 clear HX1
 refine (match_call [67] [onF kNCall] (by omega) rfl rfl rfl (by simp) (HL.out.below HB1.out HS.out) (fun i hi => by have := HS.out i hi; omega) (List.forall_mem_cons.2 ⟨en_isNamedCall, (fun _ h => by cases h)⟩) (fun j h1 _ _ => match j, h1 with
  | 0, _ => as_isNamedCall _ (AllFs.get HF.out _ (List.getElem_mem _)).nf
  | _ + 1, h => absurd h (by simp))).mono ?_
 rintro e w9 ⟨rfl, b9⟩
 rw [E.out]
 have HB9 := zz (HB1.out.trans (b9.mono (by omega)))
 clear b9
 go_wp2
 go_ret
 exact ⟨rfl, HB9.out⟩
theorem kids_26 (hK : Lst w m S u ts) (hS : ∀ i, S i -> i < w.heap.size) (h : kFit f ts = b) (hk : f.k = 26) :
 Calls Tryz.prog 28 #[nv f u] w fun e w' => e = .returned (.bool b) /\ Below w.heap.size w w' := by
 obtain ⟨k, t, n, y, s, a, l⟩ := f
 unfold nv
 have HL := zz hK
 have HS := zz hS
 obtain ⟨A0, c0, b0, o0, rfl, hla, hcap, hA, hra⟩ := hK
 clear hS hcap hA hra
 obtain rfl : k = 26 := hk
 have E := zz (show mat [onF kExpr] ts = b by rw [<- h]; rfl)
 clear h
 go_enter Tryz.func28, Tryz.ntmps28
 go_wp2_with fail
 obtain ⟨w1, hw1, HB1, HX1, hs1⟩ := jb w ⟨26, t, n, y, s, a, l⟩ (.slice A0 ts.length c0)
 simp only at hw1
 rw [hw1]
 clear hw1
 clear HX1
 refine (match_call [56] [onF kExpr] (by omega) rfl rfl rfl (by simp) (HL.out.below HB1.out HS.out) (fun i hi => by have := HS.out i hi; omega) (List.forall_mem_cons.2 ⟨en_isExpr, (fun _ h => by cases h)⟩) (fun j h1 _ _ => match j, h1 with
  | 0, _ => as_isExpr _
  | _ + 1, h => absurd h (by simp))).mono ?_
 rintro e w9 ⟨rfl, b9⟩
 rw [E.out]
 have HB9 := zz (HB1.out.trans (b9.mono (by omega)))
 clear b9
 go_wp2
 go_ret
 exact ⟨rfl, HB9.out⟩
theorem kids_28 (hK : Lst w m S u ts) (hS : ∀ i, S i -> i < w.heap.size) (h : kFit f ts = b) (hk : f.k = 28) :
 Calls Tryz.prog 28 #[nv f u] w fun e w' => e = .returned (.bool b) /\ Below w.heap.size w w' := by
 obtain ⟨k, t, n, y, s, a, l⟩ := f
 unfold nv
 have HL := zz hK
 have HS := zz hS
 obtain ⟨A0, c0, b0, o0, rfl, hla, hcap, hA, hra⟩ := hK
 clear hS hcap hA hra
 obtain rfl : k = 28 := hk
 have E := zz (show argFit ⟨28, t, n, y, s, a, l⟩ ts = b by rw [<- h]; rfl)
 clear h
 go_enter Tryz.func28, Tryz.ntmps28
 go_wp2_with fail
 obtain ⟨w1, hw1, HB1, HX1, hs1⟩ := jb w ⟨28, t, n, y, s, a, l⟩ (.slice A0 ts.length c0)
 simp only at hw1
 rw [hw1]
 clear hw1
 clear HX1
 refine (argFit_is (f := ⟨28, t, n, y, s, a, l⟩) (HL.out.below HB1.out HS.out) (fun i hi => by have := HS.out i hi; omega) rfl).mono ?_
 rintro e w9 ⟨rfl, b9⟩
 rw [E.out]
 have HB9 := zz (HB1.out.trans (b9.mono (by omega)))
 clear b9
 go_wp2
 go_ret
 exact ⟨rfl, HB9.out⟩
theorem kids_30 (hK : Lst w m S u ts) (hS : ∀ i, S i -> i < w.heap.size) (h : kFit f ts = b) (hk : f.k = 30) :
 Calls Tryz.prog 28 #[nv f u] w fun e w' => e = .returned (.bool b) /\ Below w.heap.size w w' := by
 obtain ⟨k, t, n, y, s, a, l⟩ := f
 unfold nv
 have HL := zz hK
 have HS := zz hS
 obtain ⟨A0, c0, b0, o0, rfl, hla, hcap, hA, hra⟩ := hK
 clear hS hcap hA hra
 obtain rfl : k = 30 := hk
 by_cases h0 : 0 < ts.length
 ·have q0 : decide (0 < (ts.length : Int)) = true := decide_eq_true (by omega)
  have E := zz (show ts.all (onF kExpr) = b by rw [<- h]; show _ = (decide (0 < ts.length) && ts.all (onF kExpr)); rw [decide_eq_true h0]; rfl)
  clear h
  go_enter Tryz.func28, Tryz.ntmps28
  go_wp2_with fail
  obtain ⟨w1, hw1, HB1, HX1, hs1⟩ := jb w ⟨30, t, n, y, s, a, l⟩ (.slice A0 ts.length c0)
  simp only at hw1
  rw [hw1]
  clear hw1
  clear HX1
  refine (each_is (HL.out.below HB1.out HS.out) (fun i hi => by have := HS.out i hi; omega) en_isExpr (fun x _ => as_isExpr x)).mono ?_
  rintro e w9 ⟨rfl, b9⟩
  rw [E.out]
  have HB9 := zz (HB1.out.trans (b9.mono (by omega)))
  clear b9
  go_wp2
  go_ret
  exact ⟨rfl, HB9.out⟩
 ·have q0 : decide (0 < (ts.length : Int)) = false := decide_eq_false (by omega)
  have E := zz (show false = b by rw [<- h]; show _ = (decide (0 < ts.length) && ts.all (onF kExpr)); rw [decide_eq_false h0]; rfl)
  have h9 : ts.length = 0 := by omega
  clear h h0
  go_enter Tryz.func28, Tryz.ntmps28
  go_wp2
  go_ret
  exact ⟨zb E.out, (box1 _ _).out⟩
theorem kids_no (hK : Lst w m S u ts) (hS : ∀ i, S i -> i < w.heap.size) (h : kFit f ts = b) (c1 : ¬ f.k = 1) (c2 : ¬ f.k = 2) (c4 : ¬ f.k = 4) (c5 : ¬ f.k = 5) (c18 : ¬ f.k = 18) (c29 : ¬ f.k = 29) (c6 : ¬ f.k = 6) (c7 : ¬ f.k = 7) (c8 : ¬ f.k = 8) (c9 : ¬ f.k = 9) (c27 : ¬ f.k = 27) (c10 : ¬ f.k = 10) (c11 : ¬ f.k = 11) (c12 : ¬ f.k = 12) (c13 : ¬ f.k = 13) (c14 : ¬ f.k = 14) (c15 : ¬ f.k = 15) (c16 : ¬ f.k = 16) (c17 : ¬ f.k = 17) (c26 : ¬ f.k = 26) (c28 : ¬ f.k = 28) (c30 : ¬ f.k = 30) :
 Calls Tryz.prog 28 #[nv f u] w fun e w' => e = .returned (.bool b) /\ Below w.heap.size w w' := by
 obtain ⟨k, t, n, y, s, a, l⟩ := f
 unfold nv
 have HL := zz hK
 have HS := zz hS
 obtain ⟨A0, c0, b0, o0, rfl, hla, hcap, hA, hra⟩ := hK
 clear hS hcap hA hra
 simp only at c1 c2 c4 c5 c18 c29 c6 c7 c8 c9 c27 c10 c11 c12 c13 c14 c15 c16 c17 c26 c28 c30
 unfold kFit at h
 simp only at h
 rw [if_neg c1, if_neg c2, if_neg c4, if_neg (by rintro (h | h | h) <;> contradiction), if_neg (by rintro (h | h) <;> contradiction), if_neg c8, if_neg (by rintro (h | h) <;> contradiction), if_neg c10, if_neg c11, if_neg c12, if_neg c13, if_neg c14, if_neg c15, if_neg c16, if_neg c17, if_neg c26, if_neg c28, if_neg c30] at h
 have q1 := beq_false_of_ne c1
 have q2 := beq_false_of_ne c2
 have q4 := beq_false_of_ne c4
 have q5 := beq_false_of_ne c5
 have q18 := beq_false_of_ne c18
 have q29 := beq_false_of_ne c29
 have q6 := beq_false_of_ne c6
 have q7 := beq_false_of_ne c7
 have q8 := beq_false_of_ne c8
 have q9 := beq_false_of_ne c9
 have q27 := beq_false_of_ne c27
 have q10 := beq_false_of_ne c10
 have q11 := beq_false_of_ne c11
 have q12 := beq_false_of_ne c12
 have q13 := beq_false_of_ne c13
 have q14 := beq_false_of_ne c14
 have q15 := beq_false_of_ne c15
 have q16 := beq_false_of_ne c16
 have q17 := beq_false_of_ne c17
 have q26 := beq_false_of_ne c26
 have q28 := beq_false_of_ne c28
 have q30 := beq_false_of_ne c30
 clear HL HS c1 c2 c4 c5 c18 c29 c6 c7 c8 c9 c27 c10 c11 c12 c13 c14 c15 c16 c17 c26 c28 c30
 by_cases h0 : ts.length = 0
 ·have q0 : ((ts.length : Int) == 0) = true := by rw [h0]; rfl
  have E := zz (show true = b by rw [<- h, decide_eq_true h0])
  clear h h0
  go_enter Tryz.func28, Tryz.ntmps28
  go_wp2
  go_ret
  exact ⟨zb E.out, (box1 _ _).out⟩
 ·have q0 : ((ts.length : Int) == 0) = false := beq_false_of_ne (by omega)
  have E := zz (show false = b by rw [<- h, decide_eq_false h0])
  clear h h0
  go_enter Tryz.func28, Tryz.ntmps28
  go_wp2
  go_ret
  exact ⟨zb E.out, (box1 _ _).out⟩
theorem kFit_is (hm : m.mark = true) (hF : AllFs ts) (hK : Lst w m S u ts) (hS : ∀ i, S i -> i < w.heap.size) (h : kFit f ts = b) :
 Calls Tryz.prog 28 #[nv f u] w fun e w' => e = .returned (.bool b) /\ Below w.heap.size w w' := by
 by_cases c1 : f.k = 1
 ·exact kids_1 hK hS h c1
 by_cases c2 : f.k = 2
 ·exact kids_2 hK hS h c2
 by_cases c4 : f.k = 4
 ·exact kids_4 hK hS h c4
 by_cases c5 : f.k = 5
 ·exact kids_5 hK hS h c5
 by_cases c18 : f.k = 18
 ·exact kids_18 hK hS h c18
 by_cases c29 : f.k = 29
 ·exact kids_29 hK hS h c29
 by_cases c6 : f.k = 6
 ·exact kids_6 hK hS h c6
 by_cases c7 : f.k = 7
 ·exact kids_7 hK hS h c7
 by_cases c8 : f.k = 8
 ·exact kids_8 hK hS h c8
 by_cases c9 : f.k = 9
 ·exact kids_9 hK hS h c9
 by_cases c27 : f.k = 27
 ·exact kids_27 hK hS h c27
 by_cases c10 : f.k = 10
 ·exact kids_10 hK hS h c10
 by_cases c11 : f.k = 11
 ·exact kids_11 hK hS h c11
 by_cases c12 : f.k = 12
 ·exact kids_12 hK hS h c12
 by_cases c13 : f.k = 13
 ·exact kids_13 hK hS h c13
 by_cases c14 : f.k = 14
 ·exact kids_14 hK hS h c14
 by_cases c15 : f.k = 15
 ·exact kids_15 hK hS h c15
 by_cases c16 : f.k = 16
 ·exact kids_16 hm hK hS h c16
 by_cases c17 : f.k = 17
 ·exact kids_17 hF hK hS h c17
 by_cases c26 : f.k = 26
 ·exact kids_26 hK hS h c26
 by_cases c28 : f.k = 28
 ·exact kids_28 hK hS h c28
 by_cases c30 : f.k = 30
 ·exact kids_30 hK hS h c30
 exact kids_no hK hS h c1 c2 c4 c5 c18 c29 c6 c7 c8 c9 c27 c10 c11 c12 c13 c14 c15 c16 c17 c26 c28 c30
end Go.Proofs.YtmdhjiammcpogaaGreatDoor
