import Derived.Test.YtmdhjiammcpogaaGreatDoorQ08
namespace Go.Proofs.YtmdhjiammcpogaaGreatDoor
set_option maxRecDepth 100000
set_option maxHeartbeats 16000000
section
open Go.RowKit
variable {S : Nat -> Prop} {m : Md} {ts : List Tr} {w : World}
theorem Lst.take {w : World} {m : Md} {S : Nat -> Prop} {b o c : Nat} {ts : List Tr} (hn : ts.length <= 9223372036854775807) (hc : ts.length <= c) (hb : S b) (hr : RowAt w m S b o ts) (k : Nat) (hk : k <= ts.length) : Lst w m S (.slice (some ⟨b, o, none⟩) k c) (ts.take k) := by
 have e : (ts.take k).length = k := by rw [List.length_take]; omega
 refine ⟨_, c, b, o, by rw [e], by omega, by omega, fun _ => ⟨rfl, hb⟩, RowAt.mk fun i hi => ?_⟩
 rw [List.getElem_take]
 exact hr.get i (by omega)
def dfs (ts : List Tr) : Nat := (ts.filter fun t => kDef t.f).length
def cls (kd : Int) (ts : List Tr) : Bool := ts.all (fun t => t.f.k == kd) && decide (dfs ts <= 1)
theorem dfs_succ {l : List Tr} {k : Nat} (h : k < l.length) : dfs (l.take (k + 1)) = dfs (l.take k) + (if kDef l[k].f = true then 1 else 0) := by
 unfold dfs
 rw [List.take_succ_eq_append_getElem h, List.filter_append, List.length_append]
 congr 1
 by_cases hd : kDef l[k].f = true
 ·simp [hd]
 ·simp [hd]
theorem dfs_le (l : List Tr) (k : Nat) : dfs (l.take k) <= k := by
 unfold dfs
 have h1 := List.length_filter_le (fun t => kDef t.f) (l.take k)
 have h2 := List.length_take_le k l
 omega
theorem clauses_is {va : Value} {kd : Int} (hK : Lst w m S va ts) (hS : ∀ i, S i -> i < w.heap.size) :
 Calls Tryz.prog 65 #[va, .int .i64 kd] w fun e w' => e = .returned (.bool (cls kd ts)) /\ Below w.heap.size w w' := by
 obtain ⟨A, ca, ba, oa, rfl, hla, hcap, hA, hra⟩ := hK
 have HA := zz hA
 have HR := zz hra
 have HS := zz hS
 clear hA hra hS hcap
 go_enter Tryz.func65, Tryz.ntmps65
 go_wp2
 go_loopw [5, 10] (fun d i wr => ∃ k : Nat, k <= ts.length /\ i = .int .i64 k /\ d = .int .i64 (dfs (ts.take k) : Int) /\ Below w.heap.size w wr /\ (ts.take k).all (fun t => t.f.k == kd) = true) (fun _ i _ => ts.length - (intOf i).toNat)
 case atStart => exact ⟨0, Nat.zero_le _, rfl, by rw [List.take_zero]; rfl, Below.refl _ _, by rw [List.take_zero]; rfl⟩
 case round =>
  obtain ⟨k, hk, rfl, rfl, hbw, hall⟩ := hrel
  have hsz := hbw.size
  have HBW := zz hbw
  have HALL := zz hall
  have hdl := dfs_le ts k
  clear hbw hall
  by_cases hkl : k < ts.length
  ·obtain ⟨hA1, hb⟩ := HA.out (by omega)
   subst hA1
   obtain ⟨v', c0, c1, c2, c3, c4, c5, c6, c7, hk'⟩ := ((HR.out.agree (Agree.of_below HBW.out HS.out) hb).get k hkl).open
   obtain ⟨A', c', b', o', rfl, _, _, _⟩ := hk'.form
   have HAS := zz (all_succ (P := fun t : Tr => t.f.k == kd) hkl)
   have HDS := zz (dfs_succ hkl)
   clear hk'
   by_cases hkd : ts[k].f.k = kd
   ·have qk : (ts[k].f.k != kd) = false := by simp [hkd]
    have H1 := zz (show (ts.take (k + 1)).all (fun t => t.f.k == kd) = true by rw [HAS.out, HALL.out]; simp [hkd])
    clear hkd
    cases hd : kDef ts[k].f
    ·have HD := zz hd
     have HDN := zz (show dfs (ts.take (k + 1)) = dfs (ts.take k) by rw [HDS.out, hd]; simp)
     clear hd
     go_wp2_with fail
     obtain ⟨w1, hw1, HB1, HX1, hs1⟩ := jb wr ts[k].f (.slice A' ts[k].ks.length c')
     rw [hw1]
     clear hw1 HX1
     refine (kDef_is (f := ts[k].f) HD.out _).mono ?_
     rintro e w2 ⟨rfl, b2⟩
     have HB2 := zz (HBW.out.trans ((HB1.out.trans (b2.mono (by omega))).mono hsz))
     clear b2 c0 c1 c2 c3 c4 c5 c6 c7 HB1
     go_wp2
     go_roundw
     case rel => exact ⟨k + 1, by omega, by go_num, by rw [HDN.out], HB2.out, H1.out⟩
     case measure => simp [intOf]; omega
    ·have HD := zz hd
     have HDN := zz (show dfs (ts.take (k + 1)) = dfs (ts.take k) + 1 by rw [HDS.out, hd]; simp)
     clear hd
     go_wp2_with fail
     obtain ⟨w1, hw1, HB1, HX1, hs1⟩ := jb wr ts[k].f (.slice A' ts[k].ks.length c')
     rw [hw1]
     clear hw1 HX1
     refine (kDef_is (f := ts[k].f) HD.out _).mono ?_
     rintro e w2 ⟨rfl, b2⟩
     have HB2 := zz (HBW.out.trans ((HB1.out.trans (b2.mono (by omega))).mono hsz))
     clear b2 c0 c1 c2 c3 c4 c5 c6 c7 HB1
     go_wp2
     go_roundw
     case rel => exact ⟨k + 1, by omega, by go_num, by rw [HDN.out]; go_num, HB2.out, H1.out⟩
     case measure => simp [intOf]; omega
   ·have qk : (ts[k].f.k != kd) = true := by simp [hkd]
    have E := zz (show false = cls kd ts by
     cases h : cls kd ts
     ·rfl
     ·unfold cls at h
      rw [Bool.and_eq_true, List.all_eq_true] at h
      have := h.1 ts[k] (List.getElem_mem hkl)
      exact absurd (by simpa using this) hkd)
    have HBX : ∀ o, Hid (Below w.heap.size w (wr.alloc o)) := fun o => zz (HBW.out.alloc hsz o)
    clear hkd
    go_wp2
    go_ret
    exact ⟨zb E.out, (HBX _).out⟩
  ·obtain rfl : k = ts.length := by omega
   have hz := HALL.out
   rw [List.take_length] at hz
   by_cases hd : dfs ts <= 1
   ·have q : decide ((dfs ts : Int) <= 1) = true := decide_eq_true (by omega)
    have E := zz (show true = cls kd ts by unfold cls; rw [hz, decide_eq_true hd]; rfl)
    clear hz hd
    go_wp2
    go_ret
    exact ⟨zb E.out, HBW.out⟩
   ·have q : decide ((dfs ts : Int) <= 1) = false := decide_eq_false (by omega)
    have E := zz (show false = cls kd ts by unfold cls; rw [hz, decide_eq_false hd]; rfl)
    clear hz hd
    go_wp2
    go_ret
    exact ⟨zb E.out, HBW.out⟩
def eib (P : Tr -> Bool) (ts : List Tr) : Bool := match ts[ts.length - 1]? with
 | some t => kBlock t.f && (ts.take (ts.length - 1)).all P
 | none => false
theorem ends_is {va : Value} {g : FuncId} {P : Tr -> Bool} (hK : Lst w m S va ts) (hS : ∀ i, S i -> i < w.heap.size) (hf : Enters g) (hg : ∀ t ∈ ts, Asks g m S P t) :
 Calls Tryz.prog 52 #[va, .func (.func g) #[] #[]] w fun e w' => e = .returned (.bool (eib P ts)) /\ Below w.heap.size w w' := by
 obtain ⟨A, ca, ba, oa, rfl, hla, hcap, hA, hra⟩ := hK
 have HA := zz hA
 have HR := zz hra
 have HS := zz hS
 have HF := zz hf
 have HG := zz hg
 clear hA hra hS hf hg
 by_cases h0 : ts.length = 0
 ·have E := zz (show false = eib P ts by
   obtain rfl : ts = [] := List.eq_nil_of_length_eq_zero h0
   rfl)
  rw [h0]
  clear h0 hla hcap
  go_enter Tryz.func52, Tryz.ntmps52
  go_wp2
  go_ret
  exact ⟨zb E.out, Below.refl _ _⟩
 ·obtain ⟨hA1, hb⟩ := HA.out (by omega)
  subst hA1
  obtain ⟨N, hN⟩ : ∃ N, ts.length = N + 1 := ⟨ts.length - 1, by omega⟩
  have hkl : N < ts.length := by omega
  obtain ⟨v', c0, c1, c2, c3, c4, c5, c6, c7, hk'⟩ := (HR.out.get N hkl).open
  have HLT := zz (Lst.take (c := ca) hla hcap hb HR.out N (by omega))
  have HEI := zz (show eib P ts = (kBlock ts[N].f && (ts.take N).all P) by
   unfold eib
   rw [show ts.length - 1 = N by omega, List.getElem?_eq_getElem hkl])
  clear hk'
  rw [hN] at hla hcap |-
  have q1 : decide ((0 : Int) <= (N : Int)) = true := decide_eq_true (by omega)
  have i0 : (0 : Int) <= (N : Int) := by omega
  have i1 : (N : Int) < ((N + 1 : Nat) : Int) := by omega
  have i2 : (N : Int) <= (ca : Int) := by omega
  cases hd : kBlock ts[N].f
  ·have HD := zz hd
   have E := zz (show false = eib P ts by rw [HEI.out, hd]; rfl)
   clear hd
   go_enter Tryz.func52, Tryz.ntmps52
   go_wp2_with fail
   refine (kBlock_is (f := ts[N].f) HD.out _).mono ?_
   rintro e w2 ⟨rfl, b2⟩
   have HB2 := zz b2
   clear b2 c0 c1 c2 c3 c4 c5 c6 c7
   go_wp2
   go_ret
   exact ⟨zb E.out, HB2.out⟩
  ·have HD := zz hd
   have E := zz (show (ts.take N).all P = eib P ts by rw [HEI.out, hd]; rfl)
   clear hd
   go_enter Tryz.func52, Tryz.ntmps52
   go_wp2_with fail
   refine (kBlock_is (f := ts[N].f) HD.out _).mono ?_
   rintro e w2 ⟨rfl, b2⟩
   have HB2 := zz b2
   have hsz := b2.size
   clear b2 c0 c1 c2 c3 c4 c5 c6 c7
   go_wp2_with fail
   refine (each_is (ts := ts.take N) (HLT.out.below HB2.out HS.out) (fun i hi => Nat.lt_of_lt_of_le (HS.out i hi) hsz) HF.out (fun t ht => HG.out t (List.mem_of_mem_take ht))).mono ?_
   rintro e w3 ⟨rfl, b3⟩
   rw [E.out]
   have HB3 := zz (HB2.out.trans (b3.mono hsz))
   clear b3
   go_wp2
   go_ret
   exact ⟨rfl, HB3.out⟩
end
section
open Go.RowKit
variable {S : Nat -> Prop} {b : Bool} {c n : Nat} {f : Nd} {m : Md} {ts : List Tr} {u : Value} {w : World}
abbrev onF (p : Nd -> Bool) (t : Tr) : Bool := p t.f
theorem en_isNone : Enters 87 := enters_of Tryz.func87 (by kernel_rfl) (by kernel_rfl)
theorem as_isNone (t : Tr) : Asks 87 m S (onF kNone) t := fun w _ _ _ => kNone_is rfl w
theorem en_isFunc : Enters 51 := enters_of Tryz.func51 (by kernel_rfl) (by kernel_rfl)
theorem as_isFunc (t : Tr) : Asks 51 m S (onF kFunc) t := fun w _ _ _ => kFunc_is rfl w
theorem en_isParam : Enters 53 := enters_of Tryz.func53 (by kernel_rfl) (by kernel_rfl)
theorem as_isParam (t : Tr) : Asks 53 m S (onF kParam) t := fun w _ _ _ => kParam_is rfl w
theorem en_isBlock : Enters 60 := enters_of Tryz.func60 (by kernel_rfl) (by kernel_rfl)
theorem as_isBlock (t : Tr) : Asks 60 m S (onF kBlock) t := fun w _ _ _ => kBlock_is rfl w
theorem en_isElse : Enters 61 := enters_of Tryz.func61 (by kernel_rfl) (by kernel_rfl)
theorem as_isElse (t : Tr) : Asks 61 m S (onF kElse) t := fun w _ _ _ => kElse_is rfl w
theorem en_isTarget : Enters 82 := enters_of Tryz.func82 (by kernel_rfl) (by kernel_rfl)
theorem as_isTarget (t : Tr) : Asks 82 m S (onF kTarget) t := fun w _ _ _ => kTarget_is rfl w
theorem en_isStatement : Enters 54 := enters_of Tryz.func54 (by kernel_rfl) (by kernel_rfl)
theorem as_isStatement (t : Tr) : Asks 54 m S (onF kStmt) t := fun w _ _ _ => kStmt_is rfl w
theorem en_isNext : Enters 86 := enters_of Tryz.func86 (by kernel_rfl) (by kernel_rfl)
theorem as_isNext (t : Tr) : Asks 86 m S (onF kNext) t := fun w _ _ _ => kNext_is rfl w
theorem en_isBlank : Enters 81 := enters_of Tryz.func81 (by kernel_rfl) (by kernel_rfl)
theorem as_isBlank (t : Tr) : Asks 81 m S (onF kBlank) t := fun w _ _ _ => kBlank_is rfl w
theorem en_isOwnName : Enters 58 := enters_of Tryz.func58 (by kernel_rfl) (by kernel_rfl)
theorem as_isOwnName (t : Tr) : Asks 58 m S (onF kOwn) t := fun w _ _ _ => kOwn_is rfl w
theorem en_isReceive : Enters 83 := enters_of Tryz.func83 (by kernel_rfl) (by kernel_rfl)
theorem as_isReceive (t : Tr) : Asks 83 m S (onF kRecv) t := fun w _ _ _ => kRecv_is rfl w
theorem en_isExpr : Enters 56 := enters_of Tryz.func56 (by kernel_rfl) (by kernel_rfl)
theorem as_isExpr (t : Tr) : Asks 56 m S (onF kExpr) t := fun w _ _ _ => kExpr_is rfl w
theorem en_isItem : Enters 89 := enters_of Tryz.func89 (by kernel_rfl) (by kernel_rfl)
theorem as_isItem (t : Tr) : Asks 89 m S (onF kItem) t := fun w _ _ _ => kItem_is rfl w
theorem en_isStart : Enters 84 := enters_of Tryz.func84 (by kernel_rfl) (by kernel_rfl)
theorem as_isStart (t : Tr) : Asks 84 m S (onF kStart) t := fun w _ _ _ => kStart_is rfl w
theorem en_isDoable : Enters 59 := enters_of Tryz.func59 (by kernel_rfl) (by kernel_rfl)
theorem as_isDoable (t : Tr) : Asks 59 m S (onF kDo) t := fun w _ _ _ => kDo_is rfl w
theorem en_isCondition : Enters 85 := enters_of Tryz.func85 (by kernel_rfl) (by kernel_rfl)
theorem as_isCondition (t : Tr) : Asks 85 m S (onF kCond) t := fun w _ _ _ => kCond_is rfl w
def fv (g : FuncId) : Value := .func (.func g) #[] #[]
theorem match_call {va : Value} {T : TypeId} {bt : Nat} {cs : Array Value} (gs : List FuncId) (ps : List (Tr -> Bool)) (hbt : bt = w.heap.size) (hnn : n = gs.length) (hcs : cs = (gs.map fv).toArray) (hl : ps.length = gs.length) (hn : gs.length <= 100) (hK : Lst w m S va ts) (hS : ∀ i, S i -> i < w.heap.size) (hf : ∀ g ∈ gs, Enters g) (hg : ∀ j (h1 : j < gs.length) (h2 : j < ts.length) (h3 : j < ps.length), Asks gs[j] m S ps[j] ts[j]) :
 Calls Tryz.prog 55 #[va, .slice (some ⟨bt, 0, none⟩) n c] (w.alloc (.cells cs T)) fun e w' => e = .returned (.bool (mat ps ts)) /\ Below w.heap.size w w' := by
 subst hbt hnn hcs
 have hb := (Below.refl w.heap.size w).alloc (Nat.le_refl _) (.cells (gs.map fv).toArray T)
 refine (match_is hl (hK.below hb hS) (fun i hi => Nat.lt_of_lt_of_le (hS i hi) hb.size) (by rw [World.size_alloc]; omega) hn (fun j h => ?_) hf hg).mono ?_
 ·have h1 := (MapKept.heap_alloc w (.cells (gs.map fv).toArray T)).1
  simp only [World.cell?, h1]
  simp [fv, h]
 ·rintro e w' ⟨rfl, b⟩
  exact ⟨rfl, hb.trans (b.mono hb.size)⟩
def hdFit (f : Nd) (ts : List Tr) : Bool := if f.n = 0 then mat [onF kBlock] ts else if f.n = 1 then mat [onF kExpr, onF kBlock] ts else if f.n = 2 then mat [onF kStart, onF kCond, onF kNext, onF kBlock] ts else if f.t.data.toList = [] then mat [onF kNone, onF kExpr, onF kBlock] ts else mat [onF kOwn, onF kExpr, onF kBlock] ts
theorem hdFit_is (hK : Lst w m S u ts) (hS : ∀ i, S i -> i < w.heap.size) (h : hdFit f ts = b) :
 Calls Tryz.prog 62 #[nv f u] w fun e w' => e = .returned (.bool b) /\ Below w.heap.size w w' := by
 obtain ⟨k, t, n, y, s, a, l⟩ := f
 unfold nv
 unfold hdFit at h
 have HL := zz hK
 have HS := zz hS
 obtain ⟨A0, c0, b0, o0, rfl, _, _, _, _⟩ := hK
 clear hS
 by_cases c0 : n = 0
 ·subst c0
  have E := zz (show mat [onF kBlock] ts = b from h)
  clear h
  go_enter Tryz.func62, Tryz.ntmps62
  go_wp2_with fail
  obtain ⟨w1, hw1, HB1, HX1, hs1⟩ := jb w ⟨k, t, 0, y, s, a, l⟩ (.slice A0 ts.length c0)
  simp only at hw1
  rw [hw1]
  clear hw1 HX1
  refine (match_call [60] [onF kBlock] (by omega) rfl rfl rfl (by simp) (HL.out.below HB1.out HS.out) (fun i hi => by have := HS.out i hi; omega) (List.forall_mem_cons.2 ⟨en_isBlock, (fun _ h => by cases h)⟩) (fun j h1 _ _ => match j, h1 with
   | 0, _ => as_isBlock _
   | _ + 1, h => absurd h (by simp))).mono ?_
  rintro e w2 ⟨rfl, b2⟩
  rw [E.out]
  have HB2 := zz (HB1.out.trans (b2.mono (by omega)))
  clear b2
  go_wp2
  go_ret
  exact ⟨rfl, HB2.out⟩
 have q0 := beq_false_of_ne c0
 by_cases c1 : n = 1
 ·subst c1
  have E := zz (show mat [onF kExpr, onF kBlock] ts = b from h)
  clear h c0 q0
  go_enter Tryz.func62, Tryz.ntmps62
  go_wp2_with fail
  obtain ⟨w1, hw1, HB1, HX1, hs1⟩ := jb w ⟨k, t, 1, y, s, a, l⟩ (.slice A0 ts.length c0)
  simp only at hw1
  rw [hw1]
  clear hw1 HX1
  refine (match_call [56, 60] [onF kExpr, onF kBlock] (by omega) rfl rfl rfl (by simp) (HL.out.below HB1.out HS.out) (fun i hi => by have := HS.out i hi; omega) (List.forall_mem_cons.2 ⟨en_isExpr, (List.forall_mem_cons.2 ⟨en_isBlock, (fun _ h => by cases h)⟩)⟩) (fun j h1 _ _ => match j, h1 with
   | 0, _ => as_isExpr _
   | 1, _ => as_isBlock _
   | _ + 2, h => absurd h (by simp))).mono ?_
  rintro e w2 ⟨rfl, b2⟩
  rw [E.out]
  have HB2 := zz (HB1.out.trans (b2.mono (by omega)))
  clear b2
  go_wp2
  go_ret
  exact ⟨rfl, HB2.out⟩
 have q1 := beq_false_of_ne c1
 by_cases c2 : n = 2
 ·subst c2
  have E := zz (show mat [onF kStart, onF kCond, onF kNext, onF kBlock] ts = b from h)
  clear h c0 q0 c1 q1
  go_enter Tryz.func62, Tryz.ntmps62
  go_wp2_with fail
  obtain ⟨w1, hw1, HB1, HX1, hs1⟩ := jb w ⟨k, t, 2, y, s, a, l⟩ (.slice A0 ts.length c0)
  simp only at hw1
  rw [hw1]
  clear hw1 HX1
  refine (match_call [84, 85, 86, 60] [onF kStart, onF kCond, onF kNext, onF kBlock] (by omega) rfl rfl rfl (by simp) (HL.out.below HB1.out HS.out) (fun i hi => by have := HS.out i hi; omega) (List.forall_mem_cons.2 ⟨en_isStart, (List.forall_mem_cons.2 ⟨en_isCondition, (List.forall_mem_cons.2 ⟨en_isNext, (List.forall_mem_cons.2 ⟨en_isBlock, (fun _ h => by cases h)⟩)⟩)⟩)⟩) (fun j h1 _ _ => match j, h1 with
   | 0, _ => as_isStart _
   | 1, _ => as_isCondition _
   | 2, _ => as_isNext _
   | 3, _ => as_isBlock _
   | _ + 4, h => absurd h (by simp))).mono ?_
  rintro e w2 ⟨rfl, b2⟩
  rw [E.out]
  have HB2 := zz (HB1.out.trans (b2.mono (by omega)))
  clear b2
  go_wp2
  go_ret
  exact ⟨rfl, HB2.out⟩
 have q2 := beq_false_of_ne c2
 rw [if_neg c0, if_neg c1, if_neg c2] at h
 clear c0 c1 c2
 by_cases ct : t.data.toList = []
 ·have qt : (t.toList == []) = true := by rw [ByteArray.toList_eq]; rw [ct]; rfl
  have E := zz (show mat [onF kNone, onF kExpr, onF kBlock] ts = b by rw [<- h, if_pos ct])
  clear h ct
  go_enter Tryz.func62, Tryz.ntmps62
  go_wp2_with fail
  obtain ⟨w1, hw1, HB1, HX1, hs1⟩ := jb w ⟨k, t, n, y, s, a, l⟩ (.slice A0 ts.length c0)
  simp only at hw1
  rw [hw1]
  clear hw1 HX1
  refine (match_call [87, 56, 60] [onF kNone, onF kExpr, onF kBlock] (by omega) rfl rfl rfl (by simp) (HL.out.below HB1.out HS.out) (fun i hi => by have := HS.out i hi; omega) (List.forall_mem_cons.2 ⟨en_isNone, (List.forall_mem_cons.2 ⟨en_isExpr, (List.forall_mem_cons.2 ⟨en_isBlock, (fun _ h => by cases h)⟩)⟩)⟩) (fun j h1 _ _ => match j, h1 with
   | 0, _ => as_isNone _
   | 1, _ => as_isExpr _
   | 2, _ => as_isBlock _
   | _ + 3, h => absurd h (by simp))).mono ?_
  rintro e w2 ⟨rfl, b2⟩
  rw [E.out]
  have HB2 := zz (HB1.out.trans (b2.mono (by omega)))
  clear b2
  go_wp2
  go_ret
  exact ⟨rfl, HB2.out⟩
 ·have qt : (t.toList == []) = false := by rw [ByteArray.toList_eq]; exact beq_false_of_ne ct
  have E := zz (show mat [onF kOwn, onF kExpr, onF kBlock] ts = b by rw [<- h, if_neg ct])
  clear h ct
  go_enter Tryz.func62, Tryz.ntmps62
  go_wp2_with fail
  obtain ⟨w1, hw1, HB1, HX1, hs1⟩ := jb w ⟨k, t, n, y, s, a, l⟩ (.slice A0 ts.length c0)
  simp only at hw1
  rw [hw1]
  clear hw1 HX1
  refine (match_call [58, 56, 60] [onF kOwn, onF kExpr, onF kBlock] (by omega) rfl rfl rfl (by simp) (HL.out.below HB1.out HS.out) (fun i hi => by have := HS.out i hi; omega) (List.forall_mem_cons.2 ⟨en_isOwnName, (List.forall_mem_cons.2 ⟨en_isExpr, (List.forall_mem_cons.2 ⟨en_isBlock, (fun _ h => by cases h)⟩)⟩)⟩) (fun j h1 _ _ => match j, h1 with
   | 0, _ => as_isOwnName _
   | 1, _ => as_isExpr _
   | 2, _ => as_isBlock _
   | _ + 3, h => absurd h (by simp))).mono ?_
  rintro e w2 ⟨rfl, b2⟩
  rw [E.out]
  have HB2 := zz (HB1.out.trans (b2.mono (by omega)))
  clear b2
  go_wp2
  go_ret
  exact ⟨rfl, HB2.out⟩
def argFit (f : Nd) (ts : List Tr) : Bool := if f.t.data.toList = [112, 114, 105, 110, 116, 108, 110] then ts.all (onF kItem) else ts.all (onF kExpr)
theorem argFit_is (hK : Lst w m S u ts) (hS : ∀ i, S i -> i < w.heap.size) (h : argFit f ts = b) :
 Calls Tryz.prog 68 #[nv f u] w fun e w' => e = .returned (.bool b) /\ Below w.heap.size w w' := by
 obtain ⟨k, t, n, y, s, a, l⟩ := f
 unfold nv
 unfold argFit at h
 have HL := zz hK
 have HS := zz hS
 obtain ⟨A0, c0, b0, o0, rfl, _, _, _, _⟩ := hK
 clear hS
 by_cases ct : t.data.toList = [112, 114, 105, 110, 116, 108, 110]
 ·have qt : (t.toList == [112, 114, 105, 110, 116, 108, 110]) = true := by rw [ByteArray.toList_eq]; rw [ct]; rfl
  have E := zz (show ts.all (onF kItem) = b by rw [<- h, if_pos ct])
  clear h ct
  go_enter Tryz.func68, Tryz.ntmps68
  go_wp2_with fail
  obtain ⟨w1, hw1, HB1, HX1, hs1⟩ := jb w ⟨k, t, n, y, s, a, l⟩ (.slice A0 ts.length c0)
  simp only at hw1
  rw [hw1]
  clear hw1 HX1
  refine (each_is (HL.out.below HB1.out HS.out) (fun i hi => by have := HS.out i hi; omega) en_isItem (fun x _ => as_isItem x)).mono ?_
  rintro e w2 ⟨rfl, b2⟩
  rw [E.out]
  have HB2 := zz (HB1.out.trans (b2.mono (by omega)))
  clear b2
  go_wp2
  go_ret
  exact ⟨rfl, HB2.out⟩
 ·have qt : (t.toList == [112, 114, 105, 110, 116, 108, 110]) = false := by rw [ByteArray.toList_eq]; exact beq_false_of_ne ct
  have E := zz (show ts.all (onF kExpr) = b by rw [<- h, if_neg ct])
  clear h ct
  go_enter Tryz.func68, Tryz.ntmps68
  go_wp2_with fail
  obtain ⟨w1, hw1, HB1, HX1, hs1⟩ := jb w ⟨k, t, n, y, s, a, l⟩ (.slice A0 ts.length c0)
  simp only at hw1
  rw [hw1]
  clear hw1 HX1
  refine (each_is (HL.out.below HB1.out HS.out) (fun i hi => by have := HS.out i hi; omega) en_isExpr (fun x _ => as_isExpr x)).mono ?_
  rintro e w2 ⟨rfl, b2⟩
  rw [E.out]
  have HB2 := zz (HB1.out.trans (b2.mono (by omega)))
  clear b2
  go_wp2
  go_ret
  exact ⟨rfl, HB2.out⟩
end
section
open Go.RowKit
variable {S : Nat -> Prop} {b : Bool} {f : Nd} {m : Md} {ts : List Tr} {u : Value} {w : World}
def tgFit (f : Nd) (ts : List Tr) : Bool := if (f.k == 6 && decide (0 < ts.length) && (ts.take (ts.length - 1)).all (onF kBlank)) = true then false else if f.n = 1 then mat [onF kTarget, onF kExpr] ts else mat [onF kTarget, onF kTarget, onF kRecv] ts
theorem tgFit_is (hK : Lst w m S u ts) (hS : ∀ i, S i -> i < w.heap.size) (h : tgFit f ts = b) :
 Calls Tryz.prog 57 #[nv f u] w fun e w' => e = .returned (.bool b) /\ Below w.heap.size w w' := by
 obtain ⟨k, t, n, y, s, a, l⟩ := f
 unfold nv
 unfold tgFit at h
 have HL := zz hK
 have HS := zz hS
 obtain ⟨A0, c0, b0, o0, rfl, hla, hcap, hA, hra⟩ := hK
 have HA := zz hA
 have HR := zz hra
 clear hA hra
 clear hS
 by_cases ck : k = 6
 rotate_left
 ·have qk := beq_false_of_ne ck
  simp only [qk, Bool.false_and, Bool.false_eq_true, if_false] at h
  clear ck
  by_cases cn : n = 1
  ·subst cn
   have E := zz (show mat [onF kTarget, onF kExpr] ts = b from h)
   clear h
   go_enter Tryz.func57, Tryz.ntmps57
   go_wp2_with fail
   obtain ⟨w1, hw1, HB1, HX1, hs1⟩ := jb w ⟨k, t, 1, y, s, a, l⟩ (.slice A0 ts.length c0)
   simp only at hw1
   rw [hw1]
   clear hw1 HX1
   refine (match_call [82, 56] [onF kTarget, onF kExpr] (by omega) rfl rfl rfl (by simp) (HL.out.below HB1.out HS.out) (fun i hi => by have := HS.out i hi; omega) (List.forall_mem_cons.2 ⟨en_isTarget, (List.forall_mem_cons.2 ⟨en_isExpr, (fun _ h => by cases h)⟩)⟩) (fun j h1 _ _ => match j, h1 with
    | 0, _ => as_isTarget _
    | 1, _ => as_isExpr _
    | _ + 2, h => absurd h (by simp))).mono ?_
   rintro e w9 ⟨rfl, b9⟩
   rw [E.out]
   have HB9 := zz (HB1.out.trans (b9.mono (by omega)))
   clear b9
   go_wp2
   go_ret
   exact ⟨rfl, HB9.out⟩
  ·have qn := beq_false_of_ne cn
   have E := zz (show mat [onF kTarget, onF kTarget, onF kRecv] ts = b by rw [<- h, if_neg cn])
   clear h cn
   go_enter Tryz.func57, Tryz.ntmps57
   go_wp2_with fail
   obtain ⟨w1, hw1, HB1, HX1, hs1⟩ := jb w ⟨k, t, n, y, s, a, l⟩ (.slice A0 ts.length c0)
   simp only at hw1
   rw [hw1]
   clear hw1 HX1
   refine (match_call [82, 82, 83] [onF kTarget, onF kTarget, onF kRecv] (by omega) rfl rfl rfl (by simp) (HL.out.below HB1.out HS.out) (fun i hi => by have := HS.out i hi; omega) (List.forall_mem_cons.2 ⟨en_isTarget, (List.forall_mem_cons.2 ⟨en_isTarget, (List.forall_mem_cons.2 ⟨en_isReceive, (fun _ h => by cases h)⟩)⟩)⟩) (fun j h1 _ _ => match j, h1 with
    | 0, _ => as_isTarget _
    | 1, _ => as_isTarget _
    | 2, _ => as_isReceive _
    | _ + 3, h => absurd h (by simp))).mono ?_
   rintro e w9 ⟨rfl, b9⟩
   rw [E.out]
   have HB9 := zz (HB1.out.trans (b9.mono (by omega)))
   clear b9
   go_wp2
   go_ret
   exact ⟨rfl, HB9.out⟩
 subst ck
 by_cases h0 : ts.length = 0
 ·have q0 : ¬ 0 < ts.length := by omega
  rw [decide_eq_false (show ¬ 0 < ts.length by omega)] at h
  simp only [Bool.and_false, Bool.false_and, Bool.false_eq_true, if_false] at h
  clear h0
  by_cases cn : n = 1
  ·subst cn
   have E := zz (show mat [onF kTarget, onF kExpr] ts = b from h)
   clear h
   go_enter Tryz.func57, Tryz.ntmps57
   go_wp2_with fail
   obtain ⟨w1, hw1, HB1, HX1, hs1⟩ := jb w ⟨6, t, 1, y, s, a, l⟩ (.slice A0 ts.length c0)
   simp only at hw1
   rw [hw1]
   clear hw1 HX1
   refine (match_call [82, 56] [onF kTarget, onF kExpr] (by omega) rfl rfl rfl (by simp) (HL.out.below HB1.out HS.out) (fun i hi => by have := HS.out i hi; omega) (List.forall_mem_cons.2 ⟨en_isTarget, (List.forall_mem_cons.2 ⟨en_isExpr, (fun _ h => by cases h)⟩)⟩) (fun j h1 _ _ => match j, h1 with
    | 0, _ => as_isTarget _
    | 1, _ => as_isExpr _
    | _ + 2, h => absurd h (by simp))).mono ?_
   rintro e w9 ⟨rfl, b9⟩
   rw [E.out]
   have HB9 := zz (HB1.out.trans (b9.mono (by omega)))
   clear b9
   go_wp2
   go_ret
   exact ⟨rfl, HB9.out⟩
  ·have qn := beq_false_of_ne cn
   have E := zz (show mat [onF kTarget, onF kTarget, onF kRecv] ts = b by rw [<- h, if_neg cn])
   clear h cn
   go_enter Tryz.func57, Tryz.ntmps57
   go_wp2_with fail
   obtain ⟨w1, hw1, HB1, HX1, hs1⟩ := jb w ⟨6, t, n, y, s, a, l⟩ (.slice A0 ts.length c0)
   simp only at hw1
   rw [hw1]
   clear hw1 HX1
   refine (match_call [82, 82, 83] [onF kTarget, onF kTarget, onF kRecv] (by omega) rfl rfl rfl (by simp) (HL.out.below HB1.out HS.out) (fun i hi => by have := HS.out i hi; omega) (List.forall_mem_cons.2 ⟨en_isTarget, (List.forall_mem_cons.2 ⟨en_isTarget, (List.forall_mem_cons.2 ⟨en_isReceive, (fun _ h => by cases h)⟩)⟩)⟩) (fun j h1 _ _ => match j, h1 with
    | 0, _ => as_isTarget _
    | 1, _ => as_isTarget _
    | 2, _ => as_isReceive _
    | _ + 3, h => absurd h (by simp))).mono ?_
   rintro e w9 ⟨rfl, b9⟩
   rw [E.out]
   have HB9 := zz (HB1.out.trans (b9.mono (by omega)))
   clear b9
   go_wp2
   go_ret
   exact ⟨rfl, HB9.out⟩
 obtain ⟨hA1, hb⟩ := HA.out (by omega)
 subst hA1
 obtain ⟨N, hN⟩ : ∃ N, ts.length = N + 1 := ⟨ts.length - 1, by omega⟩
 have HLT := zz (Lst.take (c := c0) hla hcap hb HR.out N (by omega))
 rw [decide_eq_true (show 0 < ts.length by omega), show ts.length - 1 = N by omega] at h
 have i2 : (N : Int) <= (c0 : Int) := by omega
 have i0 : (0 : Int) <= (N : Int) := by omega
 have HL2 := zz (show Lst w m S (.slice (some ⟨b0, o0, none⟩) (N + 1) c0) ts from by rw [<- hN]; exact HL.out)
 clear HL
 have HL := HL2
 clear HL2
 rw [hN] at hla hcap |-
 have q0 : decide (0 < ((N + 1 : Nat) : Int)) = true := decide_eq_true (by omega)
 cases hall : (ts.take N).all (onF kBlank)
 ·have HALL := zz hall
  rw [hall] at h
  simp only [Bool.and_false, Bool.false_eq_true, if_false] at h
  clear hall
  by_cases cn : n = 1
  ·subst cn
   have E := zz (show mat [onF kTarget, onF kExpr] ts = b from h)
   clear h
   go_enter Tryz.func57, Tryz.ntmps57
   go_wp2_with fail
   obtain ⟨w1, hw1, HB1, HX1, hs1⟩ := jb w ⟨6, t, 1, y, s, a, l⟩ (.slice (some ⟨b0, o0, none⟩) (N + 1) c0)
   simp only at hw1
   rw [hw1]
   clear hw1
   refine (each_is (HLT.out.below HB1.out HS.out) (fun i hi => by have := HS.out i hi; omega) en_isBlank (fun x _ => as_isBlank x)).mono ?_
   rintro e w2 ⟨rfl, b2⟩
   rw [HALL.out]
   have hsz := b2.size
   have x0 := (HX1.out.below b2 (by omega)).cell
   have HB2 := zz (HB1.out.trans (b2.mono (by omega)))
   clear b2 HX1 HB1
   go_wp2_with fail
   refine (match_call [82, 56] [onF kTarget, onF kExpr] (by omega) rfl rfl rfl (by simp) (HL.out.below HB2.out HS.out) (fun i hi => by have := HS.out i hi; omega) (List.forall_mem_cons.2 ⟨en_isTarget, (List.forall_mem_cons.2 ⟨en_isExpr, (fun _ h => by cases h)⟩)⟩) (fun j h1 _ _ => match j, h1 with
    | 0, _ => as_isTarget _
    | 1, _ => as_isExpr _
    | _ + 2, h => absurd h (by simp))).mono ?_
   rintro e w9 ⟨rfl, b9⟩
   rw [E.out]
   have HB9 := zz (HB2.out.trans (b9.mono (by omega)))
   clear b9 x0
   go_wp2
   go_ret
   exact ⟨rfl, HB9.out⟩
  ·have qn := beq_false_of_ne cn
   have E := zz (show mat [onF kTarget, onF kTarget, onF kRecv] ts = b by rw [<- h, if_neg cn])
   clear h cn
   go_enter Tryz.func57, Tryz.ntmps57
   go_wp2_with fail
   obtain ⟨w1, hw1, HB1, HX1, hs1⟩ := jb w ⟨6, t, n, y, s, a, l⟩ (.slice (some ⟨b0, o0, none⟩) (N + 1) c0)
   simp only at hw1
   rw [hw1]
   clear hw1
   refine (each_is (HLT.out.below HB1.out HS.out) (fun i hi => by have := HS.out i hi; omega) en_isBlank (fun x _ => as_isBlank x)).mono ?_
   rintro e w2 ⟨rfl, b2⟩
   rw [HALL.out]
   have hsz := b2.size
   have x0 := (HX1.out.below b2 (by omega)).cell
   have HB2 := zz (HB1.out.trans (b2.mono (by omega)))
   clear b2 HX1 HB1
   go_wp2_with fail
   refine (match_call [82, 82, 83] [onF kTarget, onF kTarget, onF kRecv] (by omega) rfl rfl rfl (by simp) (HL.out.below HB2.out HS.out) (fun i hi => by have := HS.out i hi; omega) (List.forall_mem_cons.2 ⟨en_isTarget, (List.forall_mem_cons.2 ⟨en_isTarget, (List.forall_mem_cons.2 ⟨en_isReceive, (fun _ h => by cases h)⟩)⟩)⟩) (fun j h1 _ _ => match j, h1 with
    | 0, _ => as_isTarget _
    | 1, _ => as_isTarget _
    | 2, _ => as_isReceive _
    | _ + 3, h => absurd h (by simp))).mono ?_
   rintro e w9 ⟨rfl, b9⟩
   rw [E.out]
   have HB9 := zz (HB2.out.trans (b9.mono (by omega)))
   clear b9 x0
   go_wp2
   go_ret
   exact ⟨rfl, HB9.out⟩
 ·have HALL := zz hall
  have E := zz (show false = b by rw [<- h, hall]; rfl)
  clear hall h
  go_enter Tryz.func57, Tryz.ntmps57
  go_wp2_with fail
  obtain ⟨w1, hw1, HB1, HX1, hs1⟩ := jb w ⟨6, t, n, y, s, a, l⟩ (.slice (some ⟨b0, o0, none⟩) (N + 1) c0)
  simp only at hw1
  rw [hw1]
  clear hw1
  refine (each_is (HLT.out.below HB1.out HS.out) (fun i hi => by have := HS.out i hi; omega) en_isBlank (fun x _ => as_isBlank x)).mono ?_
  rintro e w2 ⟨rfl, b2⟩
  rw [HALL.out]
  have hsz := b2.size
  have x0 := (HX1.out.below b2 (by omega)).cell
  have HB2 := zz (HB1.out.trans (b2.mono (by omega)))
  clear b2 HX1 HB1
  go_wp2
  go_ret
  exact ⟨zb E.out, HB2.out⟩
end
end Go.Proofs.YtmdhjiammcpogaaGreatDoor
