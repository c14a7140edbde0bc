import Derived.Test.YtmdhjiammcpogaaGreatDoorQ04
namespace Go.Proofs.YtmdhjiammcpogaaGreatDoor
set_option maxRecDepth 100000
set_option maxHeartbeats 16000000
section
open Go.RowKit
abbrev depI (ts : List Tr) : Int := (deps ts : Int)
theorem under_all (n : Nat) (hn : n <= 65536) : ∀ (a : List Tr) (w : World) (va : Value) (m : Md) (S : Nat -> Prop) (M : Nat) (l : List (LK × Value)) (mo : Int), cnts a <= n -> 0 <= mo -> mo <= 9223372036854775807 -> m.plain = true -> Kids w m S va a -> (∀ i, S i -> i < M) -> MapIs key1 w M l -> Kept depI w m S n l ->
 Calls Tryz.prog 21 #[.map (some M), va, .int .i64 mo] w fun e w' => Keep M w w' /\
  (((deps a : Int) <= mo /\ e = .returned (.tuple #[.int .i64 (deps a : Int), .bool true]) /\ ∃ l', MapIs key1 w' M l' /\ MoreN depI w' m S l l') ∨ (mo < (deps a : Int) /\ ∃ z, e = .returned (.tuple #[.int .i64 z, .bool false]))) := by
 induction n using Nat.strongRecOn with
 | ind n ih =>
  intro a w va m S M l mo hc h0m hmx hp ha hS hM hT
  obtain ⟨A, ca, ba, oa, rfl, hla, hA, hra⟩ := ha.form
  by_cases h0 : a.length = 0
  ·have e1 : a = [] := List.eq_nil_of_length_eq_zero h0
   subst e1
   have HM := zz hM
   have HT := zz hT
   refine (under_nil M A ca mo w).mono ?_
   rintro e w' ⟨rfl, rfl⟩
   exact ⟨Keep.refl _ _, Or.inl ⟨h0m, rfl, l, HM.out, MoreN.refl HT.out⟩⟩
  obtain ⟨rfl, hba, hpa⟩ := hA (by omega)
  have hpos : 0 < a.length := by omega
  have hd1 : 1 <= deps a := by
   have h1 := deps_mem (List.getElem_mem (show 0 < a.length from hpos))
   rw [dep_eq] at h1
   omega
  have hdc := deps_le_cnts a
  have HKA := zz (show KeyAt w m S ⟨ba, oa, a.length⟩ a from ⟨hpos, rfl, hba, hpa hp, hra⟩)
  have hMl := hM.lt
  have HM := zz hM
  have HT := zz hT
  have HC := zz hc
  have HSM := zz hS
  have qz : ((a.length : Int) == 0) = false := beq_false_of_ne (by omega)
  by_cases hz : mo = 0
  ·subst hz
   clear ih hc ha hS hM hT hA hra qz HM HT HC HSM HKA
   have qz : ((a.length : Int) == 0) = false := beq_false_of_ne (by omega)
   go_enter Tryz.func21, Tryz.ntmps21
   go_wp2
   go_ret2
   exact ⟨Keep.refl _ _, Or.inr ⟨by omega, 0, rfl⟩⟩
  have qm := beq_false_of_ne hz
  clear hA hM hT hc hra hS hpa h0 ha
  go_enter Tryz.func21, Tryz.ntmps21
  go_wp2_with fail
  refine (listof_is hpos _).mono ?_
  rintro e w1 ⟨rfl, b1⟩
  have HB1 := zz b1
  have hsz1 := b1.size
  clear b1
  have HM1 := zz (HM.out.below HB1.out hMl)
  have HG1 := zz (Agree.of_below HB1.out fun i hi => Nat.lt_trans (HSM.out i hi) hMl)
  have HT1 := zz (HT.out.agree HG1.out)
  have HO1 := zz (show ok1 w1 ⟨ba, oa, a.length⟩ from HKA.out.pb.agree HG1.out hba)
  cases hg : getE (⟨ba, oa, a.length⟩ : LK) l with
  | some v =>
   obtain rfl := HT.out.found hg HKA.out HC.out
   have HR := zz (show (match getE (⟨ba, oa, a.length⟩ : LK) l with | some v => Value.tuple #[v, .bool true] | none => .tuple #[.int .i64 0, .bool false]) = .tuple #[.int .i64 (deps a : Int), .bool true] by rw [hg])
   clear hg ih
   by_cases hle : (deps a : Int) <= mo
   ·have ql : decide ((deps a : Int) <= mo) = true := decide_eq_true hle
    go_wp2_with (first | (at_lookup; refine wpList_look (x := (⟨ba, oa, a.length⟩ : LK)) rfl _ _ rfl (keyT1 _) Tryz.underlying51 (zeroInt _) rfl HM1.out rfl HO1.out HT1.out.ok HR.out ?_) | go_in)
    go_ret2
    exact ⟨Keep.of_below HB1.out, Or.inl ⟨hle, rfl, l, HM1.out, MoreN.refl HT1.out⟩⟩
   ·have ql : decide ((deps a : Int) <= mo) = false := decide_eq_false hle
    go_wp2_with (first | (at_lookup; refine wpList_look (x := (⟨ba, oa, a.length⟩ : LK)) rfl _ _ rfl (keyT1 _) Tryz.underlying51 (zeroInt _) rfl HM1.out rfl HO1.out HT1.out.ok HR.out ?_) | go_in)
    go_ret2
    exact ⟨Keep.of_below HB1.out, Or.inr ⟨by omega, _, rfl⟩⟩
  | none =>
   have HR := zz (show (match getE (⟨ba, oa, a.length⟩ : LK) l with | some v => Value.tuple #[v, .bool true] | none => .tuple #[.int .i64 0, .bool false]) = .tuple #[.int .i64 0, .bool false] by rw [hg])
   have HIH := zz ih
   clear hg ih
   go_wp2_with (first | (at_lookup; refine wpList_look (x := (⟨ba, oa, a.length⟩ : LK)) rfl _ _ rfl (keyT1 _) Tryz.underlying51 (zeroInt _) rfl HM1.out rfl HO1.out HT1.out.ok HR.out ?_) | fail)
   refine (listof_is hpos _).mono ?_
   rintro e w2 ⟨rfl, b2⟩
   have HB2 := zz (HB1.out.trans (b2.mono hsz1))
   clear b2
   have hsz2 := HB2.out.size
   have HM2 := zz (HM.out.below HB2.out hMl)
   have HG2 := zz (Agree.of_below HB2.out fun i hi => Nat.lt_trans (HSM.out i hi) hMl)
   have HT2 := zz (HT.out.agree HG2.out)
   have HO2 := zz (show ok1 w2 ⟨ba, oa, a.length⟩ from HKA.out.pb.agree HG2.out hba)
   clear HM1 HG1 HT1 HO1 HR HB1
   go_wp2_with (first | (at_mapUpdate; refine wpList_put (x := (⟨ba, oa, a.length⟩ : LK)) rfl _ _ _ rfl (keyT1 _) Tryz.underlying51 rfl HM2.out rfl HO2.out HT2.out.ok rfl ?_; intro w4 hm4 hg4) | go_in)
   have hc1 : 0 < cnts a := Nat.lt_of_lt_of_le hpos (len_le_cnts a)
   have HK4 := zz (show Keep M w w4 from (Keep.of_below HB2.out).trans hg4)
   have HG5 := zz (show Agree S w w4 from fun i hi => HK4.out.block i (Nat.lt_trans (HSM.out i hi) hMl) (fun e => by cases e; exact Nat.lt_irrefl _ (HSM.out _ hi)))
   have HT5 := zz (show Kept depI w4 m S (cnts a - 1) (putE (⟨ba, oa, a.length⟩ : LK) (.int .i64 9223372036854775807) l) from (HT.out.agree HG5.out).put (HKA.out.agree HG5.out) (by have := HC.out; omega) (by omega))
   have HM5 := zz hm4
   clear hm4 hg4 HM2 HG2 HT2 HO2 HB2 HM
   go_loopw [10, 36] (fun d i wr => ∃ k : Nat, k <= a.length /\ i = .int .i64 k /\ d = .int .i64 (deps (a.take k) : Int) /\ (deps (a.take k) : Int) <= mo /\ Keep M w4 wr /\ ∃ l', MapIs key1 wr M l' /\ MoreN depI wr m S (putE (⟨ba, oa, a.length⟩ : LK) (.int .i64 9223372036854775807) l) l') (fun _ i _ => a.length - (intOf i).toNat)
   case atStart => exact ⟨0, Nat.zero_le _, rfl, by rw [List.take_zero]; rfl, by rw [List.take_zero]; exact h0m, Keep.refl _ _, _, HM5.out, MoreN.refl HT5.out⟩
   case round =>
    obtain ⟨k, hk, rfl, rfl, hdm, hkw, l', hml, hmo⟩ := hrel
    have HKW := zz hkw
    have HML := zz hml
    have HMO := zz hmo
    have HG6 := zz (show Agree S w wr from HG5.out.trans fun i hi => hkw.block i (Nat.lt_of_lt_of_le (Nat.lt_trans (HSM.out i hi) hMl) HK4.out.size) (fun e => by cases e; exact Nat.lt_irrefl _ (HSM.out _ hi)))
    clear hkw hml hmo
    have htl := deps_take_le a k
    by_cases hkl : k < a.length
    ·obtain ⟨va', c0, c1, c2, c3, c4, c5, c6, c7, hk'⟩ := ((HKA.out.agree HG6.out).row.get k hkl).open
     have HKa := zz hk'
     have HDS := zz (deps_succ hkl)
     have hMw : M < wr.heap.size := HML.out.lt
     have i0 : (0 : Int) <= (k : Int) := by omega
     have i1 : (k : Int) < (a.length : Int) := by omega
     have hcn := cnts_mem (List.getElem_mem hkl)
     have hlt2 : cnts a[k].ks <= cnts a - 1 := by
      rw [show a[k] = .mk a[k].f a[k].ks from by cases a[k]; rfl] at hcn
      unfold cnt at hcn
      omega
     have HCN := zz hlt2
     have hdk := deps_le_cnts a[k].ks
     have HAG : ∀ w', Keep M wr w' -> Hid (Agree S wr w') := fun w' h => zz (h.agree fun i hi => ⟨Nat.lt_trans (HSM.out i hi) hMw, Nat.ne_of_lt (HSM.out i hi)⟩)
     have HTW := zz (HMO.out.kept (HT5.out.agree (fun i hi => HKW.out.block i (Nat.lt_of_lt_of_le (Nat.lt_trans (HSM.out i hi) hMl) HK4.out.size) (fun e => by cases e; exact Nat.lt_irrefl _ (HSM.out _ hi)))))
     have HLT := zz (show cnts a - 1 < n by have := HC.out; omega)
     have hRb : deps a[k].ks <= 65536 := by have := HC.out; omega
     clear hk' hcn hlt2
     go_wp2_with fail
     refine (HIH.out (cnts a - 1) HLT.out (by have := HLT.out; omega) a[k].ks _ va' m S M l' (mo - 1) HCN.out (by omega) (by omega) hp HKa.out HSM.out HML.out HTW.out).mono ?_
     rintro e w6 ⟨k6, h6⟩
     have HK6 := zz k6
     clear k6 c0 c1 c2 c3 c4 c5 c6 c7
     rcases h6 with ⟨hle, rfl, l'', hm6, hmo6⟩ | ⟨hgt, z, rfl⟩
     ·have HM6 := zz hm6
      have HO6 := zz (show MoreN depI w6 m S (putE (⟨ba, oa, a.length⟩ : LK) (.int .i64 9223372036854775807) l) l'' from (HMO.out.agree ((HAG _ HK6.out).out)).trans hmo6)
      have HMX := zz (show (max (deps (a.take k) : Int) ((deps a[k].ks : Int) + 1)) = (deps (a.take (k + 1)) : Int) by rw [HDS.out]; omega)
      clear hm6 hmo6 hdk
      go_wp2
      go_roundw
      case rel => exact ⟨k + 1, by omega, by go_num, by congr 1; rw [<- HMX.out]; split <;> omega, by rw [<- HMX.out]; omega, HKW.out.trans HK6.out, l'', HM6.out, HO6.out⟩
      case measure => simp [intOf]; omega
     ·have HGT := zz (show mo < (deps a : Int) by
       have h1 := deps_mem (List.getElem_mem hkl)
       rw [dep_eq] at h1
       omega)
      clear hdk
      go_wp2
      go_ret2
      exact ⟨HK4.out.trans (HKW.out.trans HK6.out), Or.inr ⟨HGT.out, 0, rfl⟩⟩
    ·obtain rfl : k = a.length := by omega
     rw [List.take_length] at *
     have HDM := zz hdm
     have hMw : M < wr.heap.size := HML.out.lt
     clear hdm htl
     go_wp2_with fail
     refine (listof_is hpos _).mono ?_
     rintro e w7 ⟨rfl, b7⟩
     have HB7 := zz b7
     clear b7
     have HM7 := zz (HML.out.below HB7.out hMw)
     have HG7 := zz (Agree.of_below HB7.out fun i hi => Nat.lt_trans (HSM.out i hi) hMw)
     have HO7 := zz (HMO.out.agree HG7.out)
     have HT7 := zz (HO7.out.kept ((HT5.out.agree (fun i hi => HKW.out.block i (Nat.lt_of_lt_of_le (Nat.lt_trans (HSM.out i hi) hMl) HK4.out.size) (fun e => by cases e; exact Nat.lt_irrefl _ (HSM.out _ hi)))).agree HG7.out))
     have HOK := zz (show ok1 w7 ⟨ba, oa, a.length⟩ from (HKA.out.pb.agree HG6.out hba).agree HG7.out hba)
     go_wp2_with (first | (at_mapUpdate; refine wpList_put (x := (⟨ba, oa, a.length⟩ : LK)) rfl _ _ _ rfl (keyT1 _) Tryz.underlying51 rfl HM7.out rfl HOK.out HT7.out.ok rfl ?_; intro w8 hm8 hg8) | go_in)
     go_ret2
     have ag8 : Agree S w7 w8 := fun i hi => (show Keep M w7 w8 from hg8).block i (Nat.lt_of_lt_of_le (Nat.lt_trans (HSM.out i hi) hMw) HB7.out.size) (fun e => by cases e; exact Nat.lt_irrefl _ (HSM.out _ hi))
     exact ⟨HK4.out.trans (HKW.out.trans ((Keep.of_below HB7.out).trans hg8)), Or.inl ⟨HDM.out, rfl, _, hm8, (HO7.out.agree ag8).closed (((HKA.out.agree HG6.out).agree HG7.out).agree ag8)⟩⟩
end
section
open Go.RowKit
variable {S : Nat -> Prop} {t : Tr} {ts : List Tr} {v : Value} {w : World}
def rc (c : Nat) (m : Int) : Int := if m <= 0 then 1 else min (c : Int) (m + 1)
def rcs (ts : List Tr) (m : Int) (k : Nat) : Int := min (1 + (cnts (ts.take k) : Int)) (m + 1)
theorem cnts_take_succ {k : Nat} (h : k < ts.length) : cnts (ts.take (k + 1)) = cnts (ts.take k) + cnt ts[k] := by
 rw [List.take_succ_eq_append_getElem h, cnts_app]
 simp [cnts]
theorem cnts_take_le (ts : List Tr) (k : Nat) : cnts (ts.take k) <= cnts ts := by
 have := cnts_app (ts.take k) (ts.drop k)
 rw [List.take_append_drop] at this
 omega
theorem rcs_zero (ts : List Tr) {m : Int} (h : 0 < m) : rcs ts m 0 = 1 := by
 unfold rcs
 simp [cnts]
 omega
theorem rcs_succ {m : Int} {k : Nat} (h : k < ts.length) (hm : rcs ts m k <= m) : rcs ts m (k + 1) = rcs ts m k + rc (cnt ts[k]) (m - rcs ts m k) := by
 unfold rcs rc at *
 rw [cnts_take_succ h]
 have := cnt_pos ts[k]
 split
 ·omega
 ·omega
theorem rcs_bd (ts : List Tr) (m : Int) (k : Nat) (h : 0 < m) : 1 <= rcs ts m k /\ rcs ts m k <= m + 1 /\ rcs ts m k <= 1 + cnts ts := by
 have := cnts_take_le ts k
 unfold rcs
 omega
theorem rcs_end {m : Int} {k : Nat} (h : 0 < m) (hk : t.ks.length <= k ∨ m < rcs t.ks m k) : rcs t.ks m k = rc (cnt t) m := by
 obtain ⟨f, ks⟩ := t
 have h1 := cnts_take_le ks k
 unfold rc
 rw [if_neg (by omega)]
 simp only [Tr.ks] at hk |-
 unfold rcs at *
 unfold cnt
 rcases hk with hk | hk
 ·rw [List.take_of_length_le hk]
  omega
 ·omega
theorem rcount_all (n : Nat) : ∀ (t : Tr) (w : World) (v : Value) (pl : Md) (S : Nat -> Prop) (m : Int), cnt t <= n -> Kids w pl S v t.ks -> (∀ i, S i -> i < w.heap.size) -> (m < 9223372036854775807 ∨ cnt t <= 65536) -> m <= 9223372036854775807 ->
 Calls Tryz.prog 14 #[nv t.f v, .int .i64 m] w fun e w' => e = .returned (.int .i64 (rc (cnt t) m)) /\ Below w.heap.size w w' := by
 induction n with
 | zero => intro t w v pl S m h; have := cnt_pos t; omega
 | succ n ih =>
  intro t w v pl S m hc hK hN hm hmx
  unfold nv
  by_cases h0 : m <= 0
  ·have E := zz (show (1 : Int) = rc (cnt t) m by unfold rc; rw [if_pos h0])
   clear ih hc hK hN hm hmx
   by_cases h1 : m < 0
   ·go_enter Tryz.func14, Tryz.ntmps14
    go_wp2
    go_ret
    exact ⟨ret_int E.out, (Below.refl _ _).alloc (Nat.le_refl _) _⟩
   ·obtain rfl : m = 0 := by omega
    go_enter Tryz.func14, Tryz.ntmps14
    go_wp2
    go_ret
    exact ⟨ret_int E.out, (Below.refl _ _).alloc (Nat.le_refl _) _⟩
  ·have hm0 : 0 < m := by omega
   have q0 : decide (m < 0) = false := decide_eq_false (by omega)
   have q1 : (m == 0) = false := by simp; omega
   obtain ⟨A, c, b, o, rfl, hln, hA, hr⟩ := hK.form
   have HK := zz hK
   have HC := zz hc
   have HM := zz hm
   have HX := zz hmx
   have HA := zz hA
   clear hK hc hm hA
   go_enter Tryz.func14, Tryz.ntmps14
   go_wp2
   obtain ⟨w1, hw1, HB1, HX1, hs1⟩ := jb w t.f (.slice A t.ks.length c)
   rw [hw1]
   clear hw1
   have hlt := HX1.out.lt
   go_loopw [5, 6] (fun s i wr => ∃ k : Nat, k <= t.ks.length /\ i = .int .i64 k /\ s = .int .i64 (rcs t.ks m k) /\ Below w1.heap.size w1 wr) (fun _ i _ => t.ks.length - (intOf i).toNat)
   case atStart => exact ⟨0, Nat.zero_le _, rfl, by rw [rcs_zero _ hm0], Below.refl _ _⟩
   case round =>
    obtain ⟨k, hk, rfl, rfl, hbw⟩ := hrel
    have bd := rcs_bd t.ks m k hm0
    have hsz := hbw.size
    have HBW := zz hbw
    generalize hS : rcs t.ks m k = C at *
    have HS := zz hS
    have x0 := (HX1.out.below hbw hlt).cell
    by_cases hkl : k < t.ks.length
    ·by_cases hsm : C <= m
     ·obtain ⟨hA1, hb, _⟩ := HA.out (by omega)
      subst hA1
      have hr2 := (hr.agree (Agree.of_below HB1.out hN) hb).agree (Agree.of_below hbw fun i hi => by have := hN i hi; omega) hb
      obtain ⟨v', c0, c1, c2, c3, c4, c5, c6, c7, hk'⟩ := (hr2.get k hkl).open
      have hcn := cnts_mem (List.getElem_mem hkl)
      have HK' := zz hk'
      have hlt2 : cnt t.ks[k] <= n := by
       have h1 := HC.out
       obtain ⟨f, ks⟩ := t
       unfold cnt at h1
       simp only [Tr.ks] at hcn |-
       omega
      have HL2 := zz hlt2
      clear hk' hr2 hcn hlt2 hbw hS
      go_wp2_with fail
      refine (ih t.ks[k] wr v' pl S (m - C) HL2.out HK'.out (fun i hi => by have := hN i hi; omega) (Or.inl (by omega)) (by omega)).mono ?_
      rintro e w' ⟨rfl, hb'⟩
      have h1 := rcs_succ hkl (by rw [HS.out]; exact hsm)
      rw [HS.out] at h1
      have h2 := rcs_bd t.ks m (k + 1) hm0
      generalize rc (cnt t.ks[k]) (m - C) = R at *
      rw [h1] at h2
      have h3 : C + R <= 9223372036854775807 := by
       rcases HM.out with h | h
       ·omega
       ·obtain ⟨f, ks⟩ := t
        unfold cnt at h
        simp only [Tr.ks] at h2
        omega
      have h4 : 1 <= C + R := h2.1
      have H1 := zz h1
      have HB' := zz (HBW.out.trans (hb'.mono hsz))
      clear h1 h2 bd hb' c0 c1 c2 c3 c4 c5 c6 c7 x0 hr ih
      go_wp2
      go_roundw
      case rel => exact ⟨k + 1, by omega, by go_num, by rw [H1.out], HB'.out⟩
      case measure => simp [intOf]; omega
     ·have E := zz (rcs_end (t := t) (k := k) hm0 (Or.inr (by rw [HS.out]; omega)))
      rw [HS.out] at E
      have HB' := zz ((HB1.out.trans (hbw.mono HB1.out.size)))
      clear hbw hS hr ih
      go_wp2
      go_ret
      exact ⟨ret_int E.out, HB'.out⟩
    ·have E := zz (rcs_end (t := t) (k := k) hm0 (Or.inl (by omega)))
     rw [HS.out] at E
     have HB' := zz ((HB1.out.trans (hbw.mono HB1.out.size)))
     clear hbw hS hr ih
     go_wp2
     go_ret
     exact ⟨ret_int E.out, HB'.out⟩
theorem great_any {pl : Md} (hK : Kids w pl S v t.ks) (hN : ∀ i, S i -> i < w.heap.size) {g : Bool} (hg : decide (65536 < cnt t) = g) :
 Calls Tryz.prog 5 #[nv t.f v] w fun e w' => e = .returned (.bool g) /\ Below w.heap.size w w' := by
 have hr : rc (cnt t) 65536 = min (cnt t : Int) 65537 := by unfold rc; rw [if_neg (by decide)]; rfl
 generalize hR : rc (cnt t) 65536 = R at hr
 have hd : decide (65536 < R) = g := by
  rw [<- hg, hr]
  by_cases h : 65536 < cnt t
  ·rw [decide_eq_true h, decide_eq_true (by omega)]
  ·rw [decide_eq_false h, decide_eq_false (by omega)]
 have HK := zz hK
 have HR := zz hR
 clear hK hr hg hR
 unfold nv
 go_enter Tryz.func5, Tryz.ntmps5
 go_wp2_with fail
 have hb1 := (Below.refl w.heap.size w).alloc (Nat.le_refl _) (.cells #[.int .i64 t.f.k, .string t.f.t, .int .i64 t.f.n, .string t.f.y, .int .i64 t.f.s, .int .i64 t.f.a, .int .i64 t.f.l, v] 25)
 refine (rcount_all (cnt t) t _ v pl S 65536 (Nat.le_refl _) (HK.out.below hb1 hN) (fun i hi => Nat.lt_of_lt_of_le (hN i hi) hb1.size) (Or.inl (by decide)) (by decide)).mono ?_
 rintro e w' ⟨rfl, hb'⟩
 rw [HR.out]
 have HB := zz (hb1.trans (hb'.mono hb1.size))
 clear hb1 hb'
 go_wp2
 go_ret
 exact ⟨rfl, HB.out⟩
end
section
open Go.RowKit
variable {S : Nat -> Prop} {m : Md} {t : Tr} {ts : List Tr} {v : Value} {w : World}
theorem tdepth_is {mo : Int} (hc : cnt t <= 65536) (hp : m.plain = true) (hK : Kids w m S v t.ks) (hN : ∀ i, S i -> i < w.heap.size) (hmx : mo <= 9223372036854775807) :
 Calls Tryz.prog 10 #[nv t.f v, .int .i64 mo] w fun e w' => e = .returned (.int .i64 (rc (dep t) mo)) /\ Below w.heap.size w w' := by
 have hmm := @run_makeMap Tryz.prog
 have hd := dep_eq t
 have hle := dep_le_cnt t
 unfold nv
 by_cases h1 : mo < 1
 ·have q : decide (mo < 1) = true := decide_eq_true h1
  have E := zz (show (1 : Int) = rc (dep t) mo by unfold rc; rw [if_pos (by omega)])
  clear hd hle hK
  go_enter Tryz.func10, Tryz.ntmps10
  go_wp2
  go_ret
  exact ⟨ret_int E.out, (box1 _ _).out⟩
 ·have q : decide (mo < 1) = false := decide_eq_false h1
  have hcs : cnts t.ks <= 65536 := by cases t; unfold cnt at hc; simp only [Tr.ks]; omega
  have HK := zz hK
  clear hK
  go_enter Tryz.func10, Tryz.ntmps10
  go_wp2_with fail
  obtain ⟨w1, hw1, HB1, HX1, hs1⟩ := jb w t.f v
  rw [hw1]
  clear hw1 HX1
  have hb2 := (Below.refl w1.heap.size w1).alloc (Nat.le_refl _) (.map #[] 0)
  have hnew := MapIs.new key1 w1
  rw [hs1] at hnew
  refine (under_all (cnts t.ks) hcs t.ks _ v m S (w.heap.size + 1) [] (mo - 1) (Nat.le_refl _) (by omega) (by omega) hp ((HK.out.below HB1.out hN).below hb2 fun i hi => by have := hN i hi; omega) (fun i hi => by have := hN i hi; omega) hnew Kept.none).mono ?_
  rintro e w3 ⟨k3, h3⟩
  have HB3 := zz (Keep.below (w0 := w) (HB1.out.trans (hb2.mono (by omega))) (by omega) k3)
  clear k3 hb2 hnew HB1 HK
  rcases h3 with ⟨h3, rfl, _⟩ | ⟨h3, z, rfl⟩
  ·have E := zz (show (deps t.ks : Int) + 1 = rc (dep t) mo by unfold rc; rw [if_neg (by omega)]; omega)
   go_wp2
   go_ret
   exact ⟨ret_int E.out, HB3.out⟩
  ·have E := zz (show mo + 1 = rc (dep t) mo by unfold rc; rw [if_neg (by omega)]; omega)
   go_wp2
   go_ret
   exact ⟨ret_int E.out, HB3.out⟩
def rds (ts : List Tr) (m : Int) (k : Nat) : Int := min (deps (ts.take k) : Int) m
theorem rds_bd (ts : List Tr) (m : Int) (k : Nat) (hm : 0 < m) : 0 <= rds ts m k /\ rds ts m k <= m /\ rds ts m k <= deps ts := by
 have := deps_take_le ts k
 unfold rds
 omega
theorem rds_succ {m : Int} {k : Nat} (hk : k < ts.length) (hm : 0 < m) : rds ts m (k + 1) = max (rds ts m k) (rc (dep ts[k]) (m - 1)) := by
 unfold rds rc
 rw [deps_succ hk, dep_eq]
 split <;> omega
theorem rds_end {m : Int} {k : Nat} (hm : 0 < m) (h : t.ks.length <= k ∨ m <= rds t.ks m k) : rds t.ks m k + 1 = rc (dep t) m := by
 have h1 := deps_take_le t.ks k
 unfold rc
 rw [if_neg (by omega), dep_eq]
 unfold rds at *
 rcases h with h | h
 ·rw [List.take_of_length_le h]
  omega
 ·omega
theorem rdepth_all (n : Nat) (hn : n <= 65536) : ∀ (t : Tr) (w : World) (v : Value) (pl : Md) (S : Nat -> Prop) (m : Int), cnt t <= n -> Kids w pl S v t.ks -> (∀ i, S i -> i < w.heap.size) -> m <= 9223372036854775807 ->
 Calls Tryz.prog 15 #[nv t.f v, .int .i64 m] w fun e w' => e = .returned (.int .i64 (rc (dep t) m)) /\ Below w.heap.size w w' := by
 induction n with
 | zero => intro t w v pl S m h; have := cnt_pos t; omega
 | succ n ih =>
  intro t w v pl S m hc hK hN hmx
  have hdc := dep_le_cnt t
  unfold nv
  by_cases h0 : m <= 0
  ·have E := zz (show (1 : Int) = rc (dep t) m by unfold rc; rw [if_pos h0])
   have q0 : decide (m <= 0) = true := decide_eq_true h0
   clear ih hc hK hN hmx hdc
   go_enter Tryz.func15, Tryz.ntmps15
   go_wp2
   go_ret
   exact ⟨ret_int E.out, (box1 _ _).out⟩
  ·have hm0 : 0 < m := by omega
   have q0 : decide (m <= 0) = false := decide_eq_false h0
   obtain ⟨A, c, b, o, rfl, hln, hA, hr⟩ := hK.form
   have HD0 := zz (dep_eq t)
   have HK := zz hK
   have HC := zz hc
   have HX := zz hmx
   have HA := zz hA
   clear hK hc hA
   go_enter Tryz.func15, Tryz.ntmps15
   go_wp2
   obtain ⟨w1, hw1, HB1, HX1, hs1⟩ := jb w t.f (.slice A t.ks.length c)
   rw [hw1]
   clear hw1
   have hlt := HX1.out.lt
   go_loopw [5, 6] (fun s i wr => ∃ k : Nat, k <= t.ks.length /\ i = .int .i64 k /\ s = .int .i64 (rds t.ks m k) /\ Below w1.heap.size w1 wr) (fun _ i _ => t.ks.length - (intOf i).toNat)
   case atStart => exact ⟨0, Nat.zero_le _, rfl, by unfold rds; rw [List.take_zero]; show _ = Value.int .i64 (min 0 m); congr 1; omega, Below.refl _ _⟩
   case round =>
    obtain ⟨k, hk, rfl, rfl, hbw⟩ := hrel
    have bd := rds_bd t.ks m k hm0
    have hC1 : rds t.ks m k + 1 <= 9223372036854775807 := by have := HC.out; have := HD0.out; omega
    have hsz := hbw.size
    have HBW := zz hbw
    generalize hS : rds t.ks m k = C at *
    have HS := zz hS
    have x0 := (HX1.out.below hbw hlt).cell
    by_cases hkl : k < t.ks.length
    ·by_cases hsm : C < m
     ·obtain ⟨hA1, hb, _⟩ := HA.out (by omega)
      subst hA1
      have hr2 := (hr.agree (Agree.of_below HB1.out hN) hb).agree (Agree.of_below hbw fun i hi => by have := hN i hi; omega) hb
      obtain ⟨v', c0, c1, c2, c3, c4, c5, c6, c7, hk'⟩ := (hr2.get k hkl).open
      have HK' := zz hk'
      have HL2 := zz (cnts_lt HC.out hkl)
      have qs : decide (C < m) = true := decide_eq_true hsm
      clear hk' hr2 hbw hS
      go_wp2_with fail
      refine (ih (by omega) t.ks[k] wr v' pl S (m - 1) HL2.out HK'.out (fun i hi => by have := hN i hi; omega) (by omega)).mono ?_
      rintro e w' ⟨rfl, hb'⟩
      have h1 := rds_succ (m := m) hkl hm0
      rw [HS.out] at h1
      generalize rc (dep t.ks[k]) (m - 1) = R at *
      have H1 := zz h1
      have HB' := zz (HBW.out.trans (hb'.mono hsz))
      clear h1 bd hb' c0 c1 c2 c3 c4 c5 c6 c7 x0 hr ih
      go_wp2
      go_roundw
      case rel => exact ⟨k + 1, by omega, by go_num, by rw [H1.out]; congr 1; split <;> omega, HB'.out⟩
      case measure => simp [intOf]; omega
     ·have E := zz (rds_end (t := t) (k := k) hm0 (Or.inr (by rw [HS.out]; omega)))
      rw [HS.out] at E
      have qs : decide (C < m) = false := decide_eq_false hsm
      have HB' := zz ((HB1.out.trans (hbw.mono HB1.out.size)))
      clear hbw hS hr ih
      go_wp2
      go_ret
      exact ⟨ret_int E.out, HB'.out⟩
    ·have E := zz (rds_end (t := t) (k := k) hm0 (Or.inl (by omega)))
     rw [HS.out] at E
     have HB' := zz ((HB1.out.trans (hbw.mono HB1.out.size)))
     clear hbw hS hr ih
     go_wp2
     go_ret
     exact ⟨ret_int E.out, HB'.out⟩
end
section
open Go.RowKit
variable {N : Nat} {S : Nat -> Prop} {m : Md} {t : Tr} {v : Value} {w w' : World}
section
variable {κ : Type} [DecidableEq κ] {key : κ -> Value} {ok : κ -> Prop} {w : World} {kT e T : TypeId} {M : Nat} {l : List (κ × Value)} {x : κ}
theorem step_look {ops : Array Oper} {o : Oper} {a : Act} {K : Act -> World -> Prop} {Q : Exit -> Act -> World -> Prop} {E : Prop} (hg : o.guard = none) (m y : Operand) (hop : o.op = Op.lookup T m y true) (KT : KeyT kT key w ok) (hT : Tryz.prog.underlying T = some (.map kT e)) {z : Value} (hz : (zeroValue e).run Tryz.prog w = .ok z w) (hm : a.eval m = .map (some M)) (hM : MapIs key w M l) (hy : a.eval y = key x) (hx : ok x) (hl : ∀ e ∈ l, ok e.1) {r : Value} (hr : (match getE x l with | some v => Value.tuple #[v, .bool true] | none => .tuple #[z, .bool false]) = r) (hK : K (a.put o.dst r) w) : if Region.wanted o (yielded ops a.tmps) = true then Oper.wp Tryz.prog o a w K Q else E := by
 have hw : Region.wanted o (yielded ops a.tmps) = true := by simp [Region.wanted, hg]
 rw [if_pos hw]
 have hrun := run_look KT hT hz hM hx hl
 cases hge : getE x l with
 | none =>
  rw [hge] at hr hrun
  simp only at hr hrun
  subst hr
  unfold Oper.wp
  simp [execOp, hop, hm, hy, hrun, Result.andThen]
  exact hK
 | some v =>
  rw [hge] at hr hrun
  simp only at hr hrun
  subst hr
  unfold Oper.wp
  simp [execOp, hop, hm, hy, hrun, Result.andThen]
  exact hK
theorem step_put {ops : Array Oper} {o : Oper} {a : Act} {K : Act -> World -> Prop} {Q : Exit -> Act -> World -> Prop} {E : Prop} (hg : o.guard = none) (m y u : Operand) (hop : o.op = Op.mapUpdate T m y u) (KT : KeyT kT key w ok) (hT : Tryz.prog.underlying T = some (.map kT e)) (hm : a.eval m = .map (some M)) (hM : MapIs key w M l) (hy : a.eval y = key x) (hx : ok x) (hl : ∀ e ∈ l, ok e.1) (hu : a.eval u = v) (hK : ∀ w', MapIs key w' M (putE x v l) -> w.grownBy w' (some M) -> K (a.put o.dst undef) w') : if Region.wanted o (yielded ops a.tmps) = true then Oper.wp Tryz.prog o a w K Q else E := by
 have hw : Region.wanted o (yielded ops a.tmps) = true := by simp [Region.wanted, hg]
 rw [if_pos hw]
 obtain ⟨es, clock, hrun, h2⟩ := run_put KT hT hM hx hl v
 unfold Oper.wp
 simp [execOp, hop, hm, hy, hu, hrun, Result.andThen]
 refine hK _ ⟨es, clock, ?_, h2⟩ ?_
 ·simp [ChangeMaps.setBlock, hM.lt]
 ·refine ⟨rfl, rfl, rfl, by simp [ChangeMaps.setBlock], fun i _ hne => ?_⟩
  have hne' : M ≠ i := fun h => hne (by rw [h])
  simp [ChangeMaps.setBlock, hne']
end
structure Ctr (w : World) (C : Nat) (left : Int) (M : Nat) : Prop where
 blk : w.heap[C]? = some (.cells #[.int .i64 left, .map (some M)] 49 (0, 0))
theorem Ctr.lt {C M : Nat} {left : Int} (h : Ctr w C left M) : C < w.heap.size := (Array.getElem?_eq_some_iff.1 h.blk).1
theorem Ctr.cell {w : World} {C M : Nat} {left : Int} (h : Ctr w C left M) : w.cell? ⟨C, 0, none⟩ = some (.int .i64 left) /\ w.cell? ⟨C, 1, none⟩ = some (.map (some M)) /\ w.frozen? ⟨C, 0, none⟩ = false := by
 refine ⟨?_, ?_, ?_⟩ <;> simp [World.cell?, World.frozen?, h.blk]
theorem Ctr.below {C M : Nat} {left : Int} (h : Ctr w C left M) (hb : Below N w w') (hN : C < N) : Ctr w' C left M := ⟨(hb.block C hN).trans h.blk⟩
theorem Ctr.keep {C M : Nat} {left : Int} (h : Ctr w C left M) (hb : Keep M w w') (hN : M < C) : Ctr w' C left M := ⟨(hb.block C h.lt (fun e => by cases e; omega)).trans h.blk⟩
theorem Ctr.set {C M : Nat} {left : Int} (h : Ctr w C left M) (v : Int) : Ctr (w.setCell ⟨C, 0, none⟩ (.int .i64 v)) C v M := ⟨by simp [World.setCell, Array.getElem?_modify, h.blk]⟩
abbrev XC (M C : Nat) : Nat -> Prop := fun i => i = M ∨ i = C
theorem Ex.keep {M C : Nat} (h : Keep M w w') : Ex (XC M C) w w' := Ex.of_grown h fun _ e => Or.inl (Option.some.inj e).symm
abbrev cntI (ts : List Tr) : Int := (cnts ts : Int)
theorem cnts_succ {l : List Tr} {k : Nat} (h : k < l.length) : cnts (l.take (k + 1)) = cnts (l.take k) + (1 + cnts l[k].ks) := by
 rw [cnts_take_succ h]
 congr 1
 cases l[k]
 rfl
theorem cnts_sum (l : List Tr) (k : Nat) (hk : k <= l.length) : l.length + (cnts (l.take k) - k) <= cnts l /\ k <= cnts (l.take k) := by
 have h1 := cnts_app (l.take k) (l.drop k)
 rw [List.take_append_drop] at h1
 have h2 := len_le_cnts (l.drop k)
 have h3 := len_le_cnts (l.take k)
 rw [List.length_drop] at h2
 rw [List.length_take] at h3
 omega
theorem known_is {C M : Nat} {left z : Int} (hC : Ctr w C left M) (h0 : 0 <= left) (h1 : left <= 9223372036854775807) (hz : 0 <= z) (hz1 : z <= 9223372036854775807) :
 Calls Tryz.prog 35 #[.pointer (some ⟨C, 0, none⟩), .int .i64 z] w fun e w' => (z <= left /\ e = .returned (.bool true) /\ w' = w.setCell ⟨C, 0, none⟩ (.int .i64 (left - z))) ∨ (left < z /\ e = .returned (.bool false) /\ w' = w) := by
 obtain ⟨c0, c1, c2⟩ := hC.cell
 clear hC
 by_cases h : left < z
 ·have q : decide (left < z) = true := decide_eq_true h
  have H := zz h
  clear h
  go_enter Tryz.func35, Tryz.ntmps35
  go_wp2
  go_ret
  exact Or.inr ⟨H.out, rfl, rfl⟩
 ·have q : decide (left < z) = false := decide_eq_false h
  have H := zz (show z <= left by omega)
  have i0 : (0 : Int) <= left - z := by omega
  have i1 : left - z <= 9223372036854775807 := by omega
  clear h
  go_enter Tryz.func35, Tryz.ntmps35
  go_wp2
  go_ret
  exact Or.inl ⟨H.out, rfl, rfl⟩
theorem take_nil (C : Nat) (A : Option Addr) (c : Nat) (w : World) :
 Calls Tryz.prog 20 #[.pointer (some ⟨C, 0, none⟩), .slice A 0 c] w fun e w' => e = .returned (.bool true) /\ w' = w := by
 go_enter Tryz.func20, Tryz.ntmps20
 go_wp2
 go_ret
 exact ⟨rfl, rfl⟩
theorem take_all (n : Nat) (hn : n <= 65536) : ∀ (a : List Tr) (w : World) (va : Value) (m : Md) (S : Nat -> Prop) (M C : Nat) (l : List (LK × Value)) (left : Int), cnts a <= n -> 0 <= left -> left <= 9223372036854775807 -> m.plain = true -> Kids w m S va a -> (∀ i, S i -> i < M) -> M < C -> Ctr w C left M -> MapIs key1 w M l -> Kept cntI w m S n l ->
 Calls Tryz.prog 20 #[.pointer (some ⟨C, 0, none⟩), va] w fun e w' => Ex (XC M C) w w' /\
  (((cnts a : Int) <= left /\ e = .returned (.bool true) /\ Ctr w' C (left - (cnts a : Int)) M /\ ∃ l', MapIs key1 w' M l' /\ MoreN cntI w' m S l l') ∨ (left < (cnts a : Int) /\ e = .returned (.bool false))) := by
 induction n using Nat.strongRecOn with
 | ind n ih =>
  intro a w va m S M C l left hc hl0 hl1 hp ha hS hMC hCt hM hT
  obtain ⟨A, ca, ba, oa, rfl, hla, hA, hra⟩ := ha.form
  by_cases h0 : a.length = 0
  ·have e1 : a = [] := List.eq_nil_of_length_eq_zero h0
   subst e1
   have HM := zz hM
   have HT := zz hT
   have HC := zz hCt
   refine (take_nil C A ca w).mono ?_
   rintro e w' ⟨rfl, rfl⟩
   refine ⟨Ex.refl _ _, Or.inl ⟨hl0, rfl, ?_, l, HM.out, MoreN.refl HT.out⟩⟩
   have := HC.out
   simpa [cnts] using this
  obtain ⟨rfl, hba, hpa⟩ := hA (by omega)
  have hpos : 0 < a.length := by omega
  have hlc := len_le_cnts a
  have HKA := zz (show KeyAt w m S ⟨ba, oa, a.length⟩ a from ⟨hpos, rfl, hba, hpa hp, hra⟩)
  have hMl := hM.lt
  have hCl := hCt.lt
  have HM := zz hM
  have HT := zz hT
  have HCN0 := zz hc
  have HC := zz hCt
  have HSM := zz hS
  have qz : ((a.length : Int) == 0) = false := beq_false_of_ne (by omega)
  obtain ⟨c0, c1, c2⟩ := hCt.cell
  clear hA hM hT hc hra hS hpa h0 ha hCt
  by_cases hgt : left < (a.length : Int)
  ·have qg : decide (left < (a.length : Int)) = true := decide_eq_true hgt
   clear ih
   go_enter Tryz.func20, Tryz.ntmps20
   go_wp2
   go_ret
   exact ⟨Ex.refl _ _, Or.inr ⟨by omega, rfl⟩⟩
  have qg : decide (left < (a.length : Int)) = false := decide_eq_false hgt
  cases hg : getE (⟨ba, oa, a.length⟩ : LK) l with
  | some v =>
   obtain rfl := HT.out.found hg HKA.out HCN0.out
   have HR := zz (show (match getE (⟨ba, oa, a.length⟩ : LK) l with | some v => Value.tuple #[v, .bool true] | none => .tuple #[.int .i64 0, .bool false]) = .tuple #[.int .i64 (cnts a : Int), .bool true] by rw [hg])
   clear hg ih
   go_enter Tryz.func20, Tryz.ntmps20
   go_wp2
   refine wp_region_held_drew (S := Below w.heap.size w) (by kernel_rfl) ?_ (fun zk => ?_)
   ·exact zd _
   apply tk 0 o347_ rfl (by kernel_rfl) (fun _ _ _ h => h) zk
   ·intro wq zq
    go_simp
    try rfl
   go_frame
   apply tk 1 o348_ rfl (by kernel_rfl) (fun _ _ _ h => h) zk
   ·intro wq zq
    go_simp
    try rfl
   go_frame
   apply tk 2 o349_ rfl (by kernel_rfl) (fun _ _ _ h => h) zk
   ·intro wq zq
    go_simp
    try rfl
   go_frame
   apply tk 3 o350_ rfl (by kernel_rfl) (fun _ _ _ h => h) zk
   ·intro wq zq
    obtain ⟨c0, c1, c2⟩ := (HC.out.below zq (by omega)).cell
    go_simp
    try rfl
   go_frame
   apply tk 4 o351_ rfl (by kernel_rfl) (fun _ _ _ h => h) zk
   ·intro wq zq
    go_simp
    try rfl
   go_frame
   refine rd 5 o352_ rfl (by kernel_rfl) fun K hK => ?_
   go_simp
   refine (listof_is hpos _).mono ?_
   rintro e w5 ⟨rfl, b5⟩
   have HB5 := bt2 (zz zk) b5
   clear b5
   go_wp2_with fail
   refine hK.out _ _ ?_ (fun zk => ?_)
   ·exact HB5.out
   clear hK K
   try go_frame
   refine rd 6 o353_ rfl (by kernel_rfl) fun K hK => ?_
   have HG5 := zz (Agree.of_below (S := S) zk fun i hi => Nat.lt_trans (HSM.out i hi) hMl)
   refine step_look (x := (⟨ba, oa, a.length⟩ : LK)) rfl _ _ rfl (keyT1 _) Tryz.underlying47 (zeroInt _) rfl (HM.out.below zk hMl) rfl (show ok1 _ ⟨ba, oa, a.length⟩ from HKA.out.pb.agree HG5.out hba) (HT.out.agree HG5.out).ok HR.out ?_
   refine hK.out _ _ ?_ (fun zk => ?_)
   ·exact zk
   clear hK K
   try go_frame
   apply tk 7 o354_ rfl (by kernel_rfl) (fun _ _ _ h => h) zk
   ·intro wq zq
    go_simp
    try rfl
   go_frame
   apply tk 8 o355_ rfl (by kernel_rfl) (fun _ _ _ h => h) zk
   ·intro wq zq
    go_simp
    try rfl
   go_frame
   apply tk 9 o356_ rfl (by kernel_rfl) (fun _ _ _ h => h) zk
   ·intro wq zq
    go_simp
    try rfl
   go_frame
   apply tk 10 o357_ rfl (by kernel_rfl) (fun _ _ _ h => h) zk
   ·intro wq zq
    go_simp
    try rfl
   go_frame
   apply tk 11 o358_ rfl (by kernel_rfl) (fun _ _ _ h => h) zk
   ·intro wq zq
    go_simp
    try rfl
   go_frame
   refine wpAnyH_done (by kernel_rfl) ?_ _
   go_wp2_with fail
   have HB6 := zz zk
   clear c0 c1 c2
   have hz6 := zk.size
   refine (known_is (z := (cnts a : Int)) (HC.out.below HB6.out hCl) hl0 hl1 (by omega) (by have := HCN0.out; omega)).mono ?_
   have HE6 := zz (Ex.of_below (X := XC M C) HB6.out)
   have HG6 := zz (Agree.of_below (S := S) HB6.out fun i hi => Nat.lt_trans (HSM.out i hi) hMl)
   rintro e w7 (⟨h7, rfl, rfl⟩ | ⟨h7, rfl, rfl⟩)
   ·have HX7 := zz (show (cnts a : Int) <= left from h7)
    clear h7
    go_wp2
    go_ret
    refine ⟨HE6.out.setCell' (Or.inr rfl), Or.inl ⟨HX7.out, rfl, (HC.out.below HB6.out hCl).set _, l, ?_, MoreN.refl ((HT.out.agree HG6.out).agree ?_)⟩⟩
    ·obtain ⟨es, ck, h1, h2⟩ := HM.out.below HB6.out hMl
     exact ⟨es, ck, by simp [World.setCell, Array.getElem?_modify, h1, show ¬ C = M by omega], h2⟩
    ·intro i hi
     have := HSM.out i hi
     simp [World.setCell, Array.getElem?_modify, show ¬ C = i by omega]
   ·have HX7 := zz (show left < (cnts a : Int) from h7)
    clear h7
    go_wp2
    go_ret
    exact ⟨HE6.out, Or.inr ⟨HX7.out, rfl⟩⟩
  | none =>
   have HR := zz (show (match getE (⟨ba, oa, a.length⟩ : LK) l with | some v => Value.tuple #[v, .bool true] | none => .tuple #[.int .i64 0, .bool false]) = .tuple #[.int .i64 0, .bool false] by rw [hg])
   have HIH := zz ih
   clear hg ih
   go_enter Tryz.func20, Tryz.ntmps20
   go_wp2
   refine wp_region_held_drew (S := Below w.heap.size w) (by kernel_rfl) ?_ (fun zk => ?_)
   ·exact zd _
   apply tk 0 o347_ rfl (by kernel_rfl) (fun _ _ _ h => h) zk
   ·intro wq zq
    go_simp
    try rfl
   go_frame
   apply tk 1 o348_ rfl (by kernel_rfl) (fun _ _ _ h => h) zk
   ·intro wq zq
    go_simp
    try rfl
   go_frame
   apply tk 2 o349_ rfl (by kernel_rfl) (fun _ _ _ h => h) zk
   ·intro wq zq
    go_simp
    try rfl
   go_frame
   apply tk 3 o350_ rfl (by kernel_rfl) (fun _ _ _ h => h) zk
   ·intro wq zq
    obtain ⟨c0, c1, c2⟩ := (HC.out.below zq (by omega)).cell
    go_simp
    try rfl
   go_frame
   apply tk 4 o351_ rfl (by kernel_rfl) (fun _ _ _ h => h) zk
   ·intro wq zq
    go_simp
    try rfl
   go_frame
   refine rd 5 o352_ rfl (by kernel_rfl) fun K hK => ?_
   go_simp
   refine (listof_is hpos _).mono ?_
   rintro e w5 ⟨rfl, b5⟩
   have HB5 := bt2 (zz zk) b5
   clear b5
   go_wp2_with fail
   refine hK.out _ _ ?_ (fun zk => ?_)
   ·exact HB5.out
   clear hK K
   try go_frame
   refine rd 6 o353_ rfl (by kernel_rfl) fun K hK => ?_
   have HG5 := zz (Agree.of_below (S := S) zk fun i hi => Nat.lt_trans (HSM.out i hi) hMl)
   refine step_look (x := (⟨ba, oa, a.length⟩ : LK)) rfl _ _ rfl (keyT1 _) Tryz.underlying47 (zeroInt _) rfl (HM.out.below zk hMl) rfl (show ok1 _ ⟨ba, oa, a.length⟩ from HKA.out.pb.agree HG5.out hba) (HT.out.agree HG5.out).ok HR.out ?_
   refine hK.out _ _ ?_ (fun zk => ?_)
   ·exact zk
   clear hK K
   try go_frame
   apply tk 7 o354_ rfl (by kernel_rfl) (fun _ _ _ h => h) zk
   ·intro wq zq
    go_simp
    try rfl
   go_frame
   apply tk 8 o355_ rfl (by kernel_rfl) (fun _ _ _ h => h) zk
   ·intro wq zq
    go_simp
    try rfl
   go_frame
   apply tk 9 o356_ rfl (by kernel_rfl) (fun _ _ _ h => h) zk
   ·intro wq zq
    go_simp
    try rfl
   go_frame
   apply tk 10 o357_ rfl (by kernel_rfl) (fun _ _ _ h => h) zk
   ·intro wq zq
    go_simp
    try rfl
   go_frame
   apply tk 11 o358_ rfl (by kernel_rfl) (fun _ _ _ h => h) zk
   ·intro wq zq
    go_simp
    try rfl
   go_frame
   refine wpAnyH_done (by kernel_rfl) ?_ _
   have HB6 := zz zk
   have hz6 := zk.size
   obtain ⟨w5', hw5'⟩ : ∃ x, x = w5 := ⟨_, rfl⟩
   clear zk c0 c1 c2
   have HC6 := zz (HC.out.below HB6.out hCl)
   have HM6 := zz (HM.out.below HB6.out hMl)
   have HG6 := zz (Agree.of_below (S := S) HB6.out fun i hi => Nat.lt_trans (HSM.out i hi) hMl)
   have HT6 := zz (HT.out.agree HG6.out)
   have HKA6 := zz (HKA.out.agree HG6.out)
   have hM6 : M < w5.heap.size := by omega
   clear hw5' w5'
   go_wp2
   refine wp_region_held_drew (S := Keep M w5) (by kernel_rfl) ?_ (fun zk => ?_)
   ·exact ⟨rfl, rfl, rfl, Nat.le_refl _, fun _ _ _ => rfl⟩
   apply tk 0 o359_ rfl (by kernel_rfl) (fun _ _ _ h => h) zk
   ·intro wq zq
    go_simp
    try rfl
   go_frame
   apply tk 1 o360_ rfl (by kernel_rfl) (fun _ _ _ h => h) zk
   ·intro wq zq
    go_simp
    try rfl
   go_frame
   apply tk 2 o361_ rfl (by kernel_rfl) (fun _ _ _ h => h) zk
   ·intro wq zq
    go_simp
    try rfl
   go_frame
   apply tk 3 o362_ rfl (by kernel_rfl) (fun _ _ _ h => h) zk
   ·intro wq zq
    obtain ⟨c0, c1, c2⟩ := (HC6.out.keep zq hMC).cell
    go_simp
    try rfl
   go_frame
   apply tk 4 o363_ rfl (by kernel_rfl) (fun _ _ _ h => h) zk
   ·intro wq zq
    go_simp
    try rfl
   go_frame
   refine rd 5 o364_ rfl (by kernel_rfl) fun K hK => ?_
   go_simp
   refine (listof_is hpos _).mono ?_
   rintro e w8 ⟨rfl, b8⟩
   have HB8 := zz (below_undrew b8)
   clear b8
   go_wp2_with fail
   refine hK.out _ _ ?_ (fun zk => ?_)
   ·exact Keep.of_below HB8.out
   clear hK K
   try go_frame
   refine rd 6 o365_ rfl (by kernel_rfl) fun K hK => ?_
   have HG8 := zz (Agree.of_below (S := S) HB8.out fun i hi => Nat.lt_trans (HSM.out i hi) hM6)
   refine step_put (x := (⟨ba, oa, a.length⟩ : LK)) rfl _ _ _ rfl (keyT1 _) Tryz.underlying47 rfl (HM6.out.below HB8.out hM6) rfl (show ok1 _ ⟨ba, oa, a.length⟩ from HKA6.out.pb.agree HG8.out hba) (HT6.out.agree HG8.out).ok rfl ?_
   intro w9 hm9 hg9
   have HM9' := zz hm9
   have HG9' := zz hg9
   clear hm9 hg9
   refine hK.out _ _ ?_ (fun zk => ?_)
   ·exact (Keep.of_below HB8.out).trans HG9'.out
   clear hK K
   try go_frame
   refine wpAnyH_done (by kernel_rfl) ?_ _
   have HM9 := zz HM9'.out
   have hz9 := zk.size
   have HK9 := zz zk
   obtain ⟨c0, c1, c2⟩ := (HC6.out.keep HK9.out hMC).cell
   have i0 : (0 : Int) <= left - (a.length : Int) := by omega
   have i1 : left - (a.length : Int) <= 9223372036854775807 := by omega
   clear zk HR HM9'
   go_wp2
   have HC10 := zz ((HC6.out.keep HK9.out hMC).set (left - (a.length : Int)))
   have HE10 := zz (show Ex (XC M C) w (w9.setCell ⟨C, 0, none⟩ (.int .i64 (left - (a.length : Int)))) from ((Ex.of_below HB6.out).trans (Ex.keep HK9.out)).setCell' (Or.inr rfl))
   have HM10 := zz (show MapIs key1 (w9.setCell ⟨C, 0, none⟩ (.int .i64 (left - (a.length : Int)))) M (putE (⟨ba, oa, a.length⟩ : LK) (.int .i64 9223372036854775807) l) from by
    obtain ⟨es, ck, h1, h2⟩ := HM9.out
    exact ⟨es, ck, by simp [World.setCell, Array.getElem?_modify, h1, show ¬ C = M by omega], h2⟩)
   generalize w9.setCell ⟨C, 0, none⟩ (.int .i64 (left - (a.length : Int))) = w10 at *
   have HG10 := zz (HE10.out.agree (S := S) fun i hi => ⟨Nat.lt_trans (HSM.out i hi) hMl, fun e => by have := HSM.out i hi; rcases e with e | e <;> omega⟩)
   have HT10 := zz (show Kept cntI w10 m S (cnts a - 1) (putE (⟨ba, oa, a.length⟩ : LK) (.int .i64 9223372036854775807) l) from (HT.out.agree HG10.out).put (HKA.out.agree HG10.out) (by have := HCN0.out; omega) (by omega))
   have HKA10 := zz (HKA.out.agree HG10.out)
   have hM10 : M < w10.heap.size := HM10.out.lt
   clear c0 c1 c2 HM9 HK9 HC6 HM6 HG6 HT6 HKA6 HB6
   go_loopw [54] (fun i wr => ∃ k : Nat, k <= a.length /\ i = .int .i64 k /\ (a.length : Int) + ((cnts (a.take k) : Int) - k) <= left /\ Ex (XC M C) w10 wr /\ Ctr wr C (left - (a.length : Int) - ((cnts (a.take k) : Int) - k)) M /\ ∃ l', MapIs key1 wr M l' /\ MoreN cntI wr m S (putE (⟨ba, oa, a.length⟩ : LK) (.int .i64 9223372036854775807) l) l') (fun i _ => a.length - (intOf i).toNat)
   case atStart =>
    refine ⟨0, Nat.zero_le _, rfl, by rw [List.take_zero]; simp only [cnts]; omega, Ex.refl _ _, ?_, _, HM10.out, MoreN.refl HT10.out⟩
    rw [List.take_zero]
    have := HC10.out
    simpa [cnts] using this
   case round =>
    obtain ⟨k, hk, rfl, hle, hex, hct, l', hml, hmo⟩ := hrel
    have HEX := zz hex
    have HML := zz hml
    have HMO := zz hmo
    have HCS := zz (cnts_sum a k hk)
    obtain ⟨LC, hLC⟩ : ∃ x, x = left - (a.length : Int) - ((cnts (a.take k) : Int) - k) := ⟨_, rfl⟩
    rw [<- hLC] at hct
    have HCT := zz hct
    have HLC := zz hLC
    have hL0 : 0 <= LC := by omega
    have hL1 : LC <= left := by have := HCS.out.2; omega
    have HLE := zz hle
    have hMr : M < wr.heap.size := HML.out.lt
    have hCr : C < wr.heap.size := HCT.out.lt
    have HG := zz (HEX.out.agree (S := S) fun i hi => ⟨Nat.lt_trans (HSM.out i hi) hM10, fun e => by have := HSM.out i hi; rcases e with e | e <;> omega⟩)
    clear hex hml hmo hct hLC hle
    by_cases hkl : k < a.length
    ·obtain ⟨va', x0, x1, x2, x3, x4, x5, x6, x7, hk'⟩ := ((HKA10.out.agree HG.out).row.get k hkl).open
     have HKa := zz hk'
     have j0 : (0 : Int) <= (k : Int) := by omega
     have j1 : (k : Int) < (a.length : Int) := by omega
     have hcn := cnts_mem (List.getElem_mem hkl)
     have hlt2 : cnts a[k].ks <= cnts a - 1 := by
      rw [show a[k] = .mk a[k].f a[k].ks from by cases a[k]; rfl] at hcn
      unfold cnt at hcn
      omega
     have HCN := zz hlt2
     have HTW := zz (HMO.out.kept (HT10.out.agree HG.out))
     have HLT := zz (show cnts a - 1 < n by have := HCN0.out; omega)
     have HSC := zz (cnts_succ hkl)
     have HCS1 := zz (cnts_sum a (k + 1) (by omega))
     clear hk' hcn hlt2
     go_wp2_with fail
     refine (HIH.out (cnts a - 1) HLT.out (by have := HLT.out; omega) a[k].ks _ va' m S M C l' LC HCN.out hL0 (by omega) hp HKa.out HSM.out hMC HCT.out HML.out HTW.out).mono ?_
     rintro e w12 ⟨k12, h12⟩
     have HE12 := zz k12
     have HG12 := zz (k12.agree (S := S) fun i hi => ⟨Nat.lt_trans (HSM.out i hi) hMr, fun e => by have := HSM.out i hi; rcases e with e | e <;> omega⟩)
     clear k12 x0 x1 x2 x3 x4 x5 x6 x7
     rcases h12 with ⟨hle, rfl, hc12, l'', hm12, hmo12⟩ | ⟨hgt2, rfl⟩
     ·have HC12 := zz (show Ctr w12 C (left - (a.length : Int) - ((cnts (a.take (k + 1)) : Int) - (k + 1 : Nat))) M by
       have e1 : LC - (cnts a[k].ks : Int) = left - (a.length : Int) - ((cnts (a.take (k + 1)) : Int) - (k + 1 : Nat)) := by
        have := HLC.out
        have := HSC.out
        omega
       rw [<- e1]
       exact hc12)
      have HM12 := zz hm12
      have HO12 := zz ((HMO.out.agree HG12.out).trans hmo12)
      have HL12 := zz (show (a.length : Int) + ((cnts (a.take (k + 1)) : Int) - (k + 1 : Nat)) <= left by
       have := HLC.out
       have := HSC.out
       omega)
      clear hm12 hmo12 hc12 hle
      go_wp2
      go_roundw
      case rel => exact ⟨k + 1, by omega, by go_num, HL12.out, HEX.out.trans HE12.out, HC12.out, l'', HM12.out, HO12.out⟩
      case measure => simp [intOf]; omega
     ·have HGT := zz (show left < (cnts a : Int) by
       have := HLC.out
       have := HSC.out
       have := HCS1.out
       omega)
      clear hgt2
      go_wp2
      go_ret
      exact ⟨HE10.out.trans (HEX.out.trans HE12.out), Or.inr ⟨HGT.out, rfl⟩⟩
    ·obtain rfl : k = a.length := by omega
     have HV := zz (show left - LC = (cnts a : Int) by
      have := HLC.out
      rw [List.take_length] at this
      omega)
     have HLA := zz (show (cnts a : Int) <= left by
      have := HLE.out
      rw [List.take_length] at this
      omega)
     have v0 : (0 : Int) <= left - LC := by omega
     have v1 : left - LC <= 9223372036854775807 := by omega
     go_wp2
     refine wp_region_held_drew (S := Keep M wr) (by kernel_rfl) ?_ (fun zk => ?_)
     ·exact ⟨rfl, rfl, rfl, Nat.le_refl _, fun _ _ _ => rfl⟩
     apply tk 0 o366_ rfl (by kernel_rfl) (fun _ _ _ h => h) zk
     ·intro wq zq
      go_simp
      try rfl
     go_frame
     apply tk 1 o367_ rfl (by kernel_rfl) (fun _ _ _ h => h) zk
     ·intro wq zq
      go_simp
      try rfl
     go_frame
     apply tk 2 o368_ rfl (by kernel_rfl) (fun _ _ _ h => h) zk
     ·intro wq zq
      go_simp
      try rfl
     go_frame
     apply tk 3 o369_ rfl (by kernel_rfl) (fun _ _ _ h => h) zk
     ·intro wq zq
      obtain ⟨c0, c1, c2⟩ := (HCT.out.keep zq hMC).cell
      go_simp
      try rfl
     go_frame
     apply tk 4 o370_ rfl (by kernel_rfl) (fun _ _ _ h => h) zk
     ·intro wq zq
      go_simp
      try rfl
     go_frame
     apply tk 6 o371_ rfl (by kernel_rfl) (fun _ _ _ h => h) zk
     ·intro wq zq
      go_simp
      try rfl
     go_frame
     apply tk 7 o372_ rfl (by kernel_rfl) (fun _ _ _ h => h) zk
     ·intro wq zq
      go_simp
      try rfl
     go_frame
     apply tk 8 o373_ rfl (by kernel_rfl) (fun _ _ _ h => h) zk
     ·intro wq zq
      go_simp
      try rfl
     go_frame
     apply tk 9 o374_ rfl (by kernel_rfl) (fun _ _ _ h => h) zk
     ·intro wq zq
      go_simp
      try rfl
     go_frame
     apply tk 10 o375_ rfl (by kernel_rfl) (fun _ _ _ h => h) zk
     ·intro wq zq
      obtain ⟨c0, c1, c2⟩ := (HCT.out.keep zq hMC).cell
      go_simp
      try rfl
     go_frame
     apply tk 11 o376_ rfl (by kernel_rfl) (fun _ _ _ h => h) zk
     ·intro wq zq
      go_simp
      try rfl
     go_frame
     refine rd 5 o377_ rfl (by kernel_rfl) fun K hK => ?_
     go_simp
     refine (listof_is hpos _).mono ?_
     rintro e w14 ⟨rfl, b14⟩
     have HB14 := zz (below_undrew b14)
     clear b14
     go_wp2_with fail
     refine hK.out _ _ ?_ (fun zk => ?_)
     ·exact Keep.of_below HB14.out
     clear hK K
     try go_frame
     refine rd 12 o378_ rfl (by kernel_rfl) fun K hK => ?_
     have HG14 := zz (Agree.of_below (S := S) HB14.out fun i hi => Nat.lt_trans (HSM.out i hi) hMr)
     have HT14 := zz (((HMO.out.kept (HT10.out.agree HG.out)).agree HG14.out))
     refine step_put (x := (⟨ba, oa, a.length⟩ : LK)) (v := .int .i64 (left - LC)) rfl _ _ _ rfl (keyT1 _) Tryz.underlying47 rfl (HML.out.below HB14.out hMr) rfl (show ok1 _ ⟨ba, oa, a.length⟩ from ((HKA10.out.agree HG.out).agree HG14.out).pb) HT14.out.ok (by show Value.int .i64 (IntKind.i64.wrap (left - LC)) = _; rw [show IntKind.i64.wrap (left - LC) = left - LC by rw [IntKind.wrap_i64]; omega]) ?_
     intro w15 hm15 hg15
     rw [HV.out] at hm15
     have HM15 := zz hm15
     have HG15' := zz hg15
     have HG15 := zz (show Agree S w14 w15 from fun i hi => hg15.block i (by have := HSM.out i hi; have := HB14.out.size; omega) (fun e => by have := HSM.out i hi; cases e; omega))
     clear hm15 hg15
     refine hK.out _ _ ?_ (fun zk => ?_)
     ·exact (Keep.of_below HB14.out).trans HG15'.out
     clear hK K
     try go_frame
     refine wpAnyH_done (by kernel_rfl) ?_ _
     go_wp2
     go_ret
     refine ⟨HE10.out.trans (HEX.out.trans (Ex.keep zk)), Or.inl ⟨HLA.out, rfl, ?_, _, HM15.out, ?_⟩⟩
     ·have e1 : left - (cnts a : Int) = LC := by have := HV.out; omega
      rw [e1]
      exact HCT.out.keep zk hMC
     ·exact ((HMO.out.agree HG14.out).agree HG15.out).closed (((HKA10.out.agree HG.out).agree HG14.out).agree HG15.out)
theorem count_is {mo : Int} (hc : cnt t <= 65536) (hp : m.plain = true) (hK : Kids w m S v t.ks) (hN : ∀ i, S i -> i < w.heap.size) (hmx : mo <= 9223372036854775807) :
 Calls Tryz.prog 9 #[nv t.f v, .int .i64 mo] w fun e w' => e = .returned (.int .i64 (rc (cnt t) mo)) /\ Below w.heap.size w w' := by
 have hmm := @run_makeMap Tryz.prog
 have hcs : cnt t = 1 + cnts t.ks := by cases t; rfl
 unfold nv
 by_cases h1 : mo < 1
 ·have q : decide (mo < 1) = true := decide_eq_true h1
  have E := zz (show (1 : Int) = rc (cnt t) mo by unfold rc; rw [if_pos (by omega)])
  clear hcs hK
  go_enter Tryz.func9, Tryz.ntmps9
  go_wp2
  go_ret
  exact ⟨ret_int E.out, (box1 _ _).out⟩
 ·have q : decide (mo < 1) = false := decide_eq_false h1
  have HK := zz hK
  clear hK
  obtain ⟨Av, cv, bv, ov, rfl, _, _, _⟩ := HK.out.form
  go_enter Tryz.func9, Tryz.ntmps9
  go_wp2_with fail
  obtain ⟨w1, hw1, HB1, HX1, hs1⟩ := jb w t.f (.slice Av t.ks.length cv)
  rw [hw1]
  clear hw1 HX1
  have hb2 := (Below.refl w1.heap.size w1).alloc (Nat.le_refl _) (.map #[] 0)
  have hnew := MapIs.new key1 w1
  have hs2 : (w1.alloc (.map #[] 0)).heap.size = w1.heap.size + 1 := World.size_alloc _ _
  generalize w1.alloc (.map #[] 0) = w2 at *
  have e1 : w1.heap.size = w.heap.size + 1 := hs1
  have e2 : w2.heap.size = w.heap.size + 1 + 1 := by omega
  rw [e1] at hnew
  have HC3 := zz (show Ctr (w2.alloc (.cells #[.int .i64 (mo - 1), .map (some (w.heap.size + 1))] 49)) (w.heap.size + 1 + 1) (mo - 1) (w.heap.size + 1) from ⟨by rw [<- e2]; exact (MapKept.heap_alloc w2 _).1⟩)
  have hb3 := (Below.refl w2.heap.size w2).alloc (Nat.le_refl _) (.cells #[.int .i64 (mo - 1), .map (some (w.heap.size + 1))] 49)
  have HM3 := zz (hnew.below hb3 (by omega))
  have HB3 := zz (HB1.out.trans ((hb2.trans (hb3.mono (by omega))).mono (by omega)))
  have HK3 := zz (HK.out.below HB3.out hN)
  generalize w2.alloc (.cells #[.int .i64 (mo - 1), .map (some (w.heap.size + 1))] 49) = w3 at *
  clear hb2 hb3 hnew HK HB1
  refine (take_all (cnts t.ks) (by omega) t.ks _ (.slice Av t.ks.length cv) m S (w.heap.size + 1) (w.heap.size + 1 + 1) [] (mo - 1) (Nat.le_refl _) (by omega) (by omega) hp HK3.out (fun i hi => by have := hN i hi; omega) (by omega) HC3.out HM3.out Kept.none).mono ?_
  rintro e w4 ⟨x4, h4⟩
  have HB4 := zz (Ex.below HB3.out x4 (fun i hi e => by rcases e with e | e <;> omega) HB3.out.size)
  clear x4
  rcases h4 with ⟨h4, rfl, hc4, _⟩ | ⟨h4, rfl⟩
  ·have E := zz (show mo - (mo - 1 - (cnts t.ks : Int)) = rc (cnt t) mo by unfold rc; rw [if_neg (by omega)]; omega)
   obtain ⟨c0, c1, c2⟩ := hc4.cell
   have i0 : 0 <= mo - 1 - (cnts t.ks : Int) := by omega
   generalize mo - 1 - (cnts t.ks : Int) = LC at *
   have i1 : LC <= 9223372036854775807 := by have := E.out; unfold rc at this; rw [if_neg (by omega)] at this; omega
   have i2 : 0 <= mo - LC := by have := E.out; unfold rc at this; rw [if_neg (by omega)] at this; omega
   have i3 : mo - LC <= 9223372036854775807 := by omega
   clear hc4
   go_wp2
   go_ret
   exact ⟨ret_int E.out, HB4.out⟩
  ·have E := zz (show mo + 1 = rc (cnt t) mo by unfold rc; rw [if_neg (by omega)]; omega)
   go_wp2
   go_ret
   exact ⟨ret_int E.out, HB4.out⟩
end
end Go.Proofs.YtmdhjiammcpogaaGreatDoor
