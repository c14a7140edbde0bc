import Derived.Test.YtmdhjiammcpogaaGreatDoorQ19
import Derived.Test.YtmdhjiammcpogaaGreatDoorQ20
import Derived.Test.YtmdhjiammcpogaaGreatDoorQ25
namespace Go.Proofs.YtmdhjiammcpogaaGreatDoor
set_option maxRecDepth 100000
set_option maxHeartbeats 16000000
section
open Go.RowKit
variable {S : Nat -> Prop} {b : Bool} {f : Nd} {m : Md} {n : Nat} {ts : List Tr} {u v : Value} {w : World}
theorem fit_is (hm : m.mark = true) (hf : NFit f) (hF : AllFs ts) (hK : Lst w m S u ts) (hS : ∀ i, S i -> i < w.heap.size) (h : fit f ts = b) :
 Calls Tryz.prog 16 #[nv f u] w fun e w' => e = .returned (.bool b) /\ Below w.heap.size w w' := by
 unfold fit at h
 have HL := zz hK
 have HS := zz hS
 have HF := zz hF
 have HN := zz hf
 obtain ⟨A0, c0, b0, o0, rfl, hla, hcap, hA, hra⟩ := hK
 clear hS hF hf hcap hA hra
 unfold nv
 go_enter Tryz.func16, Tryz.ntmps16
 go_wp2_with fail
 obtain ⟨w1, hw1, HB1, HX1, hs1⟩ := jb w f (.slice A0 ts.length c0)
 rw [hw1]
 clear hw1
 refine (txtFit_is (f := f) HN.out rfl _).mono ?_
 rintro e w2 ⟨rfl, b2⟩
 have hz2 := b2.size
 have HB2 := zz (HB1.out.trans (b2.mono (by omega)))
 have HX2 := zz (HX1.out.below b2 (by omega))
 clear b2 HX1 HB1
 cases h1 : txtFit f
 ·have E := zz (show false = b by rw [<- h, h1]; rfl)
  clear h h1 HX2
  go_wp2
  go_ret
  exact ⟨zb E.out, HB2.out⟩
 rw [h1, Bool.true_and] at h
 have x0 := HX2.out.cell
 clear h1
 go_wp2_with fail
 refine (numFit_is (f := f) rfl _).mono ?_
 rintro e w3 ⟨rfl, b3⟩
 have hz3 := b3.size
 have HB3 := zz (HB2.out.trans (b3.mono (by omega)))
 have HX3 := zz (HX2.out.below b3 (by omega))
 clear b3 HX2 HB2 x0
 cases h1 : numFit f
 ·have E := zz (show false = b by rw [<- h, h1]; rfl)
  clear h h1 HX3
  go_wp2
  go_ret
  exact ⟨zb E.out, HB3.out⟩
 rw [h1, Bool.true_and] at h
 have x0 := HX3.out.cell
 clear h1
 go_wp2_with fail
 refine (typFit_is (f := f) HN.out rfl _).mono ?_
 rintro e w4 ⟨rfl, b4⟩
 have hz4 := b4.size
 have HB4 := zz (HB3.out.trans (b4.mono (by omega)))
 have HX4 := zz (HX3.out.below b4 (by omega))
 clear b4 HX3 HB3 x0
 cases h1 : typFit f
 ·have E := zz (show false = b by rw [<- h, h1]; rfl)
  clear h h1 HX4
  go_wp2
  go_ret
  exact ⟨zb E.out, HB4.out⟩
 rw [h1, Bool.true_and] at h
 have x0 := HX4.out.cell
 have HH := zz h
 clear h1 h
 go_wp2_with fail
 refine (kFit_is (f := f) hm HF.out (HL.out.below HB4.out HS.out) (fun i hi => by have := HS.out i hi; omega) HH.out).mono ?_
 rintro e w5 ⟨rfl, b5⟩
 have HB5 := zz (HB4.out.trans (b5.mono (by omega)))
 clear b5 HX4 HB4 x0
 go_wp2
 go_ret
 exact ⟨rfl, HB5.out⟩
def GoodJ (w : World) (m : Md) (S : Nat -> Prop) (x : LK) : Prop := ∃ ts, KeyAt w m S x ts /\ fitTs ts = true
def WideJ (w : World) (m : Md) (S : Nat -> Prop) (n : Nat) (x : LK) : Prop := ∃ ts, KeyAt w m S x ts /\ n < cnts ts
theorem GoodJ.agree {w w' : World} {m : Md} {S : Nat -> Prop} {x : LK} (ha : Agree S w w') (h : GoodJ w m S x) : GoodJ w' m S x := by
 obtain ⟨ts, h1, h2⟩ := h
 exact ⟨ts, h1.agree ha, h2⟩
theorem WideJ.agree {w w' : World} {m : Md} {S : Nat -> Prop} {n : Nat} {x : LK} (ha : Agree S w w') (h : WideJ w m S n x) : WideJ w' m S n x := by
 obtain ⟨ts, h1, h2⟩ := h
 exact ⟨ts, h1.agree ha, h2⟩
def Jd (w : World) (m : Md) (S : Nat -> Prop) (n : Nat) (l : List (LK × Value)) : Prop := ∀ e ∈ l, e.2 = .agg #[] /\ (GoodJ w m S e.1 ∨ WideJ w m S n e.1)
theorem Jd.none : Jd w m S n [] := fun _ h => by cases h
theorem Jd.agree {w w' : World} {m : Md} {S : Nat -> Prop} {n : Nat} {l : List (LK × Value)} (ha : Agree S w w') (h : Jd w m S n l) : Jd w' m S n l :=
 fun e he => ⟨(h e he).1, (h e he).2.imp (GoodJ.agree ha) (WideJ.agree ha)⟩
theorem Jd.ok {l : List (LK × Value)} (h : Jd w m S n l) : ∀ e ∈ l, ok1 w e.1 := fun e he => by
 rcases (h e he).2 with ⟨ts, h1, _⟩ | ⟨ts, h1, _⟩ <;> exact h1.pb
theorem Jd.found {l : List (LK × Value)} {x : LK} (h : Jd w m S n l) (hg : getE x l = some v) (ha : KeyAt w m S x ts) (hn : cnts ts <= n) : v = .agg #[] /\ fitTs ts = true := by
 have h0 := h _ (getE_some hg)
 refine ⟨h0.1, ?_⟩
 rcases h0.2 with ⟨ts', h1, h2⟩ | ⟨ts', h1, h2⟩
 ·rw [ha.one h1]; exact h2
 ·rw [ha.one h1] at hn; omega
theorem Jd.put {n' : Nat} {l : List (LK × Value)} {x : LK} (h : Jd w m S n l) (ha : KeyAt w m S x ts) (hn : n' <= n) (hc : n' < cnts ts) : Jd w m S n' (putE x (.agg #[]) l) := fun e he => by
 rcases mem_putE he with rfl | he
 ·exact ⟨rfl, Or.inr ⟨ts, ha, hc⟩⟩
 ·refine ⟨(h e he).1, ?_⟩
  rcases (h e he).2 with h | ⟨ts', h1, h2⟩
  ·exact Or.inl h
  ·exact Or.inr ⟨ts', h1, by omega⟩
def MoreJ (w : World) (m : Md) (S : Nat -> Prop) (l l' : List (LK × Value)) : Prop := ∀ e ∈ l', e.2 = .agg #[] /\ ((∃ v, (e.1, v) ∈ l) ∨ GoodJ w m S e.1)
theorem MoreJ.refl {l : List (LK × Value)} (h : Jd w m S n l) : MoreJ w m S l l := fun e he => ⟨(h e he).1, Or.inl ⟨e.2, he⟩⟩
theorem MoreJ.agree {w w' : World} {m : Md} {S : Nat -> Prop} {l l' : List (LK × Value)} (ha : Agree S w w') (h : MoreJ w m S l l') : MoreJ w' m S l l' := fun e he => ⟨(h e he).1, (h e he).2.imp id (GoodJ.agree ha)⟩
theorem MoreJ.trans {l l' l'' : List (LK × Value)} (h : MoreJ w m S l l') (k : MoreJ w m S l' l'') : MoreJ w m S l l'' := fun e he => by
 refine ⟨(k e he).1, ?_⟩
 rcases (k e he).2 with ⟨v, h1⟩ | h1
 ·exact (h _ h1).2
 ·exact Or.inr h1
theorem MoreJ.jd {l l' : List (LK × Value)} (h : MoreJ w m S l l') (k : Jd w m S n l) : Jd w m S n l' := fun e he => by
 refine ⟨(h e he).1, ?_⟩
 rcases (h e he).2 with ⟨v, h1⟩ | h1
 ·exact (k _ h1).2
 ·exact Or.inl h1
theorem MoreJ.closed {l l' : List (LK × Value)} {x : LK} (h : MoreJ w m S (putE x v l) l') (hg : GoodJ w m S x) : MoreJ w m S l l' := fun e he => by
 refine ⟨(h e he).1, ?_⟩
 rcases (h e he).2 with ⟨u, h1⟩ | h1
 ·rcases mem_putE h1 with h2 | h2
  ·injection h2 with h2 _
   rw [h2]
   exact Or.inr hg
  ·exact Or.inl ⟨u, h2⟩
 ·exact Or.inr h1
theorem fitTs_no {l : List Tr} {k : Nat} (hk : k < l.length) (h : fitT l[k] = false) : fitTs l = false := by
 rw [fitTs_all]
 cases e : l.all fitT
 ·rfl
 ·have := List.all_eq_true.1 e _ (List.getElem_mem hk)
  rw [h] at this
  cases this
theorem fit_kid (t : Tr) : fitT t = (fit t.f t.ks && fitTs t.ks) := by rw [fitT_eq, fitTs_all]
theorem allfit_all (n : Nat) (hn : n <= 65536) : ∀ (a : List Tr) (w : World) (va : Value) (m : Md) (S : Nat -> Prop) (M : Nat) (l : List (LK × Value)), cnts a <= n -> m.plain = true -> m.mark = true -> AllFs a -> Kids w m S va a -> (∀ i, S i -> i < M) -> MapIs key1 w M l -> Jd w m S n l ->
 Calls Tryz.prog 17 #[.map (some M), va] w fun e w' => e = .returned (.bool (fitTs a)) /\ Keep M w w' /\ (fitTs a = true -> ∃ l', MapIs key1 w' M l' /\ MoreJ w' m S l l') := by
 induction n using Nat.strongRecOn with
 | ind n ih =>
  intro a w va m S M l hc hp hmk hF ha hS hM hT
  obtain ⟨A, ca, ba, oa, rfl, hla, hA, hra⟩ := ha.form
  by_cases h0 : a.length = 0
  ·have e1 : a = [] := List.eq_nil_of_length_eq_zero h0
   subst e1
   have HM := zz hM
   have HT := zz hT
   refine (allfit_nil M A ca w).mono ?_
   rintro e w' ⟨rfl, rfl⟩
   exact ⟨rfl, Keep.refl _ _, fun _ => ⟨l, HM.out, MoreJ.refl HT.out⟩⟩
  obtain ⟨rfl, hba, hpa⟩ := hA (by omega)
  have hpos : 0 < a.length := by omega
  have HKA := zz (show KeyAt w m S ⟨ba, oa, a.length⟩ a from ⟨hpos, rfl, hba, hpa hp, hra⟩)
  have hMl := hM.lt
  have HM := zz hM
  have HT := zz hT
  have HC := zz hc
  have HSM := zz hS
  have HF := zz hF
  have qz : ((a.length : Int) == 0) = false := beq_false_of_ne (by omega)
  clear hA hM hT hc hra hS hpa h0 ha hF
  go_enter Tryz.func17, Tryz.ntmps17
  go_wp2_with fail
  refine (listof_is hpos _).mono ?_
  rintro e w1 ⟨rfl, b1⟩
  have HB1 := zz b1
  have hsz1 := b1.size
  clear b1
  have HM1 := zz (HM.out.below HB1.out hMl)
  have HG1 := zz (Agree.of_below HB1.out fun i hi => Nat.lt_trans (HSM.out i hi) hMl)
  have HT1 := zz (HT.out.agree HG1.out)
  have HO1 := zz (show ok1 w1 ⟨ba, oa, a.length⟩ from HKA.out.pb.agree HG1.out hba)
  cases hg : getE (⟨ba, oa, a.length⟩ : LK) l with
  | some v =>
   obtain ⟨rfl, hfit⟩ := HT.out.found hg HKA.out HC.out
   have HR := zz (show (match getE (⟨ba, oa, a.length⟩ : LK) l with | some v => Value.tuple #[v, .bool true] | none => .tuple #[.agg #[], .bool false]) = .tuple #[.agg #[], .bool true] by rw [hg])
   have E := zz (show true = fitTs a from hfit.symm)
   clear hg ih hfit
   go_wp2_with (first | (at_lookup; refine wpList_look (x := (⟨ba, oa, a.length⟩ : LK)) rfl _ _ rfl (keyT1 _) Tryz.underlying37 (zeroUnit _) rfl HM1.out rfl HO1.out HT1.out.ok HR.out ?_) | go_in)
   go_ret
   have b9 := (box1 w1 (.cells #[] 55)).out
   exact ⟨zb E.out, Keep.of_below (HB1.out.trans (b9.mono hsz1)), fun _ => ⟨l, HM1.out.below b9 (by omega), MoreJ.refl (HT1.out.agree (Agree.of_below b9 fun i hi => by have := HSM.out i hi; omega))⟩⟩
  | none =>
   have HR := zz (show (match getE (⟨ba, oa, a.length⟩ : LK) l with | some v => Value.tuple #[v, .bool true] | none => .tuple #[.agg #[], .bool false]) = .tuple #[.agg #[], .bool false] by rw [hg])
   have HIH := zz ih
   clear hg ih
   go_wp2_with (first | (at_lookup; refine wpList_look (x := (⟨ba, oa, a.length⟩ : LK)) rfl _ _ rfl (keyT1 _) Tryz.underlying37 (zeroUnit _) rfl HM1.out rfl HO1.out HT1.out.ok HR.out ?_) | fail)
   have b9 := (box1 w1 (.cells #[] 55)).out
   have HB9 := zz (HB1.out.trans (b9.mono hsz1))
   have hs9 := b9.size
   clear b9 HR
   generalize w1.alloc (.cells #[] 55) = w9 at *
   refine (listof_is hpos _).mono ?_
   rintro e w2 ⟨rfl, b2⟩
   have HB2 := zz (HB9.out.trans (b2.mono (by omega)))
   clear b2
   have hsz2 := HB2.out.size
   have HM2 := zz (HM.out.below HB2.out hMl)
   have HG2 := zz (Agree.of_below HB2.out fun i hi => Nat.lt_trans (HSM.out i hi) hMl)
   have HT2 := zz (HT.out.agree HG2.out)
   have HO2 := zz (show ok1 w2 ⟨ba, oa, a.length⟩ from HKA.out.pb.agree HG2.out hba)
   clear HM1 HG1 HT1 HO1 HB1 HB9
   go_wp2_with (first | (at_mapUpdate; refine wpList_put (x := (⟨ba, oa, a.length⟩ : LK)) rfl _ _ _ rfl (keyT1 _) Tryz.underlying37 rfl HM2.out rfl HO2.out HT2.out.ok rfl ?_; intro w4 hm4 hg4) | go_in)
   have hc1 : 0 < cnts a := Nat.lt_of_lt_of_le hpos (len_le_cnts a)
   have HK4 := zz (show Keep M w w4 from (Keep.of_below HB2.out).trans hg4)
   have HG5 := zz (show Agree S w w4 from fun i hi => HK4.out.block i (Nat.lt_trans (HSM.out i hi) hMl) (fun e => by cases e; exact Nat.lt_irrefl _ (HSM.out _ hi)))
   have HT5 := zz (show Jd w4 m S (cnts a - 1) (putE (⟨ba, oa, a.length⟩ : LK) (.agg #[]) l) from (HT.out.agree HG5.out).put (HKA.out.agree HG5.out) (by have := HC.out; omega) (by omega))
   have HM5 := zz hm4
   clear hm4 hg4 HM2 HG2 HT2 HO2 HB2 HM
   go_loopw [26] (fun i wr => ∃ k : Nat, k <= a.length /\ i = .int .i64 k /\ (a.take k).all fitT = true /\ Keep M w4 wr /\ ∃ l', MapIs key1 wr M l' /\ MoreJ wr m S (putE (⟨ba, oa, a.length⟩ : LK) (.agg #[]) l) l') (fun i _ => a.length - (intOf i).toNat)
   case atStart => exact ⟨0, Nat.zero_le _, rfl, by rw [List.take_zero]; rfl, Keep.refl _ _, _, HM5.out, MoreJ.refl HT5.out⟩
   case round =>
    obtain ⟨k, hk, rfl, hall, hkw, l', hml, hmo⟩ := hrel
    have HKW := zz hkw
    have HML := zz hml
    have HMO := zz hmo
    have HAL := zz hall
    have HG6 := zz (show Agree S w wr from HG5.out.trans fun i hi => hkw.block i (Nat.lt_of_lt_of_le (Nat.lt_trans (HSM.out i hi) hMl) HK4.out.size) (fun e => by cases e; exact Nat.lt_irrefl _ (HSM.out _ hi)))
    clear hkw hml hmo hall
    by_cases hkl : k < a.length
    ·obtain ⟨va', c0, c1, c2, c3, c4, c5, c6, c7, hk'⟩ := ((HKA.out.agree HG6.out).row.get k hkl).open
     obtain ⟨A', cc, bb', oo', rfl, _, _, _⟩ := hk'.form
     have HKa := zz hk'
     have hMw : M < wr.heap.size := HML.out.lt
     have hcn := cnts_mem (List.getElem_mem hkl)
     have hlt2 : cnts a[k].ks <= cnts a - 1 := by
      rw [show a[k] = .mk a[k].f a[k].ks from by cases a[k]; rfl] at hcn
      unfold cnt at hcn
      omega
     have HCN := zz hlt2
     have HTW := zz (HMO.out.jd (HT5.out.agree (fun i hi => HKW.out.block i (Nat.lt_of_lt_of_le (Nat.lt_trans (HSM.out i hi) hMl) HK4.out.size) (fun e => by cases e; exact Nat.lt_irrefl _ (HSM.out _ hi)))))
     have HLT := zz (show cnts a - 1 < n by have := HC.out; omega)
     have HFK := zz (AllFs.get HF.out _ (List.getElem_mem hkl))
     have HAS := zz (all_succ (P := fitT) hkl)
     have HFE := zz (fit_kid a[k])
     clear hk' hcn hlt2
     go_wp2_with fail
     obtain ⟨w5, hw5, HB5, HX5, hs5⟩ := jb wr a[k].f (.slice A' a[k].ks.length cc)
     rw [hw5]
     clear hw5 c0 c1 c2 c3 c4 c5 c6 c7
     refine (fit_is (f := a[k].f) hmk HFK.out.nf HFK.out.ks ((HKa.out.below HB5.out fun i hi => by have := HSM.out i hi; omega).lst hmk) (fun i hi => by have := HSM.out i hi; omega) rfl).mono ?_
     rintro e w6 ⟨rfl, b6⟩
     have hz6 := b6.size
     have HB6 := zz (HB5.out.trans (b6.mono (by omega)))
     have HX6 := zz (HX5.out.below b6 (by omega))
     clear b6 HB5 HX5
     cases hfit : fit a[k].f a[k].ks
     ·have E := zz (show false = fitTs a from (fitTs_no hkl (by rw [HFE.out, hfit]; rfl)).symm)
      clear hfit HX6
      go_wp2
      go_ret
      exact ⟨zb E.out, HK4.out.trans (HKW.out.trans (Keep.of_below HB6.out)), fun h => by rw [<- E.out] at h; cases h⟩
     have HFI := zz hfit
     have x0 := HX6.out.cell
     clear hfit
     have HAG6 := zz (Agree.of_below (S := S) HB6.out fun i hi => by have := HSM.out i hi; omega)
     go_wp2_with fail
     refine (HIH.out (cnts a - 1) HLT.out (by have := HLT.out; omega) a[k].ks _ (.slice A' a[k].ks.length cc) m S M l' HCN.out hp hmk HFK.out.ks (HKa.out.agree HAG6.out) HSM.out (HML.out.below HB6.out (by omega)) (HTW.out.agree HAG6.out)).mono ?_
     rintro e w7 ⟨rfl, k7, h7⟩
     have HK7 := zz (show Keep M wr w7 from (Keep.of_below HB6.out).trans k7)
     have HAG7 := zz (show Agree S w6 w7 from k7.agree fun i hi => ⟨by have := HSM.out i hi; omega, Nat.ne_of_lt (HSM.out i hi)⟩)
     have H7 := zz h7
     clear k7 h7 x0 HX6
     cases hfs : fitTs a[k].ks
     ·have E := zz (show false = fitTs a from (fitTs_no hkl (by rw [HFE.out, hfs, Bool.and_false])).symm)
      clear hfs
      go_wp2
      go_ret
      exact ⟨zb E.out, HK4.out.trans (HKW.out.trans HK7.out), fun h => by rw [<- E.out] at h; cases h⟩
     ·obtain ⟨l'', hm7, hmo7⟩ := H7.out hfs
      have HM7 := zz hm7
      have HO7 := zz (show MoreJ w7 m S (putE (⟨ba, oa, a.length⟩ : LK) (.agg #[]) l) l'' from (HMO.out.agree (HAG6.out.trans HAG7.out)).trans hmo7)
      have HA7 := zz (show (a.take (k + 1)).all fitT = true by rw [HAS.out, HAL.out, HFE.out, HFI.out, hfs]; rfl)
      clear hm7 hmo7 hfs
      go_wp2
      go_roundw
      case rel => exact ⟨k + 1, by omega, by go_num, HA7.out, HKW.out.trans HK7.out, l'', HM7.out, HO7.out⟩
      case measure => simp [intOf]; omega
    ·have E := zz (show true = fitTs a by rw [fitTs_all, <- HAL.out, List.take_of_length_le (by omega)])
     go_wp2
     go_ret
     exact ⟨zb E.out, HK4.out.trans HKW.out, fun _ => ⟨l', HML.out, HMO.out.closed ⟨a, HKA.out.agree HG6.out, E.out.symm⟩⟩⟩
end
section
open Go.RowKit
variable {S : Nat -> Prop} {m : Md} {t : Tr} {v : Value} {w : World}
def rgt (t : Tr) : Int := if 40 < dep t then 42 else if t.f.k = 1 /\ fitT t = true then 0 else 41
theorem rc40 (c : Nat) : (40 : Int) < rc c 40 ↔ 40 < c := by unfold rc; rw [if_neg (by omega)]; omega
theorem right_is2 {z : Int} (hc : cnt t <= 65536) (hp : m.plain = true) (hm : m.mark = true) (hF : AllF t) (hK : Kids w m S v t.ks) (hN : ∀ i, S i -> i < w.heap.size) (hz : rgt t = z) :
 Calls Tryz.prog 7 #[nv t.f v] w fun e w' => e = .returned (.int .i64 z) /\ Below w.heap.size w w' := by
 have hmm := @run_makeMap Tryz.prog
 have hcs : cnt t = 1 + cnts t.ks := by cases t; rfl
 have HZ := zz hz
 have HK := zz hK
 have HN := zz hN
 have HF := zz hF
 clear hz hK hN hF
 obtain ⟨Av, cv, bv, ov, rfl, _, _, _⟩ := HK.out.form
 unfold nv
 go_enter Tryz.func7, Tryz.ntmps7
 go_wp2_with fail
 obtain ⟨w1, hw1, HB1, HX1, hs1⟩ := jb w t.f (.slice Av t.ks.length cv)
 rw [hw1]
 clear hw1
 refine (tdepth_is (t := t) hc hp (HK.out.below HB1.out HN.out) (fun i hi => by have := HN.out i hi; omega) (by omega)).mono ?_
 rintro e w2 ⟨rfl, b2⟩
 have hz2 := b2.size
 have HB2 := zz (HB1.out.trans (b2.mono (by omega)))
 have HX2 := zz (HX1.out.below b2 (by omega))
 clear b2 HB1 HX1
 have HRC := zz (rc40 (dep t))
 generalize rc (dep t) 40 = D at *
 by_cases hD : 40 < D
 ·have q : decide (40 < D) = true := decide_eq_true hD
  have E := zz (show 42 = z by rw [<- HZ.out]; unfold rgt; rw [if_pos (HRC.out.1 hD)])
  clear hD HX2
  go_wp2
  go_ret
  exact ⟨ret_int E.out, HB2.out⟩
 have q : decide (40 < D) = false := decide_eq_false hD
 have HZ2 := zz (show (if t.f.k = 1 /\ fitT t = true then (0 : Int) else 41) = z by rw [<- HZ.out]; unfold rgt; rw [if_neg fun h => hD (HRC.out.2 h)])
 clear hD HZ HRC
 obtain ⟨x0, x1, x2, x3, x4, x5, x6, x7⟩ := HX2.out.cell
 by_cases hk : t.f.k = 1
 rotate_left
 ·have qk : (t.f.k != 1) = true := by simp [hk]
  have E := zz (show 41 = z by rw [<- HZ2.out, if_neg fun h => hk h.1])
  clear hk HX2
  go_wp2
  go_ret
  exact ⟨ret_int E.out, HB2.out⟩
 have qk : (t.f.k != 1) = false := by simp [hk]
 have HZ3 := zz (show (if fitT t = true then (0 : Int) else 41) = z by rw [<- HZ2.out]; simp [hk])
 have HFE := zz (fit_kid t)
 clear hk HZ2
 go_wp2_with fail
 refine (fit_is (f := t.f) hm HF.out.nf HF.out.ks ((HK.out.below HB2.out HN.out).lst hm) (fun i hi => by have := HN.out i hi; omega) rfl).mono ?_
 rintro e w3 ⟨rfl, b3⟩
 have hz3 := b3.size
 have HB3 := zz (HB2.out.trans (b3.mono (by omega)))
 have HX3 := zz (HX2.out.below b3 (by omega))
 clear b3 HB2 HX2 x0 x1 x2 x3 x4 x5 x6 x7
 cases hf : fit t.f t.ks
 ·have E := zz (show 41 = z by rw [<- HZ3.out, HFE.out, hf]; rfl)
  clear hf HX3
  go_wp2
  go_ret
  exact ⟨ret_int E.out, HB3.out⟩
 have HZ4 := zz (show (if fitTs t.ks = true then (0 : Int) else 41) = z by rw [<- HZ3.out, HFE.out, hf]; rfl)
 obtain ⟨x0, x1, x2, x3, x4, x5, x6, x7⟩ := HX3.out.cell
 clear hf HZ3 HFE
 have y7 : ∀ o, (w3.alloc o).cell? ⟨w.heap.size, 7, none⟩ = some (.slice Av t.ks.length cv) := fun o => (World.cell?_alloc_lt _ _ _ (by show w.heap.size < _; omega)).trans x7
 go_wp2_with fail
 have hb4 := (Below.refl w3.heap.size w3).alloc (Nat.le_refl _) (.map #[] 0)
 have hnew := MapIs.new key1 w3
 have HB4 := zz (HB3.out.trans (hb4.mono HB3.out.size))
 have hz4 := hb4.size
 generalize hw4 : w3.alloc (.map #[] 0) = w4 at *
 refine (allfit_all (cnts t.ks) (by omega) t.ks _ (.slice Av t.ks.length cv) m S w3.heap.size [] (Nat.le_refl _) hp hm HF.out.ks (HK.out.below HB4.out HN.out) (fun i hi => by have := HN.out i hi; omega) hnew Jd.none).mono ?_
 rintro e w5 ⟨rfl, k5, _⟩
 have HB5 := zz (show Below w.heap.size w w5 from ⟨k5.os.trans HB4.out.os, k5.tape.trans HB4.out.tape, k5.output.trans HB4.out.output, by have := k5.size; omega, fun i hi => (k5.block i (by omega) (fun e => by cases e; omega)).trans (HB4.out.block i hi)⟩)
 clear k5 hw4 hnew hb4 HB4 HB3 HX3 x0 x1 x2 x3 x4 x5 x6 x7 y7
 cases hf : fitTs t.ks
 ·have E := zz (show 41 = z by rw [<- HZ4.out, hf]; rfl)
  clear hf
  go_wp2
  go_ret
  exact ⟨ret_int E.out, HB5.out⟩
 ·have E := zz (show 0 = z by rw [<- HZ4.out, hf]; rfl)
  clear hf
  go_wp2
  go_ret
  exact ⟨ret_int E.out, HB5.out⟩
end
section
open Go.RowKit
variable {d : Nat} {f : Nd} {ks : List Tr} {t : Tr}
structure Puts3 (t : Tr) (d : Nat) : Prop where
 s : okS t = true -> PutS t d
 b : okB t = true -> PutB t d /\ PutI t d
 c : ∀ kd, kd = 14 ∨ kd = 16 -> okC kd t = true -> PutC t d
theorem okB_of (h : kBlock t.f = true /\ fitT t = true) : okB t = true := by rw [okB, h.1, h.2]; rfl
theorem okS_of (h : kStmt t.f = true /\ fitT t = true) : okS t = true := by rw [okS, h.1, h.2]; rfl
theorem okB_4 (h : okB t = true) : t.f.k = 4 := by
 have := (and2 h).1
 simpa [kBlock] using this
theorem block_parts (hd : d < 1000000) (ih : ∀ a ∈ ks, Puts3 a (d + 1)) (h : okB (.mk f ks) = true) : PutB (.mk f ks) d /\ PutI (.mk f ks) d := by
 have hk : f.k = 4 := okB_4 h
 rw [okB_eq] at h
 simp only [Bool.and_eq_true, List.all_eq_true] at h
 have hS : ∀ t ∈ ks, PutS t (d + 1) := fun t ht => (ih t ht).s (okS_of (h.2 t ht))
 refine ⟨?_, ?_⟩
 ·intro N W w v m S hK hN hT
  exact block_is hd (tx_4 hk d) hS hK hN hT
 ·intro N W w v m S hK hN hT
  exact inside_is hd (tx_4i hk d) hS hK hN hT
theorem clause_parts (hd : d <= 1000000) (hT : AllTs ks) (ih : ∀ a ∈ ks, okB a = true -> PutI a d) (kd : Int) (hkd : kd = 14 ∨ kd = 16) (h : okC kd (.mk f ks) = true) : PutC (.mk f ks) d := by
 have hT' := AllTs.get hT
 have hk : f.k = kd := beq_iff_eq.1 (and2 h).1
 have hfit : fitT (.mk f ks) = true := (and2 h).2
 have h1416 : f.k = 14 ∨ f.k = 16 := by rw [hk]; exact hkd
 intro N W w v m S hK hN hTab
 have hlen : 0 < ks.length := by
  by_cases hz : ks.length = 0
  ·by_cases h0 : f.n = 0
   ·rw [clause_none (t := .mk f ks) h1416 (Or.inl h0) hz] at hfit
    cases hfit
   ·by_cases h1 : f.n = 1
    ·rw [clause_none (t := .mk f ks) h1416 (Or.inr h1) hz] at hfit
     cases hfit
    ·rw [clause_num (t := .mk f ks) h1416 h0 h1] at hfit
     cases hfit
  ·omega
 obtain ⟨r, a, rfl, hr⟩ := snoc_of hlen
 by_cases h1 : f.n = 1
 ·rw [clause_def (t := .mk f (r ++ [a])) h1416 h1 rfl] at hfit
  simp only [Bool.and_eq_true, decide_eq_true_eq] at hfit
  obtain rfl : r = [] := List.eq_nil_of_length_eq_zero hfit.2
  have hI : PutI a d := ih a (by simp) (okB_of hfit.1.2)
  refine clause_d ?_ hd h1 hI hK hN hTab
  rcases h1416 with hk | hk
  ·have := tx_14 (r := []) (a := a) hk d false
   rw [if_pos h1] at this
   exact this
  ·exact tx_16d hk h1 d false
 by_cases h0 : f.n = 0
 rotate_left
 ·rw [clause_num (t := .mk f (r ++ [a])) h1416 h0 h1] at hfit
  cases hfit
 rcases h1416 with hk | hk
 ·rw [clause_case (t := .mk f (r ++ [a])) hk h0 rfl] at hfit
  simp only [Bool.and_eq_true, decide_eq_true_eq, List.all_eq_true] at hfit
  have hI : PutI a d := ih a (by simp) (okB_of hfit.1.1.2)
  refine clause_c ?_ hd hk h1 (fun x hx => putE_ok (hT' x (by simp [hx])) (okE_of (hfit.1.2 x hx))) hI hK hN hTab
  have := tx_14 (r := r) (a := a) hk d false
  rw [if_neg h1] at this
  rw [this]
  simp only [List.append_assoc]
 ·by_cases hl : (r ++ [a]).length = 2
  ·obtain ⟨g, rfl⟩ : ∃ g, r = [g] := by
    rw [List.length_append] at hl
    match r, hl with
    | [g], _ => exact ⟨g, rfl⟩
    | [], h => simp at h
    | _ :: _ :: _, h => simp at h
   ·replace hfit : fitT (.mk f [g, a]) = true := hfit
    rw [arm2 (t := .mk f [g, a]) hk h0 rfl] at hfit
    simp only [Bool.and_eq_true] at hfit
    have hI : PutI a d := ih a (by simp) (okB_of hfit.1.2)
    have hM : okM g = true := by
     have := hfit.2
     unfold commOk at this
     simp only [Bool.and_eq_true] at this
     first | exact this.1 | (rw [okM, this.1.1, this.1.2]; rfl)
    refine clause_a ?_ hd hk h1 (simple_all (hT' g (by simp)) hM) hI hK hN hTab
    show tx (.mk f [g, a]) d false = _
    rw [tx_16 hk h1 d false]
    simp only [List.append_assoc]
  ·rw [arm_len (t := .mk f (r ++ [a])) hk h0 hl] at hfit
   cases hfit
theorem puts_all (n : Nat) : ∀ (t : Tr) (d : Nat), cnt t <= n -> d + cnt t <= 900000 -> AllT t -> Puts3 t d := by
 induction n with
 | zero => exact fun t d hn _ _ => absurd hn (by have := cnt_pos t; omega)
 | succ n ihn =>
  intro t d hcn hd hT
  obtain ⟨f, ks⟩ := t
  have hc : cnt (.mk f ks) = 1 + cnts ks := rfl
  have hkT : ∀ a ∈ ks, AllT a := AllTs.get hT.ks
  have ih : ∀ a ∈ ks, Puts3 a d := fun a ha => ihn a d (by have := cnts_mem ha; omega) (by have := cnts_mem ha; omega) (hkT a ha)
  have ih1 : ∀ a ∈ ks, Puts3 a (d + 1) := fun a ha => ihn a (d + 1) (by have := cnts_mem ha; omega) (by have := cnts_mem ha; omega) (hkT a ha)
  have hB : ∀ a ∈ ks, okB a = true -> PutB a d := fun a ha h => ((ih a ha).b h).1
  have hI : ∀ a ∈ ks, okB a = true -> PutI a d := fun a ha h => ((ih a ha).b h).2
  have hE : ∀ a ∈ ks, okE a = true -> PutE a := fun a ha h => putE_ok (hkT a ha) h
  have hd' : d < 1000000 := by omega
  refine ⟨fun h => ?_, fun h => block_parts hd' ih1 h, fun kd hkd h => clause_parts (by omega) hT.ks hI kd hkd h⟩
  intro N W w v m S hK hN hTab
  have hv := hK.form
  obtain ⟨A, c, b, o, rfl, _, _, _⟩ := hv
  have hKb : ∀ w', Below N w w' -> Kids w' m S (.slice A ks.length c) ks := fun w' hb => hK.below hb hN
  have hfit : fitT (.mk f ks) = true := (and2 h).2
  by_cases k4 : f.k = 4
  ·rw [okS_4 (t := .mk f ks) k4] at h
   exact stmt_4 k4 rfl fun w' hb => (block_parts hd' ih1 h).1 (hKb w' hb) hN (hTab.below hb)
  by_cases k5 : f.k = 5
  ·rw [okS_5 (t := .mk f ks) k5] at h
   simp only [Bool.and_eq_true, decide_eq_true_eq, List.all_eq_true] at h
   match ks, h.1.2, hKb, h.1.1.2, hE with
   | [], _, hKb, _, _ => exact stmt_5 k5 (tx_5n k5 d false) fun w' hb => variable_0 rfl
   | [a], _, hKb, h1, hE => exact stmt_5 k5 rfl fun w' hb => variable_1 (by rw [tx_5 k5 d false]; simp only [List.append_assoc]; first | done | rfl) (hE a (by simp) (okE_of (h1 a (by simp [Tr.ks])))) (hKb w' hb) hN (hTab.below hb)
  by_cases k11 : f.k = 11
  ·by_cases h2 : ks.length = 2
   ·match ks, h2, hfit, hKb, hE, hB with
    | [a, e], _, hfit, hKb, hE, hB =>
     rw [if2 (t := .mk f [a, e]) k11 rfl] at hfit
     simp only [Bool.and_eq_true] at hfit
     exact stmt_11 k11 rfl fun w' hb => choice_2 (tx_11 k11 d false) (hE a (by simp) (okE_of hfit.1.2)) (hB e (by simp) (okB_of hfit.2)) (hKb w' hb) hN (hTab.below hb)
   by_cases h3 : ks.length = 3
   ·match ks, h3, hfit, hKb, hE, hB, ih with
    | [a, e, g], _, hfit, hKb, hE, hB, ih =>
     rw [if3 (t := .mk f [a, e, g]) k11 rfl] at hfit
     have hg : okS g = true := by
      have h4 := (and2 hfit).2
      split at h4
      ·rename_i hk
       rw [okS_fit (by simp [kStmt, hk])]
       exact h4
      ·rw [okS_4 (okB_4 h4)]
       exact h4
     simp only [Bool.and_eq_true] at hfit
     exact stmt_11 k11 rfl fun w' hb => choice_3 (by rw [tx_11e k11 d false]; simp only [List.append_assoc]; first | done | rfl) (hE a (by simp) (okE_of hfit.1.1.2)) (hB e (by simp) (okB_of hfit.1.2)) ((ih g (by simp)).s hg) (hKb w' hb) hN (hTab.below hb)
   rw [if_no (t := .mk f ks) k11 h2 h3] at hfit
   cases hfit
  by_cases k12 : f.k = 12
  ·by_cases hc : (f.n = 0 /\ ks.length = 1) ∨ (f.n = 1 /\ ks.length = 2) ∨ (f.n = 2 /\ ks.length = 4) ∨ (f.n = 3 /\ ks.length = 3)
   rotate_left
   ·rw [for_len (t := .mk f ks) k12 hc] at hfit
    cases hfit
   rcases hc with ⟨hn, hl⟩ | ⟨hn, hl⟩ | ⟨hn, hl⟩ | ⟨hn, hl⟩
   ·match ks, hl, hfit, hKb, hB with
    | [a], _, hfit, hKb, hB =>
     rw [for0 (t := .mk f [a]) k12 hn rfl] at hfit
     simp only [Bool.and_eq_true] at hfit
     exact stmt_12 k12 rfl fun w' hb => loop_0 (tx_12z k12 hn d false) hn (hB a (by simp) (okB_of hfit.2)) (hKb w' hb) hN (hTab.below hb)
   ·match ks, hl, hfit, hKb, hB, hE with
    | [e, a], _, hfit, hKb, hB, hE =>
     rw [for1 (t := .mk f [e, a]) k12 hn rfl] at hfit
     simp only [Bool.and_eq_true] at hfit
     exact stmt_12 k12 rfl fun w' hb => loop_1 (by rw [tx_12a k12 hn d false]; simp only [List.append_assoc]; first | done | rfl) hn (hE e (by simp) (okE_of hfit.2)) (hB a (by simp) (okB_of hfit.1.2)) (hKb w' hb) hN (hTab.below hb)
   ·match ks, hl, hfit, hKb, hB, hE, hkT with
    | [g, c', z, a], _, hfit, hKb, hB, hE, hkT =>
     rw [for2 (t := .mk f [g, c', z, a]) k12 hn rfl] at hfit
     obtain ⟨h1, h2⟩ := and2 hfit
     obtain ⟨h2, h3⟩ := and2 h2
     obtain ⟨h4, h5⟩ := and2 h2
     have hM : ∀ y, AllT y -> (okM y || okN y) = true -> PutM y := fun y hy hh => by
      cases e : okM y
      ·rw [e, Bool.false_or] at hh
       have := (and2 hh).1
       exact @none_all y (by simpa [kNone] using this)
      ·exact @simple_all y hy e
     have hX : (okM z || okN z) = true := by
      cases e : okM z
      ·rw [e] at h3
       simpa using h3
      ·rfl
     have hC : ¬ c'.f.k = 0 -> PutE c' := fun h0 => by
      cases e : okE c'
      ·rw [e, Bool.false_or] at h5
       have := (and2 h5).1
       exact (h0 (by simpa [kNone] using this)).elim
      ·exact hE c' (by simp) e
     exact stmt_12 k12 rfl fun w' hb => loop_2 (by rw [tx_12b k12 hn d false]; simp only [List.append_assoc]; first | done | rfl) hn (hM g (hkT g (by simp)) h4) hC (fun _ => hM z (hkT z (by simp)) hX) (hB a (by simp) (and2 h1).2) (hKb w' hb) hN (hTab.below hb)
   ·match ks, hl, hfit, hKb, hB, hE with
    | [g, e, a], _, hfit, hKb, hB, hE =>
     rw [for3 (t := .mk f [g, e, a]) k12 hn rfl] at hfit
     obtain ⟨h1, h2⟩ := and2 hfit
     obtain ⟨h2, h3⟩ := and2 h2
     have hG : ¬ bs f.t = [] -> PutE g := fun h0 => by
      have h6 : decide ((Tr.mk f [g, e, a]).f.t.data.toList = []) = false := decide_eq_false h0
      rw [h6, Bool.and_false, Bool.or_false] at h3
      exact @putE_name g (by have := (and2 (and2 h3).1).1; simpa using this)
     exact stmt_12 k12 rfl fun w' hb => loop_3 (by rw [tx_12c k12 hn d false]; simp only [List.append_assoc]; first | done | rfl) hn hG (hE e (by simp) h2) (hB a (by simp) (and2 h1).2) (hKb w' hb) hN (hTab.below hb)
  by_cases k13 : f.k = 13
  ·by_cases hn0 : f.n = 0
   ·rw [okS_13a (t := .mk f ks) k13 hn0] at h
    have h2 := (and2 (and2 h).2).1
    rw [List.all_eq_true] at h2
    exact stmt_13 k13 rfl fun w' hb => clauses_13z (by rw [tx_13z k13 hn0 d false]; simp only [List.append_assoc]; first | done | rfl) (by omega) k13 hn0 (fun x hx => (ih x hx).c 14 (Or.inl rfl) (h2 x hx)) (hKb w' hb) hN (hTab.below hb)
   by_cases hn1 : f.n = 1
   ·by_cases hl : ks.length = 0
    ·rw [okS_13n (t := .mk f ks) k13 hn1 hl] at h
     cases h
    ·match ks, hl, h, hKb, hE, ih with
     | a :: r, _, h, hKb, hE, ih =>
      rw [okS_13b (t := .mk f (a :: r)) k13 hn1 rfl] at h
      have h2 := (and2 (and2 h).2).1
      rw [List.all_eq_true] at h2
      exact stmt_13 k13 rfl fun w' hb => clauses_13 (by rw [tx_13 k13 hn1 d false]; simp only [List.append_assoc]; first | done | rfl) (by omega) k13 hn1 (hE a (by simp) (and2 (and2 h).1).2) (fun x hx => (ih x (List.mem_cons_of_mem _ hx)).c 14 (Or.inl rfl) (h2 x hx)) (hKb w' hb) hN (hTab.below hb)
     | [], hl, _, _, _, _ => exact absurd rfl hl
   rw [okS_13m (t := .mk f ks) k13 hn0 hn1] at h
   cases h
  by_cases k15 : f.k = 15
  ·rw [okS_15 (t := .mk f ks) k15] at h
   have h1 := (and2 h).1
   have h2 := (and2 (and2 h).2).1
   rw [List.all_eq_true] at h2
   have hn0 : f.n = 0 := by
    unfold emp at h1
    simp only [Bool.and_eq_true, beq_iff_eq] at h1
    exact h1.2
   exact stmt_15 k15 rfl fun w' hb => clauses_15 (tx_15 k15 d false) (by omega) k15 hn0 (fun x hx => (ih x hx).c 16 (Or.inr rfl) (h2 x hx)) (hKb w' hb) hN (hTab.below hb)
  by_cases k17 : f.k = 17
  ·rw [okS_17 (t := .mk f ks) k17] at h
   simp only [Bool.and_eq_true, decide_eq_true_eq, List.all_eq_true, beq_iff_eq] at h
   match ks, h.1.1, h.1.2, hK, hkT with
   | [a], _, h2, hK, hkT =>
    have h3 := h2 a (by simp [Tr.ks])
    have hA : okE a = true := by rw [okE_28 h3.1.1]; exact h3.2
    exact stmt_17 (tx_17 k17 d false) k17 (putE_ok (hkT a (by simp)) hA) hK hN hTab
  by_cases k18 : f.k = 18
  ·rw [okS_18 (t := .mk f ks) k18] at h
   simp only [Bool.and_eq_true, decide_eq_true_eq, List.all_eq_true] at h
   match ks, h.1.2, hKb, h.1.1, hE with
   | [], _, hKb, _, _ => exact stmt_18 k18 (tx_18n k18 d false) fun w' hb => result_0 rfl
   | [a], _, hKb, h1, hE => exact stmt_18 k18 rfl fun w' hb => result_1 (by rw [tx_18 k18 d false]; simp only [List.append_assoc]; first | done | rfl) (hE a (by simp) (okE_of (h1 a (by simp [Tr.ks])))) (hKb w' hb) hN (hTab.below hb)
  by_cases k19 : f.k = 19
  ·exact stmt_19 (tx_19 k19 d false) k19
  by_cases k20 : f.k = 20
  ·exact stmt_20 (tx_20 k20 d false) k20
  have hz : ∀ z ∈ ([4, 5, 11, 12, 13, 15, 17, 18, 19, 20] : List Int), ¬ f.k = z := by
   intro z hz
   simp only [List.mem_cons, List.not_mem_nil, or_false] at hz
   rcases hz with rfl | rfl | rfl | rfl | rfl | rfl | rfl | rfl | rfl | rfl <;> assumption
  rw [okS_simple (t := .mk f ks) hz] at h
  exact stmt_s hz (tx_simp (t := .mk f ks) (Or.inl (and2 h).1) d false) fun w' hb => simple_all hT h (hKb w' hb) hN (hTab.below hb)
end
section
open Go.RowKit
variable {N W : Nat} {tb : Int} {w : World}
theorem cellsU8 : Tryz.prog.cellsOf 5 = 1 := by kernel_rfl
theorem wtold_is {acc : List UInt8} (h : Wr N W acc tb w) :
 Calls Tryz.prog 19 #[.pointer (some ⟨W, 0, none⟩)] w fun e w' => e = .returned (.string ⟨acc.toArray⟩) /\ Below N w w' := by
 have hNw := h.nle
 obtain ⟨h0, p, v, h1, hbk, hown, hnil⟩ := h
 by_cases hz : acc = []
 ·subst hz
  obtain rfl := hnil rfl
  refine (stzero_any W w (by simp [World.cell?, hbk])).mono ?_
  rintro e w' ⟨rfl, b⟩
  exact ⟨rfl, b.mono hNw⟩
 have hl0 : acc.length ≠ 0 := by simpa using hz
 obtain ⟨g, cap, cur, rfl, hbg, hg, hnc, hcm, hcs, htake⟩ : ∃ g cap cur, v = .slice (some ⟨g, 0, none⟩) acc.length cap /\ N <= g /\ w.heap[g]? = some (.cells cur 5 (0, 0)) /\ acc.length <= cap /\ cap <= maxLen /\ cur.size = cap * 1 /\ cur.toList.take (acc.length * 1) = Lib.byteCells acc := by
  rcases hown.2 with ⟨_, hz⟩ | ⟨g, cap, cur, hv, r⟩
  ·exact absurd hz hl0
  ·exact ⟨g, cap, cur, hv, r⟩
 have c1 : w.drew.cell? ⟨W, 1, none⟩ = some (.slice (some ⟨g, 0, none⟩) acc.length cap) := by
  have : w.drew.heap[W]? = some (.cells #[p, .slice (some ⟨g, 0, none⟩) acc.length cap, .int .i64 tb] 44 (0, 0)) := hbk
  rw [Lib.cell_of_heap this]; rfl
 have hSD : (Builtin.unsafeSliceData_ #[40] 66 #[.slice (some ⟨g, 0, none⟩) acc.length cap]).run Tryz.prog w.drew = .ok (.pointer (some ⟨g, 0, none⟩)) w.drew :=
  Lib.run_unsafeSliceData_row _ _ _ _ _ _ (by omega)
 have hUS : (Builtin.unsafeString_ #[66, 3] 9 #[.pointer (some ⟨g, 0, none⟩), .int .i64 acc.length]).run Tryz.prog w.drew = .ok (.string ⟨acc.toArray⟩) (w.drew.freeze ⟨g, 0, none⟩ acc.length) := by
  refine Lib.run_unsafeString_row w.drew 66 3 9 5 Tryz.underlying66 cellsU8 g cur.size (by have hg' : w.drew.heap[g]? = some (.cells cur 5 (0, 0)) := hg; simp [World.shape?, hg']) acc hz (by omega) (by unfold maxLen at hcm; omega) ?_
  intro j x hx
  have := hown.cells (g := g) rfl j (.int .u8 x.toNat) (by simp [Lib.byteCells, hx])
  exact this
 clear hown hnil hbk hg htake hz
 go_enter Tryz.func19, Tryz.ntmps19
 go_wp2
 go_region
 all_goals (go_wp2; go_ret; exact ⟨rfl, Lib.below_freeze (Below.drew (Below.refl N w)) (p := ⟨g, 0, none⟩) hbg _⟩)
end
section
open Go.RowKit
variable {A : Option Addr} {B N W c n : Nat} {S : Nat -> Prop} {a : Tr} {f : Nd} {m : Md} {r ts : List Tr} {tb : Int} {v : Value} {w w' : World} {x : List UInt8}
structure PBx (w : World) (B W : Nat) : Prop where
 blk : w.heap[B]? = some (.cells #[.pointer (some ⟨W, 0, none⟩)] 61 (0, 0))
theorem PBx.fx {V : Nat} (h : PBx w B V) (hx : Fx N W w w') (hB : B ≠ W) : PBx w' B V := ⟨(hx.blk B _ _ _ hB (by decide) h.blk).trans h.blk⟩
theorem PBx.below {M : Nat} (h : PBx w B W) (hb : Below M w w') (hB : B < M) : PBx w' B W := ⟨(hb.block B hB).trans h.blk⟩
theorem PBx.cell {W B : Nat} {w : World} (h : PBx w B W) : w.cell? ⟨B, 0, none⟩ = some (.pointer (some ⟨W, 0, none⟩)) := by simp [World.cell?, h.blk]
theorem PBx.lt (h : PBx w B W) : B < w.heap.size := (Array.getElem?_eq_some_iff.1 h.blk).1
theorem pboxed (w : World) (W : Nat) : ∃ w1, w.alloc (.cells #[.pointer (some ⟨W, 0, none⟩)] 61) = w1 /\ Hid (Below w.heap.size w w1) /\ Hid (PBx w1 w.heap.size W) /\ w1.heap.size = w.heap.size + 1 :=
 ⟨_, rfl, zz ((Below.refl _ _).alloc (Nat.le_refl _) _), zz ⟨(MapKept.heap_alloc w _).1⟩, World.size_alloc _ _⟩
def PutP (t : Tr) : Prop := ∀ {N W B0 : Nat} {tb : Int} {w : World} {A : Option Addr} {n c : Nat}, PBx w B0 W -> B0 ≠ W -> Puts N W tb (te t) 33 #[nv t.f (.slice A n c), .pointer (some ⟨B0, 0, none⟩)] w
theorem par_is {B0 : Nat} (hP : PBx w B0 W) (hx : x = bs f.t ++ [32] ++ bs f.y) :
 Puts N W tb x 33 #[nv f (.slice A n c), .pointer (some ⟨B0, 0, none⟩)] w := by
 unfold nv
 intro acc hw hlen
 have HW0 := zz hw
 have hWl := hw.lt
 have hNw := hw.nle
 have HX0 := zz (show x = bs f.t ++ [32] ++ bs f.y from hx)
 have HL := zz hlen
 have HF0 := zz (Fx.refl N W w)
 clear hw hlen
 have y0 : ∀ o, (w.alloc o).cell? ⟨B0, 0, none⟩ = some (.pointer (some ⟨W, 0, none⟩)) := fun o => (World.cell?_alloc_lt w o _ hP.lt).trans hP.cell
 clear hP
 go_enter Tryz.func33, Tryz.ntmps33
 go_wp2_with fail
 obtain ⟨w1, hw1, HB, HXb, hs1⟩ := jb w f (.slice A n c)
 rw [hw1]
 clear hw1
 obtain ⟨hz1, HF1, HW1⟩ := stb hNw HF0 HW0 HB
 clear HF0 HW0 y0
 have hnb : w.heap.size ≠ W := by have := HF1.out.size; omega
 clear HB
 refine (zc (x := bs f.t ++ [32] ++ bs f.y) [f.t, ⟨#[32]⟩, f.y] (by simp [fl]) (by simp) (by omega) rfl rfl HW1.out (by have h := HL.out; rw [HX0.out] at h; (try simp only [List.length_append] at h |-); omega)).mono ?_
 rintro e w2 ⟨rfl, fx, wr⟩
 obtain ⟨hz2, HF2, HW2⟩ := stf HF1 fx wr
 replace HXb := fxx HXb fx hnb
 clear HF1 HW1 fx wr
 go_wp2
 go_end0
 exact ⟨rfl, HF2.out, by rw [HX0.out]; first | exact HW2.out | simpa only [List.append_assoc] using HW2.out⟩
theorem putP_ok {t : Tr} (h : t.f.k = 3) : PutP t := by
 intro N W B0 tb w A n c hP _
 obtain ⟨f, ks⟩ := t
 exact par_is hP (tx_3 h 0 false)
theorem parted_par {B0 : Nat} {va : Value} (hx : x = cm (ts.map te)) (hE : ∀ t ∈ ts, PutP t) (hP : PBx w B0 W) (hB0 : B0 ≠ W) (hK : Lst w m S va ts) (hN : ∀ i, S i -> i < N) :
 Puts N W tb x 32 #[.pointer (some ⟨W, 0, none⟩), va, .func (.func 33) #[] #[.pointer (some ⟨B0, 0, none⟩)]] w := by
 obtain ⟨A, ca, ba, oa, rfl, hla, hcap, hA, hra⟩ := hK
 have HA := zz hA
 have HR := zz hra
 have HE := zz hE
 have HN := zz hN
 have HP := zz hP
 clear hA hra hE hN hP hcap
 intro acc hw hlen
 have HW0 := zz hw
 have hWl := hw.lt
 have hNw := hw.nle
 have HL := zz hlen
 have HX0 := zz hx
 clear hw hlen hx
 go_enter Tryz.func32, Tryz.ntmps32
 go_wp2
 go_loopw [10] (fun i wr => ∃ k : Nat, k <= ts.length /\ i = .int .i64 k /\ Fx N W w wr /\ Wr N W (acc ++ cm ((ts.map te).take k)) tb wr) (fun i _ => ts.length - (intOf i).toNat)
 case atStart => exact ⟨0, Nat.zero_le _, rfl, Fx.refl _ _ _, by simpa [cm] using HW0.out⟩
 case round =>
  obtain ⟨k, hk, rfl, hfx, hwr⟩ := hrel
  have hsz := hfx.size
  have HF0 := zz hfx
  have HWr := zz hwr
  clear hfx hwr HW0
  by_cases hkl : k < ts.length
  rotate_left
  ·have HE2 := zz (show cm ((ts.map te).take k) = x by rw [HX0.out, List.take_of_length_le (by simp; omega)])
   go_wp2
   go_end0
   exact ⟨rfl, HF0.out, by rw [<- HE2.out]; exact HWr.out⟩
  have i0 : (0 : Int) <= (k : Int) := by omega
  have i1 : (k : Int) < (ts.length : Int) := by omega
  obtain ⟨hA1, hb⟩ := HA.out (by omega)
  subst hA1
  obtain ⟨vk, HCk, HKk⟩ := Lst.at (HR.out.agree (Agree.of_below HF0.out.below HN.out) hb) k hkl
  obtain ⟨Ak, ck, bk, ok, rfl, _, _, _⟩ := HKk.out.form
  have HTK := zz (te_take hkl)
  have HLE := zz (show acc.length + (cm ((ts.map te).take (k + 1))).length <= 140737488355328 by have h := HL.out; rw [HX0.out] at h; have := cm_le (ts.map te) (k + 1); omega)
  by_cases h0 : k = 0
  ·have q0 : decide (0 < (k : Int)) = false := decide_eq_false (by omega)
   have q1 : ¬ (0 < k) := by omega
   have HT2 := zz (show cm ((ts.map te).take (k + 1)) = cm ((ts.map te).take k) ++ te ts[k] by rw [HTK.out, if_pos h0]; simp)
   clear HTK h0
   have k0 := HCk.out.cell
   go_wp2_with fail
   obtain ⟨w1, hw1, HB, HXb, hs1⟩ := jb wr ts[k].f (.slice Ak ts[k].ks.length ck)
   rw [hw1]
   have HF1 := zz (HF0.out.trans (Fx.of_below (N := N) (W := W) HB.out (by omega)))
   have HW1 := zz (HWr.out.below HB.out)
   clear hw1 k0
   refine (HE.out ts[k] (List.getElem_mem hkl) (N := N) (W := W) (B0 := B0) (tb := tb) (w := w1) (HP.out.fx HF1.out hB0) hB0 _ HW1.out (by have h := HLE.out; rw [HT2.out] at h; simp only [List.length_append] at h |-; omega)).mono ?_
   rintro e w2 ⟨rfl, fx, wr2⟩
   have HF2 := zz (HF1.out.trans fx)
   have HW2 := zz (show Wr N W (acc ++ cm ((ts.map te).take (k + 1))) tb w2 by rw [HT2.out, <- List.append_assoc]; exact wr2)
   clear fx wr2 HXb
   go_wp2
   go_roundw
   case rel => exact ⟨k + 1, by omega, by go_num, HF2.out, HW2.out⟩
   case measure => simp [intOf]; omega
  ·have q0 : decide (0 < (k : Int)) = true := decide_eq_true (by omega)
   have q1 : 0 < k := by omega
   have HT2 := zz (show cm ((ts.map te).take (k + 1)) = cm ((ts.map te).take k) ++ [44, 32] ++ te ts[k] by rw [HTK.out, if_neg h0])
   clear HTK h0
   have k0 := HCk.out.cell
   go_wp2_with fail
   obtain ⟨w1, hw1, HB, HXb, hs1⟩ := jb wr ts[k].f (.slice Ak ts[k].ks.length ck)
   rw [hw1]
   have HF1 := zz (HF0.out.trans (Fx.of_below (N := N) (W := W) HB.out (by omega)))
   have HW1 := zz (HWr.out.below HB.out)
   have hnb : wr.heap.size ≠ W := by omega
   clear hw1 k0
   refine (zc (x := [44, 32]) [⟨#[44, 32]⟩] (by simp [fl]) (by simp) (by omega) rfl rfl HW1.out (by have h := HLE.out; rw [HT2.out] at h; simp only [List.length_append] at h |-; omega)).mono ?_
   rintro e w2 ⟨rfl, fx, wr2⟩
   have HF2 := zz (HF1.out.trans fx)
   have HW2 := zz wr2
   have b0 := (HXb.out.fx fx hnb).cell
   clear fx wr2 HXb
   go_wp2_with fail
   refine (HE.out ts[k] (List.getElem_mem hkl) (N := N) (W := W) (B0 := B0) (tb := tb) (w := w2) (HP.out.fx HF2.out hB0) hB0 _ HW2.out (by have h := HLE.out; rw [HT2.out] at h; simp only [List.length_append] at h |-; omega)).mono ?_
   rintro e w3 ⟨rfl, fx, wr2⟩
   have HF3 := zz (HF2.out.trans fx)
   have HW3 := zz (show Wr N W (acc ++ cm ((ts.map te).take (k + 1))) tb w3 by rw [HT2.out]; simpa only [List.append_assoc] using wr2)
   clear fx wr2 b0
   go_wp2
   go_roundw
   case rel => exact ⟨k + 1, by omega, by go_num, HF3.out, HW3.out⟩
   case measure => simp [intOf]; omega
theorem func_0 (hx : x = [102, 117, 110, 99, 32] ++ bs f.t ++ [40] ++ cm (r.map te) ++ [41, 32] ++ tx a 0 false ++ [10]) (hy : bs f.y = []) (hR : ∀ t ∈ r, PutP t) (hB : PutB a 0) (hK : Kids w m S v (r ++ [a])) (hN : ∀ i, S i -> i < N) (hT : TabN N w) :
 Puts N W ((0 : Nat) : Int) x 18 #[.pointer (some ⟨W, 0, none⟩), nv f v] w := by
 have HN := zz hN
 have HT := zz hT
 clear hN hT
 have HR := zz hR
 clear hR
 obtain ⟨bv, ov, cv, rfl, hcv, hlv, hbv, hn_a, hrr⟩ := hK.snoc
 have HRr := zz hrr
 obtain ⟨va, HCa, HKa⟩ := hn_a.cs
 obtain ⟨Aa, ca, ba, oa, rfl, h1_, h2_, h3_⟩ := HKa.out.form
 clear h1_ h2_ h3_ hK hn_a hrr
 unfold nv
 have e3 : f.y.toList = [] := by rw [ByteArray.toList_eq]; exact hy
 have e4 : f.y.toList.isEmpty = true := by rw [e3]; rfl
 clear hy
 intro acc hw hlen
 have HW0 := zz hw
 have hWl := hw.lt
 have hNw := hw.nle
 have HX0 := zz (show x = [102, 117, 110, 99, 32] ++ bs f.t ++ [40] ++ cm (r.map te) ++ [41, 32] ++ tx a 0 false ++ [10] from hx)
 have HL := zz hlen
 have HF0 := zz (Fx.refl N W w)
 clear hw hlen
 go_enter Tryz.func18, Tryz.ntmps18
 go_wp2_with fail
 obtain ⟨w1, hw1, HB, HXp, hs1⟩ := pboxed w W
 rw [hw1]
 clear hw1
 obtain ⟨hz1, HF1, HW1⟩ := stb hNw HF0 HW0 HB
 clear HF0 HW0
 have hnp : w.heap.size ≠ W := by omega
 clear HB
 obtain ⟨w2, hw2, HB, HXb, hs2⟩ := jb w1 f (.slice (some ⟨bv, ov, none⟩) (r.length + 1) cv)
 rw [hw2]
 clear hw2
 obtain ⟨hz2, HF2, HW2⟩ := stb hNw HF1 HW1 HB
 replace HXp := zz (HXp.out.fx (Fx.of_below (N := N) (W := W) HB.out (by have := HF1.out.size; omega)) hnp)
 clear HF1 HW1
 have hnb : w1.heap.size ≠ W := by have := HF2.out.size; omega
 rw [show w1.heap.size = w.heap.size + 1 by omega] at HXb hnb
 clear HB
 refine (ahead_is (f := f) (a := a) hlv hcv (by have := HN.out bv hbv; have := HF2.out.size; omega) (HCa.out.agree (Agree.of_below HF2.out.below HN.out) hbv) ⟨_, _, _, rfl⟩).mono ?_
 rintro e w3 ⟨rfl, b⟩
 have hz3 := Fx.size (Fx.of_below (N := N) (W := W) b (by have := HF2.out.size; omega))
 have HF3 := zz (HF2.out.trans (Fx.of_below (N := N) (W := W) b (by have := HF2.out.size; omega)))
 have HW3 := zz (HW2.out.below b)
 replace HXp := zz (HXp.out.fx (Fx.of_below (N := N) (W := W) b (by have := HF2.out.size; omega)) hnp)
 replace HXb := zz (HXb.out.fx (Fx.of_below (N := N) (W := W) b (by have := HF2.out.size; omega)) hnb)
 clear HF2 HW2
 clear b
 have y0 : ∀ o, (w3.alloc o).cell? ⟨w.heap.size, 0, none⟩ = some (.pointer (some ⟨W, 0, none⟩)) := fun o => (World.cell?_alloc_lt w3 o _ HXp.out.lt).trans HXp.out.cell
 obtain ⟨z0, z1, z2, z3, z4, z5, z6, z7⟩ := HXb.out.cell
 replace z1 := fun o => (World.cell?_alloc_lt w3 o _ HXb.out.lt).trans z1
 go_wp2_with fail
 obtain ⟨w4, hw4, HB, HXk, hs4⟩ := jb w3 a.f (.slice Aa a.ks.length ca)
 rw [hw4]
 clear hw4
 obtain ⟨hz4, HF4, HW4⟩ := stb hNw HF3 HW3 HB
 replace HXp := zz (HXp.out.fx (Fx.of_below (N := N) (W := W) HB.out (by have := HF3.out.size; omega)) hnp)
 replace HXb := zz (HXb.out.fx (Fx.of_below (N := N) (W := W) HB.out (by have := HF3.out.size; omega)) hnb)
 clear HF3 HW3 y0 z0 z1 z2 z3 z4 z5 z6 z7
 have hnk : w3.heap.size ≠ W := by have := HF4.out.size; omega
 clear HB
 refine (zc (x := [102, 117, 110, 99, 32] ++ bs f.t ++ [40]) [⟨#[102, 117, 110, 99, 32]⟩, f.t, ⟨#[40]⟩] (by simp [fl]) (by simp) (by omega) rfl rfl HW4.out (by have h := HL.out; rw [HX0.out] at h; (try simp only [List.length_append] at h |-); omega)).mono ?_
 rintro e w5 ⟨rfl, fx, wr⟩
 obtain ⟨hz5, HF5, HW5⟩ := stf HF4 fx wr
 replace HXp := zz (HXp.out.fx fx hnp)
 replace HXb := fxx HXb fx hnb
 replace HXk := fxx HXk fx hnk
 clear HF4 HW4 fx wr
 have p0 := HXp.out.cell
 go_wp2_with fail
 refine (parted_par (N := N) (W := W) (tb := ((0 : Nat) : Int)) (m := m) (S := S) rfl HR.out HXp.out hnp (Lst.init hcv hlv hbv (HRr.out.agree (Agree.of_below HF5.out.below HN.out) hbv)) HN.out _ HW5.out (by have h := HL.out; rw [HX0.out] at h; (try simp only [List.length_append] at h |-); omega)).mono ?_
 rintro e w6 ⟨rfl, fx, wr⟩
 obtain ⟨hz6, HF6, HW6⟩ := stf HF5 fx wr
 replace HXp := zz (HXp.out.fx fx hnp)
 replace HXb := fxx HXb fx hnb
 replace HXk := fxx HXk fx hnk
 clear HF5 HW5 p0
 clear fx wr
 have p0 := HXp.out.cell
 go_wp2_with fail
 refine (zc (x := [41, 32]) [⟨#[41, 32]⟩] (by simp [fl]) (by simp) (by omega) rfl rfl HW6.out (by have h := HL.out; rw [HX0.out] at h; (try simp only [List.length_append] at h |-); omega)).mono ?_
 rintro e w7 ⟨rfl, fx, wr⟩
 obtain ⟨hz7, HF7, HW7⟩ := stf HF6 fx wr
 replace HXp := zz (HXp.out.fx fx hnp)
 replace HXb := fxx HXb fx hnb
 replace HXk := fxx HXk fx hnk
 clear HF6 HW6 p0
 clear fx wr
 have p0 := HXp.out.cell
 have b0 := HXb.out.cell
 have k0 := HXk.out.cell
 go_wp2_with fail
 refine (hB (N := N) (W := W) (w := w7) (m := m) (S := S) (HKa.out.below HF7.out.below HN.out) HN.out (HT.out.below HF7.out.below) _ HW7.out (by have h := HL.out; rw [HX0.out] at h; (try simp only [List.length_append] at h |-); omega)).mono ?_
 rintro e w8 ⟨rfl, fx, wr⟩
 obtain ⟨hz8, HF8, HW8⟩ := stf HF7 fx wr
 replace HXp := zz (HXp.out.fx fx hnp)
 replace HXb := fxx HXb fx hnb
 replace HXk := fxx HXk fx hnk
 clear HF7 HW7 p0 b0 k0
 clear fx wr
 have p0 := HXp.out.cell
 go_wp2_with fail
 refine (zc (x := [10]) [⟨#[10]⟩] (by simp [fl]) (by simp) (by omega) rfl rfl HW8.out (by have h := HL.out; rw [HX0.out] at h; (try simp only [List.length_append] at h |-); omega)).mono ?_
 rintro e w9 ⟨rfl, fx, wr⟩
 obtain ⟨hz9, HF9, HW9⟩ := stf HF8 fx wr
 replace HXp := zz (HXp.out.fx fx hnp)
 replace HXb := fxx HXb fx hnb
 replace HXk := fxx HXk fx hnk
 clear HF8 HW8 p0
 clear fx wr
 go_wp2
 go_end0
 exact ⟨rfl, HF9.out, by rw [HX0.out]; first | exact HW9.out | simpa only [List.append_assoc] using HW9.out⟩
theorem func_1 (hx : x = [102, 117, 110, 99, 32] ++ bs f.t ++ [40] ++ cm (r.map te) ++ [41, 32] ++ bs f.y ++ [32] ++ tx a 0 false ++ [10]) (hy : ¬ bs f.y = []) (hR : ∀ t ∈ r, PutP t) (hB : PutB a 0) (hK : Kids w m S v (r ++ [a])) (hN : ∀ i, S i -> i < N) (hT : TabN N w) :
 Puts N W ((0 : Nat) : Int) x 18 #[.pointer (some ⟨W, 0, none⟩), nv f v] w := by
 have HN := zz hN
 have HT := zz hT
 clear hN hT
 have HR := zz hR
 clear hR
 obtain ⟨bv, ov, cv, rfl, hcv, hlv, hbv, hn_a, hrr⟩ := hK.snoc
 have HRr := zz hrr
 obtain ⟨va, HCa, HKa⟩ := hn_a.cs
 obtain ⟨Aa, ca, ba, oa, rfl, h1_, h2_, h3_⟩ := HKa.out.form
 clear h1_ h2_ h3_ hK hn_a hrr
 unfold nv
 have e2 : ¬ f.y = ByteArray.empty := fun e => hy (by rw [e]; rfl)
 have e3 : ¬ f.y.toList = [] := by rw [ByteArray.toList_eq]; exact hy
 have e4 : f.y.toList.isEmpty = false := by cases ee : f.y.toList with | nil => exact absurd ee e3 | cons _ _ => rfl
 clear hy
 intro acc hw hlen
 have HW0 := zz hw
 have hWl := hw.lt
 have hNw := hw.nle
 have HX0 := zz (show x = [102, 117, 110, 99, 32] ++ bs f.t ++ [40] ++ cm (r.map te) ++ [41, 32] ++ bs f.y ++ [32] ++ tx a 0 false ++ [10] from hx)
 have HL := zz hlen
 have HF0 := zz (Fx.refl N W w)
 clear hw hlen
 go_enter Tryz.func18, Tryz.ntmps18
 go_wp2_with fail
 obtain ⟨w1, hw1, HB, HXp, hs1⟩ := pboxed w W
 rw [hw1]
 clear hw1
 obtain ⟨hz1, HF1, HW1⟩ := stb hNw HF0 HW0 HB
 clear HF0 HW0
 have hnp : w.heap.size ≠ W := by omega
 clear HB
 obtain ⟨w2, hw2, HB, HXb, hs2⟩ := jb w1 f (.slice (some ⟨bv, ov, none⟩) (r.length + 1) cv)
 rw [hw2]
 clear hw2
 obtain ⟨hz2, HF2, HW2⟩ := stb hNw HF1 HW1 HB
 replace HXp := zz (HXp.out.fx (Fx.of_below (N := N) (W := W) HB.out (by have := HF1.out.size; omega)) hnp)
 clear HF1 HW1
 have hnb : w1.heap.size ≠ W := by have := HF2.out.size; omega
 rw [show w1.heap.size = w.heap.size + 1 by omega] at HXb hnb
 clear HB
 refine (ahead_is (f := f) (a := a) hlv hcv (by have := HN.out bv hbv; have := HF2.out.size; omega) (HCa.out.agree (Agree.of_below HF2.out.below HN.out) hbv) ⟨_, _, _, rfl⟩).mono ?_
 rintro e w3 ⟨rfl, b⟩
 have hz3 := Fx.size (Fx.of_below (N := N) (W := W) b (by have := HF2.out.size; omega))
 have HF3 := zz (HF2.out.trans (Fx.of_below (N := N) (W := W) b (by have := HF2.out.size; omega)))
 have HW3 := zz (HW2.out.below b)
 replace HXp := zz (HXp.out.fx (Fx.of_below (N := N) (W := W) b (by have := HF2.out.size; omega)) hnp)
 replace HXb := zz (HXb.out.fx (Fx.of_below (N := N) (W := W) b (by have := HF2.out.size; omega)) hnb)
 clear HF2 HW2
 clear b
 have y0 : ∀ o, (w3.alloc o).cell? ⟨w.heap.size, 0, none⟩ = some (.pointer (some ⟨W, 0, none⟩)) := fun o => (World.cell?_alloc_lt w3 o _ HXp.out.lt).trans HXp.out.cell
 obtain ⟨z0, z1, z2, z3, z4, z5, z6, z7⟩ := HXb.out.cell
 replace z1 := fun o => (World.cell?_alloc_lt w3 o _ HXb.out.lt).trans z1
 go_wp2_with fail
 obtain ⟨w4, hw4, HB, HXk, hs4⟩ := jb w3 a.f (.slice Aa a.ks.length ca)
 rw [hw4]
 clear hw4
 obtain ⟨hz4, HF4, HW4⟩ := stb hNw HF3 HW3 HB
 replace HXp := zz (HXp.out.fx (Fx.of_below (N := N) (W := W) HB.out (by have := HF3.out.size; omega)) hnp)
 replace HXb := zz (HXb.out.fx (Fx.of_below (N := N) (W := W) HB.out (by have := HF3.out.size; omega)) hnb)
 clear HF3 HW3 y0 z0 z1 z2 z3 z4 z5 z6 z7
 have hnk : w3.heap.size ≠ W := by have := HF4.out.size; omega
 clear HB
 refine (zc (x := [102, 117, 110, 99, 32] ++ bs f.t ++ [40]) [⟨#[102, 117, 110, 99, 32]⟩, f.t, ⟨#[40]⟩] (by simp [fl]) (by simp) (by omega) rfl rfl HW4.out (by have h := HL.out; rw [HX0.out] at h; (try simp only [List.length_append] at h |-); omega)).mono ?_
 rintro e w5 ⟨rfl, fx, wr⟩
 obtain ⟨hz5, HF5, HW5⟩ := stf HF4 fx wr
 replace HXp := zz (HXp.out.fx fx hnp)
 replace HXb := fxx HXb fx hnb
 replace HXk := fxx HXk fx hnk
 clear HF4 HW4 fx wr
 have p0 := HXp.out.cell
 go_wp2_with fail
 refine (parted_par (N := N) (W := W) (tb := ((0 : Nat) : Int)) (m := m) (S := S) rfl HR.out HXp.out hnp (Lst.init hcv hlv hbv (HRr.out.agree (Agree.of_below HF5.out.below HN.out) hbv)) HN.out _ HW5.out (by have h := HL.out; rw [HX0.out] at h; (try simp only [List.length_append] at h |-); omega)).mono ?_
 rintro e w6 ⟨rfl, fx, wr⟩
 obtain ⟨hz6, HF6, HW6⟩ := stf HF5 fx wr
 replace HXp := zz (HXp.out.fx fx hnp)
 replace HXb := fxx HXb fx hnb
 replace HXk := fxx HXk fx hnk
 clear HF5 HW5 p0
 clear fx wr
 have p0 := HXp.out.cell
 go_wp2_with fail
 refine (zc (x := [41, 32]) [⟨#[41, 32]⟩] (by simp [fl]) (by simp) (by omega) rfl rfl HW6.out (by have h := HL.out; rw [HX0.out] at h; (try simp only [List.length_append] at h |-); omega)).mono ?_
 rintro e w7 ⟨rfl, fx, wr⟩
 obtain ⟨hz7, HF7, HW7⟩ := stf HF6 fx wr
 replace HXp := zz (HXp.out.fx fx hnp)
 replace HXb := fxx HXb fx hnb
 replace HXk := fxx HXk fx hnk
 clear HF6 HW6 p0
 clear fx wr
 have p0 := HXp.out.cell
 have b0 := HXb.out.cell
 go_wp2_with fail
 refine (zc (x := bs f.y ++ [32]) [f.y, ⟨#[32]⟩] (by simp [fl]) (by simp) (by omega) rfl rfl HW7.out (by have h := HL.out; rw [HX0.out] at h; (try simp only [List.length_append] at h |-); omega)).mono ?_
 rintro e w8 ⟨rfl, fx, wr⟩
 obtain ⟨hz8, HF8, HW8⟩ := stf HF7 fx wr
 replace HXp := zz (HXp.out.fx fx hnp)
 replace HXb := fxx HXb fx hnb
 replace HXk := fxx HXk fx hnk
 clear HF7 HW7 p0 b0
 clear fx wr
 have p0 := HXp.out.cell
 have k0 := HXk.out.cell
 go_wp2_with fail
 refine (hB (N := N) (W := W) (w := w8) (m := m) (S := S) (HKa.out.below HF8.out.below HN.out) HN.out (HT.out.below HF8.out.below) _ HW8.out (by have h := HL.out; rw [HX0.out] at h; (try simp only [List.length_append] at h |-); omega)).mono ?_
 rintro e w9 ⟨rfl, fx, wr⟩
 obtain ⟨hz9, HF9, HW9⟩ := stf HF8 fx wr
 replace HXp := zz (HXp.out.fx fx hnp)
 replace HXb := fxx HXb fx hnb
 replace HXk := fxx HXk fx hnk
 clear HF8 HW8 p0 k0
 clear fx wr
 have p0 := HXp.out.cell
 go_wp2_with fail
 refine (zc (x := [10]) [⟨#[10]⟩] (by simp [fl]) (by simp) (by omega) rfl rfl HW9.out (by have h := HL.out; rw [HX0.out] at h; (try simp only [List.length_append] at h |-); omega)).mono ?_
 rintro e w10 ⟨rfl, fx, wr⟩
 obtain ⟨hz10, HF10, HW10⟩ := stf HF9 fx wr
 replace HXp := zz (HXp.out.fx fx hnp)
 replace HXb := fxx HXb fx hnb
 replace HXk := fxx HXk fx hnk
 clear HF9 HW9 p0
 clear fx wr
 go_wp2
 go_end0
 exact ⟨rfl, HF10.out, by rw [HX0.out]; first | exact HW10.out | simpa only [List.append_assoc] using HW10.out⟩
def PutF (t : Tr) : Prop := ∀ {N W : Nat} {w : World} {v : Value} {m : Md} {S : Nat -> Prop}, Kids w m S v t.ks -> (∀ i, S i -> i < N) -> TabN N w -> Puts N W ((0 : Nat) : Int) (tx t 0 false) 18 #[.pointer (some ⟨W, 0, none⟩), nv t.f v] w
theorem func_all {t : Tr} (hc : cnt t <= 65536) (hT : AllT t) (h : okF t = true) : PutF t := by
 intro N W w v m S hK hN hTab
 obtain ⟨f, ks⟩ := t
 by_cases hk : f.k = 2
 rotate_left
 ·rw [okF_no (t := .mk f ks) hk] at h
  cases h
 by_cases hl : ks.length = 0
 ·rw [okF_nil (t := .mk f ks) hk hl] at h
  cases h
 obtain ⟨r, a, rfl, _⟩ := snoc_of (l := ks) (by omega)
 rw [okF_2 (t := .mk f (r ++ [a])) hk rfl] at h
 simp only [Bool.and_eq_true, List.all_eq_true] at h
 have hcn : cnt (.mk f (r ++ [a])) = 1 + cnts (r ++ [a]) := rfl
 have hca := cnts_mem (l := r ++ [a]) (t := a) (by simp)
 have hB : PutB a 0 := ((puts_all (cnt a) a 0 (Nat.le_refl _) (by omega) (AllTs.get hT.ks a (by simp [Tr.ks]))).b (okB_of h.2)).1
 have hR : ∀ t ∈ r, PutP t := fun t ht => @putP_ok t (by have := (h.1.2 t ht).1; simpa [kParam] using this)
 have htx := tx_2 (r := r) (a := a) hk 0 false
 by_cases hy : bs f.y = []
 ·rw [if_pos hy, List.append_nil] at htx
  exact func_0 htx hy hR hB hK hN hTab
 ·rw [if_neg hy] at htx
  exact func_1 (by rw [htx]; simp only [List.append_assoc]; first | done | rfl) hy hR hB hK hN hTab
end
end Go.Proofs.YtmdhjiammcpogaaGreatDoor
