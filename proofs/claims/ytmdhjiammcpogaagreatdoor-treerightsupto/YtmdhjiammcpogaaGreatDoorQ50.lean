import Derived.Test.YtmdhjiammcpogaaGreatDoorQ37
import Derived.Test.YtmdhjiammcpogaaGreatDoorQ45
import Derived.Test.YtmdhjiammcpogaaGreatDoorQ47
import Derived.Test.YtmdhjiammcpogaaGreatDoorQ48
import Derived.Test.YtmdhjiammcpogaaGreatDoorQ49
namespace Go.Proofs.YtmdhjiammcpogaaGreatDoor
set_option maxRecDepth 100000
set_option maxHeartbeats 16000000
section
open Go.RowKit
variable {S : Nat -> Prop} {m : Md} {t : Tr} {v : Value} {w : World}
def txtOf (t : Tr) (z : Int) : List UInt8 := if z = 0 then tx t 0 false else []
theorem zeroW (w : World) : (zeroValue 44).run Tryz.prog w = .ok (.agg #[.pointer none, .slice none 0 0, .int .i64 0]) w := by kernel_rfl
theorem wr_new (w : World) : ∃ w1, w.alloc (.cells #[.pointer none, .slice none 0 0, .int .i64 0] 44) = w1 /\ Hid (Below w.heap.size w w1) /\ Hid (Wr w.heap.size w.heap.size [] ((0 : Nat) : Int) w1) /\ w1.heap.size = w.heap.size + 1 :=
 ⟨_, rfl, zz ((Below.refl _ _).alloc (Nat.le_refl _) _), zz ⟨Nat.le_refl _, .pointer none, .slice none 0 0, Or.inl rfl, (MapKept.heap_alloc w _).1, World.ownsRow_nil _ _ _ _, fun _ => rfl⟩, World.size_alloc _ _⟩
theorem rgt_0 (h : rgt t = 0) : t.f.k = 1 /\ fitT t = true /\ dep t <= 40 := by
 unfold rgt at h
 split at h
 ·cases h
 ·split at h
  ·rename_i h1 h2
   exact ⟨h2.1, h2.2, by omega⟩
  ·cases h
theorem text_is {z : Int} (hc : cnt t <= 65536) (hp : m.plain = true) (hm : m.mark = true) (hF : AllF t) (hT : AllT t) (hTab : TabN w.heap.size w) (hK : Kids w m S v t.ks) (hN : ∀ i, S i -> i < w.heap.size) (hL : rgt t = 0 -> (tx t 0 false).length <= 140737488355328) (hz : rgt t = z) :
 Calls Tryz.prog 8 #[nv t.f v] w fun e w' => e = .returned (.tuple #[.string ⟨(txtOf t z).toArray⟩, .int .i64 z]) /\ Below w.heap.size w w' := by
 have HK := zz hK
 have HN := zz hN
 have HT := zz hTab
 have HZ := zz hz
 have HL := zz hL
 have HAT := zz hT
 have HAF := zz hF
 clear hK hN hTab hz hL hT hF
 obtain ⟨A, ca, ba, oa, rfl, hla, hcap, hA, hra⟩ := HK.out.lstA
 have HA := zz hA
 have HR := zz hra
 clear hA hra hcap
 unfold nv
 go_enter Tryz.func8, Tryz.ntmps8
 go_wp2_with fail
 obtain ⟨w1, hw1, HB1, HX1, hs1⟩ := jb w t.f (.slice A t.ks.length ca)
 rw [hw1]
 clear hw1
 refine (right_is2 hc hp hm HAF.out (HK.out.below HB1.out HN.out) (fun i hi => by have := HN.out i hi; omega) HZ.out).mono ?_
 rintro e w2 ⟨rfl, b2⟩
 have hz2 := b2.size
 have HB2 := zz (HB1.out.trans (b2.mono (by omega)))
 have HX2 := zz (HX1.out.below b2 (by omega))
 clear b2 HB1 HX1
 by_cases h0 : z = 0
 rotate_left
 ·have q : (z != 0) = true := by simp [h0]
  have E := zz (show txtOf t z = [] by unfold txtOf; rw [if_neg h0])
  clear h0
  go_wp2
  go_ret2
  exact ⟨by rw [E.out]; rfl, HB2.out⟩
 subst h0
 have HOK := zz (rgt_0 HZ.out)
 replace HL := zz (HL.out HZ.out)
 have HTX := zz (show txtOf t 0 = tx t 0 false from rfl)
 obtain ⟨y0, y1, y2, y3, y4, y5, y6, y7⟩ := HX2.out.cell
 replace y7 := fun o => (World.cell?_alloc_lt w2 o _ HX2.out.lt).trans y7
 have hzw := zeroW
 clear HZ
 go_wp2
 obtain ⟨w3, hw3, HB3, HW3, hs3⟩ := wr_new w2
 rw [hw3]
 have HFun := zz (show ∀ k ∈ t.ks, PutF k from fun k hk => by
  obtain ⟨h1, h2, _⟩ := HOK.out
  rw [file_eq h1] at h2
  have h3 := List.all_eq_true.1 (and2 h2).2 k hk
  have hcn : cnt t = 1 + cnts t.ks := by cases t; rfl
  have := cnts_mem hk
  exact @func_all k (by omega) (AllTs.get HAT.out.ks k hk) h3)
 have HTE := zz (show tx t 0 false = clsT t.ks 0 by
  obtain ⟨f, ks⟩ := t
  exact tx_1 HOK.out.1 0 false)
 have HF3 := zz (Fx.of_below (N := w2.heap.size) (W := w2.heap.size) HB3.out (Nat.le_refl _))
 have HNN := zz (show ∀ i, S i -> i < w2.heap.size from fun i hi => by have := HN.out i hi; omega)
 have HK2 := zz (fun hb : S ba => HR.out.agree (Agree.of_below HB2.out HN.out) hb)
 have HT2 := zz (show TabN w2.heap.size w2 from ⟨(HT.out.below HB2.out).tab, fun g hg => by have := HT.out.lt g hg; omega⟩)
 clear hw3 hzw HX2 y0 y1 y2 y3 y4 y5 y6 y7 HB3
 go_loopw [16] (fun i wr => ∃ k : Nat, k <= t.ks.length /\ i = .int .i64 k /\ Fx w2.heap.size w2.heap.size w2 wr /\ Wr w2.heap.size w2.heap.size (clsT (t.ks.take k) 0) ((0 : Nat) : Int) wr) (fun i _ => t.ks.length - (intOf i).toNat)
 case atStart => exact ⟨0, Nat.zero_le _, rfl, HF3.out, by simpa [clsT, cls_] using HW3.out⟩
 case round =>
  obtain ⟨k, hk, rfl, hfx, hwr⟩ := hrel
  have hsz := hfx.size
  have HF0 := zz hfx
  have HWr := zz hwr
  clear hfx hwr HF3 HW3
  by_cases hkl : k < t.ks.length
  rotate_left
  ·have HE2 := zz (show clsT (t.ks.take k) 0 = txtOf t 0 by rw [HTX.out, HTE.out, List.take_of_length_le (by omega)])
   go_wp2_with fail
   refine (wtold_is HWr.out).mono ?_
   rintro e w9 ⟨rfl, b9⟩
   have HB9 := zz (HB2.out.trans ((HF0.out.below.trans b9).mono (by omega)))
   clear b9
   rw [HE2.out]
   go_wp2
   go_ret2
   exact ⟨rfl, HB9.out⟩
  have i0 : (0 : Int) <= (k : Int) := by omega
  have i1 : (k : Int) < (t.ks.length : Int) := by omega
  obtain ⟨hA1, hb⟩ := HA.out (by omega)
  subst hA1
  obtain ⟨vk, HCk, HKk⟩ := Lst.at ((HK2.out hb).agree (Agree.of_below HF0.out.below HNN.out) hb) k hkl
  obtain ⟨Ak, ck, bk, ok, rfl, h1_, h2_, h3_⟩ := HKk.out.form
  have HTK := zz (cls_take (d := 0) hkl)
  have HLE := zz (show (clsT (t.ks.take (k + 1)) 0).length <= 140737488355328 by have h := HL.out; rw [HTE.out] at h; have := cls_le (ks := t.ks) (k + 1) 0; omega)
  have k0 := HCk.out.cell
  clear h1_ h2_ h3_
  go_wp2_with fail
  obtain ⟨w4, hw4, HB, HXb, hs4⟩ := jb wr t.ks[k].f (.slice Ak t.ks[k].ks.length ck)
  rw [hw4]
  have HF4 := zz (HF0.out.trans (Fx.of_below (N := w2.heap.size) (W := w2.heap.size) HB.out (by omega)))
  have HW4 := zz (HWr.out.below HB.out)
  have HK4 := zz (HKk.out.below HB.out fun i hi => by have := HNN.out i hi; omega)
  clear hw4 k0 HB HXb
  refine (HFun.out t.ks[k] (List.getElem_mem hkl) (N := w2.heap.size) (W := w2.heap.size) (w := w4) (m := m) (S := S) HK4.out HNN.out (HT2.out.below HF4.out.below) _ HW4.out (by have h := HLE.out; rw [HTK.out] at h; simp only [List.length_append] at h |-; omega)).mono ?_
  rintro e w5 ⟨rfl, fx, wr5⟩
  have HF5 := zz (HF4.out.trans fx)
  have HW5 := zz (show Wr w2.heap.size w2.heap.size (clsT (t.ks.take (k + 1)) 0) ((0 : Nat) : Int) w5 by rw [HTK.out]; exact wr5)
  clear fx wr5 HF4 HW4 HK4
  go_wp2
  go_roundw
  case rel => exact ⟨k + 1, by omega, by go_num, HF5.out, HW5.out⟩
  case measure => simp [intOf]; omega
end
section
open Go.RowKit
variable {A : Option Addr} {S : Nat -> Prop} {b : Bool} {c n : Nat} {m : Md} {t : Tr} {ts : List Tr} {v : Value} {w : World}
theorem LstR.nil (w : World) (m : Md) (S : Nat -> Prop) (A : Option Addr) (c : Nat) : LstR w m S (.slice A 0 c) [] := ⟨A, c, 0, 0, rfl, by simp, fun h => by simp at h, trivial⟩
theorem LstR.one {b o : Nat} (hl : 0 < ts.length) (hb : S b) (hr : RowAt w m S b o ts) : LstR w m S (.slice (some ⟨b, o, none⟩) 1 c) [ts[0]] := by
 refine ⟨_, c, b, o, rfl, by simp, fun _ => ⟨rfl, hb⟩, ?_⟩
 have := hr.get 0 hl
 exact ⟨by simpa using this, trivial⟩
theorem rclauses_at {b o : Nat} {r : Bool} (hn : n = ts.length) (hA : 0 < ts.length -> A = some ⟨b, o, none⟩) (hb : S b) (hl : ts.length <= 9223372036854775807) (hr : RowAt w m S b o ts) (hC : ∀ t ∈ ts, AskC 14 t) (hS : ∀ i, S i -> i < w.heap.size) (h : clsOk 14 ts = r) :
 Calls Tryz.prog 103 #[.slice A n c, .int .i64 14] w fun e w' => e = .returned (.bool r) /\ Below w.heap.size w w' := by
 subst hn
 exact rclauses_is (Or.inl rfl) hC ⟨A, c, b, o, rfl, hl, fun h => ⟨hA h, hb⟩, hr⟩ hS h
theorem RowAt.drop1 {b o : Nat} (h : RowAt w m S b o ts) : RowAt w m S b (o + 8) (ts.drop 1) := by
 cases ts with
 | nil => exact trivial
 | cons a r => exact h.2
theorem drop1_len (l : List Tr) (N : Nat) (h : l.length = N + 1) : (l.drop 1).length = N := by rw [List.length_drop]; omega
theorem cons_of {l : List Tr} (h : 0 < l.length) : l = l[0] :: l.drop 1 := by
 cases l with
 | nil => simp at h
 | cons a r => rfl
theorem rstmt_13m (hk : t.f.k = 13) (h0 : ¬ t.f.n = 0) (h1 : ¬ t.f.n = 1) (hF : AllF t) (hK : Kids w m S v t.ks) (hN : ∀ i, S i -> i < w.heap.size) (h : okS t = b) :
 Calls Tryz.prog 76 #[nv t.f v] w fun e w' => e = .returned (.bool b) /\ Below w.heap.size w w' := by
 have HH := zz h
 have HK := zz hK
 have HN := zz hN
 have HF := zz hF
 clear h hK hN hF
 obtain ⟨Av, cv, bv, ov, rfl, hlv, hAv, hrv⟩ := HK.out.form
 have HAv := zz hAv
 have HRv := zz hrv
 clear hAv hrv
 unfold nv
 have q4 := nk 4 hk rfl
 have q5 := nk 5 hk rfl
 have q11 := nk 11 hk rfl
 have q12 := nk 12 hk rfl
 have q13 := yk hk
 have q15 := nk 15 hk rfl
 have q17 := nk 17 hk rfl
 have q18 := nk 18 hk rfl
 have q19 := nk 19 hk rfl
 have q20 := nk 20 hk rfl
 have HKK := zz hk
 clear hk
 have qn0 : (t.f.n != 0) = true := by simp [h0]
 have qn1 : (t.f.n != 1) = true := by simp [h1]
 have HA0 := zz h0
 have HA1 := zz h1
 clear h0 h1
 go_enter Tryz.func76, Tryz.ntmps76
 have E := zz (show false = b by rw [<- HH.out, okS_13m HKK.out HA0.out HA1.out])
 go_wp2
 go_ret
 exact ⟨zb E.out, (box1 _ _).out⟩
theorem rstmt_13a (hE : ∀ k ∈ t.ks, AskE k) (hC : ∀ k ∈ t.ks, AskC 14 k) (hk : t.f.k = 13) (hn : t.f.n = 0) (hF : AllF t) (hK : Kids w m S v t.ks) (hN : ∀ i, S i -> i < w.heap.size) (h : okS t = b) :
 Calls Tryz.prog 76 #[nv t.f v] w fun e w' => e = .returned (.bool b) /\ Below w.heap.size w w' := by
 have HH := zz h
 have HK := zz hK
 have HN := zz hN
 have HF := zz hF
 clear h hK hN hF
 obtain ⟨Av, cv, bv, ov, rfl, hlv, hAv, hrv⟩ := HK.out.form
 have HAv := zz hAv
 have HRv := zz hrv
 clear hAv hrv
 unfold nv
 have HE := zz hE
 have HC := zz hC
 clear hE hC
 have q4 := nk 4 hk rfl
 have q5 := nk 5 hk rfl
 have q11 := nk 11 hk rfl
 have q12 := nk 12 hk rfl
 have q13 := yk hk
 have q15 := nk 15 hk rfl
 have q17 := nk 17 hk rfl
 have q18 := nk 18 hk rfl
 have q19 := nk 19 hk rfl
 have q20 := nk 20 hk rfl
 have HKK := zz hk
 clear hk
 have qn0 : (t.f.n != 0) = false := by simp [hn]
 have ql : decide ((t.ks.length : Int) < t.f.n) = false := decide_eq_false (by omega)
 have HNN := zz hn
 clear hn
 have HCAP := zz (show t.ks.length <= cv by obtain ⟨A', c', b', o', e1, _, h2, _⟩ := HK.out.lstA; injection e1 with _ _ e3; omega)
 go_enter Tryz.func76, Tryz.ntmps76
 go_wp2_with fail
 obtain ⟨w1, hw1, HB1, HX1, hs1⟩ := jb w t.f (.slice Av t.ks.length cv)
 rw [hw1]
 clear hw1
 refine (rbare_is (f := t.f) (x := false) (y := false) (z := true) (r := emn t.f) (rbare_fft (show mrk t.f.k = false by rw [HKK.out]; rfl)) _).mono ?_
 rintro e w2 ⟨rfl, b⟩
 have hz2 := b.size
 have HB2 := bt2 HB1 b
 have HX2 := bx HX1 b
 clear b HB1 HX1
 have x0 := HX2.out.cell
 rw [HNN.out] at x0
 cases c0 : emn t.f
 ·have Hc0 := zz c0
  clear c0
  have E := zz (show false = b by rw [<- HH.out, okS_13a HKK.out HNN.out, Hc0.out]; rfl)
  go_wp2
  go_ret
  exact ⟨zb E.out, HB2.out⟩
 ·have Hc0 := zz c0
  clear c0
  have j0 : (0 : Int) <= (cv : Int) := by omega
  have j1 : (t.ks.length : Int) <= (cv : Int) := by have := HCAP.out; omega
  go_wp2_with fail
  refine (exprs_is (ts := []) (x := false) (b := true) (fun _ h => by cases h) (LstR.nil _ m S _ _) (fun i hi => by have := HN.out i hi; have := HB2.out.size; omega) rfl).mono ?_
  rintro e w3 ⟨rfl, b⟩
  have hz3 := b.size
  have HB3 := bt2 HB2 b
  have HX3 := bx HX2 b
  clear b HB2 HX2 x0
  have x0 := HX3.out.cell
  rw [HNN.out] at x0
  go_wp2_with fail
  refine (rclauses_is (kd := 14) (b := clsOk 14 t.ks) (Or.inl rfl) HC.out ((HK.out.below HB3.out HN.out).lstR) (fun i hi => by have := HN.out i hi; have := HB3.out.size; omega) rfl).mono ?_
  rintro e w4 ⟨rfl, b⟩
  have hz4 := b.size
  have HB4 := bt2 HB3 b
  have HX4 := bx HX3 b
  clear b HB3 HX3 x0
  have x0 := HX4.out.cell
  rw [HNN.out] at x0
  have E := zz (show clsOk 14 t.ks = b by rw [<- HH.out, okS_13a HKK.out HNN.out, Hc0.out]; rfl)
  go_wp2
  go_ret
  exact ⟨zb E.out, HB4.out⟩
theorem rstmt_13b (hE : ∀ k ∈ t.ks, AskE k) (hC : ∀ k ∈ t.ks, AskC 14 k) (hk : t.f.k = 13) (hn : t.f.n = 1) (hF : AllF t) (hK : Kids w m S v t.ks) (hN : ∀ i, S i -> i < w.heap.size) (h : okS t = b) :
 Calls Tryz.prog 76 #[nv t.f v] w fun e w' => e = .returned (.bool b) /\ Below w.heap.size w w' := by
 have HH := zz h
 have HK := zz hK
 have HN := zz hN
 have HF := zz hF
 clear h hK hN hF
 obtain ⟨Av, cv, bv, ov, rfl, hlv, hAv, hrv⟩ := HK.out.form
 have HAv := zz hAv
 have HRv := zz hrv
 clear hAv hrv
 unfold nv
 have HE := zz hE
 have HC := zz hC
 clear hE hC
 have q4 := nk 4 hk rfl
 have q5 := nk 5 hk rfl
 have q11 := nk 11 hk rfl
 have q12 := nk 12 hk rfl
 have q13 := yk hk
 have q15 := nk 15 hk rfl
 have q17 := nk 17 hk rfl
 have q18 := nk 18 hk rfl
 have q19 := nk 19 hk rfl
 have q20 := nk 20 hk rfl
 have HKK := zz hk
 clear hk
 have qn0 : (t.f.n != 0) = true := by simp [hn]
 have qn1 : (t.f.n != 1) = false := by simp [hn]
 have HNN := zz hn
 by_cases hl0 : t.ks.length = 0
 ·have ql : decide ((t.ks.length : Int) < t.f.n) = true := decide_eq_true (by omega)
  have HL0 := zz hl0
  clear hn hl0
  go_enter Tryz.func76, Tryz.ntmps76
  have E := zz (show false = b by rw [<- HH.out, okS_13n HKK.out HNN.out HL0.out])
  go_wp2
  go_ret
  exact ⟨zb E.out, (box1 _ _).out⟩
 have ql : decide ((t.ks.length : Int) < t.f.n) = false := decide_eq_false (by omega)
 obtain ⟨N, hN⟩ : ∃ N, t.ks.length = N + 1 := ⟨t.ks.length - 1, by omega⟩
 have HLN := zz hN
 have hl1 : 0 < t.ks.length := by omega
 have HCAP := zz (show t.ks.length <= cv by obtain ⟨A', c', b', o', e1, _, h2, _⟩ := HK.out.lstA; injection e1 with _ _ e3; omega)
 clear hl0 hn
 obtain ⟨hA1, hbv, _⟩ := HAv.out hl1
 subst hA1
 have HG := zz (okS_13b HKK.out HNN.out (cons_of hl1))
 rw [hN] at hlv ql |-
 have ql2 : decide ((N : Int) + 1 < t.f.n) = false := decide_eq_false (by have := HNN.out; omega)
 have j0 : (1 : Int) <= (cv : Int) := by have := HCAP.out; omega
 have j1 : (1 : Int) <= ((N + 1 : Nat) : Int) := by omega
 have j2 : ((N + 1 : Nat) : Int) <= (cv : Int) := by have := HCAP.out; omega
 clear hN
 go_enter Tryz.func76, Tryz.ntmps76
 go_wp2_with fail
 obtain ⟨w1, hw1, HB1, HX1, hs1⟩ := jb w t.f (.slice (some ⟨bv, ov, none⟩) (N + 1) cv)
 rw [hw1]
 clear hw1
 refine (rbare_is (f := t.f) (x := false) (y := false) (z := true) (r := emn t.f) (rbare_fft (show mrk t.f.k = false by rw [HKK.out]; rfl)) _).mono ?_
 rintro e w2 ⟨rfl, b⟩
 have hz2 := b.size
 have HB2 := bt2 HB1 b
 have HX2 := bx HX1 b
 clear b HB1 HX1
 have x0 := HX2.out.cell
 rw [HNN.out] at x0
 cases c0 : emn t.f
 ·have Hc0 := zz c0
  clear c0
  have E := zz (show false = b by rw [<- HH.out, HG.out, Hc0.out]; rfl)
  go_wp2
  go_ret
  exact ⟨zb E.out, HB2.out⟩
 ·have Hc0 := zz c0
  clear c0
  go_wp2_with fail
  refine (exprs_is (ts := [t.ks[0]]) (x := false) (b := okE t.ks[0]) (fun k hk => by rw [List.mem_singleton.1 hk]; exact HE.out _ (List.getElem_mem hl1)) (LstR.one hl1 hbv (HRv.out.agree (Agree.of_below HB2.out HN.out) hbv)) (fun i hi => by have := HN.out i hi; have := HB2.out.size; omega) (by simp [okX])).mono ?_
  rintro e w3 ⟨rfl, b⟩
  have hz3 := b.size
  have HB3 := bt2 HB2 b
  have HX3 := bx HX2 b
  clear b HB2 HX2 x0
  have x0 := HX3.out.cell
  rw [HNN.out] at x0
  cases c1 : okE t.ks[0]
  ·have Hc1 := zz c1
   clear c1
   have E := zz (show false = b by rw [<- HH.out, HG.out, Hc0.out, Hc1.out]; rfl)
   go_wp2
   go_ret
   exact ⟨zb E.out, HB3.out⟩
  ·have Hc1 := zz c1
   clear c1
   obtain ⟨rr, hrr⟩ : ∃ x, clsOk 14 (t.ks.drop 1) = x := ⟨_, rfl⟩
   have HRR := zz hrr
   clear hrr
   go_wp2_with fail
   all_goals
    refine (rclauses_at (ts := t.ks.drop 1) (b := bv) (o := ov + 8) (r := rr) ?hn ?hA hbv (by rw [drop1_len _ _ HLN.out]; omega) ((HRv.out.agree (Agree.of_below HB3.out HN.out) hbv).drop1) (fun k hk => HC.out k (List.mem_of_mem_drop hk)) (fun i hi => by have := HN.out i hi; have := HB3.out.size; omega) HRR.out).mono ?_
    case hn => rw [drop1_len _ _ HLN.out]
    case hA => rw [drop1_len _ _ HLN.out]; intro h0; have := HCAP.out; have := HLN.out; first | rfl | (exfalso; omega)
    rintro e w9 ⟨rfl, b9⟩
    have HB9 := zz (HB3.out.trans (b9.mono HB3.out.size))
    clear b9 x0
    have E := zz (show rr = b by rw [<- HH.out, HG.out, Hc0.out, Hc1.out, HRR.out]; rfl)
    go_wp2
    go_ret
    exact ⟨zb E.out, HB9.out⟩
end
section
open Go.RowKit
variable {S : Nat -> Prop} {m : Md} {t : Tr} {v : Value} {w : World}
theorem for_all (hE : ∀ k ∈ t.ks, AskE k) (hB : ∀ k ∈ t.ks, AskB k) (hEE : ∀ s ∈ t.ks, ∀ k ∈ s.ks, AskE k) (hF : AllF t) : AskFor t := by
 intro w v m S hk hK hN
 by_cases hlo : t.f.n < 0
 ·exact rfors_lo hlo hk hF hK hN rfl
 by_cases hhi : 3 < t.f.n
 ·exact rfors_hi hhi hk hF hK hN rfl
 by_cases h0 : t.f.n = 0
 ·by_cases hl : t.ks.length = 1
  ·exact rfors_0 hB hk h0 hl hF hK hN rfl
  ·exact rfors_0n hk h0 hl hF hK hN rfl
 by_cases h1 : t.f.n = 1
 ·by_cases hl : t.ks.length = 2
  ·exact rfors_1 hE hB hk h1 hl hF hK hN rfl
  ·exact rfors_1n hk h1 hl hF hK hN rfl
 by_cases h2 : t.f.n = 2
 ·by_cases hl : t.ks.length = 4
  ·cases hM : okM (t.ks[0]'(by omega))
   ·cases hN0 : okN (t.ks[0]'(by omega))
    ·exact rfors_2b hE hB hEE hk h2 hl (by omega) hM hN0 hF hK hN rfl
    ·exact rfors_2b hE hB hEE hk h2 hl (by omega) hM hN0 hF hK hN rfl
   ·exact rfors_2a hE hB hEE hk h2 hl (by omega) hM hF hK hN rfl
  ·exact rfors_2n hk h2 hl hF hK hN rfl
 have h3 : t.f.n = 3 := by omega
 by_cases hl : t.ks.length = 3
 ·cases hE1 : okE (t.ks[1]'(by omega))
  ·exact rfors_3a hE hB hk h3 hl (by omega) hE1 hF hK hN rfl
  ·exact rfors_3a hE hB hk h3 hl (by omega) hE1 hF hK hN rfl
 ·exact rfors_3n hk h3 hl hF hK hN rfl
theorem stmt_of (hE : ∀ k ∈ t.ks, AskE k) (hEE : ∀ s ∈ t.ks, ∀ k ∈ s.ks, AskE k) (hS : ∀ k ∈ t.ks, AskS k) (hI : AskIf t) (hFor : AskFor t) (h14 : ∀ k ∈ t.ks, AskC 14 k) (h16 : ∀ k ∈ t.ks, AskC 16 k) (hF : AllF t) : AskS t := by
 intro w v m S hK hN
 by_cases k4 : t.f.k = 4
 ·exact rstmt_4 hS k4 hF hK hN rfl
 by_cases k5 : t.f.k = 5
 ·exact rstmt_5 hE k5 hF hK hN rfl
 by_cases k11 : t.f.k = 11
 ·exact rstmt_11 hI k11 hF hK hN rfl
 by_cases k12 : t.f.k = 12
 ·exact rstmt_12 hFor k12 hF hK hN rfl
 by_cases k13 : t.f.k = 13
 ·by_cases h0 : t.f.n = 0
  ·exact rstmt_13a hE h14 k13 h0 hF hK hN rfl
  by_cases h1 : t.f.n = 1
  ·exact rstmt_13b hE h14 k13 h1 hF hK hN rfl
  ·exact rstmt_13m k13 h0 h1 hF hK hN rfl
 by_cases k15 : t.f.k = 15
 ·exact rstmt_15 h16 k15 hF hK hN rfl
 by_cases k17 : t.f.k = 17
 ·exact rstmt_17 hEE k17 hF hK hN rfl
 by_cases k18 : t.f.k = 18
 ·exact rstmt_18 hE k18 hF hK hN rfl
 by_cases k19 : t.f.k = 19
 ·exact rstmt_19 k19 hF hK hN rfl
 by_cases k20 : t.f.k = 20
 ·exact rstmt_20 k20 hF hK hN rfl
 refine rstmt_simple hE ?_ hF hK hN rfl
 intro z hz
 simp only [List.mem_cons, List.not_mem_nil, or_false] at hz
 rcases hz with rfl | rfl | rfl | rfl | rfl | rfl | rfl | rfl | rfl | rfl <;> assumption
theorem stmt_all (n : Nat) : ∀ t : Tr, cnt t <= n -> AllF t -> AskS t /\ AskB t /\ AskIf t /\ AskC 14 t /\ AskC 16 t := by
 induction n with
 | zero => intro t h; have := cnt_pos t; omega
 | succ n ih =>
  intro t hc hF
  have hkid : ∀ k ∈ t.ks, cnt k <= n := fun k hk => by
   have h1 := cnts_mem hk
   have h2 : cnt t = 1 + cnts t.ks := by cases t; rfl
   omega
  have hFk : ∀ k ∈ t.ks, AllF k := fun k hk => AllFs.get hF.ks k hk
  have hE : ∀ k ∈ t.ks, AskE k := fun k hk => expr_all n k (hkid k hk) (hFk k hk)
  have hEE : ∀ s ∈ t.ks, ∀ k ∈ s.ks, AskE k := fun s hs k hk => expr_all n k (by
   have h1 := cnts_mem hk
   have h2 : cnt s = 1 + cnts s.ks := by cases s; rfl
   have h3 := hkid s hs
   omega) (AllFs.get (hFk s hs).ks k hk)
  have hS : ∀ k ∈ t.ks, AskS k := fun k hk => (ih k (hkid k hk) (hFk k hk)).1
  have hB : ∀ k ∈ t.ks, AskB k := fun k hk => (ih k (hkid k hk) (hFk k hk)).2.1
  have hI : ∀ k ∈ t.ks, AskIf k := fun k hk => (ih k (hkid k hk) (hFk k hk)).2.2.1
  have h14 : ∀ k ∈ t.ks, AskC 14 k := fun k hk => (ih k (hkid k hk) (hFk k hk)).2.2.2.1
  have h16 : ∀ k ∈ t.ks, AskC 16 k := fun k hk => (ih k (hkid k hk) (hFk k hk)).2.2.2.2
  have gI : AskIf t := fun w v m S hk hK hN => rifs_is hE hB hI hk hF hK hN rfl
  exact ⟨stmt_of hE hEE hS gI (for_all hE hB hEE hF) h14 h16 hF, fun w v m S hK hN => rblock_is hS hF hK hN rfl, gI, fun w v m S hK hN => rclause_14 hE hB hF hK hN rfl, fun w v m S hK hN => rclause_16 hEE hB hF hK hN rfl⟩
theorem rright_all {z : Int} (hc : cnt t <= 65536) (hF : AllF t) (hK : Kids w m S v t.ks) (hN : ∀ i, S i -> i < w.heap.size) (hz : rgt t = z) :
 Calls Tryz.prog 13 #[nv t.f v] w fun e w' => e = .returned (.int .i64 z) /\ Below w.heap.size w w' := by
 have HZ := zz hz
 have HK := zz hK
 have HN := zz hN
 have HF := zz hF
 have HC := zz hc
 clear hz hK hN hF hc
 obtain ⟨Av, cv, bv, ov, rfl, hlv, hAv, hrv⟩ := HK.out.form
 have HAv := zz hAv
 have HRv := zz hrv
 clear hAv hrv
 unfold nv
 go_enter Tryz.func13, Tryz.ntmps13
 go_wp2_with fail
 obtain ⟨w1, hw1, HB1, HX1, hs1⟩ := jb w t.f (.slice Av t.ks.length cv)
 rw [hw1]
 clear hw1
 refine (rdepth_all 65536 (Nat.le_refl _) t w1 _ m S 40 HC.out (HK.out.below HB1.out HN.out) (fun i hi => by have := HN.out i hi; omega) (by omega)).mono ?_
 rintro e w2 ⟨rfl, b2⟩
 have hz2 := b2.size
 have HB2 := zz (HB1.out.trans (b2.mono (by omega)))
 have HX2 := zz (HX1.out.below b2 (by omega))
 clear b2 HB1 HX1
 have HRC := zz (rc40 (dep t))
 generalize rc (dep t) 40 = D at *
 by_cases hD : 40 < D
 ·have q : decide (40 < D) = true := decide_eq_true hD
  have E := zz (show 42 = z by rw [<- HZ.out]; unfold rgt; rw [if_pos (HRC.out.1 hD)])
  clear hD HX2
  go_wp2
  go_ret
  exact ⟨ret_int E.out, HB2.out⟩
 have q : decide (40 < D) = false := decide_eq_false hD
 have HZ2 := zz (show (if t.f.k = 1 /\ fitT t = true then (0 : Int) else 41) = z by rw [<- HZ.out]; unfold rgt; rw [if_neg fun h => hD (HRC.out.2 h)])
 clear hD HZ HRC
 have x0 := HX2.out.cell
 by_cases hk : t.f.k = 1
 rotate_left
 ·have qk : (t.f.k != 1) = true := by simp [hk]
  have E := zz (show 41 = z by rw [<- HZ2.out, if_neg fun h => hk h.1])
  clear hk HX2
  go_wp2
  go_ret
  exact ⟨ret_int E.out, HB2.out⟩
 have qk : (t.f.k != 1) = false := by simp [hk]
 have HZ3 := zz (show (if (emp t.f && t.ks.all okF) = true then (0 : Int) else 41) = z by rw [<- HZ2.out, <- file_eq hk]; simp [hk])
 have HMK := zz (show mrk t.f.k = false by rw [hk]; rfl)
 clear hk HZ2
 go_wp2_with fail
 refine (rbare_is (f := t.f) (x := false) (y := false) (z := false) (r := emp t.f) (rbare_fff HMK.out) _).mono ?_
 rintro e w3 ⟨rfl, b3⟩
 have hz3 := b3.size
 have HB3 := zz (HB2.out.trans (b3.mono (by omega)))
 have HX3 := zz (HX2.out.below b3 (by omega))
 clear b3 HB2 HX2 x0
 cases c0 : emp t.f
 ·have E := zz (show 41 = z by rw [<- HZ3.out, c0]; rfl)
  clear c0 HX3
  go_wp2
  go_ret
  exact ⟨ret_int E.out, HB3.out⟩
 have HZ4 := zz (show (if t.ks.all okF = true then (0 : Int) else 41) = z by rw [<- HZ3.out, c0, Bool.true_and])
 clear c0 HZ3
 go_wp2
 go_loopw [3] (fun i wr => ∃ k : Nat, k <= t.ks.length /\ i = .int .i64 k /\ Below w3.heap.size w3 wr /\ (t.ks.take k).all okF = true) (fun i _ => t.ks.length - (intOf i).toNat)
 case atStart => exact ⟨0, Nat.zero_le _, rfl, Below.refl _ _, by rw [List.take_zero]; rfl⟩
 case round =>
  obtain ⟨k, hk, rfl, hbw, hall⟩ := hrel
  have hsz := hbw.size
  have HBW := zz hbw
  have HALL := zz hall
  have HXR := zz (HX3.out.below hbw (by have := HB3.out.size; omega))
  have HBR := zz (HB3.out.trans (hbw.mono HB3.out.size))
  clear hbw hall
  have x0 := HXR.out.cell
  by_cases hkl : k < t.ks.length
  ·obtain ⟨hA1, hbv, _⟩ := HAv.out (by omega)
   subst hA1
   obtain ⟨vk, p0, p1, p2, p3, p4, p5, p6, p7, hk'⟩ := ((HRv.out.agree (Agree.of_below HBR.out HN.out) hbv).get k hkl).open
   have HK' := zz hk'
   have i0 : (0 : Int) <= (k : Int) := by omega
   have i1 : (k : Int) < (t.ks.length : Int) := by omega
   have HFK := zz (AllFs.get HF.out.ks _ (List.getElem_mem hkl))
   clear hk'
   go_wp2_with fail
   refine (rfunction_is (t := t.ks[k]) (b := okF t.ks[k]) (fun x hx => (stmt_all (cnt x) x (Nat.le_refl _) (AllFs.get HFK.out.ks x hx)).2.1) HFK.out HK'.out (fun i hi => by have := HN.out i hi; have := HBR.out.size; omega) rfl).mono ?_
   rintro e w4 ⟨rfl, b⟩
   have HB4 := zz (HBW.out.trans (b.mono hsz))
   have HBR4 := bt2 HBR b
   clear b p0 p1 p2 p3 p4 p5 p6 p7 x0
   cases hp : okF t.ks[k]
   ·have E := zz (show 41 = z by rw [<- HZ4.out, all_no hkl hp]; rfl)
    clear hp
    go_wp2
    go_ret
    exact ⟨ret_int E.out, HBR4.out⟩
   ·have H1 := zz (show (t.ks.take (k + 1)).all okF = true by rw [all_succ hkl, HALL.out, hp]; rfl)
    clear hp
    go_wp2
    go_roundw
    case rel => exact ⟨k + 1, by omega, by go_num, HB4.out, H1.out⟩
    case measure => simp [intOf]; omega
  ·have E := zz (show 0 = z by
    have h9 := HALL.out
    rw [List.take_of_length_le (by omega)] at h9
    rw [<- HZ4.out, h9]; rfl)
   go_wp2
   go_ret
   exact ⟨ret_int E.out, HBR.out⟩
end
section
open Go.RowKit
variable {S : Nat -> Prop} {m : Md} {t : Tr} {v : Value} {w : World}
structure FnOk (c : Tr) (r : List Tr) (a : Tr) : Prop where
 ks : c.ks = r ++ [a]
 ps : ∀ p ∈ r, p.f.k = 3
 b : TellsB a 0
 tx : tx c 0 false = [102, 117, 110, 99, 32] ++ bs c.f.t ++ [40] ++ cm (r.map te) ++ [41, 32] ++ (if bs c.f.y = [] then [] else bs c.f.y ++ [32]) ++ tx a 0 false ++ [10]
theorem fn_ok (hc : cnt t <= 65536) (hT : AllT t) (h : okF t = true) : ∃ r a, FnOk t r a := by
 obtain ⟨f, ks⟩ := t
 by_cases hk : f.k = 2
 rotate_left
 ·rw [okF_no (t := .mk f ks) hk] at h
  cases h
 by_cases hl : ks.length = 0
 ·rw [okF_nil (t := .mk f ks) hk hl] at h
  cases h
 obtain ⟨r, a, rfl, _⟩ := snoc_of (l := ks) (by omega)
 rw [okF_2 (t := .mk f (r ++ [a])) hk rfl] at h
 simp only [Bool.and_eq_true, List.all_eq_true] at h
 have hcn : cnt (.mk f (r ++ [a])) = 1 + cnts (r ++ [a]) := rfl
 have hca := cnts_mem (l := r ++ [a]) (t := a) (by simp)
 have hB : TellsB a 0 := (tells_all3 (cnt a) a 0 (Nat.le_refl _) (by omega) (AllTs.get hT.ks a (by simp [Tr.ks]))).b (okB_of h.2)
 exact ⟨r, a, rfl, fun p hp => (by have := (h.1.2 p hp).1; simpa [kParam] using this), hB, tx_2 (r := r) (a := a) hk 0 false⟩
theorem par_te {p : Tr} (h : p.f.k = 3) : te p = bs p.f.t ++ [32] ++ bs p.f.y := by
 obtain ⟨f, ks⟩ := p
 exact tx_3 h 0 false
theorem rtext_is {z : Int} (hc : cnt t <= 65536) (hF : AllF t) (hT : AllT t) (hK : Kids w m S v t.ks) (hN : ∀ i, S i -> i < w.heap.size) (hL : rgt t = 0 -> (tx t 0 false).length <= 140737488355328) (hz : rgt t = z) :
 Calls Tryz.prog 12 #[nv t.f v] w fun e w' => e = .returned (.tuple #[.string ⟨(txtOf t z).toArray⟩, .int .i64 z]) /\ Below w.heap.size w w' := by
 have HK := zz hK
 have HN := zz hN
 have HZR := zz hz
 have HL := zz hL
 have HAT := zz hT
 have HAF := zz hF
 clear hK hN hz hL hT hF
 obtain ⟨A, ca, ba, oa, rfl, hla, hcap, hA, hra⟩ := HK.out.lstA
 have HA := zz hA
 have HR := zz hra
 clear hA hra hcap
 unfold nv
 go_enter Tryz.func12, Tryz.ntmps12
 go_wp2_with fail
 obtain ⟨w1, hw1, HB1, HX1, hs1⟩ := jb w t.f (.slice A t.ks.length ca)
 rw [hw1]
 clear hw1
 refine (rright_all hc HAF.out (HK.out.below HB1.out HN.out) (fun i hi => by have := HN.out i hi; omega) HZR.out).mono ?_
 rintro e w2 ⟨rfl, b2⟩
 have hz2 := b2.size
 have HB2 := zz (HB1.out.trans (b2.mono (by omega)))
 have HX2 := zz (HX1.out.below b2 (by omega))
 clear b2 HB1 HX1
 by_cases h0 : z = 0
 rotate_left
 ·have q : (z != 0) = true := by simp [h0]
  have E := zz (show txtOf t z = [] by unfold txtOf; rw [if_neg h0])
  clear h0
  go_wp2
  go_ret2
  exact ⟨by rw [E.out]; rfl, HB2.out⟩
 subst h0
 have HOK := zz (rgt_0 HZR.out)
 replace HL := zz (HL.out HZR.out)
 have HTXF := zz (show txtOf t 0 = tx t 0 false from rfl)
 have HFun := zz (show ∀ k ∈ t.ks, ∃ r a, FnOk k r a from fun k hk => by
  obtain ⟨h1, h2, _⟩ := HOK.out
  rw [file_eq h1] at h2
  have h3 := List.all_eq_true.1 (and2 h2).2 k hk
  have hcn : cnt t = 1 + cnts t.ks := by cases t; rfl
  have := cnts_mem hk
  exact fn_ok (by omega) (AllTs.get HAT.out.ks k hk) h3)
 have HTE := zz (show tx t 0 false = clsT t.ks 0 by
  obtain ⟨f, ks⟩ := t
  exact tx_1 HOK.out.1 0 false)
 clear HZR
 have hBB : w.heap.size < w2.heap.size := by omega
 go_wp2
 go_loopw [5, 6] (fun s i wr => ∃ (k : Nat) (y : List UInt8), k <= t.ks.length /\ i = .int .i64 k /\ s = .string ⟨y.toArray⟩ /\ Below w2.heap.size w2 wr /\ y = clsT (t.ks.take k) 0) (fun _ i _ => t.ks.length - (intOf i).toNat)
 case atStart => exact ⟨0, [], Nat.zero_le _, rfl, rfl, Below.refl _ _, rfl⟩
 case round =>
  obtain ⟨k, y, hk, rfl, rfl, hbw, hy⟩ := hrel
  obtain ⟨wo, hwo⟩ : ∃ u, u = wr := ⟨_, rfl⟩
  subst hwo
  have hsz := hbw.size
  have HBW := zz hbw
  have HY := zz hy
  clear hbw hy
  have x0 := (HX2.out.below HBW.out (by omega)).cell
  by_cases hkl : k < t.ks.length
  rotate_left
  ·have E := zz (show y = txtOf t 0 by rw [HY.out, HTXF.out, HTE.out, List.take_of_length_le (by omega)])
   have HB9 := zz (HB2.out.trans (HBW.out.mono (by omega)))
   go_wp2
   go_ret2
   exact ⟨congrArg (fun l : List UInt8 => Ending.returned (.tuple #[.string ⟨l.toArray⟩, .int .i64 0])) E.out, HB9.out⟩
  have i0 : (0 : Int) <= (k : Int) := by omega
  have i1 : (k : Int) < (t.ks.length : Int) := by omega
  obtain ⟨hA1, hb⟩ := HA.out (by omega)
  subst hA1
  have HNo := zz (show ∀ i, S i -> i < wo.heap.size from fun i hi => by have := HN.out i hi; omega)
  have HBo := zz (HB2.out.trans (HBW.out.mono (by omega)))
  obtain ⟨vk, HCk, HKk⟩ := Lst.at (HR.out.agree (Agree.of_below HBo.out HN.out) hb) k hkl
  have HTK := zz (cls_take (d := 0) hkl)
  have HLE := zz (show (clsT (t.ks.take (k + 1)) 0).length <= 140737488355328 by have h := HL.out; rw [HTE.out] at h; have := cls_le (ks := t.ks) (k + 1) 0; omega)
  obtain ⟨r, a, hfn⟩ := HFun.out t.ks[k] (List.getElem_mem hkl)
  obtain ⟨cc, hcc⟩ : ∃ c, c = t.ks[k] := ⟨_, rfl⟩
  rw [<- hcc] at HCk HKk HTK hfn
  clear hcc
  have hks := hfn.ks
  obtain ⟨bv, ov, cv, hvk, hcv, hlv, hbv, hn_a, hrr⟩ := (show Kids wo m S vk (r ++ [a]) from hks ▸ HKk.out).snoc
  subst hvk
  have HRr := zz hrr
  obtain ⟨va, HCa, HKa⟩ := hn_a.cs
  obtain ⟨Aa, cca, ba_, oa_, rfl, h1_, h2_, h3_⟩ := HKa.out.form
  clear h1_ h2_ h3_ hn_a hrr hks
  have HTX := zz hfn.tx
  have HYL := zz (show (bs cc.f.y).length + 1 <= 140737488355329 /\ True from ⟨by
   have h := HLE.out
   rw [HTK.out, HTX.out] at h
   by_cases hy : bs cc.f.y = []
   ·rw [hy]; simp
   ·rw [if_neg hy] at h
    simp only [List.length_append] at h
    have : ([32] : List UInt8).length = 1 := rfl
    omega, trivial⟩)
  obtain ⟨YL, hYL⟩ : ∃ n, n = (if bs cc.f.y = [] then [] else bs cc.f.y ++ [32]).length := ⟨_, rfl⟩
  have HLX := zz (show y.length + (8 + (bs cc.f.t).length + (cm (r.map te)).length + YL + (tx a 0 false).length + 1) <= 140737488355328 by
   have h := HLE.out
   rw [HTK.out, <- HY.out, HTX.out] at h
   simp only [List.length_append] at h
   rw [<- hYL] at h
   have h1 : ([102, 117, 110, 99, 32] : List UInt8).length = 5 := rfl
   have h2 : ([40] : List UInt8).length = 1 := rfl
   have h3 : ([41, 32] : List UInt8).length = 2 := rfl
   have h4 : ([10] : List UInt8).length = 1 := rfl
   omega)
  obtain ⟨q1, hq1⟩ : ∃ p : List UInt8, p = y ++ [102, 117, 110, 99, 32] := ⟨_, rfl⟩
  have lq1 : q1.length = (y : List UInt8).length + ([102, 117, 110, 99, 32] : List UInt8).length := by rw [hq1, List.length_append]
  have gq1 : ∀ W' : World, (Op.stringOp .add ⟨y.toArray⟩ ⟨#[102, 117, 110, 99, 32]⟩).run Tryz.prog W' = .ok (.string ⟨q1.toArray⟩) W' := fun W' => cat_is (x := y) (y := [102, 117, 110, 99, 32]) W' rfl rfl hq1 (by have h := HLX.out; have h1 : ([102, 117, 110, 99, 32] : List UInt8).length = 5 := rfl; have h2 : ([40] : List UInt8).length = 1 := rfl; have h3 : ([41, 32] : List UInt8).length = 2 := rfl; have h4 : ([32] : List UInt8).length = 1 := rfl; have h5 : ([44, 32] : List UInt8).length = 2 := rfl; have h6 : ([10] : List UInt8).length = 1 := rfl; omega)
  obtain ⟨q2, hq2⟩ : ∃ p : List UInt8, p = q1 ++ bs cc.f.t := ⟨_, rfl⟩
  have lq2 : q2.length = (q1 : List UInt8).length + (bs cc.f.t : List UInt8).length := by rw [hq2, List.length_append]
  have gq2 : ∀ W' : World, (Op.stringOp .add ⟨q1.toArray⟩ cc.f.t).run Tryz.prog W' = .ok (.string ⟨q2.toArray⟩) W' := fun W' => cat_is (x := q1) (y := bs cc.f.t) W' rfl rfl hq2 (by have h := HLX.out; have h1 : ([102, 117, 110, 99, 32] : List UInt8).length = 5 := rfl; have h2 : ([40] : List UInt8).length = 1 := rfl; have h3 : ([41, 32] : List UInt8).length = 2 := rfl; have h4 : ([32] : List UInt8).length = 1 := rfl; have h5 : ([44, 32] : List UInt8).length = 2 := rfl; have h6 : ([10] : List UInt8).length = 1 := rfl; omega)
  obtain ⟨q3, hq3⟩ : ∃ p : List UInt8, p = q2 ++ [40] := ⟨_, rfl⟩
  have lq3 : q3.length = (q2 : List UInt8).length + ([40] : List UInt8).length := by rw [hq3, List.length_append]
  have gq3 : ∀ W' : World, (Op.stringOp .add ⟨q2.toArray⟩ ⟨#[40]⟩).run Tryz.prog W' = .ok (.string ⟨q3.toArray⟩) W' := fun W' => cat_is (x := q2) (y := [40]) W' rfl rfl hq3 (by have h := HLX.out; have h1 : ([102, 117, 110, 99, 32] : List UInt8).length = 5 := rfl; have h2 : ([40] : List UInt8).length = 1 := rfl; have h3 : ([41, 32] : List UInt8).length = 2 := rfl; have h4 : ([32] : List UInt8).length = 1 := rfl; have h5 : ([44, 32] : List UInt8).length = 2 := rfl; have h6 : ([10] : List UInt8).length = 1 := rfl; omega)
  have HQ3 := zz (show q3 = y ++ [102, 117, 110, 99, 32] ++ bs cc.f.t ++ [40] by rw [hq3, hq2, hq1])
  have lq : q3.length = y.length + 6 + (bs cc.f.t).length := by
   have h1 : ([102, 117, 110, 99, 32] : List UInt8).length = 5 := rfl
   have h2 : ([40] : List UInt8).length = 1 := rfl
   omega
  clear hq1 hq2 hq3 lq1 lq2 lq3
  have k0 := HCk.out.cell
  have j0 : (0 : Int) <= (r.length : Int) := by omega
  have j1 : (r.length : Int) < (r.length : Int) + 1 := by omega
  have hwr : IntKind.i64.wrap (r.length : Int) = (r.length : Int) := by rw [IntKind.wrap_i64]; omega
  go_wp2
  obtain ⟨w3, hw3, HB3, HXc, hs3⟩ := jb wo cc.f (.slice (some ⟨bv, ov, none⟩) (r.length + 1) cv)
  rw [hw3]
  clear hw3 k0 x0
  go_loopw [5, 9] (fun s i wr => ∃ (j : Nat) (z : List UInt8), j <= r.length /\ i = .int .i64 j /\ s = .string ⟨z.toArray⟩ /\ Below w3.heap.size w3 wr /\ z = q3 ++ cm ((r.map te).take j)) (fun _ i _ => r.length - (intOf i).toNat)
  case atStart => exact ⟨0, q3, Nat.zero_le _, rfl, rfl, Below.refl _ _, by simp [cm]⟩
  case round =>
   obtain ⟨j, z, hj, rfl, rfl, hbj, hzz⟩ := hrel
   have hszj := hbj.size
   have HBJ := zz hbj
   have HZ := zz hzz
   clear hbj hzz
   have HXj := zz (HXc.out.below HBJ.out (by omega))
   have HLZ := zz (show z.length <= q3.length + (cm (r.map te)).length by rw [HZ.out, List.length_append]; have := cm_le (r.map te) j; omega)
   by_cases hjl : j < r.length
   ·have q : decide ((j : Int) < (r.length : Int)) = true := decide_eq_true (by omega)
    have m0 : (0 : Int) <= (j : Int) := by omega
    have m1 : (j : Int) < (r.length : Int) + 1 := by omega
    have HPT := zz (par_te (hfn.ps r[j] (List.getElem_mem hjl)))
    have HTJ := zz (te_take hjl)
    replace HLZ := zz (show z.length + (if j = 0 then 0 else 2) + ((bs r[j].f.t).length + 1 + (bs r[j].f.y).length) <= q3.length + (cm (r.map te)).length by
     have h1 := cm_le (r.map te) (j + 1)
     rw [HTJ.out, HPT.out] at h1
     rw [HZ.out]
     simp only [List.length_append] at h1 |-
     have h4 : ([32] : List UInt8).length = 1 := rfl
     by_cases hj0 : j = 0
     ·rw [if_pos hj0] at h1 |-
      simp only [List.length_nil] at h1
      omega
     ·rw [if_neg hj0] at h1 |-
      have h5 : ([44, 32] : List UInt8).length = 2 := rfl
      omega)
    obtain ⟨vp, HCp, HKp⟩ := Lst.at (HRr.out.agree (Agree.of_below (HB3.out.trans (HBJ.out.mono (by omega))) HNo.out) hbv) j hjl
    have hbl : bv < wr.heap.size := by have := HNo.out bv hbv; omega
    by_cases hj0 : j = 0
    ·have q1' : ¬ (0 < j) := by omega
     rw [if_pos hj0] at HTJ HLZ
     rw [List.append_nil] at HTJ
     clear hj0
     obtain ⟨u1, hu1⟩ : ∃ p : List UInt8, p = z ++ bs r[j].f.t := ⟨_, rfl⟩
     have lu1 : u1.length = (z : List UInt8).length + (bs r[j].f.t : List UInt8).length := by rw [hu1, List.length_append]
     have gu1 : ∀ W' : World, (Op.stringOp .add ⟨z.toArray⟩ r[j].f.t).run Tryz.prog W' = .ok (.string ⟨u1.toArray⟩) W' := fun W' => cat_is (x := z) (y := bs r[j].f.t) W' rfl rfl hu1 (by have hz := HLZ.out; have h := HLX.out; have h1 : ([102, 117, 110, 99, 32] : List UInt8).length = 5 := rfl; have h2 : ([40] : List UInt8).length = 1 := rfl; have h3 : ([41, 32] : List UInt8).length = 2 := rfl; have h4 : ([32] : List UInt8).length = 1 := rfl; have h5 : ([44, 32] : List UInt8).length = 2 := rfl; have h6 : ([10] : List UInt8).length = 1 := rfl; omega)
     obtain ⟨u2, hu2⟩ : ∃ p : List UInt8, p = u1 ++ [32] := ⟨_, rfl⟩
     have lu2 : u2.length = (u1 : List UInt8).length + ([32] : List UInt8).length := by rw [hu2, List.length_append]
     have gu2 : ∀ W' : World, (Op.stringOp .add ⟨u1.toArray⟩ ⟨#[32]⟩).run Tryz.prog W' = .ok (.string ⟨u2.toArray⟩) W' := fun W' => cat_is (x := u1) (y := [32]) W' rfl rfl hu2 (by have hz := HLZ.out; have h := HLX.out; have h1 : ([102, 117, 110, 99, 32] : List UInt8).length = 5 := rfl; have h2 : ([40] : List UInt8).length = 1 := rfl; have h3 : ([41, 32] : List UInt8).length = 2 := rfl; have h4 : ([32] : List UInt8).length = 1 := rfl; have h5 : ([44, 32] : List UInt8).length = 2 := rfl; have h6 : ([10] : List UInt8).length = 1 := rfl; omega)
     obtain ⟨u3, hu3⟩ : ∃ p : List UInt8, p = u2 ++ bs r[j].f.y := ⟨_, rfl⟩
     have lu3 : u3.length = (u2 : List UInt8).length + (bs r[j].f.y : List UInt8).length := by rw [hu3, List.length_append]
     have gu3 : ∀ W' : World, (Op.stringOp .add ⟨u2.toArray⟩ r[j].f.y).run Tryz.prog W' = .ok (.string ⟨u3.toArray⟩) W' := fun W' => cat_is (x := u2) (y := bs r[j].f.y) W' rfl rfl hu3 (by have hz := HLZ.out; have h := HLX.out; have h1 : ([102, 117, 110, 99, 32] : List UInt8).length = 5 := rfl; have h2 : ([40] : List UInt8).length = 1 := rfl; have h3 : ([41, 32] : List UInt8).length = 2 := rfl; have h4 : ([32] : List UInt8).length = 1 := rfl; have h5 : ([44, 32] : List UInt8).length = 2 := rfl; have h6 : ([10] : List UInt8).length = 1 := rfl; omega)
     have HZ2 := zz (show u3 = q3 ++ cm ((r.map te).take (j + 1)) by rw [hu3, hu2, hu1, HTJ.out, HZ.out, HPT.out]; simp only [List.append_assoc])
     clear hu1 hu2 hu3 lu1 lu2 lu3
     go_wp2_with fail
     refine wp_region_held_drew (S := Below wr.heap.size wr) (by kernel_rfl) ?_ (fun zk => ?_)
     ·exact zd _
     apply tk 0 o330_ rfl (by kernel_rfl) (fun _ _ _ h => h) zk
     ·intro wq zq
      go_simp
      try rfl
     go_frame
     apply tk 1 o331_ rfl (by kernel_rfl) (fun _ _ _ h => h) zk
     ·intro wq zq
      go_simp
      try rfl
     go_frame
     apply tk 2 o332_ rfl (by kernel_rfl) (fun _ _ _ h => h) zk
     ·intro wq zq
      obtain ⟨b0, b1, b2, b3, b4, b5, b6, b7⟩ := (HXj.out.below zq HXj.out.lt).cell
      go_simp
      try rfl
     go_frame
     apply tk 3 o333_ rfl (by kernel_rfl) (fun _ _ _ h => h) zk
     ·intro wq zq
      go_simp
      try rfl
     go_frame
     apply tk 4 o334_ rfl (by kernel_rfl) (fun _ _ _ h => h) zk
     ·intro wq zq
      go_simp
      try rfl
     go_frame
     apply tk 5 o335_ rfl (by kernel_rfl) (fun _ _ _ h => h) zk
     ·intro wq zq
      go_simp
      try rfl
     go_frame
     apply tk 6 o336_ rfl (by kernel_rfl) (fun _ _ _ h => h) zk
     ·intro wq zq
      have p0 := (HCp.out.below zq (by omega)).cell
      go_simp
      try rfl
     go_frame
     apply tk 7 o337_ rfl (by kernel_rfl) (fun _ _ _ h => h) zk
     ·intro wq zq
      go_simp
      try rfl
     go_frame
     apply tk 8 o338_ rfl (by kernel_rfl) (fun _ _ _ h => h) zk
     ·intro wq zq
      go_simp
      try rfl
     go_frame
     apply tk 9 o339_ rfl (by kernel_rfl) (fun _ _ _ h => h) zk
     ·intro wq zq
      go_simp
      try rfl
     go_frame
     apply tk 10 o340_ rfl (by kernel_rfl) (fun _ _ _ h => h) zk
     ·intro wq zq
      obtain ⟨b0, b1, b2, b3, b4, b5, b6, b7⟩ := (HXj.out.below zq HXj.out.lt).cell
      go_simp
      try rfl
     go_frame
     apply tk 11 o341_ rfl (by kernel_rfl) (fun _ _ _ h => h) zk
     ·intro wq zq
      go_simp
      try rfl
     go_frame
     apply tk 12 o342_ rfl (by kernel_rfl) (fun _ _ _ h => h) zk
     ·intro wq zq
      go_simp
      try rfl
     go_frame
     apply tk 13 o343_ rfl (by kernel_rfl) (fun _ _ _ h => h) zk
     ·intro wq zq
      go_simp
      try rfl
     go_frame
     apply tk 14 o344_ rfl (by kernel_rfl) (fun _ _ _ h => h) zk
     ·intro wq zq
      have p0 := (HCp.out.below zq (by omega)).cell
      go_simp
      try rfl
     go_frame
     apply tk 15 o345_ rfl (by kernel_rfl) (fun _ _ _ h => h) zk
     ·intro wq zq
      go_simp
      try rfl
     go_frame
     apply tk 16 o346_ rfl (by kernel_rfl) (fun _ _ _ h => h) zk
     ·intro wq zq
      go_simp
      try rfl
     go_frame
     refine wpAnyH_done (by kernel_rfl) ?_ _
     have HB9 := zz (HBJ.out.trans (zk.mono hszj))
     go_wp2
     go_roundw
     case rel => exact ⟨j + 1, u3, by omega, by go_num, rfl, HB9.out, HZ2.out⟩
     case measure => simp [intOf]; omega
    ·have q1' : 0 < j := by omega
     rw [if_neg hj0] at HTJ HLZ
     clear hj0
     obtain ⟨u0, hu0⟩ : ∃ p : List UInt8, p = z ++ [44, 32] := ⟨_, rfl⟩
     have lu0 : u0.length = (z : List UInt8).length + ([44, 32] : List UInt8).length := by rw [hu0, List.length_append]
     have gu0 : ∀ W' : World, (Op.stringOp .add ⟨z.toArray⟩ ⟨#[44, 32]⟩).run Tryz.prog W' = .ok (.string ⟨u0.toArray⟩) W' := fun W' => cat_is (x := z) (y := [44, 32]) W' rfl rfl hu0 (by have hz := HLZ.out; have h := HLX.out; have h1 : ([102, 117, 110, 99, 32] : List UInt8).length = 5 := rfl; have h2 : ([40] : List UInt8).length = 1 := rfl; have h3 : ([41, 32] : List UInt8).length = 2 := rfl; have h4 : ([32] : List UInt8).length = 1 := rfl; have h5 : ([44, 32] : List UInt8).length = 2 := rfl; have h6 : ([10] : List UInt8).length = 1 := rfl; omega)
     obtain ⟨u1, hu1⟩ : ∃ p : List UInt8, p = u0 ++ bs r[j].f.t := ⟨_, rfl⟩
     have lu1 : u1.length = (u0 : List UInt8).length + (bs r[j].f.t : List UInt8).length := by rw [hu1, List.length_append]
     have gu1 : ∀ W' : World, (Op.stringOp .add ⟨u0.toArray⟩ r[j].f.t).run Tryz.prog W' = .ok (.string ⟨u1.toArray⟩) W' := fun W' => cat_is (x := u0) (y := bs r[j].f.t) W' rfl rfl hu1 (by have hz := HLZ.out; have h := HLX.out; have h1 : ([102, 117, 110, 99, 32] : List UInt8).length = 5 := rfl; have h2 : ([40] : List UInt8).length = 1 := rfl; have h3 : ([41, 32] : List UInt8).length = 2 := rfl; have h4 : ([32] : List UInt8).length = 1 := rfl; have h5 : ([44, 32] : List UInt8).length = 2 := rfl; have h6 : ([10] : List UInt8).length = 1 := rfl; omega)
     obtain ⟨u2, hu2⟩ : ∃ p : List UInt8, p = u1 ++ [32] := ⟨_, rfl⟩
     have lu2 : u2.length = (u1 : List UInt8).length + ([32] : List UInt8).length := by rw [hu2, List.length_append]
     have gu2 : ∀ W' : World, (Op.stringOp .add ⟨u1.toArray⟩ ⟨#[32]⟩).run Tryz.prog W' = .ok (.string ⟨u2.toArray⟩) W' := fun W' => cat_is (x := u1) (y := [32]) W' rfl rfl hu2 (by have hz := HLZ.out; have h := HLX.out; have h1 : ([102, 117, 110, 99, 32] : List UInt8).length = 5 := rfl; have h2 : ([40] : List UInt8).length = 1 := rfl; have h3 : ([41, 32] : List UInt8).length = 2 := rfl; have h4 : ([32] : List UInt8).length = 1 := rfl; have h5 : ([44, 32] : List UInt8).length = 2 := rfl; have h6 : ([10] : List UInt8).length = 1 := rfl; omega)
     obtain ⟨u3, hu3⟩ : ∃ p : List UInt8, p = u2 ++ bs r[j].f.y := ⟨_, rfl⟩
     have lu3 : u3.length = (u2 : List UInt8).length + (bs r[j].f.y : List UInt8).length := by rw [hu3, List.length_append]
     have gu3 : ∀ W' : World, (Op.stringOp .add ⟨u2.toArray⟩ r[j].f.y).run Tryz.prog W' = .ok (.string ⟨u3.toArray⟩) W' := fun W' => cat_is (x := u2) (y := bs r[j].f.y) W' rfl rfl hu3 (by have hz := HLZ.out; have h := HLX.out; have h1 : ([102, 117, 110, 99, 32] : List UInt8).length = 5 := rfl; have h2 : ([40] : List UInt8).length = 1 := rfl; have h3 : ([41, 32] : List UInt8).length = 2 := rfl; have h4 : ([32] : List UInt8).length = 1 := rfl; have h5 : ([44, 32] : List UInt8).length = 2 := rfl; have h6 : ([10] : List UInt8).length = 1 := rfl; omega)
     have HZ2 := zz (show u3 = q3 ++ cm ((r.map te).take (j + 1)) by rw [hu3, hu2, hu1, hu0, HTJ.out, HZ.out, HPT.out]; simp only [List.append_assoc])
     clear hu1 hu2 hu3 lu1 lu2 lu3 hu0 lu0
     go_wp2_with fail
     refine wp_region_held_drew (S := Below wr.heap.size wr) (by kernel_rfl) ?_ (fun zk => ?_)
     ·exact zd _
     apply tk 0 o330_ rfl (by kernel_rfl) (fun _ _ _ h => h) zk
     ·intro wq zq
      go_simp
      try rfl
     go_frame
     apply tk 1 o331_ rfl (by kernel_rfl) (fun _ _ _ h => h) zk
     ·intro wq zq
      go_simp
      try rfl
     go_frame
     apply tk 2 o332_ rfl (by kernel_rfl) (fun _ _ _ h => h) zk
     ·intro wq zq
      obtain ⟨b0, b1, b2, b3, b4, b5, b6, b7⟩ := (HXj.out.below zq HXj.out.lt).cell
      go_simp
      try rfl
     go_frame
     apply tk 3 o333_ rfl (by kernel_rfl) (fun _ _ _ h => h) zk
     ·intro wq zq
      go_simp
      try rfl
     go_frame
     apply tk 4 o334_ rfl (by kernel_rfl) (fun _ _ _ h => h) zk
     ·intro wq zq
      go_simp
      try rfl
     go_frame
     apply tk 5 o335_ rfl (by kernel_rfl) (fun _ _ _ h => h) zk
     ·intro wq zq
      go_simp
      try rfl
     go_frame
     apply tk 6 o336_ rfl (by kernel_rfl) (fun _ _ _ h => h) zk
     ·intro wq zq
      have p0 := (HCp.out.below zq (by omega)).cell
      go_simp
      try rfl
     go_frame
     apply tk 7 o337_ rfl (by kernel_rfl) (fun _ _ _ h => h) zk
     ·intro wq zq
      go_simp
      try rfl
     go_frame
     apply tk 8 o338_ rfl (by kernel_rfl) (fun _ _ _ h => h) zk
     ·intro wq zq
      go_simp
      try rfl
     go_frame
     apply tk 9 o339_ rfl (by kernel_rfl) (fun _ _ _ h => h) zk
     ·intro wq zq
      go_simp
      try rfl
     go_frame
     apply tk 10 o340_ rfl (by kernel_rfl) (fun _ _ _ h => h) zk
     ·intro wq zq
      obtain ⟨b0, b1, b2, b3, b4, b5, b6, b7⟩ := (HXj.out.below zq HXj.out.lt).cell
      go_simp
      try rfl
     go_frame
     apply tk 11 o341_ rfl (by kernel_rfl) (fun _ _ _ h => h) zk
     ·intro wq zq
      go_simp
      try rfl
     go_frame
     apply tk 12 o342_ rfl (by kernel_rfl) (fun _ _ _ h => h) zk
     ·intro wq zq
      go_simp
      try rfl
     go_frame
     apply tk 13 o343_ rfl (by kernel_rfl) (fun _ _ _ h => h) zk
     ·intro wq zq
      go_simp
      try rfl
     go_frame
     apply tk 14 o344_ rfl (by kernel_rfl) (fun _ _ _ h => h) zk
     ·intro wq zq
      have p0 := (HCp.out.below zq (by omega)).cell
      go_simp
      try rfl
     go_frame
     apply tk 15 o345_ rfl (by kernel_rfl) (fun _ _ _ h => h) zk
     ·intro wq zq
      go_simp
      try rfl
     go_frame
     apply tk 16 o346_ rfl (by kernel_rfl) (fun _ _ _ h => h) zk
     ·intro wq zq
      go_simp
      try rfl
     go_frame
     refine wpAnyH_done (by kernel_rfl) ?_ _
     have HB9 := zz (HBJ.out.trans (zk.mono hszj))
     go_wp2
     go_roundw
     case rel => exact ⟨j + 1, u3, by omega, by go_num, rfl, HB9.out, HZ2.out⟩
     case measure => simp [intOf]; omega
   have q : decide ((j : Int) < (r.length : Int)) = false := decide_eq_false (by omega)
   have HTJ := zz (show (r.map te).take j = r.map te from List.take_of_length_le (by simp; omega))
   have HKj := zz (HKa.out.below (HB3.out.trans (HBJ.out.mono (by omega))) HNo.out)
   have HCj := zz (HCa.out.agree (Agree.of_below (HB3.out.trans (HBJ.out.mono (by omega))) HNo.out) hbv)
   by_cases hy : bs cc.f.y = []
   ·rw [if_pos hy] at hYL
    simp only [List.length_nil] at hYL
    obtain ⟨e1, he1⟩ : ∃ p : List UInt8, p = z ++ [41, 32] := ⟨_, rfl⟩
    have le1 : e1.length = (z : List UInt8).length + ([41, 32] : List UInt8).length := by rw [he1, List.length_append]
    have ge1 : ∀ W' : World, (Op.stringOp .add ⟨z.toArray⟩ ⟨#[41, 32]⟩).run Tryz.prog W' = .ok (.string ⟨e1.toArray⟩) W' := fun W' => cat_is (x := z) (y := [41, 32]) W' rfl rfl he1 (by have hz := HLZ.out; have h := HLX.out; have h1 : ([102, 117, 110, 99, 32] : List UInt8).length = 5 := rfl; have h2 : ([40] : List UInt8).length = 1 := rfl; have h3 : ([41, 32] : List UInt8).length = 2 := rfl; have h4 : ([32] : List UInt8).length = 1 := rfl; have h5 : ([44, 32] : List UInt8).length = 2 := rfl; have h6 : ([10] : List UInt8).length = 1 := rfl; omega)
    obtain ⟨e4, he4⟩ : ∃ p : List UInt8, p = e1 ++ tx a 0 false := ⟨_, rfl⟩
    have le4 : e4.length = (e1 : List UInt8).length + (tx a 0 false : List UInt8).length := by rw [he4, List.length_append]
    have ge4 : ∀ W' : World, (Op.stringOp .add ⟨e1.toArray⟩ ⟨(tx a 0 false).toArray⟩).run Tryz.prog W' = .ok (.string ⟨e4.toArray⟩) W' := fun W' => cat_is (x := e1) (y := tx a 0 false) W' rfl rfl he4 (by have hz := HLZ.out; have h := HLX.out; have h1 : ([102, 117, 110, 99, 32] : List UInt8).length = 5 := rfl; have h2 : ([40] : List UInt8).length = 1 := rfl; have h3 : ([41, 32] : List UInt8).length = 2 := rfl; have h4 : ([32] : List UInt8).length = 1 := rfl; have h5 : ([44, 32] : List UInt8).length = 2 := rfl; have h6 : ([10] : List UInt8).length = 1 := rfl; omega)
    obtain ⟨e5, he5⟩ : ∃ p : List UInt8, p = e4 ++ [10] := ⟨_, rfl⟩
    have le5 : e5.length = (e4 : List UInt8).length + ([10] : List UInt8).length := by rw [he5, List.length_append]
    have ge5 : ∀ W' : World, (Op.stringOp .add ⟨e4.toArray⟩ ⟨#[10]⟩).run Tryz.prog W' = .ok (.string ⟨e5.toArray⟩) W' := fun W' => cat_is (x := e4) (y := [10]) W' rfl rfl he5 (by have hz := HLZ.out; have h := HLX.out; have h1 : ([102, 117, 110, 99, 32] : List UInt8).length = 5 := rfl; have h2 : ([40] : List UInt8).length = 1 := rfl; have h3 : ([41, 32] : List UInt8).length = 2 := rfl; have h4 : ([32] : List UInt8).length = 1 := rfl; have h5 : ([44, 32] : List UInt8).length = 2 := rfl; have h6 : ([10] : List UInt8).length = 1 := rfl; omega)
    have HY2 := zz (show e5 = clsT (t.ks.take (k + 1)) 0 by rw [he5, he4, he1, HZ.out, HTJ.out, HQ3.out, HTK.out, HTX.out, if_pos hy, HY.out]; simp)
    clear he5 le5 he4 le4 he1 le1
    have ey3 : cc.f.y.toList = [] := by rw [ByteArray.toList_eq]; exact hy
    have ey4 : cc.f.y.toList.isEmpty = true := by rw [ey3]; rfl
    clear hy
    obtain ⟨b0, b1, b2, b3, b4, b5, b6, b7⟩ := HXj.out.cell
    have a0 := HCj.out.cell
    go_wp2_with fail
    refine (hfn.b (w := wr) (m := m) (S := S) rfl HKj.out (fun i hi => by have := HN.out i hi; omega) (by have h := HLX.out; omega)).mono ?_
    rintro e w9 ⟨rfl, b9⟩
    have HB9 := zz (HBW.out.trans ((HB3.out.trans (HBJ.out.mono (by omega))).trans (b9.mono (by omega)) |>.mono (by omega)))
    clear b9 b0 b1 b2 b3 b4 b5 b6 b7 a0
    go_wp2
    go_roundw
    case rel => exact ⟨k + 1, e5, by omega, by go_num, rfl, HB9.out, HY2.out⟩
    case measure => simp [intOf]; omega
   ·rw [if_neg hy, List.length_append] at hYL
    have h32 : ([32] : List UInt8).length = 1 := rfl
    obtain ⟨e1, he1⟩ : ∃ p : List UInt8, p = z ++ [41, 32] := ⟨_, rfl⟩
    have le1 : e1.length = (z : List UInt8).length + ([41, 32] : List UInt8).length := by rw [he1, List.length_append]
    have ge1 : ∀ W' : World, (Op.stringOp .add ⟨z.toArray⟩ ⟨#[41, 32]⟩).run Tryz.prog W' = .ok (.string ⟨e1.toArray⟩) W' := fun W' => cat_is (x := z) (y := [41, 32]) W' rfl rfl he1 (by have hz := HLZ.out; have hy := HYL.out; have h := HLX.out; have h1 : ([102, 117, 110, 99, 32] : List UInt8).length = 5 := rfl; have h2 : ([40] : List UInt8).length = 1 := rfl; have h3 : ([41, 32] : List UInt8).length = 2 := rfl; have h4 : ([32] : List UInt8).length = 1 := rfl; have h5 : ([44, 32] : List UInt8).length = 2 := rfl; have h6 : ([10] : List UInt8).length = 1 := rfl; omega)
    obtain ⟨e2, he2⟩ : ∃ p : List UInt8, p = e1 ++ bs cc.f.y := ⟨_, rfl⟩
    have le2 : e2.length = (e1 : List UInt8).length + (bs cc.f.y : List UInt8).length := by rw [he2, List.length_append]
    have ge2 : ∀ W' : World, (Op.stringOp .add ⟨e1.toArray⟩ cc.f.y).run Tryz.prog W' = .ok (.string ⟨e2.toArray⟩) W' := fun W' => cat_is (x := e1) (y := bs cc.f.y) W' rfl rfl he2 (by have hz := HLZ.out; have hy := HYL.out; have h := HLX.out; have h1 : ([102, 117, 110, 99, 32] : List UInt8).length = 5 := rfl; have h2 : ([40] : List UInt8).length = 1 := rfl; have h3 : ([41, 32] : List UInt8).length = 2 := rfl; have h4 : ([32] : List UInt8).length = 1 := rfl; have h5 : ([44, 32] : List UInt8).length = 2 := rfl; have h6 : ([10] : List UInt8).length = 1 := rfl; omega)
    obtain ⟨e3, he3⟩ : ∃ p : List UInt8, p = e2 ++ [32] := ⟨_, rfl⟩
    have le3 : e3.length = (e2 : List UInt8).length + ([32] : List UInt8).length := by rw [he3, List.length_append]
    have ge3 : ∀ W' : World, (Op.stringOp .add ⟨e2.toArray⟩ ⟨#[32]⟩).run Tryz.prog W' = .ok (.string ⟨e3.toArray⟩) W' := fun W' => cat_is (x := e2) (y := [32]) W' rfl rfl he3 (by have hz := HLZ.out; have hy := HYL.out; have h := HLX.out; have h1 : ([102, 117, 110, 99, 32] : List UInt8).length = 5 := rfl; have h2 : ([40] : List UInt8).length = 1 := rfl; have h3 : ([41, 32] : List UInt8).length = 2 := rfl; have h4 : ([32] : List UInt8).length = 1 := rfl; have h5 : ([44, 32] : List UInt8).length = 2 := rfl; have h6 : ([10] : List UInt8).length = 1 := rfl; omega)
    obtain ⟨e4, he4⟩ : ∃ p : List UInt8, p = e3 ++ tx a 0 false := ⟨_, rfl⟩
    have le4 : e4.length = (e3 : List UInt8).length + (tx a 0 false : List UInt8).length := by rw [he4, List.length_append]
    have ge4 : ∀ W' : World, (Op.stringOp .add ⟨e3.toArray⟩ ⟨(tx a 0 false).toArray⟩).run Tryz.prog W' = .ok (.string ⟨e4.toArray⟩) W' := fun W' => cat_is (x := e3) (y := tx a 0 false) W' rfl rfl he4 (by have hz := HLZ.out; have hy := HYL.out; have h := HLX.out; have h1 : ([102, 117, 110, 99, 32] : List UInt8).length = 5 := rfl; have h2 : ([40] : List UInt8).length = 1 := rfl; have h3 : ([41, 32] : List UInt8).length = 2 := rfl; have h4 : ([32] : List UInt8).length = 1 := rfl; have h5 : ([44, 32] : List UInt8).length = 2 := rfl; have h6 : ([10] : List UInt8).length = 1 := rfl; omega)
    obtain ⟨e5, he5⟩ : ∃ p : List UInt8, p = e4 ++ [10] := ⟨_, rfl⟩
    have le5 : e5.length = (e4 : List UInt8).length + ([10] : List UInt8).length := by rw [he5, List.length_append]
    have ge5 : ∀ W' : World, (Op.stringOp .add ⟨e4.toArray⟩ ⟨#[10]⟩).run Tryz.prog W' = .ok (.string ⟨e5.toArray⟩) W' := fun W' => cat_is (x := e4) (y := [10]) W' rfl rfl he5 (by have hz := HLZ.out; have hy := HYL.out; have h := HLX.out; have h1 : ([102, 117, 110, 99, 32] : List UInt8).length = 5 := rfl; have h2 : ([40] : List UInt8).length = 1 := rfl; have h3 : ([41, 32] : List UInt8).length = 2 := rfl; have h4 : ([32] : List UInt8).length = 1 := rfl; have h5 : ([44, 32] : List UInt8).length = 2 := rfl; have h6 : ([10] : List UInt8).length = 1 := rfl; omega)
    have HY2 := zz (show e5 = clsT (t.ks.take (k + 1)) 0 by rw [he5, he4, he3, he2, he1, HZ.out, HTJ.out, HQ3.out, HTK.out, HTX.out, if_neg hy, HY.out]; simp)
    clear he5 le5 he4 le4 he3 le3 he2 le2 he1 le1
    have ey2 : ¬ cc.f.y = ByteArray.empty := fun e => hy (by rw [e]; rfl)
    have ey3 : ¬ cc.f.y.toList = [] := by rw [ByteArray.toList_eq]; exact hy
    have ey4 : cc.f.y.toList.isEmpty = false := by cases ee : cc.f.y.toList with | nil => exact absurd ee ey3 | cons _ _ => rfl
    clear hy
    obtain ⟨b0, b1, b2, b3, b4, b5, b6, b7⟩ := HXj.out.cell
    have a0 := HCj.out.cell
    go_wp2_with fail
    refine (hfn.b (w := wr) (m := m) (S := S) rfl HKj.out (fun i hi => by have := HN.out i hi; omega) (by have h := HLX.out; omega)).mono ?_
    rintro e w9 ⟨rfl, b9⟩
    have HB9 := zz (HBW.out.trans ((HB3.out.trans (HBJ.out.mono (by omega))).trans (b9.mono (by omega)) |>.mono (by omega)))
    clear b9 b0 b1 b2 b3 b4 b5 b6 b7 a0
    go_wp2
    go_roundw
    case rel => exact ⟨k + 1, e5, by omega, by go_num, rfl, HB9.out, HY2.out⟩
    case measure => simp [intOf]; omega
end
end Go.Proofs.YtmdhjiammcpogaaGreatDoor
