import Derived.Test.YtmdhjiammcpogaaGreatDoorQ41
namespace Go.Proofs.YtmdhjiammcpogaaGreatDoor
set_option maxRecDepth 100000
set_option maxHeartbeats 16000000
open Go.RowKit
variable {S : Nat -> Prop} {b : Bool} {m : Md} {t : Tr} {v : Value} {w : World}
def AskS (t : Tr) : Prop := ∀ (w : World) (v : Value) (m : Md) (S : Nat -> Prop), Kids w m S v t.ks -> (∀ i, S i -> i < w.heap.size) ->
 Calls Tryz.prog 76 #[nv t.f v] w fun e w' => e = .returned (.bool (okS t)) /\ Below w.heap.size w w'
def AskB (t : Tr) : Prop := ∀ (w : World) (v : Value) (m : Md) (S : Nat -> Prop), Kids w m S v t.ks -> (∀ i, S i -> i < w.heap.size) ->
 Calls Tryz.prog 41 #[nv t.f v] w fun e w' => e = .returned (.bool (okB t)) /\ Below w.heap.size w w'
def AskIf (t : Tr) : Prop := ∀ (w : World) (v : Value) (m : Md) (S : Nat -> Prop), t.f.k = 11 -> Kids w m S v t.ks -> (∀ i, S i -> i < w.heap.size) ->
 Calls Tryz.prog 101 #[nv t.f v] w fun e w' => e = .returned (.bool (fitT t)) /\ Below w.heap.size w w'
theorem rblock_is (hS : ∀ k ∈ t.ks, AskS k) (hF : AllF t) (hK : Kids w m S v t.ks) (hN : ∀ i, S i -> i < w.heap.size) (h : okB t = b) :
 Calls Tryz.prog 41 #[nv t.f v] w fun e w' => e = .returned (.bool b) /\ Below w.heap.size w w' := by
 have HH := zz h
 have HK := zz hK
 have HN := zz hN
 have HF := zz hF
 clear h hK hN hF
 obtain ⟨Av, cv, bv, ov, rfl, hlv, hAv, hrv⟩ := HK.out.form
 have HAv := zz hAv
 have HRv := zz hrv
 clear hAv hrv
 unfold nv
 have HS := zz hS
 clear hS
 by_cases k4 : t.f.k = 4
 rotate_left
 ·have q4 : (t.f.k != 4) = true := by simp [k4]
  have HQ4 := zz k4
  clear k4
  go_enter Tryz.func41, Tryz.ntmps41
  have E := zz (show false = b by rw [<- HH.out, okB_eq, beq_false_of_ne HQ4.out]; rfl)
  go_wp2
  go_ret
  exact ⟨zb E.out, (box1 _ _).out⟩
 have q4 : (t.f.k != 4) = false := by simp [k4]
 have HQ4 := zz k4
 clear k4
 go_enter Tryz.func41, Tryz.ntmps41
 go_wp2_with fail
 obtain ⟨w1, hw1, HB1, HX1, hs1⟩ := jb w t.f (.slice Av t.ks.length cv)
 rw [hw1]
 clear hw1
 refine (rbare_is (f := t.f) (x := false) (y := false) (z := false) (r := emp t.f) (rbare_fff (show mrk t.f.k = false by rw [HQ4.out]; rfl)) _).mono ?_
 rintro e w2 ⟨rfl, b⟩
 have hz2 := b.size
 have HB2 := bt2 HB1 b
 have HX2 := bx HX1 b
 clear b HB1 HX1
 have x0 := HX2.out.cell
 cases c0 : emp t.f
 ·have Hc0 := zz c0
  clear c0
  have E := zz (show false = b by rw [<- HH.out, okB_eq, HQ4.out, Hc0.out]; rfl)
  go_wp2
  go_ret
  exact ⟨zb E.out, HB2.out⟩
 ·have Hc0 := zz c0
  clear c0
  clear x0
  go_wp2
  go_loopw [3] (fun i wr => ∃ k : Nat, k <= t.ks.length /\ i = .int .i64 k /\ Below w2.heap.size w2 wr /\ (t.ks.take k).all okS = true) (fun i _ => t.ks.length - (intOf i).toNat)
  case atStart => exact ⟨0, Nat.zero_le _, rfl, Below.refl _ _, by rw [List.take_zero]; rfl⟩
  case round =>
   obtain ⟨k, hk, rfl, hbw, hall⟩ := hrel
   have hsz := hbw.size
   have HBW := zz hbw
   have HALL := zz hall
   have HXR := zz (HX2.out.below hbw (by have := HB2.out.size; omega))
   have HBR := zz (HB2.out.trans (hbw.mono HB2.out.size))
   clear hbw hall
   have x0 := HXR.out.cell
   by_cases hkl : k < t.ks.length
   ·obtain ⟨hA1, hbv, _⟩ := HAv.out (by omega)
    subst hA1
    obtain ⟨vk, p0, p1, p2, p3, p4, p5, p6, p7, hk'⟩ := ((HRv.out.agree (Agree.of_below HBR.out HN.out) hbv).get k hkl).open
    have HK' := zz hk'
    have i0 : (0 : Int) <= (k : Int) := by omega
    have i1 : (k : Int) < (t.ks.length : Int) := by omega
    clear hk'
    go_wp2_with fail
    refine (HS.out t.ks[k] (List.getElem_mem hkl) _ _ m S HK'.out (fun i hi => by have := HN.out i hi; have := HBR.out.size; omega)).mono ?_
    rintro e w4 ⟨rfl, b⟩
    have HB4 := zz (HBW.out.trans (b.mono hsz))
    have HBR4 := bt2 HBR b
    clear b p0 p1 p2 p3 p4 p5 p6 p7 x0
    cases hp : okS t.ks[k]
    ·have E := zz (show false = b by rw [<- HH.out, okB_eq, HQ4.out, Hc0.out, all_no hkl hp]; rfl)
     clear hp
     go_wp2
     go_ret
     exact ⟨zb E.out, HBR4.out⟩
    ·have H1 := zz (show (t.ks.take (k + 1)).all okS = true by rw [all_succ hkl, HALL.out, hp]; rfl)
     clear hp
     go_wp2
     go_roundw
     case rel => exact ⟨k + 1, by omega, by go_num, HB4.out, H1.out⟩
     case measure => simp [intOf]; omega
   ·have E := zz (show true = b by
     have h9 := HALL.out
     rw [List.take_of_length_le (by omega)] at h9
     rw [<- HH.out, okB_eq, HQ4.out, Hc0.out, h9]; rfl)
    go_wp2
    go_ret
    exact ⟨zb E.out, HBR.out⟩
theorem lst_two {l : List Tr} (h : l.length = 2) : l = [l[0]'(by omega), l[1]'(by omega)] := by
 rcases l with _ | ⟨a, _ | ⟨b, _ | ⟨c, r⟩⟩⟩
 ·simp at h
 ·simp at h
 ·rfl
 ·simp at h
theorem lst_three {l : List Tr} (h : l.length = 3) : l = [l[0]'(by omega), l[1]'(by omega), l[2]'(by omega)] := by
 rcases l with _ | ⟨a, _ | ⟨b, _ | ⟨c, _ | ⟨d, r⟩⟩⟩⟩
 ·simp at h
 ·simp at h
 ·simp at h
 ·rfl
 ·simp at h
theorem rifs_is (hE : ∀ k ∈ t.ks, AskE k) (hB : ∀ k ∈ t.ks, AskB k) (hI : ∀ k ∈ t.ks, AskIf k) (hk : t.f.k = 11) (hF : AllF t) (hK : Kids w m S v t.ks) (hN : ∀ i, S i -> i < w.heap.size) (h : fitT t = b) :
 Calls Tryz.prog 101 #[nv t.f v] w fun e w' => e = .returned (.bool b) /\ Below w.heap.size w w' := by
 have HH := zz h
 have HK := zz hK
 have HN := zz hN
 have HF := zz hF
 clear h hK hN hF
 obtain ⟨Av, cv, bv, ov, rfl, hlv, hAv, hrv⟩ := HK.out.form
 have HAv := zz hAv
 have HRv := zz hrv
 clear hAv hrv
 unfold nv
 have HKK := zz hk
 have HE := zz hE
 have HBk := zz hB
 have HI := zz hI
 clear hk hE hB hI
 by_cases hlt : t.ks.length < 2
 ·have q0 : decide ((t.ks.length : Int) < 2) = true := decide_eq_true (by omega)
  have HL := zz hlt
  clear hlt
  go_enter Tryz.func101, Tryz.ntmps101
  have E := zz (show false = b by rw [<- HH.out, if_no HKK.out (by have := HL.out; omega) (by have := HL.out; omega)])
  go_wp2
  go_ret
  exact ⟨zb E.out, (box1 _ _).out⟩
 have q0 : decide ((t.ks.length : Int) < 2) = false := decide_eq_false (by omega)
 by_cases hgt : 3 < t.ks.length
 ·have q1 : decide (3 < (t.ks.length : Int)) = true := decide_eq_true (by omega)
  have HL := zz hgt
  clear hlt hgt
  go_enter Tryz.func101, Tryz.ntmps101
  have E := zz (show false = b by rw [<- HH.out, if_no HKK.out (by have := HL.out; omega) (by have := HL.out; omega)])
  go_wp2
  go_ret
  exact ⟨zb E.out, (box1 _ _).out⟩
 have q1 : decide (3 < (t.ks.length : Int)) = false := decide_eq_false (by omega)
 have hl0 : 0 < t.ks.length := by omega
 have hl1 : 1 < t.ks.length := by omega
 have HLT := zz hlt
 have HGT := zz hgt
 clear hlt hgt
 obtain ⟨hA1, hbv, _⟩ := HAv.out hl0
 subst hA1
 have j1 : (1 : Int) < (t.ks.length : Int) := by omega
 by_cases hl : t.ks.length = 2
 ·have ql : ((t.ks.length : Int) == 2) = true := by rw [hl]; rfl
  have HL := zz hl
  clear hl
  go_enter Tryz.func101, Tryz.ntmps101
  go_wp2_with fail
  obtain ⟨w1, hw1, HB1, HX1, hs1⟩ := jb w t.f (.slice (some ⟨bv, ov, none⟩) t.ks.length cv)
  rw [hw1]
  clear hw1
  refine (rbare_is (f := t.f) (x := false) (y := false) (z := false) (r := emp t.f) (rbare_fff (show mrk t.f.k = false by rw [HKK.out]; rfl)) _).mono ?_
  rintro e w2 ⟨rfl, b⟩
  have hz2 := b.size
  have HB2 := bt2 HB1 b
  have HX2 := bx HX1 b
  clear b HB1 HX1
  have x0 := HX2.out.cell
  cases c0 : emp t.f
  ·have Hc0 := zz c0
   clear c0
   have E := zz (show false = b by rw [<- HH.out, if2 HKK.out (lst_two HL.out), Hc0.out]; rfl)
   go_wp2
   go_ret
   exact ⟨zb E.out, HB2.out⟩
  ·have Hc0 := zz c0
   clear c0
   have hq := (HRv.out.agree (Agree.of_below HB2.out HN.out) hbv).get 0 hl0
   have hq2 : NodeAt w2 m S bv (ov) t.ks[0] := by simpa using hq
   clear hq
   obtain ⟨vp0, p00, p01, p02, p03, p04, p05, p06, p07, hkp0⟩ := hq2.open
   have HKp0 := zz hkp0
   clear hkp0 hq2
   go_wp2_with fail
   refine (HE.out t.ks[0] (List.getElem_mem hl0) _ _ m S HKp0.out (fun i hi => by have := HN.out i hi; have := HB2.out.size; omega)).mono ?_
   rintro e w3 ⟨rfl, b⟩
   have hz3 := b.size
   have HB3 := bt2 HB2 b
   have HX3 := bx HX2 b
   clear b HB2 HX2 x0 p00 p01 p02 p03 p04 p05 p06 p07
   have x0 := HX3.out.cell
   have hq := (HRv.out.agree (Agree.of_below HB3.out HN.out) hbv).get 1 hl1
   have hq2 : NodeAt w3 m S bv (ov + 8) t.ks[1] := by simpa using hq
   clear hq
   obtain ⟨vr1, r10, r11, r12, r13, r14, r15, r16, r17, hkr1⟩ := hq2.open
   have HKr1 := zz hkr1
   clear hkr1 hq2
   go_wp2_with fail
   refine (HBk.out t.ks[1] (List.getElem_mem hl1) _ _ m S HKr1.out (fun i hi => by have := HN.out i hi; have := HB3.out.size; omega)).mono ?_
   rintro e w4 ⟨rfl, b⟩
   have hz4 := b.size
   have HB4 := bt2 HB3 b
   have HX4 := bx HX3 b
   clear b HB3 HX3 x0 r10 r11 r12 r13 r14 r15 r16 r17
   have x0 := HX4.out.cell
   cases c1 : okE t.ks[0]
   ·have Hc1 := zz c1
    clear c1
    have E := zz (show false = b by rw [<- HH.out, if2 HKK.out (lst_two HL.out), Hc0.out, Hc1.out]; rfl)
    go_wp2
    go_ret
    exact ⟨zb E.out, HB4.out⟩
   ·have Hc1 := zz c1
    clear c1
    cases c2 : okB t.ks[1]
    ·have Hc2 := zz c2
     clear c2
     have E := zz (show false = b by rw [<- HH.out, if2 HKK.out (lst_two HL.out), Hc0.out, Hc1.out, Hc2.out]; rfl)
     go_wp2
     go_ret
     exact ⟨zb E.out, HB4.out⟩
    ·have Hc2 := zz c2
     clear c2
     have E := zz (show true = b by rw [<- HH.out, if2 HKK.out (lst_two HL.out), Hc0.out, Hc1.out, Hc2.out]; rfl)
     go_wp2
     go_ret
     exact ⟨zb E.out, HB4.out⟩
 ·have ql : ((t.ks.length : Int) == 2) = false := beq_false_of_ne (by omega)
  have HL := zz (show t.ks.length = 3 by have := HLT.out; have := HGT.out; omega)
  have hl2 : 2 < t.ks.length := by have := HL.out; omega
  have j2 : (2 : Int) < (t.ks.length : Int) := by omega
  clear hl
  go_enter Tryz.func101, Tryz.ntmps101
  go_wp2_with fail
  obtain ⟨w1, hw1, HB1, HX1, hs1⟩ := jb w t.f (.slice (some ⟨bv, ov, none⟩) t.ks.length cv)
  rw [hw1]
  clear hw1
  refine (rbare_is (f := t.f) (x := false) (y := false) (z := false) (r := emp t.f) (rbare_fff (show mrk t.f.k = false by rw [HKK.out]; rfl)) _).mono ?_
  rintro e w2 ⟨rfl, b⟩
  have hz2 := b.size
  have HB2 := bt2 HB1 b
  have HX2 := bx HX1 b
  clear b HB1 HX1
  have x0 := HX2.out.cell
  cases c0 : emp t.f
  ·have Hc0 := zz c0
   clear c0
   have E := zz (show false = b by rw [<- HH.out, if3 HKK.out (lst_three HL.out), Hc0.out]; rfl)
   go_wp2
   go_ret
   exact ⟨zb E.out, HB2.out⟩
  ·have Hc0 := zz c0
   clear c0
   have hq := (HRv.out.agree (Agree.of_below HB2.out HN.out) hbv).get 0 hl0
   have hq2 : NodeAt w2 m S bv (ov) t.ks[0] := by simpa using hq
   clear hq
   obtain ⟨vp0, p00, p01, p02, p03, p04, p05, p06, p07, hkp0⟩ := hq2.open
   have HKp0 := zz hkp0
   clear hkp0 hq2
   go_wp2_with fail
   refine (HE.out t.ks[0] (List.getElem_mem hl0) _ _ m S HKp0.out (fun i hi => by have := HN.out i hi; have := HB2.out.size; omega)).mono ?_
   rintro e w3 ⟨rfl, b⟩
   have hz3 := b.size
   have HB3 := bt2 HB2 b
   have HX3 := bx HX2 b
   clear b HB2 HX2 x0 p00 p01 p02 p03 p04 p05 p06 p07
   have x0 := HX3.out.cell
   have hq := (HRv.out.agree (Agree.of_below HB3.out HN.out) hbv).get 1 hl1
   have hq2 : NodeAt w3 m S bv (ov + 8) t.ks[1] := by simpa using hq
   clear hq
   obtain ⟨vr1, r10, r11, r12, r13, r14, r15, r16, r17, hkr1⟩ := hq2.open
   have HKr1 := zz hkr1
   clear hkr1 hq2
   go_wp2_with fail
   refine (HBk.out t.ks[1] (List.getElem_mem hl1) _ _ m S HKr1.out (fun i hi => by have := HN.out i hi; have := HB3.out.size; omega)).mono ?_
   rintro e w4 ⟨rfl, b⟩
   have hz4 := b.size
   have HB4 := bt2 HB3 b
   have HX4 := bx HX3 b
   clear b HB3 HX3 x0 r10 r11 r12 r13 r14 r15 r16 r17
   have x0 := HX4.out.cell
   cases c1 : okE t.ks[0]
   ·have Hc1 := zz c1
    clear c1
    have E := zz (show false = b by rw [<- HH.out, if3 HKK.out (lst_three HL.out), Hc0.out, Hc1.out]; rfl)
    go_wp2
    go_ret
    exact ⟨zb E.out, HB4.out⟩
   ·have Hc1 := zz c1
    clear c1
    cases c2 : okB t.ks[1]
    ·have Hc2 := zz c2
     clear c2
     have E := zz (show false = b by rw [<- HH.out, if3 HKK.out (lst_three HL.out), Hc0.out, Hc1.out, Hc2.out]; rfl)
     go_wp2
     go_ret
     exact ⟨zb E.out, HB4.out⟩
    ·have Hc2 := zz c2
     clear c2
     have hq := (HRv.out.agree (Agree.of_below HB4.out HN.out) hbv).get 2 hl2
     have hq2 : NodeAt w4 m S bv (ov + 16) t.ks[2] := by simpa using hq
     clear hq
     obtain ⟨vu2, u20, u21, u22, u23, u24, u25, u26, u27, hku2⟩ := hq2.open
     have HKu2 := zz hku2
     clear hku2 hq2
     by_cases k11 : t.ks[2].f.k = 11
     ·have q11 := yk k11
      have HK11 := zz k11
      clear k11
      go_wp2_with fail
      refine (HI.out t.ks[2] (List.getElem_mem hl2) _ _ m S HK11.out HKu2.out (fun i hi => by have := HN.out i hi; have := HB4.out.size; omega)).mono ?_
      rintro e w5 ⟨rfl, b⟩
      have hz5 := b.size
      have HB5 := bt2 HB4 b
      have HX5 := bx HX4 b
      clear b HB4 HX4 x0 u20 u21 u22 u23 u24 u25 u26 u27
      have x0 := HX5.out.cell
      have E := zz (show fitT t.ks[2] = b by rw [<- HH.out, if3 HKK.out (lst_three HL.out), Hc0.out, Hc1.out, Hc2.out, if_pos HK11.out]; rfl)
      go_wp2
      go_ret
      exact ⟨zb E.out, HB5.out⟩
     ·have q11 := beq_false_of_ne k11
      have HK11 := zz k11
      clear k11
      go_wp2_with fail
      refine (HBk.out t.ks[2] (List.getElem_mem hl2) _ _ m S HKu2.out (fun i hi => by have := HN.out i hi; have := HB4.out.size; omega)).mono ?_
      rintro e w5 ⟨rfl, b⟩
      have hz5 := b.size
      have HB5 := bt2 HB4 b
      have HX5 := bx HX4 b
      clear b HB4 HX4 x0 u20 u21 u22 u23 u24 u25 u26 u27
      have x0 := HX5.out.cell
      have E := zz (show okB t.ks[2] = b by rw [<- HH.out, if3 HKK.out (lst_three HL.out), Hc0.out, Hc1.out, Hc2.out, if_neg HK11.out]; rfl)
      go_wp2
      go_ret
      exact ⟨zb E.out, HB5.out⟩
end Go.Proofs.YtmdhjiammcpogaaGreatDoor
