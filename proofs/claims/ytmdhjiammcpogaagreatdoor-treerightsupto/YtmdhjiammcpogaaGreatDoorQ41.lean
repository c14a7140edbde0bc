import Derived.Test.YtmdhjiammcpogaaGreatDoorQ40
namespace Go.Proofs.YtmdhjiammcpogaaGreatDoor
set_option maxRecDepth 100000
set_option maxHeartbeats 16000000
open Go.RowKit
variable {N : Nat} {S : Nat -> Prop} {b : Bool} {m : Md} {t : Tr} {v : Value} {w : World}
abbrev nb (a : Tr) : Bool := !decide (a.f.t.data.toList = [95])
theorem let_gen1 (h : t.f.k = 6 ∨ t.f.k = 7) (hn : t.f.n = 1) (hl : t.ks.length = 2) : fitT t = (emn t.f && (t.ks.take 1).all okT && okE (t.ks[1]'(by omega)) && (true || kRecv (t.ks[1]'(by omega)).f) && ((t.ks.take 1).any nb || t.f.k == 7)) := by
 obtain ⟨a, e, hk⟩ : ∃ a e, t.ks = [a, e] := by
  rcases hks : t.ks with _ | ⟨a, _ | ⟨e, _ | ⟨c, r⟩⟩⟩ <;> simp_all
 rw [let1 h hn hk]
 simp [hk, nb]
theorem let_gen2 (h : t.f.k = 6 ∨ t.f.k = 7) (hn : t.f.n = 2) (hl : t.ks.length = 3) : fitT t = (emn t.f && (t.ks.take 2).all okT && okE (t.ks[2]'(by omega)) && (false || kRecv (t.ks[2]'(by omega)).f) && ((t.ks.take 2).any nb || t.f.k == 7)) := by
 obtain ⟨a, d, e, hk⟩ : ∃ a d e, t.ks = [a, d, e] := by
  rcases hks : t.ks with _ | ⟨a, _ | ⟨e, _ | ⟨c, _ | ⟨x, r⟩⟩⟩⟩ <;> simp_all
 rw [let2 h hn hk]
 simp [hk, nb, Bool.and_assoc]
theorem any_succ {P : Tr -> Bool} {l : List Tr} {k : Nat} (h : k < l.length) : (l.take (k + 1)).any P = ((l.take k).any P || P l[k]) := by
 rw [List.take_succ_eq_append_getElem h, List.any_append]
 simp
theorem take_all_no {P : Tr -> Bool} {l : List Tr} {k : Nat} (hk : k < l.length) (hN : k < N) (h : P l[k] = false) : (l.take N).all P = false := by
 cases e : (l.take N).all P
 ·rfl
 ·have hm : l[k] ∈ l.take N := List.mem_take_iff_getElem.2 ⟨k, by omega, rfl⟩
  have := List.all_eq_true.1 e _ hm
  rw [h] at this
  cases this
theorem rlets_1 (hE : ∀ k ∈ t.ks, AskE k) (hk : t.f.k = 6 ∨ t.f.k = 7) (hn : t.f.n = 1) (hl : t.ks.length = 2) (hF : AllF t) (hK : Kids w m S v t.ks) (hN : ∀ i, S i -> i < w.heap.size) (h : fitT t = b) :
 Calls Tryz.prog 129 #[nv t.f v] w fun e w' => e = .returned (.bool b) /\ Below w.heap.size w w' := by
 have HH := zz h
 have HK := zz hK
 have HN := zz hN
 have HF := zz hF
 clear h hK hN hF
 obtain ⟨Av, cv, bv, ov, rfl, hlv, hAv, hrv⟩ := HK.out.form
 have HAv := zz hAv
 have HRv := zz hrv
 clear hAv hrv
 unfold nv
 have HE := zz hE
 have HK67 := zz hk
 have HNN := zz hn
 have HL := zz hl
 have hl1 : 0 < t.ks.length := by omega
 clear hE hk hn hl
 obtain ⟨hA1, hbv, _⟩ := HAv.out hl1
 subst hA1
 have q1 : (t.f.n != 1) = false := by rw [HNN.out]; rfl
 have q2 : (t.f.n != 2) = true := by rw [HNN.out]; rfl
 have ql : ((t.ks.length : Int) != t.f.n + 1) = false := by rw [HNN.out, HL.out]; rfl
 have j0 : -9223372036854775808 <= t.f.n + 1 := by rw [HNN.out]; omega
 have j1 : t.f.n + 1 <= 9223372036854775807 := by rw [HNN.out]; omega
 have hmk : mrk t.f.k = false := by rcases HK67.out with h | h <;> rw [h] <;> rfl
 have HMK := zz hmk
 have HG := zz (let_gen1 HK67.out HNN.out HL.out)
 clear hmk
 go_enter Tryz.func129, Tryz.ntmps129
 go_wp2_with fail
 obtain ⟨w1, hw1, HB1, HX1, hs1⟩ := jb w t.f (.slice (some ⟨bv, ov, none⟩) t.ks.length cv)
 rw [hw1]
 clear hw1
 refine (rbare_is (f := t.f) (x := false) (y := false) (z := true) (r := emn t.f) (rbare_fft HMK.out) _).mono ?_
 rintro e w2 ⟨rfl, b⟩
 have hz2 := b.size
 have HB2 := zz (HB1.out.trans (b.mono (by omega)))
 have HX2 := zz (HX1.out.below b (by omega))
 clear b HB1 HX1 q1 q2 ql j0 j1
 cases c0 : emn t.f
 ·have E := zz (show false = b by rw [<- HH.out, HG.out, c0]; rfl)
  clear c0 HX2
  go_wp2
  go_ret
  exact ⟨zb E.out, HB2.out⟩
 have HC0 := zz c0
 clear c0
 go_wp2
 go_loopw [3, 4] (fun nm i wr => ∃ k : Nat, k <= 1 /\ i = .int .i64 k /\ nm = .bool ((t.ks.take k).any nb) /\ Below w2.heap.size w2 wr /\ (t.ks.take k).all okT = true) (fun _ i _ => 1 - (intOf i).toNat)
 case atStart => exact ⟨0, Nat.zero_le _, rfl, by rw [List.take_zero]; rfl, Below.refl _ _, by rw [List.take_zero]; rfl⟩
 case round =>
  obtain ⟨k, hk, rfl, rfl, hbw, hall⟩ := hrel
  have hsz := hbw.size
  have HBW := zz hbw
  have HALL := zz hall
  have HXR := zz (HX2.out.below hbw (by omega))
  have HBR := zz (HB2.out.trans (hbw.mono HB2.out.size))
  clear hbw hall
  have x0 := HXR.out.cell
  rw [HNN.out] at x0
  have hkl : k < t.ks.length := by have := HL.out; omega
  by_cases hkN : k < 1
  ·obtain ⟨vk, p0, p1, p2, p3, p4, p5, p6, p7, hk'⟩ := ((HRv.out.agree (Agree.of_below HBR.out HN.out) hbv).get k hkl).open
   have HK' := zz hk'
   have i0 : (0 : Int) <= (k : Int) := by omega
   have i1 : (k : Int) < (t.ks.length : Int) := by omega
   have qk : (k : Int) < 1 := by omega
   clear hk'
   go_wp2_with fail
   refine (rtarget_is (t := t.ks[k]) (b := okT t.ks[k]) (AllFs.get HF.out.ks _ (List.getElem_mem hkl)) HK'.out (fun i hi => by have := HN.out i hi; omega) rfl).mono ?_
   rintro e w4 ⟨rfl, b⟩
   have hz4 := b.size
   have HB4 := zz (HBW.out.trans (b.mono hsz))
   have HX4 := bx HXR b
   have HBR4 := bt2 HBR b
   clear b p0 p1 p2 p3 p4 p5 p6 p7 x0
   cases hp : okT t.ks[k]
   ·have E := zz (show false = b by rw [<- HH.out, HG.out, HC0.out, take_all_no hkl hkN hp]; rfl)
    clear hp
    go_wp2
    go_ret
    exact ⟨zb E.out, HBR4.out⟩
   have HP := zz hp
   have H1 := zz (show (t.ks.take (k + 1)).all okT = true by rw [all_succ hkl, HALL.out, hp]; rfl)
   have HAN := zz (any_succ (P := nb) hkl)
   clear hp
   have x0 := HX4.out.cell
   rw [HNN.out] at x0
   obtain ⟨vk', p0, p1, p2, p3, p4, p5, p6, p7, hk'⟩ := ((HRv.out.agree (Agree.of_below HBR4.out HN.out) hbv).get k hkl).open
   clear hk'
   have qb : (t.ks[k].f.t.toList != [95]) = nb t.ks[k] := by
    unfold nb
    rw [ByteArray.toList_eq, bne]
    by_cases c : t.ks[k].f.t.data.toList = [95]
    ·rw [decide_eq_true c, c]; rfl
    ·rw [decide_eq_false c, beq_false_of_ne c]
   have HNB := zz (show ∃ z, nb t.ks[k] = z from ⟨_, rfl⟩)
   obtain ⟨z, hz⟩ := HNB.out
   rw [hz] at qb
   rw [hz] at HAN
   clear HNB hz
   cases hany : (t.ks.take k).any nb
   ·have H2 := zz (show (t.ks.take (k + 1)).any nb = z by rw [HAN.out, hany]; rfl)
    clear hany
    go_wp2
    go_roundw
    case rel => exact ⟨k + 1, by omega, by go_num, by first | (rw [H2.out]; done) | (rw [H2.out]; exact congrArg Value.bool qb), HB4.out, H1.out⟩
    case measure => simp [intOf]; omega
   ·have H2 := zz (show (t.ks.take (k + 1)).any nb = true by rw [HAN.out, hany]; rfl)
    clear hany
    go_wp2
    go_roundw
    case rel => exact ⟨k + 1, by omega, by go_num, by first | (rw [H2.out]; done) | (rw [H2.out]; exact congrArg Value.bool qb), HB4.out, H1.out⟩
    case measure => simp [intOf]; omega
  ·obtain rfl : k = 1 := by omega
   have qk : ¬ ((1 : Nat) : Int) < 1 := by omega
   have hq := (HRv.out.agree (Agree.of_below HBR.out HN.out) hbv).get 1 (by have := HL.out; omega)
   have hq2 : NodeAt wr m S bv (ov + 8) (t.ks[1]'(by have := HL.out; omega)) := by simpa using hq
   obtain ⟨vk, p0, p1, p2, p3, p4, p5, p6, p7, hk'⟩ := hq2.open
   obtain ⟨Ap, cp, bp, op, rfl, _, _, _⟩ := hk'.form
   have HK' := zz hk'
   have i1 : (1 : Int) < (t.ks.length : Int) := by have := HL.out; omega
   clear hk' hq hq2
   go_wp2_with fail
   obtain ⟨w3, hw3, HB3', HY3, hs3⟩ := jb wr t.ks[1].f (.slice Ap t.ks[1].ks.length cp)
   rw [hw3]
   clear hw3
   have HB3 := zz (HBR.out.trans (HB3'.out.mono HBR.out.size))
   have HX3 := zz (HXR.out.below HB3'.out (by have := HBR.out.size; omega))
   have HKp3 := zz (HK'.out.below HB3'.out (fun i hi => by have := HN.out i hi; have := HBR.out.size; omega))
   refine (HE.out t.ks[1] (List.getElem_mem _) _ _ m S HKp3.out (fun i hi => by have := HN.out i hi; have := HBR.out.size; omega)).mono ?_
   rintro e w4 ⟨rfl, b⟩
   have hz4 := b.size
   have HB4 := bt2 HB3 b
   have HY4 := zz (HY3.out.below b (by omega))
   have HX4 := bx HX3 b
   clear b HB3 HB3' HX3 HY3 HKp3 x0 p0 p1 p2 p3 p4 p5 p6 p7
   have y0 := HY4.out.cell
   go_wp2_with fail
   refine (rRecv_b (f := t.ks[1].f) _).mono ?_
   rintro e w5 ⟨rfl, b⟩
   have hz5 := b.size
   have HB5 := bt2 HB4 b
   have HX5 := bx HX4 b
   clear b HB4 HX4 HY4 y0
   have x0 := HX5.out.cell
   rw [HNN.out] at x0
   cases c1 : okE t.ks[1]
   ·have E := zz (show false = b by rw [<- HH.out, HG.out, HC0.out, HALL.out, c1]; rfl)
    clear c1
    go_wp2
    go_ret
    exact ⟨zb E.out, HB5.out⟩
   have HC1 := zz c1
   clear c1
   cases c2 : kRecv t.ks[1].f
   ·have HC2 := zz c2
    clear c2
    cases c3 : (t.ks.take 1).any nb
    ·have HC3 := zz c3
     clear c3
     by_cases k7 : t.f.k = 7
     ·have q7 := yk k7
      have E := zz (show true = b by rw [<- HH.out, HG.out, HC0.out, HALL.out, HC1.out, HC2.out, HC3.out, q7]; rfl)
      clear k7
      go_wp2
      go_ret
      exact ⟨zb E.out, HB5.out⟩
     ·have q7 := beq_false_of_ne k7
      have E := zz (show false = b by rw [<- HH.out, HG.out, HC0.out, HALL.out, HC1.out, HC2.out, HC3.out, q7]; rfl)
      clear k7
      go_wp2
      go_ret
      exact ⟨zb E.out, HB5.out⟩
    ·have E := zz (show true = b by rw [<- HH.out, HG.out, HC0.out, HALL.out, HC1.out, HC2.out, c3]; rfl)
     clear c3
     go_wp2
     go_ret
     exact ⟨zb E.out, HB5.out⟩
   ·have HC2 := zz c2
    clear c2
    cases c3 : (t.ks.take 1).any nb
    ·have HC3 := zz c3
     clear c3
     by_cases k7 : t.f.k = 7
     ·have q7 := yk k7
      have E := zz (show true = b by rw [<- HH.out, HG.out, HC0.out, HALL.out, HC1.out, HC2.out, HC3.out, q7]; rfl)
      clear k7
      go_wp2
      go_ret
      exact ⟨zb E.out, HB5.out⟩
     ·have q7 := beq_false_of_ne k7
      have E := zz (show false = b by rw [<- HH.out, HG.out, HC0.out, HALL.out, HC1.out, HC2.out, HC3.out, q7]; rfl)
      clear k7
      go_wp2
      go_ret
      exact ⟨zb E.out, HB5.out⟩
    ·have E := zz (show true = b by rw [<- HH.out, HG.out, HC0.out, HALL.out, HC1.out, HC2.out, c3]; rfl)
     clear c3
     go_wp2
     go_ret
     exact ⟨zb E.out, HB5.out⟩
theorem rlets_2 (hE : ∀ k ∈ t.ks, AskE k) (hk : t.f.k = 6 ∨ t.f.k = 7) (hn : t.f.n = 2) (hl : t.ks.length = 3) (hF : AllF t) (hK : Kids w m S v t.ks) (hN : ∀ i, S i -> i < w.heap.size) (h : fitT t = b) :
 Calls Tryz.prog 129 #[nv t.f v] w fun e w' => e = .returned (.bool b) /\ Below w.heap.size w w' := by
 have HH := zz h
 have HK := zz hK
 have HN := zz hN
 have HF := zz hF
 clear h hK hN hF
 obtain ⟨Av, cv, bv, ov, rfl, hlv, hAv, hrv⟩ := HK.out.form
 have HAv := zz hAv
 have HRv := zz hrv
 clear hAv hrv
 unfold nv
 have HE := zz hE
 have HK67 := zz hk
 have HNN := zz hn
 have HL := zz hl
 have hl1 : 0 < t.ks.length := by omega
 clear hE hk hn hl
 obtain ⟨hA1, hbv, _⟩ := HAv.out hl1
 subst hA1
 have q1 : (t.f.n != 1) = true := by rw [HNN.out]; rfl
 have q2 : (t.f.n != 2) = false := by rw [HNN.out]; rfl
 have ql : ((t.ks.length : Int) != t.f.n + 1) = false := by rw [HNN.out, HL.out]; rfl
 have j0 : -9223372036854775808 <= t.f.n + 1 := by rw [HNN.out]; omega
 have j1 : t.f.n + 1 <= 9223372036854775807 := by rw [HNN.out]; omega
 have hmk : mrk t.f.k = false := by rcases HK67.out with h | h <;> rw [h] <;> rfl
 have HMK := zz hmk
 have HG := zz (let_gen2 HK67.out HNN.out HL.out)
 clear hmk
 go_enter Tryz.func129, Tryz.ntmps129
 go_wp2_with fail
 obtain ⟨w1, hw1, HB1, HX1, hs1⟩ := jb w t.f (.slice (some ⟨bv, ov, none⟩) t.ks.length cv)
 rw [hw1]
 clear hw1
 refine (rbare_is (f := t.f) (x := false) (y := false) (z := true) (r := emn t.f) (rbare_fft HMK.out) _).mono ?_
 rintro e w2 ⟨rfl, b⟩
 have hz2 := b.size
 have HB2 := zz (HB1.out.trans (b.mono (by omega)))
 have HX2 := zz (HX1.out.below b (by omega))
 clear b HB1 HX1 q1 q2 ql j0 j1
 cases c0 : emn t.f
 ·have E := zz (show false = b by rw [<- HH.out, HG.out, c0]; rfl)
  clear c0 HX2
  go_wp2
  go_ret
  exact ⟨zb E.out, HB2.out⟩
 have HC0 := zz c0
 clear c0
 go_wp2
 go_loopw [3, 4] (fun nm i wr => ∃ k : Nat, k <= 2 /\ i = .int .i64 k /\ nm = .bool ((t.ks.take k).any nb) /\ Below w2.heap.size w2 wr /\ (t.ks.take k).all okT = true) (fun _ i _ => 2 - (intOf i).toNat)
 case atStart => exact ⟨0, Nat.zero_le _, rfl, by rw [List.take_zero]; rfl, Below.refl _ _, by rw [List.take_zero]; rfl⟩
 case round =>
  obtain ⟨k, hk, rfl, rfl, hbw, hall⟩ := hrel
  have hsz := hbw.size
  have HBW := zz hbw
  have HALL := zz hall
  have HXR := zz (HX2.out.below hbw (by omega))
  have HBR := zz (HB2.out.trans (hbw.mono HB2.out.size))
  clear hbw hall
  have x0 := HXR.out.cell
  rw [HNN.out] at x0
  have hkl : k < t.ks.length := by have := HL.out; omega
  by_cases hkN : k < 2
  ·obtain ⟨vk, p0, p1, p2, p3, p4, p5, p6, p7, hk'⟩ := ((HRv.out.agree (Agree.of_below HBR.out HN.out) hbv).get k hkl).open
   have HK' := zz hk'
   have i0 : (0 : Int) <= (k : Int) := by omega
   have i1 : (k : Int) < (t.ks.length : Int) := by omega
   have qk : (k : Int) < 2 := by omega
   clear hk'
   go_wp2_with fail
   refine (rtarget_is (t := t.ks[k]) (b := okT t.ks[k]) (AllFs.get HF.out.ks _ (List.getElem_mem hkl)) HK'.out (fun i hi => by have := HN.out i hi; omega) rfl).mono ?_
   rintro e w4 ⟨rfl, b⟩
   have hz4 := b.size
   have HB4 := zz (HBW.out.trans (b.mono hsz))
   have HX4 := bx HXR b
   have HBR4 := bt2 HBR b
   clear b p0 p1 p2 p3 p4 p5 p6 p7 x0
   cases hp : okT t.ks[k]
   ·have E := zz (show false = b by rw [<- HH.out, HG.out, HC0.out, take_all_no hkl hkN hp]; rfl)
    clear hp
    go_wp2
    go_ret
    exact ⟨zb E.out, HBR4.out⟩
   have HP := zz hp
   have H1 := zz (show (t.ks.take (k + 1)).all okT = true by rw [all_succ hkl, HALL.out, hp]; rfl)
   have HAN := zz (any_succ (P := nb) hkl)
   clear hp
   have x0 := HX4.out.cell
   rw [HNN.out] at x0
   obtain ⟨vk', p0, p1, p2, p3, p4, p5, p6, p7, hk'⟩ := ((HRv.out.agree (Agree.of_below HBR4.out HN.out) hbv).get k hkl).open
   clear hk'
   have qb : (t.ks[k].f.t.toList != [95]) = nb t.ks[k] := by
    unfold nb
    rw [ByteArray.toList_eq, bne]
    by_cases c : t.ks[k].f.t.data.toList = [95]
    ·rw [decide_eq_true c, c]; rfl
    ·rw [decide_eq_false c, beq_false_of_ne c]
   have HNB := zz (show ∃ z, nb t.ks[k] = z from ⟨_, rfl⟩)
   obtain ⟨z, hz⟩ := HNB.out
   rw [hz] at qb
   rw [hz] at HAN
   clear HNB hz
   cases hany : (t.ks.take k).any nb
   ·have H2 := zz (show (t.ks.take (k + 1)).any nb = z by rw [HAN.out, hany]; rfl)
    clear hany
    go_wp2
    go_roundw
    case rel => exact ⟨k + 1, by omega, by go_num, by first | (rw [H2.out]; done) | (rw [H2.out]; exact congrArg Value.bool qb), HB4.out, H1.out⟩
    case measure => simp [intOf]; omega
   ·have H2 := zz (show (t.ks.take (k + 1)).any nb = true by rw [HAN.out, hany]; rfl)
    clear hany
    go_wp2
    go_roundw
    case rel => exact ⟨k + 1, by omega, by go_num, by first | (rw [H2.out]; done) | (rw [H2.out]; exact congrArg Value.bool qb), HB4.out, H1.out⟩
    case measure => simp [intOf]; omega
  ·obtain rfl : k = 2 := by omega
   have qk : ¬ ((2 : Nat) : Int) < 2 := by omega
   have hq := (HRv.out.agree (Agree.of_below HBR.out HN.out) hbv).get 2 (by have := HL.out; omega)
   have hq2 : NodeAt wr m S bv (ov + 16) (t.ks[2]'(by have := HL.out; omega)) := by simpa using hq
   obtain ⟨vk, p0, p1, p2, p3, p4, p5, p6, p7, hk'⟩ := hq2.open
   obtain ⟨Ap, cp, bp, op, rfl, _, _, _⟩ := hk'.form
   have HK' := zz hk'
   have i1 : (2 : Int) < (t.ks.length : Int) := by have := HL.out; omega
   clear hk' hq hq2
   go_wp2_with fail
   obtain ⟨w3, hw3, HB3', HY3, hs3⟩ := jb wr t.ks[2].f (.slice Ap t.ks[2].ks.length cp)
   rw [hw3]
   clear hw3
   have HB3 := zz (HBR.out.trans (HB3'.out.mono HBR.out.size))
   have HX3 := zz (HXR.out.below HB3'.out (by have := HBR.out.size; omega))
   have HKp3 := zz (HK'.out.below HB3'.out (fun i hi => by have := HN.out i hi; have := HBR.out.size; omega))
   refine (HE.out t.ks[2] (List.getElem_mem _) _ _ m S HKp3.out (fun i hi => by have := HN.out i hi; have := HBR.out.size; omega)).mono ?_
   rintro e w4 ⟨rfl, b⟩
   have hz4 := b.size
   have HB4 := bt2 HB3 b
   have HY4 := zz (HY3.out.below b (by omega))
   have HX4 := bx HX3 b
   clear b HB3 HB3' HX3 HY3 HKp3 x0 p0 p1 p2 p3 p4 p5 p6 p7
   have y0 := HY4.out.cell
   go_wp2_with fail
   refine (rRecv_b (f := t.ks[2].f) _).mono ?_
   rintro e w5 ⟨rfl, b⟩
   have hz5 := b.size
   have HB5 := bt2 HB4 b
   have HX5 := bx HX4 b
   clear b HB4 HX4 HY4 y0
   have x0 := HX5.out.cell
   rw [HNN.out] at x0
   cases c1 : okE t.ks[2]
   ·have E := zz (show false = b by rw [<- HH.out, HG.out, HC0.out, HALL.out, c1]; rfl)
    clear c1
    go_wp2
    go_ret
    exact ⟨zb E.out, HB5.out⟩
   have HC1 := zz c1
   clear c1
   cases c2 : kRecv t.ks[2].f
   ·have E := zz (show false = b by rw [<- HH.out, HG.out, HC0.out, HALL.out, HC1.out, c2]; rfl)
    clear c2
    go_wp2
    go_ret
    exact ⟨zb E.out, HB5.out⟩
   ·have HC2 := zz c2
    clear c2
    cases c3 : (t.ks.take 2).any nb
    ·have HC3 := zz c3
     clear c3
     by_cases k7 : t.f.k = 7
     ·have q7 := yk k7
      have E := zz (show true = b by rw [<- HH.out, HG.out, HC0.out, HALL.out, HC1.out, HC2.out, HC3.out, q7]; rfl)
      clear k7
      go_wp2
      go_ret
      exact ⟨zb E.out, HB5.out⟩
     ·have q7 := beq_false_of_ne k7
      have E := zz (show false = b by rw [<- HH.out, HG.out, HC0.out, HALL.out, HC1.out, HC2.out, HC3.out, q7]; rfl)
      clear k7
      go_wp2
      go_ret
      exact ⟨zb E.out, HB5.out⟩
    ·have E := zz (show true = b by rw [<- HH.out, HG.out, HC0.out, HALL.out, HC1.out, HC2.out, c3]; rfl)
     clear c3
     go_wp2
     go_ret
     exact ⟨zb E.out, HB5.out⟩
theorem rlets_is (hE : ∀ k ∈ t.ks, AskE k) (hk : t.f.k = 6 ∨ t.f.k = 7) (hF : AllF t) (hK : Kids w m S v t.ks) (hN : ∀ i, S i -> i < w.heap.size) (h : fitT t = b) :
 Calls Tryz.prog 129 #[nv t.f v] w fun e w' => e = .returned (.bool b) /\ Below w.heap.size w w' := by
 have HH := zz h
 have HK := zz hK
 have HN := zz hN
 have HF := zz hF
 clear h hK hN hF
 obtain ⟨Av, cv, bv, ov, rfl, hlv, hAv, hrv⟩ := HK.out.form
 have HAv := zz hAv
 have HRv := zz hrv
 clear hAv hrv
 unfold nv
 have HK67 := zz hk
 have HE := zz hE
 clear hk hE
 by_cases n1 : t.f.n = 1
 ·by_cases hl : t.ks.length = 2
  ·exact rlets_1 HE.out HK67.out n1 hl HF.out HK.out HN.out HH.out
  ·have q1 : (t.f.n != 1) = false := by rw [n1]; rfl
   have ql : ((t.ks.length : Int) != t.f.n + 1) = true := by rw [n1]; simp; omega
   have j0 : -9223372036854775808 <= t.f.n + 1 := by omega
   have j1 : t.f.n + 1 <= 9223372036854775807 := by omega
   have E := zz (show false = b by rw [<- HH.out, let_no HK67.out (by omega)])
   clear n1 hl
   go_enter Tryz.func129, Tryz.ntmps129
   go_wp2
   go_ret
   exact ⟨zb E.out, (box1 _ _).out⟩
 have q1 : (t.f.n != 1) = true := by simp [n1]
 by_cases n2 : t.f.n = 2
 ·by_cases hl : t.ks.length = 3
  ·exact rlets_2 HE.out HK67.out n2 hl HF.out HK.out HN.out HH.out
  ·have q2 : (t.f.n != 2) = false := by rw [n2]; rfl
   have ql : ((t.ks.length : Int) != t.f.n + 1) = true := by rw [n2]; simp; omega
   have j0 : -9223372036854775808 <= t.f.n + 1 := by omega
   have j1 : t.f.n + 1 <= 9223372036854775807 := by omega
   have E := zz (show false = b by rw [<- HH.out, let_no HK67.out (by omega)])
   clear n1 n2 hl
   go_enter Tryz.func129, Tryz.ntmps129
   go_wp2
   go_ret
   exact ⟨zb E.out, (box1 _ _).out⟩
 have q2 : (t.f.n != 2) = true := by simp [n2]
 have E := zz (show false = b by rw [<- HH.out, let_no HK67.out (by omega)])
 clear n1 n2
 go_enter Tryz.func129, Tryz.ntmps129
 go_wp2
 go_ret
 exact ⟨zb E.out, (box1 _ _).out⟩
theorem rsimple_6 (hE : ∀ k ∈ t.ks, AskE k) (hk : t.f.k = 6) (hF : AllF t) (hK : Kids w m S v t.ks) (hN : ∀ i, S i -> i < w.heap.size) (h : okM t = b) :
 Calls Tryz.prog 105 #[nv t.f v] w fun e w' => e = .returned (.bool b) /\ Below w.heap.size w w' := by
 have HH := zz h
 have HK := zz hK
 have HN := zz hN
 have HF := zz hF
 clear h hK hN hF
 obtain ⟨Av, cv, bv, ov, rfl, hlv, hAv, hrv⟩ := HK.out.form
 have HAv := zz hAv
 have HRv := zz hrv
 clear hAv hrv
 unfold nv
 have q6 := yk hk
 have q7 := nk 7 hk rfl
 have q8 := nk 8 hk rfl
 have q9 := nk 9 hk rfl
 have q10 := nk 10 hk rfl
 have HKK := zz hk
 have HE := zz hE
 clear hk hE
 go_enter Tryz.func105, Tryz.ntmps105
 go_wp2_with fail
 obtain ⟨w1, hw1, HB1, HX1, hs1⟩ := jb w t.f (.slice Av t.ks.length cv)
 rw [hw1]
 clear hw1
 refine (rlets_is (t := t) (b := fitT t) HE.out (Or.inl HKK.out) HF.out (HK.out.below HB1.out HN.out) (fun i hi => by have := HN.out i hi; have := HB1.out.size; omega) rfl).mono ?_
 rintro e w2 ⟨rfl, b⟩
 have hz2 := b.size
 have HB2 := bt2 HB1 b
 have HX2 := bx HX1 b
 clear b HB1 HX1
 have x0 := HX2.out.cell
 have E := zz (show fitT t = b by rw [<- HH.out, okM_yes (show kSimp t.f = true by unfold kSimp; rw [HKK.out]; rfl)])
 go_wp2
 go_ret
 exact ⟨zb E.out, HB2.out⟩
theorem rsimple_7 (hE : ∀ k ∈ t.ks, AskE k) (hk : t.f.k = 7) (hF : AllF t) (hK : Kids w m S v t.ks) (hN : ∀ i, S i -> i < w.heap.size) (h : okM t = b) :
 Calls Tryz.prog 105 #[nv t.f v] w fun e w' => e = .returned (.bool b) /\ Below w.heap.size w w' := by
 have HH := zz h
 have HK := zz hK
 have HN := zz hN
 have HF := zz hF
 clear h hK hN hF
 obtain ⟨Av, cv, bv, ov, rfl, hlv, hAv, hrv⟩ := HK.out.form
 have HAv := zz hAv
 have HRv := zz hrv
 clear hAv hrv
 unfold nv
 have q6 := nk 6 hk rfl
 have q7 := yk hk
 have q8 := nk 8 hk rfl
 have q9 := nk 9 hk rfl
 have q10 := nk 10 hk rfl
 have HKK := zz hk
 have HE := zz hE
 clear hk hE
 go_enter Tryz.func105, Tryz.ntmps105
 go_wp2_with fail
 obtain ⟨w1, hw1, HB1, HX1, hs1⟩ := jb w t.f (.slice Av t.ks.length cv)
 rw [hw1]
 clear hw1
 refine (rlets_is (t := t) (b := fitT t) HE.out (Or.inr HKK.out) HF.out (HK.out.below HB1.out HN.out) (fun i hi => by have := HN.out i hi; have := HB1.out.size; omega) rfl).mono ?_
 rintro e w2 ⟨rfl, b⟩
 have hz2 := b.size
 have HB2 := bt2 HB1 b
 have HX2 := bx HX1 b
 clear b HB1 HX1
 have x0 := HX2.out.cell
 have E := zz (show fitT t = b by rw [<- HH.out, okM_yes (show kSimp t.f = true by unfold kSimp; rw [HKK.out]; rfl)])
 go_wp2
 go_ret
 exact ⟨zb E.out, HB2.out⟩
theorem rsimple_no (h6 : ¬ t.f.k = 6) (h7 : ¬ t.f.k = 7) (h8 : ¬ t.f.k = 8) (h9 : ¬ t.f.k = 9) (h10 : ¬ t.f.k = 10) (hF : AllF t) (hK : Kids w m S v t.ks) (hN : ∀ i, S i -> i < w.heap.size) (h : okM t = b) :
 Calls Tryz.prog 105 #[nv t.f v] w fun e w' => e = .returned (.bool b) /\ Below w.heap.size w w' := by
 have HH := zz h
 have HK := zz hK
 have HN := zz hN
 have HF := zz hF
 clear h hK hN hF
 obtain ⟨Av, cv, bv, ov, rfl, hlv, hAv, hrv⟩ := HK.out.form
 have HAv := zz hAv
 have HRv := zz hrv
 clear hAv hrv
 unfold nv
 have q6 := beq_false_of_ne h6
 have q7 := beq_false_of_ne h7
 have q8 := beq_false_of_ne h8
 have q9 := beq_false_of_ne h9
 have q10 := beq_false_of_ne h10
 have HQ6 := zz h6
 have HQ7 := zz h7
 have HQ8 := zz h8
 have HQ9 := zz h9
 have HQ10 := zz h10
 clear h6 h7 h8 h9 h10
 go_enter Tryz.func105, Tryz.ntmps105
 have E := zz (show false = b by rw [<- HH.out, okM_no HQ6.out HQ7.out HQ8.out HQ9.out HQ10.out])
 go_wp2
 go_ret
 exact ⟨zb E.out, (box1 _ _).out⟩
theorem rsimple_is (hE : ∀ k ∈ t.ks, AskE k) (hF : AllF t) (hK : Kids w m S v t.ks) (hN : ∀ i, S i -> i < w.heap.size) (h : okM t = b) :
 Calls Tryz.prog 105 #[nv t.f v] w fun e w' => e = .returned (.bool b) /\ Below w.heap.size w w' := by
 by_cases h6 : t.f.k = 6
 ·exact rsimple_6 hE h6 hF hK hN h
 by_cases h7 : t.f.k = 7
 ·exact rsimple_7 hE h7 hF hK hN h
 by_cases h8 : t.f.k = 8
 ·exact rsimple_8 h8 hF hK hN h
 by_cases h9 : t.f.k = 9
 ·exact rsimple_9 hE h9 hF hK hN h
 by_cases h10 : t.f.k = 10
 ·exact rsimple_10 hE h10 hF hK hN h
 exact rsimple_no h6 h7 h8 h9 h10 hF hK hN h
end Go.Proofs.YtmdhjiammcpogaaGreatDoor
