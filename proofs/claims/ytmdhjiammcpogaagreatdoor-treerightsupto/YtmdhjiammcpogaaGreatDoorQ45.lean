import Derived.Test.YtmdhjiammcpogaaGreatDoorQ44
namespace Go.Proofs.YtmdhjiammcpogaaGreatDoor
set_option maxRecDepth 100000
set_option maxHeartbeats 16000000
open Go.RowKit
variable {S : Nat -> Prop} {b : Bool} {m : Md} {t : Tr} {v : Value} {w : World}
theorem rfunction_is (hB : ∀ k ∈ t.ks, AskB k) (hF : AllF t) (hK : Kids w m S v t.ks) (hN : ∀ i, S i -> i < w.heap.size) (h : okF t = b) :
 Calls Tryz.prog 24 #[nv t.f v] w fun e w' => e = .returned (.bool b) /\ Below w.heap.size w w' := by
 have HH := zz h
 have HK := zz hK
 have HN := zz hN
 have HF := zz hF
 clear h hK hN hF
 obtain ⟨Av, cv, bv, ov, rfl, hlv, hAv, hrv⟩ := HK.out.form
 have HAv := zz hAv
 have HRv := zz hrv
 clear hAv hrv
 unfold nv
 have HB0 := zz hB
 clear hB
 by_cases kk : t.f.k = 2
 rotate_left
 ·have q0 : (t.f.k != 2) = true := by simp [kk]
  have HKK := zz kk
  clear kk
  go_enter Tryz.func24, Tryz.ntmps24
  go_wp2_with fail
  obtain ⟨w1, hw1, HB1, HX1, hs1⟩ := jb w t.f (.slice Av t.ks.length cv)
  rw [hw1]
  clear hw1
  refine (proper_is (s := t.f.t) (r := kNamed t.f) HF.out.nf.tl name_blank _).mono ?_
  rintro e w2 ⟨rfl, b⟩
  have hz2 := b.size
  have HB2 := bt2 HB1 b
  have HX2 := bx HX1 b
  clear b HB1 HX1
  have x0 := HX2.out.cell
  have E := zz (show false = b by rw [<- HH.out, okF_no HKK.out])
  go_wp2
  go_ret
  exact ⟨zb E.out, HB2.out⟩
 have q0 : (t.f.k != 2) = false := by simp [kk]
 have HKK := zz kk
 clear kk
 by_cases hl0 : t.ks.length = 0
 ·have HL0 := zz hl0
  go_enter Tryz.func24, Tryz.ntmps24
  go_wp2_with fail
  obtain ⟨w1, hw1, HB1, HX1, hs1⟩ := jb w t.f (.slice Av 0 cv)
  rw [hw1]
  clear hw1
  refine (proper_is (s := t.f.t) (r := kNamed t.f) HF.out.nf.tl name_blank _).mono ?_
  rintro e w2 ⟨rfl, b⟩
  have hz2 := b.size
  have HB2 := bt2 HB1 b
  have HX2 := bx HX1 b
  clear b HB1 HX1
  have x0 := HX2.out.cell
  cases c0 : kNamed t.f
  ·have Hc0 := zz c0
   clear c0
   have E := zz (show false = b by rw [<- HH.out, okF_nil HKK.out HL0.out])
   go_wp2
   go_ret
   exact ⟨zb E.out, HB2.out⟩
  ·have Hc0 := zz c0
   clear c0
   have E := zz (show false = b by rw [<- HH.out, okF_nil HKK.out HL0.out])
   go_wp2
   go_ret
   exact ⟨zb E.out, HB2.out⟩
 obtain ⟨N, hN⟩ : ∃ N, t.ks.length = N + 1 := ⟨t.ks.length - 1, by omega⟩
 have HLN := zz hN
 have hl1 : 0 < t.ks.length := by omega
 clear hl0
 obtain ⟨hA1, hbv, _⟩ := HAv.out hl1
 subst hA1
 rw [hN] at hlv |-
 have i0 : (0 : Int) <= (N : Int) := by omega
 have i1 : (N : Int) < ((N + 1 : Nat) : Int) := by omega
 have ql : decide (((N + 1 : Nat) : Int) < 1) = false := decide_eq_false (by omega)
 have ql2 : decide ((N : Int) + 1 < 1) = false := decide_eq_false (by omega)
 clear hl1 hN
 have HG := zz (okF_2 HKK.out (snoc_at HLN.out))
 go_enter Tryz.func24, Tryz.ntmps24
 go_wp2_with fail
 obtain ⟨w1, hw1, HB1, HX1, hs1⟩ := jb w t.f (.slice (some ⟨bv, ov, none⟩) (N + 1) cv)
 rw [hw1]
 clear hw1
 refine (proper_is (s := t.f.t) (r := kNamed t.f) HF.out.nf.tl name_blank _).mono ?_
 rintro e w2 ⟨rfl, b⟩
 have hz2 := b.size
 have HB2 := bt2 HB1 b
 have HX2 := bx HX1 b
 clear b HB1 HX1
 have x0 := HX2.out.cell
 cases c0 : kNamed t.f
 ·have Hc0 := zz c0
  clear c0
  have E := zz (show false = b by rw [<- HH.out, HG.out, Hc0.out]; rfl)
  go_wp2
  go_ret
  exact ⟨zb E.out, HB2.out⟩
 ·have Hc0 := zz c0
  clear c0
  go_wp2_with fail
  refine (rbare_is (f := t.f) (x := true) (y := true) (z := false) (r := t.f.n == 0) (rbare_ttf _) _).mono ?_
  rintro e w3 ⟨rfl, b⟩
  have hz3 := b.size
  have HB3 := bt2 HB2 b
  have HX3 := bx HX2 b
  clear b HB2 HX2 x0
  have x0 := HX3.out.cell
  cases c1 : t.f.n == 0
  ·have Hc1 := zz c1
   clear c1
   have E := zz (show false = b by rw [<- HH.out, HG.out, Hc0.out, Hc1.out]; rfl)
   go_wp2
   go_ret
   exact ⟨zb E.out, HB3.out⟩
  ·have Hc1 := zz c1
   clear c1
   go_wp2_with fail
   refine (rright_b (s := t.f.y) HF.out.nf.yl _).mono ?_
   rintro e w4 ⟨rfl, b⟩
   have hz4 := b.size
   have HB4 := bt2 HB3 b
   have HX4 := bx HX3 b
   clear b HB3 HX3 x0
   have x0 := HX4.out.cell
   cases hy : dE t.f.y
   ·have qy := qE hy
    have HY0 := zz hy
    clear hy
    cases c2 : right t.f.y.data.toList
    ·have Hc2 := zz c2
     clear c2
     have E := zz (show false = b by have h9 := HY0.out; unfold dE at h9; rw [<- HH.out, HG.out, Hc0.out, Hc1.out, h9, Hc2.out]; rfl)
     go_wp2
     go_ret
     exact ⟨zb E.out, HB4.out⟩
    ·have Hc2 := zz c2
     clear c2
     have HY := zz (show (decide (t.f.y.data.toList = []) || right t.f.y.data.toList) = true by rw [Hc2.out, Bool.or_true])
     go_wp2
     clear x0
     go_loopw [6] (fun i wr => ∃ k : Nat, k <= N /\ i = .int .i64 k /\ Below w4.heap.size w4 wr /\ (t.ks.take k).all okP = true) (fun i _ => N - (intOf i).toNat)
     case atStart => exact ⟨0, Nat.zero_le _, rfl, Below.refl _ _, by rw [List.take_zero]; rfl⟩
     case round =>
      obtain ⟨k, hk, rfl, hbw, hall⟩ := hrel
      have hsz := hbw.size
      have HBW := zz hbw
      have HALL := zz hall
      have HXR := zz (HX4.out.below hbw (by have := HB4.out.size; omega))
      have HBR := zz (HB4.out.trans (hbw.mono HB4.out.size))
      have hzR := HBR.out.size
      clear hbw hall
      have x0 := HXR.out.cell
      have hkl : k < t.ks.length := by have := HLN.out; omega
      obtain ⟨vk, p0, p1, p2, p3, p4, p5, p6, p7, hk'⟩ := ((HRv.out.agree (Agree.of_below HBR.out HN.out) hbv).get k hkl).open
      have HK' := zz hk'
      have i2 : (0 : Int) <= (k : Int) := by omega
      have i3 : (k : Int) < ((N + 1 : Nat) : Int) := by omega
      clear hk'
      by_cases hkN : k < N
      ·obtain ⟨Ap, cp, bp, op, rfl, hlp, _, _⟩ := HK'.out.form
       have HFK := zz (AllFs.get HF.out.ks _ (List.getElem_mem hkl))
       have HNO := zz (fun h : okP t.ks[k] = false => show false = b by rw [<- HH.out, HG.out, Hc0.out, Hc1.out, HY.out, take_all_no hkl hkN h]; rfl)
       have HYES := zz (fun h : okP t.ks[k] = true => show (t.ks.take (k + 1)).all okP = true by rw [all_succ hkl, HALL.out, h]; rfl)
       have HPE := zz (okP_eq t.ks[k])
       go_wp2_with fail
       obtain ⟨w3, hw3, HB3', HY3, hs3⟩ := jb wr t.ks[k].f (.slice Ap t.ks[k].ks.length cp)
       rw [hw3]
       clear hw3 p0 p1 p2 p3 p4 p5 p6 p7 x0
       refine (proper_is (s := t.ks[k].f.t) (r := kNamed t.ks[k].f) HFK.out.nf.tl name_blank _).mono ?_
       rintro e w4 ⟨rfl, b⟩
       have hz4 := b.size
       have HB4 := zz (HB3'.out.trans (b.mono (by omega)))
       have HY4 := zz (HY3.out.below b (by omega))
       clear b HB3' HY3
       have y0 := HY4.out.cell
       go_wp2_with fail
       refine (rright_b (s := t.ks[k].f.y) HFK.out.nf.yl _).mono ?_
       rintro e w5 ⟨rfl, b⟩
       have hz5 := b.size
       have HB5 := zz (HB4.out.trans (b.mono (by omega)))
       have HY5 := zz (HY4.out.below b (by omega))
       clear b HB4 HY4 y0
       have y0 := HY5.out.cell
       have HB5' := zz (HBR.out.trans (HB5.out.mono (by omega)))
       by_cases k3 : t.ks[k].f.k = 3
       rotate_left
       ·have q3 : (t.ks[k].f.k != 3) = true := by simp [k3]
        have E := zz (HNO.out (by rw [HPE.out, beq_false_of_ne k3]; rfl))
        clear k3
        go_wp2
        go_ret
        exact ⟨zb E.out, HB5'.out⟩
       have q3 : (t.ks[k].f.k != 3) = false := by simp [k3]
       have HK3 := zz (show (t.ks[k].f.k == 3) = true by rw [k3]; rfl)
       clear k3
       cases d0 : kNamed t.ks[k].f
       ·have E := zz (HNO.out (by rw [HPE.out, HK3.out, d0]; rfl))
        clear d0
        go_wp2
        go_ret
        exact ⟨zb E.out, HB5'.out⟩
       have HD0 := zz d0
       clear d0
       cases d1 : right t.ks[k].f.y.data.toList
       ·have E := zz (HNO.out (by rw [HPE.out, HK3.out, HD0.out, d1]; rfl))
        clear d1
        go_wp2
        go_ret
        exact ⟨zb E.out, HB5'.out⟩
       have HD1 := zz d1
       clear d1
       by_cases hz : t.ks[k].ks.length = 0
       rotate_left
       ·have qz : 0 < t.ks[k].ks.length := by omega
        have E := zz (HNO.out (by rw [HPE.out, HK3.out, HD0.out, HD1.out, decide_eq_false hz]; rfl))
        clear hz
        go_wp2
        go_ret
        exact ⟨zb E.out, HB5'.out⟩
       have HZ := zz hz
       rw [hz] at y0
       clear hz
       go_wp2_with fail
       refine (rbare_is (f := t.ks[k].f) (x := true) (y := true) (z := false) (r := t.ks[k].f.n == 0) (rbare_ttf _) _).mono ?_
       rintro e w6 ⟨rfl, b⟩
       have HB6 := zz (HB5.out.trans (b.mono (by omega)))
       have HB6' := zz (HB5'.out.trans (b.mono (by omega)))
       clear b y0
       cases d2 : (t.ks[k].f.n == 0)
       ·have E := zz (HNO.out (by rw [HPE.out, HK3.out, HD0.out, HD1.out, decide_eq_true HZ.out, d2]; rfl))
        clear d2
        go_wp2
        go_ret
        exact ⟨zb E.out, HB6'.out⟩
       ·have H1 := zz (HYES.out (by rw [HPE.out, HK3.out, HD0.out, HD1.out, decide_eq_true HZ.out, d2]; rfl))
        have HBN := zz (HBW.out.trans (HB6.out.mono hsz))
        clear d2
        go_wp2
        go_roundw
        case rel => exact ⟨k + 1, by omega, by go_num, HBN.out, H1.out⟩
        case measure => simp [intOf]; omega
      ·obtain rfl : k = N := by omega
       go_wp2_with fail
       refine (HB0.out t.ks[k] (List.getElem_mem _) _ _ m S HK'.out (fun i hi => by have := HN.out i hi; omega)).mono ?_
       rintro e w4 ⟨rfl, b⟩
       have HB4 := zz (HBR.out.trans (b.mono (by omega)))
       clear b p0 p1 p2 p3 p4 p5 p6 p7 x0
       have E := zz (show okB t.ks[k] = b by rw [<- HH.out, HG.out, Hc0.out, Hc1.out, HY.out, HALL.out]; rfl)
       go_wp2
       go_ret
       exact ⟨zb E.out, HB4.out⟩
   ·have qy := qE hy
    have HY0 := zz hy
    clear hy
    have HY := zz (show (decide (t.f.y.data.toList = []) || right t.f.y.data.toList) = true by have h9 := HY0.out; unfold dE at h9; rw [h9]; rfl)
    go_wp2
    clear x0
    go_loopw [6] (fun i wr => ∃ k : Nat, k <= N /\ i = .int .i64 k /\ Below w4.heap.size w4 wr /\ (t.ks.take k).all okP = true) (fun i _ => N - (intOf i).toNat)
    case atStart => exact ⟨0, Nat.zero_le _, rfl, Below.refl _ _, by rw [List.take_zero]; rfl⟩
    case round =>
     obtain ⟨k, hk, rfl, hbw, hall⟩ := hrel
     have hsz := hbw.size
     have HBW := zz hbw
     have HALL := zz hall
     have HXR := zz (HX4.out.below hbw (by have := HB4.out.size; omega))
     have HBR := zz (HB4.out.trans (hbw.mono HB4.out.size))
     have hzR := HBR.out.size
     clear hbw hall
     have x0 := HXR.out.cell
     have hkl : k < t.ks.length := by have := HLN.out; omega
     obtain ⟨vk, p0, p1, p2, p3, p4, p5, p6, p7, hk'⟩ := ((HRv.out.agree (Agree.of_below HBR.out HN.out) hbv).get k hkl).open
     have HK' := zz hk'
     have i2 : (0 : Int) <= (k : Int) := by omega
     have i3 : (k : Int) < ((N + 1 : Nat) : Int) := by omega
     clear hk'
     by_cases hkN : k < N
     ·obtain ⟨Ap, cp, bp, op, rfl, hlp, _, _⟩ := HK'.out.form
      have HFK := zz (AllFs.get HF.out.ks _ (List.getElem_mem hkl))
      have HNO := zz (fun h : okP t.ks[k] = false => show false = b by rw [<- HH.out, HG.out, Hc0.out, Hc1.out, HY.out, take_all_no hkl hkN h]; rfl)
      have HYES := zz (fun h : okP t.ks[k] = true => show (t.ks.take (k + 1)).all okP = true by rw [all_succ hkl, HALL.out, h]; rfl)
      have HPE := zz (okP_eq t.ks[k])
      go_wp2_with fail
      obtain ⟨w3, hw3, HB3', HY3, hs3⟩ := jb wr t.ks[k].f (.slice Ap t.ks[k].ks.length cp)
      rw [hw3]
      clear hw3 p0 p1 p2 p3 p4 p5 p6 p7 x0
      refine (proper_is (s := t.ks[k].f.t) (r := kNamed t.ks[k].f) HFK.out.nf.tl name_blank _).mono ?_
      rintro e w4 ⟨rfl, b⟩
      have hz4 := b.size
      have HB4 := zz (HB3'.out.trans (b.mono (by omega)))
      have HY4 := zz (HY3.out.below b (by omega))
      clear b HB3' HY3
      have y0 := HY4.out.cell
      go_wp2_with fail
      refine (rright_b (s := t.ks[k].f.y) HFK.out.nf.yl _).mono ?_
      rintro e w5 ⟨rfl, b⟩
      have hz5 := b.size
      have HB5 := zz (HB4.out.trans (b.mono (by omega)))
      have HY5 := zz (HY4.out.below b (by omega))
      clear b HB4 HY4 y0
      have y0 := HY5.out.cell
      have HB5' := zz (HBR.out.trans (HB5.out.mono (by omega)))
      by_cases k3 : t.ks[k].f.k = 3
      rotate_left
      ·have q3 : (t.ks[k].f.k != 3) = true := by simp [k3]
       have E := zz (HNO.out (by rw [HPE.out, beq_false_of_ne k3]; rfl))
       clear k3
       go_wp2
       go_ret
       exact ⟨zb E.out, HB5'.out⟩
      have q3 : (t.ks[k].f.k != 3) = false := by simp [k3]
      have HK3 := zz (show (t.ks[k].f.k == 3) = true by rw [k3]; rfl)
      clear k3
      cases d0 : kNamed t.ks[k].f
      ·have E := zz (HNO.out (by rw [HPE.out, HK3.out, d0]; rfl))
       clear d0
       go_wp2
       go_ret
       exact ⟨zb E.out, HB5'.out⟩
      have HD0 := zz d0
      clear d0
      cases d1 : right t.ks[k].f.y.data.toList
      ·have E := zz (HNO.out (by rw [HPE.out, HK3.out, HD0.out, d1]; rfl))
       clear d1
       go_wp2
       go_ret
       exact ⟨zb E.out, HB5'.out⟩
      have HD1 := zz d1
      clear d1
      by_cases hz : t.ks[k].ks.length = 0
      rotate_left
      ·have qz : 0 < t.ks[k].ks.length := by omega
       have E := zz (HNO.out (by rw [HPE.out, HK3.out, HD0.out, HD1.out, decide_eq_false hz]; rfl))
       clear hz
       go_wp2
       go_ret
       exact ⟨zb E.out, HB5'.out⟩
      have HZ := zz hz
      rw [hz] at y0
      clear hz
      go_wp2_with fail
      refine (rbare_is (f := t.ks[k].f) (x := true) (y := true) (z := false) (r := t.ks[k].f.n == 0) (rbare_ttf _) _).mono ?_
      rintro e w6 ⟨rfl, b⟩
      have HB6 := zz (HB5.out.trans (b.mono (by omega)))
      have HB6' := zz (HB5'.out.trans (b.mono (by omega)))
      clear b y0
      cases d2 : (t.ks[k].f.n == 0)
      ·have E := zz (HNO.out (by rw [HPE.out, HK3.out, HD0.out, HD1.out, decide_eq_true HZ.out, d2]; rfl))
       clear d2
       go_wp2
       go_ret
       exact ⟨zb E.out, HB6'.out⟩
      ·have H1 := zz (HYES.out (by rw [HPE.out, HK3.out, HD0.out, HD1.out, decide_eq_true HZ.out, d2]; rfl))
       have HBN := zz (HBW.out.trans (HB6.out.mono hsz))
       clear d2
       go_wp2
       go_roundw
       case rel => exact ⟨k + 1, by omega, by go_num, HBN.out, H1.out⟩
       case measure => simp [intOf]; omega
     ·obtain rfl : k = N := by omega
      go_wp2_with fail
      refine (HB0.out t.ks[k] (List.getElem_mem _) _ _ m S HK'.out (fun i hi => by have := HN.out i hi; omega)).mono ?_
      rintro e w4 ⟨rfl, b⟩
      have HB4 := zz (HBR.out.trans (b.mono (by omega)))
      clear b p0 p1 p2 p3 p4 p5 p6 p7 x0
      have E := zz (show okB t.ks[k] = b by rw [<- HH.out, HG.out, Hc0.out, Hc1.out, HY.out, HALL.out]; rfl)
      go_wp2
      go_ret
      exact ⟨zb E.out, HB4.out⟩
end Go.Proofs.YtmdhjiammcpogaaGreatDoor
