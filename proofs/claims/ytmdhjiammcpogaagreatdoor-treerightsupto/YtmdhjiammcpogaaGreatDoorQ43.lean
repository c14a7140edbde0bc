import Derived.Test.YtmdhjiammcpogaaGreatDoorQ42
namespace Go.Proofs.YtmdhjiammcpogaaGreatDoor
set_option maxRecDepth 100000
set_option maxHeartbeats 16000000
open Go.RowKit
variable {N c : Nat} {S : Nat -> Prop} {b : Bool} {m : Md} {t : Tr} {ts : List Tr} {v : Value} {w : World}
def AskC (kd : Int) (t : Tr) : Prop := ∀ (w : World) (v : Value) (m : Md) (S : Nat -> Prop), Kids w m S v t.ks -> (∀ i, S i -> i < w.heap.size) ->
 Calls Tryz.prog 127 #[nv t.f v, .int .i64 kd] w fun e w' => e = .returned (.bool (okC kd t)) /\ Below w.heap.size w w'
theorem snoc_at {l : List Tr} (h : l.length = N + 1) : l = l.take N ++ [l[N]'(by omega)] := by
 have h1 := List.take_succ_eq_append_getElem (l := l) (i := N) (by omega)
 rw [<- h1, List.take_of_length_le (by omega)]
theorem take_len {l : List Tr} (h : l.length = N + 1) : (l.take N).length = N := by rw [List.length_take]; omega
theorem okC_no {kd : Int} (h : ¬ t.f.k = kd) : okC kd t = false := by rw [okC, beq_false_of_ne h]; rfl
theorem okC_yes {kd : Int} (h : t.f.k = kd) : okC kd t = fitT t := by rw [okC, h]; simp
theorem comm_pos {s : Tr} (h : okM s = true) (h9 : ¬ s.f.k = 9) (h8 : ¬ s.f.k = 8) : 0 < s.ks.length := by
 rw [okM, Bool.and_eq_true] at h
 obtain ⟨h1, h2⟩ := h
 unfold kSimp at h1
 rw [beq_false_of_ne h9, beq_false_of_ne h8] at h1
 simp only [Bool.or_eq_true, beq_iff_eq, Bool.or_false] at h1
 rcases Nat.lt_or_ge 0 s.ks.length with h | h
 ·exact h
 ·rcases h1 with h1 | h1
  ·rw [let_no h1 (by omega)] at h2
   cases h2
  ·rw [fit_10 h1, decide_eq_false (by omega)] at h2
   cases h2
theorem lastRecv_at {l : List Tr} {M : Nat} (h : l.length = M + 1) (h' : M < l.length) : lastRecv l = kRecv l[M].f := by
 unfold lastRecv
 rw [show l.length - 1 = M by omega, List.getElem?_eq_getElem h']
theorem lstR_take {b o : Nat} (hl : ts.length = N + 1) (hn : ts.length <= 9223372036854775807) (hb : S b) (hr : RowAt w m S b o ts) : LstR w m S (.slice (some ⟨b, o, none⟩) N c) (ts.take N) := by
 refine ⟨_, c, b, o, by rw [take_len hl], by rw [take_len hl]; omega, fun _ => ⟨rfl, hb⟩, RowAt.mk fun i hi => ?_⟩
 rw [List.getElem_take]
 exact hr.get i (by rw [take_len hl] at hi; omega)
theorem rclause_14 (hE : ∀ k ∈ t.ks, AskE k) (hB : ∀ k ∈ t.ks, AskB k) (hF : AllF t) (hK : Kids w m S v t.ks) (hN : ∀ i, S i -> i < w.heap.size) (h : okC 14 t = b) :
 Calls Tryz.prog 127 #[nv t.f v, .int .i64 14] w fun e w' => e = .returned (.bool b) /\ Below w.heap.size w w' := by
 have HH := zz h
 have HK := zz hK
 have HN := zz hN
 have HF := zz hF
 clear h hK hN hF
 obtain ⟨Av, cv, bv, ov, rfl, hlv, hAv, hrv⟩ := HK.out.form
 have HAv := zz hAv
 have HRv := zz hrv
 clear hAv hrv
 unfold nv
 have HE := zz hE
 have HBk := zz hB
 clear hE hB
 by_cases kk : t.f.k = 14
 rotate_left
 ·have q0 : (t.f.k != 14) = true := by simp [kk]
  have HKK := zz kk
  clear kk
  go_enter Tryz.func127, Tryz.ntmps127
  have E := zz (show false = b by rw [<- HH.out, okC_no HKK.out])
  go_wp2
  go_ret
  exact ⟨zb E.out, (box1 _ _).out⟩
 have q0 : (t.f.k != 14) = false := by simp [kk]
 have HKK := zz kk
 clear kk
 by_cases n01 : t.f.n = 0 ∨ t.f.n = 1
 rotate_left
 ·have qn0 : (t.f.n != 0) = true := by simp; omega
  have qn1 : (t.f.n != 1) = true := by simp; omega
  have HN01 := zz n01
  clear n01
  go_enter Tryz.func127, Tryz.ntmps127
  have E := zz (show false = b by rw [<- HH.out, okC_yes HKK.out, clause_num (Or.inl HKK.out) (fun h => HN01.out (Or.inl h)) (fun h => HN01.out (Or.inr h))])
  go_wp2
  go_ret
  exact ⟨zb E.out, (box1 _ _).out⟩
 have HN01 := zz n01
 clear n01
 by_cases n1 : t.f.n = 1
 ·have qn0 : (t.f.n != 0) = true := by rw [n1]; rfl
  have qn1 : (t.f.n != 1) = false := by rw [n1]; rfl
  have qe1 := yk n1
  have HNN := zz n1
  clear n1
  by_cases hl0 : t.ks.length = 0
  ·have HL0 := zz hl0
   go_enter Tryz.func127, Tryz.ntmps127
   go_wp2_with fail
   obtain ⟨w1, hw1, HB1, HX1, hs1⟩ := jb w t.f (.slice Av 0 cv)
   rw [hw1]
   clear hw1
   refine (rbare_is (f := t.f) (x := false) (y := false) (z := true) (r := emn t.f) (rbare_fft (show mrk t.f.k = false by rw [HKK.out]; rfl)) _).mono ?_
   rintro e w2 ⟨rfl, b⟩
   have hz2 := b.size
   have HB2 := bt2 HB1 b
   have HX2 := bx HX1 b
   clear b HB1 HX1
   have x0 := HX2.out.cell
   cases c0 : emn t.f
   ·have Hc0 := zz c0
    clear c0
    have E := zz (show false = b by rw [<- HH.out, okC_yes HKK.out, clause_none (Or.inl HKK.out) HN01.out HL0.out])
    go_wp2
    go_ret
    exact ⟨zb E.out, HB2.out⟩
   ·have Hc0 := zz c0
    clear c0
    have E := zz (show false = b by rw [<- HH.out, okC_yes HKK.out, clause_none (Or.inl HKK.out) HN01.out HL0.out])
    go_wp2
    go_ret
    exact ⟨zb E.out, HB2.out⟩
  obtain ⟨N, hN⟩ : ∃ N, t.ks.length = N + 1 := ⟨t.ks.length - 1, by omega⟩
  have HLN := zz hN
  have hl1 : 0 < t.ks.length := by omega
  clear hl0
  obtain ⟨hA1, hbv, _⟩ := HAv.out hl1
  subst hA1
  have HCAP := zz (show N + 1 <= cv by obtain ⟨A', c', b', o', e1, _, h2, _⟩ := HK.out.lstA; injection e1 with _ _ e3; omega)
  rw [hN] at hlv |-
  have i0 : (0 : Int) <= (N : Int) := by omega
  have i1 : (N : Int) < ((N + 1 : Nat) : Int) := by omega
  have i2 : (N : Int) <= (cv : Int) := by have := HCAP.out; omega
  have ql : decide (((N + 1 : Nat) : Int) < 1) = false := decide_eq_false (by omega)
  clear hl1 hN
  go_enter Tryz.func127, Tryz.ntmps127
  go_wp2_with fail
  obtain ⟨w1, hw1, HB1, HX1, hs1⟩ := jb w t.f (.slice (some ⟨bv, ov, none⟩) (N + 1) cv)
  rw [hw1]
  clear hw1
  refine (rbare_is (f := t.f) (x := false) (y := false) (z := true) (r := emn t.f) (rbare_fft (show mrk t.f.k = false by rw [HKK.out]; rfl)) _).mono ?_
  rintro e w2 ⟨rfl, b⟩
  have hz2 := b.size
  have HB2 := bt2 HB1 b
  have HX2 := bx HX1 b
  clear b HB1 HX1
  have x0 := HX2.out.cell
  cases c0 : emn t.f
  ·have Hc0 := zz c0
   clear c0
   have E := zz (show false = b by rw [<- HH.out, okC_yes HKK.out, fitT_eq, clause_fit (Or.inl HKK.out), Hc0.out]; rfl)
   go_wp2
   go_ret
   exact ⟨zb E.out, HB2.out⟩
  ·have Hc0 := zz c0
   clear c0
   obtain ⟨vp, p0, p1, p2, p3, p4, p5, p6, p7, hkp⟩ := ((HRv.out.agree (Agree.of_below HB2.out HN.out) hbv).get N (by have := HLN.out; omega)).open
   have HKp := zz hkp
   clear hkp
   go_wp2_with fail
   refine (HBk.out (t.ks[N]'(by have := HLN.out; omega)) (List.getElem_mem _) _ _ m S HKp.out (fun i hi => by have := HN.out i hi; have := HB2.out.size; omega)).mono ?_
   rintro e w3 ⟨rfl, b⟩
   have hz3 := b.size
   have HB3 := bt2 HB2 b
   have HX3 := bx HX2 b
   clear b HB2 HX2 x0 p0 p1 p2 p3 p4 p5 p6 p7
   have x0 := HX3.out.cell
   cases c1 : okB (t.ks[N]'(by have := HLN.out; omega))
   ·have Hc1 := zz c1
    clear c1
    have E := zz (show false = b by rw [<- HH.out, okC_yes HKK.out, clause_def (Or.inl HKK.out) HNN.out (snoc_at HLN.out), Hc0.out, Hc1.out]; rfl)
    go_wp2
    go_ret
    exact ⟨zb E.out, HB3.out⟩
   ·have Hc1 := zz c1
    clear c1
    by_cases hz : N = 0
    ·have qz : ((N : Int) == 0) = true := by rw [hz]; rfl
     have HZ := zz hz
     clear hz
     have E := zz (show true = b by rw [<- HH.out, okC_yes HKK.out, clause_def (Or.inl HKK.out) HNN.out (snoc_at HLN.out), Hc0.out, Hc1.out, decide_eq_true (show (t.ks.take N).length = 0 by rw [take_len HLN.out]; exact HZ.out)]; rfl)
     go_wp2
     go_ret
     exact ⟨zb E.out, HB3.out⟩
    ·have qz : ((N : Int) == 0) = false := beq_false_of_ne (by omega)
     have HZ := zz hz
     clear hz
     have E := zz (show false = b by rw [<- HH.out, okC_yes HKK.out, clause_def (Or.inl HKK.out) HNN.out (snoc_at HLN.out), Hc0.out, Hc1.out, decide_eq_false (show ¬ (t.ks.take N).length = 0 by rw [take_len HLN.out]; exact HZ.out)]; rfl)
     go_wp2
     go_ret
     exact ⟨zb E.out, HB3.out⟩
 ·have n0 : t.f.n = 0 := by have := HN01.out; omega
  have qn0 : (t.f.n != 0) = false := by rw [n0]; rfl
  have qe1 := nk 1 n0 rfl
  have HNN := zz n0
  clear n1 n0
  by_cases hl0 : t.ks.length = 0
  ·have HL0 := zz hl0
   go_enter Tryz.func127, Tryz.ntmps127
   go_wp2_with fail
   obtain ⟨w1, hw1, HB1, HX1, hs1⟩ := jb w t.f (.slice Av 0 cv)
   rw [hw1]
   clear hw1
   refine (rbare_is (f := t.f) (x := false) (y := false) (z := true) (r := emn t.f) (rbare_fft (show mrk t.f.k = false by rw [HKK.out]; rfl)) _).mono ?_
   rintro e w2 ⟨rfl, b⟩
   have hz2 := b.size
   have HB2 := bt2 HB1 b
   have HX2 := bx HX1 b
   clear b HB1 HX1
   have x0 := HX2.out.cell
   cases c0 : emn t.f
   ·have Hc0 := zz c0
    clear c0
    have E := zz (show false = b by rw [<- HH.out, okC_yes HKK.out, clause_none (Or.inl HKK.out) HN01.out HL0.out])
    go_wp2
    go_ret
    exact ⟨zb E.out, HB2.out⟩
   ·have Hc0 := zz c0
    clear c0
    have E := zz (show false = b by rw [<- HH.out, okC_yes HKK.out, clause_none (Or.inl HKK.out) HN01.out HL0.out])
    go_wp2
    go_ret
    exact ⟨zb E.out, HB2.out⟩
  obtain ⟨N, hN⟩ : ∃ N, t.ks.length = N + 1 := ⟨t.ks.length - 1, by omega⟩
  have HLN := zz hN
  have hl1 : 0 < t.ks.length := by omega
  clear hl0
  obtain ⟨hA1, hbv, _⟩ := HAv.out hl1
  subst hA1
  have HCAP := zz (show N + 1 <= cv by obtain ⟨A', c', b', o', e1, _, h2, _⟩ := HK.out.lstA; injection e1 with _ _ e3; omega)
  rw [hN] at hlv |-
  have i0 : (0 : Int) <= (N : Int) := by omega
  have i1 : (N : Int) < ((N + 1 : Nat) : Int) := by omega
  have i2 : (N : Int) <= (cv : Int) := by have := HCAP.out; omega
  have ql : decide (((N + 1 : Nat) : Int) < 1) = false := decide_eq_false (by omega)
  clear hl1 hN
  go_enter Tryz.func127, Tryz.ntmps127
  go_wp2_with fail
  obtain ⟨w1, hw1, HB1, HX1, hs1⟩ := jb w t.f (.slice (some ⟨bv, ov, none⟩) (N + 1) cv)
  rw [hw1]
  clear hw1
  refine (rbare_is (f := t.f) (x := false) (y := false) (z := true) (r := emn t.f) (rbare_fft (show mrk t.f.k = false by rw [HKK.out]; rfl)) _).mono ?_
  rintro e w2 ⟨rfl, b⟩
  have hz2 := b.size
  have HB2 := bt2 HB1 b
  have HX2 := bx HX1 b
  clear b HB1 HX1
  have x0 := HX2.out.cell
  cases c0 : emn t.f
  ·have Hc0 := zz c0
   clear c0
   have E := zz (show false = b by rw [<- HH.out, okC_yes HKK.out, fitT_eq, clause_fit (Or.inl HKK.out), Hc0.out]; rfl)
   go_wp2
   go_ret
   exact ⟨zb E.out, HB2.out⟩
  ·have Hc0 := zz c0
   clear c0
   obtain ⟨vp, p0, p1, p2, p3, p4, p5, p6, p7, hkp⟩ := ((HRv.out.agree (Agree.of_below HB2.out HN.out) hbv).get N (by have := HLN.out; omega)).open
   have HKp := zz hkp
   clear hkp
   go_wp2_with fail
   refine (HBk.out (t.ks[N]'(by have := HLN.out; omega)) (List.getElem_mem _) _ _ m S HKp.out (fun i hi => by have := HN.out i hi; have := HB2.out.size; omega)).mono ?_
   rintro e w3 ⟨rfl, b⟩
   have hz3 := b.size
   have HB3 := bt2 HB2 b
   have HX3 := bx HX2 b
   clear b HB2 HX2 x0 p0 p1 p2 p3 p4 p5 p6 p7
   have x0 := HX3.out.cell
   cases c1 : okB (t.ks[N]'(by have := HLN.out; omega))
   ·have Hc1 := zz c1
    clear c1
    have E := zz (show false = b by rw [<- HH.out, okC_yes HKK.out, clause_case HKK.out HNN.out (snoc_at HLN.out), Hc0.out, Hc1.out]; rfl)
    go_wp2
    go_ret
    exact ⟨zb E.out, HB3.out⟩
   ·have Hc1 := zz c1
    clear c1
    go_wp2_with fail
    refine (exprs_is (x := false) (b := (t.ks.take N).all okE) (fun k hk => HE.out k (List.mem_of_mem_take hk)) (lstR_take HLN.out (by have := HLN.out; omega) hbv (HRv.out.agree (Agree.of_below HB3.out HN.out) hbv)) (fun i hi => by have := HN.out i hi; have := HB3.out.size; omega) (allX_false _)).mono ?_
    rintro e w4 ⟨rfl, b⟩
    have hz4 := b.size
    have HB4 := bt2 HB3 b
    have HX4 := bx HX3 b
    clear b HB3 HX3 x0
    have x0 := HX4.out.cell
    cases c2 : (t.ks.take N).all okE
    ·have Hc2 := zz c2
     clear c2
     have E := zz (show false = b by rw [<- HH.out, okC_yes HKK.out, clause_case HKK.out HNN.out (snoc_at HLN.out), Hc0.out, Hc1.out, Hc2.out]; rfl)
     go_wp2
     go_ret
     exact ⟨zb E.out, HB4.out⟩
    ·have Hc2 := zz c2
     clear c2
     by_cases hz : 1 <= N
     ·have qz : decide (1 <= (N : Int)) = true := decide_eq_true (by omega)
      have HZ := zz hz
      clear hz
      have E := zz (show true = b by rw [<- HH.out, okC_yes HKK.out, clause_case HKK.out HNN.out (snoc_at HLN.out), Hc0.out, Hc1.out, Hc2.out, decide_eq_true (show 1 <= (t.ks.take N).length by rw [take_len HLN.out]; exact HZ.out)]; rfl)
      go_wp2
      go_ret
      exact ⟨zb E.out, HB4.out⟩
     ·have qz : decide (1 <= (N : Int)) = false := decide_eq_false (by omega)
      have HZ := zz hz
      clear hz
      have E := zz (show false = b by rw [<- HH.out, okC_yes HKK.out, clause_case HKK.out HNN.out (snoc_at HLN.out), Hc0.out, Hc1.out, Hc2.out, decide_eq_false (show ¬ 1 <= (t.ks.take N).length by rw [take_len HLN.out]; exact HZ.out)]; rfl)
      go_wp2
      go_ret
      exact ⟨zb E.out, HB4.out⟩
theorem rclause_16 (hE : ∀ s ∈ t.ks, ∀ k ∈ s.ks, AskE k) (hB : ∀ k ∈ t.ks, AskB k) (hF : AllF t) (hK : Kids w m S v t.ks) (hN : ∀ i, S i -> i < w.heap.size) (h : okC 16 t = b) :
 Calls Tryz.prog 127 #[nv t.f v, .int .i64 16] w fun e w' => e = .returned (.bool b) /\ Below w.heap.size w w' := by
 have HH := zz h
 have HK := zz hK
 have HN := zz hN
 have HF := zz hF
 clear h hK hN hF
 obtain ⟨Av, cv, bv, ov, rfl, hlv, hAv, hrv⟩ := HK.out.form
 have HAv := zz hAv
 have HRv := zz hrv
 clear hAv hrv
 unfold nv
 have HE := zz hE
 have HBk := zz hB
 clear hE hB
 by_cases kk : t.f.k = 16
 rotate_left
 ·have q0 : (t.f.k != 16) = true := by simp [kk]
  have HKK := zz kk
  clear kk
  go_enter Tryz.func127, Tryz.ntmps127
  have E := zz (show false = b by rw [<- HH.out, okC_no HKK.out])
  go_wp2
  go_ret
  exact ⟨zb E.out, (box1 _ _).out⟩
 have q0 : (t.f.k != 16) = false := by simp [kk]
 have HKK := zz kk
 clear kk
 by_cases n01 : t.f.n = 0 ∨ t.f.n = 1
 rotate_left
 ·have qn0 : (t.f.n != 0) = true := by simp; omega
  have qn1 : (t.f.n != 1) = true := by simp; omega
  have HN01 := zz n01
  clear n01
  go_enter Tryz.func127, Tryz.ntmps127
  have E := zz (show false = b by rw [<- HH.out, okC_yes HKK.out, clause_num (Or.inr HKK.out) (fun h => HN01.out (Or.inl h)) (fun h => HN01.out (Or.inr h))])
  go_wp2
  go_ret
  exact ⟨zb E.out, (box1 _ _).out⟩
 have HN01 := zz n01
 clear n01
 by_cases n1 : t.f.n = 1
 ·have qn0 : (t.f.n != 0) = true := by rw [n1]; rfl
  have qn1 : (t.f.n != 1) = false := by rw [n1]; rfl
  have qe1 := yk n1
  have HNN := zz n1
  clear n1
  by_cases hl0 : t.ks.length = 0
  ·have HL0 := zz hl0
   go_enter Tryz.func127, Tryz.ntmps127
   go_wp2_with fail
   obtain ⟨w1, hw1, HB1, HX1, hs1⟩ := jb w t.f (.slice Av 0 cv)
   rw [hw1]
   clear hw1
   refine (rbare_is (f := t.f) (x := false) (y := false) (z := true) (r := emn t.f) (rbare_fft (show mrk t.f.k = false by rw [HKK.out]; rfl)) _).mono ?_
   rintro e w2 ⟨rfl, b⟩
   have hz2 := b.size
   have HB2 := bt2 HB1 b
   have HX2 := bx HX1 b
   clear b HB1 HX1
   have x0 := HX2.out.cell
   cases c0 : emn t.f
   ·have Hc0 := zz c0
    clear c0
    have E := zz (show false = b by rw [<- HH.out, okC_yes HKK.out, clause_none (Or.inr HKK.out) HN01.out HL0.out])
    go_wp2
    go_ret
    exact ⟨zb E.out, HB2.out⟩
   ·have Hc0 := zz c0
    clear c0
    have E := zz (show false = b by rw [<- HH.out, okC_yes HKK.out, clause_none (Or.inr HKK.out) HN01.out HL0.out])
    go_wp2
    go_ret
    exact ⟨zb E.out, HB2.out⟩
  obtain ⟨N, hN⟩ : ∃ N, t.ks.length = N + 1 := ⟨t.ks.length - 1, by omega⟩
  have HLN := zz hN
  have hl1 : 0 < t.ks.length := by omega
  clear hl0
  obtain ⟨hA1, hbv, _⟩ := HAv.out hl1
  subst hA1
  have HCAP := zz (show N + 1 <= cv by obtain ⟨A', c', b', o', e1, _, h2, _⟩ := HK.out.lstA; injection e1 with _ _ e3; omega)
  rw [hN] at hlv |-
  have i0 : (0 : Int) <= (N : Int) := by omega
  have i1 : (N : Int) < ((N + 1 : Nat) : Int) := by omega
  have i2 : (N : Int) <= (cv : Int) := by have := HCAP.out; omega
  have ql : decide (((N + 1 : Nat) : Int) < 1) = false := decide_eq_false (by omega)
  clear hl1 hN
  go_enter Tryz.func127, Tryz.ntmps127
  go_wp2_with fail
  obtain ⟨w1, hw1, HB1, HX1, hs1⟩ := jb w t.f (.slice (some ⟨bv, ov, none⟩) (N + 1) cv)
  rw [hw1]
  clear hw1
  refine (rbare_is (f := t.f) (x := false) (y := false) (z := true) (r := emn t.f) (rbare_fft (show mrk t.f.k = false by rw [HKK.out]; rfl)) _).mono ?_
  rintro e w2 ⟨rfl, b⟩
  have hz2 := b.size
  have HB2 := bt2 HB1 b
  have HX2 := bx HX1 b
  clear b HB1 HX1
  have x0 := HX2.out.cell
  cases c0 : emn t.f
  ·have Hc0 := zz c0
   clear c0
   have E := zz (show false = b by rw [<- HH.out, okC_yes HKK.out, fitT_eq, clause_fit (Or.inr HKK.out), Hc0.out]; rfl)
   go_wp2
   go_ret
   exact ⟨zb E.out, HB2.out⟩
  ·have Hc0 := zz c0
   clear c0
   obtain ⟨vp, p0, p1, p2, p3, p4, p5, p6, p7, hkp⟩ := ((HRv.out.agree (Agree.of_below HB2.out HN.out) hbv).get N (by have := HLN.out; omega)).open
   have HKp := zz hkp
   clear hkp
   go_wp2_with fail
   refine (HBk.out (t.ks[N]'(by have := HLN.out; omega)) (List.getElem_mem _) _ _ m S HKp.out (fun i hi => by have := HN.out i hi; have := HB2.out.size; omega)).mono ?_
   rintro e w3 ⟨rfl, b⟩
   have hz3 := b.size
   have HB3 := bt2 HB2 b
   have HX3 := bx HX2 b
   clear b HB2 HX2 x0 p0 p1 p2 p3 p4 p5 p6 p7
   have x0 := HX3.out.cell
   cases c1 : okB (t.ks[N]'(by have := HLN.out; omega))
   ·have Hc1 := zz c1
    clear c1
    have E := zz (show false = b by rw [<- HH.out, okC_yes HKK.out, clause_def (Or.inr HKK.out) HNN.out (snoc_at HLN.out), Hc0.out, Hc1.out]; rfl)
    go_wp2
    go_ret
    exact ⟨zb E.out, HB3.out⟩
   ·have Hc1 := zz c1
    clear c1
    by_cases hz : N = 0
    ·have qz : ((N : Int) == 0) = true := by rw [hz]; rfl
     have HZ := zz hz
     clear hz
     have E := zz (show true = b by rw [<- HH.out, okC_yes HKK.out, clause_def (Or.inr HKK.out) HNN.out (snoc_at HLN.out), Hc0.out, Hc1.out, decide_eq_true (show (t.ks.take N).length = 0 by rw [take_len HLN.out]; exact HZ.out)]; rfl)
     go_wp2
     go_ret
     exact ⟨zb E.out, HB3.out⟩
    ·have qz : ((N : Int) == 0) = false := beq_false_of_ne (by omega)
     have HZ := zz hz
     clear hz
     have E := zz (show false = b by rw [<- HH.out, okC_yes HKK.out, clause_def (Or.inr HKK.out) HNN.out (snoc_at HLN.out), Hc0.out, Hc1.out, decide_eq_false (show ¬ (t.ks.take N).length = 0 by rw [take_len HLN.out]; exact HZ.out)]; rfl)
     go_wp2
     go_ret
     exact ⟨zb E.out, HB3.out⟩
 ·have n0 : t.f.n = 0 := by have := HN01.out; omega
  have qn0 : (t.f.n != 0) = false := by rw [n0]; rfl
  have qe1 := nk 1 n0 rfl
  have HNN := zz n0
  clear n1 n0
  by_cases hl0 : t.ks.length = 0
  ·have HL0 := zz hl0
   go_enter Tryz.func127, Tryz.ntmps127
   go_wp2_with fail
   obtain ⟨w1, hw1, HB1, HX1, hs1⟩ := jb w t.f (.slice Av 0 cv)
   rw [hw1]
   clear hw1
   refine (rbare_is (f := t.f) (x := false) (y := false) (z := true) (r := emn t.f) (rbare_fft (show mrk t.f.k = false by rw [HKK.out]; rfl)) _).mono ?_
   rintro e w2 ⟨rfl, b⟩
   have hz2 := b.size
   have HB2 := bt2 HB1 b
   have HX2 := bx HX1 b
   clear b HB1 HX1
   have x0 := HX2.out.cell
   cases c0 : emn t.f
   ·have Hc0 := zz c0
    clear c0
    have E := zz (show false = b by rw [<- HH.out, okC_yes HKK.out, clause_none (Or.inr HKK.out) HN01.out HL0.out])
    go_wp2
    go_ret
    exact ⟨zb E.out, HB2.out⟩
   ·have Hc0 := zz c0
    clear c0
    have E := zz (show false = b by rw [<- HH.out, okC_yes HKK.out, clause_none (Or.inr HKK.out) HN01.out HL0.out])
    go_wp2
    go_ret
    exact ⟨zb E.out, HB2.out⟩
  obtain ⟨N, hN⟩ : ∃ N, t.ks.length = N + 1 := ⟨t.ks.length - 1, by omega⟩
  have HLN := zz hN
  have hl1 : 0 < t.ks.length := by omega
  clear hl0
  obtain ⟨hA1, hbv, _⟩ := HAv.out hl1
  subst hA1
  have HCAP := zz (show N + 1 <= cv by obtain ⟨A', c', b', o', e1, _, h2, _⟩ := HK.out.lstA; injection e1 with _ _ e3; omega)
  rw [hN] at hlv |-
  have i0 : (0 : Int) <= (N : Int) := by omega
  have i1 : (N : Int) < ((N + 1 : Nat) : Int) := by omega
  have i2 : (N : Int) <= (cv : Int) := by have := HCAP.out; omega
  have ql : decide (((N + 1 : Nat) : Int) < 1) = false := decide_eq_false (by omega)
  clear hl1 hN
  go_enter Tryz.func127, Tryz.ntmps127
  go_wp2_with fail
  obtain ⟨w1, hw1, HB1, HX1, hs1⟩ := jb w t.f (.slice (some ⟨bv, ov, none⟩) (N + 1) cv)
  rw [hw1]
  clear hw1
  refine (rbare_is (f := t.f) (x := false) (y := false) (z := true) (r := emn t.f) (rbare_fft (show mrk t.f.k = false by rw [HKK.out]; rfl)) _).mono ?_
  rintro e w2 ⟨rfl, b⟩
  have hz2 := b.size
  have HB2 := bt2 HB1 b
  have HX2 := bx HX1 b
  clear b HB1 HX1
  have x0 := HX2.out.cell
  cases c0 : emn t.f
  ·have Hc0 := zz c0
   clear c0
   have E := zz (show false = b by rw [<- HH.out, okC_yes HKK.out, fitT_eq, clause_fit (Or.inr HKK.out), Hc0.out]; rfl)
   go_wp2
   go_ret
   exact ⟨zb E.out, HB2.out⟩
  ·have Hc0 := zz c0
   clear c0
   obtain ⟨vp, p0, p1, p2, p3, p4, p5, p6, p7, hkp⟩ := ((HRv.out.agree (Agree.of_below HB2.out HN.out) hbv).get N (by have := HLN.out; omega)).open
   have HKp := zz hkp
   clear hkp
   go_wp2_with fail
   refine (HBk.out (t.ks[N]'(by have := HLN.out; omega)) (List.getElem_mem _) _ _ m S HKp.out (fun i hi => by have := HN.out i hi; have := HB2.out.size; omega)).mono ?_
   rintro e w3 ⟨rfl, b⟩
   have hz3 := b.size
   have HB3 := bt2 HB2 b
   have HX3 := bx HX2 b
   clear b HB2 HX2 x0 p0 p1 p2 p3 p4 p5 p6 p7
   have x0 := HX3.out.cell
   by_cases hz : N = 1
   ·subst hz
    have HL2 := zz (show t.ks.length = 2 from HLN.out)
    have hm0 : 0 < t.ks.length := by have := HL2.out; omega
    have hm1 : 1 < t.ks.length := by have := HL2.out; omega
    cases c1 : okB t.ks[1]
    ·have Hc1 := zz c1
     clear c1
     have E := zz (show false = b by rw [<- HH.out, okC_yes HKK.out, arm2 HKK.out HNN.out (lst_two HL2.out), Hc0.out, Hc1.out]; rfl)
     go_wp2
     go_ret
     exact ⟨zb E.out, HB3.out⟩
    ·have Hc1 := zz c1
     clear c1
     have hq := (HRv.out.agree (Agree.of_below HB3.out HN.out) hbv).get 0 hm0
     have hq2 : NodeAt w3 m S bv ov t.ks[0] := by simpa using hq
     obtain ⟨vs, r0, r1, r2, r3, r4, r5, r6, r7, hks⟩ := hq2.open
     obtain ⟨As, cs, bs, os, rfl, hls, hAs, hrs⟩ := hks.form
     have HKs := zz hks
     have HAs := zz hAs
     have HRs := zz hrs
     clear hks hq hq2 hAs hrs
     go_wp2_with fail
     obtain ⟨w9, hw9, HB9', HY9, hs9⟩ := jb w3 t.ks[0].f (.slice As t.ks[0].ks.length cs)
     rw [hw9]
     clear hw9
     have HB9 := zz (HB3.out.trans (HB9'.out.mono HB3.out.size))
     refine (rsimple_is (t := t.ks[0]) (b := okM t.ks[0]) (HE.out t.ks[0] (List.getElem_mem hm0)) (AllFs.get HF.out.ks _ (List.getElem_mem hm0)) (HKs.out.below HB9'.out (fun i hi => by have := HN.out i hi; have := HB3.out.size; omega)) (fun i hi => by have := HN.out i hi; have := HB9.out.size; omega) rfl).mono ?_
     rintro e w10 ⟨rfl, b⟩
     have hz10 := b.size
     have HB10 := bt2 HB9 b
     have HY10 := zz (HY9.out.below b (by omega))
     have HBs := zz (HB9'.out.trans (b.mono HB9'.out.size))
     clear b HB9 HB9' HY9 r0 r1 r2 r3 r4 r5 r6 r7 x0
     obtain ⟨y0, y1, y2, y3, y4, y5, y6, y7⟩ := HY10.out.cell
     cases c2 : okM t.ks[0]
     ·have Hc2 := zz c2
      clear c2
      have E := zz (show false = b by rw [<- HH.out, okC_yes HKK.out, arm2 HKK.out HNN.out (lst_two HL2.out), commOk, Hc0.out, Hc1.out, Hc2.out]; rfl)
      go_wp2
      go_ret
      exact ⟨zb E.out, HB10.out⟩
     ·have Hc2 := zz c2
      clear c2
      by_cases k9 : t.ks[0].f.k = 9
      ·have q9 := yk k9
       have H9 := zz q9
       clear k9
       have E := zz (show true = b by rw [<- HH.out, okC_yes HKK.out, arm2 HKK.out HNN.out (lst_two HL2.out), commOk, Hc0.out, Hc1.out, Hc2.out, H9.out]; rfl)
       go_wp2
       go_ret
       exact ⟨zb E.out, HB10.out⟩
      have q9 := beq_false_of_ne k9
      have H9 := zz q9
      have H9' := zz k9
      clear k9
      by_cases k8 : t.ks[0].f.k = 8
      ·have q8 : (t.ks[0].f.k != 8) = false := by simp [k8]
       have H8 := zz (show (t.ks[0].f.k == 8) = true by rw [k8]; rfl)
       clear k8
       have E := zz (show false = b by rw [<- HH.out, okC_yes HKK.out, arm2 HKK.out HNN.out (lst_two HL2.out), commOk, Hc0.out, Hc1.out, Hc2.out, H9.out, H8.out]; rfl)
       go_wp2
       go_ret
       exact ⟨zb E.out, HB10.out⟩
      have q8 : (t.ks[0].f.k != 8) = true := by simp [k8]
      have H8 := zz (beq_false_of_ne k8)
      have HPOS := zz (comm_pos Hc2.out H9'.out k8)
      clear k8
      obtain ⟨M, hM⟩ : ∃ M, t.ks[0].ks.length = M + 1 := ⟨t.ks[0].ks.length - 1, by have := HPOS.out; omega⟩
      have HM := zz hM
      rw [hM] at hls y7
      clear hM
      obtain ⟨hA2, hbs, _⟩ := HAs.out HPOS.out
      subst hA2
      obtain ⟨vl, s0, s1, s2, s3, s4, s5, s6, s7, hkl⟩ := ((HRs.out.agree (Agree.of_below HBs.out (fun i hi => by have := HN.out i hi; have := HB3.out.size; omega)) hbs).get M (by have := HM.out; omega)).open
      clear hkl
      have m0 : (0 : Int) <= (M : Int) := by omega
      have m1 : (M : Int) < ((M + 1 : Nat) : Int) := by omega
      have HLR := zz (lastRecv_at HM.out (by have := HM.out; omega))
      go_wp2_with fail
      refine (rRecv_b (f := (t.ks[0].ks[M]'(by have := HM.out; omega)).f) _).mono ?_
      rintro e w11 ⟨rfl, b⟩
      have HB11 := bt2 HB10 b
      clear b y0 y1 y2 y3 y4 y5 y6 y7 s0 s1 s2 s3 s4 s5 s6 s7
      have E := zz (show kRecv (t.ks[0].ks[M]'(by have := HM.out; omega)).f = b by rw [<- HH.out, okC_yes HKK.out, arm2 HKK.out HNN.out (lst_two HL2.out), commOk, Hc0.out, Hc1.out, Hc2.out, H9.out, H8.out, HLR.out]; rfl)
      go_wp2
      go_ret
      exact ⟨zb E.out, HB11.out⟩
   ·have qz : ((N : Int) != 1) = true := by simp; omega
    have HZ := zz hz
    clear hz
    cases c1 : okB (t.ks[N]'(by have := HLN.out; omega))
    ·have Hc1 := zz c1
     clear c1
     have E := zz (show false = b by rw [<- HH.out, okC_yes HKK.out, arm_len HKK.out HNN.out (by have := HLN.out; have := HZ.out; omega)])
     go_wp2
     go_ret
     exact ⟨zb E.out, HB3.out⟩
    ·have Hc1 := zz c1
     clear c1
     have E := zz (show false = b by rw [<- HH.out, okC_yes HKK.out, arm_len HKK.out HNN.out (by have := HLN.out; have := HZ.out; omega)])
     go_wp2
     go_ret
     exact ⟨zb E.out, HB3.out⟩
end Go.Proofs.YtmdhjiammcpogaaGreatDoor
