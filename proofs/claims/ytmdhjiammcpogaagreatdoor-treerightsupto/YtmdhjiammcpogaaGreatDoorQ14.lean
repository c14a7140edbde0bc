import Derived.Test.YtmdhjiammcpogaaGreatDoorQ13
namespace Go.Proofs.YtmdhjiammcpogaaGreatDoor
set_option maxRecDepth 100000
set_option maxHeartbeats 16000000
section
open Go.RowKit
variable {A : Option Addr} {N W c : Nat} {S : Nat -> Prop} {a : Tr} {f : Nd} {m : Md} {r : List Tr} {tb : Int} {v : Value} {w : World} {x : List UInt8}
theorem fx_drw (N W : Nat) (w : World) : Fx N W w w.drew := ⟨rfl, rfl, rfl, Nat.le_refl _, fun _ _ => rfl, fun _ _ _ _ _ _ _ => rfl⟩
theorem Wr.drw {acc : List UInt8} (h : Wr N W acc tb w) : Wr N W acc tb w.drew := h.below (zd w)
theorem Lst.tail {bv ov : Nat} (hA : 0 < r.length -> A = some ⟨bv, ov + 8, none⟩) (hc : r.length <= c) (hl : r.length + 1 <= 9223372036854775807) (hb : S bv) (h : RowAt w m S bv (ov + 8) r) : Lst w m S (.slice A r.length c) r :=
 ⟨A, c, bv, ov + 8, rfl, by omega, hc, fun h => ⟨hA h, hb⟩, h⟩
theorem method_is (hx : x = brk (meB a.f) (te a) ++ ([46] ++ bs f.t) ++ ([40] ++ cm (r.map te) ++ [41])) (hA : PutE a) (hR : ∀ t ∈ r, PutE t) (hK : Kids w m S v (a :: r)) (hN : ∀ i, S i -> i < N) (hT : TabN N w) :
 Puts N W tb x 144 #[.pointer (some ⟨W, 0, none⟩), nv f v] w := by
 have HN := zz hN
 have HT := zz hT
 have HR := zz hR
 clear hN hT hR
 obtain ⟨bv, ov, cv, rfl, hcv, hlv, hbv, hna, hrr⟩ := hK.cons1
 have HRr := zz hrr
 obtain ⟨va, HCa, HKa⟩ := hna.cs
 obtain ⟨Aa, ca, ba, oa, rfl, _, _, _⟩ := HKa.out.form
 clear hna hK hrr
 unfold nv
 by_cases h26 : a.f.k = 26
 ·have q26 := yk h26
  have HM := zz (show meB a.f = true by unfold meB; rw [q26]; rfl)
  clear h26
  intro acc hw hlen
  have HW0 := zz hw
  have hWl := hw.lt
  have hNw := hw.nle
  have HX0 := zz (show x = brk (meB a.f) (te a) ++ ([46] ++ bs f.t) ++ ([40] ++ cm (r.map te) ++ [41]) from hx)
  have HL := zz hlen
  have HF0 := zz (Fx.refl N W w)
  clear hw hlen
  go_enter Tryz.func144, Tryz.ntmps144
  have hbs : bv < w.heap.size := by have := HN.out bv hbv; omega
  have a0 := al8 hbs HCa
  go_wp2_with fail
  obtain ⟨w1, hw1, HB, HXb, hs1⟩ := jb w f (.slice (some ⟨bv, ov, none⟩) (r.length + 1) cv)
  rw [hw1]
  clear hw1
  obtain ⟨hz1, HF1, HW1⟩ := stb hNw HF0 HW0 HB
  clear HF0 HW0 a0
  have hnb : w.heap.size ≠ W := by have := HF1.out.size; omega
  clear HB
  obtain ⟨w2, hw2, HB, HXk, hs2⟩ := jb w1 a.f (.slice Aa a.ks.length ca)
  rw [hw2]
  clear hw2
  obtain ⟨hz2, HF2, HW2⟩ := stb hNw HF1 HW1 HB
  replace HXb := zz (HXb.out.fx (Fx.of_below (N := N) (W := W) HB.out (by have := HF1.out.size; omega)) hnb)
  clear HF1 HW1
  have hnk : w1.heap.size ≠ W := by have := HF2.out.size; omega
  clear HB
  refine (operand_is (x := brk (meB a.f) (te a)) (N := N) (W := W) (tb := tb) (m := m) (S := S) (b := true) (by rw [HM.out]) hA (HKa.out.below HF2.out.below HN.out) HN.out (HT.out.below HF2.out.below) _ HW2.out (by have h := HL.out; rw [HX0.out] at h; (try simp only [List.length_append] at h |-); omega)).mono ?_
  rintro e w3 ⟨rfl, fx, wr⟩
  obtain ⟨hz3, HF3, HW3⟩ := stf HF2 fx wr
  replace HXb := fxx HXb fx hnb
  replace HXk := fxx HXk fx hnk
  clear HF2 HW2 fx wr
  have b0 := HXb.out.cell
  go_wp2_with fail
  refine (zc (x := ([46] ++ bs f.t)) [⟨#[46]⟩, f.t] (by simp [fl]) (by simp) (by omega) rfl rfl HW3.out (by have h := HL.out; rw [HX0.out] at h; (try simp only [List.length_append] at h |-); omega)).mono ?_
  rintro e w4 ⟨rfl, fx, wr⟩
  obtain ⟨hz4, HF4, HW4⟩ := stf HF3 fx wr
  replace HXb := fxx HXb fx hnb
  replace HXk := fxx HXk fx hnk
  clear HF3 HW3 b0
  clear fx wr
  have b0 := HXb.out.cell
  go_wp2_with fail
  all_goals
   refine (arguments_is (N := N) (W := W) (tb := tb) (m := m) (S := S) rfl HR.out (Lst.tail (bv := bv) (ov := ov) ?hA ?hc hlv hbv (HRr.out.agree (Agree.of_below HF4.out.below HN.out) hbv)) HN.out (HT.out.below HF4.out.below) _ HW4.out (by have h := HL.out; rw [HX0.out] at h; (try simp only [List.length_append] at h |-); omega)).mono ?_
   case hA => first | exact fun _ => rfl | exact fun h => absurd h (by omega)
   case hc => omega
   rintro e w5 ⟨rfl, fx, wr⟩
   obtain ⟨hz5, HF5, HW5⟩ := stf HF4 fx wr
   replace HXb := fxx HXb fx hnb
   replace HXk := fxx HXk fx hnk
   clear HF4 HW4 b0
   clear fx wr
   go_wp2
   go_end0
   exact ⟨rfl, HF5.out, by rw [HX0.out]; first | exact HW5.out | simpa only [List.append_assoc] using HW5.out⟩
 have q26 := beq_false_of_ne h26
 by_cases h27 : a.f.k = 27
 ·have q27 := yk h27
  have HM := zz (show meB a.f = true by unfold meB; rw [q26, q27]; rfl)
  clear h26 h27
  intro acc hw hlen
  have HW0 := zz hw
  have hWl := hw.lt
  have hNw := hw.nle
  have HX0 := zz (show x = brk (meB a.f) (te a) ++ ([46] ++ bs f.t) ++ ([40] ++ cm (r.map te) ++ [41]) from hx)
  have HL := zz hlen
  have HF0 := zz (Fx.refl N W w)
  clear hw hlen
  go_enter Tryz.func144, Tryz.ntmps144
  have hbs : bv < w.heap.size := by have := HN.out bv hbv; omega
  have a0 := al8 hbs HCa
  go_wp2_with fail
  obtain ⟨w1, hw1, HB, HXb, hs1⟩ := jb w f (.slice (some ⟨bv, ov, none⟩) (r.length + 1) cv)
  rw [hw1]
  clear hw1
  obtain ⟨hz1, HF1, HW1⟩ := stb hNw HF0 HW0 HB
  clear HF0 HW0 a0
  have hnb : w.heap.size ≠ W := by have := HF1.out.size; omega
  clear HB
  obtain ⟨w2, hw2, HB, HXk, hs2⟩ := jb w1 a.f (.slice Aa a.ks.length ca)
  rw [hw2]
  clear hw2
  obtain ⟨hz2, HF2, HW2⟩ := stb hNw HF1 HW1 HB
  replace HXb := zz (HXb.out.fx (Fx.of_below (N := N) (W := W) HB.out (by have := HF1.out.size; omega)) hnb)
  clear HF1 HW1
  have hnk : w1.heap.size ≠ W := by have := HF2.out.size; omega
  clear HB
  refine (operand_is (x := brk (meB a.f) (te a)) (N := N) (W := W) (tb := tb) (m := m) (S := S) (b := true) (by rw [HM.out]) hA (HKa.out.below HF2.out.below HN.out) HN.out (HT.out.below HF2.out.below) _ HW2.out (by have h := HL.out; rw [HX0.out] at h; (try simp only [List.length_append] at h |-); omega)).mono ?_
  rintro e w3 ⟨rfl, fx, wr⟩
  obtain ⟨hz3, HF3, HW3⟩ := stf HF2 fx wr
  replace HXb := fxx HXb fx hnb
  replace HXk := fxx HXk fx hnk
  clear HF2 HW2 fx wr
  have b0 := HXb.out.cell
  go_wp2_with fail
  refine (zc (x := ([46] ++ bs f.t)) [⟨#[46]⟩, f.t] (by simp [fl]) (by simp) (by omega) rfl rfl HW3.out (by have h := HL.out; rw [HX0.out] at h; (try simp only [List.length_append] at h |-); omega)).mono ?_
  rintro e w4 ⟨rfl, fx, wr⟩
  obtain ⟨hz4, HF4, HW4⟩ := stf HF3 fx wr
  replace HXb := fxx HXb fx hnb
  replace HXk := fxx HXk fx hnk
  clear HF3 HW3 b0
  clear fx wr
  have b0 := HXb.out.cell
  go_wp2_with fail
  all_goals
   refine (arguments_is (N := N) (W := W) (tb := tb) (m := m) (S := S) rfl HR.out (Lst.tail (bv := bv) (ov := ov) ?hA ?hc hlv hbv (HRr.out.agree (Agree.of_below HF4.out.below HN.out) hbv)) HN.out (HT.out.below HF4.out.below) _ HW4.out (by have h := HL.out; rw [HX0.out] at h; (try simp only [List.length_append] at h |-); omega)).mono ?_
   case hA => first | exact fun _ => rfl | exact fun h => absurd h (by omega)
   case hc => omega
   rintro e w5 ⟨rfl, fx, wr⟩
   obtain ⟨hz5, HF5, HW5⟩ := stf HF4 fx wr
   replace HXb := fxx HXb fx hnb
   replace HXk := fxx HXk fx hnk
   clear HF4 HW4 b0
   clear fx wr
   go_wp2
   go_end0
   exact ⟨rfl, HF5.out, by rw [HX0.out]; first | exact HW5.out | simpa only [List.append_assoc] using HW5.out⟩
 ·have q27 := beq_false_of_ne h27
  have HM := zz (show meB a.f = false by unfold meB; rw [q26, q27]; rfl)
  clear h26 h27
  intro acc hw hlen
  have HW0 := zz hw
  have hWl := hw.lt
  have hNw := hw.nle
  have HX0 := zz (show x = brk (meB a.f) (te a) ++ ([46] ++ bs f.t) ++ ([40] ++ cm (r.map te) ++ [41]) from hx)
  have HL := zz hlen
  have HF0 := zz (Fx.refl N W w)
  clear hw hlen
  go_enter Tryz.func144, Tryz.ntmps144
  have hbs : bv < w.heap.size := by have := HN.out bv hbv; omega
  have a0 := al8 hbs HCa
  go_wp2_with fail
  obtain ⟨w1, hw1, HB, HXb, hs1⟩ := jb w f (.slice (some ⟨bv, ov, none⟩) (r.length + 1) cv)
  rw [hw1]
  clear hw1
  obtain ⟨hz1, HF1, HW1⟩ := stb hNw HF0 HW0 HB
  clear HF0 HW0 a0
  have hnb : w.heap.size ≠ W := by have := HF1.out.size; omega
  clear HB
  obtain ⟨w2, hw2, HB, HXk, hs2⟩ := jb w1 a.f (.slice Aa a.ks.length ca)
  rw [hw2]
  clear hw2
  obtain ⟨hz2, HF2, HW2⟩ := stb hNw HF1 HW1 HB
  replace HXb := zz (HXb.out.fx (Fx.of_below (N := N) (W := W) HB.out (by have := HF1.out.size; omega)) hnb)
  clear HF1 HW1
  have hnk : w1.heap.size ≠ W := by have := HF2.out.size; omega
  clear HB
  refine (operand_is (x := brk (meB a.f) (te a)) (N := N) (W := W) (tb := tb) (m := m) (S := S) (b := false) (by rw [HM.out]) hA (HKa.out.below HF2.out.below HN.out) HN.out (HT.out.below HF2.out.below) _ HW2.out (by have h := HL.out; rw [HX0.out] at h; (try simp only [List.length_append] at h |-); omega)).mono ?_
  rintro e w3 ⟨rfl, fx, wr⟩
  obtain ⟨hz3, HF3, HW3⟩ := stf HF2 fx wr
  replace HXb := fxx HXb fx hnb
  replace HXk := fxx HXk fx hnk
  clear HF2 HW2 fx wr
  have b0 := HXb.out.cell
  go_wp2_with fail
  refine (zc (x := ([46] ++ bs f.t)) [⟨#[46]⟩, f.t] (by simp [fl]) (by simp) (by omega) rfl rfl HW3.out (by have h := HL.out; rw [HX0.out] at h; (try simp only [List.length_append] at h |-); omega)).mono ?_
  rintro e w4 ⟨rfl, fx, wr⟩
  obtain ⟨hz4, HF4, HW4⟩ := stf HF3 fx wr
  replace HXb := fxx HXb fx hnb
  replace HXk := fxx HXk fx hnk
  clear HF3 HW3 b0
  clear fx wr
  have b0 := HXb.out.cell
  go_wp2_with fail
  all_goals
   refine (arguments_is (N := N) (W := W) (tb := tb) (m := m) (S := S) rfl HR.out (Lst.tail (bv := bv) (ov := ov) ?hA ?hc hlv hbv (HRr.out.agree (Agree.of_below HF4.out.below HN.out) hbv)) HN.out (HT.out.below HF4.out.below) _ HW4.out (by have h := HL.out; rw [HX0.out] at h; (try simp only [List.length_append] at h |-); omega)).mono ?_
   case hA => first | exact fun _ => rfl | exact fun h => absurd h (by omega)
   case hc => omega
   rintro e w5 ⟨rfl, fx, wr⟩
   obtain ⟨hz5, HF5, HW5⟩ := stf HF4 fx wr
   replace HXb := fxx HXb fx hnb
   replace HXk := fxx HXk fx hnk
   clear HF4 HW4 b0
   clear fx wr
   go_wp2
   go_end0
   exact ⟨rfl, HF5.out, by rw [HX0.out]; first | exact HW5.out | simpa only [List.append_assoc] using HW5.out⟩
end
section
open Go.RowKit
variable {N W : Nat} {S : Nat -> Prop} {a : Tr} {f : Nd} {m : Md} {tb : Int} {v : Value} {w : World} {x : List UInt8}
theorem unary_is (hx : x = bs f.t ++ brk (unB f a.f) (te a)) (hA : PutE a) (hK : Kids w m S v [a]) (hN : ∀ i, S i -> i < N) (hT : TabN N w) :
 Puts N W tb x 140 #[.pointer (some ⟨W, 0, none⟩), nv f v] w := by
 have HN := zz hN
 have HT := zz hT
 clear hN hT
 obtain ⟨bv, ov, cv, rfl, hcv, hbv, hna⟩ := hK.one1
 obtain ⟨va, HCa, HKa⟩ := hna.cs
 obtain ⟨Aa, ca, ba, oa, rfl, _, _, _⟩ := HKa.out.form
 clear hna hK
 unfold nv
 by_cases h27 : a.f.k = 27
 ·have q27 := yk h27
  have HM := zz (show unB f a.f = true by unfold unB; rw [q27]; rfl)
  clear h27
  intro acc hw hlen
  have HW0 := zz hw
  have hWl := hw.lt
  have hNw := hw.nle
  have HX0 := zz (show x = bs f.t ++ brk (unB f a.f) (te a) from hx)
  have HL := zz hlen
  have HF0 := zz (Fx.refl N W w)
  clear hw hlen
  have hbs : bv < w.heap.size := by have := HN.out bv hbv; omega
  have a0 := al8 hbs HCa
  go_enter Tryz.func140, Tryz.ntmps140
  go_wp2_with fail
  obtain ⟨w1, hw1, HB, HXb, hs1⟩ := jb w f (.slice (some ⟨bv, ov, none⟩) 1 cv)
  rw [hw1]
  clear hw1
  obtain ⟨hz1, HF1, HW1⟩ := stb hNw HF0 HW0 HB
  clear HF0 HW0 a0
  have hnb : w.heap.size ≠ W := by have := HF1.out.size; omega
  clear HB
  obtain ⟨w2, hw2, HB, HXk, hs2⟩ := jb w1 a.f (.slice Aa a.ks.length ca)
  rw [hw2]
  clear hw2
  obtain ⟨hz2, HF2, HW2⟩ := stb hNw HF1 HW1 HB
  replace HXb := zz (HXb.out.fx (Fx.of_below (N := N) (W := W) HB.out (by have := HF1.out.size; omega)) hnb)
  clear HF1 HW1
  have hnk : w1.heap.size ≠ W := by have := HF2.out.size; omega
  rw [show w1.heap.size = w.heap.size + 1 by omega] at HXk hnk
  clear HB
  refine (zc (x := bs f.t) [f.t] (by simp [fl]) (by simp) (by omega) rfl rfl HW2.out (by have h := HL.out; rw [HX0.out] at h; (try simp only [List.length_append] at h |-); omega)).mono ?_
  rintro e w3 ⟨rfl, fx, wr⟩
  obtain ⟨hz3, HF3, HW3⟩ := stf HF2 fx wr
  replace HXb := fxx HXb fx hnb
  replace HXk := fxx HXk fx hnk
  clear HF2 HW2 fx wr
  go_wp2_with fail
  refine wp_region_held_drew (S := Fx N W w3) (by kernel_rfl) ?_ (fun zk => ?_)
  ·exact fx_drw _ _ _
  apply tk 0 o25_ rfl (by kernel_rfl) (fun _ _ _ h => h) zk
  ·intro wq zq
   go_simp
   try rfl
  go_frame
  apply tk 1 o26_ rfl (by kernel_rfl) (fun _ _ _ h => h) zk
  ·intro wq zq
   have k0 := (HXk.out.fx zq hnk).cell
   go_simp
   try rfl
  go_frame
  apply tk 2 o27_ rfl (by kernel_rfl) (fun _ _ _ h => h) zk
  ·intro wq zq
   go_simp
   try rfl
  go_frame
  apply tk 3 o28_ rfl (by kernel_rfl) (fun _ _ _ h => h) zk
  ·intro wq zq
   have k0 := (HXk.out.fx zq hnk).cell
   go_simp
   try rfl
  go_frame
  apply tk 4 o29_ rfl (by kernel_rfl) (fun _ _ _ h => h) zk
  ·intro wq zq
   go_simp
   try rfl
  go_frame
  apply tk 5 o30_ rfl (by kernel_rfl) (fun _ _ _ h => h) zk
  ·intro wq zq
   go_simp
   try rfl
  go_frame
  refine sk 6 o31_ rfl (by kernel_rfl) (fun _ _ _ h => h) zk ?_
  go_frame
  refine sk 7 o32_ rfl (by kernel_rfl) (fun _ _ _ h => h) zk ?_
  go_frame
  refine sk 8 o33_ rfl (by kernel_rfl) (fun _ _ _ h => h) zk ?_
  go_frame
  refine sk 9 o34_ rfl (by kernel_rfl) (fun _ _ _ h => h) zk ?_
  go_frame
  refine sk 10 o35_ rfl (by kernel_rfl) (fun _ _ _ h => h) zk ?_
  go_frame
  refine sk 11 o36_ rfl (by kernel_rfl) (fun _ _ _ h => h) zk ?_
  go_frame
  apply tk 12 o37_ rfl (by kernel_rfl) (fun _ _ _ h => h) zk
  ·intro wq zq
   go_simp
   try rfl
  go_frame
  refine rd 13 o38_ rfl (by kernel_rfl) fun K hK => ?_
  go_simp
  refine (operand_is (x := brk (unB f a.f) (te a)) (N := N) (W := W) (tb := tb) (m := m) (S := S) (b := true) (by rw [HM.out]) hA ((HKa.out.below HF3.out.below HN.out).below zk.below HN.out) HN.out ((HT.out.below HF3.out.below).below zk.below) _ HW3.out.drw (by have h := HL.out; rw [HX0.out] at h; (try simp only [List.length_append] at h |-); omega)).mono ?_
  rintro e w9 ⟨rfl, fx, wr9⟩
  have HG9 := zz (zk.trans fx)
  have HW9 := zz wr9
  clear fx wr9
  go_wp2_with fail
  refine hK.out _ _ ?_ (fun zk => ?_)
  ·exact HG9.out
  clear hK K
  try go_frame
  refine wpAnyH_done (by kernel_rfl) ?_ _
  go_wp2
  go_end0
  exact ⟨rfl, HF3.out.trans HG9.out, by rw [HX0.out]; simpa only [List.append_assoc] using HW9.out⟩
 have q27 := beq_false_of_ne h27
 clear h27
 cases hs : sgn f
 ·have HM := zz (show unB f a.f = false by unfold unB; rw [q27, hs]; rfl)
  have HS1 := zz hs
  clear hs
  intro acc hw hlen
  have HW0 := zz hw
  have hWl := hw.lt
  have hNw := hw.nle
  have HX0 := zz (show x = bs f.t ++ brk (unB f a.f) (te a) from hx)
  have HL := zz hlen
  have HF0 := zz (Fx.refl N W w)
  clear hw hlen
  have hbs : bv < w.heap.size := by have := HN.out bv hbv; omega
  have a0 := al8 hbs HCa
  go_enter Tryz.func140, Tryz.ntmps140
  go_wp2_with fail
  obtain ⟨w1, hw1, HB, HXb, hs1⟩ := jb w f (.slice (some ⟨bv, ov, none⟩) 1 cv)
  rw [hw1]
  clear hw1
  obtain ⟨hz1, HF1, HW1⟩ := stb hNw HF0 HW0 HB
  clear HF0 HW0 a0
  have hnb : w.heap.size ≠ W := by have := HF1.out.size; omega
  clear HB
  obtain ⟨w2, hw2, HB, HXk, hs2⟩ := jb w1 a.f (.slice Aa a.ks.length ca)
  rw [hw2]
  clear hw2
  obtain ⟨hz2, HF2, HW2⟩ := stb hNw HF1 HW1 HB
  replace HXb := zz (HXb.out.fx (Fx.of_below (N := N) (W := W) HB.out (by have := HF1.out.size; omega)) hnb)
  clear HF1 HW1
  have hnk : w1.heap.size ≠ W := by have := HF2.out.size; omega
  rw [show w1.heap.size = w.heap.size + 1 by omega] at HXk hnk
  clear HB
  refine (zc (x := bs f.t) [f.t] (by simp [fl]) (by simp) (by omega) rfl rfl HW2.out (by have h := HL.out; rw [HX0.out] at h; (try simp only [List.length_append] at h |-); omega)).mono ?_
  rintro e w3 ⟨rfl, fx, wr⟩
  obtain ⟨hz3, HF3, HW3⟩ := stf HF2 fx wr
  replace HXb := fxx HXb fx hnb
  replace HXk := fxx HXk fx hnk
  clear HF2 HW2 fx wr
  go_wp2_with fail
  refine wp_region_held_drew (S := Fx N W w3) (by kernel_rfl) ?_ (fun zk => ?_)
  ·exact fx_drw _ _ _
  apply tk 0 o25_ rfl (by kernel_rfl) (fun _ _ _ h => h) zk
  ·intro wq zq
   go_simp
   try rfl
  go_frame
  apply tk 1 o26_ rfl (by kernel_rfl) (fun _ _ _ h => h) zk
  ·intro wq zq
   have k0 := (HXk.out.fx zq hnk).cell
   go_simp
   try rfl
  go_frame
  apply tk 2 o27_ rfl (by kernel_rfl) (fun _ _ _ h => h) zk
  ·intro wq zq
   go_simp
   try rfl
  go_frame
  apply tk 3 o28_ rfl (by kernel_rfl) (fun _ _ _ h => h) zk
  ·intro wq zq
   have k0 := (HXk.out.fx zq hnk).cell
   go_simp
   try rfl
  go_frame
  apply tk 4 o29_ rfl (by kernel_rfl) (fun _ _ _ h => h) zk
  ·intro wq zq
   go_simp
   try rfl
  go_frame
  apply tk 5 o30_ rfl (by kernel_rfl) (fun _ _ _ h => h) zk
  ·intro wq zq
   go_simp
   try rfl
  go_frame
  apply tk 6 o31_ rfl (by kernel_rfl) (fun _ _ _ h => h) zk
  ·intro wq zq
   have b0 := (HXb.out.fx zq hnb).cell
   go_simp
   try rfl
  go_frame
  refine rd 7 o32_ rfl (by kernel_rfl) fun K hK => ?_
  go_simp
  refine (sgn_is (f := f) HS1.out _).mono ?_
  rintro e w4 ⟨rfl, b⟩
  have HG4 := zz (zk.trans (Fx.of_below (N := N) (W := W) b (by have := HF3.out.size; have := zk.size; omega)))
  have HW4 := zz ((HW3.out.drw).below b)
  clear b
  go_wp2_with fail
  refine hK.out _ _ ?_ (fun zk => ?_)
  ·exact HG4.out
  clear hK K
  try go_frame
  apply tk 8 o33_ rfl (by kernel_rfl) (fun _ _ _ h => h) zk
  ·intro wq zq
   go_simp
   try rfl
  go_frame
  refine sk 9 o34_ rfl (by kernel_rfl) (fun _ _ _ h => h) zk ?_
  go_frame
  refine sk 10 o35_ rfl (by kernel_rfl) (fun _ _ _ h => h) zk ?_
  go_frame
  apply tk 11 o36_ rfl (by kernel_rfl) (fun _ _ _ h => h) zk
  ·intro wq zq
   go_simp
   try rfl
  go_frame
  apply tk 12 o37_ rfl (by kernel_rfl) (fun _ _ _ h => h) zk
  ·intro wq zq
   go_simp
   try rfl
  go_frame
  refine rd 13 o38_ rfl (by kernel_rfl) fun K hK => ?_
  go_simp
  refine (operand_is (x := brk (unB f a.f) (te a)) (N := N) (W := W) (tb := tb) (m := m) (S := S) (b := false) (by rw [HM.out]) hA ((HKa.out.below HF3.out.below HN.out).below zk.below HN.out) HN.out ((HT.out.below HF3.out.below).below zk.below) _ HW4.out (by have h := HL.out; rw [HX0.out] at h; (try simp only [List.length_append] at h |-); omega)).mono ?_
  rintro e w9 ⟨rfl, fx, wr9⟩
  have HG9 := zz (zk.trans fx)
  have HW9 := zz wr9
  clear fx wr9
  go_wp2_with fail
  refine hK.out _ _ ?_ (fun zk => ?_)
  ·exact HG9.out
  clear hK K
  try go_frame
  refine wpAnyH_done (by kernel_rfl) ?_ _
  go_wp2
  go_end0
  exact ⟨rfl, HF3.out.trans HG9.out, by rw [HX0.out]; simpa only [List.append_assoc] using HW9.out⟩
 ·have HS1 := zz hs
  obtain ⟨bb, hbb⟩ : ∃ bb, sgn a.f = bb := ⟨_, rfl⟩
  have HS2 := zz hbb
  have HM := zz (show unB f a.f = bb by unfold unB; rw [q27, hs, hbb]; cases bb <;> rfl)
  clear hs hbb
  intro acc hw hlen
  have HW0 := zz hw
  have hWl := hw.lt
  have hNw := hw.nle
  have HX0 := zz (show x = bs f.t ++ brk (unB f a.f) (te a) from hx)
  have HL := zz hlen
  have HF0 := zz (Fx.refl N W w)
  clear hw hlen
  have hbs : bv < w.heap.size := by have := HN.out bv hbv; omega
  have a0 := al8 hbs HCa
  go_enter Tryz.func140, Tryz.ntmps140
  go_wp2_with fail
  obtain ⟨w1, hw1, HB, HXb, hs1⟩ := jb w f (.slice (some ⟨bv, ov, none⟩) 1 cv)
  rw [hw1]
  clear hw1
  obtain ⟨hz1, HF1, HW1⟩ := stb hNw HF0 HW0 HB
  clear HF0 HW0 a0
  have hnb : w.heap.size ≠ W := by have := HF1.out.size; omega
  clear HB
  obtain ⟨w2, hw2, HB, HXk, hs2⟩ := jb w1 a.f (.slice Aa a.ks.length ca)
  rw [hw2]
  clear hw2
  obtain ⟨hz2, HF2, HW2⟩ := stb hNw HF1 HW1 HB
  replace HXb := zz (HXb.out.fx (Fx.of_below (N := N) (W := W) HB.out (by have := HF1.out.size; omega)) hnb)
  clear HF1 HW1
  have hnk : w1.heap.size ≠ W := by have := HF2.out.size; omega
  rw [show w1.heap.size = w.heap.size + 1 by omega] at HXk hnk
  clear HB
  refine (zc (x := bs f.t) [f.t] (by simp [fl]) (by simp) (by omega) rfl rfl HW2.out (by have h := HL.out; rw [HX0.out] at h; (try simp only [List.length_append] at h |-); omega)).mono ?_
  rintro e w3 ⟨rfl, fx, wr⟩
  obtain ⟨hz3, HF3, HW3⟩ := stf HF2 fx wr
  replace HXb := fxx HXb fx hnb
  replace HXk := fxx HXk fx hnk
  clear HF2 HW2 fx wr
  go_wp2_with fail
  refine wp_region_held_drew (S := Fx N W w3) (by kernel_rfl) ?_ (fun zk => ?_)
  ·exact fx_drw _ _ _
  apply tk 0 o25_ rfl (by kernel_rfl) (fun _ _ _ h => h) zk
  ·intro wq zq
   go_simp
   try rfl
  go_frame
  apply tk 1 o26_ rfl (by kernel_rfl) (fun _ _ _ h => h) zk
  ·intro wq zq
   have k0 := (HXk.out.fx zq hnk).cell
   go_simp
   try rfl
  go_frame
  apply tk 2 o27_ rfl (by kernel_rfl) (fun _ _ _ h => h) zk
  ·intro wq zq
   go_simp
   try rfl
  go_frame
  apply tk 3 o28_ rfl (by kernel_rfl) (fun _ _ _ h => h) zk
  ·intro wq zq
   have k0 := (HXk.out.fx zq hnk).cell
   go_simp
   try rfl
  go_frame
  apply tk 4 o29_ rfl (by kernel_rfl) (fun _ _ _ h => h) zk
  ·intro wq zq
   go_simp
   try rfl
  go_frame
  apply tk 5 o30_ rfl (by kernel_rfl) (fun _ _ _ h => h) zk
  ·intro wq zq
   go_simp
   try rfl
  go_frame
  apply tk 6 o31_ rfl (by kernel_rfl) (fun _ _ _ h => h) zk
  ·intro wq zq
   have b0 := (HXb.out.fx zq hnb).cell
   go_simp
   try rfl
  go_frame
  refine rd 7 o32_ rfl (by kernel_rfl) fun K hK => ?_
  go_simp
  refine (sgn_is (f := f) HS1.out _).mono ?_
  rintro e w4 ⟨rfl, b⟩
  have HG4 := zz (zk.trans (Fx.of_below (N := N) (W := W) b (by have := HF3.out.size; have := zk.size; omega)))
  have HW4 := zz ((HW3.out.drw).below b)
  clear b
  go_wp2_with fail
  refine hK.out _ _ ?_ (fun zk => ?_)
  ·exact HG4.out
  clear hK K
  try go_frame
  apply tk 8 o33_ rfl (by kernel_rfl) (fun _ _ _ h => h) zk
  ·intro wq zq
   go_simp
   try rfl
  go_frame
  apply tk 9 o34_ rfl (by kernel_rfl) (fun _ _ _ h => h) zk
  ·intro wq zq
   have k0 := (HXk.out.fx zq hnk).cell
   go_simp
   try rfl
  go_frame
  refine rd 10 o35_ rfl (by kernel_rfl) fun K hK => ?_
  go_simp
  refine (sgn_is (f := a.f) HS2.out _).mono ?_
  rintro e w5 ⟨rfl, b⟩
  have HG5 := zz (zk.trans (Fx.of_below (N := N) (W := W) b (by have := HF3.out.size; have := zk.size; omega)))
  have HW5 := zz ((HW4.out).below b)
  clear b
  go_wp2_with fail
  refine hK.out _ _ ?_ (fun zk => ?_)
  ·exact HG5.out
  clear hK K
  try go_frame
  apply tk 11 o36_ rfl (by kernel_rfl) (fun _ _ _ h => h) zk
  ·intro wq zq
   go_simp
   try rfl
  go_frame
  apply tk 12 o37_ rfl (by kernel_rfl) (fun _ _ _ h => h) zk
  ·intro wq zq
   go_simp
   try rfl
  go_frame
  refine rd 13 o38_ rfl (by kernel_rfl) fun K hK => ?_
  go_simp
  refine (operand_is (x := brk (unB f a.f) (te a)) (N := N) (W := W) (tb := tb) (m := m) (S := S) (b := bb) (by rw [HM.out]) hA ((HKa.out.below HF3.out.below HN.out).below zk.below HN.out) HN.out ((HT.out.below HF3.out.below).below zk.below) _ HW5.out (by have h := HL.out; rw [HX0.out] at h; (try simp only [List.length_append] at h |-); omega)).mono ?_
  rintro e w9 ⟨rfl, fx, wr9⟩
  have HG9 := zz (zk.trans fx)
  have HW9 := zz wr9
  clear fx wr9
  go_wp2_with fail
  refine hK.out _ _ ?_ (fun zk => ?_)
  ·exact HG9.out
  clear hK K
  try go_frame
  refine wpAnyH_done (by kernel_rfl) ?_ _
  go_wp2
  go_end0
  exact ⟨rfl, HF3.out.trans HG9.out, by rw [HX0.out]; simpa only [List.append_assoc] using HW9.out⟩
end
end Go.Proofs.YtmdhjiammcpogaaGreatDoor
