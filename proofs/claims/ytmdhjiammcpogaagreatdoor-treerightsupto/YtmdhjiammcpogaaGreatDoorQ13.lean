import Derived.Test.YtmdhjiammcpogaaGreatDoorQ12
namespace Go.Proofs.YtmdhjiammcpogaaGreatDoor
set_option maxRecDepth 100000
set_option maxHeartbeats 16000000
open Go.RowKit
variable {N W : Nat} {S : Nat -> Prop} {a : Tr} {f : Nd} {m : Md} {tb : Int} {ts : List Tr} {v : Value} {w : World} {x : List UInt8}
theorem Lst.at {b o : Nat} (h : RowAt w m S b o ts) (k : Nat) (hk : k < ts.length) : ∃ v, Hid (Cs w b (o + k * 8) ts[k].f v) /\ Hid (Kids w m S v ts[k].ks) := (h.get k hk).cs
theorem te_take {k : Nat} (h : k < ts.length) : cm ((ts.map te).take (k + 1)) = cm ((ts.map te).take k) ++ (if k = 0 then [] else [44, 32]) ++ te ts[k] := by
 rw [cm_take (by simpa using h)]
 simp
theorem parted_expr {va : Value} (hx : x = cm (ts.map te)) (hE : ∀ t ∈ ts, PutE t) (hK : Lst w m S va ts) (hN : ∀ i, S i -> i < N) (hT : TabN N w) :
 Puts N W tb x 32 #[.pointer (some ⟨W, 0, none⟩), va, .func (.func 115) #[.pointer (some ⟨W, 0, none⟩)] #[]] w := by
 obtain ⟨A, ca, ba, oa, rfl, hla, hcap, hA, hra⟩ := hK
 have HA := zz hA
 have HR := zz hra
 have HE := zz hE
 have HN := zz hN
 have HT := zz hT
 clear hA hra hE hN hT hcap
 intro acc hw hlen
 have HW0 := zz hw
 have hWl := hw.lt
 have hNw := hw.nle
 have HL := zz hlen
 have HX0 := zz hx
 clear hw hlen hx
 go_enter Tryz.func32, Tryz.ntmps32
 go_wp2
 go_loopw [10] (fun i wr => ∃ k : Nat, k <= ts.length /\ i = .int .i64 k /\ Fx N W w wr /\ Wr N W (acc ++ cm ((ts.map te).take k)) tb wr) (fun i _ => ts.length - (intOf i).toNat)
 case atStart => exact ⟨0, Nat.zero_le _, rfl, Fx.refl _ _ _, by simpa [cm] using HW0.out⟩
 case round =>
  obtain ⟨k, hk, rfl, hfx, hwr⟩ := hrel
  have hsz := hfx.size
  have HF0 := zz hfx
  have HWr := zz hwr
  clear hfx hwr HW0
  by_cases hkl : k < ts.length
  rotate_left
  ·have HE2 := zz (show cm ((ts.map te).take k) = x by rw [HX0.out, List.take_of_length_le (by simp; omega)])
   go_wp2
   go_end0
   exact ⟨rfl, HF0.out, by rw [<- HE2.out]; exact HWr.out⟩
  have i0 : (0 : Int) <= (k : Int) := by omega
  have i1 : (k : Int) < (ts.length : Int) := by omega
  obtain ⟨hA1, hb⟩ := HA.out (by omega)
  subst hA1
  obtain ⟨vk, HCk, HKk⟩ := Lst.at (HR.out.agree (Agree.of_below HF0.out.below HN.out) hb) k hkl
  obtain ⟨Ak, ck, bk, ok, rfl, _, _, _⟩ := HKk.out.form
  have HTK := zz (te_take hkl)
  have HLE := zz (show acc.length + (cm ((ts.map te).take (k + 1))).length <= 140737488355328 by have h := HL.out; rw [HX0.out] at h; have := cm_le (ts.map te) (k + 1); omega)
  by_cases h0 : k = 0
  ·have q0 : decide (0 < (k : Int)) = false := decide_eq_false (by omega)
   have q1 : ¬ (0 < k) := by omega
   have HT2 := zz (show cm ((ts.map te).take (k + 1)) = cm ((ts.map te).take k) ++ te ts[k] by rw [HTK.out, if_pos h0]; simp)
   clear HTK h0
   have k0 := HCk.out.cell
   go_wp2_with fail
   obtain ⟨w1, hw1, HB, HXb, hs1⟩ := jb wr ts[k].f (.slice Ak ts[k].ks.length ck)
   rw [hw1]
   have HF1 := zz (HF0.out.trans (Fx.of_below (N := N) (W := W) HB.out (by omega)))
   have HW1 := zz (HWr.out.below HB.out)
   clear hw1 k0
   refine (HE.out ts[k] (List.getElem_mem hkl) (N := N) (W := W) (tb := tb) (w := w1) (m := m) (S := S) (HKk.out.below HB.out fun i hi => by have := HN.out i hi; omega) HN.out (HT.out.below HF1.out.below) _ HW1.out (by have h := HLE.out; rw [HT2.out] at h; simp only [List.length_append] at h |-; omega)).mono ?_
   rintro e w2 ⟨rfl, fx, wr2⟩
   have HF2 := zz (HF1.out.trans fx)
   have HW2 := zz (show Wr N W (acc ++ cm ((ts.map te).take (k + 1))) tb w2 by rw [HT2.out, <- List.append_assoc]; exact wr2)
   clear fx wr2 HXb
   go_wp2
   go_roundw
   case rel => exact ⟨k + 1, by omega, by go_num, HF2.out, HW2.out⟩
   case measure => simp [intOf]; omega
  ·have q0 : decide (0 < (k : Int)) = true := decide_eq_true (by omega)
   have q1 : 0 < k := by omega
   have HT2 := zz (show cm ((ts.map te).take (k + 1)) = cm ((ts.map te).take k) ++ [44, 32] ++ te ts[k] by rw [HTK.out, if_neg h0])
   clear HTK h0
   have k0 := HCk.out.cell
   go_wp2_with fail
   obtain ⟨w1, hw1, HB, HXb, hs1⟩ := jb wr ts[k].f (.slice Ak ts[k].ks.length ck)
   rw [hw1]
   have HF1 := zz (HF0.out.trans (Fx.of_below (N := N) (W := W) HB.out (by omega)))
   have HW1 := zz (HWr.out.below HB.out)
   have hnb : wr.heap.size ≠ W := by omega
   clear hw1 k0
   refine (zc (x := [44, 32]) [⟨#[44, 32]⟩] (by simp [fl]) (by simp) (by omega) rfl rfl HW1.out (by have h := HLE.out; rw [HT2.out] at h; simp only [List.length_append] at h |-; omega)).mono ?_
   rintro e w2 ⟨rfl, fx, wr2⟩
   have HF2 := zz (HF1.out.trans fx)
   have HW2 := zz wr2
   have HK2 := zz ((HKk.out.below HB.out fun i hi => by have := HN.out i hi; omega).below fx.below HN.out)
   have b0 := (HXb.out.fx fx hnb).cell
   clear fx wr2 HXb
   go_wp2_with fail
   refine (HE.out ts[k] (List.getElem_mem hkl) (N := N) (W := W) (tb := tb) (w := w2) (m := m) (S := S) HK2.out HN.out (HT.out.below HF2.out.below) _ HW2.out (by have h := HLE.out; rw [HT2.out] at h; simp only [List.length_append] at h |-; omega)).mono ?_
   rintro e w3 ⟨rfl, fx, wr2⟩
   have HF3 := zz (HF2.out.trans fx)
   have HW3 := zz (show Wr N W (acc ++ cm ((ts.map te).take (k + 1))) tb w3 by rw [HT2.out]; simpa only [List.append_assoc] using wr2)
   clear fx wr2 b0
   go_wp2
   go_roundw
   case rel => exact ⟨k + 1, by omega, by go_num, HF3.out, HW3.out⟩
   case measure => simp [intOf]; omega
theorem arguments_is {va : Value} (hx : x = [40] ++ cm (ts.map te) ++ [41]) (hE : ∀ t ∈ ts, PutE t) (hK : Lst w m S va ts) (hN : ∀ i, S i -> i < N) (hT : TabN N w) :
 Puts N W tb x 142 #[.pointer (some ⟨W, 0, none⟩), va] w := by
 have HN := zz hN
 have HT := zz hT
 have HK := zz hK
 have HE := zz hE
 clear hN hT hE
 obtain ⟨A, ca, ba, oa, rfl, _, _, _, _⟩ := hK
 intro acc hw hlen
 have HW0 := zz hw
 have hWl := hw.lt
 have hNw := hw.nle
 have HX0 := zz (show x = [40] ++ cm (ts.map te) ++ [41] from hx)
 have HL := zz hlen
 have HF0 := zz (Fx.refl N W w)
 clear hw hlen
 go_enter Tryz.func142, Tryz.ntmps142
 go_wp2_with fail
 refine (zc (x := [40]) [⟨#[40]⟩] (by simp [fl]) (by simp) (by omega) rfl rfl HW0.out (by have h := HL.out; rw [HX0.out] at h; (try simp only [List.length_append] at h |-); omega)).mono ?_
 rintro e w1 ⟨rfl, fx, wr⟩
 obtain ⟨hz1, HF1, HW1⟩ := stf HF0 fx wr
 clear HF0 HW0 fx wr
 go_wp2_with fail
 refine (parted_expr (N := N) (W := W) (tb := tb) (m := m) (S := S) rfl HE.out (HK.out.below HF1.out.below HN.out) HN.out (HT.out.below HF1.out.below) _ HW1.out (by have h := HL.out; rw [HX0.out] at h; (try simp only [List.length_append] at h |-); omega)).mono ?_
 rintro e w2 ⟨rfl, fx, wr⟩
 obtain ⟨hz2, HF2, HW2⟩ := stf HF1 fx wr
 clear HF1 HW1 fx wr
 go_wp2_with fail
 refine (zc (x := [41]) [⟨#[41]⟩] (by simp [fl]) (by simp) (by omega) rfl rfl HW2.out (by have h := HL.out; rw [HX0.out] at h; (try simp only [List.length_append] at h |-); omega)).mono ?_
 rintro e w3 ⟨rfl, fx, wr⟩
 obtain ⟨hz3, HF3, HW3⟩ := stf HF2 fx wr
 clear HF2 HW2 fx wr
 go_wp2
 go_end0
 exact ⟨rfl, HF3.out, by rw [HX0.out]; first | exact HW3.out | simpa only [List.append_assoc] using HW3.out⟩
theorem making_0 {Av : Option Addr} {cv : Nat} (hx : x = [109, 97, 107, 101, 40] ++ bs f.y ++ [41]) :
 Puts N W tb x 143 #[.pointer (some ⟨W, 0, none⟩), nv f (.slice Av 0 cv)] w := by
 unfold nv
 intro acc hw hlen
 have HW0 := zz hw
 have hWl := hw.lt
 have hNw := hw.nle
 have HX0 := zz (show x = [109, 97, 107, 101, 40] ++ bs f.y ++ [41] from hx)
 have HL := zz hlen
 have HF0 := zz (Fx.refl N W w)
 clear hw hlen
 go_enter Tryz.func143, Tryz.ntmps143
 go_wp2_with fail
 obtain ⟨w1, hw1, HB, HXb, hs1⟩ := jb w f (.slice Av 0 cv)
 rw [hw1]
 clear hw1
 obtain ⟨hz1, HF1, HW1⟩ := stb hNw HF0 HW0 HB
 clear HF0 HW0
 have hnb : w.heap.size ≠ W := by have := HF1.out.size; omega
 clear HB
 refine (zc (x := [109, 97, 107, 101, 40] ++ bs f.y) [⟨#[109, 97, 107, 101, 40]⟩, f.y] (by simp [fl]) (by simp) (by omega) rfl rfl HW1.out (by have h := HL.out; rw [HX0.out] at h; (try simp only [List.length_append] at h |-); omega)).mono ?_
 rintro e w2 ⟨rfl, fx, wr⟩
 obtain ⟨hz2, HF2, HW2⟩ := stf HF1 fx wr
 replace HXb := fxx HXb fx hnb
 clear HF1 HW1 fx wr
 have b0 := HXb.out.cell
 go_wp2_with fail
 refine (zc (x := [41]) [⟨#[41]⟩] (by simp [fl]) (by simp) (by omega) rfl rfl HW2.out (by have h := HL.out; rw [HX0.out] at h; (try simp only [List.length_append] at h |-); omega)).mono ?_
 rintro e w3 ⟨rfl, fx, wr⟩
 obtain ⟨hz3, HF3, HW3⟩ := stf HF2 fx wr
 replace HXb := fxx HXb fx hnb
 clear HF2 HW2 b0
 clear fx wr
 go_wp2
 go_end0
 exact ⟨rfl, HF3.out, by rw [HX0.out]; first | exact HW3.out | simpa only [List.append_assoc] using HW3.out⟩
theorem making_1 (hx : x = [109, 97, 107, 101, 40] ++ bs f.y ++ ([44, 32] ++ te a) ++ [41]) (hA : PutE a) (hK : Kids w m S v [a]) (hN : ∀ i, S i -> i < N) (hT : TabN N w) :
 Puts N W tb x 143 #[.pointer (some ⟨W, 0, none⟩), nv f v] w := by
 replace hx : x = [109, 97, 107, 101, 40] ++ bs f.y ++ [44, 32] ++ te a ++ [41] := by rw [hx]; simp only [List.append_assoc]
 have HN := zz hN
 have HT := zz hT
 clear hN hT
 obtain ⟨bv, ov, cv, rfl, hcv, hbv, hna⟩ := hK.one1
 obtain ⟨va, HCa, HKa⟩ := hna.cs
 obtain ⟨Aa, ca, ba, oa, rfl, _, _, _⟩ := HKa.out.form
 clear hna hK
 unfold nv
 intro acc hw hlen
 have HW0 := zz hw
 have hWl := hw.lt
 have hNw := hw.nle
 have HX0 := zz (show x = [109, 97, 107, 101, 40] ++ bs f.y ++ [44, 32] ++ te a ++ [41] from hx)
 have HL := zz hlen
 have HF0 := zz (Fx.refl N W w)
 clear hw hlen
 go_enter Tryz.func143, Tryz.ntmps143
 go_wp2_with fail
 obtain ⟨w1, hw1, HB, HXb, hs1⟩ := jb w f (.slice (some ⟨bv, ov, none⟩) 1 cv)
 rw [hw1]
 clear hw1
 obtain ⟨hz1, HF1, HW1⟩ := stb hNw HF0 HW0 HB
 clear HF0 HW0
 have hnb : w.heap.size ≠ W := by have := HF1.out.size; omega
 clear HB
 refine (zc (x := [109, 97, 107, 101, 40] ++ bs f.y) [⟨#[109, 97, 107, 101, 40]⟩, f.y] (by simp [fl]) (by simp) (by omega) rfl rfl HW1.out (by have h := HL.out; rw [HX0.out] at h; (try simp only [List.length_append] at h |-); omega)).mono ?_
 rintro e w2 ⟨rfl, fx, wr⟩
 obtain ⟨hz2, HF2, HW2⟩ := stf HF1 fx wr
 replace HXb := fxx HXb fx hnb
 clear HF1 HW1 fx wr
 have b0 := HXb.out.cell
 go_wp2_with fail
 refine (zc (x := [44, 32]) [⟨#[44, 32]⟩] (by simp [fl]) (by simp) (by omega) rfl rfl HW2.out (by have h := HL.out; rw [HX0.out] at h; (try simp only [List.length_append] at h |-); omega)).mono ?_
 rintro e w3 ⟨rfl, fx, wr⟩
 obtain ⟨hz3, HF3, HW3⟩ := stf HF2 fx wr
 replace HXb := fxx HXb fx hnb
 clear HF2 HW2 b0
 clear fx wr
 have b0 := HXb.out.cell
 have a0 := (HCa.out.agree (Agree.of_below HF3.out.below HN.out) hbv).cell
 go_wp2_with fail
 refine (hA (N := N) (W := W) (tb := tb) (w := w3) (m := m) (S := S) (HKa.out.below HF3.out.below HN.out) HN.out (HT.out.below HF3.out.below) _ HW3.out (by have h := HL.out; rw [HX0.out] at h; (try simp only [List.length_append] at h |-); omega)).mono ?_
 rintro e w4 ⟨rfl, fx, wr⟩
 obtain ⟨hz4, HF4, HW4⟩ := stf HF3 fx wr
 replace HXb := fxx HXb fx hnb
 clear HF3 HW3 b0 a0
 clear fx wr
 go_wp2_with fail
 refine (zc (x := [41]) [⟨#[41]⟩] (by simp [fl]) (by simp) (by omega) rfl rfl HW4.out (by have h := HL.out; rw [HX0.out] at h; (try simp only [List.length_append] at h |-); omega)).mono ?_
 rintro e w5 ⟨rfl, fx, wr⟩
 obtain ⟨hz5, HF5, HW5⟩ := stf HF4 fx wr
 replace HXb := fxx HXb fx hnb
 clear HF4 HW4 fx wr
 go_wp2
 go_end0
 exact ⟨rfl, HF5.out, by rw [HX0.out]; first | exact HW5.out | simpa only [List.append_assoc] using HW5.out⟩
end Go.Proofs.YtmdhjiammcpogaaGreatDoor
