import Derived.Test.YtmdhjiammcpogaaGreatDoorQ23
namespace Go.Proofs.YtmdhjiammcpogaaGreatDoor
set_option maxRecDepth 100000
set_option maxHeartbeats 16000000
open Go.RowKit
variable {N W d : Nat} {S : Nat -> Prop} {a : Tr} {f : Nd} {ks r : List Tr} {m : Md} {v : Value} {w : World} {x : List UInt8}
theorem cls_take {k : Nat} (h : k < ks.length) : clsT (ks.take (k + 1)) d = clsT (ks.take k) d ++ tx ks[k] d false := by
 unfold clsT cls_
 rw [List.take_succ_eq_append_getElem h, List.map_append, List.map_append, List.flatten_append]
 congr 1
 exact List.append_nil _
theorem cls_le (k d : Nat) : (clsT (ks.take k) d).length <= (clsT ks d).length := by
 have h2 : (clsT ks d).length = (clsT (ks.take k) d).length + (clsT (ks.drop k) d).length := by
  unfold clsT cls_
  rw [<- List.length_append, <- List.flatten_append, <- List.map_append, <- List.map_append, List.take_append_drop]
 omega
theorem clauses_15 (hx : x = [115, 101, 108, 101, 99, 116, 32] ++ [123, 10] ++ clsT ks d ++ tbs d ++ [125]) (hd : d <= 1000000) (hk : f.k = 15) (hn : f.n = 0) (hE : ∀ t ∈ ks, PutC t d) (hK : Kids w m S v ks) (hN : ∀ i, S i -> i < N) (hT : TabN N w) :
 Puts N W (d : Int) x 114 #[.pointer (some ⟨W, 0, none⟩), nv f v] w := by
 have HN := zz hN
 have HT := zz hT
 clear hN hT
 obtain ⟨A, c, bv, ov, rfl, hla, hcap, hA_, hrr⟩ := hK.lstA
 have HRr := zz hrr
 have HE := zz hE
 clear hE hrr hcap hK
 unfold nv
 have q15 := yk hk
 have qn := nk 1 hn rfl
 clear hk hn
 by_cases h0 : 0 < ks.length
 ·obtain ⟨rfl, hbv⟩ := hA_ h0
  clear hA_
  intro acc hw hlen
  have HW0 := zz hw
  have hWl := hw.lt
  have hNw := hw.nle
  have HX0 := zz (show x = [115, 101, 108, 101, 99, 116, 32] ++ [123, 10] ++ clsT ks d ++ tbs d ++ [125] from hx)
  have HL := zz hlen
  have HF0 := zz (Fx.refl N W w)
  clear hw hlen
  go_enter Tryz.func114, Tryz.ntmps114
  go_wp2_with fail
  obtain ⟨w1, hw1, HB, HXb, hs1⟩ := jb w f (.slice (some ⟨bv, ov, none⟩) ks.length c)
  rw [hw1]
  clear hw1
  obtain ⟨hz1, HF1, HW1⟩ := stb hNw HF0 HW0 HB
  clear HF0 HW0
  have hnb : w.heap.size ≠ W := by have := HF1.out.size; omega
  clear HB
  refine (zc (x := [115, 101, 108, 101, 99, 116, 32]) [⟨#[115, 101, 108, 101, 99, 116, 32]⟩] (by simp [fl]) (by simp) (by omega) rfl rfl HW1.out (by have h := HL.out; rw [HX0.out] at h; (try simp only [List.length_append] at h |-); omega)).mono ?_
  rintro e w2 ⟨rfl, fx, wr⟩
  obtain ⟨hz2, HF2, HW2⟩ := stf HF1 fx wr
  replace HXb := fxx HXb fx hnb
  clear HF1 HW1 fx wr
  have b0 := HXb.out.cell
  go_wp2_with fail
  refine (zc (x := [123, 10]) [⟨#[123, 10]⟩] (by simp [fl]) (by simp) (by omega) rfl rfl HW2.out (by have h := HL.out; rw [HX0.out] at h; (try simp only [List.length_append] at h |-); omega)).mono ?_
  rintro e w3 ⟨rfl, fx, wr⟩
  obtain ⟨hz3, HF3, HW3⟩ := stf HF2 fx wr
  replace HXb := fxx HXb fx hnb
  clear HF2 HW2 b0
  clear fx wr
  go_wp2
  go_loopw [36] (fun i wr => ∃ k : Nat, k <= ks.length /\ i = .int .i64 k /\ Fx N W w wr /\ Wr N W ((acc ++ ([115, 101, 108, 101, 99, 116, 32] ++ [123, 10])) ++ clsT (ks.take k) d) (d : Int) wr) (fun i _ => ks.length - (intOf i).toNat)
  case atStart => exact ⟨0, Nat.zero_le _, rfl, HF3.out, by simpa [clsT, cls_] using HW3.out⟩
  case round =>
   obtain ⟨k, hk, rfl, hfx, hwr⟩ := hrel
   have hsz := hfx.size
   have HF90 := zz hfx
   have HW90 := zz hwr
   clear hfx hwr HF3 HW3 HXb
   by_cases hkl : k < ks.length
   rotate_left
   ·replace HW90 := zz (show Wr N W (acc ++ ([115, 101, 108, 101, 99, 116, 32] ++ [123, 10] ++ clsT ks d)) (d : Int) wr from by have h := HW90.out; rw [List.take_of_length_le (by omega)] at h; first | exact h | simpa only [List.append_assoc] using h)
    obtain ⟨w90, hw90⟩ : ∃ u, u = wr := ⟨_, rfl⟩
    subst hw90
    go_wp2_with fail
    refine (indent_is (N := N) (W := W) (d := d) (by omega) _ HW90.out (by have h := HL.out; rw [HX0.out] at h; (try simp only [List.length_append] at h |-); omega)).mono ?_
    rintro e w91 ⟨rfl, fx, wr⟩
    obtain ⟨hz91, HF91, HW91⟩ := stf HF90 fx wr
    clear HF90 HW90 fx wr
    go_wp2_with fail
    refine (zc (x := [125]) [⟨#[125]⟩] (by simp [fl]) (by simp) (by omega) rfl rfl HW91.out (by have h := HL.out; rw [HX0.out] at h; (try simp only [List.length_append] at h |-); omega)).mono ?_
    rintro e w92 ⟨rfl, fx, wr⟩
    obtain ⟨hz92, HF92, HW92⟩ := stf HF91 fx wr
    clear HF91 HW91 fx wr
    go_wp2
    go_end0
    exact ⟨rfl, HF92.out, by rw [HX0.out]; first | exact HW92.out | simpa only [List.append_assoc] using HW92.out⟩
   have i0 : (0 : Int) <= (k : Int) := by omega
   have i1 : (k : Int) < (ks.length : Int) := by omega
   obtain ⟨vk, HCk, HKk⟩ := Lst.at (HRr.out.agree (Agree.of_below HF90.out.below HN.out) hbv) k hkl
   obtain ⟨Ak, ck, bk, ok, rfl, h1_, h2_, h3_⟩ := HKk.out.form
   clear h1_ h2_ h3_
   have HT2 := zz (cls_take (d := d) hkl)
   have HLE := zz (show (acc ++ ([115, 101, 108, 101, 99, 116, 32] ++ [123, 10])).length + (clsT (ks.take (k + 1)) d).length <= 140737488355328 by have h := HL.out; rw [HX0.out] at h; have := cls_le (ks := ks) (k + 1) d; (try simp only [List.length_append] at h |-); omega)
   have k0 := HCk.out.cell
   go_wp2_with fail
   obtain ⟨w93, hw93, HB, HXb, hs93⟩ := jb wr ks[k].f (.slice Ak ks[k].ks.length ck)
   rw [hw93]
   have HF93 := zz (HF90.out.trans (Fx.of_below (N := N) (W := W) HB.out (by omega)))
   have HW93 := zz (HW90.out.below HB.out)
   have HK93 := zz (HKk.out.below HB.out fun i hi => by have := HN.out i hi; omega)
   clear hw93 k0 HB HXb
   refine (HE.out ks[k] (List.getElem_mem hkl) (N := N) (W := W) (w := w93) (m := m) (S := S) HK93.out HN.out (HT.out.below HF93.out.below) _ HW93.out (by have h := HLE.out; rw [HT2.out] at h; simp only [List.length_append] at h |-; omega)).mono ?_
   rintro e w94 ⟨rfl, fx, wr2⟩
   have HF94 := zz (HF93.out.trans fx)
   have HW94 := zz (show Wr N W ((acc ++ ([115, 101, 108, 101, 99, 116, 32] ++ [123, 10])) ++ clsT (ks.take (k + 1)) d) (d : Int) w94 by rw [HT2.out, <- List.append_assoc]; exact wr2)
   clear fx wr2 HF93 HW93 HK93
   go_wp2
   go_roundw
   case rel => exact ⟨k + 1, by omega, by go_num, HF94.out, HW94.out⟩
   case measure => simp [intOf]; omega
 ·obtain rfl : ks = [] := List.eq_nil_of_length_eq_zero (by omega)
  replace hx : x = [115, 101, 108, 101, 99, 116, 32] ++ [123, 10] ++ tbs d ++ [125] := by rw [hx]; simp [clsT, cls_]
  clear hA_ HRr HE h0
  simp only [List.length_nil]
  intro acc hw hlen
  have HW0 := zz hw
  have hWl := hw.lt
  have hNw := hw.nle
  have HX0 := zz (show x = [115, 101, 108, 101, 99, 116, 32] ++ [123, 10] ++ tbs d ++ [125] from hx)
  have HL := zz hlen
  have HF0 := zz (Fx.refl N W w)
  clear hw hlen
  go_enter Tryz.func114, Tryz.ntmps114
  go_wp2_with fail
  obtain ⟨w1, hw1, HB, HXb, hs1⟩ := jb w f (.slice A 0 c)
  rw [hw1]
  clear hw1
  obtain ⟨hz1, HF1, HW1⟩ := stb hNw HF0 HW0 HB
  clear HF0 HW0
  have hnb : w.heap.size ≠ W := by have := HF1.out.size; omega
  clear HB
  refine (zc (x := [115, 101, 108, 101, 99, 116, 32]) [⟨#[115, 101, 108, 101, 99, 116, 32]⟩] (by simp [fl]) (by simp) (by omega) rfl rfl HW1.out (by have h := HL.out; rw [HX0.out] at h; (try simp only [List.length_append] at h |-); omega)).mono ?_
  rintro e w2 ⟨rfl, fx, wr⟩
  obtain ⟨hz2, HF2, HW2⟩ := stf HF1 fx wr
  replace HXb := fxx HXb fx hnb
  clear HF1 HW1 fx wr
  have b0 := HXb.out.cell
  go_wp2_with fail
  refine (zc (x := [123, 10]) [⟨#[123, 10]⟩] (by simp [fl]) (by simp) (by omega) rfl rfl HW2.out (by have h := HL.out; rw [HX0.out] at h; (try simp only [List.length_append] at h |-); omega)).mono ?_
  rintro e w3 ⟨rfl, fx, wr⟩
  obtain ⟨hz3, HF3, HW3⟩ := stf HF2 fx wr
  replace HXb := fxx HXb fx hnb
  clear HF2 HW2 b0
  clear fx wr
  go_wp2
  go_loopw [36] (fun i wr => i = .int .i64 0 /\ wr = w3) (fun _ _ => 0)
  case atStart => exact ⟨rfl, rfl⟩
  case round =>
   obtain ⟨rfl, rfl⟩ := hrel
   go_wp2_with fail
   refine (indent_is (N := N) (W := W) (d := d) (by omega) _ HW3.out (by have h := HL.out; rw [HX0.out] at h; (try simp only [List.length_append] at h |-); omega)).mono ?_
   rintro e w4 ⟨rfl, fx, wr⟩
   obtain ⟨hz4, HF4, HW4⟩ := stf HF3 fx wr
   replace HXb := fxx HXb fx hnb
   clear HF3 HW3 fx wr
   go_wp2_with fail
   refine (zc (x := [125]) [⟨#[125]⟩] (by simp [fl]) (by simp) (by omega) rfl rfl HW4.out (by have h := HL.out; rw [HX0.out] at h; (try simp only [List.length_append] at h |-); omega)).mono ?_
   rintro e w5 ⟨rfl, fx, wr⟩
   obtain ⟨hz5, HF5, HW5⟩ := stf HF4 fx wr
   replace HXb := fxx HXb fx hnb
   clear HF4 HW4 fx wr
   go_wp2
   go_end0
   exact ⟨rfl, HF5.out, by rw [HX0.out]; first | exact HW5.out | simpa only [List.append_assoc] using HW5.out⟩
theorem clauses_13z (hx : x = [115, 119, 105, 116, 99, 104, 32] ++ [123, 10] ++ clsT ks d ++ tbs d ++ [125]) (hd : d <= 1000000) (hk : f.k = 13) (hn : f.n = 0) (hE : ∀ t ∈ ks, PutC t d) (hK : Kids w m S v ks) (hN : ∀ i, S i -> i < N) (hT : TabN N w) :
 Puts N W (d : Int) x 114 #[.pointer (some ⟨W, 0, none⟩), nv f v] w := by
 have HN := zz hN
 have HT := zz hT
 clear hN hT
 obtain ⟨A, c, bv, ov, rfl, hla, hcap, hA_, hrr⟩ := hK.lstA
 have HRr := zz hrr
 have HE := zz hE
 clear hE hrr hcap hK
 unfold nv
 have q15 := nk 15 hk rfl
 have qn := nk 1 hn rfl
 clear hk hn
 by_cases h0 : 0 < ks.length
 ·obtain ⟨rfl, hbv⟩ := hA_ h0
  clear hA_
  intro acc hw hlen
  have HW0 := zz hw
  have hWl := hw.lt
  have hNw := hw.nle
  have HX0 := zz (show x = [115, 119, 105, 116, 99, 104, 32] ++ [123, 10] ++ clsT ks d ++ tbs d ++ [125] from hx)
  have HL := zz hlen
  have HF0 := zz (Fx.refl N W w)
  clear hw hlen
  go_enter Tryz.func114, Tryz.ntmps114
  go_wp2_with fail
  obtain ⟨w1, hw1, HB, HXb, hs1⟩ := jb w f (.slice (some ⟨bv, ov, none⟩) ks.length c)
  rw [hw1]
  clear hw1
  obtain ⟨hz1, HF1, HW1⟩ := stb hNw HF0 HW0 HB
  clear HF0 HW0
  have hnb : w.heap.size ≠ W := by have := HF1.out.size; omega
  clear HB
  refine (zc (x := [115, 119, 105, 116, 99, 104, 32]) [⟨#[115, 119, 105, 116, 99, 104, 32]⟩] (by simp [fl]) (by simp) (by omega) rfl rfl HW1.out (by have h := HL.out; rw [HX0.out] at h; (try simp only [List.length_append] at h |-); omega)).mono ?_
  rintro e w2 ⟨rfl, fx, wr⟩
  obtain ⟨hz2, HF2, HW2⟩ := stf HF1 fx wr
  replace HXb := fxx HXb fx hnb
  clear HF1 HW1 fx wr
  have b0 := HXb.out.cell
  go_wp2_with fail
  refine (zc (x := [123, 10]) [⟨#[123, 10]⟩] (by simp [fl]) (by simp) (by omega) rfl rfl HW2.out (by have h := HL.out; rw [HX0.out] at h; (try simp only [List.length_append] at h |-); omega)).mono ?_
  rintro e w3 ⟨rfl, fx, wr⟩
  obtain ⟨hz3, HF3, HW3⟩ := stf HF2 fx wr
  replace HXb := fxx HXb fx hnb
  clear HF2 HW2 b0
  clear fx wr
  go_wp2
  go_loopw [36] (fun i wr => ∃ k : Nat, k <= ks.length /\ i = .int .i64 k /\ Fx N W w wr /\ Wr N W ((acc ++ ([115, 119, 105, 116, 99, 104, 32] ++ [123, 10])) ++ clsT (ks.take k) d) (d : Int) wr) (fun i _ => ks.length - (intOf i).toNat)
  case atStart => exact ⟨0, Nat.zero_le _, rfl, HF3.out, by simpa [clsT, cls_] using HW3.out⟩
  case round =>
   obtain ⟨k, hk, rfl, hfx, hwr⟩ := hrel
   have hsz := hfx.size
   have HF90 := zz hfx
   have HW90 := zz hwr
   clear hfx hwr HF3 HW3 HXb
   by_cases hkl : k < ks.length
   rotate_left
   ·replace HW90 := zz (show Wr N W (acc ++ ([115, 119, 105, 116, 99, 104, 32] ++ [123, 10] ++ clsT ks d)) (d : Int) wr from by have h := HW90.out; rw [List.take_of_length_le (by omega)] at h; first | exact h | simpa only [List.append_assoc] using h)
    obtain ⟨w90, hw90⟩ : ∃ u, u = wr := ⟨_, rfl⟩
    subst hw90
    go_wp2_with fail
    refine (indent_is (N := N) (W := W) (d := d) (by omega) _ HW90.out (by have h := HL.out; rw [HX0.out] at h; (try simp only [List.length_append] at h |-); omega)).mono ?_
    rintro e w91 ⟨rfl, fx, wr⟩
    obtain ⟨hz91, HF91, HW91⟩ := stf HF90 fx wr
    clear HF90 HW90 fx wr
    go_wp2_with fail
    refine (zc (x := [125]) [⟨#[125]⟩] (by simp [fl]) (by simp) (by omega) rfl rfl HW91.out (by have h := HL.out; rw [HX0.out] at h; (try simp only [List.length_append] at h |-); omega)).mono ?_
    rintro e w92 ⟨rfl, fx, wr⟩
    obtain ⟨hz92, HF92, HW92⟩ := stf HF91 fx wr
    clear HF91 HW91 fx wr
    go_wp2
    go_end0
    exact ⟨rfl, HF92.out, by rw [HX0.out]; first | exact HW92.out | simpa only [List.append_assoc] using HW92.out⟩
   have i0 : (0 : Int) <= (k : Int) := by omega
   have i1 : (k : Int) < (ks.length : Int) := by omega
   obtain ⟨vk, HCk, HKk⟩ := Lst.at (HRr.out.agree (Agree.of_below HF90.out.below HN.out) hbv) k hkl
   obtain ⟨Ak, ck, bk, ok, rfl, h1_, h2_, h3_⟩ := HKk.out.form
   clear h1_ h2_ h3_
   have HT2 := zz (cls_take (d := d) hkl)
   have HLE := zz (show (acc ++ ([115, 119, 105, 116, 99, 104, 32] ++ [123, 10])).length + (clsT (ks.take (k + 1)) d).length <= 140737488355328 by have h := HL.out; rw [HX0.out] at h; have := cls_le (ks := ks) (k + 1) d; (try simp only [List.length_append] at h |-); omega)
   have k0 := HCk.out.cell
   go_wp2_with fail
   obtain ⟨w93, hw93, HB, HXb, hs93⟩ := jb wr ks[k].f (.slice Ak ks[k].ks.length ck)
   rw [hw93]
   have HF93 := zz (HF90.out.trans (Fx.of_below (N := N) (W := W) HB.out (by omega)))
   have HW93 := zz (HW90.out.below HB.out)
   have HK93 := zz (HKk.out.below HB.out fun i hi => by have := HN.out i hi; omega)
   clear hw93 k0 HB HXb
   refine (HE.out ks[k] (List.getElem_mem hkl) (N := N) (W := W) (w := w93) (m := m) (S := S) HK93.out HN.out (HT.out.below HF93.out.below) _ HW93.out (by have h := HLE.out; rw [HT2.out] at h; simp only [List.length_append] at h |-; omega)).mono ?_
   rintro e w94 ⟨rfl, fx, wr2⟩
   have HF94 := zz (HF93.out.trans fx)
   have HW94 := zz (show Wr N W ((acc ++ ([115, 119, 105, 116, 99, 104, 32] ++ [123, 10])) ++ clsT (ks.take (k + 1)) d) (d : Int) w94 by rw [HT2.out, <- List.append_assoc]; exact wr2)
   clear fx wr2 HF93 HW93 HK93
   go_wp2
   go_roundw
   case rel => exact ⟨k + 1, by omega, by go_num, HF94.out, HW94.out⟩
   case measure => simp [intOf]; omega
 ·obtain rfl : ks = [] := List.eq_nil_of_length_eq_zero (by omega)
  replace hx : x = [115, 119, 105, 116, 99, 104, 32] ++ [123, 10] ++ tbs d ++ [125] := by rw [hx]; simp [clsT, cls_]
  clear hA_ HRr HE h0
  simp only [List.length_nil]
  intro acc hw hlen
  have HW0 := zz hw
  have hWl := hw.lt
  have hNw := hw.nle
  have HX0 := zz (show x = [115, 119, 105, 116, 99, 104, 32] ++ [123, 10] ++ tbs d ++ [125] from hx)
  have HL := zz hlen
  have HF0 := zz (Fx.refl N W w)
  clear hw hlen
  go_enter Tryz.func114, Tryz.ntmps114
  go_wp2_with fail
  obtain ⟨w1, hw1, HB, HXb, hs1⟩ := jb w f (.slice A 0 c)
  rw [hw1]
  clear hw1
  obtain ⟨hz1, HF1, HW1⟩ := stb hNw HF0 HW0 HB
  clear HF0 HW0
  have hnb : w.heap.size ≠ W := by have := HF1.out.size; omega
  clear HB
  refine (zc (x := [115, 119, 105, 116, 99, 104, 32]) [⟨#[115, 119, 105, 116, 99, 104, 32]⟩] (by simp [fl]) (by simp) (by omega) rfl rfl HW1.out (by have h := HL.out; rw [HX0.out] at h; (try simp only [List.length_append] at h |-); omega)).mono ?_
  rintro e w2 ⟨rfl, fx, wr⟩
  obtain ⟨hz2, HF2, HW2⟩ := stf HF1 fx wr
  replace HXb := fxx HXb fx hnb
  clear HF1 HW1 fx wr
  have b0 := HXb.out.cell
  go_wp2_with fail
  refine (zc (x := [123, 10]) [⟨#[123, 10]⟩] (by simp [fl]) (by simp) (by omega) rfl rfl HW2.out (by have h := HL.out; rw [HX0.out] at h; (try simp only [List.length_append] at h |-); omega)).mono ?_
  rintro e w3 ⟨rfl, fx, wr⟩
  obtain ⟨hz3, HF3, HW3⟩ := stf HF2 fx wr
  replace HXb := fxx HXb fx hnb
  clear HF2 HW2 b0
  clear fx wr
  go_wp2
  go_loopw [36] (fun i wr => i = .int .i64 0 /\ wr = w3) (fun _ _ => 0)
  case atStart => exact ⟨rfl, rfl⟩
  case round =>
   obtain ⟨rfl, rfl⟩ := hrel
   go_wp2_with fail
   refine (indent_is (N := N) (W := W) (d := d) (by omega) _ HW3.out (by have h := HL.out; rw [HX0.out] at h; (try simp only [List.length_append] at h |-); omega)).mono ?_
   rintro e w4 ⟨rfl, fx, wr⟩
   obtain ⟨hz4, HF4, HW4⟩ := stf HF3 fx wr
   replace HXb := fxx HXb fx hnb
   clear HF3 HW3 fx wr
   go_wp2_with fail
   refine (zc (x := [125]) [⟨#[125]⟩] (by simp [fl]) (by simp) (by omega) rfl rfl HW4.out (by have h := HL.out; rw [HX0.out] at h; (try simp only [List.length_append] at h |-); omega)).mono ?_
   rintro e w5 ⟨rfl, fx, wr⟩
   obtain ⟨hz5, HF5, HW5⟩ := stf HF4 fx wr
   replace HXb := fxx HXb fx hnb
   clear HF4 HW4 fx wr
   go_wp2
   go_end0
   exact ⟨rfl, HF5.out, by rw [HX0.out]; first | exact HW5.out | simpa only [List.append_assoc] using HW5.out⟩
theorem clauses_13 (hx : x = [115, 119, 105, 116, 99, 104, 32] ++ te a ++ [32] ++ [123, 10] ++ clsT r d ++ tbs d ++ [125]) (hd : d <= 1000000) (hk : f.k = 13) (hn : f.n = 1) (hA : PutE a) (hE : ∀ t ∈ r, PutC t d) (hK : Kids w m S v (a :: r)) (hN : ∀ i, S i -> i < N) (hT : TabN N w) :
 Puts N W (d : Int) x 114 #[.pointer (some ⟨W, 0, none⟩), nv f v] w := by
 have HN := zz hN
 have HT := zz hT
 clear hN hT
 obtain ⟨bv, ov, cv, rfl, hcv, hlv, hbv, hn_a, hrr⟩ := hK.cons1
 have HRr := zz hrr
 have HE := zz hE
 obtain ⟨va, HCa, HKa⟩ := hn_a.cs
 obtain ⟨Aa, ca, ba, oa, rfl, h1_, h2_, h3_⟩ := HKa.out.form
 clear h1_ h2_ h3_ hE hrr hK hn_a
 unfold nv
 have q15 := nk 15 hk rfl
 have qn := yk hn
 clear hk hn
 by_cases h0 : 0 < r.length
 ·have hc1 : ¬ cv = 1 := by omega
  have hc2 := beq_false_of_ne hc1
  intro acc hw hlen
  have HW0 := zz hw
  have hWl := hw.lt
  have hNw := hw.nle
  have HX0 := zz (show x = [115, 119, 105, 116, 99, 104, 32] ++ te a ++ [32] ++ [123, 10] ++ clsT r d ++ tbs d ++ [125] from hx)
  have HL := zz hlen
  have HF0 := zz (Fx.refl N W w)
  clear hw hlen
  go_enter Tryz.func114, Tryz.ntmps114
  go_wp2_with fail
  obtain ⟨w1, hw1, HB, HXb, hs1⟩ := jb w f (.slice (some ⟨bv, ov, none⟩) (r.length + 1) cv)
  rw [hw1]
  clear hw1
  obtain ⟨hz1, HF1, HW1⟩ := stb hNw HF0 HW0 HB
  clear HF0 HW0
  have hnb : w.heap.size ≠ W := by have := HF1.out.size; omega
  clear HB
  refine (zc (x := [115, 119, 105, 116, 99, 104, 32]) [⟨#[115, 119, 105, 116, 99, 104, 32]⟩] (by simp [fl]) (by simp) (by omega) rfl rfl HW1.out (by have h := HL.out; rw [HX0.out] at h; (try simp only [List.length_append] at h |-); omega)).mono ?_
  rintro e w2 ⟨rfl, fx, wr⟩
  obtain ⟨hz2, HF2, HW2⟩ := stf HF1 fx wr
  replace HXb := fxx HXb fx hnb
  clear HF1 HW1 fx wr
  have b0 := HXb.out.cell
  have a0 := (HCa.out.agree (Agree.of_below HF2.out.below HN.out) hbv).cell
  go_wp2_with fail
  refine (hA (N := N) (W := W) (tb := (d : Int)) (w := w2) (m := m) (S := S) (HKa.out.below HF2.out.below HN.out) HN.out (HT.out.below HF2.out.below) _ HW2.out (by have h := HL.out; rw [HX0.out] at h; (try simp only [List.length_append] at h |-); omega)).mono ?_
  rintro e w3 ⟨rfl, fx, wr⟩
  obtain ⟨hz3, HF3, HW3⟩ := stf HF2 fx wr
  replace HXb := fxx HXb fx hnb
  clear HF2 HW2 b0 a0
  clear fx wr
  go_wp2_with fail
  refine (zc (x := [32]) [⟨#[32]⟩] (by simp [fl]) (by simp) (by omega) rfl rfl HW3.out (by have h := HL.out; rw [HX0.out] at h; (try simp only [List.length_append] at h |-); omega)).mono ?_
  rintro e w4 ⟨rfl, fx, wr⟩
  obtain ⟨hz4, HF4, HW4⟩ := stf HF3 fx wr
  replace HXb := fxx HXb fx hnb
  clear HF3 HW3 fx wr
  go_wp2_with fail
  refine (zc (x := [123, 10]) [⟨#[123, 10]⟩] (by simp [fl]) (by simp) (by omega) rfl rfl HW4.out (by have h := HL.out; rw [HX0.out] at h; (try simp only [List.length_append] at h |-); omega)).mono ?_
  rintro e w5 ⟨rfl, fx, wr⟩
  obtain ⟨hz5, HF5, HW5⟩ := stf HF4 fx wr
  replace HXb := fxx HXb fx hnb
  clear HF4 HW4 fx wr
  go_wp2
  go_loopw [36] (fun i wr => ∃ k : Nat, k <= r.length /\ i = .int .i64 k /\ Fx N W w wr /\ Wr N W ((acc ++ ([115, 119, 105, 116, 99, 104, 32] ++ te a ++ [32] ++ [123, 10])) ++ clsT (r.take k) d) (d : Int) wr) (fun i _ => r.length - (intOf i).toNat)
  case atStart => exact ⟨0, Nat.zero_le _, rfl, HF5.out, by simpa [clsT, cls_] using HW5.out⟩
  case round =>
   obtain ⟨k, hk, rfl, hfx, hwr⟩ := hrel
   have hsz := hfx.size
   have HF90 := zz hfx
   have HW90 := zz hwr
   clear hfx hwr HF5 HW5 HXb
   by_cases hkl : k < r.length
   rotate_left
   ·replace HW90 := zz (show Wr N W (acc ++ ([115, 119, 105, 116, 99, 104, 32] ++ te a ++ [32] ++ [123, 10] ++ clsT r d)) (d : Int) wr from by have h := HW90.out; rw [List.take_of_length_le (by omega)] at h; first | exact h | simpa only [List.append_assoc] using h)
    obtain ⟨w90, hw90⟩ : ∃ u, u = wr := ⟨_, rfl⟩
    subst hw90
    go_wp2_with fail
    refine (indent_is (N := N) (W := W) (d := d) (by omega) _ HW90.out (by have h := HL.out; rw [HX0.out] at h; (try simp only [List.length_append] at h |-); omega)).mono ?_
    rintro e w91 ⟨rfl, fx, wr⟩
    obtain ⟨hz91, HF91, HW91⟩ := stf HF90 fx wr
    clear HF90 HW90 fx wr
    go_wp2_with fail
    refine (zc (x := [125]) [⟨#[125]⟩] (by simp [fl]) (by simp) (by omega) rfl rfl HW91.out (by have h := HL.out; rw [HX0.out] at h; (try simp only [List.length_append] at h |-); omega)).mono ?_
    rintro e w92 ⟨rfl, fx, wr⟩
    obtain ⟨hz92, HF92, HW92⟩ := stf HF91 fx wr
    clear HF91 HW91 fx wr
    go_wp2
    go_end0
    exact ⟨rfl, HF92.out, by rw [HX0.out]; first | exact HW92.out | simpa only [List.append_assoc] using HW92.out⟩
   have i0 : (0 : Int) <= (k : Int) := by omega
   have i1 : (k : Int) < (r.length : Int) := by omega
   obtain ⟨vk, HCk, HKk⟩ := Lst.at (HRr.out.agree (Agree.of_below HF90.out.below HN.out) hbv) k hkl
   obtain ⟨Ak, ck, bk, ok, rfl, h1_, h2_, h3_⟩ := HKk.out.form
   clear h1_ h2_ h3_
   have HT2 := zz (cls_take (d := d) hkl)
   have HLE := zz (show (acc ++ ([115, 119, 105, 116, 99, 104, 32] ++ te a ++ [32] ++ [123, 10])).length + (clsT (r.take (k + 1)) d).length <= 140737488355328 by have h := HL.out; rw [HX0.out] at h; have := cls_le (ks := r) (k + 1) d; (try simp only [List.length_append] at h |-); omega)
   have k0 := HCk.out.cell
   go_wp2_with fail
   obtain ⟨w93, hw93, HB, HXb, hs93⟩ := jb wr r[k].f (.slice Ak r[k].ks.length ck)
   rw [hw93]
   have HF93 := zz (HF90.out.trans (Fx.of_below (N := N) (W := W) HB.out (by omega)))
   have HW93 := zz (HW90.out.below HB.out)
   have HK93 := zz (HKk.out.below HB.out fun i hi => by have := HN.out i hi; omega)
   clear hw93 k0 HB HXb
   refine (HE.out r[k] (List.getElem_mem hkl) (N := N) (W := W) (w := w93) (m := m) (S := S) HK93.out HN.out (HT.out.below HF93.out.below) _ HW93.out (by have h := HLE.out; rw [HT2.out] at h; simp only [List.length_append] at h |-; omega)).mono ?_
   rintro e w94 ⟨rfl, fx, wr2⟩
   have HF94 := zz (HF93.out.trans fx)
   have HW94 := zz (show Wr N W ((acc ++ ([115, 119, 105, 116, 99, 104, 32] ++ te a ++ [32] ++ [123, 10])) ++ clsT (r.take (k + 1)) d) (d : Int) w94 by rw [HT2.out, <- List.append_assoc]; exact wr2)
   clear fx wr2 HF93 HW93 HK93
   go_wp2
   go_roundw
   case rel => exact ⟨k + 1, by omega, by go_num, HF94.out, HW94.out⟩
   case measure => simp [intOf]; omega
 ·obtain rfl : r = [] := List.eq_nil_of_length_eq_zero (by omega)
  replace hx : x = [115, 119, 105, 116, 99, 104, 32] ++ te a ++ [32] ++ [123, 10] ++ tbs d ++ [125] := by rw [hx]; simp [clsT, cls_]
  clear HRr HE h0
  simp only [List.length_nil, Nat.zero_add] at *
  intro acc hw hlen
  have HW0 := zz hw
  have hWl := hw.lt
  have hNw := hw.nle
  have HX0 := zz (show x = [115, 119, 105, 116, 99, 104, 32] ++ te a ++ [32] ++ [123, 10] ++ tbs d ++ [125] from hx)
  have HL := zz hlen
  have HF0 := zz (Fx.refl N W w)
  clear hw hlen
  go_enter Tryz.func114, Tryz.ntmps114
  go_wp2_with fail
  obtain ⟨w1, hw1, HB, HXb, hs1⟩ := jb w f (.slice (some ⟨bv, ov, none⟩) 1 cv)
  rw [hw1]
  clear hw1
  obtain ⟨hz1, HF1, HW1⟩ := stb hNw HF0 HW0 HB
  clear HF0 HW0
  have hnb : w.heap.size ≠ W := by have := HF1.out.size; omega
  clear HB
  refine (zc (x := [115, 119, 105, 116, 99, 104, 32]) [⟨#[115, 119, 105, 116, 99, 104, 32]⟩] (by simp [fl]) (by simp) (by omega) rfl rfl HW1.out (by have h := HL.out; rw [HX0.out] at h; (try simp only [List.length_append] at h |-); omega)).mono ?_
  rintro e w2 ⟨rfl, fx, wr⟩
  obtain ⟨hz2, HF2, HW2⟩ := stf HF1 fx wr
  replace HXb := fxx HXb fx hnb
  clear HF1 HW1 fx wr
  have b0 := HXb.out.cell
  have a0 := (HCa.out.agree (Agree.of_below HF2.out.below HN.out) hbv).cell
  go_wp2_with fail
  refine (hA (N := N) (W := W) (tb := (d : Int)) (w := w2) (m := m) (S := S) (HKa.out.below HF2.out.below HN.out) HN.out (HT.out.below HF2.out.below) _ HW2.out (by have h := HL.out; rw [HX0.out] at h; (try simp only [List.length_append] at h |-); omega)).mono ?_
  rintro e w3 ⟨rfl, fx, wr⟩
  obtain ⟨hz3, HF3, HW3⟩ := stf HF2 fx wr
  replace HXb := fxx HXb fx hnb
  clear HF2 HW2 b0 a0
  clear fx wr
  go_wp2_with fail
  refine (zc (x := [32]) [⟨#[32]⟩] (by simp [fl]) (by simp) (by omega) rfl rfl HW3.out (by have h := HL.out; rw [HX0.out] at h; (try simp only [List.length_append] at h |-); omega)).mono ?_
  rintro e w4 ⟨rfl, fx, wr⟩
  obtain ⟨hz4, HF4, HW4⟩ := stf HF3 fx wr
  replace HXb := fxx HXb fx hnb
  clear HF3 HW3 fx wr
  go_wp2_with fail
  all_goals
   refine (zc (x := [123, 10]) [⟨#[123, 10]⟩] (by simp [fl]) (by simp) (by omega) rfl rfl HW4.out (by have h := HL.out; rw [HX0.out] at h; (try simp only [List.length_append] at h |-); omega)).mono ?_
   rintro e w5 ⟨rfl, fx, wr⟩
   obtain ⟨hz5, HF5, HW5⟩ := stf HF4 fx wr
   replace HXb := fxx HXb fx hnb
   clear HF4 HW4 fx wr
   go_wp2
   go_loopw [36] (fun i wr => i = .int .i64 0 /\ wr = w5) (fun _ _ => 0)
   case atStart => exact ⟨rfl, rfl⟩
   case round =>
    obtain ⟨rfl, rfl⟩ := hrel
    go_wp2_with fail
    refine (indent_is (N := N) (W := W) (d := d) (by omega) _ HW5.out (by have h := HL.out; rw [HX0.out] at h; (try simp only [List.length_append] at h |-); omega)).mono ?_
    rintro e w6 ⟨rfl, fx, wr⟩
    obtain ⟨hz6, HF6, HW6⟩ := stf HF5 fx wr
    replace HXb := fxx HXb fx hnb
    clear HF5 HW5 fx wr
    go_wp2_with fail
    refine (zc (x := [125]) [⟨#[125]⟩] (by simp [fl]) (by simp) (by omega) rfl rfl HW6.out (by have h := HL.out; rw [HX0.out] at h; (try simp only [List.length_append] at h |-); omega)).mono ?_
    rintro e w7 ⟨rfl, fx, wr⟩
    obtain ⟨hz7, HF7, HW7⟩ := stf HF6 fx wr
    replace HXb := fxx HXb fx hnb
    clear HF6 HW6 fx wr
    go_wp2
    go_end0
    exact ⟨rfl, HF7.out, by rw [HX0.out]; first | exact HW7.out | simpa only [List.append_assoc] using HW7.out⟩
end Go.Proofs.YtmdhjiammcpogaaGreatDoor
