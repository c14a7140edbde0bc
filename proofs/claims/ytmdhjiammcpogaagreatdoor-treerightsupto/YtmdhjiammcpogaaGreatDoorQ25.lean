import Derived.Test.YtmdhjiammcpogaaGreatDoorQ16
import Derived.Test.YtmdhjiammcpogaaGreatDoorQ17
import Derived.Test.YtmdhjiammcpogaaGreatDoorQ18
import Derived.Test.YtmdhjiammcpogaaGreatDoorQ24
namespace Go.Proofs.YtmdhjiammcpogaaGreatDoor
set_option maxRecDepth 100000
set_option maxHeartbeats 16000000
section
open Go.RowKit
variable {A : Option Addr} {N W c n : Nat} {S : Nat -> Prop} {a t : Tr} {f : Nd} {m : Md} {r : List Tr} {tb : Int} {v : Value} {w : World} {x : List UInt8}
theorem binary_is {c : Tr} (hx : x = brk (leB f a.f) (te a) ++ ([32] ++ bs f.t ++ [32]) ++ brk (riB f c.f) (te c)) (hA : PutE a) (hC : PutE c) (hK : Kids w m S v [a, c]) (hN : ∀ i, S i -> i < N) (hT : TabN N w) :
 Puts N W tb x 141 #[.pointer (some ⟨W, 0, none⟩), nv f v] w := by
 by_cases h1 : a.f.k = 27
 ·by_cases h2 : c.f.k = 27
  ·exact binary_11 h1 h2 hx hA hC hK hN hT
  ·exact binary_10 h1 h2 hx hA hC hK hN hT
 ·by_cases h2 : c.f.k = 27
  ·exact binary_01 h1 h2 hx hA hC hK hN hT
  ·exact binary_00 h1 h2 hx hA hC hK hN hT
structure TFit (f : Nd) : Prop where
 lo : -9223372036854775808 <= f.n
 hi : f.n <= 9223372036854775807
 tl : f.t.size <= 1048576
 yl : f.y.size <= 1048576
mutual
def AllT : Tr -> Prop
 | .mk f ks => TFit f /\ AllTs ks
def AllTs : List Tr -> Prop
 | [] => True
 | t :: r => AllT t /\ AllTs r
end
theorem AllTs.get : ∀ {l : List Tr}, AllTs l -> ∀ t ∈ l, AllT t
 | _ :: _, h, t, ht => by
  rcases List.mem_cons.1 ht with rfl | ht
  ·exact h.1
  ·exact AllTs.get h.2 t ht
theorem AllT.tf (h : AllT t) : TFit t.f := by cases t; exact h.1
theorem AllT.ks (h : AllT t) : AllTs t.ks := by cases t; exact h.2
theorem expr_21 (hk : f.k = 21) (hx : x = bs f.t) :
 Puts N W tb x 115 #[.pointer (some ⟨W, 0, none⟩), nv f (.slice A n c)] w := by
 unfold nv
 have q21 := yk hk
 clear hk
 intro acc hw hlen
 have HW0 := zz hw
 have hWl := hw.lt
 have hNw := hw.nle
 have HX0 := zz (show x = bs f.t from hx)
 have HL := zz hlen
 have HF0 := zz (Fx.refl N W w)
 clear hw hlen
 go_enter Tryz.func115, Tryz.ntmps115
 go_wp2_with fail
 obtain ⟨w1, hw1, HB, HXb, hs1⟩ := jb w f (.slice A n c)
 rw [hw1]
 clear hw1
 obtain ⟨hz1, HF1, HW1⟩ := stb hNw HF0 HW0 HB
 clear HF0 HW0
 have hnb : w.heap.size ≠ W := by have := HF1.out.size; omega
 clear HB
 refine (zc (x := bs f.t) [f.t] (by simp [fl]) (by simp) (by omega) rfl rfl HW1.out (by have h := HL.out; rw [HX0.out] at h; (try simp only [List.length_append] at h |-); omega)).mono ?_
 rintro e w2 ⟨rfl, fx, wr⟩
 obtain ⟨hz2, HF2, HW2⟩ := stf HF1 fx wr
 replace HXb := fxx HXb fx hnb
 clear HF1 HW1 fx wr
 go_wp2
 go_end0
 exact ⟨rfl, HF2.out, by rw [HX0.out]; first | exact HW2.out | simpa only [List.append_assoc] using HW2.out⟩
theorem expr_24 (hk : f.k = 24) (hx : x = [110, 105, 108]) :
 Puts N W tb x 115 #[.pointer (some ⟨W, 0, none⟩), nv f (.slice A n c)] w := by
 unfold nv
 have q21 := nk 21 hk rfl
 have q22 := nk 22 hk rfl
 have q23 := nk 23 hk rfl
 have q24 := yk hk
 clear hk
 intro acc hw hlen
 have HW0 := zz hw
 have hWl := hw.lt
 have hNw := hw.nle
 have HX0 := zz (show x = [110, 105, 108] from hx)
 have HL := zz hlen
 have HF0 := zz (Fx.refl N W w)
 clear hw hlen
 go_enter Tryz.func115, Tryz.ntmps115
 go_wp2_with fail
 obtain ⟨w1, hw1, HB, HXb, hs1⟩ := jb w f (.slice A n c)
 rw [hw1]
 clear hw1
 obtain ⟨hz1, HF1, HW1⟩ := stb hNw HF0 HW0 HB
 clear HF0 HW0
 have hnb : w.heap.size ≠ W := by have := HF1.out.size; omega
 clear HB
 refine (zc (x := [110, 105, 108]) [⟨#[110, 105, 108]⟩] (by simp [fl]) (by simp) (by omega) rfl rfl HW1.out (by have h := HL.out; rw [HX0.out] at h; (try simp only [List.length_append] at h |-); omega)).mono ?_
 rintro e w2 ⟨rfl, fx, wr⟩
 obtain ⟨hz2, HF2, HW2⟩ := stf HF1 fx wr
 replace HXb := fxx HXb fx hnb
 clear HF1 HW1 fx wr
 go_wp2
 go_end0
 exact ⟨rfl, HF2.out, by rw [HX0.out]; first | exact HW2.out | simpa only [List.append_assoc] using HW2.out⟩
theorem expr_22 (hk : f.k = 22) (hx : x = Lib.itoa f.n) (h0 : -9223372036854775808 <= f.n) (h1 : f.n <= 9223372036854775807) (hT : TabN N w) :
 Puts N W tb x 115 #[.pointer (some ⟨W, 0, none⟩), nv f (.slice A n c)] w := by
 have HT := zz hT
 clear hT
 unfold nv
 have q21 := nk 21 hk rfl
 have q22 := yk hk
 clear hk
 intro acc hw hlen
 have HW0 := zz hw
 have hWl := hw.lt
 have hNw := hw.nle
 have HX0 := zz (show x = Lib.itoa f.n from hx)
 have HL := zz hlen
 have HF0 := zz (Fx.refl N W w)
 clear hw hlen
 go_enter Tryz.func115, Tryz.ntmps115
 go_wp2_with fail
 obtain ⟨w1, hw1, HB, HXb, hs1⟩ := jb w f (.slice A n c)
 rw [hw1]
 clear hw1
 obtain ⟨hz1, HF1, HW1⟩ := stb hNw HF0 HW0 HB
 clear HF0 HW0
 have hnb : w.heap.size ≠ W := by have := HF1.out.size; omega
 clear HB
 refine (wint_is f.n h0 h1 _ (HT.out.below HF1.out.below)).mono ?_
 rintro e w2 ⟨rfl, b⟩
 have hz2 := Fx.size (Fx.of_below (N := N) (W := W) b (by have := HF1.out.size; omega))
 have HF2 := zz (HF1.out.trans (Fx.of_below (N := N) (W := W) b (by have := HF1.out.size; omega)))
 have HW2 := zz (HW1.out.below b)
 replace HXb := zz (HXb.out.fx (Fx.of_below (N := N) (W := W) b (by have := HF1.out.size; omega)) hnb)
 clear HF1 HW1
 clear b
 go_wp2_with fail
 refine (zc (x := Lib.itoa f.n) [⟨(Lib.itoa f.n).toArray⟩] (by simp [fl]) (by simp) (by omega) rfl rfl HW2.out (by have h := HL.out; rw [HX0.out] at h; (try simp only [List.length_append] at h |-); omega)).mono ?_
 rintro e w3 ⟨rfl, fx, wr⟩
 obtain ⟨hz3, HF3, HW3⟩ := stf HF2 fx wr
 replace HXb := fxx HXb fx hnb
 clear HF2 HW2 fx wr
 go_wp2
 go_end0
 exact ⟨rfl, HF3.out, by rw [HX0.out]; first | exact HW3.out | simpa only [List.append_assoc] using HW3.out⟩
theorem expr_25 (hk : f.k = 25) (hx : x = quo (bs f.t)) (ht : f.t.size <= 70368744177000) :
 Puts N W tb x 115 #[.pointer (some ⟨W, 0, none⟩), nv f (.slice A n c)] w := by
 unfold nv
 have q21 := nk 21 hk rfl
 have q22 := nk 22 hk rfl
 have q23 := nk 23 hk rfl
 have q24 := nk 24 hk rfl
 have q25 := yk hk
 clear hk
 intro acc hw hlen
 have HW0 := zz hw
 have hWl := hw.lt
 have hNw := hw.nle
 have HX0 := zz (show x = quo (bs f.t) from hx)
 have HL := zz hlen
 have HF0 := zz (Fx.refl N W w)
 clear hw hlen
 go_enter Tryz.func115, Tryz.ntmps115
 go_wp2_with fail
 obtain ⟨w1, hw1, HB, HXb, hs1⟩ := jb w f (.slice A n c)
 rw [hw1]
 clear hw1
 obtain ⟨hz1, HF1, HW1⟩ := stb hNw HF0 HW0 HB
 clear HF0 HW0
 have hnb : w.heap.size ≠ W := by have := HF1.out.size; omega
 clear HB
 refine (quote_any f.t _ ht).mono ?_
 rintro e w2 ⟨rfl, b⟩
 have hz2 := Fx.size (Fx.of_below (N := N) (W := W) b (by have := HF1.out.size; omega))
 have HF2 := zz (HF1.out.trans (Fx.of_below (N := N) (W := W) b (by have := HF1.out.size; omega)))
 have HW2 := zz (HW1.out.below b)
 replace HXb := zz (HXb.out.fx (Fx.of_below (N := N) (W := W) b (by have := HF1.out.size; omega)) hnb)
 clear HF1 HW1
 clear b
 go_wp2_with fail
 refine (zc (x := quo (bs f.t)) [⟨(quo (bs f.t)).toArray⟩] (by simp [fl]) (by simp) (by omega) rfl rfl HW2.out (by have h := HL.out; rw [HX0.out] at h; (try simp only [List.length_append] at h |-); omega)).mono ?_
 rintro e w3 ⟨rfl, fx, wr⟩
 obtain ⟨hz3, HF3, HW3⟩ := stf HF2 fx wr
 replace HXb := fxx HXb fx hnb
 clear HF2 HW2 fx wr
 go_wp2
 go_end0
 exact ⟨rfl, HF3.out, by rw [HX0.out]; first | exact HW3.out | simpa only [List.append_assoc] using HW3.out⟩
theorem expr_23 {y : List UInt8} (hk : f.k = 23) (hx : x = y) (hy : (if f.n = 1 then [116, 114, 117, 101] else [102, 97, 108, 115, 101]) = y) :
 Puts N W tb x 115 #[.pointer (some ⟨W, 0, none⟩), nv f (.slice A n c)] w := by
 unfold nv
 have q21 := nk 21 hk rfl
 have q22 := nk 22 hk rfl
 have q23 := yk hk
 clear hk
 intro acc hw hlen
 have HW0 := zz hw
 have hWl := hw.lt
 have hNw := hw.nle
 have HX0 := zz (show x = y from hx)
 have HL := zz hlen
 have HF0 := zz (Fx.refl N W w)
 clear hw hlen
 go_enter Tryz.func115, Tryz.ntmps115
 go_wp2_with fail
 obtain ⟨w1, hw1, HB, HXb, hs1⟩ := jb w f (.slice A n c)
 rw [hw1]
 clear hw1
 obtain ⟨hz1, HF1, HW1⟩ := stb hNw HF0 HW0 HB
 clear HF0 HW0
 have hnb : w.heap.size ≠ W := by have := HF1.out.size; omega
 clear HB
 refine (boolean_is (N := N) (W := W) (tb := tb) hy _ HW1.out (by have h := HL.out; rw [HX0.out] at h; (try simp only [List.length_append] at h |-); omega)).mono ?_
 rintro e w2 ⟨rfl, fx, wr⟩
 obtain ⟨hz2, HF2, HW2⟩ := stf HF1 fx wr
 replace HXb := fxx HXb fx hnb
 clear HF1 HW1 fx wr
 go_wp2
 go_end0
 exact ⟨rfl, HF2.out, by rw [HX0.out]; first | exact HW2.out | simpa only [List.append_assoc] using HW2.out⟩
theorem expr_26 (hk : f.k = 26) (hx : x = (bs f.t ++ brk (unB f a.f) (te a))) (hA : PutE a) (hK : Kids w m S v [a]) (hN : ∀ i, S i -> i < N) (hT : TabN N w) :
 Puts N W tb x 115 #[.pointer (some ⟨W, 0, none⟩), nv f v] w := by
 have HN := zz hN
 have HT := zz hT
 have HKv := zz hK
 clear hN hT hK
 obtain ⟨Av, cv, bv, ov, rfl, h1_, h2_, h3_⟩ := HKv.out.form
 clear h1_ h2_ h3_
 simp only [List.length_cons, List.length_nil, Nat.zero_add] at HKv |-
 unfold nv
 have q21 := nk 21 hk rfl
 have q22 := nk 22 hk rfl
 have q23 := nk 23 hk rfl
 have q24 := nk 24 hk rfl
 have q25 := nk 25 hk rfl
 have q26 := yk hk
 clear hk
 intro acc hw hlen
 have HW0 := zz hw
 have hWl := hw.lt
 have hNw := hw.nle
 have HX0 := zz (show x = (bs f.t ++ brk (unB f a.f) (te a)) from hx)
 have HL := zz hlen
 have HF0 := zz (Fx.refl N W w)
 clear hw hlen
 go_enter Tryz.func115, Tryz.ntmps115
 go_wp2_with fail
 obtain ⟨w1, hw1, HB, HXb, hs1⟩ := jb w f (.slice Av 1 cv)
 rw [hw1]
 clear hw1
 obtain ⟨hz1, HF1, HW1⟩ := stb hNw HF0 HW0 HB
 clear HF0 HW0
 have hnb : w.heap.size ≠ W := by have := HF1.out.size; omega
 clear HB
 refine (unary_is (N := N) (W := W) (tb := tb) rfl hA (HKv.out.below HF1.out.below HN.out) HN.out (HT.out.below HF1.out.below) _ HW1.out (by have h := HL.out; rw [HX0.out] at h; (try simp only [List.length_append] at h |-); omega)).mono ?_
 rintro e w2 ⟨rfl, fx, wr⟩
 obtain ⟨hz2, HF2, HW2⟩ := stf HF1 fx wr
 replace HXb := fxx HXb fx hnb
 clear HF1 HW1 fx wr
 go_wp2
 go_end0
 exact ⟨rfl, HF2.out, by rw [HX0.out]; first | exact HW2.out | simpa only [List.append_assoc] using HW2.out⟩
theorem expr_27 {c : Tr} (hk : f.k = 27) (hx : x = (brk (leB f a.f) (te a) ++ ([32] ++ bs f.t ++ [32]) ++ brk (riB f c.f) (te c))) (hA : PutE a) (hC : PutE c) (hK : Kids w m S v [a, c]) (hN : ∀ i, S i -> i < N) (hT : TabN N w) :
 Puts N W tb x 115 #[.pointer (some ⟨W, 0, none⟩), nv f v] w := by
 have HN := zz hN
 have HT := zz hT
 have HKv := zz hK
 clear hN hT hK
 obtain ⟨Av, cv, bv, ov, rfl, h1_, h2_, h3_⟩ := HKv.out.form
 clear h1_ h2_ h3_
 simp only [List.length_cons, List.length_nil, Nat.zero_add, Nat.reduceAdd] at HKv |-
 unfold nv
 have q21 := nk 21 hk rfl
 have q22 := nk 22 hk rfl
 have q23 := nk 23 hk rfl
 have q24 := nk 24 hk rfl
 have q25 := nk 25 hk rfl
 have q26 := nk 26 hk rfl
 have q27 := yk hk
 clear hk
 intro acc hw hlen
 have HW0 := zz hw
 have hWl := hw.lt
 have hNw := hw.nle
 have HX0 := zz (show x = (brk (leB f a.f) (te a) ++ ([32] ++ bs f.t ++ [32]) ++ brk (riB f c.f) (te c)) from hx)
 have HL := zz hlen
 have HF0 := zz (Fx.refl N W w)
 clear hw hlen
 go_enter Tryz.func115, Tryz.ntmps115
 go_wp2_with fail
 obtain ⟨w1, hw1, HB, HXb, hs1⟩ := jb w f (.slice Av 2 cv)
 rw [hw1]
 clear hw1
 obtain ⟨hz1, HF1, HW1⟩ := stb hNw HF0 HW0 HB
 clear HF0 HW0
 have hnb : w.heap.size ≠ W := by have := HF1.out.size; omega
 clear HB
 refine (binary_is (N := N) (W := W) (tb := tb) rfl hA hC (HKv.out.below HF1.out.below HN.out) HN.out (HT.out.below HF1.out.below) _ HW1.out (by have h := HL.out; rw [HX0.out] at h; (try simp only [List.length_append] at h |-); omega)).mono ?_
 rintro e w2 ⟨rfl, fx, wr⟩
 obtain ⟨hz2, HF2, HW2⟩ := stf HF1 fx wr
 replace HXb := fxx HXb fx hnb
 clear HF1 HW1 fx wr
 go_wp2
 go_end0
 exact ⟨rfl, HF2.out, by rw [HX0.out]; first | exact HW2.out | simpa only [List.append_assoc] using HW2.out⟩
theorem expr_29n (hk : f.k = 29) (hx : x = ([109, 97, 107, 101, 40] ++ bs f.y ++ [41])) :
 Puts N W tb x 115 #[.pointer (some ⟨W, 0, none⟩), nv f (.slice A 0 c)] w := by
 unfold nv
 have q21 := nk 21 hk rfl
 have q22 := nk 22 hk rfl
 have q23 := nk 23 hk rfl
 have q24 := nk 24 hk rfl
 have q25 := nk 25 hk rfl
 have q26 := nk 26 hk rfl
 have q27 := nk 27 hk rfl
 have q28 := nk 28 hk rfl
 have q29 := yk hk
 clear hk
 intro acc hw hlen
 have HW0 := zz hw
 have hWl := hw.lt
 have hNw := hw.nle
 have HX0 := zz (show x = ([109, 97, 107, 101, 40] ++ bs f.y ++ [41]) from hx)
 have HL := zz hlen
 have HF0 := zz (Fx.refl N W w)
 clear hw hlen
 go_enter Tryz.func115, Tryz.ntmps115
 go_wp2_with fail
 obtain ⟨w1, hw1, HB, HXb, hs1⟩ := jb w f (.slice A 0 c)
 rw [hw1]
 clear hw1
 obtain ⟨hz1, HF1, HW1⟩ := stb hNw HF0 HW0 HB
 clear HF0 HW0
 have hnb : w.heap.size ≠ W := by have := HF1.out.size; omega
 clear HB
 refine (making_0 (N := N) (W := W) (tb := tb) rfl _ HW1.out (by have h := HL.out; rw [HX0.out] at h; (try simp only [List.length_append] at h |-); omega)).mono ?_
 rintro e w2 ⟨rfl, fx, wr⟩
 obtain ⟨hz2, HF2, HW2⟩ := stf HF1 fx wr
 replace HXb := fxx HXb fx hnb
 clear HF1 HW1 fx wr
 go_wp2
 go_end0
 exact ⟨rfl, HF2.out, by rw [HX0.out]; first | exact HW2.out | simpa only [List.append_assoc] using HW2.out⟩
theorem expr_29 (hk : f.k = 29) (hx : x = ([109, 97, 107, 101, 40] ++ bs f.y ++ ([44, 32] ++ te a) ++ [41])) (hA : PutE a) (hK : Kids w m S v [a]) (hN : ∀ i, S i -> i < N) (hT : TabN N w) :
 Puts N W tb x 115 #[.pointer (some ⟨W, 0, none⟩), nv f v] w := by
 have HN := zz hN
 have HT := zz hT
 have HKv := zz hK
 clear hN hT hK
 obtain ⟨Av, cv, bv, ov, rfl, h1_, h2_, h3_⟩ := HKv.out.form
 clear h1_ h2_ h3_
 simp only [List.length_cons, List.length_nil, Nat.zero_add] at HKv |-
 unfold nv
 have q21 := nk 21 hk rfl
 have q22 := nk 22 hk rfl
 have q23 := nk 23 hk rfl
 have q24 := nk 24 hk rfl
 have q25 := nk 25 hk rfl
 have q26 := nk 26 hk rfl
 have q27 := nk 27 hk rfl
 have q28 := nk 28 hk rfl
 have q29 := yk hk
 clear hk
 intro acc hw hlen
 have HW0 := zz hw
 have hWl := hw.lt
 have hNw := hw.nle
 have HX0 := zz (show x = ([109, 97, 107, 101, 40] ++ bs f.y ++ ([44, 32] ++ te a) ++ [41]) from hx)
 have HL := zz hlen
 have HF0 := zz (Fx.refl N W w)
 clear hw hlen
 go_enter Tryz.func115, Tryz.ntmps115
 go_wp2_with fail
 obtain ⟨w1, hw1, HB, HXb, hs1⟩ := jb w f (.slice Av 1 cv)
 rw [hw1]
 clear hw1
 obtain ⟨hz1, HF1, HW1⟩ := stb hNw HF0 HW0 HB
 clear HF0 HW0
 have hnb : w.heap.size ≠ W := by have := HF1.out.size; omega
 clear HB
 refine (making_1 (N := N) (W := W) (tb := tb) rfl hA (HKv.out.below HF1.out.below HN.out) HN.out (HT.out.below HF1.out.below) _ HW1.out (by have h := HL.out; rw [HX0.out] at h; (try simp only [List.length_append] at h |-); omega)).mono ?_
 rintro e w2 ⟨rfl, fx, wr⟩
 obtain ⟨hz2, HF2, HW2⟩ := stf HF1 fx wr
 replace HXb := fxx HXb fx hnb
 clear HF1 HW1 fx wr
 go_wp2
 go_end0
 exact ⟨rfl, HF2.out, by rw [HX0.out]; first | exact HW2.out | simpa only [List.append_assoc] using HW2.out⟩
theorem expr_30 (hk : f.k = 30) (hx : x = (brk (meB a.f) (te a) ++ ([46] ++ bs f.t) ++ ([40] ++ cm (r.map te) ++ [41]))) (hA : PutE a) (hR : ∀ t ∈ r, PutE t) (hK : Kids w m S v (a :: r)) (hN : ∀ i, S i -> i < N) (hT : TabN N w) :
 Puts N W tb x 115 #[.pointer (some ⟨W, 0, none⟩), nv f v] w := by
 have HN := zz hN
 have HT := zz hT
 have HKv := zz hK
 clear hN hT hK
 obtain ⟨Av, cv, bv, ov, rfl, h1_, h2_, h3_⟩ := HKv.out.form
 clear h1_ h2_ h3_
 have HR := zz hR
 clear hR
 simp only [List.length_cons] at HKv |-
 unfold nv
 have q21 := nk 21 hk rfl
 have q22 := nk 22 hk rfl
 have q23 := nk 23 hk rfl
 have q24 := nk 24 hk rfl
 have q25 := nk 25 hk rfl
 have q26 := nk 26 hk rfl
 have q27 := nk 27 hk rfl
 have q28 := nk 28 hk rfl
 have q29 := nk 29 hk rfl
 have q30 := yk hk
 clear hk
 intro acc hw hlen
 have HW0 := zz hw
 have hWl := hw.lt
 have hNw := hw.nle
 have HX0 := zz (show x = (brk (meB a.f) (te a) ++ ([46] ++ bs f.t) ++ ([40] ++ cm (r.map te) ++ [41])) from hx)
 have HL := zz hlen
 have HF0 := zz (Fx.refl N W w)
 clear hw hlen
 go_enter Tryz.func115, Tryz.ntmps115
 go_wp2_with fail
 obtain ⟨w1, hw1, HB, HXb, hs1⟩ := jb w f (.slice Av (r.length + 1) cv)
 rw [hw1]
 clear hw1
 obtain ⟨hz1, HF1, HW1⟩ := stb hNw HF0 HW0 HB
 clear HF0 HW0
 have hnb : w.heap.size ≠ W := by have := HF1.out.size; omega
 clear HB
 refine (method_is (N := N) (W := W) (tb := tb) rfl hA HR.out (HKv.out.below HF1.out.below HN.out) HN.out (HT.out.below HF1.out.below) _ HW1.out (by have h := HL.out; rw [HX0.out] at h; (try simp only [List.length_append] at h |-); omega)).mono ?_
 rintro e w2 ⟨rfl, fx, wr⟩
 obtain ⟨hz2, HF2, HW2⟩ := stf HF1 fx wr
 replace HXb := fxx HXb fx hnb
 clear HF1 HW1 fx wr
 go_wp2
 go_end0
 exact ⟨rfl, HF2.out, by rw [HX0.out]; first | exact HW2.out | simpa only [List.append_assoc] using HW2.out⟩
theorem expr_28 {ks : List Tr} (hk : f.k = 28) (hx : x = bs f.t ++ ([40] ++ cm (ks.map te) ++ [41])) (hR : ∀ t ∈ ks, PutE t) (hK : Kids w m S v ks) (hN : ∀ i, S i -> i < N) (hT : TabN N w) :
 Puts N W tb x 115 #[.pointer (some ⟨W, 0, none⟩), nv f v] w := by
 have HN := zz hN
 have HT := zz hT
 have HKv := zz hK
 clear hN hT hK
 obtain ⟨Av, cv, bv, ov, rfl, h1_, h2_, h3_⟩ := HKv.out.form
 clear h1_ h2_ h3_
 have HR := zz hR
 clear hR
 unfold nv
 have q21 := nk 21 hk rfl
 have q22 := nk 22 hk rfl
 have q23 := nk 23 hk rfl
 have q24 := nk 24 hk rfl
 have q25 := nk 25 hk rfl
 have q26 := nk 26 hk rfl
 have q27 := nk 27 hk rfl
 have q28 := yk hk
 clear hk
 intro acc hw hlen
 have HW0 := zz hw
 have hWl := hw.lt
 have hNw := hw.nle
 have HX0 := zz (show x = bs f.t ++ ([40] ++ cm (ks.map te) ++ [41]) from hx)
 have HL := zz hlen
 have HF0 := zz (Fx.refl N W w)
 clear hw hlen
 go_enter Tryz.func115, Tryz.ntmps115
 go_wp2_with fail
 obtain ⟨w1, hw1, HB, HXb, hs1⟩ := jb w f (.slice Av ks.length cv)
 rw [hw1]
 clear hw1
 obtain ⟨hz1, HF1, HW1⟩ := stb hNw HF0 HW0 HB
 clear HF0 HW0
 have hnb : w.heap.size ≠ W := by have := HF1.out.size; omega
 clear HB
 refine (zc (x := bs f.t) [f.t] (by simp [fl]) (by simp) (by omega) rfl rfl HW1.out (by have h := HL.out; rw [HX0.out] at h; (try simp only [List.length_append] at h |-); omega)).mono ?_
 rintro e w2 ⟨rfl, fx, wr⟩
 obtain ⟨hz2, HF2, HW2⟩ := stf HF1 fx wr
 replace HXb := fxx HXb fx hnb
 clear HF1 HW1 fx wr
 have b0 := HXb.out.cell
 go_wp2_with fail
 refine (arguments_is (N := N) (W := W) (tb := tb) rfl HR.out ((HKv.out.below HF2.out.below HN.out).lstA) HN.out (HT.out.below HF2.out.below) _ HW2.out (by have h := HL.out; rw [HX0.out] at h; (try simp only [List.length_append] at h |-); omega)).mono ?_
 rintro e w3 ⟨rfl, fx, wr⟩
 obtain ⟨hz3, HF3, HW3⟩ := stf HF2 fx wr
 replace HXb := fxx HXb fx hnb
 clear HF2 HW2 b0
 clear fx wr
 go_wp2
 go_end0
 exact ⟨rfl, HF3.out, by rw [HX0.out]; first | exact HW3.out | simpa only [List.append_assoc] using HW3.out⟩
theorem okE_of (h : kExpr a.f = true /\ fitT a = true) : okE a = true := by unfold okE; rw [h.1, h.2]; rfl
theorem okI_kids (h : okI t = true) : (∃ a, t.f.k = 26 /\ t.ks = [a] /\ okE a = true) ∨ (∃ a c, t.f.k = 27 /\ t.ks = [a, c] /\ okE a = true /\ okE c = true) ∨ (t.f.k = 28 /\ ∀ a ∈ t.ks, okI a = true) ∨ (t.f.k = 29 /\ (t.ks = [] ∨ ∃ a, t.ks = [a] /\ okE a = true)) ∨ (∃ a r, t.f.k = 30 /\ t.ks = a :: r /\ okE a = true /\ ∀ x ∈ r, okE x = true) ∨ ((t.f.k = 21 ∨ t.f.k = 22 ∨ t.f.k = 23 ∨ t.f.k = 24 ∨ t.f.k = 25) /\ t.ks = []) := by
 by_cases h25 : t.f.k = 25
 ·rw [okI_text h25] at h
  simp only [Bool.and_eq_true, decide_eq_true_eq] at h
  exact Or.inr (Or.inr (Or.inr (Or.inr (Or.inr ⟨Or.inr (Or.inr (Or.inr (Or.inr h25))), List.eq_nil_of_length_eq_zero h.2⟩))))
 rw [okI_expr h25] at h
 by_cases h26 : t.f.k = 26
 ·rw [okE_26 h26] at h
  simp only [Bool.and_eq_true, decide_eq_true_eq, List.all_eq_true] at h
  match hk : t.ks, h.1.2 with
  | [a], _ => exact Or.inl ⟨a, h26, rfl, okE_of (h.1.1.2 a (by rw [hk]; simp))⟩
 by_cases h27 : t.f.k = 27
 ·rw [okE_27 h27] at h
  simp only [Bool.and_eq_true, decide_eq_true_eq, List.all_eq_true] at h
  match hk : t.ks, h.1.2 with
  | [a, c], _ => exact Or.inr (Or.inl ⟨a, c, h27, rfl, okE_of (h.1.1.2 a (by rw [hk]; simp)), okE_of (h.1.1.2 c (by rw [hk]; simp))⟩)
 by_cases h28 : t.f.k = 28
 ·rw [okE_28 h28, rcall] at h
  simp only [Bool.and_eq_true] at h
  refine Or.inr (Or.inr (Or.inl ⟨h28, ?_⟩))
  have h2 := h.1.2
  split at h2
  ·exact List.all_eq_true.1 h2
  ·intro a ha
   have := List.all_eq_true.1 h2 a ha
   unfold okE at this
   unfold okI kItem
   rw [Bool.and_eq_true] at this
   rw [this.1, this.2, Bool.or_true]
   rfl
 by_cases h29 : t.f.k = 29
 ·rw [okE_29 h29] at h
  simp only [Bool.and_eq_true, decide_eq_true_eq, List.all_eq_true] at h
  refine Or.inr (Or.inr (Or.inr (Or.inl ⟨h29, ?_⟩)))
  match hk : t.ks, h.1.2 with
  | [], _ => exact Or.inl rfl
  | [a], _ => exact Or.inr ⟨a, rfl, okE_of (h.1.1.1 a (by rw [hk]; simp))⟩
 by_cases h30 : t.f.k = 30
 ·rw [okE_30 h30] at h
  simp only [Bool.and_eq_true, decide_eq_true_eq, List.all_eq_true] at h
  refine Or.inr (Or.inr (Or.inr (Or.inr (Or.inl ?_))))
  match hk : t.ks, h.1.2 with
  | a :: r, _ => exact ⟨a, r, h30, rfl, okE_of (h.1.1.2 a (by rw [hk]; simp)), fun x hx => okE_of (h.1.1.2 x (by rw [hk]; exact List.mem_cons_of_mem _ hx))⟩
 rw [okE_leaf h26 h27 h28 h29 h30, lf] at h
 refine Or.inr (Or.inr (Or.inr (Or.inr (Or.inr ?_))))
 simp only [Bool.and_eq_true, decide_eq_true_eq] at h
 refine ⟨?_, List.eq_nil_of_length_eq_zero h.1⟩
 by_cases h21 : t.f.k = 21
 ·exact Or.inl h21
 by_cases h22 : t.f.k = 22
 ·exact Or.inr (Or.inl h22)
 by_cases h23 : t.f.k = 23
 ·exact Or.inr (Or.inr (Or.inl h23))
 have h2 := h.2
 rw [if_neg h21, if_neg h22, if_neg h23] at h2
 simp only [Bool.and_eq_true, beq_iff_eq] at h2
 exact Or.inr (Or.inr (Or.inr (Or.inl h2.1)))
theorem okE_okI (h : okE t = true) : okI t = true := by
 unfold okE at h
 unfold okI kItem
 rw [Bool.and_eq_true] at h
 rw [h.1, h.2, Bool.or_true]
 rfl
theorem pexpr_all (n : Nat) : ∀ (t : Tr), cnt t <= n -> AllT t -> okI t = true -> PutE t := by
 induction n with
 | zero => exact fun t hn _ _ => absurd hn (by have := cnt_pos t; omega)
 | succ n ihn =>
  intro t hn hT ho N W tb w v m S hK hN hTab
  obtain ⟨f, ks⟩ := t
  have hkn : ∀ a ∈ ks, cnt a <= n := fun a ha => by
   have := cnts_mem ha
   have h2 : cnt (.mk f ks) = 1 + cnts ks := rfl
   omega
  have hkT : ∀ a ∈ ks, AllT a := AllTs.get hT.ks
  have ih : ∀ a ∈ ks, okI a = true -> PutE a := fun a ha h => ihn a (hkn a ha) (hkT a ha) h
  have hf : TFit f := hT.tf
  rcases okI_kids ho with ⟨a, hk, rfl, h1⟩ | ⟨a, c, hk, rfl, h1, h2⟩ | ⟨hk, h1⟩ | ⟨hk, rfl | ⟨a, rfl, h1⟩⟩ | ⟨a, r, hk, rfl, h1, h2⟩ | ⟨hk, rfl⟩
  ·exact expr_26 hk (tx_26 hk 0 false) (ih a (by simp) (okE_okI h1)) hK hN hTab
  ·exact expr_27 hk (tx_27 hk 0 false) (ih a (by simp) (okE_okI h1)) (ih c (by simp) (okE_okI h2)) hK hN hTab
  ·exact expr_28 hk (tx_28 hk 0 false) (fun a ha => ih a ha (h1 a ha)) hK hN hTab
  ·obtain ⟨A, c, b, o, rfl, _, _, _⟩ := hK.form
   exact expr_29n hk (tx_29n hk 0 false)
  ·exact expr_29 hk (tx_29 hk 0 false) (ih a (by simp) (okE_okI h1)) hK hN hTab
  ·exact expr_30 hk (tx_30 hk 0 false) (ih a (by simp) (okE_okI h1)) (fun x hx => ih x (List.mem_cons_of_mem _ hx) (okE_okI (h2 x hx))) hK hN hTab
  ·obtain ⟨A, c, b, o, rfl, _, _, _⟩ := hK.form
   rcases hk with hk | hk | hk | hk | hk
   ·exact expr_21 hk (tx_21 hk 0 false)
   ·exact expr_22 hk (tx_22 hk 0 false) hf.lo hf.hi hTab
   ·exact expr_23 hk (tx_23 hk 0 false) rfl
   ·exact expr_24 hk (tx_24 hk 0 false)
   ·exact expr_25 hk (tx_25 hk 0 false) (Nat.le_trans hf.tl (by decide))
end
section
open Go.RowKit
variable {A : Option Addr} {N W c d n : Nat} {S : Nat -> Prop} {a : Tr} {b : Bool} {f : Nd} {m : Md} {v : Value} {w : World} {x : List UInt8}
theorem stmt_5 {y : List UInt8} (hk : f.k = 5) (hx : x = y) (hP : ∀ w', Below N w w' -> Puts N W (d : Int) y 111 #[.pointer (some ⟨W, 0, none⟩), nv f (.slice A n c)] w') :
 Puts N W (d : Int) x 91 #[.pointer (some ⟨W, 0, none⟩), nv f (.slice A n c)] w := by
 unfold nv at *
 have q5 := yk hk
 clear hk
 intro acc hw hlen
 have HW0 := zz hw
 have hWl := hw.lt
 have hNw := hw.nle
 have HX0 := zz (show x = y from hx)
 have HL := zz hlen
 have HF0 := zz (Fx.refl N W w)
 clear hw hlen
 go_enter Tryz.func91, Tryz.ntmps91
 go_wp2_with fail
 obtain ⟨w1, hw1, HB, HXb, hs1⟩ := jb w f (.slice A n c)
 rw [hw1]
 clear hw1
 obtain ⟨hz1, HF1, HW1⟩ := stb hNw HF0 HW0 HB
 clear HF0 HW0
 have hnb : w.heap.size ≠ W := by have := HF1.out.size; omega
 clear HB
 refine (hP _ HF1.out.below _ HW1.out (by have h := HL.out; rw [HX0.out] at h; (try simp only [List.length_append] at h |-); omega)).mono ?_
 rintro e w2 ⟨rfl, fx, wr⟩
 obtain ⟨hz2, HF2, HW2⟩ := stf HF1 fx wr
 replace HXb := fxx HXb fx hnb
 clear HF1 HW1 fx wr
 go_wp2
 go_end0
 exact ⟨rfl, HF2.out, by rw [HX0.out]; first | exact HW2.out | simpa only [List.append_assoc] using HW2.out⟩
theorem stmt_11 {y : List UInt8} (hk : f.k = 11) (hx : x = y) (hP : ∀ w', Below N w w' -> Puts N W (d : Int) y 112 #[.pointer (some ⟨W, 0, none⟩), nv f (.slice A n c)] w') :
 Puts N W (d : Int) x 91 #[.pointer (some ⟨W, 0, none⟩), nv f (.slice A n c)] w := by
 unfold nv at *
 have q5 := nk 5 hk rfl
 have q11 := yk hk
 clear hk
 intro acc hw hlen
 have HW0 := zz hw
 have hWl := hw.lt
 have hNw := hw.nle
 have HX0 := zz (show x = y from hx)
 have HL := zz hlen
 have HF0 := zz (Fx.refl N W w)
 clear hw hlen
 go_enter Tryz.func91, Tryz.ntmps91
 go_wp2_with fail
 obtain ⟨w1, hw1, HB, HXb, hs1⟩ := jb w f (.slice A n c)
 rw [hw1]
 clear hw1
 obtain ⟨hz1, HF1, HW1⟩ := stb hNw HF0 HW0 HB
 clear HF0 HW0
 have hnb : w.heap.size ≠ W := by have := HF1.out.size; omega
 clear HB
 refine (hP _ HF1.out.below _ HW1.out (by have h := HL.out; rw [HX0.out] at h; (try simp only [List.length_append] at h |-); omega)).mono ?_
 rintro e w2 ⟨rfl, fx, wr⟩
 obtain ⟨hz2, HF2, HW2⟩ := stf HF1 fx wr
 replace HXb := fxx HXb fx hnb
 clear HF1 HW1 fx wr
 go_wp2
 go_end0
 exact ⟨rfl, HF2.out, by rw [HX0.out]; first | exact HW2.out | simpa only [List.append_assoc] using HW2.out⟩
theorem stmt_12 {y : List UInt8} (hk : f.k = 12) (hx : x = y) (hP : ∀ w', Below N w w' -> Puts N W (d : Int) y 113 #[.pointer (some ⟨W, 0, none⟩), nv f (.slice A n c)] w') :
 Puts N W (d : Int) x 91 #[.pointer (some ⟨W, 0, none⟩), nv f (.slice A n c)] w := by
 unfold nv at *
 have q5 := nk 5 hk rfl
 have q11 := nk 11 hk rfl
 have q12 := yk hk
 clear hk
 intro acc hw hlen
 have HW0 := zz hw
 have hWl := hw.lt
 have hNw := hw.nle
 have HX0 := zz (show x = y from hx)
 have HL := zz hlen
 have HF0 := zz (Fx.refl N W w)
 clear hw hlen
 go_enter Tryz.func91, Tryz.ntmps91
 go_wp2_with fail
 obtain ⟨w1, hw1, HB, HXb, hs1⟩ := jb w f (.slice A n c)
 rw [hw1]
 clear hw1
 obtain ⟨hz1, HF1, HW1⟩ := stb hNw HF0 HW0 HB
 clear HF0 HW0
 have hnb : w.heap.size ≠ W := by have := HF1.out.size; omega
 clear HB
 refine (hP _ HF1.out.below _ HW1.out (by have h := HL.out; rw [HX0.out] at h; (try simp only [List.length_append] at h |-); omega)).mono ?_
 rintro e w2 ⟨rfl, fx, wr⟩
 obtain ⟨hz2, HF2, HW2⟩ := stf HF1 fx wr
 replace HXb := fxx HXb fx hnb
 clear HF1 HW1 fx wr
 go_wp2
 go_end0
 exact ⟨rfl, HF2.out, by rw [HX0.out]; first | exact HW2.out | simpa only [List.append_assoc] using HW2.out⟩
theorem stmt_13 {y : List UInt8} (hk : f.k = 13) (hx : x = y) (hP : ∀ w', Below N w w' -> Puts N W (d : Int) y 114 #[.pointer (some ⟨W, 0, none⟩), nv f (.slice A n c)] w') :
 Puts N W (d : Int) x 91 #[.pointer (some ⟨W, 0, none⟩), nv f (.slice A n c)] w := by
 unfold nv at *
 have q5 := nk 5 hk rfl
 have q11 := nk 11 hk rfl
 have q12 := nk 12 hk rfl
 have q13 := yk hk
 clear hk
 intro acc hw hlen
 have HW0 := zz hw
 have hWl := hw.lt
 have hNw := hw.nle
 have HX0 := zz (show x = y from hx)
 have HL := zz hlen
 have HF0 := zz (Fx.refl N W w)
 clear hw hlen
 go_enter Tryz.func91, Tryz.ntmps91
 go_wp2_with fail
 obtain ⟨w1, hw1, HB, HXb, hs1⟩ := jb w f (.slice A n c)
 rw [hw1]
 clear hw1
 obtain ⟨hz1, HF1, HW1⟩ := stb hNw HF0 HW0 HB
 clear HF0 HW0
 have hnb : w.heap.size ≠ W := by have := HF1.out.size; omega
 clear HB
 refine (hP _ HF1.out.below _ HW1.out (by have h := HL.out; rw [HX0.out] at h; (try simp only [List.length_append] at h |-); omega)).mono ?_
 rintro e w2 ⟨rfl, fx, wr⟩
 obtain ⟨hz2, HF2, HW2⟩ := stf HF1 fx wr
 replace HXb := fxx HXb fx hnb
 clear HF1 HW1 fx wr
 go_wp2
 go_end0
 exact ⟨rfl, HF2.out, by rw [HX0.out]; first | exact HW2.out | simpa only [List.append_assoc] using HW2.out⟩
theorem stmt_15 {y : List UInt8} (hk : f.k = 15) (hx : x = y) (hP : ∀ w', Below N w w' -> Puts N W (d : Int) y 114 #[.pointer (some ⟨W, 0, none⟩), nv f (.slice A n c)] w') :
 Puts N W (d : Int) x 91 #[.pointer (some ⟨W, 0, none⟩), nv f (.slice A n c)] w := by
 unfold nv at *
 have q5 := nk 5 hk rfl
 have q11 := nk 11 hk rfl
 have q12 := nk 12 hk rfl
 have q13 := nk 13 hk rfl
 have q15 := yk hk
 clear hk
 intro acc hw hlen
 have HW0 := zz hw
 have hWl := hw.lt
 have hNw := hw.nle
 have HX0 := zz (show x = y from hx)
 have HL := zz hlen
 have HF0 := zz (Fx.refl N W w)
 clear hw hlen
 go_enter Tryz.func91, Tryz.ntmps91
 go_wp2_with fail
 obtain ⟨w1, hw1, HB, HXb, hs1⟩ := jb w f (.slice A n c)
 rw [hw1]
 clear hw1
 obtain ⟨hz1, HF1, HW1⟩ := stb hNw HF0 HW0 HB
 clear HF0 HW0
 have hnb : w.heap.size ≠ W := by have := HF1.out.size; omega
 clear HB
 refine (hP _ HF1.out.below _ HW1.out (by have h := HL.out; rw [HX0.out] at h; (try simp only [List.length_append] at h |-); omega)).mono ?_
 rintro e w2 ⟨rfl, fx, wr⟩
 obtain ⟨hz2, HF2, HW2⟩ := stf HF1 fx wr
 replace HXb := fxx HXb fx hnb
 clear HF1 HW1 fx wr
 go_wp2
 go_end0
 exact ⟨rfl, HF2.out, by rw [HX0.out]; first | exact HW2.out | simpa only [List.append_assoc] using HW2.out⟩
theorem stmt_18 {y : List UInt8} (hk : f.k = 18) (hx : x = y) (hP : ∀ w', Below N w w' -> Puts N W (d : Int) y 116 #[.pointer (some ⟨W, 0, none⟩), nv f (.slice A n c)] w') :
 Puts N W (d : Int) x 91 #[.pointer (some ⟨W, 0, none⟩), nv f (.slice A n c)] w := by
 unfold nv at *
 have q5 := nk 5 hk rfl
 have q11 := nk 11 hk rfl
 have q12 := nk 12 hk rfl
 have q13 := nk 13 hk rfl
 have q15 := nk 15 hk rfl
 have q17 := nk 17 hk rfl
 have q18 := yk hk
 clear hk
 intro acc hw hlen
 have HW0 := zz hw
 have hWl := hw.lt
 have hNw := hw.nle
 have HX0 := zz (show x = y from hx)
 have HL := zz hlen
 have HF0 := zz (Fx.refl N W w)
 clear hw hlen
 go_enter Tryz.func91, Tryz.ntmps91
 go_wp2_with fail
 obtain ⟨w1, hw1, HB, HXb, hs1⟩ := jb w f (.slice A n c)
 rw [hw1]
 clear hw1
 obtain ⟨hz1, HF1, HW1⟩ := stb hNw HF0 HW0 HB
 clear HF0 HW0
 have hnb : w.heap.size ≠ W := by have := HF1.out.size; omega
 clear HB
 refine (hP _ HF1.out.below _ HW1.out (by have h := HL.out; rw [HX0.out] at h; (try simp only [List.length_append] at h |-); omega)).mono ?_
 rintro e w2 ⟨rfl, fx, wr⟩
 obtain ⟨hz2, HF2, HW2⟩ := stf HF1 fx wr
 replace HXb := fxx HXb fx hnb
 clear HF1 HW1 fx wr
 go_wp2
 go_end0
 exact ⟨rfl, HF2.out, by rw [HX0.out]; first | exact HW2.out | simpa only [List.append_assoc] using HW2.out⟩
theorem stmt_4 {y : List UInt8} (hk : f.k = 4) (hx : x = y) (hP : ∀ w', Below N w w' -> Puts N W (d : Int) y 34 #[.pointer (some ⟨W, 0, none⟩), nv f (.slice A n c)] w') :
 Puts N W (d : Int) x 91 #[.pointer (some ⟨W, 0, none⟩), nv f (.slice A n c)] w := by
 unfold nv at *
 have q5 := nk 5 hk rfl
 have q11 := nk 11 hk rfl
 have q12 := nk 12 hk rfl
 have q13 := nk 13 hk rfl
 have q15 := nk 15 hk rfl
 have q17 := nk 17 hk rfl
 have q18 := nk 18 hk rfl
 have q19 := nk 19 hk rfl
 have q20 := nk 20 hk rfl
 have q4 := yk hk
 clear hk
 intro acc hw hlen
 have HW0 := zz hw
 have hWl := hw.lt
 have hNw := hw.nle
 have HX0 := zz (show x = y from hx)
 have HL := zz hlen
 have HF0 := zz (Fx.refl N W w)
 clear hw hlen
 go_enter Tryz.func91, Tryz.ntmps91
 go_wp2_with fail
 obtain ⟨w1, hw1, HB, HXb, hs1⟩ := jb w f (.slice A n c)
 rw [hw1]
 clear hw1
 obtain ⟨hz1, HF1, HW1⟩ := stb hNw HF0 HW0 HB
 clear HF0 HW0
 have hnb : w.heap.size ≠ W := by have := HF1.out.size; omega
 clear HB
 refine (hP _ HF1.out.below _ HW1.out (by have h := HL.out; rw [HX0.out] at h; (try simp only [List.length_append] at h |-); omega)).mono ?_
 rintro e w2 ⟨rfl, fx, wr⟩
 obtain ⟨hz2, HF2, HW2⟩ := stf HF1 fx wr
 replace HXb := fxx HXb fx hnb
 clear HF1 HW1 fx wr
 go_wp2
 go_end0
 exact ⟨rfl, HF2.out, by rw [HX0.out]; first | exact HW2.out | simpa only [List.append_assoc] using HW2.out⟩
theorem stmt_s {y : List UInt8} (hk : ∀ z ∈ ([4, 5, 11, 12, 13, 15, 17, 18, 19, 20] : List Int), ¬ f.k = z) (hx : x = y) (hP : ∀ w', Below N w w' -> Puts N W (d : Int) y 117 #[.pointer (some ⟨W, 0, none⟩), nv f (.slice A n c)] w') :
 Puts N W (d : Int) x 91 #[.pointer (some ⟨W, 0, none⟩), nv f (.slice A n c)] w := by
 unfold nv at *
 have q5 : (f.k == 5) = false := beq_false_of_ne (hk 5 (by simp))
 have q11 : (f.k == 11) = false := beq_false_of_ne (hk 11 (by simp))
 have q12 : (f.k == 12) = false := beq_false_of_ne (hk 12 (by simp))
 have q13 : (f.k == 13) = false := beq_false_of_ne (hk 13 (by simp))
 have q15 : (f.k == 15) = false := beq_false_of_ne (hk 15 (by simp))
 have q17 : (f.k == 17) = false := beq_false_of_ne (hk 17 (by simp))
 have q18 : (f.k == 18) = false := beq_false_of_ne (hk 18 (by simp))
 have q19 : (f.k == 19) = false := beq_false_of_ne (hk 19 (by simp))
 have q20 : (f.k == 20) = false := beq_false_of_ne (hk 20 (by simp))
 have q4 : (f.k == 4) = false := beq_false_of_ne (hk 4 (by simp))
 clear hk
 intro acc hw hlen
 have HW0 := zz hw
 have hWl := hw.lt
 have hNw := hw.nle
 have HX0 := zz (show x = y from hx)
 have HL := zz hlen
 have HF0 := zz (Fx.refl N W w)
 clear hw hlen
 go_enter Tryz.func91, Tryz.ntmps91
 go_wp2_with fail
 obtain ⟨w1, hw1, HB, HXb, hs1⟩ := jb w f (.slice A n c)
 rw [hw1]
 clear hw1
 obtain ⟨hz1, HF1, HW1⟩ := stb hNw HF0 HW0 HB
 clear HF0 HW0
 have hnb : w.heap.size ≠ W := by have := HF1.out.size; omega
 clear HB
 refine (hP _ HF1.out.below _ HW1.out (by have h := HL.out; rw [HX0.out] at h; (try simp only [List.length_append] at h |-); omega)).mono ?_
 rintro e w2 ⟨rfl, fx, wr⟩
 obtain ⟨hz2, HF2, HW2⟩ := stf HF1 fx wr
 replace HXb := fxx HXb fx hnb
 clear HF1 HW1 fx wr
 go_wp2
 go_end0
 exact ⟨rfl, HF2.out, by rw [HX0.out]; first | exact HW2.out | simpa only [List.append_assoc] using HW2.out⟩
theorem stmt_19 (hx : x = [98, 114, 101, 97, 107]) (hk : f.k = 19) :
 Puts N W (d : Int) x 91 #[.pointer (some ⟨W, 0, none⟩), nv f (.slice A n c)] w := by
 unfold nv
 have q5 := nk 5 hk rfl
 have q11 := nk 11 hk rfl
 have q12 := nk 12 hk rfl
 have q13 := nk 13 hk rfl
 have q15 := nk 15 hk rfl
 have q17 := nk 17 hk rfl
 have q18 := nk 18 hk rfl
 have q19 := yk hk
 clear hk
 intro acc hw hlen
 have HW0 := zz hw
 have hWl := hw.lt
 have hNw := hw.nle
 have HX0 := zz (show x = [98, 114, 101, 97, 107] from hx)
 have HL := zz hlen
 have HF0 := zz (Fx.refl N W w)
 clear hw hlen
 go_enter Tryz.func91, Tryz.ntmps91
 go_wp2_with fail
 obtain ⟨w1, hw1, HB, HXb, hs1⟩ := jb w f (.slice A n c)
 rw [hw1]
 clear hw1
 obtain ⟨hz1, HF1, HW1⟩ := stb hNw HF0 HW0 HB
 clear HF0 HW0
 have hnb : w.heap.size ≠ W := by have := HF1.out.size; omega
 clear HB
 refine (zc (x := [98, 114, 101, 97, 107]) [⟨#[98, 114, 101, 97, 107]⟩] (by simp [fl]) (by simp) (by omega) rfl rfl HW1.out (by have h := HL.out; rw [HX0.out] at h; (try simp only [List.length_append] at h |-); omega)).mono ?_
 rintro e w2 ⟨rfl, fx, wr⟩
 obtain ⟨hz2, HF2, HW2⟩ := stf HF1 fx wr
 replace HXb := fxx HXb fx hnb
 clear HF1 HW1 fx wr
 go_wp2
 go_end0
 exact ⟨rfl, HF2.out, by rw [HX0.out]; first | exact HW2.out | simpa only [List.append_assoc] using HW2.out⟩
theorem stmt_20 (hx : x = [99, 111, 110, 116, 105, 110, 117, 101]) (hk : f.k = 20) :
 Puts N W (d : Int) x 91 #[.pointer (some ⟨W, 0, none⟩), nv f (.slice A n c)] w := by
 unfold nv
 have q5 := nk 5 hk rfl
 have q11 := nk 11 hk rfl
 have q12 := nk 12 hk rfl
 have q13 := nk 13 hk rfl
 have q15 := nk 15 hk rfl
 have q17 := nk 17 hk rfl
 have q18 := nk 18 hk rfl
 have q19 := nk 19 hk rfl
 have q20 := yk hk
 clear hk
 intro acc hw hlen
 have HW0 := zz hw
 have hWl := hw.lt
 have hNw := hw.nle
 have HX0 := zz (show x = [99, 111, 110, 116, 105, 110, 117, 101] from hx)
 have HL := zz hlen
 have HF0 := zz (Fx.refl N W w)
 clear hw hlen
 go_enter Tryz.func91, Tryz.ntmps91
 go_wp2_with fail
 obtain ⟨w1, hw1, HB, HXb, hs1⟩ := jb w f (.slice A n c)
 rw [hw1]
 clear hw1
 obtain ⟨hz1, HF1, HW1⟩ := stb hNw HF0 HW0 HB
 clear HF0 HW0
 have hnb : w.heap.size ≠ W := by have := HF1.out.size; omega
 clear HB
 refine (zc (x := [99, 111, 110, 116, 105, 110, 117, 101]) [⟨#[99, 111, 110, 116, 105, 110, 117, 101]⟩] (by simp [fl]) (by simp) (by omega) rfl rfl HW1.out (by have h := HL.out; rw [HX0.out] at h; (try simp only [List.length_append] at h |-); omega)).mono ?_
 rintro e w2 ⟨rfl, fx, wr⟩
 obtain ⟨hz2, HF2, HW2⟩ := stf HF1 fx wr
 replace HXb := fxx HXb fx hnb
 clear HF1 HW1 fx wr
 go_wp2
 go_end0
 exact ⟨rfl, HF2.out, by rw [HX0.out]; first | exact HW2.out | simpa only [List.append_assoc] using HW2.out⟩
theorem stmt_17 (hx : x = [103, 111, 32] ++ te a) (hk : f.k = 17) (hA : PutE a) (hK : Kids w m S v [a]) (hN : ∀ i, S i -> i < N) (hT : TabN N w) :
 Puts N W (d : Int) x 91 #[.pointer (some ⟨W, 0, none⟩), nv f v] w := by
 have HN := zz hN
 have HT := zz hT
 clear hN hT
 obtain ⟨bv, ov, cv, rfl, hcv, hbv, hn_a⟩ := hK.one1
 obtain ⟨va, HCa, HKa⟩ := hn_a.cs
 obtain ⟨Aa, ca, ba, oa, rfl, h1_, h2_, h3_⟩ := HKa.out.form
 clear h1_ h2_ h3_
 clear hK hn_a
 unfold nv
 have q5 := nk 5 hk rfl
 have q11 := nk 11 hk rfl
 have q12 := nk 12 hk rfl
 have q13 := nk 13 hk rfl
 have q15 := nk 15 hk rfl
 have q17 := yk hk
 clear hk
 intro acc hw hlen
 have HW0 := zz hw
 have hWl := hw.lt
 have hNw := hw.nle
 have HX0 := zz (show x = [103, 111, 32] ++ te a from hx)
 have HL := zz hlen
 have HF0 := zz (Fx.refl N W w)
 clear hw hlen
 go_enter Tryz.func91, Tryz.ntmps91
 go_wp2_with fail
 obtain ⟨w1, hw1, HB, HXb, hs1⟩ := jb w f (.slice (some ⟨bv, ov, none⟩) 1 cv)
 rw [hw1]
 clear hw1
 obtain ⟨hz1, HF1, HW1⟩ := stb hNw HF0 HW0 HB
 clear HF0 HW0
 have hnb : w.heap.size ≠ W := by have := HF1.out.size; omega
 clear HB
 refine (zc (x := [103, 111, 32]) [⟨#[103, 111, 32]⟩] (by simp [fl]) (by simp) (by omega) rfl rfl HW1.out (by have h := HL.out; rw [HX0.out] at h; (try simp only [List.length_append] at h |-); omega)).mono ?_
 rintro e w2 ⟨rfl, fx, wr⟩
 obtain ⟨hz2, HF2, HW2⟩ := stf HF1 fx wr
 replace HXb := fxx HXb fx hnb
 clear HF1 HW1 fx wr
 have b0 := HXb.out.cell
 have a0 := (HCa.out.agree (Agree.of_below HF2.out.below HN.out) hbv).cell
 go_wp2_with fail
 refine (hA (N := N) (W := W) (tb := (d : Int)) (w := w2) (m := m) (S := S) (HKa.out.below HF2.out.below HN.out) HN.out (HT.out.below HF2.out.below) _ HW2.out (by have h := HL.out; rw [HX0.out] at h; (try simp only [List.length_append] at h |-); omega)).mono ?_
 rintro e w3 ⟨rfl, fx, wr⟩
 obtain ⟨hz3, HF3, HW3⟩ := stf HF2 fx wr
 replace HXb := fxx HXb fx hnb
 clear HF2 HW2 b0 a0
 clear fx wr
 go_wp2
 go_end0
 exact ⟨rfl, HF3.out, by rw [HX0.out]; first | exact HW3.out | simpa only [List.append_assoc] using HW3.out⟩
theorem putE_name {a : Tr} (h : a.f.k = 21) : PutE a := by
 intro N W tb w v m S hK hN hT
 obtain ⟨f, ks⟩ := a
 obtain ⟨A, c, b, o, rfl, _, _, _⟩ := hK.form
 exact expr_21 h (tx_21 h 0 false)
theorem putE_ok (hT : AllT a) (h : okE a = true) : PutE a := pexpr_all _ a (Nat.le_refl _) hT (okE_okI h)
theorem okT_21 (h : okT a = true) : a.f.k = 21 := by
 rw [okT_eq] at h
 simp only [Bool.and_eq_true, beq_iff_eq] at h
 exact h.1.1.1
theorem and2 {a : Bool} (h : (a && b) = true) : a = true /\ b = true := by simpa using h
theorem simple_all {t : Tr} (hT : AllT t) (h : okM t = true) : PutM t := by
 intro N W tb w v m S hK hN hTab
 obtain ⟨f, ks⟩ := t
 have hkT : ∀ a ∈ ks, AllT a := AllTs.get hT.ks
 have hs : kSimp f = true := (and2 h).1
 have hfit : fitT (.mk f ks) = true := (and2 h).2
 simp only [kSimp, Bool.or_eq_true, beq_iff_eq] at hs
 have lets : f.k = 6 ∨ f.k = 7 -> ∃ r a, ks = r ++ [a] /\ (∀ x ∈ r, PutE x) /\ PutE a := fun h67 => by
  by_cases hc : (f.n = 1 /\ ks.length = 2) ∨ (f.n = 2 /\ ks.length = 3)
  ·rcases hc with ⟨hn, hl⟩ | ⟨hn, hl⟩
   ·match ks, hl, hkT, hfit with
    | [a, e], _, hkT, hfit =>
     rw [let1 (t := .mk f [a, e]) h67 hn rfl] at hfit
     simp only [Bool.and_eq_true] at hfit
     exact ⟨[a], e, rfl, (fun x hx => by
      rcases List.mem_cons.1 hx with rfl | hx
      ·exact putE_name (okT_21 (by rw [okT, hfit.1.1.2.1, hfit.1.1.2.2]; rfl))
      ·cases hx), putE_ok (hkT e (by simp)) (by rw [okE, hfit.1.2.1, hfit.1.2.2]; rfl)⟩
   ·match ks, hl, hkT, hfit with
    | [a, b, e], _, hkT, hfit =>
     rw [let2 (t := .mk f [a, b, e]) h67 hn rfl] at hfit
     simp only [Bool.and_eq_true] at hfit
     exact ⟨[a, b], e, rfl, (fun x hx => by
      rcases List.mem_cons.1 hx with rfl | hx
      ·exact putE_name (okT_21 (by rw [okT, hfit.1.1.1.1.2.1, hfit.1.1.1.1.2.2]; rfl))
      ·rcases List.mem_cons.1 hx with rfl | hx
       ·exact putE_name (okT_21 (by rw [okT, hfit.1.1.1.2.1, hfit.1.1.1.2.2]; rfl))
       ·cases hx), putE_ok (hkT e (by simp)) (by rw [okE, hfit.1.1.2.1, hfit.1.1.2.2]; rfl)⟩
  ·rw [let_no (t := .mk f ks) h67 hc] at hfit
   cases hfit
 rcases hs with (((hk | hk) | hk) | hk) | hk
 ·obtain ⟨r, a, rfl, h1, h2⟩ := lets (Or.inl hk)
  exact simple_6 (tx_6 hk 0 false) hk h1 h2 hK hN hTab
 ·obtain ⟨r, a, rfl, h1, h2⟩ := lets (Or.inr hk)
  exact simple_7 (tx_7 hk 0 false) hk h1 h2 hK hN hTab
 ·rw [fit_8 (t := .mk f ks) hk] at hfit
  simp only [Bool.and_eq_true, decide_eq_true_eq, List.all_eq_true, Bool.or_eq_true, beq_iff_eq] at hfit
  match ks, hfit, hK with
  | [a], hfit, hK =>
   have h21 : a.f.k = 21 := (hfit.1.2 a (by simp [Tr.ks])).1
   rcases hfit.1.1.1 with hn | hn
   ·exact simple_8p (by rw [te, tx_8 hk 0 false]; have hn' : f.n = 1 := hn; rw [if_pos hn']) hk hn (putE_name h21) hK hN hTab
   ·exact simple_8m (by rw [te, tx_8 hk 0 false]; have hn' : f.n = -1 := hn; rw [if_neg (by omega)]) hk hn (putE_name h21) hK hN hTab
 ·rw [fit_9 (t := .mk f ks) hk] at hfit
  simp only [Bool.and_eq_true, decide_eq_true_eq, List.all_eq_true] at hfit
  match ks, hfit, hK, hkT with
  | [a, c], hfit, hK, hkT => exact simple_9 (tx_9 hk 0 false) hk (putE_ok (hkT a (by simp)) (okE_of (hfit.1.1 a (by simp [Tr.ks])))) (putE_ok (hkT c (by simp)) (okE_of (hfit.1.1 c (by simp [Tr.ks])))) hK hN hTab
 ·rw [fit_10 (t := .mk f ks) hk] at hfit
  simp only [Bool.and_eq_true, decide_eq_true_eq, List.all_eq_true] at hfit
  match ks, hfit, hK, hkT with
  | [a], hfit, hK, hkT => exact simple_10 (tx_10 hk 0 false) hk (putE_ok (hkT a (by simp)) (okE_of (hfit.2 a (by simp [Tr.ks])).1)) hK hN hTab
theorem none_all {t : Tr} (h : t.f.k = 0) : PutM t := by
 intro N W tb w v m S hK hN hT
 obtain ⟨f, ks⟩ := t
 obtain ⟨A, c, b, o, rfl, _, _, _⟩ := hK.form
 have h' : f.k = 0 := h
 show Puts N W tb (tx (.mk f ks) 0 false) _ _ _
 rw [tx_0 h' 0 false]
 exact simple_0 h'
end
end Go.Proofs.YtmdhjiammcpogaaGreatDoor
