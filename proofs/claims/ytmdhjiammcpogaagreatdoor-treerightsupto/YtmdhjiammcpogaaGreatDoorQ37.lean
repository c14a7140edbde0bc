import Derived.Test.YtmdhjiammcpogaaGreatDoorQ32
import Derived.Test.YtmdhjiammcpogaaGreatDoorQ34
import Derived.Test.YtmdhjiammcpogaaGreatDoorQ35
import Derived.Test.YtmdhjiammcpogaaGreatDoorQ36
namespace Go.Proofs.YtmdhjiammcpogaaGreatDoor
set_option maxRecDepth 100000
set_option maxHeartbeats 16000000
section
open Go.RowKit
variable {S : Nat -> Prop} {a : Tr} {d : Nat} {f : Nd} {m : Md} {r : List Tr} {v : Value} {w : World} {x : List UInt8}
theorem row_12 {y : List UInt8} {D : Int} (hD : D = (d : Int)) (hx : x = [102, 111, 114, 32] ++ y ++ tx a d false) (hl : x.length <= 140737488355328) (hk : f.k = 12) (hH : TellsH f (r ++ [a]) y) (hB : TellsB a d) (hK : Kids w m S v (r ++ [a])) (hN : ∀ i, S i -> i < w.heap.size) :
 Calls Tryz.prog 72 #[nv f v, .int .i64 D] w fun e w' => e = .returned (.string ⟨x.toArray⟩) /\ Below w.heap.size w w' := by
 subst hD
 have HN := zz hN
 have HKv := zz hK
 clear hN
 obtain ⟨bv, ov, cv, rfl, hcv, hlv, hbv, hn_a, hrr⟩ := hK.snoc
 obtain ⟨va, HCa, HKa⟩ := hn_a.cs
 obtain ⟨Aa, ca, ba, oa, rfl, h1_, h2_, h3_⟩ := HKa.out.form
 clear h1_ h2_ h3_ hK hn_a hrr
 unfold nv
 have i0 : (0 : Int) <= (r.length : Int) := by omega
 have i1 : (r.length : Int) < (r.length : Int) + 1 := by omega
 have i3 : r.length <= cv := by omega
 have hwr : IntKind.i64.wrap (r.length : Int) = (r.length : Int) := by rw [IntKind.wrap_i64]; omega
 have q4 := nk 4 hk rfl
 have q5 := nk 5 hk rfl
 have q11 := nk 11 hk rfl
 have q12 := yk hk
 clear hk
 have HX0 := zz hx
 have HL := zz hl
 have HB0 := zz (Below.refl w.heap.size w)
 clear hx hl
 obtain ⟨p1, g1, HP1⟩ := cte ⟨#[102, 111, 114, 32]⟩ ⟨(y).toArray⟩ [102, 111, 114, 32] y rfl rfl (by have h := HL.out; rw [HX0.out] at h; (try simp only [List.length_append] at h |-); omega)
 obtain ⟨p2, g2, HP2⟩ := cte ⟨p1.toArray⟩ ⟨(tx a d false).toArray⟩ _ (tx a d false) HP1.out rfl (by have h := HL.out; rw [HX0.out] at h; (try simp only [List.length_append] at h |-); omega)
 go_enter Tryz.func72, Tryz.ntmps72
 go_wp2_with fail
 obtain ⟨w1, hw1, HB, HXb, hs1⟩ := jb w f (.slice (some ⟨bv, ov, none⟩) (r.length + 1) cv)
 rw [hw1]
 clear hw1
 have hz1 := (HB.out).size
 have HB1 := bt2 HB0 HB.out
 clear HB0
 clear HB
 refine wp_region_held_drew (S := Below w1.heap.size w1) (by kernel_rfl) ?_ (fun zk => ?_)
 ·exact zd _
 apply tk 0 o194_ rfl (by kernel_rfl) (fun _ _ _ h => h) zk
 ·intro wq zq
  have b0 := (HXb.out.below zq HXb.out.lt).cell
  go_simp
  try rfl
 go_frame
 apply tk 3 o195_ rfl (by kernel_rfl) (fun _ _ _ h => h) zk
 ·intro wq zq
  go_simp
  try rfl
 go_frame
 apply tk 4 o196_ rfl (by kernel_rfl) (fun _ _ _ h => h) zk
 ·intro wq zq
  have b0 := (HXb.out.below zq HXb.out.lt).cell
  go_simp
  try rfl
 go_frame
 apply tk 5 o197_ rfl (by kernel_rfl) (fun _ _ _ h => h) zk
 ·intro wq zq
  go_simp
  try rfl
 go_frame
 apply tk 6 o198_ rfl (by kernel_rfl) (fun _ _ _ h => h) zk
 ·intro wq zq
  have b0 := (HXb.out.below zq HXb.out.lt).cell
  go_simp
  try rfl
 go_frame
 apply tk 7 o199_ rfl (by kernel_rfl) (fun _ _ _ h => h) zk
 ·intro wq zq
  go_simp
  try rfl
 go_frame
 apply tk 8 o200_ rfl (by kernel_rfl) (fun _ _ _ h => h) zk
 ·intro wq zq
  go_simp
  try rfl
 go_frame
 apply tk 9 o201_ rfl (by kernel_rfl) (fun _ _ _ h => h) zk
 ·intro wq zq
  go_simp
  try rfl
 go_frame
 apply tk 10 o202_ rfl (by kernel_rfl) (fun _ _ _ h => h) zk
 ·intro wq zq
  have a0 := ((HCa.out.agree (Agree.of_below HB1.out HN.out) hbv).below zq (by have := HN.out bv hbv; have := HB1.out.size; omega)).cell
  go_simp
  try rfl
 go_frame
 apply tk 11 o203_ rfl (by kernel_rfl) (fun _ _ _ h => h) zk
 ·intro wq zq
  go_simp
  try rfl
 go_frame
 refine rd 1 o204_ rfl (by kernel_rfl) fun K hK => ?_
 go_simp
 refine (hH (m := m) (S := S) (HKv.out.below (HB1.out.trans (zk.mono HB1.out.size)) HN.out) (fun i hi => by have := HN.out i hi; have := HB1.out.size; have := zk.size; omega) (by have h := HL.out; rw [HX0.out] at h; (try simp only [List.length_append] at h |-); omega)).mono ?_
 rintro e w27 ⟨rfl, b27⟩
 have HB27 := bt2 (zz zk) b27
 clear b27
 go_wp2_with fail
 refine hK.out _ _ ?_ (fun zk => ?_)
 ·exact HB27.out
 clear hK K
 try go_frame
 apply tk 2 o205_ rfl (by kernel_rfl) (fun _ _ _ h => h) zk
 ·intro wq zq
  go_simp
  try rfl
 go_frame
 refine rd 12 o206_ rfl (by kernel_rfl) fun K hK => ?_
 go_simp
 refine (hB (m := m) (S := S) rfl (HKa.out.below (HB1.out.trans (zk.mono HB1.out.size)) HN.out) (fun i hi => by have := HN.out i hi; have := HB1.out.size; have := zk.size; omega) (by have h := HL.out; rw [HX0.out] at h; (try simp only [List.length_append] at h |-); omega)).mono ?_
 rintro e w28 ⟨rfl, b28⟩
 have HB28 := bt2 (zz zk) b28
 clear b28
 go_wp2_with fail
 refine hK.out _ _ ?_ (fun zk => ?_)
 ·exact HB28.out
 clear hK K
 try go_frame
 apply tk 13 o207_ rfl (by kernel_rfl) (fun _ _ _ h => h) zk
 ·intro wq zq
  go_simp
  try rfl
 go_frame
 apply tk 14 o208_ rfl (by kernel_rfl) (fun _ _ _ h => h) zk
 ·intro wq zq
  go_simp
  try rfl
 go_frame
 refine wpAnyH_done (by kernel_rfl) ?_ _
 replace HB1 := bt2 HB1 zk
 replace HXb := bx HXb zk
 have E := zz (show p2 = x by rw [HP2.out, HX0.out]; first | done | simp only [List.append_assoc])
 go_wp2
 go_ret
 exact ⟨ret_str E.out, HB1.out⟩
end
section
open Go.RowKit
variable {S : Nat -> Prop} {d : Nat} {f : Nd} {ks : List Tr} {m : Md} {v : Value} {w : World} {x : List UInt8}
theorem row_15 {D : Int} (hD : D = (d : Int)) (hd : d < 1000000) (hx : x = [115, 101, 108, 101, 99, 116, 32, 123, 10] ++ clsT ks d ++ tbs d ++ [125]) (hl : x.length <= 140737488355328) (hk : f.k = 15) (hE : ∀ t ∈ ks, ClaOk t d) (hK : Kids w m S v ks) (hN : ∀ i, S i -> i < w.heap.size) :
 Calls Tryz.prog 72 #[nv f v, .int .i64 D] w fun e w' => e = .returned (.string ⟨x.toArray⟩) /\ Below w.heap.size w w' := by
 subst hD
 have HE := zz hE
 clear hE
 have HN := zz hN
 have HKv := zz hK
 clear hN hK
 obtain ⟨Av, cv, bv, ov, rfl, h1_, h2_, h3_⟩ := HKv.out.form
 clear h1_ h2_ h3_
 unfold nv
 have q4 := nk 4 hk rfl
 have q5 := nk 5 hk rfl
 have q11 := nk 11 hk rfl
 have q12 := nk 12 hk rfl
 have q13 := nk 13 hk rfl
 have q15 := yk hk
 clear hk
 have HX0 := zz hx
 have HL := zz hl
 have HB0 := zz (Below.refl w.heap.size w)
 clear hx hl
 obtain ⟨p1, g1, HP1⟩ := cte ⟨#[115, 101, 108, 101, 99, 116, 32, 123, 10]⟩ ⟨(clsT ks d).toArray⟩ [115, 101, 108, 101, 99, 116, 32, 123, 10] (clsT ks d) rfl rfl (by have h := HL.out; rw [HX0.out] at h; (try simp only [List.length_append] at h |-); omega)
 obtain ⟨p2, g2, HP2⟩ := cte ⟨p1.toArray⟩ ⟨(tbs d).toArray⟩ _ (tbs d) HP1.out rfl (by have h := HL.out; rw [HX0.out] at h; (try simp only [List.length_append] at h |-); omega)
 obtain ⟨p3, g3, HP3⟩ := cte ⟨p2.toArray⟩ ⟨#[125]⟩ _ [125] HP2.out rfl (by have h := HL.out; rw [HX0.out] at h; (try simp only [List.length_append] at h |-); omega)
 go_enter Tryz.func72, Tryz.ntmps72
 go_wp2_with fail
 obtain ⟨w1, hw1, HB, HXb, hs1⟩ := jb w f (.slice Av ks.length cv)
 rw [hw1]
 clear hw1
 have hz1 := (HB.out).size
 have HB1 := bt2 HB0 HB.out
 clear HB0
 clear HB
 refine (rclausesOf_is (d := d) rfl hd rfl (by have h := HL.out; rw [HX0.out] at h; (try simp only [List.length_append] at h |-); omega) HE.out (HKv.out.below HB1.out HN.out).lstA (fun i hi => by have := HN.out i hi; have := HB1.out.size; omega)).mono ?_
 rintro e w2 ⟨rfl, b⟩
 have hz2 := (b).size
 have HB2 := bt2 HB1 b
 replace HXb := bx HXb b
 clear HB1
 clear b
 go_wp2_with fail
 refine (rtabs_is (d := d) (by omega)).mono ?_
 rintro e w3 ⟨rfl, b⟩
 have hz3 := (b).size
 have HB3 := bt2 HB2 b
 replace HXb := bx HXb b
 clear HB2
 clear b
 have E := zz (show p3 = x by rw [HP3.out, HX0.out]; first | done | simp only [List.append_assoc])
 go_wp2
 go_ret
 exact ⟨ret_str E.out, HB3.out⟩
end
section
open Go.RowKit
variable {S : Nat -> Prop} {d : Nat} {f : Nd} {ks : List Tr} {m : Md} {v : Value} {w : World} {x : List UInt8}
theorem row_13z {D : Int} (hD : D = (d : Int)) (hd : d < 1000000) (hx : x = [115, 119, 105, 116, 99, 104, 32] ++ [123, 10] ++ clsT ks d ++ tbs d ++ [125]) (hl : x.length <= 140737488355328) (hk : f.k = 13) (hn : f.n = 0) (hE : ∀ t ∈ ks, ClaOk t d) (hK : Kids w m S v ks) (hN : ∀ i, S i -> i < w.heap.size) :
 Calls Tryz.prog 72 #[nv f v, .int .i64 D] w fun e w' => e = .returned (.string ⟨x.toArray⟩) /\ Below w.heap.size w w' := by
 subst hD
 have HE := zz hE
 clear hE
 have q4 := nk 4 hk rfl
 have q5 := nk 5 hk rfl
 have q11 := nk 11 hk rfl
 have q12 := nk 12 hk rfl
 have q13 := yk hk
 clear hk
 obtain ⟨k, t, n, y, s, a, l⟩ := f
 replace hn : n = 0 := hn
 subst hn
 simp only at q4 q5 q11 q12 q13
 have HN := zz hN
 have HKv := zz hK
 clear hN hK
 obtain ⟨Av, cv, bv, ov, rfl, h1_, h2_, h3_⟩ := HKv.out.form
 clear h1_ h2_ h3_
 unfold nv
 have HX0 := zz hx
 have HL := zz hl
 have HB0 := zz (Below.refl w.heap.size w)
 clear hx hl
 obtain ⟨p1, g1, HP1⟩ := cte ⟨#[115, 119, 105, 116, 99, 104, 32]⟩ ⟨#[123, 10]⟩ [115, 119, 105, 116, 99, 104, 32] [123, 10] rfl rfl (by have h := HL.out; rw [HX0.out] at h; (try simp only [List.length_append] at h |-); omega)
 obtain ⟨p2, g2, HP2⟩ := cte ⟨p1.toArray⟩ ⟨(clsT ks d).toArray⟩ _ (clsT ks d) HP1.out rfl (by have h := HL.out; rw [HX0.out] at h; (try simp only [List.length_append] at h |-); omega)
 obtain ⟨p3, g3, HP3⟩ := cte ⟨p2.toArray⟩ ⟨(tbs d).toArray⟩ _ (tbs d) HP2.out rfl (by have h := HL.out; rw [HX0.out] at h; (try simp only [List.length_append] at h |-); omega)
 obtain ⟨p4, g4, HP4⟩ := cte ⟨p3.toArray⟩ ⟨#[125]⟩ _ [125] HP3.out rfl (by have h := HL.out; rw [HX0.out] at h; (try simp only [List.length_append] at h |-); omega)
 go_enter Tryz.func72, Tryz.ntmps72
 go_wp2_with fail
 obtain ⟨w1, hw1, HB, HXb, hs1⟩ := jb w ⟨k, t, 0, y, s, a, l⟩ (.slice Av ks.length cv)
 simp only at hw1
 rw [hw1]
 clear hw1
 have hz1 := (HB.out).size
 have HB1 := bt2 HB0 HB.out
 clear HB0
 clear HB
 refine (rclausesOf_is (d := d) rfl hd rfl (by have h := HL.out; rw [HX0.out] at h; (try simp only [List.length_append] at h |-); omega) HE.out (HKv.out.below HB1.out HN.out).lstA (fun i hi => by have := HN.out i hi; have := HB1.out.size; omega)).mono ?_
 rintro e w2 ⟨rfl, b⟩
 have hz2 := (b).size
 have HB2 := bt2 HB1 b
 replace HXb := bx HXb b
 clear HB1
 clear b
 go_wp2_with fail
 refine (rtabs_is (d := d) (by omega)).mono ?_
 rintro e w3 ⟨rfl, b⟩
 have hz3 := (b).size
 have HB3 := bt2 HB2 b
 replace HXb := bx HXb b
 clear HB2
 clear b
 have E := zz (show p4 = x by rw [HP4.out, HX0.out]; first | done | simp only [List.append_assoc])
 go_wp2
 go_ret
 exact ⟨ret_str E.out, HB3.out⟩
end
section
open Go.RowKit
variable {S : Nat -> Prop} {a : Tr} {f : Nd} {m : Md} {v : Value} {w : World} {x : List UInt8}
theorem told_27 {c : Tr} (hx : x = brk (leB f a.f) (te a) ++ ([32] ++ bs f.t ++ [32]) ++ brk (riB f c.f) (te c)) (hl : x.length <= 140737488355328) (hk : f.k = 27) (hA : Tells a) (hC : Tells c) (hK : Kids w m S v [a, c]) (hN : ∀ i, S i -> i < w.heap.size) :
 Calls Tryz.prog 92 #[nv f v] w fun e w' => e = .returned (.string ⟨x.toArray⟩) /\ Below w.heap.size w w' := by
 by_cases h1 : a.f.k = 27
 ·by_cases h2 : c.f.k = 27
  ·exact told_27_all hx hl hk hA hC hK hN
  ·exact told_27_all hx hl hk hA hC hK hN
 ·by_cases h2 : c.f.k = 27
  ·exact told_27_all hx hl hk hA hC hK hN
  ·exact told_27_all hx hl hk hA hC hK hN
theorem told_all (n : Nat) : ∀ (t : Tr), cnt t <= n -> AllT t -> okI t = true -> Tells t := by
 induction n with
 | zero => exact fun t hn _ _ => absurd hn (by have := cnt_pos t; omega)
 | succ n ihn =>
  intro t hn hT ho w v m S hK hN hl
  obtain ⟨f, ks⟩ := t
  have hkn : ∀ a ∈ ks, cnt a <= n := fun a ha => by
   have := cnts_mem ha
   have h2 : cnt (.mk f ks) = 1 + cnts ks := rfl
   omega
  have hkT : ∀ a ∈ ks, AllT a := AllTs.get hT.ks
  have ih : ∀ a ∈ ks, okI a = true -> Tells a := fun a ha h => ihn a (hkn a ha) (hkT a ha) h
  have hf : TFit f := hT.tf
  rcases okI_kids ho with ⟨a, hk, rfl, h1⟩ | ⟨a, c, hk, rfl, h1, h2⟩ | ⟨hk, h1⟩ | ⟨hk, rfl | ⟨a, rfl, h1⟩⟩ | ⟨a, r, hk, rfl, h1, h2⟩ | ⟨hk, rfl⟩
  ·exact told_26 (tx_26 hk 0 false) hl hk (ih a (by simp) (okE_okI h1)) hK hN
  ·exact told_27 (tx_27 hk 0 false) hl hk (ih a (by simp) (okE_okI h1)) (ih c (by simp) (okE_okI h2)) hK hN
  ·exact told_28 (tx_28 hk 0 false) hl hk (fun a ha => ih a ha (h1 a ha)) hK hN
  ·obtain ⟨A, c, b, o, rfl, _, _, _⟩ := hK.form
   exact told_29n (tx_29n hk 0 false) hl hk
  ·exact told_29 (tx_29 hk 0 false) hl hk (ih a (by simp) (okE_okI h1)) hK hN
  ·exact told_30 (tx_30 hk 0 false) hl hk (ih a (by simp) (okE_okI h1)) (fun x hx => ih x (List.mem_cons_of_mem _ hx) (okE_okI (h2 x hx))) hK hN
  ·obtain ⟨A, c, b, o, rfl, _, _, _⟩ := hK.form
   rcases hk with hk | hk | hk | hk | hk
   ·exact told_21 (tx_21 hk 0 false) hl hk
   ·exact told_22 (tx_22 hk 0 false) hl hk hf.lo hf.hi
   ·have htx := tx_23 (f := f) (ks := []) hk 0 false
    by_cases hn1 : f.n = 1
    ·rw [if_pos hn1] at htx
     exact told_23t htx hl hk hn1
    ·rw [if_neg hn1] at htx
     exact told_23f htx hl hk hn1
   ·exact told_24 (tx_24 hk 0 false) hl hk
   ·exact told_25 (tx_25 hk 0 false) hl hk (Nat.le_trans hf.tl (by decide))
theorem tells_ok {a : Tr} (hT : AllT a) (h : okE a = true) : Tells a := told_all _ a (Nat.le_refl _) hT (okE_okI h)
theorem tells_name {a : Tr} (h : a.f.k = 21) : Tells a := by
 intro w v m S hK hN hl
 obtain ⟨f, ks⟩ := a
 obtain ⟨A, c, b, o, rfl, _, _, _⟩ := hK.form
 exact told_21 (tx_21 h 0 false) hl h
end
section
open Go.RowKit
variable {d : Nat} {f : Nd} {ks : List Tr}
theorem tellsM_ok {t : Tr} (hT : AllT t) (h : okM t = true) : TellsM t := by
 intro w v m S hK hN hl
 obtain ⟨f, ks⟩ := t
 have hkT : ∀ a ∈ ks, AllT a := AllTs.get hT.ks
 have hs : kSimp f = true := (and2 h).1
 have hfit : fitT (.mk f ks) = true := (and2 h).2
 simp only [kSimp, Bool.or_eq_true, beq_iff_eq] at hs
 have lets : f.k = 6 ∨ f.k = 7 -> ∃ r a, ks = r ++ [a] /\ f.n = (r.length : Int) /\ (∀ x ∈ r, Tells x) /\ Tells a := fun h67 => by
  by_cases hc : (f.n = 1 /\ ks.length = 2) ∨ (f.n = 2 /\ ks.length = 3)
  ·rcases hc with ⟨hn, hl⟩ | ⟨hn, hl⟩
   ·match ks, hl, hkT, hfit with
    | [a, e], _, hkT, hfit =>
     rw [let1 (t := .mk f [a, e]) h67 hn rfl] at hfit
     simp only [Bool.and_eq_true] at hfit
     exact ⟨[a], e, rfl, hn, (fun x hx => by
      rcases List.mem_cons.1 hx with rfl | hx
      ·exact @tells_name x (okT_21 (by rw [okT, hfit.1.1.2.1, hfit.1.1.2.2]; rfl))
      ·cases hx), @tells_ok e (hkT e (by simp)) (by rw [okE, hfit.1.2.1, hfit.1.2.2]; rfl)⟩
   ·match ks, hl, hkT, hfit with
    | [a, b, e], _, hkT, hfit =>
     rw [let2 (t := .mk f [a, b, e]) h67 hn rfl] at hfit
     simp only [Bool.and_eq_true] at hfit
     exact ⟨[a, b], e, rfl, hn, (fun x hx => by
      rcases List.mem_cons.1 hx with rfl | hx
      ·exact @tells_name x (okT_21 (by rw [okT, hfit.1.1.1.1.2.1, hfit.1.1.1.1.2.2]; rfl))
      ·rcases List.mem_cons.1 hx with rfl | hx
       ·exact @tells_name x (okT_21 (by rw [okT, hfit.1.1.1.2.1, hfit.1.1.1.2.2]; rfl))
       ·cases hx), @tells_ok e (hkT e (by simp)) (by rw [okE, hfit.1.1.2.1, hfit.1.1.2.2]; rfl)⟩
  ·rw [let_no (t := .mk f ks) h67 hc] at hfit
   cases hfit
 rcases hs with (((hk | hk) | hk) | hk) | hk
 ·obtain ⟨r, a, rfl, hn, h1, h2⟩ := lets (Or.inl hk)
  exact short_6 (tx_6 hk 0 false) hl hk hn h1 h2 hK hN
 ·obtain ⟨r, a, rfl, hn, h1, h2⟩ := lets (Or.inr hk)
  exact short_7 (tx_7 hk 0 false) hl hk hn h1 h2 hK hN
 ·rw [fit_8 (t := .mk f ks) hk] at hfit
  simp only [Bool.and_eq_true, decide_eq_true_eq, List.all_eq_true, Bool.or_eq_true, beq_iff_eq] at hfit
  match ks, hfit, hK, hl with
  | [a], hfit, hK, hl =>
   have h21 : a.f.k = 21 := (hfit.1.2 a (by simp [Tr.ks])).1
   have hta : te a = bs a.f.t := by obtain ⟨g, l⟩ := a; exact tx_21 h21 0 false
   have htx := tx_8 (a := a) hk 0 false
   rw [hta] at htx
   rcases hfit.1.1.1 with hn | hn
   ·have hn' : f.n = 1 := hn
    rw [if_pos hn'] at htx
    exact short_8p htx hl hk hn' hK hN
   ·have hn' : ¬ f.n = 1 := by have : f.n = -1 := hn; omega
    rw [if_neg hn'] at htx
    exact short_8m htx hl hk hn' hK hN
 ·rw [fit_9 (t := .mk f ks) hk] at hfit
  simp only [Bool.and_eq_true, decide_eq_true_eq, List.all_eq_true] at hfit
  match ks, hfit, hK, hkT, hl with
  | [a, c], hfit, hK, hkT, hl => exact short_9 (tx_9 hk 0 false) hl hk (@tells_ok a (hkT a (by simp)) (okE_of (hfit.1.1 a (by simp [Tr.ks])))) (@tells_ok c (hkT c (by simp)) (okE_of (hfit.1.1 c (by simp [Tr.ks])))) hK hN
 ·rw [fit_10 (t := .mk f ks) hk] at hfit
  simp only [Bool.and_eq_true, decide_eq_true_eq, List.all_eq_true] at hfit
  match ks, hfit, hK, hkT, hl with
  | [a], hfit, hK, hkT, hl => exact short_10 (tx_10 hk 0 false) hl hk (@tells_ok a (hkT a (by simp)) (okE_of (hfit.2 a (by simp [Tr.ks])).1)) hK hN
theorem tellsM_none {t : Tr} (h : t.f.k = 0) : TellsM t := by
 intro w v m S hK hN hl
 obtain ⟨f, ks⟩ := t
 have h' : f.k = 0 := h
 obtain ⟨A, c, b, o, rfl, _, _, _⟩ := hK.form
 have e : te (.mk f ks) = [] := tx_0 h' 0 false
 rw [e]
 exact short_0 h'
structure Tells3 (t : Tr) (d : Nat) : Prop where
 s : okS t = true -> TellsS t d
 b : okB t = true -> TellsB t d
 c : ∀ kd, kd = 14 ∨ kd = 16 -> okC kd t = true -> ClaOk t d
theorem tblock (hd : d < 1000000) (ih : ∀ a ∈ ks, Tells3 a (d + 1)) (h : okB (.mk f ks) = true) : TellsB (.mk f ks) d /\ (∀ k ∈ ks, TellsS k (d + 1)) := by
 have hk : f.k = 4 := okB_4 h
 rw [okB_eq] at h
 simp only [Bool.and_eq_true, List.all_eq_true] at h
 have hS : ∀ t ∈ ks, TellsS t (d + 1) := fun t ht => (ih t ht).s (okS_of (h.2 t ht))
 refine ⟨?_, hS⟩
 intro w v m S D hD hK hN hl
 exact rinner_is hD hd (tx_4 hk d) hl hS hK hN
theorem tclause (hT : AllTs ks) (ih : ∀ a ∈ ks, okB a = true -> ∀ k ∈ a.ks, TellsS k (d + 1)) (kd : Int) (hkd : kd = 14 ∨ kd = 16) (h : okC kd (.mk f ks) = true) : ClaOk (.mk f ks) d := by
 have hT' := AllTs.get hT
 have hk : f.k = kd := beq_iff_eq.1 (and2 h).1
 have hfit : fitT (.mk f ks) = true := (and2 h).2
 have h1416 : f.k = 14 ∨ f.k = 16 := by rw [hk]; exact hkd
 have rowsOf : ∀ a : Tr, okB a = true -> tx a d true = rowsT a.ks (d + 1) := fun a ha => by
  have h4 := okB_4 ha
  obtain ⟨g, l⟩ := a
  exact tx_4i h4 d
 have hlen : 0 < ks.length := by
  by_cases hz : ks.length = 0
  ·by_cases h0 : f.n = 0
   ·rw [clause_none (t := .mk f ks) h1416 (Or.inl h0) hz] at hfit
    cases hfit
   ·by_cases h1 : f.n = 1
    ·rw [clause_none (t := .mk f ks) h1416 (Or.inr h1) hz] at hfit
     cases hfit
    ·rw [clause_num (t := .mk f ks) h1416 h0 h1] at hfit
     cases hfit
  ·omega
 obtain ⟨r, a, rfl, hr⟩ := snoc_of hlen
 by_cases h1 : f.n = 1
 ·rw [clause_def (t := .mk f (r ++ [a])) h1416 h1 rfl] at hfit
  simp only [Bool.and_eq_true, decide_eq_true_eq] at hfit
  obtain rfl : r = [] := List.eq_nil_of_length_eq_zero hfit.2
  have hB := okB_of hfit.1.2
  refine Or.inl ⟨[], a, h1, rfl, ?_, ih a (by simp) hB⟩
  rw [<- rowsOf a hB]
  rcases h1416 with hk | hk
  ·have := tx_14 (r := []) (a := a) hk d false
   rw [if_pos h1] at this
   exact this
  ·exact tx_16d hk h1 d false
 by_cases h0 : f.n = 0
 rotate_left
 ·rw [clause_num (t := .mk f (r ++ [a])) h1416 h0 h1] at hfit
  cases hfit
 rcases h1416 with hk | hk
 ·rw [clause_case (t := .mk f (r ++ [a])) hk h0 rfl] at hfit
  simp only [Bool.and_eq_true, decide_eq_true_eq, List.all_eq_true] at hfit
  have hB := okB_of hfit.1.1.2
  refine Or.inr (Or.inl ⟨r, a, h0, hk, (fun x hx => @tells_ok x (hT' x (by simp [hx])) (okE_of (hfit.1.2 x hx))), rfl, ?_, ih a (by simp) hB⟩)
  rw [<- rowsOf a hB]
  have := tx_14 (r := r) (a := a) hk d false
  rw [if_neg h1] at this
  exact this
 ·by_cases hl : (r ++ [a]).length = 2
  ·obtain ⟨g, rfl⟩ : ∃ g, r = [g] := by
    rw [List.length_append] at hl
    match r, hl with
    | [g], _ => exact ⟨g, rfl⟩
    | [], h => simp at h
    | _ :: _ :: _, h => simp at h
   replace hfit : fitT (.mk f [g, a]) = true := hfit
   rw [arm2 (t := .mk f [g, a]) hk h0 rfl] at hfit
   simp only [Bool.and_eq_true] at hfit
   have hB := okB_of hfit.1.2
   have hM : okM g = true := by
    have := hfit.2
    unfold commOk at this
    simp only [Bool.and_eq_true] at this
    first | exact this.1 | (rw [okM, this.1.1, this.1.2]; rfl)
   refine Or.inr (Or.inr ⟨g, a, h0, hk, @tellsM_ok g (hT' g (by simp)) hM, rfl, ?_, ih a (by simp) hB⟩)
   rw [<- rowsOf a hB]
   exact tx_16 hk h1 d false
  ·rw [arm_len (t := .mk f (r ++ [a])) hk h0 hl] at hfit
   cases hfit
theorem tells_all3 (n : Nat) : ∀ (t : Tr) (d : Nat), cnt t <= n -> d + cnt t <= 900000 -> AllT t -> Tells3 t d := by
 induction n with
 | zero => exact fun t d hn _ _ => absurd hn (by have := cnt_pos t; omega)
 | succ n ihn =>
  intro t d hcn hd hT
  obtain ⟨f, ks⟩ := t
  have hc : cnt (.mk f ks) = 1 + cnts ks := rfl
  have hkT : ∀ a ∈ ks, AllT a := AllTs.get hT.ks
  have ih : ∀ a ∈ ks, Tells3 a d := fun a ha => ihn a d (by have := cnts_mem ha; omega) (by have := cnts_mem ha; omega) (hkT a ha)
  have ih1 : ∀ a ∈ ks, Tells3 a (d + 1) := fun a ha => ihn a (d + 1) (by have := cnts_mem ha; omega) (by have := cnts_mem ha; omega) (hkT a ha)
  have hB : ∀ a ∈ ks, okB a = true -> TellsB a d := fun a ha h => (ih a ha).b h
  have hE : ∀ a ∈ ks, okE a = true -> Tells a := fun a ha h => @tells_ok a (hkT a ha) h
  have hI : ∀ a ∈ ks, okB a = true -> ∀ k ∈ a.ks, TellsS k (d + 1) := fun a ha h k hk => by
   have hc2 : cnt a = 1 + cnts a.ks := by cases a; rfl
   have h3 := cnts_mem hk
   have h4 := cnts_mem ha
   have hs : okS k = true := by
    rw [okB_eq] at h
    simp only [Bool.and_eq_true, List.all_eq_true] at h
    exact okS_of (h.2 k hk)
   exact @Tells3.s k (d + 1) (ihn k (d + 1) (by omega) (by omega) (AllTs.get (hkT a ha).ks k hk)) hs
  have hd' : d < 1000000 := by omega
  refine ⟨fun h => ?_, fun h => (tblock hd' ih1 h).1, fun kd hkd h => tclause hT.ks hI kd hkd h⟩
  intro w v m S D hD hK hN hl
  have hv := hK.form
  obtain ⟨A, c, b, o, rfl, _, _, _⟩ := hv
  have hfit : fitT (.mk f ks) = true := (and2 h).2
  by_cases k4 : f.k = 4
  ·rw [okS_4 (t := .mk f ks) k4] at h
   exact row_4 hD rfl hl k4 (tblock hd' ih1 h).1 hK hN
  by_cases k5 : f.k = 5
  ·rw [okS_5 (t := .mk f ks) k5] at h
   simp only [Bool.and_eq_true, decide_eq_true_eq, List.all_eq_true] at h
   match ks, h.1.2, hK, h.1.1.2, hE, hl with
   | [], _, hK, _, _, hl => exact row_5n (tx_5n k5 d false) hl k5
   | [a], _, hK, h1, hE, hl => exact row_5 (by rw [tx_5 k5 d false]; simp only [List.append_assoc]; first | done | rfl) hl k5 (hE a (by simp) (okE_of (h1 a (by simp [Tr.ks])))) hK hN
  by_cases k11 : f.k = 11
  ·by_cases h2 : ks.length = 2
   ·match ks, h2, hfit, hK, hE, hB, hl with
    | [a, e], _, hfit, hK, hE, hB, hl =>
     rw [if2 (t := .mk f [a, e]) k11 rfl] at hfit
     simp only [Bool.and_eq_true] at hfit
     exact row_11 hD (tx_11 k11 d false) hl k11 (hE a (by simp) (okE_of hfit.1.2)) (hB e (by simp) (okB_of hfit.2)) hK hN
   by_cases h3 : ks.length = 3
   ·match ks, h3, hfit, hK, hE, hB, ih, hl with
    | [a, e, g], _, hfit, hK, hE, hB, ih, hl =>
     rw [if3 (t := .mk f [a, e, g]) k11 rfl] at hfit
     have hg : okS g = true := by
      have h4 := (and2 hfit).2
      split at h4
      ·rename_i hk
       rw [okS_fit (by simp [kStmt, hk])]
       exact h4
      ·rw [okS_4 (okB_4 h4)]
       exact h4
     simp only [Bool.and_eq_true] at hfit
     exact row_11e hD (by rw [tx_11e k11 d false]; simp only [List.append_assoc]; first | done | rfl) hl k11 (hE a (by simp) (okE_of hfit.1.1.2)) (hB e (by simp) (okB_of hfit.1.2)) ((ih g (by simp)).s hg) hK hN
   rw [if_no (t := .mk f ks) k11 h2 h3] at hfit
   cases hfit
  by_cases k12 : f.k = 12
  ·by_cases hc : (f.n = 0 /\ ks.length = 1) ∨ (f.n = 1 /\ ks.length = 2) ∨ (f.n = 2 /\ ks.length = 4) ∨ (f.n = 3 /\ ks.length = 3)
   rotate_left
   ·rw [for_len (t := .mk f ks) k12 hc] at hfit
    cases hfit
   rcases hc with ⟨hn, hl1⟩ | ⟨hn, hl1⟩ | ⟨hn, hl1⟩ | ⟨hn, hl1⟩
   ·match ks, hl1, hfit, hK, hB, hl with
    | [a], _, hfit, hK, hB, hl =>
     rw [for0 (t := .mk f [a]) k12 hn rfl] at hfit
     simp only [Bool.and_eq_true] at hfit
     have hH : TellsH f ([] ++ [a]) [] := by
      intro w v m S hK hN _
      obtain ⟨A, c, b, o, rfl, _, _, _⟩ := hK.form
      exact head_0 hn
     exact row_12 (r := []) (a := a) hD (by rw [tx_12z k12 hn d false]; simp) hl k12 hH (hB a (by simp) (okB_of hfit.2)) hK hN
   ·match ks, hl1, hfit, hK, hB, hE, hl with
    | [e, a], _, hfit, hK, hB, hE, hl =>
     rw [for1 (t := .mk f [e, a]) k12 hn rfl] at hfit
     simp only [Bool.and_eq_true] at hfit
     have hG : Tells e := hE e (by simp) (okE_of hfit.2)
     have hH : TellsH f ([e] ++ [a]) (te e ++ [32]) := by
      intro w v m S hK hN hl
      exact head_1 rfl hl hn hG hK hN
     exact row_12 (r := [e]) (a := a) hD (tx_12a k12 hn d false) hl k12 hH (hB a (by simp) (okB_of hfit.1.2)) hK hN
   ·match ks, hl1, hfit, hK, hB, hE, hkT, hl with
    | [g, c', z, a], _, hfit, hK, hB, hE, hkT, hl =>
     rw [for2 (t := .mk f [g, c', z, a]) k12 hn rfl] at hfit
     obtain ⟨h1, h2⟩ := and2 hfit
     obtain ⟨h2, h3⟩ := and2 h2
     obtain ⟨h4, h5⟩ := and2 h2
     have hM : ∀ y, AllT y -> (okM y || okN y) = true -> TellsM y := fun y hy hh => by
      cases e : okM y
      ·rw [e, Bool.false_or] at hh
       have := (and2 hh).1
       exact @tellsM_none y (by simpa [kNone] using this)
      ·exact @tellsM_ok y hy e
     have hX : (okM z || okN z) = true := by
      cases e : okM z
      ·rw [e] at h3
       simpa using h3
      ·rfl
     have hC : ¬ c'.f.k = 0 -> Tells c' := fun h0 => by
      cases e : okE c'
      ·rw [e, Bool.false_or] at h5
       have := (and2 h5).1
       exact (h0 (by simpa [kNone] using this)).elim
      ·exact hE c' (by simp) e
     have hG : TellsM g := hM g (hkT g (by simp)) h4
     have hZ : ¬ z.f.k = 0 -> TellsM z := fun _ => hM z (hkT z (by simp)) hX
     have hH : TellsH f ([g, c', z] ++ [a]) (three g c' z ++ [32]) := by
      intro w v m S hK hN hl
      exact head_2 rfl hl hn hG hC hZ hK hN
     exact row_12 (r := [g, c', z]) (a := a) hD (tx_12b k12 hn d false) hl k12 hH (hB a (by simp) (and2 h1).2) hK hN
   ·match ks, hl1, hfit, hK, hB, hE, hl with
    | [g, e, a], _, hfit, hK, hB, hE, hl =>
     rw [for3 (t := .mk f [g, e, a]) k12 hn rfl] at hfit
     obtain ⟨h1, h2⟩ := and2 hfit
     obtain ⟨h2, h3⟩ := and2 h2
     have hG : ¬ bs f.t = [] -> g.f.k = 21 := fun h0 => by
      have h6 : decide ((Tr.mk f [g, e, a]).f.t.data.toList = []) = false := decide_eq_false h0
      rw [h6, Bool.and_false, Bool.or_false] at h3
      have := (and2 (and2 h3).1).1
      simpa using this
     have hC : Tells e := hE e (by simp) h2
     have hH : TellsH f ([g, e] ++ [a]) (rngT (bs f.t) g e ++ [32]) := by
      intro w v m S hK hN hl
      by_cases ht : bs f.t = []
      ·exact head_3a (by unfold rngT; rw [if_pos ht, List.nil_append]) hl hn ht hC hK hN
      ·have h21 := hG ht
       have htg : te g = bs g.f.t := by obtain ⟨q, l⟩ := g; exact tx_21 h21 0 false
       exact head_3b (by unfold rngT; rw [if_neg ht, htg]; simp) hl hn ht hC hK hN
     exact row_12 (r := [g, e]) (a := a) hD (tx_12c k12 hn d false) hl k12 hH (hB a (by simp) (and2 h1).2) hK hN
  by_cases k13 : f.k = 13
  ·by_cases hn0 : f.n = 0
   ·rw [okS_13a (t := .mk f ks) k13 hn0] at h
    have h2 := (and2 (and2 h).2).1
    rw [List.all_eq_true] at h2
    exact row_13z hD hd' (by rw [tx_13z k13 hn0 d false]; simp only [List.append_assoc]; first | done | rfl) hl k13 hn0 (fun x hx => (ih x hx).c 14 (Or.inl rfl) (h2 x hx)) hK hN
   by_cases hn1 : f.n = 1
   ·by_cases hl0 : ks.length = 0
    ·rw [okS_13n (t := .mk f ks) k13 hn1 hl0] at h
     cases h
    ·match ks, hl0, h, hK, hE, ih, hl with
     | a :: r, _, h, hK, hE, ih, hl =>
      rw [okS_13b (t := .mk f (a :: r)) k13 hn1 rfl] at h
      have h2 := (and2 (and2 h).2).1
      rw [List.all_eq_true] at h2
      exact row_13 hD hd' (by rw [tx_13 k13 hn1 d false]; simp only [List.append_assoc]; first | done | rfl) hl k13 hn1 (hE a (by simp) (and2 (and2 h).1).2) (fun x hx => (ih x (List.mem_cons_of_mem _ hx)).c 14 (Or.inl rfl) (h2 x hx)) hK hN
     | [], hl0, _, _, _, _, _ => exact absurd rfl hl0
   rw [okS_13m (t := .mk f ks) k13 hn0 hn1] at h
   cases h
  by_cases k15 : f.k = 15
  ·rw [okS_15 (t := .mk f ks) k15] at h
   have h1 := (and2 h).1
   have h2 := (and2 (and2 h).2).1
   rw [List.all_eq_true] at h2
   have hn0 : f.n = 0 := by
    unfold emp at h1
    simp only [Bool.and_eq_true, beq_iff_eq] at h1
    exact h1.2
   exact row_15 hD hd' (by rw [tx_15 k15 d false]; simp) hl k15 (fun x hx => (ih x hx).c 16 (Or.inr rfl) (h2 x hx)) hK hN
  by_cases k17 : f.k = 17
  ·rw [okS_17 (t := .mk f ks) k17] at h
   simp only [Bool.and_eq_true, decide_eq_true_eq, List.all_eq_true, beq_iff_eq] at h
   match ks, h.1.1, h.1.2, hK, hkT, hl with
   | [a], _, h2, hK, hkT, hl =>
    have h3 := h2 a (by simp [Tr.ks])
    have hA : okE a = true := by rw [okE_28 h3.1.1]; exact h3.2
    exact row_17 (tx_17 k17 d false) hl k17 (@tells_ok a (hkT a (by simp)) hA) hK hN
  by_cases k18 : f.k = 18
  ·rw [okS_18 (t := .mk f ks) k18] at h
   simp only [Bool.and_eq_true, decide_eq_true_eq, List.all_eq_true] at h
   match ks, h.1.2, hK, h.1.1, hE, hl with
   | [], _, hK, _, _, hl => exact row_18n (tx_18n k18 d false) hl k18
   | [a], _, hK, h1, hE, hl => exact row_18 (by rw [tx_18 k18 d false]; simp) hl k18 (hE a (by simp) (okE_of (h1 a (by simp [Tr.ks])))) hK hN
  by_cases k19 : f.k = 19
  ·exact row_19 (tx_19 k19 d false) hl k19
  by_cases k20 : f.k = 20
  ·exact row_20 (tx_20 k20 d false) hl k20
  have hz : ∀ z ∈ ([4, 5, 11, 12, 13, 15, 17, 18, 19, 20] : List Int), ¬ f.k = z := by
   intro z hz
   simp only [List.mem_cons, List.not_mem_nil, or_false] at hz
   rcases hz with rfl | rfl | rfl | rfl | rfl | rfl | rfl | rfl | rfl | rfl <;> assumption
  rw [okS_simple (t := .mk f ks) hz] at h
  exact row_s (tx_simp (t := .mk f ks) (Or.inl (and2 h).1) d false) hl hz (@tellsM_ok (.mk f ks) hT h) hK hN
end
end Go.Proofs.YtmdhjiammcpogaaGreatDoor
