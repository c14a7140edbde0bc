import Derived.Test.YtmdhjiammcpogaaGreatDoorQ28
namespace Go.Proofs.YtmdhjiammcpogaaGreatDoor
set_option maxRecDepth 100000
set_option maxHeartbeats 16000000
open Go.RowKit
variable {A : Option Addr} {S : Nat -> Prop} {a : Tr} {c n : Nat} {f : Nd} {ks : List Tr} {m : Md} {v : Value} {w : World} {x : List UInt8}
theorem told_21 (hx : x = bs f.t) (hl : x.length <= 140737488355328) (hk : f.k = 21) :
 Calls Tryz.prog 92 #[nv f (.slice A n c)] w fun e w' => e = .returned (.string ⟨x.toArray⟩) /\ Below w.heap.size w w' := by
 unfold nv
 have q21 := yk hk
 clear hk
 have HX0 := zz hx
 have HL := zz hl
 have HB0 := zz (Below.refl w.heap.size w)
 clear hx hl
 have HB := box1 w (.cells #[.int .i64 f.k, .string f.t, .int .i64 f.n, .string f.y, .int .i64 f.s, .int .i64 f.a, .int .i64 f.l, .slice A n c] 25)
 go_enter Tryz.func92, Tryz.ntmps92
 have E := zz (show bs f.t = x by rw [HX0.out])
 go_wp2
 go_ret
 exact ⟨ret_bs E.out, HB.out⟩
theorem told_24 (hx : x = [110, 105, 108]) (hl : x.length <= 140737488355328) (hk : f.k = 24) :
 Calls Tryz.prog 92 #[nv f (.slice A n c)] w fun e w' => e = .returned (.string ⟨x.toArray⟩) /\ Below w.heap.size w w' := by
 unfold nv
 have q21 := nk 21 hk rfl
 have q22 := nk 22 hk rfl
 have q23 := nk 23 hk rfl
 have q24 := yk hk
 clear hk
 have HX0 := zz hx
 have HL := zz hl
 have HB0 := zz (Below.refl w.heap.size w)
 clear hx hl
 have HB := box1 w (.cells #[.int .i64 f.k, .string f.t, .int .i64 f.n, .string f.y, .int .i64 f.s, .int .i64 f.a, .int .i64 f.l, .slice A n c] 25)
 go_enter Tryz.func92, Tryz.ntmps92
 have E := zz (show [110, 105, 108] = x by rw [HX0.out])
 go_wp2
 go_ret
 exact ⟨ret_str E.out, HB.out⟩
theorem told_23t (hx : x = [116, 114, 117, 101]) (hl : x.length <= 140737488355328) (hk : f.k = 23) (hn : f.n = 1) :
 Calls Tryz.prog 92 #[nv f (.slice A n c)] w fun e w' => e = .returned (.string ⟨x.toArray⟩) /\ Below w.heap.size w w' := by
 unfold nv
 have q21 := nk 21 hk rfl
 have q22 := nk 22 hk rfl
 have q23 := yk hk
 clear hk
 have qn := yk hn
 clear hn
 have HX0 := zz hx
 have HL := zz hl
 have HB0 := zz (Below.refl w.heap.size w)
 clear hx hl
 have HB := box1 w (.cells #[.int .i64 f.k, .string f.t, .int .i64 f.n, .string f.y, .int .i64 f.s, .int .i64 f.a, .int .i64 f.l, .slice A n c] 25)
 go_enter Tryz.func92, Tryz.ntmps92
 have E := zz (show [116, 114, 117, 101] = x by rw [HX0.out])
 go_wp2
 go_ret
 exact ⟨ret_str E.out, HB.out⟩
theorem told_23f (hx : x = [102, 97, 108, 115, 101]) (hl : x.length <= 140737488355328) (hk : f.k = 23) (hn : ¬ f.n = 1) :
 Calls Tryz.prog 92 #[nv f (.slice A n c)] w fun e w' => e = .returned (.string ⟨x.toArray⟩) /\ Below w.heap.size w w' := by
 unfold nv
 have q21 := nk 21 hk rfl
 have q22 := nk 22 hk rfl
 have q23 := yk hk
 clear hk
 have qn := beq_false_of_ne hn
 clear hn
 have HX0 := zz hx
 have HL := zz hl
 have HB0 := zz (Below.refl w.heap.size w)
 clear hx hl
 have HB := box1 w (.cells #[.int .i64 f.k, .string f.t, .int .i64 f.n, .string f.y, .int .i64 f.s, .int .i64 f.a, .int .i64 f.l, .slice A n c] 25)
 go_enter Tryz.func92, Tryz.ntmps92
 have E := zz (show [102, 97, 108, 115, 101] = x by rw [HX0.out])
 go_wp2
 go_ret
 exact ⟨ret_str E.out, HB.out⟩
theorem told_22 (hx : x = Lib.itoa f.n) (hl : x.length <= 140737488355328) (hk : f.k = 22) (h0 : -9223372036854775808 <= f.n) (h1 : f.n <= 9223372036854775807) :
 Calls Tryz.prog 92 #[nv f (.slice A n c)] w fun e w' => e = .returned (.string ⟨x.toArray⟩) /\ Below w.heap.size w w' := by
 unfold nv
 have q21 := nk 21 hk rfl
 have q22 := yk hk
 clear hk
 have HX0 := zz hx
 have HL := zz hl
 have HB0 := zz (Below.refl w.heap.size w)
 clear hx hl
 go_enter Tryz.func92, Tryz.ntmps92
 go_wp2_with fail
 obtain ⟨w1, hw1, HB, HXb, hs1⟩ := jb w f (.slice A n c)
 rw [hw1]
 clear hw1
 have hz1 := (HB.out).size
 have HB1 := bt2 HB0 HB.out
 clear HB0
 clear HB
 refine (refint_any f.n h0 h1 _).mono ?_
 rintro e w2 ⟨rfl, b⟩
 have hz2 := (b).size
 have HB2 := bt2 HB1 b
 replace HXb := bx HXb b
 clear HB1
 clear b
 have E := zz (show Lib.itoa f.n = x by rw [HX0.out]; first | done | simp only [List.append_assoc])
 go_wp2
 go_ret
 exact ⟨ret_str E.out, HB2.out⟩
theorem told_25 (hx : x = quo (bs f.t)) (hl : x.length <= 140737488355328) (hk : f.k = 25) (ht : f.t.size <= 70368744177000) :
 Calls Tryz.prog 92 #[nv f (.slice A n c)] w fun e w' => e = .returned (.string ⟨x.toArray⟩) /\ Below w.heap.size w w' := by
 unfold nv
 have q21 := nk 21 hk rfl
 have q22 := nk 22 hk rfl
 have q23 := nk 23 hk rfl
 have q24 := nk 24 hk rfl
 have q25 := yk hk
 clear hk
 have HX0 := zz hx
 have HL := zz hl
 have HB0 := zz (Below.refl w.heap.size w)
 clear hx hl
 go_enter Tryz.func92, Tryz.ntmps92
 go_wp2_with fail
 obtain ⟨w1, hw1, HB, HXb, hs1⟩ := jb w f (.slice A n c)
 rw [hw1]
 clear hw1
 have hz1 := (HB.out).size
 have HB1 := bt2 HB0 HB.out
 clear HB0
 clear HB
 refine (refquote_any f.t _ ht).mono ?_
 rintro e w2 ⟨rfl, b⟩
 have hz2 := (b).size
 have HB2 := bt2 HB1 b
 replace HXb := bx HXb b
 clear HB1
 clear b
 have E := zz (show quo (bs f.t) = x by rw [HX0.out]; first | done | simp only [List.append_assoc])
 go_wp2
 go_ret
 exact ⟨ret_str E.out, HB2.out⟩
theorem told_28 (hx : x = bs f.t ++ ([40] ++ cm (ks.map te) ++ [41])) (hl : x.length <= 140737488355328) (hk : f.k = 28) (hE : ∀ t ∈ ks, Tells t) (hK : Kids w m S v ks) (hN : ∀ i, S i -> i < w.heap.size) :
 Calls Tryz.prog 92 #[nv f v] w fun e w' => e = .returned (.string ⟨x.toArray⟩) /\ Below w.heap.size w w' := by
 have HE := zz hE
 clear hE
 have HN := zz hN
 have HKv := zz hK
 clear hN hK
 obtain ⟨Av, cv, bv, ov, rfl, h1_, h2_, h3_⟩ := HKv.out.form
 clear h1_ h2_ h3_
 unfold nv
 have q21 := nk 21 hk rfl
 have q22 := nk 22 hk rfl
 have q23 := nk 23 hk rfl
 have q24 := nk 24 hk rfl
 have q25 := nk 25 hk rfl
 have q26 := nk 26 hk rfl
 have q27 := nk 27 hk rfl
 have q28 := yk hk
 clear hk
 have HX0 := zz hx
 have HL := zz hl
 have HB0 := zz (Below.refl w.heap.size w)
 clear hx hl
 obtain ⟨p1, g1, HP1⟩ := cte f.t ⟨#[40]⟩ (bs f.t) [40] rfl rfl (by have h := HL.out; rw [HX0.out] at h; (try simp only [List.length_append, List.length_cons, List.length_nil] at h |-); omega)
 obtain ⟨p2, g2, HP2⟩ := cte ⟨p1.toArray⟩ ⟨(cm (ks.map te)).toArray⟩ _ (cm (ks.map te)) HP1.out rfl (by have h := HL.out; rw [HX0.out] at h; (try simp only [List.length_append, List.length_cons, List.length_nil] at h |-); omega)
 obtain ⟨p3, g3, HP3⟩ := cte ⟨p2.toArray⟩ ⟨#[41]⟩ _ [41] HP2.out rfl (by have h := HL.out; rw [HX0.out] at h; (try simp only [List.length_append, List.length_cons, List.length_nil] at h |-); omega)
 go_enter Tryz.func92, Tryz.ntmps92
 go_wp2_with fail
 obtain ⟨w1, hw1, HB, HXb, hs1⟩ := jb w f (.slice Av ks.length cv)
 rw [hw1]
 clear hw1
 have hz1 := (HB.out).size
 have HB1 := bt2 HB0 HB.out
 clear HB0
 clear HB
 refine wp_region_held_drew (S := Below w1.heap.size w1) (by kernel_rfl) ?_ (fun zk => ?_)
 ·exact zd _
 apply tk 0 o209_ rfl (by kernel_rfl) (fun _ _ _ h => h) zk
 ·intro wq zq
  go_simp
  try rfl
 go_frame
 apply tk 1 o210_ rfl (by kernel_rfl) (fun _ _ _ h => h) zk
 ·intro wq zq
  obtain ⟨b0, b1, b2, b3, b4, b5, b6, b7⟩ := (HXb.out.below zq HXb.out.lt).cell
  go_simp
  try rfl
 go_frame
 apply tk 2 o211_ rfl (by kernel_rfl) (fun _ _ _ h => h) zk
 ·intro wq zq
  go_simp
  try rfl
 go_frame
 apply tk 3 o212_ rfl (by kernel_rfl) (fun _ _ _ h => h) zk
 ·intro wq zq
  go_simp
  try rfl
 go_frame
 apply tk 4 o213_ rfl (by kernel_rfl) (fun _ _ _ h => h) zk
 ·intro wq zq
  obtain ⟨b0, b1, b2, b3, b4, b5, b6, b7⟩ := (HXb.out.below zq HXb.out.lt).cell
  go_simp
  try rfl
 go_frame
 refine rd 5 o214_ rfl (by kernel_rfl) fun K hK => ?_
 go_simp
 refine (rlist_is rfl (by have h := HL.out; rw [HX0.out] at h; (try simp only [List.length_append, List.length_cons, List.length_nil] at h |-); omega) HE.out (HKv.out.below (HB1.out.trans (zk.mono HB1.out.size)) HN.out).lstA (fun i hi => by have := HN.out i hi; have := HB1.out.size; have := zk.size; omega)).mono ?_
 rintro e w7 ⟨rfl, b7⟩
 have HB7 := bt2 (zz zk) b7
 clear b7
 go_wp2_with fail
 refine hK.out _ _ ?_ (fun zk => ?_)
 ·exact HB7.out
 clear hK K
 try go_frame
 apply tk 6 o215_ rfl (by kernel_rfl) (fun _ _ _ h => h) zk
 ·intro wq zq
  go_simp
  try rfl
 go_frame
 apply tk 7 o216_ rfl (by kernel_rfl) (fun _ _ _ h => h) zk
 ·intro wq zq
  go_simp
  try rfl
 go_frame
 apply tk 8 o217_ rfl (by kernel_rfl) (fun _ _ _ h => h) zk
 ·intro wq zq
  go_simp
  try rfl
 go_frame
 refine wpAnyH_done (by kernel_rfl) ?_ _
 replace HB1 := bt2 HB1 zk
 replace HXb := bx HXb zk
 have E := zz (show p3 = x by rw [HP3.out, HX0.out]; first | done | simp only [List.append_assoc])
 go_wp2
 go_ret
 exact ⟨ret_str E.out, HB1.out⟩
theorem told_29n (hx : x = [109, 97, 107, 101, 40] ++ bs f.y ++ [41]) (hl : x.length <= 140737488355328) (hk : f.k = 29) :
 Calls Tryz.prog 92 #[nv f (.slice A 0 c)] w fun e w' => e = .returned (.string ⟨x.toArray⟩) /\ Below w.heap.size w w' := by
 unfold nv
 have q21 := nk 21 hk rfl
 have q22 := nk 22 hk rfl
 have q23 := nk 23 hk rfl
 have q24 := nk 24 hk rfl
 have q25 := nk 25 hk rfl
 have q26 := nk 26 hk rfl
 have q27 := nk 27 hk rfl
 have q28 := nk 28 hk rfl
 have q29 := yk hk
 clear hk
 have HX0 := zz hx
 have HL := zz hl
 have HB0 := zz (Below.refl w.heap.size w)
 clear hx hl
 obtain ⟨p1, g1, HP1⟩ := cte ⟨#[109, 97, 107, 101, 40]⟩ f.y [109, 97, 107, 101, 40] (bs f.y) rfl rfl (by have h := HL.out; rw [HX0.out] at h; (try simp only [List.length_append, List.length_cons, List.length_nil] at h |-); omega)
 obtain ⟨p2, g2, HP2⟩ := cte ⟨p1.toArray⟩ ⟨#[41]⟩ _ [41] HP1.out rfl (by have h := HL.out; rw [HX0.out] at h; (try simp only [List.length_append, List.length_cons, List.length_nil] at h |-); omega)
 have HB := box1 w (.cells #[.int .i64 f.k, .string f.t, .int .i64 f.n, .string f.y, .int .i64 f.s, .int .i64 f.a, .int .i64 f.l, .slice A 0 c] 25)
 go_enter Tryz.func92, Tryz.ntmps92
 have E := zz (show p2 = x by rw [HP2.out, HX0.out])
 go_wp2
 go_ret
 exact ⟨ret_str E.out, HB.out⟩
theorem told_29 (hx : x = [109, 97, 107, 101, 40] ++ bs f.y ++ ([44, 32] ++ te a) ++ [41]) (hl : x.length <= 140737488355328) (hk : f.k = 29) (hA : Tells a) (hK : Kids w m S v [a]) (hN : ∀ i, S i -> i < w.heap.size) :
 Calls Tryz.prog 92 #[nv f v] w fun e w' => e = .returned (.string ⟨x.toArray⟩) /\ Below w.heap.size w w' := by
 have HN := zz hN
 clear hN
 obtain ⟨bv, ov, cv, rfl, hcv, hbv, hn_a⟩ := hK.one1
 obtain ⟨va, HCa, HKa⟩ := hn_a.cs
 obtain ⟨Aa, ca, ba, oa, rfl, h1_, h2_, h3_⟩ := HKa.out.form
 clear h1_ h2_ h3_
 clear hK hn_a
 unfold nv
 have q21 := nk 21 hk rfl
 have q22 := nk 22 hk rfl
 have q23 := nk 23 hk rfl
 have q24 := nk 24 hk rfl
 have q25 := nk 25 hk rfl
 have q26 := nk 26 hk rfl
 have q27 := nk 27 hk rfl
 have q28 := nk 28 hk rfl
 have q29 := yk hk
 clear hk
 have HX0 := zz hx
 have HL := zz hl
 have HB0 := zz (Below.refl w.heap.size w)
 clear hx hl
 obtain ⟨p1, g1, HP1⟩ := cte ⟨#[109, 97, 107, 101, 40]⟩ f.y [109, 97, 107, 101, 40] (bs f.y) rfl rfl (by have h := HL.out; rw [HX0.out] at h; (try simp only [List.length_append, List.length_cons, List.length_nil] at h |-); omega)
 obtain ⟨p2, g2, HP2⟩ := cte ⟨p1.toArray⟩ ⟨#[44, 32]⟩ _ [44, 32] HP1.out rfl (by have h := HL.out; rw [HX0.out] at h; (try simp only [List.length_append, List.length_cons, List.length_nil] at h |-); omega)
 obtain ⟨p3, g3, HP3⟩ := cte ⟨p2.toArray⟩ ⟨(te a).toArray⟩ _ (te a) HP2.out rfl (by have h := HL.out; rw [HX0.out] at h; (try simp only [List.length_append, List.length_cons, List.length_nil] at h |-); omega)
 obtain ⟨p4, g4, HP4⟩ := cte ⟨p3.toArray⟩ ⟨#[41]⟩ _ [41] HP3.out rfl (by have h := HL.out; rw [HX0.out] at h; (try simp only [List.length_append, List.length_cons, List.length_nil] at h |-); omega)
 go_enter Tryz.func92, Tryz.ntmps92
 go_wp2_with fail
 obtain ⟨w1, hw1, HB, HXb, hs1⟩ := jb w f (.slice (some ⟨bv, ov, none⟩) 1 cv)
 rw [hw1]
 clear hw1
 have hz1 := (HB.out).size
 have HB1 := bt2 HB0 HB.out
 clear HB0
 clear HB
 refine wp_region_held_drew (S := Below w1.heap.size w1) (by kernel_rfl) ?_ (fun zk => ?_)
 ·exact zd _
 apply tk 0 o218_ rfl (by kernel_rfl) (fun _ _ _ h => h) zk
 ·intro wq zq
  go_simp
  try rfl
 go_frame
 apply tk 1 o219_ rfl (by kernel_rfl) (fun _ _ _ h => h) zk
 ·intro wq zq
  obtain ⟨b0, b1, b2, b3, b4, b5, b6, b7⟩ := (HXb.out.below zq HXb.out.lt).cell
  go_simp
  try rfl
 go_frame
 apply tk 2 o220_ rfl (by kernel_rfl) (fun _ _ _ h => h) zk
 ·intro wq zq
  go_simp
  try rfl
 go_frame
 apply tk 3 o221_ rfl (by kernel_rfl) (fun _ _ _ h => h) zk
 ·intro wq zq
  go_simp
  try rfl
 go_frame
 apply tk 4 o222_ rfl (by kernel_rfl) (fun _ _ _ h => h) zk
 ·intro wq zq
  go_simp
  try rfl
 go_frame
 apply tk 5 o223_ rfl (by kernel_rfl) (fun _ _ _ h => h) zk
 ·intro wq zq
  obtain ⟨b0, b1, b2, b3, b4, b5, b6, b7⟩ := (HXb.out.below zq HXb.out.lt).cell
  go_simp
  try rfl
 go_frame
 apply tk 6 o224_ rfl (by kernel_rfl) (fun _ _ _ h => h) zk
 ·intro wq zq
  go_simp
  try rfl
 go_frame
 apply tk 7 o225_ rfl (by kernel_rfl) (fun _ _ _ h => h) zk
 ·intro wq zq
  have a0 := ((HCa.out.agree (Agree.of_below HB1.out HN.out) hbv).below zq (by have := HN.out bv hbv; have := HB1.out.size; omega)).cell
  go_simp
  try rfl
 go_frame
 refine rd 8 o226_ rfl (by kernel_rfl) fun K hK => ?_
 go_simp
 refine (hA (m := m) (S := S) (HKa.out.below (HB1.out.trans (zk.mono HB1.out.size)) HN.out) (fun i hi => by have := HN.out i hi; have := HB1.out.size; have := zk.size; omega) (by have h := HL.out; rw [HX0.out] at h; (try simp only [List.length_append, List.length_cons, List.length_nil] at h |-); omega)).mono ?_
 rintro e w7 ⟨rfl, b7⟩
 have HB7 := bt2 (zz zk) b7
 clear b7
 go_wp2_with fail
 refine hK.out _ _ ?_ (fun zk => ?_)
 ·exact HB7.out
 clear hK K
 try go_frame
 apply tk 9 o227_ rfl (by kernel_rfl) (fun _ _ _ h => h) zk
 ·intro wq zq
  go_simp
  try rfl
 go_frame
 apply tk 10 o228_ rfl (by kernel_rfl) (fun _ _ _ h => h) zk
 ·intro wq zq
  go_simp
  try rfl
 go_frame
 apply tk 11 o229_ rfl (by kernel_rfl) (fun _ _ _ h => h) zk
 ·intro wq zq
  go_simp
  try rfl
 go_frame
 refine wpAnyH_done (by kernel_rfl) ?_ _
 replace HB1 := bt2 HB1 zk
 replace HXb := bx HXb zk
 have E := zz (show p4 = x by rw [HP4.out, HX0.out]; first | done | simp only [List.append_assoc])
 go_wp2
 go_ret
 exact ⟨ret_str E.out, HB1.out⟩
end Go.Proofs.YtmdhjiammcpogaaGreatDoor
