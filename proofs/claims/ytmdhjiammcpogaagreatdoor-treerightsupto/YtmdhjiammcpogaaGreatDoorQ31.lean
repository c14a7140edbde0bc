import Derived.Test.YtmdhjiammcpogaaGreatDoorQ30
namespace Go.Proofs.YtmdhjiammcpogaaGreatDoor
set_option maxRecDepth 100000
set_option maxHeartbeats 16000000
section
open Go.RowKit
variable {A : Option Addr} {S : Nat -> Prop} {a : Tr} {c d n : Nat} {f : Nd} {ks : List Tr} {m : Md} {v : Value} {w : World} {x : List UInt8}
def TellsB (t : Tr) (d : Nat) : Prop := ∀ {w : World} {v : Value} {m : Md} {S : Nat -> Prop} {D : Int}, D = (d : Int) -> Kids w m S v t.ks -> (∀ i, S i -> i < w.heap.size) -> (tx t d false).length <= 140737488355328 -> Calls Tryz.prog 22 #[nv t.f v, .int .i64 D] w fun e w' => e = .returned (.string ⟨(tx t d false).toArray⟩) /\ Below w.heap.size w w'
def TellsH (f : Nd) (ks : List Tr) (y : List UInt8) : Prop := ∀ {w : World} {v : Value} {m : Md} {S : Nat -> Prop}, Kids w m S v ks -> (∀ i, S i -> i < w.heap.size) -> y.length <= 140737488355328 -> Calls Tryz.prog 93 #[nv f v] w fun e w' => e = .returned (.string ⟨y.toArray⟩) /\ Below w.heap.size w w'
theorem row_19 {D : Int} (hx : x = [98, 114, 101, 97, 107]) (hl : x.length <= 140737488355328) (hk : f.k = 19) :
 Calls Tryz.prog 72 #[nv f (.slice A n c), .int .i64 D] w fun e w' => e = .returned (.string ⟨x.toArray⟩) /\ Below w.heap.size w w' := by
 unfold nv
 have q4 := nk 4 hk rfl
 have q5 := nk 5 hk rfl
 have q11 := nk 11 hk rfl
 have q12 := nk 12 hk rfl
 have q13 := nk 13 hk rfl
 have q15 := nk 15 hk rfl
 have q17 := nk 17 hk rfl
 have q18 := nk 18 hk rfl
 have q19 := yk hk
 clear hk
 have HX0 := zz hx
 have HL := zz hl
 have HB0 := zz (Below.refl w.heap.size w)
 clear hx hl
 have HB := box1 w (.cells #[.int .i64 f.k, .string f.t, .int .i64 f.n, .string f.y, .int .i64 f.s, .int .i64 f.a, .int .i64 f.l, .slice A n c] 25)
 go_enter Tryz.func72, Tryz.ntmps72
 have E := zz (show [98, 114, 101, 97, 107] = x by rw [HX0.out])
 go_wp2
 go_ret
 exact ⟨ret_str E.out, HB.out⟩
theorem row_20 {D : Int} (hx : x = [99, 111, 110, 116, 105, 110, 117, 101]) (hl : x.length <= 140737488355328) (hk : f.k = 20) :
 Calls Tryz.prog 72 #[nv f (.slice A n c), .int .i64 D] w fun e w' => e = .returned (.string ⟨x.toArray⟩) /\ Below w.heap.size w w' := by
 unfold nv
 have q4 := nk 4 hk rfl
 have q5 := nk 5 hk rfl
 have q11 := nk 11 hk rfl
 have q12 := nk 12 hk rfl
 have q13 := nk 13 hk rfl
 have q15 := nk 15 hk rfl
 have q17 := nk 17 hk rfl
 have q18 := nk 18 hk rfl
 have q19 := nk 19 hk rfl
 have q20 := yk hk
 clear hk
 have HX0 := zz hx
 have HL := zz hl
 have HB0 := zz (Below.refl w.heap.size w)
 clear hx hl
 have HB := box1 w (.cells #[.int .i64 f.k, .string f.t, .int .i64 f.n, .string f.y, .int .i64 f.s, .int .i64 f.a, .int .i64 f.l, .slice A n c] 25)
 go_enter Tryz.func72, Tryz.ntmps72
 have E := zz (show [99, 111, 110, 116, 105, 110, 117, 101] = x by rw [HX0.out])
 go_wp2
 go_ret
 exact ⟨ret_str E.out, HB.out⟩
theorem row_4 {D : Int} (hD : D = (d : Int)) (hx : x = tx (.mk f ks) d false) (hl : x.length <= 140737488355328) (hk : f.k = 4) (hB : TellsB (.mk f ks) d) (hK : Kids w m S v ks) (hN : ∀ i, S i -> i < w.heap.size) :
 Calls Tryz.prog 72 #[nv f v, .int .i64 D] w fun e w' => e = .returned (.string ⟨x.toArray⟩) /\ Below w.heap.size w w' := by
 subst hD
 have HN := zz hN
 have HKv := zz hK
 clear hN hK
 obtain ⟨Av, cv, bv, ov, rfl, h1_, h2_, h3_⟩ := HKv.out.form
 clear h1_ h2_ h3_
 unfold nv
 have q4 := yk hk
 clear hk
 have HX0 := zz hx
 have HL := zz hl
 have HB0 := zz (Below.refl w.heap.size w)
 clear hx hl
 go_enter Tryz.func72, Tryz.ntmps72
 go_wp2_with fail
 obtain ⟨w1, hw1, HB, HXb, hs1⟩ := jb w f (.slice Av ks.length cv)
 rw [hw1]
 clear hw1
 have hz1 := (HB.out).size
 have HB1 := bt2 HB0 HB.out
 clear HB0
 clear HB
 refine (hB (m := m) (S := S) rfl (HKv.out.below HB1.out HN.out) (fun i hi => by have := HN.out i hi; have := HB1.out.size; omega) (by have h := HL.out; rw [HX0.out] at h; (try simp only [List.length_append] at h |-); omega)).mono ?_
 rintro e w2 ⟨rfl, b⟩
 have hz2 := (b).size
 have HB2 := bt2 HB1 b
 replace HXb := bx HXb b
 clear HB1
 clear b
 have E := zz (show tx (.mk f ks) d false = x by rw [HX0.out]; first | done | simp only [List.append_assoc])
 go_wp2
 go_ret
 exact ⟨ret_str E.out, HB2.out⟩
theorem row_5n {D : Int} (hx : x = [118, 97, 114, 32] ++ bs f.t ++ [32] ++ bs f.y) (hl : x.length <= 140737488355328) (hk : f.k = 5) :
 Calls Tryz.prog 72 #[nv f (.slice A 0 c), .int .i64 D] w fun e w' => e = .returned (.string ⟨x.toArray⟩) /\ Below w.heap.size w w' := by
 unfold nv
 have q4 := nk 4 hk rfl
 have q5 := yk hk
 clear hk
 have HX0 := zz hx
 have HL := zz hl
 have HB0 := zz (Below.refl w.heap.size w)
 clear hx hl
 obtain ⟨p1, g1, HP1⟩ := cte ⟨#[118, 97, 114, 32]⟩ f.t [118, 97, 114, 32] (bs f.t) rfl rfl (by have h := HL.out; rw [HX0.out] at h; (try simp only [List.length_append] at h |-); omega)
 obtain ⟨p2, g2, HP2⟩ := cte ⟨p1.toArray⟩ ⟨#[32]⟩ _ [32] HP1.out rfl (by have h := HL.out; rw [HX0.out] at h; (try simp only [List.length_append] at h |-); omega)
 obtain ⟨p3, g3, HP3⟩ := cte ⟨p2.toArray⟩ f.y _ (bs f.y) HP2.out rfl (by have h := HL.out; rw [HX0.out] at h; (try simp only [List.length_append] at h |-); omega)
 have HB := box1 w (.cells #[.int .i64 f.k, .string f.t, .int .i64 f.n, .string f.y, .int .i64 f.s, .int .i64 f.a, .int .i64 f.l, .slice A 0 c] 25)
 go_enter Tryz.func72, Tryz.ntmps72
 have E := zz (show p3 = x by rw [HP3.out, HX0.out])
 go_wp2
 go_ret
 exact ⟨ret_str E.out, HB.out⟩
theorem row_5 {D : Int} (hx : x = [118, 97, 114, 32] ++ bs f.t ++ [32] ++ bs f.y ++ [32, 61, 32] ++ te a) (hl : x.length <= 140737488355328) (hk : f.k = 5) (hA : Tells a) (hK : Kids w m S v [a]) (hN : ∀ i, S i -> i < w.heap.size) :
 Calls Tryz.prog 72 #[nv f v, .int .i64 D] w fun e w' => e = .returned (.string ⟨x.toArray⟩) /\ Below w.heap.size w w' := by
 have HN := zz hN
 clear hN
 obtain ⟨bv, ov, cv, rfl, hcv, hbv, hn_a⟩ := hK.one1
 obtain ⟨va, HCa, HKa⟩ := hn_a.cs
 obtain ⟨Aa, ca, ba, oa, rfl, h1_, h2_, h3_⟩ := HKa.out.form
 clear h1_ h2_ h3_
 clear hK hn_a
 unfold nv
 have q4 := nk 4 hk rfl
 have q5 := yk hk
 clear hk
 have HX0 := zz hx
 have HL := zz hl
 have HB0 := zz (Below.refl w.heap.size w)
 clear hx hl
 obtain ⟨p1, g1, HP1⟩ := cte ⟨#[118, 97, 114, 32]⟩ f.t [118, 97, 114, 32] (bs f.t) rfl rfl (by have h := HL.out; rw [HX0.out] at h; (try simp only [List.length_append] at h |-); omega)
 obtain ⟨p2, g2, HP2⟩ := cte ⟨p1.toArray⟩ ⟨#[32]⟩ _ [32] HP1.out rfl (by have h := HL.out; rw [HX0.out] at h; (try simp only [List.length_append] at h |-); omega)
 obtain ⟨p3, g3, HP3⟩ := cte ⟨p2.toArray⟩ f.y _ (bs f.y) HP2.out rfl (by have h := HL.out; rw [HX0.out] at h; (try simp only [List.length_append] at h |-); omega)
 obtain ⟨p4, g4, HP4⟩ := cte ⟨p3.toArray⟩ ⟨#[32, 61, 32]⟩ _ [32, 61, 32] HP3.out rfl (by have h := HL.out; rw [HX0.out] at h; (try simp only [List.length_append] at h |-); omega)
 obtain ⟨p5, g5, HP5⟩ := cte ⟨p4.toArray⟩ ⟨(te a).toArray⟩ _ (te a) HP4.out rfl (by have h := HL.out; rw [HX0.out] at h; (try simp only [List.length_append] at h |-); omega)
 have hbs : bv < w.heap.size := HN.out bv hbv
 have a0 := al8 hbs HCa
 go_enter Tryz.func72, Tryz.ntmps72
 go_wp2_with fail
 obtain ⟨w1, hw1, HB, HXb, hs1⟩ := jb w f (.slice (some ⟨bv, ov, none⟩) 1 cv)
 rw [hw1]
 clear hw1
 have hz1 := (HB.out).size
 have HB1 := bt2 HB0 HB.out
 clear HB0 a0
 clear HB
 refine (hA (m := m) (S := S) (HKa.out.below HB1.out HN.out) (fun i hi => by have := HN.out i hi; have := HB1.out.size; omega) (by have h := HL.out; rw [HX0.out] at h; (try simp only [List.length_append] at h |-); omega)).mono ?_
 rintro e w2 ⟨rfl, b⟩
 have hz2 := (b).size
 have HB2 := bt2 HB1 b
 replace HXb := bx HXb b
 clear HB1
 clear b
 have E := zz (show p5 = x by rw [HP5.out, HX0.out]; first | done | simp only [List.append_assoc])
 go_wp2
 go_ret
 exact ⟨ret_str E.out, HB2.out⟩
theorem row_17 {D : Int} (hx : x = [103, 111, 32] ++ te a) (hl : x.length <= 140737488355328) (hk : f.k = 17) (hA : Tells a) (hK : Kids w m S v [a]) (hN : ∀ i, S i -> i < w.heap.size) :
 Calls Tryz.prog 72 #[nv f v, .int .i64 D] w fun e w' => e = .returned (.string ⟨x.toArray⟩) /\ Below w.heap.size w w' := by
 have HN := zz hN
 clear hN
 obtain ⟨bv, ov, cv, rfl, hcv, hbv, hn_a⟩ := hK.one1
 obtain ⟨va, HCa, HKa⟩ := hn_a.cs
 obtain ⟨Aa, ca, ba, oa, rfl, h1_, h2_, h3_⟩ := HKa.out.form
 clear h1_ h2_ h3_
 clear hK hn_a
 unfold nv
 have q4 := nk 4 hk rfl
 have q5 := nk 5 hk rfl
 have q11 := nk 11 hk rfl
 have q12 := nk 12 hk rfl
 have q13 := nk 13 hk rfl
 have q15 := nk 15 hk rfl
 have q17 := yk hk
 clear hk
 have HX0 := zz hx
 have HL := zz hl
 have HB0 := zz (Below.refl w.heap.size w)
 clear hx hl
 obtain ⟨p1, g1, HP1⟩ := cte ⟨#[103, 111, 32]⟩ ⟨(te a).toArray⟩ [103, 111, 32] (te a) rfl rfl (by have h := HL.out; rw [HX0.out] at h; (try simp only [List.length_append] at h |-); omega)
 have hbs : bv < w.heap.size := HN.out bv hbv
 have a0 := al8 hbs HCa
 go_enter Tryz.func72, Tryz.ntmps72
 go_wp2_with fail
 obtain ⟨w1, hw1, HB, HXb, hs1⟩ := jb w f (.slice (some ⟨bv, ov, none⟩) 1 cv)
 rw [hw1]
 clear hw1
 have hz1 := (HB.out).size
 have HB1 := bt2 HB0 HB.out
 clear HB0 a0
 clear HB
 refine (hA (m := m) (S := S) (HKa.out.below HB1.out HN.out) (fun i hi => by have := HN.out i hi; have := HB1.out.size; omega) (by have h := HL.out; rw [HX0.out] at h; (try simp only [List.length_append] at h |-); omega)).mono ?_
 rintro e w2 ⟨rfl, b⟩
 have hz2 := (b).size
 have HB2 := bt2 HB1 b
 replace HXb := bx HXb b
 clear HB1
 clear b
 have E := zz (show p1 = x by rw [HP1.out, HX0.out]; first | done | simp only [List.append_assoc])
 go_wp2
 go_ret
 exact ⟨ret_str E.out, HB2.out⟩
theorem row_18n {D : Int} (hx : x = [114, 101, 116, 117, 114, 110]) (hl : x.length <= 140737488355328) (hk : f.k = 18) :
 Calls Tryz.prog 72 #[nv f (.slice A 0 c), .int .i64 D] w fun e w' => e = .returned (.string ⟨x.toArray⟩) /\ Below w.heap.size w w' := by
 unfold nv
 have q4 := nk 4 hk rfl
 have q5 := nk 5 hk rfl
 have q11 := nk 11 hk rfl
 have q12 := nk 12 hk rfl
 have q13 := nk 13 hk rfl
 have q15 := nk 15 hk rfl
 have q17 := nk 17 hk rfl
 have q18 := yk hk
 clear hk
 have HX0 := zz hx
 have HL := zz hl
 have HB0 := zz (Below.refl w.heap.size w)
 clear hx hl
 have HB := box1 w (.cells #[.int .i64 f.k, .string f.t, .int .i64 f.n, .string f.y, .int .i64 f.s, .int .i64 f.a, .int .i64 f.l, .slice A 0 c] 25)
 go_enter Tryz.func72, Tryz.ntmps72
 have E := zz (show [114, 101, 116, 117, 114, 110] = x by rw [HX0.out])
 go_wp2
 go_ret
 exact ⟨ret_str E.out, HB.out⟩
theorem row_18 {D : Int} (hx : x = [114, 101, 116, 117, 114, 110, 32] ++ te a) (hl : x.length <= 140737488355328) (hk : f.k = 18) (hA : Tells a) (hK : Kids w m S v [a]) (hN : ∀ i, S i -> i < w.heap.size) :
 Calls Tryz.prog 72 #[nv f v, .int .i64 D] w fun e w' => e = .returned (.string ⟨x.toArray⟩) /\ Below w.heap.size w w' := by
 have HN := zz hN
 clear hN
 obtain ⟨bv, ov, cv, rfl, hcv, hbv, hn_a⟩ := hK.one1
 obtain ⟨va, HCa, HKa⟩ := hn_a.cs
 obtain ⟨Aa, ca, ba, oa, rfl, h1_, h2_, h3_⟩ := HKa.out.form
 clear h1_ h2_ h3_
 clear hK hn_a
 unfold nv
 have q4 := nk 4 hk rfl
 have q5 := nk 5 hk rfl
 have q11 := nk 11 hk rfl
 have q12 := nk 12 hk rfl
 have q13 := nk 13 hk rfl
 have q15 := nk 15 hk rfl
 have q17 := nk 17 hk rfl
 have q18 := yk hk
 clear hk
 have HX0 := zz hx
 have HL := zz hl
 have HB0 := zz (Below.refl w.heap.size w)
 clear hx hl
 obtain ⟨p1, g1, HP1⟩ := cte ⟨#[114, 101, 116, 117, 114, 110, 32]⟩ ⟨(te a).toArray⟩ [114, 101, 116, 117, 114, 110, 32] (te a) rfl rfl (by have h := HL.out; rw [HX0.out] at h; (try simp only [List.length_append] at h |-); omega)
 have hbs : bv < w.heap.size := HN.out bv hbv
 have a0 := al8 hbs HCa
 go_enter Tryz.func72, Tryz.ntmps72
 go_wp2_with fail
 obtain ⟨w1, hw1, HB, HXb, hs1⟩ := jb w f (.slice (some ⟨bv, ov, none⟩) 1 cv)
 rw [hw1]
 clear hw1
 have hz1 := (HB.out).size
 have HB1 := bt2 HB0 HB.out
 clear HB0 a0
 clear HB
 refine (hA (m := m) (S := S) (HKa.out.below HB1.out HN.out) (fun i hi => by have := HN.out i hi; have := HB1.out.size; omega) (by have h := HL.out; rw [HX0.out] at h; (try simp only [List.length_append] at h |-); omega)).mono ?_
 rintro e w2 ⟨rfl, b⟩
 have hz2 := (b).size
 have HB2 := bt2 HB1 b
 replace HXb := bx HXb b
 clear HB1
 clear b
 have E := zz (show p1 = x by rw [HP1.out, HX0.out]; first | done | simp only [List.append_assoc])
 go_wp2
 go_ret
 exact ⟨ret_str E.out, HB2.out⟩
theorem row_s {D : Int} (hx : x = te (.mk f ks)) (hl : x.length <= 140737488355328) (hk : ∀ z ∈ ([4, 5, 11, 12, 13, 15, 17, 18, 19, 20] : List Int), ¬ f.k = z) (hM : TellsM (.mk f ks)) (hK : Kids w m S v ks) (hN : ∀ i, S i -> i < w.heap.size) :
 Calls Tryz.prog 72 #[nv f v, .int .i64 D] w fun e w' => e = .returned (.string ⟨x.toArray⟩) /\ Below w.heap.size w w' := by
 have HN := zz hN
 have HKv := zz hK
 clear hN hK
 obtain ⟨Av, cv, bv, ov, rfl, h1_, h2_, h3_⟩ := HKv.out.form
 clear h1_ h2_ h3_
 unfold nv
 have q4 : (f.k == 4) = false := beq_false_of_ne (hk 4 (by simp))
 have q5 : (f.k == 5) = false := beq_false_of_ne (hk 5 (by simp))
 have q11 : (f.k == 11) = false := beq_false_of_ne (hk 11 (by simp))
 have q12 : (f.k == 12) = false := beq_false_of_ne (hk 12 (by simp))
 have q13 : (f.k == 13) = false := beq_false_of_ne (hk 13 (by simp))
 have q15 : (f.k == 15) = false := beq_false_of_ne (hk 15 (by simp))
 have q17 : (f.k == 17) = false := beq_false_of_ne (hk 17 (by simp))
 have q18 : (f.k == 18) = false := beq_false_of_ne (hk 18 (by simp))
 have q19 : (f.k == 19) = false := beq_false_of_ne (hk 19 (by simp))
 have q20 : (f.k == 20) = false := beq_false_of_ne (hk 20 (by simp))
 clear hk
 have HX0 := zz hx
 have HL := zz hl
 have HB0 := zz (Below.refl w.heap.size w)
 clear hx hl
 go_enter Tryz.func72, Tryz.ntmps72
 go_wp2_with fail
 obtain ⟨w1, hw1, HB, HXb, hs1⟩ := jb w f (.slice Av ks.length cv)
 rw [hw1]
 clear hw1
 have hz1 := (HB.out).size
 have HB1 := bt2 HB0 HB.out
 clear HB0
 clear HB
 refine (hM (m := m) (S := S) (HKv.out.below HB1.out HN.out) (fun i hi => by have := HN.out i hi; have := HB1.out.size; omega) (by have h := HL.out; rw [HX0.out] at h; (try simp only [List.length_append] at h |-); omega)).mono ?_
 rintro e w2 ⟨rfl, b⟩
 have hz2 := (b).size
 have HB2 := bt2 HB1 b
 replace HXb := bx HXb b
 clear HB1
 clear b
 have E := zz (show te (.mk f ks) = x by rw [HX0.out]; first | done | simp only [List.append_assoc])
 go_wp2
 go_ret
 exact ⟨ret_str E.out, HB2.out⟩
end
section
open Go.RowKit
variable {S : Nat -> Prop} {a : Tr} {d : Nat} {f : Nd} {m : Md} {v : Value} {w : World} {x : List UInt8}
theorem row_11 {c : Tr} {D : Int} (hD : D = (d : Int)) (hx : x = [105, 102, 32] ++ te a ++ [32] ++ tx c d false) (hl : x.length <= 140737488355328) (hk : f.k = 11) (hA : Tells a) (hC : TellsB c d) (hK : Kids w m S v [a, c]) (hN : ∀ i, S i -> i < w.heap.size) :
 Calls Tryz.prog 72 #[nv f v, .int .i64 D] w fun e w' => e = .returned (.string ⟨x.toArray⟩) /\ Below w.heap.size w w' := by
 subst hD
 have HN := zz hN
 clear hN
 obtain ⟨bv, ov, cv, rfl, hcv, hbv, hn_a, hn_c⟩ := hK.two2
 obtain ⟨va, HCa, HKa⟩ := hn_a.cs
 obtain ⟨Aa, ca, ba, oa, rfl, h1_, h2_, h3_⟩ := HKa.out.form
 clear h1_ h2_ h3_
 obtain ⟨vc, HCc, HKc⟩ := hn_c.cs
 obtain ⟨Ac, cc, bc, oc, rfl, h1_, h2_, h3_⟩ := HKc.out.form
 clear h1_ h2_ h3_
 clear hK hn_a hn_c
 unfold nv
 have q4 := nk 4 hk rfl
 have q5 := nk 5 hk rfl
 have q11 := yk hk
 clear hk
 have HX0 := zz hx
 have HL := zz hl
 have HB0 := zz (Below.refl w.heap.size w)
 clear hx hl
 obtain ⟨p1, g1, HP1⟩ := cte ⟨#[105, 102, 32]⟩ ⟨(te a).toArray⟩ [105, 102, 32] (te a) rfl rfl (by have h := HL.out; rw [HX0.out] at h; (try simp only [List.length_append] at h |-); omega)
 obtain ⟨p2, g2, HP2⟩ := cte ⟨p1.toArray⟩ ⟨#[32]⟩ _ [32] HP1.out rfl (by have h := HL.out; rw [HX0.out] at h; (try simp only [List.length_append] at h |-); omega)
 obtain ⟨p3, g3, HP3⟩ := cte ⟨p2.toArray⟩ ⟨(tx c d false).toArray⟩ _ (tx c d false) HP2.out rfl (by have h := HL.out; rw [HX0.out] at h; (try simp only [List.length_append] at h |-); omega)
 go_enter Tryz.func72, Tryz.ntmps72
 go_wp2_with fail
 obtain ⟨w1, hw1, HB, HXb, hs1⟩ := jb w f (.slice (some ⟨bv, ov, none⟩) 2 cv)
 rw [hw1]
 clear hw1
 have hz1 := (HB.out).size
 have HB1 := bt2 HB0 HB.out
 clear HB0
 clear HB
 refine wp_region_held_drew (S := Below w1.heap.size w1) (by kernel_rfl) ?_ (fun zk => ?_)
 ·exact zd _
 apply tk 0 o179_ rfl (by kernel_rfl) (fun _ _ _ h => h) zk
 ·intro wq zq
  go_simp
  try rfl
 go_frame
 apply tk 1 o180_ rfl (by kernel_rfl) (fun _ _ _ h => h) zk
 ·intro wq zq
  have b0 := (HXb.out.below zq HXb.out.lt).cell
  go_simp
  try rfl
 go_frame
 apply tk 2 o181_ rfl (by kernel_rfl) (fun _ _ _ h => h) zk
 ·intro wq zq
  go_simp
  try rfl
 go_frame
 apply tk 3 o182_ rfl (by kernel_rfl) (fun _ _ _ h => h) zk
 ·intro wq zq
  have a0 := ((HCa.out.agree (Agree.of_below HB1.out HN.out) hbv).below zq (by have := HN.out bv hbv; have := HB1.out.size; omega)).cell
  go_simp
  try rfl
 go_frame
 apply tk 7 o183_ rfl (by kernel_rfl) (fun _ _ _ h => h) zk
 ·intro wq zq
  go_simp
  try rfl
 go_frame
 apply tk 8 o184_ rfl (by kernel_rfl) (fun _ _ _ h => h) zk
 ·intro wq zq
  have b0 := (HXb.out.below zq HXb.out.lt).cell
  go_simp
  try rfl
 go_frame
 apply tk 9 o185_ rfl (by kernel_rfl) (fun _ _ _ h => h) zk
 ·intro wq zq
  go_simp
  try rfl
 go_frame
 apply tk 10 o186_ rfl (by kernel_rfl) (fun _ _ _ h => h) zk
 ·intro wq zq
  have c0 := ((HCc.out.agree (Agree.of_below HB1.out HN.out) hbv).below zq (by have := HN.out bv hbv; have := HB1.out.size; omega)).cell
  go_simp
  try rfl
 go_frame
 apply tk 11 o187_ rfl (by kernel_rfl) (fun _ _ _ h => h) zk
 ·intro wq zq
  go_simp
  try rfl
 go_frame
 refine rd 4 o188_ rfl (by kernel_rfl) fun K hK => ?_
 go_simp
 refine (hA (m := m) (S := S) (HKa.out.below (HB1.out.trans (zk.mono HB1.out.size)) HN.out) (fun i hi => by have := HN.out i hi; have := HB1.out.size; have := zk.size; omega) (by have h := HL.out; rw [HX0.out] at h; (try simp only [List.length_append] at h |-); omega)).mono ?_
 rintro e w27 ⟨rfl, b27⟩
 have HB27 := bt2 (zz zk) b27
 clear b27
 go_wp2_with fail
 refine hK.out _ _ ?_ (fun zk => ?_)
 ·exact HB27.out
 clear hK K
 try go_frame
 apply tk 5 o189_ rfl (by kernel_rfl) (fun _ _ _ h => h) zk
 ·intro wq zq
  go_simp
  try rfl
 go_frame
 apply tk 6 o190_ rfl (by kernel_rfl) (fun _ _ _ h => h) zk
 ·intro wq zq
  go_simp
  try rfl
 go_frame
 refine rd 12 o191_ rfl (by kernel_rfl) fun K hK => ?_
 go_simp
 refine (hC (m := m) (S := S) rfl (HKc.out.below (HB1.out.trans (zk.mono HB1.out.size)) HN.out) (fun i hi => by have := HN.out i hi; have := HB1.out.size; have := zk.size; omega) (by have h := HL.out; rw [HX0.out] at h; (try simp only [List.length_append] at h |-); omega)).mono ?_
 rintro e w28 ⟨rfl, b28⟩
 have HB28 := bt2 (zz zk) b28
 clear b28
 go_wp2_with fail
 refine hK.out _ _ ?_ (fun zk => ?_)
 ·exact HB28.out
 clear hK K
 try go_frame
 apply tk 13 o192_ rfl (by kernel_rfl) (fun _ _ _ h => h) zk
 ·intro wq zq
  go_simp
  try rfl
 go_frame
 apply tk 14 o193_ rfl (by kernel_rfl) (fun _ _ _ h => h) zk
 ·intro wq zq
  go_simp
  try rfl
 go_frame
 refine wpAnyH_done (by kernel_rfl) ?_ _
 replace HB1 := bt2 HB1 zk
 replace HXb := bx HXb zk
 have b0 := HXb.out.cell
 have E := zz (show p3 = x by rw [HP3.out, HX0.out]; first | done | simp only [List.append_assoc])
 go_wp2
 go_ret
 exact ⟨ret_str E.out, HB1.out⟩
end
end Go.Proofs.YtmdhjiammcpogaaGreatDoor
