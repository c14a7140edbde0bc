import Derived.Test.YtmdhjiammcpogaaGreatDoorCards
import Derived.Test.YtmdhjiammcpogaaGreatDoorTie
import Derived.ProofKit
import Derived.OpenShut
import Derived.ShutString
import Derived.Deep.DeepHandedRow
import Derived.Lib.LaidTab
import Derived.Stop.LaidErr
import Derived.SizedLaws
import Derived.Deep.SlicePairs
import Derived.Test.YtmdhjiammcpogaaGreatDoorQ50
namespace Go.Proofs.YtmdhjiammcpogaaGreatDoor
set_option maxRecDepth 100000
set_option maxHeartbeats 16000000
section
open Go.RowKit
variable {a t : Tr} {b : Bool} {d : Nat} {f : Nd} {ks r : List Tr}
def KidB (ks : List Tr) (D : Nat) : Prop := ∀ x ∈ ks, ∀ d' b, d' <= D -> (tx x d' b).length + 80000 <= cnt x * 5000000
theorem KidB.tail {D : Nat} (h : KidB (a :: r) D) : KidB r D := fun x hx => h x (List.mem_cons_of_mem _ hx)
theorem KidB.head {D : Nat} (h : KidB (a :: r) D) (d' : Nat) (b : Bool) (hd : d' <= D) : (tx a d' b).length + 80000 <= cnt a * 5000000 := h a (by simp) d' b hd
theorem four_le {D : Nat} (h : KidB ks D) (d0 d1 d2 d3 : Nat) (b0 b1 b2 b3 : Bool) (z : Tx) (hz : ∀ d b, z d b = []) (e0 : d0 <= D) (e1 : d1 <= D) (e2 : d2 <= D) (e3 : d3 <= D) :
 ((ks.map tx).getD 0 z d0 b0).length + ((ks.map tx).getD 1 z d1 b1).length + ((ks.map tx).getD 2 z d2 b2).length + ((ks.map tx).getD 3 z d3 b3).length <= cnts ks * 5000000 := by
 match ks, h with
 | [], _ => simp [hz]
 | [a], h =>
  have h0 := h.head d0 b0 e0
  simp [hz, cnts]
  omega
 | [a, b], h =>
  have h0 := h.head d0 b0 e0
  have h1 := h.tail.head d1 b1 e1
  simp [hz, cnts]
  omega
 | [a, b, c], h =>
  have h0 := h.head d0 b0 e0
  have h1 := h.tail.head d1 b1 e1
  have h2 := h.tail.tail.head d2 b2 e2
  simp [hz, cnts]
  omega
 | a :: b :: c :: d :: r, h =>
  have h0 := h.head d0 b0 e0
  have h1 := h.tail.head d1 b1 e1
  have h2 := h.tail.tail.head d2 b2 e2
  have h3 := h.tail.tail.tail.head d3 b3 e3
  simp [cnts]
  omega
theorem flat_le {D : Nat} (h : KidB ks D) (hd : d <= D) (hD : D <= 70001) (b : Bool) : ((ks.map tx).map fun x => tbs d ++ x d b ++ [10]).flatten.length <= cnts ks * 5000000 := by
 induction ks with
 | nil => simp
 | cons a r ih =>
  have h1 := ih h.tail
  have h0 := h.head d b hd
  simp only [List.map_cons, List.flatten_cons, List.length_append, cnts, tbs, List.length_replicate] at h1 |-
  have e : ([10] : List UInt8).length = 1 := rfl
  omega
theorem flat2_le {D : Nat} (h : KidB ks D) (hd : d <= D) (b : Bool) : ((ks.map tx).map fun x => x d b).flatten.length <= cnts ks * 5000000 := by
 induction ks with
 | nil => simp
 | cons a r ih =>
  have h1 := ih h.tail
  have h0 := h.head d b hd
  simp only [List.map_cons, List.flatten_cons, List.length_append, cnts] at h1 |-
  omega
theorem cms_le {D : Nat} (h : KidB ks D) : (cm (exs (ks.map tx))).length <= cnts ks * 5000000 := by
 cases ks with
 | nil => simp [cm]
 | cons a r =>
  have h0 := h.head 0 false (Nat.zero_le _)
  have h1 : ∀ l : List Tr, KidB l D -> ((exs (l.map tx)).map ([44, 32] ++ ·)).flatten.length <= cnts l * 5000000 := by
   intro l
   induction l with
   | nil => intro _; simp
   | cons b q ih =>
    intro h
    have h1 := ih h.tail
    have h0 := h.head 0 false (Nat.zero_le _)
    simp only [exs, List.map_cons, List.flatten_cons, List.length_append, cnts] at h1 |-
    have e : ([44, 32] : List UInt8).length = 2 := rfl
    omega
  have h2 := h1 r h.tail
  simp only [exs, List.map_cons, cm, List.length_append, cnts] at h2 |-
  omega
theorem KidB.app {D : Nat} (h : KidB (r ++ [a]) D) : KidB r D := fun x hx => h x (by simp [hx])
theorem snoc_le {D : Nat} (h : KidB ks D) (hd : d <= D) (b : Bool) (z : Tx) (hz : ∀ d b, z d b = []) : (cm (exs ((ks.map tx).take (ks.length - 1)))).length + ((ks.map tx).getD (ks.length - 1) z d b).length <= cnts ks * 5000000 := by
 by_cases hl : ks.length = 0
 ·obtain rfl := List.eq_nil_of_length_eq_zero hl
  simp [hz, cm]
 obtain ⟨r, a, rfl, _⟩ := snoc_of (l := ks) (by omega)
 rw [take_last, getD_last]
 have h1 := cms_le h.app
 have h2 := h a (by simp) d b hd
 have h3 : cnts (r ++ [a]) = cnts r + cnts [a] := cnts_app r [a]
 have h4 : cnts [a] = cnt a := by simp [cnts]
 rw [h3, h4]
 omega
theorem drop_le {D : Nat} (h : KidB ks D) (hd : d <= D) (b : Bool) (z : Tx) (hz : ∀ d b, z d b = []) : ((ks.map tx).getD 0 z d b).length + (cm (exs ((ks.map tx).drop 1))).length <= cnts ks * 5000000 := by
 cases ks with
 | nil => simp [hz, cm]
 | cons a r =>
  have h0 := h.head d b hd
  have h1 := cms_le h.tail
  simp only [List.map_cons, List.drop_succ_cons, List.drop_zero, cnts] at h1 |-
  have e : (((tx a :: List.map tx r).getD 0 z d b)).length = (tx a d b).length := rfl
  rw [e]
  omega
theorem dropc_le {D : Nat} (h : KidB ks D) (hd : d <= D) (b : Bool) (z : Tx) (hz : ∀ d b, z d b = []) : ((ks.map tx).getD 0 z 0 b).length + (cls_ ((ks.map tx).drop 1) d).length <= cnts ks * 5000000 := by
 cases ks with
 | nil => simp [hz, cls_]
 | cons a r =>
  have h0 := h.head 0 b (Nat.zero_le _)
  have h1 : (cls_ (r.map tx) d).length <= cnts r * 5000000 := flat2_le h.tail hd false
  simp only [List.map_cons, List.drop_succ_cons, List.drop_zero, cnts] at h1 |-
  have e : (((tx a :: List.map tx r).getD 0 z 0 b)).length = (tx a 0 b).length := rfl
  rw [e]
  omega
theorem itoa_len (n : Int) (h0 : -9223372036854775808 <= n) (h1 : n <= 9223372036854775807) : (Lib.itoa n).length <= 22 := by
 have h := dec_len n h0 h1
 unfold Lib.itoa
 split
 ·simp only [List.length_cons]
  omega
 ·have e : n.toNat = n.natAbs := by omega
  rw [e]
  omega
theorem and2' {a : Bool} (h : (a && b) = true) : a = true /\ b = true := by simpa using h
theorem brk_len (b : Bool) (x : List UInt8) : (brk b x).length <= x.length + 2 := by
 unfold brk
 split
 ·simp
 ·omega
theorem ndT_len (h16 : f.k = 16 -> ¬ f.n = 1 -> ks.length = 2) (hf : TFit f) (h : KidB ks (d + 1)) (hd : d <= 70000) : (ndT f ks (ks.map tx) d b).length + 80000 <= (1 + cnts ks) * 5000000 := by
 have t1 : (bs f.t).length <= 1048576 := by have := hf.tl; have e : (bs f.t).length = f.t.size := Array.length_toList; omega
 have y1 : (bs f.y).length <= 1048576 := by have := hf.yl; have e : (bs f.y).length = f.y.size := Array.length_toList; omega
 have q1 : (quo (bs f.t)).length <= 2097154 := by have := quo_len (bs f.t); omega
 have n1 := itoa_len f.n hf.lo hf.hi
 have t2 := hf.tl
 have z0 : ∀ d b, (fun (_ : Nat) (_ : Bool) => ([] : List UInt8)) d b = [] := fun _ _ => rfl
 have a0 : (ex (ks.map tx) 0).length + (ex (ks.map tx) 1).length + (ex (ks.map tx) 2).length + (st (ks.map tx) 3 d).length <= cnts ks * 5000000 := four_le h 0 0 0 d false false false false _ z0 (by omega) (by omega) (by omega) (by omega)
 have a1 : (ex (ks.map tx) 0).length + (st (ks.map tx) 1 d).length + (st (ks.map tx) 2 d).length + (st (ks.map tx) 3 d).length <= cnts ks * 5000000 := four_le h 0 d d d false false false false _ z0 (by omega) (by omega) (by omega) (by omega)
 have a2 : (st (ks.map tx) 0 d).length + (ex (ks.map tx) 1).length + (st (ks.map tx) 2 d).length + (st (ks.map tx) 3 d).length <= cnts ks * 5000000 := four_le h d 0 d d false false false false _ z0 (by omega) (by omega) (by omega) (by omega)
 have a3 : (ex (ks.map tx) 0).length + (ex (ks.map tx) 1).length + (st (ks.map tx) 2 d).length + (st (ks.map tx) 3 d).length <= cnts ks * 5000000 := four_le h 0 0 d d false false false false _ z0 (by omega) (by omega) (by omega) (by omega)
 have c0 := cms_le h
 have r0 : (rws (ks.map tx) (d + 1)).length <= cnts ks * 5000000 := flat_le h (Nat.le_refl _) (by omega) false
 have l0 : (cls_ (ks.map tx) d).length <= cnts ks * 5000000 := flat2_le h (by omega) false
 have l1 : (cls_ (ks.map tx) 0).length <= cnts ks * 5000000 := flat2_le h (by omega) false
 have s0 : (cm (exs ((ks.map tx).take (ks.length - 1)))).length + (ex (ks.map tx) (ks.length - 1)).length <= cnts ks * 5000000 := snoc_le h (by omega) false _ z0
 have s1 : (cm (exs ((ks.map tx).take (ks.length - 1)))).length + (st (ks.map tx) (ks.length - 1) 0).length <= cnts ks * 5000000 := snoc_le h (by omega) false _ z0
 have s2 : (cm (exs ((ks.map tx).take (ks.length - 1)))).length + (ins (ks.map tx) (ks.length - 1) d).length <= cnts ks * 5000000 := snoc_le h (by omega) true _ z0
 have d0 : (ex (ks.map tx) 0).length + (cm (exs ((ks.map tx).drop 1))).length <= cnts ks * 5000000 := drop_le h (by omega) false _ z0
 have d1 : (ex (ks.map tx) 0).length + (cls_ ((ks.map tx).drop 1) d).length <= cnts ks * 5000000 := dropc_le h (by omega) false _ z0
 have i2 : ks.length = 2 -> (ex (ks.map tx) 0).length + (ins (ks.map tx) (ks.length - 1) d).length <= cnts ks * 5000000 := fun e => by
  have h4 := four_le h 0 d 0 0 false true false false _ z0 (by omega) (by omega) (by omega) (by omega)
  rw [show ks.length - 1 = 1 by omega]
  unfold ex ins
  omega
 clear z0 h hf
 unfold ndT
 by_cases k21 : f.k = 21
 ·rw [if_pos k21]
  (try simp only [List.length_append, List.length_cons, List.length_nil, tbs, List.length_replicate] at *); omega
 rw [if_neg k21]
 by_cases k22 : f.k = 22
 ·rw [if_pos k22]
  have := n1; omega
 rw [if_neg k22]
 by_cases k23 : f.k = 23
 ·rw [if_pos k23]
  split <;> (simp; omega)
 rw [if_neg k23]
 by_cases k24 : f.k = 24
 ·rw [if_pos k24]
  simp only [List.length_cons, List.length_nil]
  omega
 rw [if_neg k24]
 by_cases k25 : f.k = 25
 ·rw [if_pos k25]
  omega
 rw [if_neg k25]
 by_cases k26 : f.k = 26
 ·rw [if_pos k26]
  have h1 := brk_len (unB f (fk ks 0)) (ex (ks.map tx) 0)
  (try simp only [List.length_append] at *); omega
 rw [if_neg k26]
 by_cases k27 : f.k = 27
 ·rw [if_pos k27]
  have h1 := brk_len (leB f (fk ks 0)) (ex (ks.map tx) 0)
  have h2 := brk_len (riB f (fk ks 1)) (ex (ks.map tx) 1)
  (try simp only [List.length_append, List.length_cons, List.length_nil] at *); omega
 rw [if_neg k27]
 by_cases k28 : f.k = 28
 ·rw [if_pos k28]
  (try simp only [List.length_append, List.length_cons, List.length_nil] at *); omega
 rw [if_neg k28]
 by_cases k29 : f.k = 29
 ·rw [if_pos k29]
  split
  ·(try simp only [List.length_append, List.length_cons, List.length_nil] at *); omega
  ·(try simp only [List.length_append, List.length_cons, List.length_nil] at *); omega
 rw [if_neg k29]
 by_cases k30 : f.k = 30
 ·rw [if_pos k30]
  have h1 := brk_len (meB (fk ks 0)) (ex (ks.map tx) 0)
  (try simp only [List.length_append, List.length_cons, List.length_nil] at *); omega
 rw [if_neg k30]
 by_cases k6 : f.k = 6
 ·rw [if_pos k6]
  (try simp only [List.length_append, List.length_cons, List.length_nil] at *); omega
 rw [if_neg k6]
 by_cases k7 : f.k = 7
 ·rw [if_pos k7]
  (try simp only [List.length_append, List.length_cons, List.length_nil] at *); omega
 rw [if_neg k7]
 by_cases k8 : f.k = 8
 ·rw [if_pos k8]
  split
  ·(try simp only [List.length_append, List.length_cons, List.length_nil] at *); omega
  ·(try simp only [List.length_append, List.length_cons, List.length_nil] at *); omega
 rw [if_neg k8]
 by_cases k9 : f.k = 9
 ·rw [if_pos k9]
  (try simp only [List.length_append, List.length_cons, List.length_nil] at *); omega
 rw [if_neg k9]
 by_cases k10 : f.k = 10
 ·rw [if_pos k10]
  omega
 rw [if_neg k10]
 by_cases k4 : f.k = 4
 ·rw [if_pos k4]
  split
  ·omega
  ·(try simp only [List.length_append, List.length_cons, List.length_nil, tbs, List.length_replicate] at *); omega
 rw [if_neg k4]
 by_cases k5 : f.k = 5
 ·rw [if_pos k5]
  split
  ·(try simp only [List.length_append, List.length_cons, List.length_nil] at *); omega
  ·(try simp only [List.length_append, List.length_cons, List.length_nil] at *); omega
 rw [if_neg k5]
 by_cases k11 : f.k = 11
 ·rw [if_pos k11]
  split
  ·(try simp only [List.length_append, List.length_cons, List.length_nil] at *); omega
  ·(try simp only [List.length_append, List.length_cons, List.length_nil] at *); omega
 rw [if_neg k11]
 by_cases k12 : f.k = 12
 ·rw [if_pos k12]
  unfold hdT bodyOf
  by_cases n0 : f.n = 0
  ·simp only [n0]
   simp
   omega
  by_cases n1' : f.n = 1
  ·simp only [n1']
   simp
   omega
  by_cases n2 : f.n = 2
  ·simp only [n2]
   simp only [show ¬ ((2 : Int) = 1) by decide, show ¬ ((2 : Int) = 0) by decide, if_false, if_true]
   split <;> split <;> (simp; omega)
  by_cases n3 : f.n = 3
  ·simp only [n3]
   simp only [show ¬ ((3 : Int) = 1) by decide, show ¬ ((3 : Int) = 0) by decide, show ¬ ((3 : Int) = 2) by decide, if_false, if_true]
   split <;> (simp; omega)
  ·simp only [if_neg n0, if_neg n1', if_neg n2, if_neg n3]
   simp
   omega
 rw [if_neg k12]
 by_cases k13 : f.k = 13
 ·rw [if_pos k13]
  split
  ·(try simp only [List.length_append, List.length_cons, List.length_nil, tbs, List.length_replicate] at *); omega
  ·(try simp only [List.length_append, List.length_cons, List.length_nil, tbs, List.length_replicate] at *); omega
 rw [if_neg k13]
 by_cases k15 : f.k = 15
 ·rw [if_pos k15]
  (try simp only [List.length_append, List.length_cons, List.length_nil, tbs, List.length_replicate] at *); omega
 rw [if_neg k15]
 by_cases k14 : f.k = 14
 ·rw [if_pos k14]
  split
  ·(try simp only [List.length_append, List.length_cons, List.length_nil, tbs, List.length_replicate] at *); omega
  ·(try simp only [List.length_append, List.length_cons, List.length_nil, tbs, List.length_replicate] at *); omega
 rw [if_neg k14]
 by_cases k16 : f.k = 16
 ·rw [if_pos k16]
  by_cases h1 : f.n = 1
  ·rw [if_pos h1]
   (try simp only [List.length_append, List.length_cons, List.length_nil, tbs, List.length_replicate] at *); omega
  ·rw [if_neg h1]
   have := i2 (h16 k16 h1)
   (try simp only [List.length_append, List.length_cons, List.length_nil, tbs, List.length_replicate] at *); omega
 rw [if_neg k16]
 by_cases k17 : f.k = 17
 ·rw [if_pos k17]
  (try simp only [List.length_append, List.length_cons, List.length_nil] at *); omega
 rw [if_neg k17]
 by_cases k18 : f.k = 18
 ·rw [if_pos k18]
  split
  ·(try simp only [List.length_append, List.length_cons, List.length_nil] at *); omega
  ·(try simp only [List.length_append, List.length_cons, List.length_nil] at *); omega
 rw [if_neg k18]
 by_cases k19 : f.k = 19
 ·rw [if_pos k19]
  (try simp only [List.length_cons, List.length_nil] at *); omega
 rw [if_neg k19]
 by_cases k20 : f.k = 20
 ·rw [if_pos k20]
  (try simp only [List.length_cons, List.length_nil] at *); omega
 rw [if_neg k20]
 by_cases k3 : f.k = 3
 ·rw [if_pos k3]
  (try simp only [List.length_append, List.length_cons, List.length_nil] at *); omega
 rw [if_neg k3]
 by_cases k2 : f.k = 2
 ·rw [if_pos k2]
  split
  ·(try simp only [List.length_append, List.length_cons, List.length_nil] at *); omega
  ·(try simp only [List.length_append, List.length_cons, List.length_nil] at *); omega
 rw [if_neg k2]
 by_cases k1 : f.k = 1
 ·rw [if_pos k1]
  omega
 rw [if_neg k1]
 simp only [List.length_nil]
 omega
theorem tx_len (n : Nat) : ∀ (t : Tr) (d : Nat) (b : Bool), cnt t <= n -> d + cnt t <= 70000 -> AllT t -> fitT t = true -> (tx t d b).length + 80000 <= cnt t * 5000000 := by
 induction n with
 | zero => exact fun t d b hn _ _ _ => absurd hn (by have := cnt_pos t; omega)
 | succ n ih =>
  intro t d b hn hd hT hfit
  obtain ⟨f, ks⟩ := t
  have hc : cnt (.mk f ks) = 1 + cnts ks := rfl
  rw [tx_eq, hc]
  refine ndT_len (fun h1 h2 => ?_) hT.tf (fun x hx d' b' hd' => ?_) (by omega)
  ·by_cases hl : ks.length = 2
   ·exact hl
   ·by_cases h0 : f.n = 0
    ·rw [arm_len (t := .mk f ks) h1 h0 hl] at hfit
     cases hfit
    ·rw [clause_num (t := .mk f ks) (Or.inr h1) h0 h2] at hfit
     cases hfit
  ·have h3 : cnt x <= cnts ks := cnts_mem hx
   have h4 : fitT x = true := by
    rw [fitT_eq] at hfit
    exact List.all_eq_true.1 (and2' hfit).2 x hx
   exact ih x d' b' (by omega) (by omega) (AllTs.get hT.ks x hx) h4
theorem file_len (hc : cnt t <= 65536) (hT : AllT t) (h : rgt t = 0) : (tx t 0 false).length <= 140737488355328 := by
 have hfit : fitT t = true := by
  unfold rgt at h
  split at h
  ·cases h
  ·split at h
   ·rename_i _ h2
    exact h2.2
   ·cases h
 have := tx_len (cnt t) t 0 false (Nat.le_refl _) (by omega) hT hfit
 omega
end
section
open Go.RowKit
variable {S : Nat -> Prop} {m : Md} {t : Tr} {v : Value} {w : World}
theorem rights_great {mo : Int} (hc : 65536 < cnt t) (hK : Kids w m S v t.ks) (hN : ∀ i, S i -> i < w.heap.size) :
 Calls Tryz.prog 3 #[nv t.f v, .int .i64 mo] w fun e w' => e = .returned (.bool true) /\ Below w.heap.size w w' := by
 have HG := zz (show decide (65536 < cnt t) = true from decide_eq_true hc)
 have HN := zz hN
 have HKv := zz hK
 clear hN hK
 obtain ⟨Av, cv, bv, ov, rfl, h1_, h2_, h3_⟩ := HKv.out.form
 clear h1_ h2_ h3_
 unfold nv
 have HB0 := zz (Below.refl w.heap.size w)
 go_enter Tryz.func3, Tryz.ntmps3
 go_wp2_with fail
 obtain ⟨w1, hw1, HB, HXb, hs1⟩ := jb w t.f (.slice Av t.ks.length cv)
 rw [hw1]
 clear hw1
 have hz1 := (HB.out).size
 have HB1 := bt2 HB0 HB.out
 clear HB0
 clear HB
 refine (alive_any _).mono ?_
 rintro e w2 ⟨rfl, b⟩
 have hz2 := (b).size
 have HB2 := bt2 HB1 b
 replace HXb := bx HXb b
 clear HB1
 clear b
 have b0 := HXb.out.cell
 go_wp2_with fail
 refine (great_any (t := t) (HKv.out.below HB2.out HN.out) (fun i hi => by have := HN.out i hi; have := HB2.out.size; omega) HG.out).mono ?_
 rintro e w3 ⟨rfl, b⟩
 have hz3 := (b).size
 have HB3 := bt2 HB2 b
 replace HXb := bx HXb b
 clear HB2 b0
 clear b
 go_wp2
 go_ret
 exact ⟨rfl, HB3.out⟩
theorem rights_small {mo : Int} (hc : cnt t <= 65536) (hmx : mo <= 9223372036854775807) (hF : AllF t) (hT : AllT t) (hTab : TabN w.heap.size w) (hK : Kids w m S v t.ks) (hN : ∀ i, S i -> i < w.heap.size) :
 Calls Tryz.prog 3 #[nv t.f v, .int .i64 mo] w fun e w' => e = .returned (.bool true) /\ Below w.heap.size w w' := by
 have HG := zz (show decide (65536 < cnt t) = false from decide_eq_false (by omega))
 have HN := zz hN
 have HKv := zz hK
 have HT := zz hTab
 have HAT := zz hT
 have HAF := zz hF
 clear hN hK hTab hT hF
 obtain ⟨Av, cv, bv, ov, rfl, h1_, h2_, h3_⟩ := HKv.out.form
 clear h1_ h2_ h3_
 unfold nv
 have HB0 := zz (Below.refl w.heap.size w)
 go_enter Tryz.func3, Tryz.ntmps3
 go_wp2_with fail
 obtain ⟨w1, hw1, HB, HXb, hs1⟩ := jb w t.f (.slice Av t.ks.length cv)
 rw [hw1]
 clear hw1
 have hz1 := (HB.out).size
 have HB1 := bt2 HB0 HB.out
 clear HB0
 clear HB
 refine (alive_any _).mono ?_
 rintro e w2 ⟨rfl, b⟩
 have hz2 := (b).size
 have HB2 := bt2 HB1 b
 replace HXb := bx HXb b
 clear HB1
 clear b
 have b0 := HXb.out.cell
 go_wp2_with fail
 refine (great_any (t := t) (HKv.out.below HB2.out HN.out) (fun i hi => by have := HN.out i hi; have := HB2.out.size; omega) HG.out).mono ?_
 rintro e w3 ⟨rfl, b⟩
 have hz3 := (b).size
 have HB3 := bt2 HB2 b
 replace HXb := bx HXb b
 clear HB2 b0
 clear b
 have b0 := HXb.out.cell
 go_wp2_with fail
 refine (copied_all 65536 (Nat.le_refl _) t w3 _ _ S hc (HKv.out.below HB3.out HN.out) (fun i hi => by have := HN.out i hi; have := HB3.out.size; omega)).mono ?_
 rintro e w4 ⟨ux, rfl, b, hkx⟩
 obtain ⟨Ax, cx, bxo, ox, rfl, h1_, h2_, h3_⟩ := hkx.form
 clear h1_ h2_ h3_
 have HKx := zz hkx
 clear hkx
 have hz4 := (b).size
 have HB4 := bt2 HB3 b
 replace HXb := bx HXb b
 clear HB3 b0
 clear b
 unfold nv
 go_wp2_with fail
 obtain ⟨w5, hw5, HB, HXo, hs5⟩ := jb w4 t.f (.slice Ax t.ks.length cx)
 rw [hw5]
 clear hw5
 replace HKx := zz (HKx.out.below HB.out (fun i hi => by omega))
 have hz5 := (HB.out).size
 have HB5 := bt2 HB4 HB.out
 replace HXb := bx HXb HB.out
 clear HB4
 clear HB
 have HBm := zz (Below.refl w5.heap.size w5)
 clear HBm
 refine (right_is2 hc rfl rfl HAF.out HKx.out (fun i hi => by omega) rfl).mono ?_
 rintro e w6 ⟨rfl, b⟩
 replace HKx := zz (HKx.out.below b (fun i hi => by omega))
 have hz6 := (b).size
 have HB6 := bt2 HB5 b
 replace HXb := bx HXb b
 replace HXo := bx HXo b
 clear HB5
 clear b
 have o0 := HXo.out.cell
 go_wp2_with fail
 refine (text_is hc rfl rfl HAF.out HAT.out ⟨(HT.out.below HB6.out).tab, fun g hg => by have := HT.out.lt g hg; have := HB6.out.size; omega⟩ HKx.out (fun i hi => by omega) (file_len hc HAT.out) rfl).mono ?_
 rintro e w7 ⟨rfl, b⟩
 replace HKx := zz (HKx.out.below b (fun i hi => by omega))
 have hz7 := (b).size
 have HB7 := bt2 HB6 b
 replace HXb := bx HXb b
 replace HXo := bx HXo b
 clear HB6 o0
 clear b
 have o0 := HXo.out.cell
 go_wp2_with fail
 refine (count_is hc rfl HKx.out (fun i hi => by omega) hmx).mono ?_
 rintro e w8 ⟨rfl, b⟩
 replace HKx := zz (HKx.out.below b (fun i hi => by omega))
 have hz8 := (b).size
 have HB8 := bt2 HB7 b
 replace HXb := bx HXb b
 replace HXo := bx HXo b
 clear HB7 o0
 clear b
 have o0 := HXo.out.cell
 go_wp2_with fail
 refine (tdepth_is hc rfl HKx.out (fun i hi => by omega) hmx).mono ?_
 rintro e w9 ⟨rfl, b⟩
 replace HKx := zz (HKx.out.below b (fun i hi => by omega))
 have hz9 := (b).size
 have HB9 := bt2 HB8 b
 replace HXb := bx HXb b
 replace HXo := bx HXo b
 clear HB8 o0
 clear b
 have o0 := HXo.out.cell
 have b0 := HXb.out.cell
 go_wp2_with fail
 refine (alike_all 65536 (Nat.le_refl _) t w9 _ _ ⟨true, true⟩ _ (fun i => S i ∨ (w3.heap.size <= i /\ i < w4.heap.size)) true hc hc (fun _ => rfl) (HKx.out.mono fun i hi => Or.inr hi) ((HKv.out.below HB9.out HN.out).mono fun i hi => Or.inl hi) (fun i hi => by rcases hi with hi | hi; (have := HN.out i hi; have := HB9.out.size; omega); omega)).mono ?_
 rintro e w10 ⟨rfl, b⟩
 replace HKx := zz (HKx.out.below b (fun i hi => by omega))
 have hz10 := (b).size
 have HB10 := bt2 HB9 b
 replace HXb := bx HXb b
 replace HXo := bx HXo b
 clear HB9 o0 b0
 clear b
 have b0 := HXb.out.cell
 go_wp2_with fail
 refine (rtext_is hc HAF.out HAT.out (HKv.out.below HB10.out HN.out) (fun i hi => by have := HN.out i hi; have := HB10.out.size; omega) (file_len hc HAT.out) rfl).mono ?_
 rintro e w11 ⟨rfl, b⟩
 replace HKx := zz (HKx.out.below b (fun i hi => by omega))
 have hz11 := (b).size
 have HB11 := bt2 HB10 b
 replace HXb := bx HXb b
 replace HXo := bx HXo b
 clear HB10 b0
 clear b
 have b0 := HXb.out.cell
 go_wp2_with fail
 refine (rright_all hc HAF.out (HKv.out.below HB11.out HN.out) (fun i hi => by have := HN.out i hi; have := HB11.out.size; omega) rfl).mono ?_
 rintro e w12 ⟨rfl, b⟩
 replace HKx := zz (HKx.out.below b (fun i hi => by omega))
 have hz12 := (b).size
 have HB12 := bt2 HB11 b
 replace HXb := bx HXb b
 replace HXo := bx HXo b
 clear HB11 b0
 clear b
 have b0 := HXb.out.cell
 go_wp2_with fail
 refine (rcount_all 65536 t w12 _ _ S mo hc (HKv.out.below HB12.out HN.out) (fun i hi => by have := HN.out i hi; have := HB12.out.size; omega) (Or.inr hc) hmx).mono ?_
 rintro e w13 ⟨rfl, b⟩
 replace HKx := zz (HKx.out.below b (fun i hi => by omega))
 have hz13 := (b).size
 have HB13 := bt2 HB12 b
 replace HXb := bx HXb b
 replace HXo := bx HXo b
 clear HB12 b0
 clear b
 have b0 := HXb.out.cell
 go_wp2_with fail
 refine (rdepth_all 65536 (Nat.le_refl _) t w13 _ _ S mo hc (HKv.out.below HB13.out HN.out) (fun i hi => by have := HN.out i hi; have := HB13.out.size; omega) hmx).mono ?_
 rintro e w14 ⟨rfl, b⟩
 replace HKx := zz (HKx.out.below b (fun i hi => by omega))
 have hz14 := (b).size
 have HB14 := bt2 HB13 b
 replace HXb := bx HXb b
 replace HXo := bx HXo b
 clear HB13 b0
 clear b
 go_wp2
 go_ret
 exact ⟨zb (by simp), HB14.out⟩
theorem rights_walk {mo : Int} (hc : cnt t <= 65536 ∨ 65536 < cnt t) (hmx : mo <= 9223372036854775807) (hF : AllF t) (hT : AllT t) (hTab : TabN w.heap.size w) (hK : Kids w m S v t.ks) (hN : ∀ i, S i -> i < w.heap.size) :
 Calls Tryz.prog 3 #[nv t.f v, .int .i64 mo] w fun e w' => e = .returned (.bool true) /\ Below w.heap.size w w' := by
 rcases hc with hc | hc
 ·exact rights_small hc hmx hF hT hTab hK hN
 ·exact rights_great hc hK hN
end
section
open Go.ChangeShapes Go.WideShapes Go.ChangeAt Go.RowKit Go.Deep
variable {v : Value}
theorem own_knob : ownKnob Tryz.prog.godebug = none := by kernel_rfl
theorem laid_out : laidOutB Tryz.prog = true := by kernel_rfl
def laids3 : List (String × DataW Unit) := [("math/bits.deBruijn32tab", Rows.laid_math_bits_deBruijn32tab), ("math/bits.deBruijn64tab", Rows.laid_math_bits_deBruijn64tab), ("internal/strconv.uint64pow10", Rows.laid_internal_strconv_uint64pow10)]
def numsOf : DataW Unit -> Array Value
 | .agg l => (l.filterMap fun | .lit (.int k z) => some (Value.int k z) | _ => Option.none).toArray
 | _ => #[]
noncomputable def laidWorld (os : Os) : World :=
 let w0 := World.holding Tryz.prog os ⟨#[], #[], []⟩
 { w0 with heap := ((w0.heap.modify 0 fun
  | .cells _ t frozen => .cells (numsOf Rows.laid_internal_strconv_uint64pow10) t frozen
  | o => o).modify 1 fun
  | .cells _ t frozen => .cells (numsOf Rows.laid_math_bits_deBruijn32tab) t frozen
  | o => o).modify 2 fun
  | .cells _ t frozen => .cells (numsOf Rows.laid_math_bits_deBruijn64tab) t frozen
  | o => o }
theorem laid_met3 (os : Os) (args : Array Value) : laidMet Tryz.prog laids3 ((laidWorld os).forCall (fun _ _ => 0) ⟨#[], args, []⟩).memory :=
 laidMet_of_run' 8 (by kernel_rfl) (by kernel_rfl)
theorem i64_of_wf {n : Int} (h : (Lit.int .i64 n).wf = true) : -9223372036854775808 <= n /\ n <= 9223372036854775807 := by
 rw [show (Lit.int .i64 n).wf = (decide (-9223372036854775808 <= n) && decide (n <= 9223372036854775807)) from rfl, Bool.and_eq_true, decide_eq_true_eq, decide_eq_true_eq] at h
 exact h
theorem bulk_mem {H : Type} (ds : List (DataW H)) (d : DataW H) (h : d ∈ ds) : Rows.uptoBulk d <= Rows.uptoBulkAll ds := by
 induction ds with
 | nil => cases h
 | cons x r ih =>
  unfold Rows.uptoBulkAll
  rcases List.mem_cons.1 h with rfl | h
  ·omega
  ·have := ih h; omega
theorem AllTs.mk : ∀ {l : List Tr}, (∀ t ∈ l, AllT t) -> AllTs l
 | [], _ => trivial
 | t :: r, h => ⟨h t (by simp), AllTs.mk fun x hx => h x (List.mem_cons_of_mem _ hx)⟩
mutual
theorem AllT.allF : ∀ {t : Tr}, AllT t -> AllF t
 | .mk _ _, h => ⟨⟨Nat.le_trans h.1.tl (by decide), ⟨Nat.le_trans h.1.yl (by decide)⟩⟩, AllTs.allF h.2⟩
theorem AllTs.allF : ∀ {l : List Tr}, AllTs l -> AllFs l
 | [], _ => trivial
 | _ :: _, h => ⟨AllT.allF h.1, AllTs.allF h.2⟩
end
theorem gPow : Tryz.prog.globalNamed "internal/strconv.uint64pow10" = some 0 := by kernel_rfl
theorem gPowType : (Tryz.prog.globals[0]?).map (·.type) = some 120 := by kernel_rfl
theorem cellsPow : Tryz.prog.cellsOf 120 = 20 := by kernel_rfl
theorem cellsU64 : Tryz.prog.cellsOf 113 = 1 := by kernel_rfl
section
variable {H : Type} {enc : TypeId × Value -> H} {w : World} {base : Nat} {spare : Nat -> Bool} {held : Bool} {fuel : Nat} {v : Value} {x : DataW H × List MemPlace}
theorem trod_i64 {t : TypeId} (hu : Tryz.prog.underlying t = some (.int .i64)) (h : DataW.trod enc Tryz.prog w base spare held fuel t [v] = some x) : ∃ z, v = .int .i64 z /\ -9223372036854775808 <= z /\ z <= 9223372036854775807 := by
 cases fuel with
 | zero => simp [DataW.trod] at h
 | succ n =>
  simp only [DataW.trod, hu] at h
  cases v <;> simp at h
  rename_i k b
  obtain ⟨⟨rfl, h2⟩, _⟩ := h
  exact ⟨b, rfl, i64_of_wf h2⟩
theorem trod_str (h : DataW.trod enc Tryz.prog w base spare held fuel 9 [v] = some x) : ∃ s, v = .string s /\ x.1 = .lit (.string s.data.toList) := by
 cases fuel with
 | zero => simp [DataW.trod] at h
 | succ n =>
  simp only [DataW.trod, Tryz.underlying9] at h
  cases v <;> simp at h
  rename_i s
  exact ⟨s, rfl, by rw [<- h.2]⟩
end
theorem ceNode : Tryz.prog.cellsOf 25 = 8 := by kernel_rfl
theorem ceNodes : Tryz.prog.cellsOf 23 = 1 := by kernel_rfl
theorem ceKind : Tryz.prog.cellsOf 22 = 1 := by kernel_rfl
theorem ceStr : Tryz.prog.cellsOf 9 = 1 := by kernel_rfl
theorem ceI64 : Tryz.prog.cellsOf 2 = 1 := by kernel_rfl
theorem ceInt : Tryz.prog.cellsOf 3 = 1 := by kernel_rfl
abbrev rawMd : Md := ⟨false, false⟩
instance : Inhabited Tr := ⟨.mk ⟨0, .empty, 0, .empty, 0, 0, 0⟩ []⟩
theorem tree_of_trod {H : Type} {enc : TypeId × Value -> H} {W : World} {spare : Nat -> Bool} {held : Bool} : ∀ (n : Nat),
 (∀ v x, DataW.trod enc Tryz.prog W 0 spare held n 23 [v] = some x -> ∃ ts, Kids W rawMd (fun i => i < W.heap.size) v ts /\ (Rows.uptoBulk x.1 <= 1048576 -> AllTs ts)) /\
 (∀ cs x, DataW.trod enc Tryz.prog W 0 spare held n 25 cs = some x -> ∃ (f : Nd) (v : Value) (ts : List Tr), cs = [.int .i64 f.k, .string f.t, .int .i64 f.n, .string f.y, .int .i64 f.s, .int .i64 f.a, .int .i64 f.l, v] /\ Kids W rawMd (fun i => i < W.heap.size) v ts /\ (Rows.uptoBulk x.1 <= 1048576 -> TFit f /\ AllTs ts))
 | 0 => ⟨fun v x h => by simp [DataW.trod] at h, fun cs x h => by simp [DataW.trod] at h⟩
 | n + 1 => by
  obtain ⟨ih1, ih2⟩ := tree_of_trod (enc := enc) (W := W) (spare := spare) (held := held) n
  refine ⟨fun v x h => ?_, fun cs x h => ?_⟩
  ·rcases DataW.trod_slice Tryz.underlying23 h with ⟨e, _⟩ | ⟨a, len, cap, elems, rest, k, hk, e, hxe, _, hl, hc, hel, hg, _, _⟩
   ·obtain rfl : v = .slice none 0 0 := by simpa using e
    exact ⟨[], Kids.nil _ rfl _ _ _, fun _ => trivial⟩
   ·obtain rfl : n = k := by omega
    obtain rfl : v = .slice (some a) len cap := by simpa using e
    by_cases h0 : len = 0
    ·subst h0
     exact ⟨[], Kids.nil _ rfl _ _ _, fun _ => trivial⟩
    rw [ceNode] at hg
    have hcell : ∀ i, i < len -> ∃ t : Tr, ∃ v, W.cell? ((a.add (i * 8)).add 0) = some (.int .i64 t.f.k) /\ W.cell? ((a.add (i * 8)).add 1) = some (.string t.f.t) /\ W.cell? ((a.add (i * 8)).add 2) = some (.int .i64 t.f.n) /\ W.cell? ((a.add (i * 8)).add 3) = some (.string t.f.y) /\
     W.cell? ((a.add (i * 8)).add 4) = some (.int .i64 t.f.s) /\ W.cell? ((a.add (i * 8)).add 5) = some (.int .i64 t.f.a) /\ W.cell? ((a.add (i * 8)).add 6) = some (.int .i64 t.f.l) /\ W.cell? ((a.add (i * 8)).add 7) = some v /\ Kids W rawMd (fun i => i < W.heap.size) v t.ks /\ (Rows.uptoBulk x.1 <= 1048576 -> AllT t) := by
     intro i hi
     have h1 := hg i hi
     rw [List.getElem?_eq_getElem (by omega)] at h1
     obtain ⟨cs, h2, h3⟩ := Option.bind_eq_some_iff.1 h1
     obtain ⟨f, v, ts, rfl, hk, hB⟩ := ih2 cs _ h3
     obtain ⟨_, _, hcell⟩ := World.cells?_some h2
     exact ⟨.mk f ts, v, hcell 0 (by omega), hcell 1 (by omega), hcell 2 (by omega), hcell 3 (by omega), hcell 4 (by omega), hcell 5 (by omega), hcell 6 (by omega), hcell 7 (by omega), hk, fun hb => by
      have h4 : Rows.uptoBulk (elems[i]'(by omega)).1 <= 1048576 := by
       rw [hxe] at hb
       have h5 := bulk_mem (elems.map (·.1)) (elems[i]'(by omega)).1 (List.mem_map.2 ⟨_, List.getElem_mem _, rfl⟩)
       simp only [Rows.uptoBulk] at hb
       omega
      exact hB h4⟩
    obtain ⟨R, hR⟩ := choose_lt hcell
    obtain ⟨b, off, spot⟩ := a
    have hspot : spot = none := by
     obtain ⟨_, q, _⟩ := hR 0 (by omega)
     have := World.cell?_spot q
     simpa [Addr.add] using this
    subst hspot
    have hplain : ∀ i j, ((⟨b, off, none⟩ : Addr).add i).add j = ⟨b, off + i + j, none⟩ := by intro i j; unfold Addr.add; split <;> split <;> simp_all <;> omega
    have hb : b < W.heap.size := by
     obtain ⟨_, c0, _⟩ := hR 0 (by omega)
     rw [hplain] at c0
     rcases Nat.lt_or_ge b W.heap.size with h1 | h1
     ·exact h1
     ·simp [World.cell?, Array.getElem?_eq_none h1] at c0
    have hm : maxLen = 9223372036854775807 ∨ maxLen <= 9223372036854775807 := by right; decide
    refine ⟨(List.range len).map R, ⟨b, off, ⟨Or.inr ⟨(by simp; omega), hb, (fun e => by cases e), cap, ?_, (by simp)⟩, (fun e => by cases e)⟩, RowAt.mk fun i hi => ?_⟩, fun hb => AllTs.mk fun t ht => ?_⟩
    ·have : ((List.range len).map R).length = len := by simp
     constructor <;> omega
    ·have hi' : i < len := by simpa using hi
     obtain ⟨v, q0, q1, q2, q3, q4, q5, q6, q7, hk, _⟩ := hR i hi'
     rw [hplain] at q0 q1 q2 q3 q4 q5 q6 q7
     rw [List.getElem_map, List.getElem_range]
     exact NodeAt.shut q0 q1 q2 q3 q4 q5 q6 q7 hk
    ·obtain ⟨i, hi, rfl⟩ := List.mem_map.1 ht
     obtain ⟨_, _, _, _, _, _, _, _, _, _, hT⟩ := hR i (by simpa using hi)
     exact hT hb
  ·obtain ⟨xs, k, hk, hxy, hlen, hxl, hf⟩ := DataW.trod_struct Tryz.underlying25 h
   obtain rfl : n = k := by omega
   rw [ceNode] at hlen
   match xs, hxl, cs, hlen with
   | [y0, y1, y2, y3, y4, y5, y6, y7], _, [v0, v1, v2, v3, v4, v5, v6, v7], _ =>
    have g0 := hf 0 _ rfl
    have g1 := hf 1 _ rfl
    have g2 := hf 2 _ rfl
    have g3 := hf 3 _ rfl
    have g4 := hf 4 _ rfl
    have g5 := hf 5 _ rfl
    have g6 := hf 6 _ rfl
    have g7 := hf 7 _ rfl
    simp [ceKind, ceStr, ceI64, ceInt, ceNodes] at g0 g1 g2 g3 g4 g5 g6 g7
    obtain ⟨k0, rfl, _⟩ := trod_i64 Tryz.underlying22 g0
    obtain ⟨s1, rfl, e1⟩ := trod_str g1
    obtain ⟨z2, rfl, b2⟩ := trod_i64 Tryz.underlying2 g2
    obtain ⟨s3, rfl, e3⟩ := trod_str g3
    obtain ⟨z4, rfl, _⟩ := trod_i64 Tryz.underlying3 g4
    obtain ⟨z5, rfl, _⟩ := trod_i64 Tryz.underlying3 g5
    obtain ⟨z6, rfl, _⟩ := trod_i64 Tryz.underlying3 g6
    obtain ⟨ts, hk, hB⟩ := ih1 _ _ g7
    refine ⟨⟨k0, s1, z2, s3, z4, z5, z6⟩, v7, ts, rfl, hk, fun hb => ?_⟩
    rw [hxy] at hb
    simp only [List.map_cons, List.map_nil, Rows.uptoBulk, Rows.uptoBulkAll, e1, e3] at hb
    have l1 : s1.data.toList.length = s1.size := Array.length_toList
    have l3 : s3.data.toList.length = s3.size := Array.length_toList
    exact ⟨⟨b2.1, b2.2, by show s1.size <= _; omega, by show s3.size <= _; omega⟩, hB (by omega)⟩
theorem node_in {H : Type} {enc : TypeId × Value -> H} {W : World} {base : Nat} {d : DataW H} {p : List MemPlace} (hv : Value.okWide Tryz.prog W .any base 25 v) (h : DataW.Trod enc Tryz.prog W 0 (fun _ => true) true 25 v d p) : ∃ (t : Tr) (u : Value), v = nv t.f u /\ Kids W rawMd (fun i => i < W.heap.size) u t.ks /\ (Rows.uptoBulk d <= 1048576 -> AllT t) := by
 obtain ⟨cs, rfl, _⟩ := okWide_struct Tryz.underlying25 hv
 obtain ⟨n, hn⟩ := h
 obtain ⟨f, u, ts, e, hk, hB⟩ := (tree_of_trod n).2 _ _ hn
 refine ⟨.mk f ts, u, ?_, hk, hB⟩
 simp only [Value.cells] at e
 obtain ⟨l⟩ := cs
 have e2 : l = _ := e
 subst e2
 rfl
end
end Go.Proofs.YtmdhjiammcpogaaGreatDoor
