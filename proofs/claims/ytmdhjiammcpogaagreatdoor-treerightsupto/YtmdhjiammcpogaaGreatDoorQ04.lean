import Derived.Deep.MidRow
import Derived.Lib.Builder
import Derived.Test.YtmdhjiammcpogaaGreatDoorQ03
namespace Go.Proofs.YtmdhjiammcpogaaGreatDoor
set_option maxRecDepth 100000
set_option maxHeartbeats 16000000
section
open Go.RowKit
variable {t : Tr} {v : Value} {w : World}
mutual
def SepT (w : World) (lo hi : Nat) (v : Value) : Tr -> Prop
 | .mk _ ks => (ks = [] /\ v = .slice none 0 0) ∨ (0 < ks.length /\ ∃ g cur, v = .slice (some ⟨g, 0, none⟩) ks.length ks.length /\ lo <= g /\ g < hi /\ w.heap[g]? = some (.cells cur 25 (0, 0)) /\ cur.size = ks.length * 8 /\ SepR w (g + 1) hi cur 0 ks)
def SepR (w : World) (lo hi : Nat) (cur : Array Value) (i : Nat) : List Tr -> Prop
 | [] => True
 | t :: r => ∃ v mid, (∀ j u, (ncs (t.f, v))[j]? = some u -> cur[i * 8 + j]? = some u) /\ lo <= mid /\ mid <= hi /\ SepT w lo mid v t /\ SepR w mid hi cur (i + 1) r
end
theorem SepT.mk {lo hi : Nat} (h : (t.ks = [] /\ v = .slice none 0 0) ∨ (0 < t.ks.length /\ ∃ g cur, v = .slice (some ⟨g, 0, none⟩) t.ks.length t.ks.length /\ lo <= g /\ g < hi /\ w.heap[g]? = some (.cells cur 25 (0, 0)) /\ cur.size = t.ks.length * 8 /\ SepR w (g + 1) hi cur 0 t.ks)) : SepT w lo hi v t := by
 cases t
 exact h
mutual
theorem SepT.agree {w w' : World} : ∀ {t : Tr} {lo hi : Nat} {v : Value}, (∀ b, lo <= b -> b < hi -> w'.heap[b]? = w.heap[b]?) -> SepT w lo hi v t -> SepT w' lo hi v t
 | .mk _ ks, lo, hi, v, ha, h => by
  rcases h with h | ⟨h0, g, cur, h1, h2, h3, h4, h5, h6⟩
  ·exact Or.inl h
  ·exact Or.inr ⟨h0, g, cur, h1, h2, h3, (ha g h2 h3).trans h4, h5, SepR.agree (fun b hb hb' => ha b (by omega) hb') (fun _ _ _ => rfl) h6⟩
theorem SepR.agree {w w' : World} {cur cur' : Array Value} : ∀ {l : List Tr} {lo hi i : Nat}, (∀ b, lo <= b -> b < hi -> w'.heap[b]? = w.heap[b]?) -> (∀ p, i * 8 <= p -> p < (i + l.length) * 8 -> cur'[p]? = cur[p]?) -> SepR w lo hi cur i l -> SepR w' lo hi cur' i l
 | [], _, _, _, _, _, _ => trivial
 | t :: r, lo, hi, i, ha, hc, h => by
  obtain ⟨v, mid, h1, h2, h3, h4, h5⟩ := h
  refine ⟨v, mid, fun j u hu => ?_, h2, h3, SepT.agree (fun b hb hb' => ha b hb (by omega)) h4, SepR.agree (fun b hb hb' => ha b (by omega) hb') (fun p hp hp' => hc p (by omega) (by simp only [List.length_cons]; omega)) h5⟩
  have hj : j < 8 := by
   have := (List.getElem?_eq_some_iff.1 hu).1
   simpa [ncs] using this
  rw [hc (i * 8 + j) (by omega) (by simp only [List.length_cons]; omega)]
  exact h1 j u hu
end
mutual
theorem SepT.mono {w : World} : ∀ {t : Tr} {lo hi lo' hi' : Nat} {v : Value}, lo' <= lo -> hi <= hi' -> SepT w lo hi v t -> SepT w lo' hi' v t
 | .mk _ ks, lo, hi, lo', hi', v, h1, h2, h => by
  rcases h with h | ⟨h0, g, cur, a1, a2, a3, a4, a5, a6⟩
  ·exact Or.inl h
  ·exact Or.inr ⟨h0, g, cur, a1, by omega, by omega, a4, a5, SepR.mono (Nat.le_refl _) h2 a6⟩
theorem SepR.mono {w : World} {cur : Array Value} : ∀ {l : List Tr} {lo hi lo' hi' i : Nat}, lo' <= lo -> hi <= hi' -> SepR w lo hi cur i l -> SepR w lo' hi' cur i l
 | [], _, _, _, _, _, _, _, _ => trivial
 | t :: r, lo, hi, lo', hi', i, h1, h2, h => by
  obtain ⟨v, mid, a1, a2, a3, a4, a5⟩ := h
  exact ⟨v, mid, a1, by omega, by omega, SepT.mono h1 (Nat.le_refl _) a4, SepR.mono (Nat.le_refl _) h2 a5⟩
end
theorem SepR.snoc {w : World} {cur : Array Value} {t : Tr} {v : Value} {hi hi' : Nat} (ht : SepT w hi hi' v t) (hh : hi <= hi') : ∀ {l : List Tr} {lo i : Nat}, lo <= hi -> SepR w lo hi cur i l -> (∀ j u, (ncs (t.f, v))[j]? = some u -> cur[(i + l.length) * 8 + j]? = some u) -> SepR w lo hi' cur i (l ++ [t])
 | [], lo, i, hl, _, hc => ⟨v, hi', by simpa using hc, by omega, Nat.le_refl _, ht.mono hl (Nat.le_refl _), trivial⟩
 | x :: r, lo, i, hl, h, hc => by
  obtain ⟨u, mid, a1, a2, a3, a4, a5⟩ := h
  refine ⟨u, mid, a1, a2, by omega, a4, SepR.snoc ht hh a3 a5 fun j y hy => ?_⟩
  have := hc j y hy
  rw [show (i + 1 + r.length) * 8 + j = (i + (x :: r).length) * 8 + j by simp only [List.length_cons]; omega]
  exact this
mutual
theorem SepT.kids {w : World} : ∀ {t : Tr} {lo hi : Nat} {v : Value}, cnt t <= 65536 -> SepT w lo hi v t -> Kids w ⟨true, false⟩ (fun i => lo <= i /\ i < hi) v t.ks
 | .mk f ks, lo, hi, v, hn, h => by
  have hll := len_le_cnts ks
  unfold cnt at hn
  rcases h with ⟨rfl, rfl⟩ | ⟨h0, g, cur, rfl, a2, a3, a4, a5, a6⟩
  ·exact Kids.nil _ rfl _ _ _
  ·refine ⟨g, 0, ⟨Or.inr ⟨h0, ⟨a2, a3⟩, fun _ => ⟨cur, _, a4⟩, _, by simp only [Tr.ks]; omega, rfl⟩, fun e => by cases e⟩, ?_⟩
   have := SepR.row (g := g) (by omega) a4 a6
   rw [Nat.zero_mul] at this
   exact this.mono fun i hi => ⟨by omega, hi.2⟩
theorem SepR.row {w : World} {cur : Array Value} {g : Nat} : ∀ {l : List Tr} {lo hi i : Nat}, cnts l <= 65536 -> w.heap[g]? = some (.cells cur 25 (0, 0)) -> SepR w lo hi cur i l -> RowAt w ⟨true, false⟩ (fun b => lo <= b /\ b < hi) g (i * 8) l
 | [], _, _, _, _, _, _ => trivial
 | t :: r, lo, hi, i, hn, hg, h => by
  obtain ⟨v, mid, h1, h2, h3, h4, h5⟩ := h
  unfold cnts at hn
  have hk := (SepT.kids (by omega) h4).mono (S' := fun b => lo <= b /\ b < hi) fun b hb => ⟨hb.1, by omega⟩
  have at8 : ∀ j u, (ncs (t.f, v))[j]? = some u -> w.cell? ⟨g, i * 8 + j, none⟩ = some u := fun j u hu => by
   have := h1 j u hu
   simp only [World.cell?, hg]
   simpa using this
  refine ⟨NodeAt.shut (at8 0 _ rfl) (at8 1 _ rfl) (at8 2 _ rfl) (at8 3 _ rfl) (at8 4 _ rfl) (at8 5 _ rfl) (at8 6 _ rfl) (at8 7 _ rfl) hk, ?_⟩
  have := (SepR.row (by omega) hg h5).mono (S' := fun b => lo <= b /\ b < hi) fun b hb => ⟨by omega, hb.2⟩
  rw [show (i + 1) * 8 = i * 8 + 8 by omega] at this
  exact this
end
theorem Tryz.sizeN : (Tryz.prog.info? 25).map (·.size) = some 8 := by kernel_rfl
end
section
open Go.RowKit
theorem stzero_any (b : Nat) (w : World) (h : w.cell? ⟨b, 1, none⟩ = some (.slice none 0 0)) :
 Calls Tryz.prog 19 #[.pointer (some ⟨b, 0, none⟩)] w fun e w' => e = .returned (.string ⟨#[]⟩) /\ Below w.heap.size w w' := by
 have hUS : ∀ W : World, (Builtin.unsafeString_ #[66, 3] 9 #[.pointer none, .int .i64 0]).run Tryz.prog W = .ok (.string ⟨#[]⟩) W := fun W => rfl
 have hSD : ∀ W : World, (Builtin.unsafeSliceData_ #[40] 66 #[.slice none 0 0]).run Tryz.prog W = .ok (.pointer none) W := fun W => rfl
 go_enter Tryz.func19, Tryz.ntmps19
 go_wp2
 go_region
 go_wp2
 go_ret
 exact ⟨rfl, zd _⟩
theorem under_nil (M : Nat) (A : Option Addr) (c : Nat) (m : Int) (w : World) :
 Calls Tryz.prog 21 #[.map (some M), .slice A 0 c, .int .i64 m] w fun e w' => e = .returned (.tuple #[.int .i64 0, .bool true]) /\ w' = w := by
 go_enter Tryz.func21, Tryz.ntmps21
 go_wp2
 go_ret2
 exact ⟨rfl, rfl⟩
theorem depth_nil (f : Nd) (A : Option Addr) (c : Nat) (m : Int) (h1 : 1 <= m) (h2 : m <= 1000) (w : World) :
 Calls Tryz.prog 10 #[nv f (.slice A 0 c), .int .i64 m] w fun e w' => e = .returned (.int .i64 1) /\ Below w.heap.size w w' := by
 have hmm := @run_makeMap Tryz.prog
 have q : decide (m < 1) = false := decide_eq_false (by omega)
 unfold nv
 have HB : ∀ o o', Hid (Below w.heap.size w ((w.alloc o).alloc o')) := fun o o' => zz (((Below.refl _ _).alloc (Nat.le_refl _) _).alloc (by rw [World.size_alloc]; omega) _)
 go_enter Tryz.func10, Tryz.ntmps10
 go_wp2_with fail
 refine (under_nil _ A c (m - 1) _).mono ?_
 rintro e w' ⟨rfl, rfl⟩
 go_wp2
 go_ret
 exact ⟨rfl, (HB _ _).out⟩
theorem allfit_nil (M : Nat) (A : Option Addr) (c : Nat) (w : World) :
 Calls Tryz.prog 17 #[.map (some M), .slice A 0 c] w fun e w' => e = .returned (.bool true) /\ w' = w := by
 go_enter Tryz.func17, Tryz.ntmps17
 go_wp2
 go_ret
 exact ⟨rfl, rfl⟩
theorem each_nil (A : Option Addr) (c : Nat) (g : Value) (w : World) :
 Calls Tryz.prog 50 #[.slice A 0 c, g] w fun e w' => e = .returned (.bool true) /\ w' = w := by
 go_enter Tryz.func50, Tryz.ntmps50
 go_wp2
 go_loopw [9] (fun i wr => i = .int .i64 0 /\ wr = w) (fun _ _ => 0)
 case atStart => exact ⟨rfl, rfl⟩
 case round =>
  obtain ⟨rfl, rfl⟩ := hrel
  go_wp2
  go_ret
  exact ⟨rfl, rfl⟩
def fileNd : Nd := ⟨1, ⟨#[]⟩, 0, ⟨#[]⟩, 0, 0, 0⟩
theorem box1 (w : World) (o : Obj) : Hid (Below w.heap.size w (w.alloc o)) := zz ((Below.refl _ _).alloc (Nat.le_refl _) _)
theorem textfits_file (w : World) : Calls Tryz.prog 25 #[nv fileNd (.slice none 0 0)] w fun e w' => e = .returned (.bool true) /\ Below w.heap.size w w' := by
 unfold nv fileNd
 go_enter Tryz.func25, Tryz.ntmps25
 go_wp2
 go_ret
 exact ⟨rfl, (box1 _ _).out⟩
theorem numfits_file (w : World) : Calls Tryz.prog 26 #[nv fileNd (.slice none 0 0)] w fun e w' => e = .returned (.bool true) /\ Below w.heap.size w w' := by
 unfold nv fileNd
 go_enter Tryz.func26, Tryz.ntmps26
 go_wp2
 go_ret
 exact ⟨rfl, (box1 _ _).out⟩
theorem typefits_file (w : World) : Calls Tryz.prog 27 #[nv fileNd (.slice none 0 0)] w fun e w' => e = .returned (.bool true) /\ Below w.heap.size w w' := by
 unfold nv fileNd
 go_enter Tryz.func27, Tryz.ntmps27
 go_wp2
 go_ret
 exact ⟨rfl, (box1 _ _).out⟩
theorem kidsfit_file (w : World) : Calls Tryz.prog 28 #[nv fileNd (.slice none 0 0)] w fun e w' => e = .returned (.bool true) /\ Below w.heap.size w w' := by
 unfold nv fileNd
 go_enter Tryz.func28, Tryz.ntmps28
 go_wp2_with fail
 refine (each_nil none 0 _ _).mono ?_
 rintro e w' ⟨rfl, rfl⟩
 go_wp2
 go_ret
 exact ⟨rfl, (box1 _ _).out⟩
theorem fits_file (w : World) : Calls Tryz.prog 16 #[nv fileNd (.slice none 0 0)] w fun e w' => e = .returned (.bool true) /\ Below w.heap.size w w' := by
 unfold nv
 go_enter Tryz.func16, Tryz.ntmps16
 go_wp2_with fail
 obtain ⟨w1, hw1, HB1, HX1, hs1⟩ := jb w fileNd (.slice none 0 0)
 rw [hw1]
 clear hw1
 refine (textfits_file _).mono ?_
 rintro e w2 ⟨rfl, b2⟩
 have h2 := b2.size
 have x0 := (HX1.out.below b2 (by omega)).cell
 have HB2 := zz b2
 clear b2
 go_wp2_with fail
 refine (numfits_file _).mono ?_
 rintro e w3 ⟨rfl, b3⟩
 have h3 := b3.size
 have HB3 := zz (HB2.out.trans (b3.mono h2))
 have y0 := (HX1.out.below HB3.out (by omega)).cell
 clear b3 HB2
 go_wp2_with fail
 refine (typefits_file _).mono ?_
 rintro e w4 ⟨rfl, b4⟩
 have h4 := b4.size
 have HB4 := zz (HB3.out.trans (b4.mono (by omega)))
 have z0 := (HX1.out.below HB4.out (by omega)).cell
 clear b4 HB3
 go_wp2_with fail
 refine (kidsfit_file _).mono ?_
 rintro e w5 ⟨rfl, b5⟩
 have HB5 := zz (HB1.out.trans ((HB4.out.trans (b5.mono (by omega))).mono (by omega)))
 clear b5 HB4
 go_wp2
 go_ret
 exact ⟨rfl, HB5.out⟩
theorem right_file (w : World) : Calls Tryz.prog 7 #[nv fileNd (.slice none 0 0)] w fun e w' => e = .returned (.int .i64 0) /\ Below w.heap.size w w' := by
 have hmm := @run_makeMap Tryz.prog
 unfold nv
 go_enter Tryz.func7, Tryz.ntmps7
 go_wp2_with fail
 obtain ⟨w1, hw1, HB1, HX1, hs1⟩ := jb w fileNd (.slice none 0 0)
 rw [hw1]
 clear hw1
 refine (depth_nil fileNd none 0 40 (by decide) (by decide) _).mono ?_
 rintro e w2 ⟨rfl, b2⟩
 have h2 := b2.size
 have x0 := (HX1.out.below b2 (by omega)).cell
 have HB2 := zz b2
 clear b2
 have e1 : fileNd.k = 1 := rfl
 go_wp2_with fail
 refine (fits_file _).mono ?_
 rintro e w3 ⟨rfl, b3⟩
 have h3 := b3.size
 have HB3 := zz (HB2.out.trans (b3.mono h2))
 have y7 := (HX1.out.below HB3.out (by omega)).cell.2.2.2.2.2.2.2
 have y7' : ∀ o, (w3.alloc o).cell? ⟨w.heap.size, 7, none⟩ = some (.slice none 0 0) := fun o => (World.cell?_alloc_lt _ _ _ (by show w.heap.size < _; omega)).trans y7
 clear b3 HB2
 go_wp2_with fail
 refine (allfit_nil _ none 0 _).mono ?_
 rintro e w4 ⟨rfl, rfl⟩
 have HB4 := zz (HB1.out.trans ((HB3.out.alloc (by omega) (.map #[] 0)).mono (by omega)))
 clear HB3 y7 y7'
 go_wp2
 go_ret
 exact ⟨rfl, HB4.out⟩
theorem right_none (w : World) : Calls Tryz.prog 7 #[nv zNd (.slice none 0 0)] w fun e w' => e = .returned (.int .i64 41) /\ Below w.heap.size w w' := by
 unfold nv
 go_enter Tryz.func7, Tryz.ntmps7
 go_wp2_with fail
 obtain ⟨w1, hw1, HB1, HX1, hs1⟩ := jb w zNd (.slice none 0 0)
 rw [hw1]
 clear hw1
 refine (depth_nil zNd none 0 40 (by decide) (by decide) _).mono ?_
 rintro e w2 ⟨rfl, b2⟩
 have x0 := (HX1.out.below b2 (by omega)).cell
 have HB2 := zz (HB1.out.trans (b2.mono (by omega)))
 clear b2
 have e1 : zNd.k = 0 := rfl
 go_wp2
 go_ret
 exact ⟨rfl, HB2.out⟩
theorem text_file (w : World) : Calls Tryz.prog 8 #[nv fileNd (.slice none 0 0)] w fun e w' => e = .returned (.tuple #[.string ⟨#[]⟩, .int .i64 0]) /\ Below w.heap.size w w' := by
 unfold nv
 go_enter Tryz.func8, Tryz.ntmps8
 go_wp2_with fail
 obtain ⟨w1, hw1, HB1, HX1, hs1⟩ := jb w fileNd (.slice none 0 0)
 rw [hw1]
 clear hw1
 refine (right_file _).mono ?_
 rintro e w2 ⟨rfl, b2⟩
 have h2 := b2.size
 have x7 := (HX1.out.below b2 (by omega)).cell.2.2.2.2.2.2.2
 have x7' : ∀ o, (w2.alloc o).cell? ⟨w.heap.size, 7, none⟩ = some (.slice none 0 0) := fun o => (World.cell?_alloc_lt _ _ _ (by show w.heap.size < _; omega)).trans x7
 have HB2 := zz (HB1.out.trans (b2.mono (by omega)))
 clear b2
 go_wp2
 have hc : (w2.alloc (.cells #[.pointer none, .slice none 0 0, .int .i64 0] 44)).cell? ⟨w2.heap.size, 1, none⟩ = some (.slice none 0 0) := by simp
 have HC := zz hc
 have hs3 : (w2.alloc (.cells #[.pointer none, .slice none 0 0, .int .i64 0] 44)).heap.size = w2.heap.size + 1 := World.size_alloc _ _
 have HB3 := zz (HB2.out.alloc (by omega) (.cells #[.pointer none, .slice none 0 0, .int .i64 0] 44))
 clear hc x7 x7' HB2
 generalize w2.alloc (.cells #[.pointer none, .slice none 0 0, .int .i64 0] 44) = w3 at *
 go_loopw [16] (fun i wr => i = .int .i64 0 /\ wr = w3) (fun _ _ => 0)
 case atStart => exact ⟨rfl, rfl⟩
 case round =>
  obtain ⟨rfl, rfl⟩ := hrel
  go_wp2_with fail
  refine (stzero_any _ _ HC.out).mono ?_
  rintro e w4 ⟨rfl, b4⟩
  have HB4 := zz (HB3.out.trans (b4.mono (by omega)))
  clear b4
  go_wp2
  go_ret2
  exact ⟨rfl, HB4.out⟩
theorem alive_any (w : World) : Calls Tryz.prog 4 #[] w fun e w' => e = .returned (.bool true) /\ Below w.heap.size w w' := by
 go_enter Tryz.func4, Tryz.ntmps4
 go_wp2_with fail
 obtain ⟨w1, hw1, HB1, HX1, hs1⟩ := jb w fileNd (.slice none 0 0)
 unfold fileNd at hw1
 rw [hw1]
 clear hw1
 refine (text_file _).mono ?_
 rintro e w2 ⟨rfl, b2⟩
 have h2 := b2.size
 have x0 := (HX1.out.below b2 (by omega)).cell
 have HB2 := zz b2
 clear b2
 go_wp2_with fail
 refine (right_file _).mono ?_
 rintro e w3 ⟨rfl, b3⟩
 have h3 := b3.size
 have HB3 := zz (HB2.out.trans (b3.mono h2))
 have y0 := (HX1.out.below HB3.out (by omega)).cell
 clear b3 HB2
 go_wp2_with fail
 refine (right_none _).mono ?_
 rintro e w4 ⟨rfl, b4⟩
 have h4 := b4.size
 have HB4 := zz (HB3.out.trans (b4.mono (by omega)))
 have z0 := (HX1.out.below HB4.out (by omega)).cell
 clear b4 HB3
 go_wp2_with fail
 refine (depth_nil fileNd none 0 5 (by decide) (by decide) _).mono ?_
 rintro e w5 ⟨rfl, b5⟩
 have HB5 := zz (HB1.out.trans ((HB4.out.trans (b5.mono (by omega))).mono (by omega)))
 clear b5 HB4
 go_wp2
 go_ret
 exact ⟨rfl, HB5.out⟩
end
section
open Go.RowKit
variable {S : Nat -> Prop} {c : Nat} {m : Md} {ts : List Tr} {v : Value} {w w' : World}
abbrev Enters (g : FuncId) : Prop := ∀ (args : Array Value) (w : World), (callFunc g args).run Tryz.prog w = .ok (.enter g args) w
theorem enters_of {g : FuncId} {fn : Func} (h : Tryz.prog.funcs[g]? = some fn) (hn : (fn.name == "runtime.NumGoroutine") = false) (hb : fn.body.isNone = false) : Enters g := fun args w => by
 have h1 : ¬ fn.name = "runtime.NumGoroutine" := by simpa using hn
 have h2 : ¬ fn.body = none := by intro e; rw [e] at hb; cases hb
 simp [callFunc, go_sem, h, h1, h2]
def Asks (g : FuncId) (m : Md) (S : Nat -> Prop) (P : Tr -> Bool) (t : Tr) : Prop := ∀ (w : World) (u : Value), Kids w m S u t.ks -> (∀ i, S i -> i < w.heap.size) -> Calls Tryz.prog g #[nv t.f u] w fun e w' => e = .returned (.bool (P t)) /\ Below w.heap.size w w'
def Lst (w : World) (m : Md) (S : Nat -> Prop) (v : Value) (ts : List Tr) : Prop := ∃ A c b o, v = .slice A ts.length c /\ ts.length <= 9223372036854775807 /\ ts.length <= c /\ (0 < ts.length -> A = some ⟨b, o, none⟩ /\ S b) /\ RowAt w m S b o ts
theorem Kids.lst (h : Kids w m S v ts) (hm : m.mark = true) : Lst w m S v ts := by
 obtain ⟨c, b, o, h1, h2, h3, h4, _, h6⟩ := h.marked hm
 exact ⟨_, c, b, o, h1, h3, by omega, fun _ => ⟨rfl, h4⟩, h6⟩
theorem Kids.lstA (h : Kids w m S v ts) : Lst w m S v ts := by
 obtain ⟨b, o, ⟨hh, _⟩, hr⟩ := h
 rcases hh with ⟨h0, a, c, e⟩ | ⟨h1, h2, h3, c, hn, e⟩
 ·exact ⟨a, c, b, o, by rw [e, h0], by omega, by omega, fun h' => by omega, hr⟩
 ·exact ⟨_, c, b, o, e, hn.1, hn.2, fun _ => ⟨rfl, h2⟩, hr⟩
theorem Lst.agree {w w' : World} {m : Md} {S : Nat -> Prop} {v : Value} {ts : List Tr} (ha : Agree S w w') (h : Lst w m S v ts) : Lst w' m S v ts := by
 obtain ⟨A, c, b, o, h1, h2, h3, h4, h5⟩ := h
 refine ⟨A, c, b, o, h1, h2, h3, h4, ?_⟩
 by_cases h0 : 0 < ts.length
 ·exact h5.agree ha (h4 h0).2
 ·obtain rfl : ts = [] := List.eq_nil_of_length_eq_zero (by omega)
  exact trivial
theorem Lst.below {M : Nat} (h : Lst w m S v ts) (hb : Below M w w') (hn : ∀ i, S i -> i < M) : Lst w' m S v ts := h.agree (Agree.of_below hb hn)
theorem all_succ {P : Tr -> Bool} {l : List Tr} {k : Nat} (h : k < l.length) : (l.take (k + 1)).all P = ((l.take k).all P && P l[k]) := by
 rw [List.take_succ_eq_append_getElem h, List.all_append]
 simp
theorem each_is {va : Value} {g : FuncId} {P : Tr -> Bool} (hK : Lst w m S va ts) (hS : ∀ i, S i -> i < w.heap.size) (hf : Enters g) (hg : ∀ t ∈ ts, Asks g m S P t) :
 Calls Tryz.prog 50 #[va, .func (.func g) #[] #[]] w fun e w' => e = .returned (.bool (ts.all P)) /\ Below w.heap.size w w' := by
 obtain ⟨A, ca, ba, oa, rfl, hla, hcap, hA, hra⟩ := hK
 have HA := zz hA
 have HR := zz hra
 have HG := zz hg
 have HS := zz hS
 clear hA hra hg hS hcap
 go_enter Tryz.func50, Tryz.ntmps50
 go_wp2
 go_loopw [9] (fun i wr => ∃ k : Nat, k <= ts.length /\ i = .int .i64 k /\ Below w.heap.size w wr /\ (ts.take k).all P = true) (fun i _ => ts.length - (intOf i).toNat)
 case atStart => exact ⟨0, Nat.zero_le _, rfl, Below.refl _ _, by rw [List.take_zero]; rfl⟩
 case round =>
  obtain ⟨k, hk, rfl, hbw, hall⟩ := hrel
  have hsz := hbw.size
  have HBW := zz hbw
  have HALL := zz hall
  clear hbw hall
  by_cases hkl : k < ts.length
  ·obtain ⟨hA1, hb⟩ := HA.out (by omega)
   subst hA1
   obtain ⟨v', c0, c1, c2, c3, c4, c5, c6, c7, hk'⟩ := ((HR.out.agree (Agree.of_below HBW.out HS.out) hb).get k hkl).open
   obtain ⟨A', c', b', o', rfl, _, _, _⟩ := hk'.form
   have HK' := zz hk'
   have HAS := zz (all_succ (P := P) hkl)
   clear hk'
   have hbox : ∀ o j x, wr.cell? ⟨ba, j, none⟩ = some x -> (wr.alloc o).cell? ⟨ba, j, none⟩ = some x := fun o j x h => (World.cell?_alloc_lt _ _ _ (by show ba < _; have := HS.out ba hb; omega)).trans h
   clear hbox
   go_wp2_with fail
   obtain ⟨w1, hw1, HB1, HX1, hs1⟩ := jb wr ts[k].f (.slice A' ts[k].ks.length c')
   rw [hw1]
   clear hw1 HX1
   refine (HG.out ts[k] (List.getElem_mem hkl) w1 _ (HK'.out.below HB1.out fun i hi => by have := HS.out i hi; omega) (fun i hi => by have := HS.out i hi; omega)).mono ?_
   rintro e w2 ⟨rfl, b2⟩
   have HB2 := zz (HBW.out.trans ((HB1.out.trans (b2.mono (by omega))).mono hsz))
   clear b2 c0 c1 c2 c3 c4 c5 c6 c7 HB1
   cases hp : P ts[k]
   ·have E := zz (show false = ts.all P from by
     have h1 := HAS.out
     rw [hp, Bool.and_false] at h1
     cases h2 : ts.all P
     ·rfl
     ·have h3 : (ts.take (k + 1)).all P = true := List.all_eq_true.2 fun x hx => List.all_eq_true.1 h2 x (List.mem_of_mem_take hx)
      rw [h1] at h3
      cases h3)
    go_wp2
    go_ret
    exact ⟨zb E.out, HB2.out⟩
   ·have H1 := zz (show (ts.take (k + 1)).all P = true by rw [HAS.out, HALL.out, hp]; rfl)
    go_wp2
    go_roundw
    case rel => exact ⟨k + 1, by omega, by go_num, HB2.out, H1.out⟩
    case measure => simp [intOf]; omega
  ·have E := zz (show true = ts.all P by rw [<- HALL.out, List.take_of_length_le (by omega)])
   go_wp2
   go_ret
   exact ⟨zb E.out, HBW.out⟩
def mat : List (Tr -> Bool) -> List Tr -> Bool
 | [], [] => true
 | p :: ps, t :: ts => p t && mat ps ts
 | _, _ => false
theorem mat_len : ∀ {ps : List (Tr -> Bool)} {ts : List Tr}, mat ps ts = true -> ps.length = ts.length
 | [], [], _ => rfl
 | p :: ps, t :: ts, h => by
  unfold mat at h
  rw [Bool.and_eq_true] at h
  simp [mat_len h.2]
 | [], _ :: _, h => by cases h
 | _ :: _, [], h => by cases h
theorem mat_iff : ∀ {ps : List (Tr -> Bool)} {ts : List Tr}, ps.length = ts.length -> (mat ps ts = true ↔ ∀ j (h1 : j < ps.length) (h2 : j < ts.length), ps[j] ts[j] = true)
 | [], [], _ => ⟨(fun _ j h1 => by cases h1), (fun _ => rfl)⟩
 | p :: ps, t :: ts, h => by
  unfold mat
  rw [Bool.and_eq_true, mat_iff (by simpa using h)]
  constructor
  ·rintro ⟨h1, h2⟩ j g1 g2
   cases j with
   | zero => exact h1
   | succ j => exact h2 j (by simpa using g1) (by simpa using g2)
  ·intro h
   exact ⟨h 0 (by simp) (by simp), fun j g1 g2 => h (j + 1) (by simpa using g1) (by simpa using g2)⟩
 | [], _ :: _, h => by cases h
 | _ :: _, [], h => by cases h
theorem match_is {va : Value} {gs : List FuncId} {ps : List (Tr -> Bool)} {bt : Nat} (hl : ps.length = gs.length) (hK : Lst w m S va ts) (hS : ∀ i, S i -> i < w.heap.size) (hbt : bt < w.heap.size) (hn : gs.length <= 100) (hc : ∀ j (h : j < gs.length), w.cell? ⟨bt, j, none⟩ = some (.func (.func gs[j]) #[] #[])) (hf : ∀ g ∈ gs, Enters g) (hg : ∀ j (h1 : j < gs.length) (h2 : j < ts.length) (h3 : j < ps.length), Asks gs[j] m S ps[j] ts[j]) :
 Calls Tryz.prog 55 #[va, .slice (some ⟨bt, 0, none⟩) gs.length c] w fun e w' => e = .returned (.bool (mat ps ts)) /\ Below w.heap.size w w' := by
 obtain ⟨A, ca, ba, oa, rfl, hla, hcap, hA, hra⟩ := hK
 have HA := zz hA
 have HR := zz hra
 have HG := zz hg
 have HS := zz hS
 have HF := zz hf
 have HC := zz hc
 have HL := zz hl
 clear hA hra hg hS hf hc hl hcap
 by_cases hlen : ts.length = gs.length
 rotate_left
 ·have q : ((ts.length : Int) != (gs.length : Int)) = true := by simp; omega
  have E := zz (show false = mat ps ts by
   cases h : mat ps ts
   ·rfl
   ·exact absurd ((mat_len h).symm.trans HL.out) hlen)
  clear hlen
  go_enter Tryz.func55, Tryz.ntmps55
  go_wp2
  go_ret
  exact ⟨zb E.out, Below.refl _ _⟩
 have q : ((ts.length : Int) != (gs.length : Int)) = false := by simp; omega
 have HLEN := zz hlen
 clear hlen
 go_enter Tryz.func55, Tryz.ntmps55
 go_wp2
 go_loopw [14] (fun i wr => ∃ k : Nat, k <= gs.length /\ i = .int .i64 k /\ Below w.heap.size w wr /\ ∀ j (_ : j < k) (h1 : j < ps.length) (h2 : j < ts.length), ps[j] ts[j] = true) (fun i _ => gs.length - (intOf i).toNat)
 case atStart => exact ⟨0, Nat.zero_le _, rfl, Below.refl _ _, fun j h => by omega⟩
 case round =>
  obtain ⟨k, hk, rfl, hbw, hall⟩ := hrel
  have hsz := hbw.size
  have HBW := zz hbw
  have HALL := zz hall
  clear hbw hall
  by_cases hkg : k < gs.length
  ·have hkl : k < ts.length := by have := HLEN.out; omega
   have hkp : k < ps.length := by have := HL.out; omega
   obtain ⟨hA1, hb⟩ := HA.out (by omega)
   subst hA1
   obtain ⟨v', c0, c1, c2, c3, c4, c5, c6, c7, hk'⟩ := ((HR.out.agree (Agree.of_below HBW.out HS.out) hb).get k hkl).open
   have HK' := zz hk'
   have g0 : wr.cell? ⟨bt, k, none⟩ = some (.func (.func gs[k]) #[] #[]) := (HBW.out.cell (p := ⟨bt, k, none⟩) hbt).trans (HC.out k hkg)
   have hen := HF.out gs[k] (List.getElem_mem hkg)
   have i0 : (0 : Int) <= (k : Int) := by omega
   have i1 : (k : Int) < (ts.length : Int) := by omega
   have i2 : (k : Int) < (gs.length : Int) := by omega
   clear hk'
   have HAK := zz (HG.out k hkg hkl hkp)
   generalize gs[k] = g at *
   go_wp2_with fail
   refine (HAK.out wr _ HK'.out (fun i hi => by have := HS.out i hi; omega)).mono ?_
   rintro e w2 ⟨rfl, b2⟩
   have HB2 := zz (HBW.out.trans (b2.mono hsz))
   clear b2 c0 c1 c2 c3 c4 c5 c6 c7 g0
   cases hp : ps[k] ts[k]
   ·have E := zz (show false = mat ps ts from by
     cases h : mat ps ts
     ·rfl
     ·have := (mat_iff (mat_len h)).1 h k hkp hkl
      rw [hp] at this
      cases this)
    go_wp2
    go_ret
    exact ⟨zb E.out, HB2.out⟩
   ·have H1 := zz hp
    clear hp
    go_wp2
    go_roundw
    case rel => exact ⟨k + 1, by omega, by go_num, HB2.out, fun j hj h1 h2 => by
     rcases Nat.lt_or_ge j k with h | h
     ·exact HALL.out j h h1 h2
     ·obtain rfl : j = k := by omega
      exact H1.out⟩
    case measure => simp [intOf]; omega
  ·have E := zz (show true = mat ps ts from ((mat_iff (HL.out.trans HLEN.out.symm)).2 fun j h1 h2 => HALL.out j (by have := HL.out; omega) h1 h2).symm)
   go_wp2
   go_ret
   exact ⟨zb E.out, HBW.out⟩
end
end Go.Proofs.YtmdhjiammcpogaaGreatDoor
