/- Layer 10: what the laws ask first. -/
import Derived.Test.YtjilnmeegolpkaaIg
namespace Go.Proofs.Ytjilnmeegolpkaa
open Go.RowKit Go.Shelf

variable {PT : World → Nat → (Nat → Prop) → Nat → List Th → Nat → Prop} {Sq : World → Nat → (Nat → Prop) → Nat → Array Value → Nat → Prop} (I : Face PT Sq)
variable {w : World} {B C p b : Nat} {v tv : Value} {hs : List (Int × Int)} {l : List Th} {M : Nat} {F : Nat → Prop}
include I

theorem stays (h : PT w B F p l M) {w' : World} (hb : Below w.heap.size w w') : PT w' B F p l M := I.ch h (Ch.of_below (Q := fun _ => False) hb) (fun _ _ h => h)

omit I in
theorem aw_lists : (tkd ([] : List Th) 2 7 = ([⟨1, 1, 7, false⟩] : List Th) ∧ tkS ([] : List Th) 2 = 1 ∧ tkG ([] : List Th) 2 = 1 ∧ tkB ([] : List Th) 2 = true) ∧ (tkd ([⟨1, 1, 7, false⟩] : List Th) 2 8 = ([⟨1, 1, 7, false⟩, ⟨2, 1, 8, false⟩] : List Th) ∧ tkS ([⟨1, 1, 7, false⟩] : List Th) 2 = 2 ∧ tkG ([⟨1, 1, 7, false⟩] : List Th) 2 = 1 ∧ tkB ([⟨1, 1, 7, false⟩] : List Th) 2 = true) ∧ (tkd ([⟨1, 1, 7, false⟩, ⟨2, 1, 8, false⟩] : List Th) 2 9 = ([⟨1, 1, 7, false⟩, ⟨2, 1, 8, false⟩] : List Th) ∧ tkS ([⟨1, 1, 7, false⟩, ⟨2, 1, 8, false⟩] : List Th) 2 = 0 ∧ tkG ([⟨1, 1, 7, false⟩, ⟨2, 1, 8, false⟩] : List Th) 2 = 0 ∧ tkB ([⟨1, 1, 7, false⟩, ⟨2, 1, 8, false⟩] : List Th) 2 = false) ∧
    (frd ([⟨1, 1, 7, false⟩, ⟨2, 1, 8, false⟩] : List Th) 1 1 = ([⟨1, 1, 7, true⟩, ⟨2, 1, 8, false⟩] : List Th) ∧ fnB ([⟨1, 1, 7, false⟩, ⟨2, 1, 8, false⟩] : List Th) 1 1 = true) ∧ (frd ([⟨1, 1, 7, true⟩, ⟨2, 1, 8, false⟩] : List Th) 1 1 = ([⟨1, 1, 7, true⟩, ⟨2, 1, 8, false⟩] : List Th) ∧ fnB ([⟨1, 1, 7, true⟩, ⟨2, 1, 8, false⟩] : List Th) 1 1 = false) ∧ (tkd ([⟨1, 1, 7, true⟩, ⟨2, 1, 8, false⟩] : List Th) 2 5 = ([⟨1, 1, 7, true⟩, ⟨2, 1, 8, false⟩, ⟨1, 2, 5, false⟩] : List Th) ∧ tkS ([⟨1, 1, 7, true⟩, ⟨2, 1, 8, false⟩] : List Th) 2 = 1 ∧ tkG ([⟨1, 1, 7, true⟩, ⟨2, 1, 8, false⟩] : List Th) 2 = 2 ∧ tkB ([⟨1, 1, 7, true⟩, ⟨2, 1, 8, false⟩] : List Th) 2 = true) ∧ (gtX ([⟨1, 1, 7, true⟩, ⟨2, 1, 8, false⟩, ⟨1, 2, 5, false⟩] : List Th) 1 2 = 5 ∧ srX ([⟨1, 1, 7, true⟩, ⟨2, 1, 8, false⟩, ⟨1, 2, 5, false⟩] : List Th) 1 2 = 3 ∧ fnB ([⟨1, 1, 7, true⟩, ⟨2, 1, 8, false⟩, ⟨1, 2, 5, false⟩] : List Th) 1 2 = true) := by
  refine ⟨⟨rfl, rfl, rfl, rfl⟩, ⟨rfl, rfl, rfl, rfl⟩, ⟨rfl, rfl, rfl, rfl⟩, ⟨rfl, rfl⟩, ⟨rfl, rfl⟩, ⟨rfl, rfl, rfl, rfl⟩, rfl, rfl, rfl⟩

set_option maxRecDepth 100000 in
set_option maxHeartbeats 4000000 in
theorem awake_is (w : World) : Calls Try.prog 7 #[] w fun e w' => e = .returned (.bool true) ∧ Below w.heap.size w w' := by
  obtain ⟨⟨a1, a2, a3, a4⟩, ⟨b1, b2, b3, b4⟩, ⟨c1, c2, c3, c4⟩, ⟨d1, d2⟩, ⟨e1, e2⟩, ⟨f1, f2, f3, f4⟩, g1, g2, g3⟩ := aw_lists
  have N0 := hide (I.new w 2 2 rfl (by decide) (by decide))
  have T1 := hide (fun u F p (h : PT u w.heap.size F p ([] : List Th) 2) => by have := I.take 7 h (by simp); rw [a1, a2, a3, a4] at this; exact this)
  have T2 := hide (fun u F p (h : PT u w.heap.size F p ([⟨1, 1, 7, false⟩] : List Th) 2) => by have := I.take 8 h (by simp); rw [b1, b2, b3, b4] at this; exact this)
  have T3 := hide (fun u F p (h : PT u w.heap.size F p ([⟨1, 1, 7, false⟩, ⟨2, 1, 8, false⟩] : List Th) 2) => by have := I.take 9 h (by simp); rw [c1, c2, c3, c4] at this; exact this)
  have T4 := hide (fun u F p (h : PT u w.heap.size F p ([⟨1, 1, 7, false⟩, ⟨2, 1, 8, false⟩] : List Th) 2) => by have := I.free 1 1 ⟨by decide, by decide⟩ h; rw [d1, d2] at this; exact this)
  have T5 := hide (fun u F p (h : PT u w.heap.size F p ([⟨1, 1, 7, true⟩, ⟨2, 1, 8, false⟩] : List Th) 2) => by have := I.free 1 1 ⟨by decide, by decide⟩ h; rw [e1, e2] at this; exact this)
  have T6 := hide (fun u F p (h : PT u w.heap.size F p ([⟨1, 1, 7, true⟩, ⟨2, 1, 8, false⟩] : List Th) 2) => by have := I.take 5 h (by simp); rw [f1, f2, f3, f4] at this; exact this)
  have T7 := hide (fun u F p (h : PT u w.heap.size F p ([⟨1, 1, 7, true⟩, ⟨2, 1, 8, false⟩, ⟨1, 2, 5, false⟩] : List Th) 2) => by have := I.get 1 2 ⟨by decide, by decide⟩ h; rw [g1, g3] at this; exact this)
  have T8 := hide (fun u F p (h : PT u w.heap.size F p ([⟨1, 1, 7, true⟩, ⟨2, 1, 8, false⟩, ⟨1, 2, 5, false⟩] : List Th) 2) => by have := I.serial 1 2 ⟨by decide, by decide⟩ h; rw [g2, g3] at this; exact this)
  simp only [ec, if_true, if_false, Bool.false_eq_true] at T1 T2 T3 T4 T5 T6 T7 T8
  clear a1 a2 a3 a4 b1 b2 b3 b4 c1 c2 c3 c4 d1 d2 e1 e2 f1 f2 f3 f4 g1 g2 g3
  go_enter Try.func7, Try.ntmps7
  go_wp2_with fail
  refine N0.out.mono ?_
  rintro e W0 ⟨p, F0, rfl, hp0, hb0⟩
  have P0 := hide hp0
  have B0 := hide hb0
  have s0 := hb0.size
  clear hp0 hb0
  go_wp2_with fail
  refine (T1.out _ _ _ P0.out).mono ?_
  rintro e u1 ⟨F1, rfl, hp, hc, hf⟩
  have lb := hide (hc.below (N := w.heap.size) (by omega) (fun x hx e => by have := (I.foot P0.out x e).1; omega))
  have sz := hc.size
  have hv0 := hide hp
  clear hp hf
  have hpu := hv0.out
  clear hv0
  go_wp2_with fail
  obtain ⟨W1, hW⟩ : ∃ W, u1.alloc (.cells #[.int .u32 1, .int .u32 1] 39) = W := ⟨_, rfl⟩
  have ca : Ch (fun _ => False) u1 W1 := by rw [← hW]; exact Ch.alloc _ _
  have Xa := hide (show W1.heap[u1.heap.size]? = some (.cells #[.int .u32 1, .int .u32 1] 39) by rw [← hW]; exact heap_new _ _)
  have na : ¬ F1 u1.heap.size := fun e => by have := (I.foot hpu _ e).2; omega
  have P1 := hide (I.ch hpu ca (fun _ _ h => h))
  have B1 := hide (B0.out.trans (lb.out.trans (ca.below (N := w.heap.size) (by omega) (fun _ _ h => h))))
  have s1 : w.heap.size ≤ W1.heap.size := B1.out.size
  rw [hW]
  clear hW ca lb sz hc hpu
  refine (T2.out _ _ _ P1.out).mono ?_
  rintro e u2 ⟨F2, rfl, hp, hc, hf⟩
  have lb := hide (hc.below (N := w.heap.size) (by omega) (fun x hx e => by have := (I.foot P1.out x e).1; omega))
  have sz := hc.size
  have xa := hide (hc.box Xa.out na)
  have ma : ¬ F2 u1.heap.size := fun e => (hf _ e).elim na (fun e => by have := (Array.getElem?_eq_some_iff.1 Xa.out).1; omega)
  clear Xa na
  have na := ma
  clear ma
  have hv0 := hide hp
  clear hp hf
  have hpu := hv0.out
  clear hv0
  go_wp2_with fail
  obtain ⟨W2, hW⟩ : ∃ W, u2.alloc (.cells #[.int .u32 2, .int .u32 1] 39) = W := ⟨_, rfl⟩
  have ca : Ch (fun _ => False) u2 W2 := by rw [← hW]; exact Ch.alloc _ _
  have Xb := hide (show W2.heap[u2.heap.size]? = some (.cells #[.int .u32 2, .int .u32 1] 39) by rw [← hW]; exact heap_new _ _)
  have nb : ¬ F2 u2.heap.size := fun e => by have := (I.foot hpu _ e).2; omega
  have Xa := hide (ca.box xa.out (fun h => h))
  clear xa
  have P2 := hide (I.ch hpu ca (fun _ _ h => h))
  have B2 := hide (B1.out.trans (lb.out.trans (ca.below (N := w.heap.size) (by omega) (fun _ _ h => h))))
  have s2 : w.heap.size ≤ W2.heap.size := B2.out.size
  rw [hW]
  clear hW ca lb sz hc hpu
  refine (T3.out _ _ _ P2.out).mono ?_
  rintro e u3 ⟨F3, rfl, hp, hc, hf⟩
  have lb := hide (hc.below (N := w.heap.size) (by omega) (fun x hx e => by have := (I.foot P2.out x e).1; omega))
  have sz := hc.size
  have xa := hide (hc.box Xa.out na)
  have xb := hide (hc.box Xb.out nb)
  have ma : ¬ F3 u1.heap.size := fun e => (hf _ e).elim na (fun e => by have := (Array.getElem?_eq_some_iff.1 Xa.out).1; omega)
  have mb : ¬ F3 u2.heap.size := fun e => (hf _ e).elim nb (fun e => by have := (Array.getElem?_eq_some_iff.1 Xb.out).1; omega)
  clear Xa na
  have na := ma
  clear ma
  clear Xb nb
  have nb := mb
  clear mb
  have hv0 := hide hp
  clear hp hf
  have hpu := hv0.out
  clear hv0
  have y0 : ∀ o, (u3.alloc o).cell? ⟨u1.heap.size, 0, none⟩ = some (.int .u32 1) := fun o => by simp [Lib.cell_of_heap ((Ch.alloc (Q := fun _ => False) u3 o).box xa.out (fun h => h))]
  have y1 : ∀ o, (u3.alloc o).cell? ⟨u1.heap.size, 1, none⟩ = some (.int .u32 1) := fun o => by simp [Lib.cell_of_heap ((Ch.alloc (Q := fun _ => False) u3 o).box xa.out (fun h => h))]
  go_wp2_with fail
  clear y0 y1
  obtain ⟨W3, hW⟩ : ∃ W, u3.alloc (.cells #[.int .u32 0, .int .u32 0] 39) = W := ⟨_, rfl⟩
  have ca : Ch (fun _ => False) u3 W3 := by rw [← hW]; exact Ch.alloc _ _
  have Xn := hide (show W3.heap[u3.heap.size]? = some (.cells #[.int .u32 0, .int .u32 0] 39) by rw [← hW]; exact heap_new _ _)
  have nn : ¬ F3 u3.heap.size := fun e => by have := (I.foot hpu _ e).2; omega
  have Xa := hide (ca.box xa.out (fun h => h))
  clear xa
  have Xb := hide (ca.box xb.out (fun h => h))
  clear xb
  have P3 := hide (I.ch hpu ca (fun _ _ h => h))
  have B3 := hide (B2.out.trans (lb.out.trans (ca.below (N := w.heap.size) (by omega) (fun _ _ h => h))))
  have s3 : w.heap.size ≤ W3.heap.size := B3.out.size
  rw [hW]
  clear hW ca lb sz hc hpu
  refine (T4.out _ _ _ P3.out).mono ?_
  rintro e u4 ⟨F4, rfl, hp, hc, hf⟩
  have lb := hide (hc.below (N := w.heap.size) (by omega) (fun x hx e => by have := (I.foot P3.out x e).1; omega))
  have sz := hc.size
  have xa := hide (hc.box Xa.out na)
  have xb := hide (hc.box Xb.out nb)
  have xn := hide (hc.box Xn.out nn)
  have ma : ¬ F4 u1.heap.size := fun e => (hf _ e).elim na (fun e => by have := (Array.getElem?_eq_some_iff.1 Xa.out).1; omega)
  have mb : ¬ F4 u2.heap.size := fun e => (hf _ e).elim nb (fun e => by have := (Array.getElem?_eq_some_iff.1 Xb.out).1; omega)
  have mn : ¬ F4 u3.heap.size := fun e => (hf _ e).elim nn (fun e => by have := (Array.getElem?_eq_some_iff.1 Xn.out).1; omega)
  clear Xa na
  have na := ma
  clear ma
  clear Xb nb
  have nb := mb
  clear mb
  clear Xn nn
  have nn := mn
  clear mn
  have Xa := xa
  clear xa
  have Xb := xb
  clear xb
  have Xn := xn
  clear xn
  have P4 := hide hp
  have B4 := hide (B3.out.trans lb.out)
  have s4 : w.heap.size ≤ u4.heap.size := B4.out.size
  clear hp hf hc lb sz
  have y0 : u4.cell? ⟨u1.heap.size, 0, none⟩ = some (.int .u32 1) := by simp [Lib.cell_of_heap Xa.out]
  have y1 : u4.cell? ⟨u1.heap.size, 1, none⟩ = some (.int .u32 1) := by simp [Lib.cell_of_heap Xa.out]
  go_wp2_with fail
  clear y0 y1
  refine (T5.out _ _ _ P4.out).mono ?_
  rintro e u5 ⟨F5, rfl, hp, hc, hf⟩
  have lb := hide (hc.below (N := w.heap.size) (by omega) (fun x hx e => by have := (I.foot P4.out x e).1; omega))
  have sz := hc.size
  have xa := hide (hc.box Xa.out na)
  have xb := hide (hc.box Xb.out nb)
  have xn := hide (hc.box Xn.out nn)
  have ma : ¬ F5 u1.heap.size := fun e => (hf _ e).elim na (fun e => by have := (Array.getElem?_eq_some_iff.1 Xa.out).1; omega)
  have mb : ¬ F5 u2.heap.size := fun e => (hf _ e).elim nb (fun e => by have := (Array.getElem?_eq_some_iff.1 Xb.out).1; omega)
  have mn : ¬ F5 u3.heap.size := fun e => (hf _ e).elim nn (fun e => by have := (Array.getElem?_eq_some_iff.1 Xn.out).1; omega)
  clear Xa na
  have na := ma
  clear ma
  clear Xb nb
  have nb := mb
  clear mb
  clear Xn nn
  have nn := mn
  clear mn
  have Xa := xa
  clear xa
  have Xb := xb
  clear xb
  have Xn := xn
  clear xn
  have P5 := hide hp
  have B5 := hide (B4.out.trans lb.out)
  have s5 : w.heap.size ≤ u5.heap.size := B5.out.size
  clear hp hf hc lb sz
  go_wp2_with fail
  refine (T6.out _ _ _ P5.out).mono ?_
  rintro e u6 ⟨F6, rfl, hp, hc, hf⟩
  have lb := hide (hc.below (N := w.heap.size) (by omega) (fun x hx e => by have := (I.foot P5.out x e).1; omega))
  have sz := hc.size
  have xa := hide (hc.box Xa.out na)
  have xb := hide (hc.box Xb.out nb)
  have xn := hide (hc.box Xn.out nn)
  have ma : ¬ F6 u1.heap.size := fun e => (hf _ e).elim na (fun e => by have := (Array.getElem?_eq_some_iff.1 Xa.out).1; omega)
  have mb : ¬ F6 u2.heap.size := fun e => (hf _ e).elim nb (fun e => by have := (Array.getElem?_eq_some_iff.1 Xb.out).1; omega)
  have mn : ¬ F6 u3.heap.size := fun e => (hf _ e).elim nn (fun e => by have := (Array.getElem?_eq_some_iff.1 Xn.out).1; omega)
  clear Xa na
  have na := ma
  clear ma
  clear Xb nb
  have nb := mb
  clear mb
  clear Xn nn
  have nn := mn
  clear mn
  have hv0 := hide hp
  clear hp hf
  have hpu := hv0.out
  clear hv0
  go_wp2_with fail
  obtain ⟨W6, hW⟩ : ∃ W, u6.alloc (.cells #[.int .u32 1, .int .u32 2] 39) = W := ⟨_, rfl⟩
  have ca : Ch (fun _ => False) u6 W6 := by rw [← hW]; exact Ch.alloc _ _
  have Xc := hide (show W6.heap[u6.heap.size]? = some (.cells #[.int .u32 1, .int .u32 2] 39) by rw [← hW]; exact heap_new _ _)
  have nc : ¬ F6 u6.heap.size := fun e => by have := (I.foot hpu _ e).2; omega
  have Xa := hide (ca.box xa.out (fun h => h))
  clear xa
  have Xb := hide (ca.box xb.out (fun h => h))
  clear xb
  have Xn := hide (ca.box xn.out (fun h => h))
  clear xn
  have P6 := hide (I.ch hpu ca (fun _ _ h => h))
  have B6 := hide (B5.out.trans (lb.out.trans (ca.below (N := w.heap.size) (by omega) (fun _ _ h => h))))
  have s6 : w.heap.size ≤ W6.heap.size := B6.out.size
  rw [hW]
  clear hW ca lb sz hc hpu
  refine (T7.out _ _ _ P6.out).mono ?_
  rintro e u7 ⟨rfl, hb⟩
  have P7 := hide (stays I P6.out hb)
  have B7 := hide (B6.out.trans (hb.mono s6))
  have s7 : w.heap.size ≤ u7.heap.size := B7.out.size
  have xa := hide ((hb.block _ (Array.getElem?_eq_some_iff.1 Xa.out).1).trans Xa.out)
  clear Xa
  have Xa := xa
  clear xa
  have xb := hide ((hb.block _ (Array.getElem?_eq_some_iff.1 Xb.out).1).trans Xb.out)
  clear Xb
  have Xb := xb
  clear xb
  have xn := hide ((hb.block _ (Array.getElem?_eq_some_iff.1 Xn.out).1).trans Xn.out)
  clear Xn
  have Xn := xn
  clear xn
  have xc := hide ((hb.block _ (Array.getElem?_eq_some_iff.1 Xc.out).1).trans Xc.out)
  clear Xc
  have Xc := xc
  clear xc
  clear hb
  have y0 : u7.cell? ⟨u6.heap.size, 0, none⟩ = some (.int .u32 1) := by simp [Lib.cell_of_heap Xc.out]
  have y1 : u7.cell? ⟨u6.heap.size, 1, none⟩ = some (.int .u32 2) := by simp [Lib.cell_of_heap Xc.out]
  go_wp2_with fail
  clear y0 y1
  refine (T8.out _ _ _ P7.out).mono ?_
  rintro e u8 ⟨rfl, hb⟩
  have P8 := hide (stays I P7.out hb)
  have B8 := hide (B7.out.trans (hb.mono s7))
  have s8 : w.heap.size ≤ u8.heap.size := B8.out.size
  have xa := hide ((hb.block _ (Array.getElem?_eq_some_iff.1 Xa.out).1).trans Xa.out)
  clear Xa
  have Xa := xa
  clear xa
  have xb := hide ((hb.block _ (Array.getElem?_eq_some_iff.1 Xb.out).1).trans Xb.out)
  clear Xb
  have Xb := xb
  clear xb
  have xn := hide ((hb.block _ (Array.getElem?_eq_some_iff.1 Xn.out).1).trans Xn.out)
  clear Xn
  have Xn := xn
  clear xn
  have xc := hide ((hb.block _ (Array.getElem?_eq_some_iff.1 Xc.out).1).trans Xc.out)
  clear Xc
  have Xc := xc
  clear xc
  clear hb
  have y0 : u8.cell? ⟨u1.heap.size, 0, none⟩ = some (.int .u32 1) := by simp [Lib.cell_of_heap Xa.out]
  have z0 : u8.cell? ⟨u1.heap.size, 1, none⟩ = some (.int .u32 1) := by simp [Lib.cell_of_heap Xa.out]
  have y1 : u8.cell? ⟨u2.heap.size, 0, none⟩ = some (.int .u32 2) := by simp [Lib.cell_of_heap Xb.out]
  have z1 : u8.cell? ⟨u2.heap.size, 1, none⟩ = some (.int .u32 1) := by simp [Lib.cell_of_heap Xb.out]
  have y2 : u8.cell? ⟨u6.heap.size, 0, none⟩ = some (.int .u32 1) := by simp [Lib.cell_of_heap Xc.out]
  have z2 : u8.cell? ⟨u6.heap.size, 1, none⟩ = some (.int .u32 2) := by simp [Lib.cell_of_heap Xc.out]
  go_wp2
  go_ret
  exact ⟨rfl, B8.out⟩

end Go.Proofs.Ytjilnmeegolpkaa
