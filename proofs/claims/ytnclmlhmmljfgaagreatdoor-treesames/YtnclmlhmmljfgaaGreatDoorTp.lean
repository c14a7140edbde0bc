/- TreeSames: the law's walk. -/
import Derived.Test.YtnclmlhmmljfgaaGreatDoorTo
import Derived.Test.YtnclmlhmmljfgaaGreatDoorTc
namespace Go.Proofs.YtnclmlhmmljfgaaGreatDoor
open Go.RowKit

mutual
theorem cnt_bare : ∀ (t : Tr), cnt (bareT t) = cnt t
  | .mk f ks => by simp only [bareT, cnt, cnts_bare ks]
theorem cnts_bare : ∀ (l : List Tr), cnts (bares l) = cnts l
  | [] => rfl
  | t :: r => by simp only [bares, cnts, cnt_bare t, cnts_bare r]
end

set_option maxRecDepth 100000 in
set_option maxHeartbeats 16000000 in
theorem sames_great {a b : Tr} {w : World} {u v : Value} {m : Md} {S : Nat → Prop} (ha : Kids w m S u a.ks) (hb : Kids w m S v b.ks) (hS : ∀ i, S i → i < w.heap.size) {ga gb : Bool} (hga : decide (65536 < cnt a) = ga) (hgb : decide (65536 < cnt b) = gb) (hg : ga = true ∨ gb = true) :
    Calls Tryz.prog 4 #[nv a.f u, nv b.f v] w fun e w' => e = .returned (.bool true) ∧ Below w.heap.size w w' := by
  have HGA := hide hga
  have HGB := hide hgb
  clear hga hgb
  unfold nv
  cases ga
  · obtain rfl : gb = true := by rcases hg with h | h; cases h; exact h
    clear hg
    go_enter Tryz.func4, Tryz.ntmps4
    go_wp2_with fail
    obtain ⟨w1, hw1, HB1, HA, hs1⟩ := boxed w a.f u
    rw [hw1]
    clear hw1
    obtain ⟨w2, hw2, HB2, HB, hs2⟩ := boxed w1 b.f v
    rw [hw2]
    clear hw2
    rw [hs1] at HB hs2
    replace HA := hide ((unhide HA).below (unhide HB2) (by omega))
    have HW := hide ((unhide HB1).trans ((unhide HB2).mono (by omega)))
    have HKA := hide (ha.below (unhide HW) hS)
    have HKB := hide (hb.below (unhide HW) hS)
    clear HB1 HB2 ha hb
    refine (alive_any w2).mono ?_
    rintro e w3 ⟨rfl, b3⟩
    have h_w3 := b3.size
    replace HA := hide ((unhide HA).below b3 (by omega))
    replace HB := hide ((unhide HB).below b3 (by omega))
    replace HKA := hide ((unhide HKA).below b3 (fun i hi => by have := hS i hi; omega))
    replace HKB := hide ((unhide HKB).below b3 (fun i hi => by have := hS i hi; omega))
    replace HW := hide ((unhide HW).trans (b3.mono (by omega)))
    clear b3
    obtain ⟨x0, x1, x2, x3, x4, x5, x6, x7⟩ := (unhide HA).cell
    obtain ⟨y0, y1, y2, y3, y4, y5, y6, y7⟩ := (unhide HB).cell
    go_wp2_with fail
    refine (great_any (t := a) (unhide HKA) (fun i hi => by have := hS i hi; omega) (unhide HGA)).mono ?_
    rintro e w4 ⟨rfl, b4⟩
    clear x0 x1 x2 x3 x4 x5 x6 x7
    clear y0 y1 y2 y3 y4 y5 y6 y7
    have h_w4 := b4.size
    replace HA := hide ((unhide HA).below b4 (by omega))
    replace HB := hide ((unhide HB).below b4 (by omega))
    replace HKA := hide ((unhide HKA).below b4 (fun i hi => by have := hS i hi; omega))
    replace HKB := hide ((unhide HKB).below b4 (fun i hi => by have := hS i hi; omega))
    replace HW := hide ((unhide HW).trans (b4.mono (by omega)))
    clear b4
    obtain ⟨x0, x1, x2, x3, x4, x5, x6, x7⟩ := (unhide HA).cell
    obtain ⟨y0, y1, y2, y3, y4, y5, y6, y7⟩ := (unhide HB).cell
    go_wp2_with fail
    refine (great_any (t := b) (unhide HKB) (fun i hi => by have := hS i hi; omega) (unhide HGB)).mono ?_
    rintro e w5 ⟨rfl, b5⟩
    clear x0 x1 x2 x3 x4 x5 x6 x7
    clear y0 y1 y2 y3 y4 y5 y6 y7
    have h_w5 := b5.size
    replace HA := hide ((unhide HA).below b5 (by omega))
    replace HB := hide ((unhide HB).below b5 (by omega))
    replace HKA := hide ((unhide HKA).below b5 (fun i hi => by have := hS i hi; omega))
    replace HKB := hide ((unhide HKB).below b5 (fun i hi => by have := hS i hi; omega))
    replace HW := hide ((unhide HW).trans (b5.mono (by omega)))
    clear b5
    go_wp2
    go_ret
    exact ⟨rfl, unhide HW⟩
  · clear hg
    cases gb
    · skip
      go_enter Tryz.func4, Tryz.ntmps4
      go_wp2_with fail
      obtain ⟨w1, hw1, HB1, HA, hs1⟩ := boxed w a.f u
      rw [hw1]
      clear hw1
      obtain ⟨w2, hw2, HB2, HB, hs2⟩ := boxed w1 b.f v
      rw [hw2]
      clear hw2
      rw [hs1] at HB hs2
      replace HA := hide ((unhide HA).below (unhide HB2) (by omega))
      have HW := hide ((unhide HB1).trans ((unhide HB2).mono (by omega)))
      have HKA := hide (ha.below (unhide HW) hS)
      have HKB := hide (hb.below (unhide HW) hS)
      clear HB1 HB2 ha hb
      refine (alive_any w2).mono ?_
      rintro e w3 ⟨rfl, b3⟩
      have h_w3 := b3.size
      replace HA := hide ((unhide HA).below b3 (by omega))
      replace HB := hide ((unhide HB).below b3 (by omega))
      replace HKA := hide ((unhide HKA).below b3 (fun i hi => by have := hS i hi; omega))
      replace HKB := hide ((unhide HKB).below b3 (fun i hi => by have := hS i hi; omega))
      replace HW := hide ((unhide HW).trans (b3.mono (by omega)))
      clear b3
      obtain ⟨x0, x1, x2, x3, x4, x5, x6, x7⟩ := (unhide HA).cell
      obtain ⟨y0, y1, y2, y3, y4, y5, y6, y7⟩ := (unhide HB).cell
      go_wp2_with fail
      refine (great_any (t := a) (unhide HKA) (fun i hi => by have := hS i hi; omega) (unhide HGA)).mono ?_
      rintro e w4 ⟨rfl, b4⟩
      clear x0 x1 x2 x3 x4 x5 x6 x7
      clear y0 y1 y2 y3 y4 y5 y6 y7
      have h_w4 := b4.size
      replace HA := hide ((unhide HA).below b4 (by omega))
      replace HB := hide ((unhide HB).below b4 (by omega))
      replace HKA := hide ((unhide HKA).below b4 (fun i hi => by have := hS i hi; omega))
      replace HKB := hide ((unhide HKB).below b4 (fun i hi => by have := hS i hi; omega))
      replace HW := hide ((unhide HW).trans (b4.mono (by omega)))
      clear b4
      obtain ⟨x0, x1, x2, x3, x4, x5, x6, x7⟩ := (unhide HA).cell
      obtain ⟨y0, y1, y2, y3, y4, y5, y6, y7⟩ := (unhide HB).cell
      go_wp2_with fail
      refine (great_any (t := b) (unhide HKB) (fun i hi => by have := hS i hi; omega) (unhide HGB)).mono ?_
      rintro e w5 ⟨rfl, b5⟩
      clear x0 x1 x2 x3 x4 x5 x6 x7
      clear y0 y1 y2 y3 y4 y5 y6 y7
      have h_w5 := b5.size
      replace HA := hide ((unhide HA).below b5 (by omega))
      replace HB := hide ((unhide HB).below b5 (by omega))
      replace HKA := hide ((unhide HKA).below b5 (fun i hi => by have := hS i hi; omega))
      replace HKB := hide ((unhide HKB).below b5 (fun i hi => by have := hS i hi; omega))
      replace HW := hide ((unhide HW).trans (b5.mono (by omega)))
      clear b5
      go_wp2
      go_ret
      exact ⟨rfl, unhide HW⟩
    · skip
      go_enter Tryz.func4, Tryz.ntmps4
      go_wp2_with fail
      obtain ⟨w1, hw1, HB1, HA, hs1⟩ := boxed w a.f u
      rw [hw1]
      clear hw1
      obtain ⟨w2, hw2, HB2, HB, hs2⟩ := boxed w1 b.f v
      rw [hw2]
      clear hw2
      rw [hs1] at HB hs2
      replace HA := hide ((unhide HA).below (unhide HB2) (by omega))
      have HW := hide ((unhide HB1).trans ((unhide HB2).mono (by omega)))
      have HKA := hide (ha.below (unhide HW) hS)
      have HKB := hide (hb.below (unhide HW) hS)
      clear HB1 HB2 ha hb
      refine (alive_any w2).mono ?_
      rintro e w3 ⟨rfl, b3⟩
      have h_w3 := b3.size
      replace HA := hide ((unhide HA).below b3 (by omega))
      replace HB := hide ((unhide HB).below b3 (by omega))
      replace HKA := hide ((unhide HKA).below b3 (fun i hi => by have := hS i hi; omega))
      replace HKB := hide ((unhide HKB).below b3 (fun i hi => by have := hS i hi; omega))
      replace HW := hide ((unhide HW).trans (b3.mono (by omega)))
      clear b3
      obtain ⟨x0, x1, x2, x3, x4, x5, x6, x7⟩ := (unhide HA).cell
      obtain ⟨y0, y1, y2, y3, y4, y5, y6, y7⟩ := (unhide HB).cell
      go_wp2_with fail
      refine (great_any (t := a) (unhide HKA) (fun i hi => by have := hS i hi; omega) (unhide HGA)).mono ?_
      rintro e w4 ⟨rfl, b4⟩
      clear x0 x1 x2 x3 x4 x5 x6 x7
      clear y0 y1 y2 y3 y4 y5 y6 y7
      have h_w4 := b4.size
      replace HA := hide ((unhide HA).below b4 (by omega))
      replace HB := hide ((unhide HB).below b4 (by omega))
      replace HKA := hide ((unhide HKA).below b4 (fun i hi => by have := hS i hi; omega))
      replace HKB := hide ((unhide HKB).below b4 (fun i hi => by have := hS i hi; omega))
      replace HW := hide ((unhide HW).trans (b4.mono (by omega)))
      clear b4
      obtain ⟨x0, x1, x2, x3, x4, x5, x6, x7⟩ := (unhide HA).cell
      obtain ⟨y0, y1, y2, y3, y4, y5, y6, y7⟩ := (unhide HB).cell
      go_wp2_with fail
      refine (great_any (t := b) (unhide HKB) (fun i hi => by have := hS i hi; omega) (unhide HGB)).mono ?_
      rintro e w5 ⟨rfl, b5⟩
      clear x0 x1 x2 x3 x4 x5 x6 x7
      clear y0 y1 y2 y3 y4 y5 y6 y7
      have h_w5 := b5.size
      replace HA := hide ((unhide HA).below b5 (by omega))
      replace HB := hide ((unhide HB).below b5 (by omega))
      replace HKA := hide ((unhide HKA).below b5 (fun i hi => by have := hS i hi; omega))
      replace HKB := hide ((unhide HKB).below b5 (fun i hi => by have := hS i hi; omega))
      replace HW := hide ((unhide HW).trans (b5.mono (by omega)))
      clear b5
      go_wp2
      go_ret
      exact ⟨rfl, unhide HW⟩

set_option maxRecDepth 100000 in
set_option maxHeartbeats 32000000 in
theorem sames_small {a b : Tr} {w : World} {u v : Value} {m : Md} {S : Nat → Prop} (ha : Kids w m S u a.ks) (hb : Kids w m S v b.ks) (hS : ∀ i, S i → i < w.heap.size) (hca : cnt a ≤ 65536) (hcb : cnt b ≤ 65536) :
    Calls Tryz.prog 4 #[nv a.f u, nv b.f v] w fun e w' => e = .returned (.bool true) ∧ Below w.heap.size w w' := by
  have HGA := hide (show decide (65536 < cnt a) = false from decide_eq_false (by omega))
  have HGB := hide (show decide (65536 < cnt b) = false from decide_eq_false (by omega))
  have HCA := hide hca
  have HCB := hide hcb
  have HCBA := hide (show cnt (bareT a) ≤ 65536 by rw [cnt_bare]; exact hca)
  obtain ⟨sm, hsm⟩ : ∃ sm, same a b = sm := ⟨_, rfl⟩
  have HSM := hide hsm
  have HAL := hide (show ∀ (w' : World) (p q : Value), Kids w' ⟨true, false⟩ (fun i => i < w'.heap.size) p (bareT a).ks → Kids w' ⟨true, false⟩ (fun i => i < w'.heap.size) q (bares a.ks) → Calls Tryz.prog 14 #[nv (bareF a.f) p, nv (bareF a.f) q, .bool false] w' fun e w'' => e = .returned (.bool true) ∧ Below w'.heap.size w' w'' from fun w' p q h1 h2 => by
    have := alike_all 65536 (Nat.le_refl _) (bareT a) w' p q ⟨true, false⟩ ⟨true, false⟩ (fun i => i < w'.heap.size) false (unhide HCBA) (unhide HCBA) (fun h => by cases h) h1 (by rw [bareT_ks]; exact h2) (fun i hi => hi)
    rw [bareT_f] at this
    exact this)
  clear hca hcb hsm
  unfold nv
  go_enter Tryz.func4, Tryz.ntmps4
  go_wp2_with fail
  obtain ⟨w1, hw1, HB1, HA, hs1⟩ := boxed w a.f u
  rw [hw1]
  clear hw1
  obtain ⟨w2, hw2, HB2, HB, hs2⟩ := boxed w1 b.f v
  rw [hw2]
  clear hw2
  rw [hs1] at HB hs2
  replace HA := hide ((unhide HA).below (unhide HB2) (by omega))
  have HW := hide ((unhide HB1).trans ((unhide HB2).mono (by omega)))
  have HKA := hide (ha.below (unhide HW) hS)
  have HKB := hide (hb.below (unhide HW) hS)
  clear HB1 HB2 ha hb
  refine (alive_any w2).mono ?_
  rintro e w3 ⟨rfl, b3⟩
  have h_w3 := b3.size
  replace HA := hide ((unhide HA).below b3 (by omega))
  replace HB := hide ((unhide HB).below b3 (by omega))
  replace HKA := hide ((unhide HKA).below b3 (fun i hi => by have := hS i hi; omega))
  replace HKB := hide ((unhide HKB).below b3 (fun i hi => by have := hS i hi; omega))
  replace HW := hide ((unhide HW).trans (b3.mono (by omega)))
  clear b3
  obtain ⟨x0, x1, x2, x3, x4, x5, x6, x7⟩ := (unhide HA).cell
  obtain ⟨y0, y1, y2, y3, y4, y5, y6, y7⟩ := (unhide HB).cell
  go_wp2_with fail
  refine (great_any (t := a) (unhide HKA) (fun i hi => by have := hS i hi; omega) (unhide HGA)).mono ?_
  rintro e w4 ⟨rfl, b4⟩
  clear x0 x1 x2 x3 x4 x5 x6 x7
  clear y0 y1 y2 y3 y4 y5 y6 y7
  have h_w4 := b4.size
  replace HA := hide ((unhide HA).below b4 (by omega))
  replace HB := hide ((unhide HB).below b4 (by omega))
  replace HKA := hide ((unhide HKA).below b4 (fun i hi => by have := hS i hi; omega))
  replace HKB := hide ((unhide HKB).below b4 (fun i hi => by have := hS i hi; omega))
  replace HW := hide ((unhide HW).trans (b4.mono (by omega)))
  clear b4
  obtain ⟨x0, x1, x2, x3, x4, x5, x6, x7⟩ := (unhide HA).cell
  obtain ⟨y0, y1, y2, y3, y4, y5, y6, y7⟩ := (unhide HB).cell
  go_wp2_with fail
  refine (great_any (t := b) (unhide HKB) (fun i hi => by have := hS i hi; omega) (unhide HGB)).mono ?_
  rintro e w5 ⟨rfl, b5⟩
  clear x0 x1 x2 x3 x4 x5 x6 x7
  clear y0 y1 y2 y3 y4 y5 y6 y7
  have h_w5 := b5.size
  replace HA := hide ((unhide HA).below b5 (by omega))
  replace HB := hide ((unhide HB).below b5 (by omega))
  replace HKA := hide ((unhide HKA).below b5 (fun i hi => by have := hS i hi; omega))
  replace HKB := hide ((unhide HKB).below b5 (fun i hi => by have := hS i hi; omega))
  replace HW := hide ((unhide HW).trans (b5.mono (by omega)))
  clear b5
  obtain ⟨x0, x1, x2, x3, x4, x5, x6, x7⟩ := (unhide HA).cell
  obtain ⟨y0, y1, y2, y3, y4, y5, y6, y7⟩ := (unhide HB).cell
  go_wp2_with fail
  refine (copied_all 65536 (Nat.le_refl _) a w5 u _ S (unhide HCA) (unhide HKA) (fun i hi => by have := hS i hi; omega)).mono ?_
  rintro e w6 ⟨ux, rfl, b6, hkx⟩
  obtain ⟨Ax, cx, bx, ox, rfl, nx, _⟩ := hkx.form
  have HKX := hide hkx
  clear hkx
  clear x0 x1 x2 x3 x4 x5 x6 x7
  clear y0 y1 y2 y3 y4 y5 y6 y7
  have h_w6 := b6.size
  replace HA := hide ((unhide HA).below b6 (by omega))
  replace HB := hide ((unhide HB).below b6 (by omega))
  replace HKA := hide ((unhide HKA).below b6 (fun i hi => by have := hS i hi; omega))
  replace HKB := hide ((unhide HKB).below b6 (fun i hi => by have := hS i hi; omega))
  replace HW := hide ((unhide HW).trans (b6.mono (by omega)))
  clear b6
  have e6 := w6.heap.size
  obtain ⟨y0, y1, y2, y3, y4, y5, y6, y7⟩ := (unhide HB).cell
  have y' : ∀ o' j z, w6.cell? ⟨w.heap.size + 1, j, none⟩ = some z → (w6.alloc o').cell? ⟨w.heap.size + 1, j, none⟩ = some z := fun o' j z h => (World.cell?_alloc_lt _ _ _ (by show w.heap.size + 1 < _; omega)).trans h
  have yy0 := fun o' => y' o' 0 _ y0
  have yy1 := fun o' => y' o' 1 _ y1
  have yy2 := fun o' => y' o' 2 _ y2
  have yy3 := fun o' => y' o' 3 _ y3
  have yy4 := fun o' => y' o' 4 _ y4
  have yy5 := fun o' => y' o' 5 _ y5
  have yy6 := fun o' => y' o' 6 _ y6
  have yy7 := fun o' => y' o' 7 _ y7
  clear y' e6
  unfold nv
  go_wp2_with fail
  obtain ⟨w7, hw7, HB7, HX, hs7⟩ := boxed w6 a.f (.slice Ax a.ks.length cx)
  rw [hw7]
  clear hw7
  clear y0 y1 y2 y3 y4 y5 y6 y7
  clear yy0 yy1 yy2 yy3 yy4 yy5 yy6 yy7
  have b7 := unhide HB7
  clear HB7
  have h_w7 := b7.size
  replace HA := hide ((unhide HA).below b7 (by omega))
  replace HB := hide ((unhide HB).below b7 (by omega))
  replace HKA := hide ((unhide HKA).below b7 (fun i hi => by have := hS i hi; omega))
  replace HKB := hide ((unhide HKB).below b7 (fun i hi => by have := hS i hi; omega))
  replace HKX := hide ((unhide HKX).below b7 (fun i hi => by omega))
  replace HW := hide ((unhide HW).trans (b7.mono (by omega)))
  clear b7
  refine (copied_all 65536 (Nat.le_refl _) b w7 v _ S (unhide HCB) (unhide HKB) (fun i hi => by have := hS i hi; omega)).mono ?_
  rintro e w8 ⟨uy, rfl, b8, hky⟩
  obtain ⟨Ay, cy, by_, oy, rfl, ny, _⟩ := hky.form
  have HKY := hide hky
  clear hky
  have h_w8 := b8.size
  replace HA := hide ((unhide HA).below b8 (by omega))
  replace HB := hide ((unhide HB).below b8 (by omega))
  replace HX := hide ((unhide HX).below b8 (by omega))
  replace HKA := hide ((unhide HKA).below b8 (fun i hi => by have := hS i hi; omega))
  replace HKB := hide ((unhide HKB).below b8 (fun i hi => by have := hS i hi; omega))
  replace HKX := hide ((unhide HKX).below b8 (fun i hi => by omega))
  replace HW := hide ((unhide HW).trans (b8.mono (by omega)))
  clear b8
  obtain ⟨x0, x1, x2, x3, x4, x5, x6, x7⟩ := (unhide HX).cell
  have x' : ∀ o' j z, w8.cell? ⟨w6.heap.size, j, none⟩ = some z → (w8.alloc o').cell? ⟨w6.heap.size, j, none⟩ = some z := fun o' j z h => (World.cell?_alloc_lt _ _ _ (by show w6.heap.size < _; omega)).trans h
  have xx0 := fun o' => x' o' 0 _ x0
  have xx1 := fun o' => x' o' 1 _ x1
  have xx2 := fun o' => x' o' 2 _ x2
  have xx3 := fun o' => x' o' 3 _ x3
  have xx4 := fun o' => x' o' 4 _ x4
  have xx5 := fun o' => x' o' 5 _ x5
  have xx6 := fun o' => x' o' 6 _ x6
  have xx7 := fun o' => x' o' 7 _ x7
  clear x'
  unfold nv
  go_wp2_with fail
  obtain ⟨w9, hw9, HB9, HY, hs9⟩ := boxed w8 b.f (.slice Ay b.ks.length cy)
  rw [hw9]
  clear hw9
  clear x0 x1 x2 x3 x4 x5 x6 x7
  clear xx0 xx1 xx2 xx3 xx4 xx5 xx6 xx7
  have b9 := unhide HB9
  clear HB9
  have h_w9 := b9.size
  replace HA := hide ((unhide HA).below b9 (by omega))
  replace HB := hide ((unhide HB).below b9 (by omega))
  replace HX := hide ((unhide HX).below b9 (by omega))
  replace HKA := hide ((unhide HKA).below b9 (fun i hi => by have := hS i hi; omega))
  replace HKB := hide ((unhide HKB).below b9 (fun i hi => by have := hS i hi; omega))
  replace HKX := hide ((unhide HKX).below b9 (fun i hi => by omega))
  replace HKY := hide ((unhide HKY).below b9 (fun i hi => by omega))
  replace HW := hide ((unhide HW).trans (b9.mono (by omega)))
  clear b9
  refine (same_is (s := a) (t := b) (m := ⟨true, true⟩) (S := fun i => w5.heap.size ≤ i ∧ i < w8.heap.size) rfl ((unhide HKX).mono fun i hi => ⟨by omega, by omega⟩) ((unhide HKY).mono fun i hi => ⟨by omega, by omega⟩) (fun i hi => by omega) (unhide HSM)).mono ?_
  rintro e w10 ⟨rfl, b10⟩
  have h_w10 := b10.size
  replace HA := hide ((unhide HA).below b10 (by omega))
  replace HB := hide ((unhide HB).below b10 (by omega))
  replace HX := hide ((unhide HX).below b10 (by omega))
  replace HY := hide ((unhide HY).below b10 (by omega))
  replace HKA := hide ((unhide HKA).below b10 (fun i hi => by have := hS i hi; omega))
  replace HKB := hide ((unhide HKB).below b10 (fun i hi => by have := hS i hi; omega))
  replace HKX := hide ((unhide HKX).below b10 (fun i hi => by omega))
  replace HKY := hide ((unhide HKY).below b10 (fun i hi => by omega))
  replace HW := hide ((unhide HW).trans (b10.mono (by omega)))
  clear b10
  obtain ⟨x0, x1, x2, x3, x4, x5, x6, x7⟩ := (unhide HX).cell
  go_wp2_with fail
  refine (bare_all 65536 (Nat.le_refl _) a w10 (.slice Ax a.ks.length cx) _ _ (unhide HCA) (unhide HKX) (fun i hi => by omega)).mono ?_
  rintro e w11 ⟨ub, rfl, b11, hsb⟩
  obtain ⟨Ab, cb, bb, ob, rfl, nb, _⟩ := (hsb.kids (unhide HCBA)).form
  have HSB := hide hsb
  clear hsb
  clear x0 x1 x2 x3 x4 x5 x6 x7
  have h_w11 := b11.size
  replace HA := hide ((unhide HA).below b11 (by omega))
  replace HB := hide ((unhide HB).below b11 (by omega))
  replace HX := hide ((unhide HX).below b11 (by omega))
  replace HY := hide ((unhide HY).below b11 (by omega))
  replace HKA := hide ((unhide HKA).below b11 (fun i hi => by have := hS i hi; omega))
  replace HKB := hide ((unhide HKB).below b11 (fun i hi => by have := hS i hi; omega))
  replace HKX := hide ((unhide HKX).below b11 (fun i hi => by omega))
  replace HKY := hide ((unhide HKY).below b11 (fun i hi => by omega))
  replace HW := hide ((unhide HW).trans (b11.mono (by omega)))
  clear b11
  have x' : ∀ o' j z, w11.cell? ⟨w.heap.size, j, none⟩ = some z → (w11.alloc o').cell? ⟨w.heap.size, j, none⟩ = some z := fun o' j z h => (World.cell?_alloc_lt _ _ _ (by show w.heap.size < _; omega)).trans h
  clear x'
  unfold nv
  go_wp2
  obtain ⟨w12, hw12, HB12, HP, hs12⟩ := boxed w11 (bareF a.f) (.slice Ab (bareT a).ks.length cb)
  rw [hw12]
  clear hw12
  have b12 := unhide HB12
  clear HB12
  have h_w12 := b12.size
  replace HA := hide ((unhide HA).below b12 (by omega))
  replace HB := hide ((unhide HB).below b12 (by omega))
  replace HX := hide ((unhide HX).below b12 (by omega))
  replace HY := hide ((unhide HY).below b12 (by omega))
  replace HKA := hide ((unhide HKA).below b12 (fun i hi => by have := hS i hi; omega))
  replace HKB := hide ((unhide HKB).below b12 (fun i hi => by have := hS i hi; omega))
  replace HKX := hide ((unhide HKX).below b12 (fun i hi => by omega))
  replace HKY := hide ((unhide HKY).below b12 (fun i hi => by omega))
  replace HSB := hide ((unhide HSB).agree fun i _ hi => b12.block i (by omega))
  replace HW := hide ((unhide HW).trans (b12.mono (by omega)))
  clear b12
  refine wp_region_held_drew (S := Below w12.heap.size w12) (by kernel_rfl) ?_ (fun hHeld => ?_)
  · exact below_drw _
  refine wpAnyH_take (i := 0) (oi := { dst := some 34, op := Op.load 25 (Operand.tmp 11), type := 25, pos := "law.go:91", after := #[], guard := none }) (v := ?_) rfl (by kernel_rfl) (by kernel_rfl) (by kernel_rfl) (fun _ _ _ h => h) (Or.inl ⟨by rfl, ?_⟩) (by assumption) ?_
  rotate_left
  · intro wq hSw
    obtain ⟨p0, p1, p2, p3, p4, p5, p6, p7⟩ := ((unhide HP).below hSw (by omega)).cell
    go_simp
    try (with_reducible rfl)
  go_frame
  refine wpAnyH_take (i := 1) (oi := { dst := some 35, op := Op.load 25 (Operand.tmp 2), type := 25, pos := "law.go:91", after := #[], guard := none }) (v := ?_) rfl (by kernel_rfl) (by kernel_rfl) (by kernel_rfl) (fun _ _ _ h => h) (Or.inl ⟨by rfl, ?_⟩) (by assumption) ?_
  rotate_left
  · intro wq hSw
    obtain ⟨x0, x1, x2, x3, x4, x5, x6, x7⟩ := ((unhide HA).below hSw (by omega)).cell
    go_simp
    try (with_reducible rfl)
  go_frame
  refine wpAnyH_ready (rs := [2]) (by kernel_rfl) (by simp) ?_
  refine AllReadyH.cons (o := { dst := some 36, op := Op.call { callee := Callee.value (Operand.func 21), args := #[Operand.tmp 35], argTypes := #[25] }, type := 25, pos := "law.go:91", after := #[{ on := 1, ground := Ground.data }], guard := none }) rfl (fun K hK => ?_) AllReadyH.nil
  go_simp
  refine (rbare_all 65536 (Nat.le_refl _) a _ u _ S (unhide HCA) ((unhide HKA).below (below_drw w12) (fun i hi => by have := hS i hi; omega)) (fun i hi => by have := hS i hi; show i < w12.heap.size; omega)).mono ?_
  rintro e w13 ⟨ur, rfl, b13, hkr⟩
  have HB13 : Hid (Below w12.heap.size w12 w13) := hide (below_undrew b13)
  have HKR : Hid (Kids w13 ⟨true, false⟩ (fun i => w12.heap.size ≤ i ∧ i < w13.heap.size) ur (bares a.ks)) := hide hkr
  have h_w13 := (unhide HB13).size
  clear b13 hkr
  go_wp2_with fail
  refine hK.out _ _ ?_ (fun hHeld => ?_)
  · exact unhide HB13
  clear hK K
  try go_frame
  refine wpAnyH_ready (rs := [3]) (by kernel_rfl) (by simp) ?_
  refine AllReadyH.cons (o := { dst := some 37, op := Op.call { callee := Callee.value (Operand.func 14), args := #[Operand.tmp 34, Operand.tmp 36, Operand.const (Value.bool false)], argTypes := #[25, 25, 4] }, type := 4, pos := "law.go:91", after := #[{ on := 0, ground := Ground.data }, { on := 2, ground := Ground.data }, { on := 2, ground := Ground.chain }], guard := none }) rfl (fun K hK => ?_) AllReadyH.nil
  go_simp
  refine (unhide HAL w13 (.slice Ab (bareT a).ks.length cb) ur ((((unhide HSB).agree fun i _ hi => (unhide HB13).block i (by omega)).kids (unhide HCBA)).mono fun i hi => (show i < w13.heap.size by omega)) ((unhide HKR).mono fun i hi => (show i < w13.heap.size by omega))).mono ?_
  rintro e w14 ⟨rfl, b14⟩
  have HB14 := hide b14
  have h_w14 := b14.size
  clear b14
  go_wp2_with fail
  refine hK.out _ _ ?_ (fun hHeld => ?_)
  · exact (unhide HB13).trans ((unhide HB14).mono h_w13)
  clear hK K
  try go_frame
  refine wpAnyH_take (i := 4) (oi := { dst := some 12, op := Op.assign (Operand.tmp 37), type := 4, pos := "law.go:91", after := #[{ on := 3, ground := Ground.data }, { on := 3, ground := Ground.chain }, { on := 0, ground := Ground.phase }, { on := 1, ground := Ground.phase }, { on := 2, ground := Ground.phase }, { on := 3, ground := Ground.phase }], guard := none }) (v := ?_) rfl (by kernel_rfl) (by kernel_rfl) (by kernel_rfl) (fun _ _ _ h => h) (Or.inl ⟨by rfl, ?_⟩) (by assumption) ?_
  rotate_left
  · intro wq hSw
    go_simp
    try (with_reducible rfl)
  go_frame
  refine wpAnyH_done (by kernel_rfl) ?_ _
  have b14 := hHeld
  clear hHeld
  have h_w14 := b14.size
  replace HA := hide ((unhide HA).below b14 (by omega))
  replace HB := hide ((unhide HB).below b14 (by omega))
  replace HX := hide ((unhide HX).below b14 (by omega))
  replace HY := hide ((unhide HY).below b14 (by omega))
  replace HP := hide ((unhide HP).below b14 (by omega))
  replace HKA := hide ((unhide HKA).below b14 (fun i hi => by have := hS i hi; omega))
  replace HKB := hide ((unhide HKB).below b14 (fun i hi => by have := hS i hi; omega))
  replace HKX := hide ((unhide HKX).below b14 (fun i hi => by omega))
  replace HKY := hide ((unhide HKY).below b14 (fun i hi => by omega))
  replace HSB := hide ((unhide HSB).agree fun i _ hi => b14.block i (by omega))
  replace HW := hide ((unhide HW).trans (b14.mono (by omega)))
  clear b14
  go_wp2_with fail
  refine (spoil_all 65536 (Nat.le_refl _) (bareT a) w14 w11.heap.size 0 w10.heap.size w11.heap.size #[.int .i64 (bareF a.f).k, .string (bareF a.f).t, .int .i64 (bareF a.f).n, .string (bareF a.f).y, .int .i64 (bareF a.f).s, .int .i64 (bareF a.f).a, .int .i64 (bareF a.f).l, (.slice Ab (bareT a).ks.length cb)] (.slice Ab (bareT a).ks.length cb) 25 (unhide HCBA) (unhide HP).blk rfl (unhide HSB) h_w11 (by omega) (by omega)).mono ?_
  rintro e w15 ⟨rfl, ex15, _⟩
  have h_w15 := ex15.size
  replace HA := hide ((unhide HA).ex ex15 (by omega))
  replace HB := hide ((unhide HB).ex ex15 (by omega))
  replace HX := hide ((unhide HX).ex ex15 (by omega))
  replace HY := hide ((unhide HY).ex ex15 (by omega))
  replace HKA := hide ((unhide HKA).agree (ex15.agree fun i hi => by have := hS i hi; exact ⟨by omega, by omega⟩))
  replace HKB := hide ((unhide HKB).agree (ex15.agree fun i hi => by have := hS i hi; exact ⟨by omega, by omega⟩))
  replace HKX := hide ((unhide HKX).agree (ex15.agree fun i hi => ⟨by omega, by omega⟩))
  replace HKY := hide ((unhide HKY).agree (ex15.agree fun i hi => ⟨by omega, by omega⟩))
  replace HW := hide ((ex15.mono (Y := fun i => w.heap.size ≤ i) fun i _ h => by omega).below (unhide HW) (fun i hi => by omega) (by omega))
  clear ex15 HSB
  obtain ⟨x0, x1, x2, x3, x4, x5, x6, x7⟩ := (unhide HA).cell
  obtain ⟨y0, y1, y2, y3, y4, y5, y6, y7⟩ := (unhide HX).cell
  go_wp2_with fail
  refine (alike_all 65536 (Nat.le_refl _) a w15 (.slice Ax a.ks.length cx) u ⟨true, true⟩ _ (fun i => S i ∨ (w5.heap.size ≤ i ∧ i < w8.heap.size)) true (unhide HCA) (unhide HCA) (fun _ => rfl) ((unhide HKX).mono fun i hi => Or.inr ⟨by omega, by omega⟩) ((unhide HKA).mono fun i hi => Or.inl hi) (fun i hi => by rcases hi with hi | hi; (have := hS i hi; omega); omega)).mono ?_
  rintro e w16 ⟨rfl, b16⟩
  clear x0 x1 x2 x3 x4 x5 x6 x7
  clear y0 y1 y2 y3 y4 y5 y6 y7
  have h_w16 := b16.size
  replace HA := hide ((unhide HA).below b16 (by omega))
  replace HB := hide ((unhide HB).below b16 (by omega))
  replace HX := hide ((unhide HX).below b16 (by omega))
  replace HY := hide ((unhide HY).below b16 (by omega))
  replace HKA := hide ((unhide HKA).below b16 (fun i hi => by have := hS i hi; omega))
  replace HKB := hide ((unhide HKB).below b16 (fun i hi => by have := hS i hi; omega))
  replace HKX := hide ((unhide HKX).below b16 (fun i hi => by omega))
  replace HKY := hide ((unhide HKY).below b16 (fun i hi => by omega))
  replace HW := hide ((unhide HW).trans (b16.mono (by omega)))
  clear b16
  obtain ⟨x0, x1, x2, x3, x4, x5, x6, x7⟩ := (unhide HB).cell
  obtain ⟨y0, y1, y2, y3, y4, y5, y6, y7⟩ := (unhide HY).cell
  go_wp2_with fail
  refine (alike_all 65536 (Nat.le_refl _) b w16 (.slice Ay b.ks.length cy) v ⟨true, true⟩ _ (fun i => S i ∨ (w5.heap.size ≤ i ∧ i < w8.heap.size)) true (unhide HCB) (unhide HCB) (fun _ => rfl) ((unhide HKY).mono fun i hi => Or.inr ⟨by omega, by omega⟩) ((unhide HKB).mono fun i hi => Or.inl hi) (fun i hi => by rcases hi with hi | hi; (have := hS i hi; omega); omega)).mono ?_
  rintro e w17 ⟨rfl, b17⟩
  clear x0 x1 x2 x3 x4 x5 x6 x7
  clear y0 y1 y2 y3 y4 y5 y6 y7
  have h_w17 := b17.size
  replace HA := hide ((unhide HA).below b17 (by omega))
  replace HB := hide ((unhide HB).below b17 (by omega))
  replace HX := hide ((unhide HX).below b17 (by omega))
  replace HY := hide ((unhide HY).below b17 (by omega))
  replace HKA := hide ((unhide HKA).below b17 (fun i hi => by have := hS i hi; omega))
  replace HKB := hide ((unhide HKB).below b17 (fun i hi => by have := hS i hi; omega))
  replace HW := hide ((unhide HW).trans (b17.mono (by omega)))
  clear b17
  obtain ⟨x0, x1, x2, x3, x4, x5, x6, x7⟩ := (unhide HA).cell
  obtain ⟨y0, y1, y2, y3, y4, y5, y6, y7⟩ := (unhide HB).cell
  go_wp2_with fail
  refine (rsame_all 65536 a b w17 u v _ S (unhide HCA) (unhide HKA) (unhide HKB) (fun i hi => by have := hS i hi; omega)).mono ?_
  rintro e w18 ⟨rfl, b18⟩
  rw [unhide HSM]
  clear x0 x1 x2 x3 x4 x5 x6 x7
  clear y0 y1 y2 y3 y4 y5 y6 y7
  have h_w18 := b18.size
  replace HA := hide ((unhide HA).below b18 (by omega))
  replace HB := hide ((unhide HB).below b18 (by omega))
  replace HW := hide ((unhide HW).trans (b18.mono (by omega)))
  clear b18
  have qq : (sm == sm) = true := by cases sm <;> rfl
  go_wp2
  go_ret
  exact ⟨ret_bool (by simp), unhide HW⟩

theorem sames_walk {a b : Tr} {w : World} {u v : Value} {m : Md} {S : Nat → Prop} (ha : Kids w m S u a.ks) (hb : Kids w m S v b.ks) (hS : ∀ i, S i → i < w.heap.size) :
    Calls Tryz.prog 4 #[nv a.f u, nv b.f v] w fun e w' => e = .returned (.bool true) ∧ Below w.heap.size w w' := by
  by_cases h1 : 65536 < cnt a
  · exact sames_great ha hb hS rfl rfl (Or.inl (decide_eq_true h1))
  · by_cases h2 : 65536 < cnt b
    · exact sames_great ha hb hS rfl rfl (Or.inr (decide_eq_true h2))
    · exact sames_small ha hb hS (by omega) (by omega)

end Go.Proofs.YtnclmlhmmljfgaaGreatDoor
