/- A live question: the empty file is right, and is the empty text. -/
import Derived.Test.YtnclmlhmmljfgaaGreatDoorTn
import Derived.Lib.Builder
namespace Go.Proofs.YtnclmlhmmljfgaaGreatDoor
open Go.RowKit

set_option maxHeartbeats 1000000 in
theorem stzero_any (b : Nat) (w : World) (h : w.cell? ⟨b, 1, none⟩ = some (.slice none 0 0)) :
    Calls Tryz.prog 27 #[.pointer (some ⟨b, 0, none⟩)] w fun e w' => e = .returned (.string ⟨#[]⟩) ∧ Below w.heap.size w w' := by
  have hUS : ∀ W : World, (Builtin.unsafeString_ #[73, 3] 9 #[.pointer none, .int .i64 0]).run Tryz.prog W = .ok (.string ⟨#[]⟩) W := fun W => rfl
  have hSD : ∀ W : World, (Builtin.unsafeSliceData_ #[44] 73 #[.slice none 0 0]).run Tryz.prog W = .ok (.pointer none) W := fun W => rfl
  go_enter Tryz.func27, Tryz.ntmps27
  go_wp2
  go_region
  go_wp2
  go_ret
  exact ⟨rfl, below_drw _⟩

set_option maxHeartbeats 1000000 in
theorem under_nil (M : Nat) (A : Option Addr) (c : Nat) (m : Int) (w : World) :
    Calls Tryz.prog 29 #[.map (some M), .slice A 0 c, .int .i64 m] w fun e w' => e = .returned (.tuple #[.int .i64 0, .bool true]) ∧ w' = w := by
  go_enter Tryz.func29, Tryz.ntmps29
  go_wp2
  go_ret2
  exact ⟨rfl, rfl⟩

set_option maxHeartbeats 1000000 in
theorem depth_nil (f : Nd) (A : Option Addr) (c : Nat) (m : Int) (h1 : 1 ≤ m) (h2 : m ≤ 1000) (w : World) :
    Calls Tryz.prog 13 #[nv f (.slice A 0 c), .int .i64 m] w fun e w' => e = .returned (.int .i64 1) ∧ Below w.heap.size w w' := by
  have hmm := @run_makeMap Tryz.prog
  have q : decide (m < 1) = false := decide_eq_false (by omega)
  unfold nv
  have HB : ∀ o o', Hid (Below w.heap.size w ((w.alloc o).alloc o')) := fun o o' => hide (((Below.refl _ _).alloc (Nat.le_refl _) _).alloc (by rw [World.size_alloc]; omega) _)
  go_enter Tryz.func13, Tryz.ntmps13
  go_wp2_with fail
  refine (under_nil _ A c (m - 1) _).mono ?_
  rintro e w' ⟨rfl, rfl⟩
  go_wp2
  go_ret
  exact ⟨rfl, unhide (HB _ _)⟩

set_option maxHeartbeats 1000000 in
theorem allfit_nil (M : Nat) (A : Option Addr) (c : Nat) (w : World) :
    Calls Tryz.prog 25 #[.map (some M), .slice A 0 c] w fun e w' => e = .returned (.bool true) ∧ w' = w := by
  go_enter Tryz.func25, Tryz.ntmps25
  go_wp2
  go_ret
  exact ⟨rfl, rfl⟩

set_option maxHeartbeats 1000000 in
theorem each_nil (A : Option Addr) (c : Nat) (g : Value) (w : World) :
    Calls Tryz.prog 60 #[.slice A 0 c, g] w fun e w' => e = .returned (.bool true) ∧ w' = w := by
  go_enter Tryz.func60, Tryz.ntmps60
  go_wp2
  go_loopw [9] (fun i wr => i = .int .i64 0 ∧ wr = w) (fun _ _ => 0)
  case atStart => exact ⟨rfl, rfl⟩
  case round =>
    obtain ⟨rfl, rfl⟩ := hrel
    go_wp2
    go_ret
    exact ⟨rfl, rfl⟩

/-- the empty file -/
def fileNd : Nd := ⟨1, ⟨#[]⟩, 0, ⟨#[]⟩, 0, 0, 0⟩

theorem box1 (w : World) (o : Obj) : Hid (Below w.heap.size w (w.alloc o)) := hide ((Below.refl _ _).alloc (Nat.le_refl _) _)

set_option maxRecDepth 100000 in
set_option maxHeartbeats 4000000 in
theorem textfits_file (w : World) : Calls Tryz.prog 37 #[nv fileNd (.slice none 0 0)] w fun e w' => e = .returned (.bool true) ∧ Below w.heap.size w w' := by
  unfold nv fileNd
  go_enter Tryz.func37, Tryz.ntmps37
  go_wp2
  go_ret
  exact ⟨rfl, unhide (box1 _ _)⟩
set_option maxRecDepth 100000 in
set_option maxHeartbeats 4000000 in
theorem numfits_file (w : World) : Calls Tryz.prog 38 #[nv fileNd (.slice none 0 0)] w fun e w' => e = .returned (.bool true) ∧ Below w.heap.size w w' := by
  unfold nv fileNd
  go_enter Tryz.func38, Tryz.ntmps38
  go_wp2
  go_ret
  exact ⟨rfl, unhide (box1 _ _)⟩
set_option maxRecDepth 100000 in
set_option maxHeartbeats 4000000 in
theorem typefits_file (w : World) : Calls Tryz.prog 39 #[nv fileNd (.slice none 0 0)] w fun e w' => e = .returned (.bool true) ∧ Below w.heap.size w w' := by
  unfold nv fileNd
  go_enter Tryz.func39, Tryz.ntmps39
  go_wp2
  go_ret
  exact ⟨rfl, unhide (box1 _ _)⟩
set_option maxRecDepth 100000 in
set_option maxHeartbeats 4000000 in
theorem kidsfit_file (w : World) : Calls Tryz.prog 40 #[nv fileNd (.slice none 0 0)] w fun e w' => e = .returned (.bool true) ∧ Below w.heap.size w w' := by
  unfold nv fileNd
  go_enter Tryz.func40, Tryz.ntmps40
  go_wp2_with fail
  refine (each_nil none 0 _ _).mono ?_
  rintro e w' ⟨rfl, rfl⟩
  go_wp2
  go_ret
  exact ⟨rfl, unhide (box1 _ _)⟩

set_option maxHeartbeats 2000000 in
theorem fits_file (w : World) : Calls Tryz.prog 24 #[nv fileNd (.slice none 0 0)] w fun e w' => e = .returned (.bool true) ∧ Below w.heap.size w w' := by
  unfold nv
  go_enter Tryz.func24, Tryz.ntmps24
  go_wp2_with fail
  obtain ⟨w1, hw1, HB1, HX1, hs1⟩ := boxed w fileNd (.slice none 0 0)
  rw [hw1]
  clear hw1
  refine (textfits_file _).mono ?_
  rintro e w2 ⟨rfl, b2⟩
  have h2 := b2.size
  obtain ⟨x0, x1, x2, x3, x4, x5, x6, x7⟩ := ((unhide HX1).below b2 (by omega)).cell
  have HB2 := hide b2
  clear b2
  go_wp2_with fail
  refine (numfits_file _).mono ?_
  rintro e w3 ⟨rfl, b3⟩
  have h3 := b3.size
  have HB3 := hide ((unhide HB2).trans (b3.mono h2))
  obtain ⟨y0, y1, y2, y3, y4, y5, y6, y7⟩ := ((unhide HX1).below (unhide HB3) (by omega)).cell
  clear b3 HB2
  go_wp2_with fail
  refine (typefits_file _).mono ?_
  rintro e w4 ⟨rfl, b4⟩
  have h4 := b4.size
  have HB4 := hide ((unhide HB3).trans (b4.mono (by omega)))
  obtain ⟨z0, z1, z2, z3, z4, z5, z6, z7⟩ := ((unhide HX1).below (unhide HB4) (by omega)).cell
  clear b4 HB3
  go_wp2_with fail
  refine (kidsfit_file _).mono ?_
  rintro e w5 ⟨rfl, b5⟩
  have HB5 := hide ((unhide HB1).trans (((unhide HB4).trans (b5.mono (by omega))).mono (by omega)))
  clear b5 HB4
  go_wp2
  go_ret
  exact ⟨rfl, unhide HB5⟩

set_option maxHeartbeats 2000000 in
theorem right_file (w : World) : Calls Tryz.prog 10 #[nv fileNd (.slice none 0 0)] w fun e w' => e = .returned (.int .i64 0) ∧ Below w.heap.size w w' := by
  have hmm := @run_makeMap Tryz.prog
  unfold nv
  go_enter Tryz.func10, Tryz.ntmps10
  go_wp2_with fail
  obtain ⟨w1, hw1, HB1, HX1, hs1⟩ := boxed w fileNd (.slice none 0 0)
  rw [hw1]
  clear hw1
  refine (depth_nil fileNd none 0 40 (by decide) (by decide) _).mono ?_
  rintro e w2 ⟨rfl, b2⟩
  have h2 := b2.size
  obtain ⟨x0, x1, x2, x3, x4, x5, x6, x7⟩ := ((unhide HX1).below b2 (by omega)).cell
  have HB2 := hide b2
  clear b2
  have e1 : fileNd.k = 1 := rfl
  go_wp2_with fail
  refine (fits_file _).mono ?_
  rintro e w3 ⟨rfl, b3⟩
  have h3 := b3.size
  have HB3 := hide ((unhide HB2).trans (b3.mono h2))
  have y7 := ((unhide HX1).below (unhide HB3) (by omega)).cell.2.2.2.2.2.2.2
  have y7' : ∀ o, (w3.alloc o).cell? ⟨w.heap.size, 7, none⟩ = some (.slice none 0 0) := fun o => (World.cell?_alloc_lt _ _ _ (by show w.heap.size < _; omega)).trans y7
  clear b3 HB2
  go_wp2_with fail
  refine (allfit_nil _ none 0 _).mono ?_
  rintro e w4 ⟨rfl, rfl⟩
  have HB4 := hide ((unhide HB1).trans (((unhide HB3).alloc (by omega) (.map #[] 0)).mono (by omega)))
  clear HB3 y7 y7'
  go_wp2
  go_ret
  exact ⟨rfl, unhide HB4⟩

set_option maxHeartbeats 2000000 in
theorem right_none (w : World) : Calls Tryz.prog 10 #[nv zNd (.slice none 0 0)] w fun e w' => e = .returned (.int .i64 41) ∧ Below w.heap.size w w' := by
  unfold nv
  go_enter Tryz.func10, Tryz.ntmps10
  go_wp2_with fail
  obtain ⟨w1, hw1, HB1, HX1, hs1⟩ := boxed w zNd (.slice none 0 0)
  rw [hw1]
  clear hw1
  refine (depth_nil zNd none 0 40 (by decide) (by decide) _).mono ?_
  rintro e w2 ⟨rfl, b2⟩
  obtain ⟨x0, x1, x2, x3, x4, x5, x6, x7⟩ := ((unhide HX1).below b2 (by omega)).cell
  have HB2 := hide ((unhide HB1).trans (b2.mono (by omega)))
  clear b2
  have e1 : zNd.k = 0 := rfl
  go_wp2
  go_ret
  exact ⟨rfl, unhide HB2⟩

set_option maxHeartbeats 2000000 in
theorem text_file (w : World) : Calls Tryz.prog 11 #[nv fileNd (.slice none 0 0)] w fun e w' => e = .returned (.tuple #[.string ⟨#[]⟩, .int .i64 0]) ∧ Below w.heap.size w w' := by
  unfold nv
  go_enter Tryz.func11, Tryz.ntmps11
  go_wp2_with fail
  obtain ⟨w1, hw1, HB1, HX1, hs1⟩ := boxed w fileNd (.slice none 0 0)
  rw [hw1]
  clear hw1
  refine (right_file _).mono ?_
  rintro e w2 ⟨rfl, b2⟩
  have h2 := b2.size
  have x7 := ((unhide HX1).below b2 (by omega)).cell.2.2.2.2.2.2.2
  have x7' : ∀ o, (w2.alloc o).cell? ⟨w.heap.size, 7, none⟩ = some (.slice none 0 0) := fun o => (World.cell?_alloc_lt _ _ _ (by show w.heap.size < _; omega)).trans x7
  have HB2 := hide ((unhide HB1).trans (b2.mono (by omega)))
  clear b2
  go_wp2
  have hc : (w2.alloc (.cells #[.pointer none, .slice none 0 0, .int .i64 0] 48)).cell? ⟨w2.heap.size, 1, none⟩ = some (.slice none 0 0) := by simp
  have HC := hide hc
  have hs3 : (w2.alloc (.cells #[.pointer none, .slice none 0 0, .int .i64 0] 48)).heap.size = w2.heap.size + 1 := World.size_alloc _ _
  have HB3 := hide ((unhide HB2).alloc (by omega) (.cells #[.pointer none, .slice none 0 0, .int .i64 0] 48))
  clear hc x7 x7' HB2
  generalize w2.alloc (.cells #[.pointer none, .slice none 0 0, .int .i64 0] 48) = w3 at *
  go_loopw [16] (fun i wr => i = .int .i64 0 ∧ wr = w3) (fun _ _ => 0)
  case atStart => exact ⟨rfl, rfl⟩
  case round =>
    obtain ⟨rfl, rfl⟩ := hrel
    go_wp2_with fail
    refine (stzero_any _ _ (unhide HC)).mono ?_
    rintro e w4 ⟨rfl, b4⟩
    have HB4 := hide ((unhide HB3).trans (b4.mono (by omega)))
    clear b4
    go_wp2
    go_ret2
    exact ⟨rfl, unhide HB4⟩

set_option maxHeartbeats 4000000 in
theorem alive_any (w : World) : Calls Tryz.prog 7 #[] w fun e w' => e = .returned (.bool true) ∧ Below w.heap.size w w' := by
  go_enter Tryz.func7, Tryz.ntmps7
  go_wp2_with fail
  obtain ⟨w1, hw1, HB1, HX1, hs1⟩ := boxed w fileNd (.slice none 0 0)
  unfold fileNd at hw1
  rw [hw1]
  clear hw1
  refine (text_file _).mono ?_
  rintro e w2 ⟨rfl, b2⟩
  have h2 := b2.size
  obtain ⟨x0, x1, x2, x3, x4, x5, x6, x7⟩ := ((unhide HX1).below b2 (by omega)).cell
  have HB2 := hide b2
  clear b2
  go_wp2_with fail
  refine (right_file _).mono ?_
  rintro e w3 ⟨rfl, b3⟩
  have h3 := b3.size
  have HB3 := hide ((unhide HB2).trans (b3.mono h2))
  obtain ⟨y0, y1, y2, y3, y4, y5, y6, y7⟩ := ((unhide HX1).below (unhide HB3) (by omega)).cell
  clear b3 HB2
  go_wp2_with fail
  refine (right_none _).mono ?_
  rintro e w4 ⟨rfl, b4⟩
  have h4 := b4.size
  have HB4 := hide ((unhide HB3).trans (b4.mono (by omega)))
  obtain ⟨z0, z1, z2, z3, z4, z5, z6, z7⟩ := ((unhide HX1).below (unhide HB4) (by omega)).cell
  clear b4 HB3
  go_wp2_with fail
  refine (depth_nil fileNd none 0 5 (by decide) (by decide) _).mono ?_
  rintro e w5 ⟨rfl, b5⟩
  have HB5 := hide ((unhide HB1).trans (((unhide HB4).trans (b5.mono (by omega))).mono (by omega)))
  clear b5 HB4
  go_wp2
  go_ret
  exact ⟨rfl, unhide HB5⟩

end Go.Proofs.YtnclmlhmmljfgaaGreatDoor
