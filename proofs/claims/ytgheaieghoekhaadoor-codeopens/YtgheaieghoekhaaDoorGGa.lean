/- The reader, where it gives up. Instructions, items that are given up. A list that is given up: bool. A list that is given up: drowse/api.Item. A list that is given up: drowse/api.Ins. Functions, prints, selects that are given up. A list that is given up: drowse/api.Func. A list that is given up: []drowse/api.Item. A list that is given up: []bool. A program that is given up. Decode of what is no right program's bytes. Decode of the bytes of a program that is not right. -/
import Derived.Test.YtgheaieghoekhaaDoorDc
import Derived.Test.YtgheaieghoekhaaDoorDebools
import Derived.Test.YtgheaieghoekhaaDoorDg
import Derived.Test.YtgheaieghoekhaaDoorDeitems
import Derived.Test.YtgheaieghoekhaaDoorDeinss
import Derived.Test.YtgheaieghoekhaaDoorDf
import Derived.Test.YtgheaieghoekhaaDoorDefuns
import Derived.Test.YtgheaieghoekhaaDoorDeprints
import Derived.Test.YtgheaieghoekhaaDoorDearmss
import Derived.Test.YtgheaieghoekhaaDoorDh
import Derived.Test.YtgheaieghoekhaaDoorSb
namespace Go.Proofs.YtgheaieghoekhaaDoor
open Go.RowKit

/-- given up; all else as it was -/
def Gone (R : Nat) (w : World) (e : Ending) (w' : World) : Prop := e = gaveUp ∧ Keep R w w'

theorem need_ne (v : Value) {b : Bool} (hb : b = false) (w : World) : Calls Tryd.prog 23 #[v, .bool b] w fun e w' => e = gaveUp ∧ w' = w := by
  subst hb
  exact need_no v w

set_option maxHeartbeats 1000000 in
theorem bytes_no {R : Nat} {l : List UInt8} {w : World} (h : Rd R l w) {n : Int} (hn : (l.length : Int) < n) :
    Calls Tryd.prog 36 #[.pointer (some ⟨R, 0, none⟩), .int .i64 n] w fun e w' => Gone R w e w' := by
  obtain ⟨s, h1, h2⟩ := h
  have c0 : w.cell? ⟨R, 0, none⟩ = some (.string s) := by rw [Lib.cell_of_heap h2]; rfl
  have hs : s.size = l.length := by rw [size_list, h1]
  have hn2 : (s.size : Int) < n := by omega
  have q : decide (n ≤ (s.size : Int)) = false := by simp; omega
  clear h1 h2 hs hn
  go_enter Tryd.func36, Tryd.ntmps36
  go_wp2_with fail
  refine (need_ne _ (by first | with_reducible rfl | exact decide_eq_false (by omega)) _).mono ?_
  rintro e w' ⟨rfl, rfl⟩
  go_wp2
  exact ⟨rfl, rfl, Keep.of_below (Below.refl _ _)⟩

theorem gNum_none {k : Nat} {l : List UInt8} (h : gNum k l = none) : l.length < k := by
  unfold gNum at h
  split at h
  · cases h
  · omega

set_option maxHeartbeats 1000000 in
theorem num_no {R : Nat} {l : List UInt8} {w : World} (h : Rd R l w) {k : Nat} (hg : gNum k l = none) {k' : Int} (ek : k' = (k : Int)) :
    Calls Tryd.prog 37 #[.pointer (some ⟨R, 0, none⟩), .int .i64 k'] w fun e w' => Gone R w e w' := by
  have hk := gNum_none hg
  subst ek
  have H := hide h
  clear h hg
  go_enter Tryd.func37, Tryd.ntmps37
  go_wp2_with fail
  refine (bytes_no (unhide H) (by omega)).mono ?_
  rintro e w1 ⟨rfl, hK⟩
  have HK := hide hK
  clear hK
  go_wp2
  exact ⟨rfl, rfl, unhide HK⟩

theorem gTake_none {n : Int} {l : List UInt8} (h : gTake n l = none) : (l.length : Int) < n := by
  unfold gTake at h
  split at h
  · cases h
  · omega

theorem bind_none {α β : Type} {o : Option α} {f : α → Option β} (h : o.bind f = none) : o = none ∨ ∃ a, o = some a ∧ f a = none := by
  cases o with
  | none => exact Or.inl rfl
  | some a => exact Or.inr ⟨a, rfl, h⟩

set_option maxHeartbeats 1000000 in
theorem text_no {R : Nat} {l : List UInt8} {w : World} (h : Rd R l w) (hg : gText l = none) :
    Calls Tryd.prog 64 #[.pointer (some ⟨R, 0, none⟩)] w fun e w' => Gone R w e w' := by
  have H := hide h
  clear h
  rcases bind_none hg with g1 | ⟨⟨x, r1⟩, g1, g2⟩
  · have G1 := hide g1
    clear g1 hg
    go_enter Tryd.func64, Tryd.ntmps64
    go_wp2_with fail
    refine (num_no (unhide H) (unhide G1) rfl).mono ?_
    rintro e w1 ⟨rfl, hK⟩
    have HK := hide hK
    clear hK
    go_wp2
    exact ⟨rfl, rfl, unhide HK⟩
  · have G1 := hide g1
    have G2 := hide (gTake_none g2)
    clear g1 g2 hg
    go_enter Tryd.func64, Tryd.ntmps64
    go_wp2_with fail
    refine (num_is (unhide H) (unhide G1) rfl (by omega)).mono ?_
    rintro e w1 ⟨rfl, hR1, hK1⟩
    have HR1 := hide hR1
    have HK1 := hide hK1
    clear hR1 hK1
    go_wp2_with fail
    refine (bytes_no (unhide HR1) (unhide G2)).mono ?_
    rintro e w2 ⟨rfl, hK⟩
    have HK := hide ((unhide HK1).trans hK)
    clear hK
    go_wp2
    exact ⟨rfl, rfl, unhide HK⟩

set_option maxHeartbeats 1000000 in
theorem flag_no {R : Nat} {l : List UInt8} {w : World} (h : Rd R l w) (hg : gFlag l = none) :
    Calls Tryd.prog 65 #[.pointer (some ⟨R, 0, none⟩)] w fun e w' => Gone R w e w' := by
  have H := hide h
  clear h
  rcases bind_none hg with g1 | ⟨⟨x, r1⟩, g1, g2⟩
  · have G1 := hide g1
    clear g1 hg
    go_enter Tryd.func65, Tryd.ntmps65
    go_wp2_with fail
    refine (num_no (unhide H) (unhide G1) rfl).mono ?_
    rintro e w1 ⟨rfl, hK⟩
    have HK := hide hK
    clear hK
    go_wp2
    exact ⟨rfl, rfl, unhide HK⟩
  · simp only at g2
    split at g2
    · cases g2
    rename_i hx
    have q : decide (x ≤ 1) = false := by simpa using hx
    have G1 := hide g1
    clear g1 g2 hg
    go_enter Tryd.func65, Tryd.ntmps65
    go_wp2_with fail
    refine (num_is (unhide H) (unhide G1) rfl (by omega)).mono ?_
    rintro e w1 ⟨rfl, hR1, hK1⟩
    have HK1 := hide hK1
    clear hR1 hK1
    go_wp2_with fail
    refine (need_ne _ (by first | with_reducible rfl | exact decide_eq_false (by omega)) _).mono ?_
    rintro e w' ⟨rfl, hu⟩
    subst hu
    go_wp2
    exact ⟨rfl, rfl, unhide HK1⟩

end Go.Proofs.YtgheaieghoekhaaDoor

namespace Go.Proofs.YtgheaieghoekhaaDoor
open Go.RowKit

set_option maxHeartbeats 4000000 in
theorem ins_no {R : Nat} {l : List UInt8} {w : World} (h : Rd R l w) (hg : gIns l = none) :
    Calls Tryd.prog 67 #[.pointer (some ⟨R, 0, none⟩)] w fun e w' => Gone R w e w' := by
  have hRl := h.lt
  have H := hide h
  clear h
  rcases bind_none hg with g1 | ⟨⟨x1, r1⟩, g1, hg⟩
  · have G1 := hide g1
    clear g1 hg
    go_enter Tryd.func67, Tryd.ntmps67
    go_wp2_with fail
    refine (num_no ((unhide H).alloc2 _ _) (unhide G1) rfl).mono ?_
    rintro e uF ⟨rfl, hK⟩
    have HKF := hide ((keep_alloc2 _ _ _).trans hK)
    clear hK
    go_wp2
    exact ⟨rfl, rfl, unhide HKF⟩
  have G1 := hide g1
  clear g1
  rcases bind_none hg with g2 | ⟨⟨x2, r2⟩, g2, hg⟩
  · have G2 := hide g2
    clear g2 hg
    go_enter Tryd.func67, Tryd.ntmps67
    go_wp2_with fail
    refine (num_is ((unhide H).alloc2 _ _) (unhide G1) rfl (by omega)).mono ?_
    rintro e u1 ⟨rfl, hR, hK⟩
    have b1 : u1.heap[w.heap.size + 1]? = some (.cells #[.int .i64 0, .int .i64 0, .int .i64 0, .int .i64 0] 29 (0, 0)) := hK.blk (new2' w _ _) (by omega)
    have b0 : u1.heap[w.heap.size]? = some (.cells #[.int .i64 0, .int .i64 0, .int .i64 0, .int .i64 0] 29 (0, 0)) := hK.blk (new2 w _ _) (by omega)
    have c0 : u1.cell? ⟨w.heap.size + 1, 0, none⟩ = some (.int .i64 0) := by rw [Lib.cell_of_heap b1]; rfl
    have c1 : u1.cell? ⟨w.heap.size + 1, 1, none⟩ = some (.int .i64 0) := by rw [Lib.cell_of_heap b1]; rfl
    have c2 : u1.cell? ⟨w.heap.size + 1, 2, none⟩ = some (.int .i64 0) := by rw [Lib.cell_of_heap b1]; rfl
    have c3 : u1.cell? ⟨w.heap.size + 1, 3, none⟩ = some (.int .i64 0) := by rw [Lib.cell_of_heap b1]; rfl
    have f0 : u1.frozen? ⟨w.heap.size + 1, 0, none⟩ = false := Lib.frozen_of_heap b1 0
    have HR1 := hide hR
    have HK1 := hide ((keep_alloc2 _ _ _).trans hK)
    have HB11 := hide b1
    have HB01 := hide b0
    clear hR hK b1 b0
    go_wp2_with fail
    refine (num_no ((unhide HR1).set (show w.heap.size + 1 ≠ R by omega) 0 (.int .i64 x1)) (unhide G2) rfl).mono ?_
    rintro e uF ⟨rfl, hK⟩
    have HKF := hide (((unhide HK1).setN (show w.heap.size ≤ w.heap.size + 1 by omega) 0 (.int .i64 x1)).trans hK)
    clear hK
    go_wp2
    exact ⟨rfl, rfl, unhide HKF⟩
  have G2 := hide g2
  clear g2
  rcases bind_none hg with g3 | ⟨⟨x3, r3⟩, g3, hg⟩
  · have G3 := hide g3
    clear g3 hg
    go_enter Tryd.func67, Tryd.ntmps67
    go_wp2_with fail
    refine (num_is ((unhide H).alloc2 _ _) (unhide G1) rfl (by omega)).mono ?_
    rintro e u1 ⟨rfl, hR, hK⟩
    have b1 : u1.heap[w.heap.size + 1]? = some (.cells #[.int .i64 0, .int .i64 0, .int .i64 0, .int .i64 0] 29 (0, 0)) := hK.blk (new2' w _ _) (by omega)
    have b0 : u1.heap[w.heap.size]? = some (.cells #[.int .i64 0, .int .i64 0, .int .i64 0, .int .i64 0] 29 (0, 0)) := hK.blk (new2 w _ _) (by omega)
    have c0 : u1.cell? ⟨w.heap.size + 1, 0, none⟩ = some (.int .i64 0) := by rw [Lib.cell_of_heap b1]; rfl
    have c1 : u1.cell? ⟨w.heap.size + 1, 1, none⟩ = some (.int .i64 0) := by rw [Lib.cell_of_heap b1]; rfl
    have c2 : u1.cell? ⟨w.heap.size + 1, 2, none⟩ = some (.int .i64 0) := by rw [Lib.cell_of_heap b1]; rfl
    have c3 : u1.cell? ⟨w.heap.size + 1, 3, none⟩ = some (.int .i64 0) := by rw [Lib.cell_of_heap b1]; rfl
    have f0 : u1.frozen? ⟨w.heap.size + 1, 0, none⟩ = false := Lib.frozen_of_heap b1 0
    have HR1 := hide hR
    have HK1 := hide ((keep_alloc2 _ _ _).trans hK)
    have HB11 := hide b1
    have HB01 := hide b0
    clear hR hK b1 b0
    go_wp2_with fail
    refine (num_is ((unhide HR1).set (show w.heap.size + 1 ≠ R by omega) 0 (.int .i64 x1)) (unhide G2) rfl (by omega)).mono ?_
    rintro e u2 ⟨rfl, hR, hK⟩
    have b1 : u2.heap[w.heap.size + 1]? = some (.cells #[.int .i64 x1, .int .i64 0, .int .i64 0, .int .i64 0] 29 (0, 0)) := hK.blk (heap_set (unhide HB11) 0 (.int .i64 x1)) (by omega)
    have b0 : u2.heap[w.heap.size]? = some (.cells #[.int .i64 0, .int .i64 0, .int .i64 0, .int .i64 0] 29 (0, 0)) := hK.blk (heap_setO (unhide HB01) (show w.heap.size ≠ w.heap.size + 1 by omega) 0 (.int .i64 x1)) (by omega)
    have c0 : u2.cell? ⟨w.heap.size + 1, 0, none⟩ = some (.int .i64 x1) := by rw [Lib.cell_of_heap b1]; rfl
    have c1 : u2.cell? ⟨w.heap.size + 1, 1, none⟩ = some (.int .i64 0) := by rw [Lib.cell_of_heap b1]; rfl
    have c2 : u2.cell? ⟨w.heap.size + 1, 2, none⟩ = some (.int .i64 0) := by rw [Lib.cell_of_heap b1]; rfl
    have c3 : u2.cell? ⟨w.heap.size + 1, 3, none⟩ = some (.int .i64 0) := by rw [Lib.cell_of_heap b1]; rfl
    have f1 : u2.frozen? ⟨w.heap.size + 1, 1, none⟩ = false := Lib.frozen_of_heap b1 1
    have HR2 := hide hR
    have HK2 := hide (((unhide HK1).setN (show w.heap.size ≤ w.heap.size + 1 by omega) 0 (.int .i64 x1)).trans hK)
    have HB12 := hide b1
    have HB02 := hide b0
    clear hR hK b1 b0
    go_wp2_with fail
    refine (num_no ((unhide HR2).set (show w.heap.size + 1 ≠ R by omega) 1 (.int .i64 x2)) (unhide G3) rfl).mono ?_
    rintro e uF ⟨rfl, hK⟩
    have HKF := hide (((unhide HK2).setN (show w.heap.size ≤ w.heap.size + 1 by omega) 1 (.int .i64 x2)).trans hK)
    clear hK
    go_wp2
    exact ⟨rfl, rfl, unhide HKF⟩
  have G3 := hide g3
  clear g3
  rcases bind_none hg with g4 | ⟨⟨x4, r4⟩, g4, hg⟩
  · have G4 := hide g4
    clear g4 hg
    go_enter Tryd.func67, Tryd.ntmps67
    go_wp2_with fail
    refine (num_is ((unhide H).alloc2 _ _) (unhide G1) rfl (by omega)).mono ?_
    rintro e u1 ⟨rfl, hR, hK⟩
    have b1 : u1.heap[w.heap.size + 1]? = some (.cells #[.int .i64 0, .int .i64 0, .int .i64 0, .int .i64 0] 29 (0, 0)) := hK.blk (new2' w _ _) (by omega)
    have b0 : u1.heap[w.heap.size]? = some (.cells #[.int .i64 0, .int .i64 0, .int .i64 0, .int .i64 0] 29 (0, 0)) := hK.blk (new2 w _ _) (by omega)
    have c0 : u1.cell? ⟨w.heap.size + 1, 0, none⟩ = some (.int .i64 0) := by rw [Lib.cell_of_heap b1]; rfl
    have c1 : u1.cell? ⟨w.heap.size + 1, 1, none⟩ = some (.int .i64 0) := by rw [Lib.cell_of_heap b1]; rfl
    have c2 : u1.cell? ⟨w.heap.size + 1, 2, none⟩ = some (.int .i64 0) := by rw [Lib.cell_of_heap b1]; rfl
    have c3 : u1.cell? ⟨w.heap.size + 1, 3, none⟩ = some (.int .i64 0) := by rw [Lib.cell_of_heap b1]; rfl
    have f0 : u1.frozen? ⟨w.heap.size + 1, 0, none⟩ = false := Lib.frozen_of_heap b1 0
    have HR1 := hide hR
    have HK1 := hide ((keep_alloc2 _ _ _).trans hK)
    have HB11 := hide b1
    have HB01 := hide b0
    clear hR hK b1 b0
    go_wp2_with fail
    refine (num_is ((unhide HR1).set (show w.heap.size + 1 ≠ R by omega) 0 (.int .i64 x1)) (unhide G2) rfl (by omega)).mono ?_
    rintro e u2 ⟨rfl, hR, hK⟩
    have b1 : u2.heap[w.heap.size + 1]? = some (.cells #[.int .i64 x1, .int .i64 0, .int .i64 0, .int .i64 0] 29 (0, 0)) := hK.blk (heap_set (unhide HB11) 0 (.int .i64 x1)) (by omega)
    have b0 : u2.heap[w.heap.size]? = some (.cells #[.int .i64 0, .int .i64 0, .int .i64 0, .int .i64 0] 29 (0, 0)) := hK.blk (heap_setO (unhide HB01) (show w.heap.size ≠ w.heap.size + 1 by omega) 0 (.int .i64 x1)) (by omega)
    have c0 : u2.cell? ⟨w.heap.size + 1, 0, none⟩ = some (.int .i64 x1) := by rw [Lib.cell_of_heap b1]; rfl
    have c1 : u2.cell? ⟨w.heap.size + 1, 1, none⟩ = some (.int .i64 0) := by rw [Lib.cell_of_heap b1]; rfl
    have c2 : u2.cell? ⟨w.heap.size + 1, 2, none⟩ = some (.int .i64 0) := by rw [Lib.cell_of_heap b1]; rfl
    have c3 : u2.cell? ⟨w.heap.size + 1, 3, none⟩ = some (.int .i64 0) := by rw [Lib.cell_of_heap b1]; rfl
    have f1 : u2.frozen? ⟨w.heap.size + 1, 1, none⟩ = false := Lib.frozen_of_heap b1 1
    have HR2 := hide hR
    have HK2 := hide (((unhide HK1).setN (show w.heap.size ≤ w.heap.size + 1 by omega) 0 (.int .i64 x1)).trans hK)
    have HB12 := hide b1
    have HB02 := hide b0
    clear hR hK b1 b0
    go_wp2_with fail
    refine (num_is ((unhide HR2).set (show w.heap.size + 1 ≠ R by omega) 1 (.int .i64 x2)) (unhide G3) rfl (by omega)).mono ?_
    rintro e u3 ⟨rfl, hR, hK⟩
    have b1 : u3.heap[w.heap.size + 1]? = some (.cells #[.int .i64 x1, .int .i64 x2, .int .i64 0, .int .i64 0] 29 (0, 0)) := hK.blk (heap_set (unhide HB12) 1 (.int .i64 x2)) (by omega)
    have b0 : u3.heap[w.heap.size]? = some (.cells #[.int .i64 0, .int .i64 0, .int .i64 0, .int .i64 0] 29 (0, 0)) := hK.blk (heap_setO (unhide HB02) (show w.heap.size ≠ w.heap.size + 1 by omega) 1 (.int .i64 x2)) (by omega)
    have c0 : u3.cell? ⟨w.heap.size + 1, 0, none⟩ = some (.int .i64 x1) := by rw [Lib.cell_of_heap b1]; rfl
    have c1 : u3.cell? ⟨w.heap.size + 1, 1, none⟩ = some (.int .i64 x2) := by rw [Lib.cell_of_heap b1]; rfl
    have c2 : u3.cell? ⟨w.heap.size + 1, 2, none⟩ = some (.int .i64 0) := by rw [Lib.cell_of_heap b1]; rfl
    have c3 : u3.cell? ⟨w.heap.size + 1, 3, none⟩ = some (.int .i64 0) := by rw [Lib.cell_of_heap b1]; rfl
    have f2 : u3.frozen? ⟨w.heap.size + 1, 2, none⟩ = false := Lib.frozen_of_heap b1 2
    have HR3 := hide hR
    have HK3 := hide (((unhide HK2).setN (show w.heap.size ≤ w.heap.size + 1 by omega) 1 (.int .i64 x2)).trans hK)
    have HB13 := hide b1
    have HB03 := hide b0
    clear hR hK b1 b0
    go_wp2_with fail
    refine (num_no ((unhide HR3).set (show w.heap.size + 1 ≠ R by omega) 2 (.int .i64 x3)) (unhide G4) rfl).mono ?_
    rintro e uF ⟨rfl, hK⟩
    have HKF := hide (((unhide HK3).setN (show w.heap.size ≤ w.heap.size + 1 by omega) 2 (.int .i64 x3)).trans hK)
    clear hK
    go_wp2
    exact ⟨rfl, rfl, unhide HKF⟩
  cases hg

set_option maxHeartbeats 4000000 in
theorem item_no {R : Nat} {l : List UInt8} {w : World} (h : Rd R l w) (hg : gItem l = none) :
    Calls Tryd.prog 69 #[.pointer (some ⟨R, 0, none⟩)] w fun e w' => Gone R w e w' := by
  have hRl := h.lt
  have H := hide (h.below (below1 w (.cells #[.int .i64 0, .string ⟨#[]⟩] 64)))
  have HK0 := hide (Keep.of_below (C := R) (below1 w (.cells #[.int .i64 0, .string ⟨#[]⟩] 64)))
  clear h
  rcases bind_none hg with g1 | ⟨⟨k, r1⟩, g1, hg⟩
  · have G1 := hide g1
    clear g1 hg
    go_enter Tryd.func69, Tryd.ntmps69
    go_wp2_with fail
    refine (num_no (unhide H) (unhide G1) rfl).mono ?_
    rintro e uF ⟨rfl, hK⟩
    have HKF := hide ((unhide HK0).trans hK)
    clear hK
    go_wp2
    exact ⟨rfl, rfl, unhide HKF⟩
  simp only at hg
  split at hg
  rotate_left
  · cases hg
  rename_i c1
  subst c1
  rcases bind_none hg with g2 | ⟨x, _, hg⟩
  rotate_left
  · cases hg
  have G1 := hide g1
  have G2 := hide g2
  clear g1 g2 hg
  go_enter Tryd.func69, Tryd.ntmps69
  go_wp2_with fail
  refine (num_is (unhide H) (unhide G1) rfl (by omega)).mono ?_
  rintro e u1 ⟨rfl, hR1, hK1⟩
  have hs1 := hK1.size
  rw [World.size_alloc] at hs1
  have HR1 := hide hR1
  have HK1 := hide ((unhide HK0).trans hK1)
  clear hR1 hK1
  go_wp2_with fail
  refine (text_no ((unhide HR1).below (below1 u1 _)) (unhide G2)).mono ?_
  rintro e u2 ⟨rfl, hK2⟩
  have HK2 := hide (((unhide HK1).trans (Keep.of_below (below1 u1 _))).trans hK2)
  clear hK2
  go_wp2
  exact ⟨rfl, rfl, unhide HK2⟩

end Go.Proofs.YtgheaieghoekhaaDoor

namespace Go.Proofs.YtgheaieghoekhaaDoor
open Go.RowKit

set_option maxHeartbeats 8000000 in
theorem list_bools_no {R : Nat} {l : List UInt8} {w : World} (h : Rd R l w) (hl : l.length ≤ 140737488355328) (hg : gList gFlag 1 50 1 l = none) :
    Calls Tryd.prog 70 #[.pointer (some ⟨R, 0, none⟩), .int .i64 1, .int .i64 50, .int .i64 1, .func (.func 65) #[] #[]] w fun e w' => Gone R w e w' := by
  have hRl := h.lt
  have H := hide h
  clear h
  rcases bind_none hg with g1 | ⟨⟨c, r1⟩, g1, hg⟩
  · have G1 := hide g1
    clear g1 hg
    go_enter Tryd.func70, Tryd.ntmps70
    go_wp2_with fail
    refine (num_no (unhide H) (unhide G1) rfl).mono ?_
    rintro e u1 ⟨rfl, hK⟩
    have HK := hide hK
    clear hK
    go_wp2
    exact ⟨rfl, rfl, unhide HK⟩
  obtain ⟨n, rfl, _⟩ := gNum_small g1 (by omega)
  have hr1 : r1.length ≤ l.length := gNum_len g1
  have G1 := hide g1
  clear g1
  simp only at hg
  by_cases hn1 : (n : Int) ≤ 50
  rotate_left
  · have q1 : decide ((n : Int) ≤ 50) = false := by simpa using hn1
    clear hg
    go_enter Tryd.func70, Tryd.ntmps70
    go_wp2_with fail
    refine (num_is (unhide H) (unhide G1) rfl (by omega)).mono ?_
    rintro e u1 ⟨rfl, hR1, hK1⟩
    have HK1 := hide hK1
    clear hR1 hK1
    go_wp2_with fail
    refine (need_ne _ (by first | with_reducible rfl | exact decide_eq_false (by omega)) _).mono ?_
    rintro e u2 ⟨rfl, hu⟩
    subst hu
    go_wp2
    exact ⟨rfl, rfl, unhide HK1⟩
  have q1 : decide ((n : Int) ≤ 50) = true := by simpa using hn1
  by_cases hn2 : n ≤ r1.length / 1
  rotate_left
  · clear hg
    go_enter Tryd.func70, Tryd.ntmps70
    go_wp2_with fail
    refine (num_is (unhide H) (unhide G1) rfl (by omega)).mono ?_
    rintro e u1 ⟨rfl, hR1, hK1⟩
    obtain ⟨s, hs, hsb⟩ := hR1
    have hss : s.size = r1.length := by rw [size_list, hs]
    have c0 : u1.cell? ⟨R, 0, none⟩ = some (.string s) := by rw [Lib.cell_of_heap hsb]; rfl
    have q2 : decide ((n : Int) ≤ (s.size : Int)) = false := by simp; omega
    have hsl : s.size ≤ 140737488355328 := by omega
    have hq : ¬ n ≤ s.size / 1 := by rw [hss]; exact hn2
    have HK1 := hide hK1
    clear hs hsb hK1 hss
    go_wp2_with fail
    refine (need_ne _ (by first | with_reducible rfl | exact decide_eq_false (by omega)) _).mono ?_
    rintro e u2 ⟨rfl, hu⟩
    subst hu
    go_wp2
    exact ⟨rfl, rfl, unhide HK1⟩
  rw [if_pos ⟨hn1, by omega⟩, Int.toNat_natCast] at hg
  have hn8 : n ≤ 8388608 := by omega
  have c0n : ¬ n = 0 := fun e => by subst e; cases hg
  have hmk := mk_bools n
  have GM := hide hg
  clear hg
  go_enter Tryd.func70, Tryd.ntmps70
  go_wp2_with fail
  refine (num_is (unhide H) (unhide G1) rfl (by omega)).mono ?_
  rintro e u1 ⟨rfl, hR1, hK1⟩
  obtain ⟨s, hs, hsb⟩ := hR1
  have hss : s.size = r1.length := by rw [size_list, hs]
  have c0 : u1.cell? ⟨R, 0, none⟩ = some (.string s) := by rw [Lib.cell_of_heap hsb]; rfl
  have q2 : decide ((n : Int) ≤ (s.size : Int)) = true := by simp; omega
  have hsl : s.size ≤ 140737488355328 := by omega
  have hq : n ≤ s.size / 1 := by rw [hss]; exact hn2
  have hu1 := hK1.size
  have HR1 := hide (show Rd R r1 u1 from ⟨s, hs, hsb⟩)
  have HK1 := hide hK1
  clear hs hsb hK1 hss
  have q3 : ((n : Int) == 0) = false := by simp; omega
  go_wp2_with fail
  refine (need_eq _ (by first | with_reducible rfl | exact decide_eq_true (by omega)) _).mono ?_
  rintro e u2 ⟨rfl, hu2⟩
  subst hu2
  go_wp2
  obtain ⟨W, hW⟩ : ∃ W, W = u2.alloc (.cells (mc_bools n) 4) := ⟨_, rfl⟩
  obtain ⟨D, hD⟩ : ∃ D, D = u2.heap.size := ⟨_, rfl⟩
  rw [← hW]
  have hBk : Blk W D (n * 1) 4 := by rw [hW, hD]; exact blk_bools u2 n
  have hbW : Below u2.heap.size u2 W := by rw [hW]; exact below1 u2 _
  have hsW : W.heap.size = u2.heap.size + 1 := by rw [hW]; simp
  have hDw0 : w.heap.size ≤ D := by omega
  have hDW : D < W.heap.size := by omega
  have HRW := hide ((unhide HR1).below hbW)
  have HKW := hide ((unhide HK1).trans (Keep.of_below hbW))
  have HBk := hide hBk
  rw [← hD]
  clear hmk hW hBk hbW c0 q1 q2 q3 hsl hq HR1 HK1 hD hsW
  go_loopw [39] (fun i wr => ∃ (k : Nat) (rk : List UInt8), k ≤ n ∧ i = .int .i64 k ∧ gMany gFlag (n - k) rk = none ∧ rk.length ≤ l.length ∧ Rd R rk wr ∧ Keep R w wr ∧ Blk wr D (n * 1) 4 ∧ D < wr.heap.size) (fun i _ => n - (intOf i).toNat)
  case atStart => exact ⟨0, r1, Nat.zero_le _, rfl, by simpa using unhide GM, hr1, unhide HRW, unhide HKW, unhide HBk, hDW⟩
  case round =>
    obtain ⟨k, rk, hk, rfl, gk, hrl, hRr, hKr, hBr, hDw⟩ := hrel
    have hszr := hKr.size
    have hlt : k < n := by
      rcases Nat.lt_or_ge k n with h1 | h1
      · exact h1
      · rw [show n - k = 0 by omega] at gk
        cases gk
    obtain ⟨m, hm⟩ : ∃ m, n - k = m + 1 := ⟨n - k - 1, by omega⟩
    rw [hm] at gk
    have HRr := hide hRr
    have HKr := hide hKr
    have HBr := hide hBr
    clear hRr hKr hBr
    rcases bind_none gk with gone | ⟨⟨x, r2⟩, gone, gk⟩
    · have GO := hide gone
      clear gone gk
      go_wp2_with fail
      refine (flag_no (unhide HRr) (unhide GO)).mono ?_
      rintro e w5 ⟨rfl, hK5⟩
      have HK5 := hide ((unhide HKr).trans hK5)
      clear hK5
      go_wp2
      exact ⟨rfl, rfl, unhide HK5⟩
    · rcases bind_none gk with gm2 | ⟨_, _, gk⟩
      rotate_left
      · cases gk
      have hr2 : r2.length ≤ rk.length := len_bools gone
      rw [show m = n - (k + 1) by omega] at gm2
      have GO := hide gone
      have GM2 := hide gm2
      clear gone gm2 gk hm
      go_wp2_with fail
      refine (flag_is (unhide HRr) (unhide GO)).mono ?_
      rintro e w5 ⟨rfl, hR5, hK5⟩
      have hBk5 : Blk w5 D (n * 1) 4 := (by obtain ⟨cur, q1, q2⟩ := unhide HBr; exact ⟨cur, hK5.blk q1 (by omega), q2⟩)
      have hsz5 := hK5.size
      obtain ⟨old0, c0⟩ := hBk5.cell (k) (by omega)
      have f0 := hBk5.froz (k)
      have HB5 := hide hBk5
      have HR5 := hide hR5
      have HK5 := hide ((unhide HKr).trans hK5)
      clear hBk5 hR5 hK5
      go_wp2
      go_roundw
      case rel =>
        have eW : (w5.setCell ⟨D, k, none⟩ (.bool x)) = put w5 D (k) [.bool x] := rfl
        rw [eW]
        exact ⟨k + 1, r2, by omega, by go_num, unhide GM2, by omega, put_rd (unhide HR5) (by omega) _ _, put_keep _ _ (unhide HK5) (by omega), put_blk _ _ (unhide HB5), by rw [put_size]; omega⟩
      case measure => simp [intOf]; omega

end Go.Proofs.YtgheaieghoekhaaDoor

namespace Go.Proofs.YtgheaieghoekhaaDoor
open Go.RowKit

set_option maxHeartbeats 8000000 in
theorem list_items_no {R : Nat} {l : List UInt8} {w : World} (h : Rd R l w) (hl : l.length ≤ 140737488355328) (hg : gList gItem 1 20 1 l = none) :
    Calls Tryd.prog 68 #[.pointer (some ⟨R, 0, none⟩), .int .i64 1, .int .i64 20, .int .i64 1, .func (.func 69) #[] #[]] w fun e w' => Gone R w e w' := by
  have hRl := h.lt
  have H := hide h
  clear h
  rcases bind_none hg with g1 | ⟨⟨c, r1⟩, g1, hg⟩
  · have G1 := hide g1
    clear g1 hg
    go_enter Tryd.func68, Tryd.ntmps68
    go_wp2_with fail
    refine (num_no (unhide H) (unhide G1) rfl).mono ?_
    rintro e u1 ⟨rfl, hK⟩
    have HK := hide hK
    clear hK
    go_wp2
    exact ⟨rfl, rfl, unhide HK⟩
  obtain ⟨n, rfl, _⟩ := gNum_small g1 (by omega)
  have hr1 : r1.length ≤ l.length := gNum_len g1
  have G1 := hide g1
  clear g1
  simp only at hg
  by_cases hn1 : (n : Int) ≤ 20
  rotate_left
  · have q1 : decide ((n : Int) ≤ 20) = false := by simpa using hn1
    clear hg
    go_enter Tryd.func68, Tryd.ntmps68
    go_wp2_with fail
    refine (num_is (unhide H) (unhide G1) rfl (by omega)).mono ?_
    rintro e u1 ⟨rfl, hR1, hK1⟩
    have HK1 := hide hK1
    clear hR1 hK1
    go_wp2_with fail
    refine (need_ne _ (by first | with_reducible rfl | exact decide_eq_false (by omega)) _).mono ?_
    rintro e u2 ⟨rfl, hu⟩
    subst hu
    go_wp2
    exact ⟨rfl, rfl, unhide HK1⟩
  have q1 : decide ((n : Int) ≤ 20) = true := by simpa using hn1
  by_cases hn2 : n ≤ r1.length / 1
  rotate_left
  · clear hg
    go_enter Tryd.func68, Tryd.ntmps68
    go_wp2_with fail
    refine (num_is (unhide H) (unhide G1) rfl (by omega)).mono ?_
    rintro e u1 ⟨rfl, hR1, hK1⟩
    obtain ⟨s, hs, hsb⟩ := hR1
    have hss : s.size = r1.length := by rw [size_list, hs]
    have c0 : u1.cell? ⟨R, 0, none⟩ = some (.string s) := by rw [Lib.cell_of_heap hsb]; rfl
    have q2 : decide ((n : Int) ≤ (s.size : Int)) = false := by simp; omega
    have hsl : s.size ≤ 140737488355328 := by omega
    have hq : ¬ n ≤ s.size / 1 := by rw [hss]; exact hn2
    have HK1 := hide hK1
    clear hs hsb hK1 hss
    go_wp2_with fail
    refine (need_ne _ (by first | with_reducible rfl | exact decide_eq_false (by omega)) _).mono ?_
    rintro e u2 ⟨rfl, hu⟩
    subst hu
    go_wp2
    exact ⟨rfl, rfl, unhide HK1⟩
  rw [if_pos ⟨hn1, by omega⟩, Int.toNat_natCast] at hg
  have hn8 : n ≤ 8388608 := by omega
  have c0n : ¬ n = 0 := fun e => by subst e; cases hg
  have hmk := mk_items n
  have GM := hide hg
  clear hg
  go_enter Tryd.func68, Tryd.ntmps68
  go_wp2_with fail
  refine (num_is (unhide H) (unhide G1) rfl (by omega)).mono ?_
  rintro e u1 ⟨rfl, hR1, hK1⟩
  obtain ⟨s, hs, hsb⟩ := hR1
  have hss : s.size = r1.length := by rw [size_list, hs]
  have c0 : u1.cell? ⟨R, 0, none⟩ = some (.string s) := by rw [Lib.cell_of_heap hsb]; rfl
  have q2 : decide ((n : Int) ≤ (s.size : Int)) = true := by simp; omega
  have hsl : s.size ≤ 140737488355328 := by omega
  have hq : n ≤ s.size / 1 := by rw [hss]; exact hn2
  have hu1 := hK1.size
  have HR1 := hide (show Rd R r1 u1 from ⟨s, hs, hsb⟩)
  have HK1 := hide hK1
  clear hs hsb hK1 hss
  have q3 : ((n : Int) == 0) = false := by simp; omega
  go_wp2_with fail
  refine (need_eq _ (by first | with_reducible rfl | exact decide_eq_true (by omega)) _).mono ?_
  rintro e u2 ⟨rfl, hu2⟩
  subst hu2
  go_wp2
  obtain ⟨W, hW⟩ : ∃ W, W = u2.alloc (.cells (mc_items n) 64) := ⟨_, rfl⟩
  obtain ⟨D, hD⟩ : ∃ D, D = u2.heap.size := ⟨_, rfl⟩
  rw [← hW]
  have hBk : Blk W D (n * 2) 64 := by rw [hW, hD]; exact blk_items u2 n
  have hbW : Below u2.heap.size u2 W := by rw [hW]; exact below1 u2 _
  have hsW : W.heap.size = u2.heap.size + 1 := by rw [hW]; simp
  have hDw0 : w.heap.size ≤ D := by omega
  have hDW : D < W.heap.size := by omega
  have HRW := hide ((unhide HR1).below hbW)
  have HKW := hide ((unhide HK1).trans (Keep.of_below hbW))
  have HBk := hide hBk
  rw [← hD]
  clear hmk hW hBk hbW c0 q1 q2 q3 hsl hq HR1 HK1 hD hsW
  go_loopw [39] (fun i wr => ∃ (k : Nat) (rk : List UInt8), k ≤ n ∧ i = .int .i64 k ∧ gMany gItem (n - k) rk = none ∧ rk.length ≤ l.length ∧ Rd R rk wr ∧ Keep R w wr ∧ Blk wr D (n * 2) 64 ∧ D < wr.heap.size) (fun i _ => n - (intOf i).toNat)
  case atStart => exact ⟨0, r1, Nat.zero_le _, rfl, by simpa using unhide GM, hr1, unhide HRW, unhide HKW, unhide HBk, hDW⟩
  case round =>
    obtain ⟨k, rk, hk, rfl, gk, hrl, hRr, hKr, hBr, hDw⟩ := hrel
    have hszr := hKr.size
    have hlt : k < n := by
      rcases Nat.lt_or_ge k n with h1 | h1
      · exact h1
      · rw [show n - k = 0 by omega] at gk
        cases gk
    obtain ⟨m, hm⟩ : ∃ m, n - k = m + 1 := ⟨n - k - 1, by omega⟩
    rw [hm] at gk
    have HRr := hide hRr
    have HKr := hide hKr
    have HBr := hide hBr
    clear hRr hKr hBr
    rcases bind_none gk with gone | ⟨⟨x, r2⟩, gone, gk⟩
    · have GO := hide gone
      clear gone gk
      go_wp2_with fail
      refine (item_no (unhide HRr) (unhide GO)).mono ?_
      rintro e w5 ⟨rfl, hK5⟩
      have HK5 := hide ((unhide HKr).trans hK5)
      clear hK5
      go_wp2
      exact ⟨rfl, rfl, unhide HK5⟩
    · rcases bind_none gk with gm2 | ⟨_, _, gk⟩
      rotate_left
      · cases gk
      have hr2 : r2.length ≤ rk.length := len_items gone
      rw [show m = n - (k + 1) by omega] at gm2
      have GO := hide gone
      have GM2 := hide gm2
      clear gone gm2 gk hm
      go_wp2_with fail
      refine (item_is (unhide HRr) (Nat.le_trans hrl hl) (unhide GO)).mono ?_
      rintro e w5 ⟨rfl, hR5, hK5⟩
      have hBk5 : Blk w5 D (n * 2) 64 := (by obtain ⟨cur, q1, q2⟩ := unhide HBr; exact ⟨cur, hK5.blk q1 (by omega), q2⟩)
      have hsz5 := hK5.size
      obtain ⟨old0, c0⟩ := hBk5.cell (k * 2) (by omega)
      have f0 := hBk5.froz (k * 2)
      obtain ⟨old1, c1⟩ := hBk5.cell (k * 2 + 1) (by omega)
      have f1 := hBk5.froz (k * 2 + 1)
      have HB5 := hide hBk5
      have HR5 := hide hR5
      have HK5 := hide ((unhide HKr).trans hK5)
      clear hBk5 hR5 hK5
      go_wp2
      go_roundw
      case rel =>
        have eW : ((w5.setCell ⟨D, k * 2, none⟩ (.int .i64 x.k)).setCell ⟨D, k * 2 + 1, none⟩ (.string x.t)) = put w5 D (k * 2) [.int .i64 x.k, .string x.t] := rfl
        rw [eW]
        exact ⟨k + 1, r2, by omega, by go_num, unhide GM2, by omega, put_rd (unhide HR5) (by omega) _ _, put_keep _ _ (unhide HK5) (by omega), put_blk _ _ (unhide HB5), by rw [put_size]; omega⟩
      case measure => simp [intOf]; omega

end Go.Proofs.YtgheaieghoekhaaDoor

namespace Go.Proofs.YtgheaieghoekhaaDoor
open Go.RowKit

set_option maxHeartbeats 8000000 in
theorem list_inss_no {R : Nat} {l : List UInt8} {w : World} (h : Rd R l w) (hl : l.length ≤ 140737488355328) (hg : gList gIns 4 8388608 14 l = none) :
    Calls Tryd.prog 66 #[.pointer (some ⟨R, 0, none⟩), .int .i64 4, .int .i64 8388608, .int .i64 14, .func (.func 67) #[] #[]] w fun e w' => Gone R w e w' := by
  have hRl := h.lt
  have H := hide h
  clear h
  rcases bind_none hg with g1 | ⟨⟨c, r1⟩, g1, hg⟩
  · have G1 := hide g1
    clear g1 hg
    go_enter Tryd.func66, Tryd.ntmps66
    go_wp2_with fail
    refine (num_no (unhide H) (unhide G1) rfl).mono ?_
    rintro e u1 ⟨rfl, hK⟩
    have HK := hide hK
    clear hK
    go_wp2
    exact ⟨rfl, rfl, unhide HK⟩
  obtain ⟨n, rfl, _⟩ := gNum_small g1 (by omega)
  have hr1 : r1.length ≤ l.length := gNum_len g1
  have G1 := hide g1
  clear g1
  simp only at hg
  by_cases hn1 : (n : Int) ≤ 8388608
  rotate_left
  · have q1 : decide ((n : Int) ≤ 8388608) = false := by simpa using hn1
    clear hg
    go_enter Tryd.func66, Tryd.ntmps66
    go_wp2_with fail
    refine (num_is (unhide H) (unhide G1) rfl (by omega)).mono ?_
    rintro e u1 ⟨rfl, hR1, hK1⟩
    have HK1 := hide hK1
    clear hR1 hK1
    go_wp2_with fail
    refine (need_ne _ (by first | with_reducible rfl | exact decide_eq_false (by omega)) _).mono ?_
    rintro e u2 ⟨rfl, hu⟩
    subst hu
    go_wp2
    exact ⟨rfl, rfl, unhide HK1⟩
  have q1 : decide ((n : Int) ≤ 8388608) = true := by simpa using hn1
  by_cases hn2 : n ≤ r1.length / 14
  rotate_left
  · clear hg
    go_enter Tryd.func66, Tryd.ntmps66
    go_wp2_with fail
    refine (num_is (unhide H) (unhide G1) rfl (by omega)).mono ?_
    rintro e u1 ⟨rfl, hR1, hK1⟩
    obtain ⟨s, hs, hsb⟩ := hR1
    have hss : s.size = r1.length := by rw [size_list, hs]
    have c0 : u1.cell? ⟨R, 0, none⟩ = some (.string s) := by rw [Lib.cell_of_heap hsb]; rfl
    have q2 : decide ((n : Int) ≤ (s.size : Int) / 14) = false := by simp; omega
    have hsl : s.size ≤ 140737488355328 := by omega
    have hq : ¬ n ≤ s.size / 14 := by rw [hss]; exact hn2
    have HK1 := hide hK1
    clear hs hsb hK1 hss
    go_wp2_with fail
    refine (need_ne _ (by first | with_reducible rfl | exact decide_eq_false (by omega)) _).mono ?_
    rintro e u2 ⟨rfl, hu⟩
    subst hu
    go_wp2
    exact ⟨rfl, rfl, unhide HK1⟩
  rw [if_pos ⟨hn1, by omega⟩, Int.toNat_natCast] at hg
  have hn8 : n ≤ 8388608 := by omega
  have c0n : ¬ n = 0 := fun e => by subst e; cases hg
  have hmk := mk_inss n
  have GM := hide hg
  clear hg
  go_enter Tryd.func66, Tryd.ntmps66
  go_wp2_with fail
  refine (num_is (unhide H) (unhide G1) rfl (by omega)).mono ?_
  rintro e u1 ⟨rfl, hR1, hK1⟩
  obtain ⟨s, hs, hsb⟩ := hR1
  have hss : s.size = r1.length := by rw [size_list, hs]
  have c0 : u1.cell? ⟨R, 0, none⟩ = some (.string s) := by rw [Lib.cell_of_heap hsb]; rfl
  have q2 : decide ((n : Int) ≤ (s.size : Int) / 14) = true := by simp; omega
  have hsl : s.size ≤ 140737488355328 := by omega
  have hq : n ≤ s.size / 14 := by rw [hss]; exact hn2
  have hu1 := hK1.size
  have HR1 := hide (show Rd R r1 u1 from ⟨s, hs, hsb⟩)
  have HK1 := hide hK1
  clear hs hsb hK1 hss
  have q3 : ((n : Int) == 0) = false := by simp; omega
  go_wp2_with fail
  refine (need_eq _ (by first | with_reducible rfl | exact decide_eq_true (by omega)) _).mono ?_
  rintro e u2 ⟨rfl, hu2⟩
  subst hu2
  go_wp2
  obtain ⟨W, hW⟩ : ∃ W, W = u2.alloc (.cells (mc_inss n) 29) := ⟨_, rfl⟩
  obtain ⟨D, hD⟩ : ∃ D, D = u2.heap.size := ⟨_, rfl⟩
  rw [← hW]
  have hBk : Blk W D (n * 4) 29 := by rw [hW, hD]; exact blk_inss u2 n
  have hbW : Below u2.heap.size u2 W := by rw [hW]; exact below1 u2 _
  have hsW : W.heap.size = u2.heap.size + 1 := by rw [hW]; simp
  have hDw0 : w.heap.size ≤ D := by omega
  have hDW : D < W.heap.size := by omega
  have HRW := hide ((unhide HR1).below hbW)
  have HKW := hide ((unhide HK1).trans (Keep.of_below hbW))
  have HBk := hide hBk
  rw [← hD]
  clear hmk hW hBk hbW c0 q1 q2 q3 hsl hq HR1 HK1 hD hsW
  go_loopw [39] (fun i wr => ∃ (k : Nat) (rk : List UInt8), k ≤ n ∧ i = .int .i64 k ∧ gMany gIns (n - k) rk = none ∧ rk.length ≤ l.length ∧ Rd R rk wr ∧ Keep R w wr ∧ Blk wr D (n * 4) 29 ∧ D < wr.heap.size) (fun i _ => n - (intOf i).toNat)
  case atStart => exact ⟨0, r1, Nat.zero_le _, rfl, by simpa using unhide GM, hr1, unhide HRW, unhide HKW, unhide HBk, hDW⟩
  case round =>
    obtain ⟨k, rk, hk, rfl, gk, hrl, hRr, hKr, hBr, hDw⟩ := hrel
    have hszr := hKr.size
    have hlt : k < n := by
      rcases Nat.lt_or_ge k n with h1 | h1
      · exact h1
      · rw [show n - k = 0 by omega] at gk
        cases gk
    obtain ⟨m, hm⟩ : ∃ m, n - k = m + 1 := ⟨n - k - 1, by omega⟩
    rw [hm] at gk
    have HRr := hide hRr
    have HKr := hide hKr
    have HBr := hide hBr
    clear hRr hKr hBr
    rcases bind_none gk with gone | ⟨⟨x, r2⟩, gone, gk⟩
    · have GO := hide gone
      clear gone gk
      go_wp2_with fail
      refine (ins_no (unhide HRr) (unhide GO)).mono ?_
      rintro e w5 ⟨rfl, hK5⟩
      have HK5 := hide ((unhide HKr).trans hK5)
      clear hK5
      go_wp2
      exact ⟨rfl, rfl, unhide HK5⟩
    · rcases bind_none gk with gm2 | ⟨_, _, gk⟩
      rotate_left
      · cases gk
      have hr2 : r2.length ≤ rk.length := len_inss gone
      rw [show m = n - (k + 1) by omega] at gm2
      have GO := hide gone
      have GM2 := hide gm2
      clear gone gm2 gk hm
      go_wp2_with fail
      refine (ins_is (unhide HRr) (unhide GO)).mono ?_
      rintro e w5 ⟨rfl, hR5, hK5⟩
      have hBk5 : Blk w5 D (n * 4) 29 := (by obtain ⟨cur, q1, q2⟩ := unhide HBr; exact ⟨cur, hK5.blk q1 (by omega), q2⟩)
      have hsz5 := hK5.size
      obtain ⟨old0, c0⟩ := hBk5.cell (k * 4) (by omega)
      have f0 := hBk5.froz (k * 4)
      obtain ⟨old1, c1⟩ := hBk5.cell (k * 4 + 1) (by omega)
      have f1 := hBk5.froz (k * 4 + 1)
      obtain ⟨old2, c2⟩ := hBk5.cell (k * 4 + 2) (by omega)
      have f2 := hBk5.froz (k * 4 + 2)
      obtain ⟨old3, c3⟩ := hBk5.cell (k * 4 + 3) (by omega)
      have f3 := hBk5.froz (k * 4 + 3)
      have HB5 := hide hBk5
      have HR5 := hide hR5
      have HK5 := hide ((unhide HKr).trans hK5)
      clear hBk5 hR5 hK5
      go_wp2
      go_roundw
      case rel =>
        have eW : ((((w5.setCell ⟨D, k * 4, none⟩ (.int .i64 x.op)).setCell ⟨D, k * 4 + 1, none⟩ (.int .i64 x.a)).setCell ⟨D, k * 4 + 2, none⟩ (.int .i64 x.b)).setCell ⟨D, k * 4 + 3, none⟩ (.int .i64 x.l)) = put w5 D (k * 4) [.int .i64 x.op, .int .i64 x.a, .int .i64 x.b, .int .i64 x.l] := rfl
        rw [eW]
        exact ⟨k + 1, r2, by omega, by go_num, unhide GM2, by omega, put_rd (unhide HR5) (by omega) _ _, put_keep _ _ (unhide HK5) (by omega), put_blk _ _ (unhide HB5), by rw [put_size]; omega⟩
      case measure => simp [intOf]; omega

end Go.Proofs.YtgheaieghoekhaaDoor

namespace Go.Proofs.YtgheaieghoekhaaDoor
open Go.RowKit

set_option maxHeartbeats 2000000 in
theorem print_no {R : Nat} {l : List UInt8} {w : World} (h : Rd R l w) (hl : l.length ≤ 140737488355328) (hg : gPrint l = none) :
    Calls Tryd.prog 41 #[.pointer (some ⟨R, 0, none⟩)] w fun e w' => Gone R w e w' := by
  have H := hide h
  have G := hide hg
  clear h hg
  go_enter Tryd.func41, Tryd.ntmps41
  go_wp2_with fail
  refine (list_items_no (unhide H) hl (unhide G)).mono ?_
  rintro e w1 ⟨rfl, hK⟩
  have HK := hide hK
  clear hK
  go_wp2
  exact ⟨rfl, rfl, unhide HK⟩

set_option maxHeartbeats 2000000 in
theorem arms_no {R : Nat} {l : List UInt8} {w : World} (h : Rd R l w) (hl : l.length ≤ 140737488355328) (hg : gArm l = none) :
    Calls Tryd.prog 43 #[.pointer (some ⟨R, 0, none⟩)] w fun e w' => Gone R w e w' := by
  have H := hide h
  have G := hide hg
  clear h hg
  go_enter Tryd.func43, Tryd.ntmps43
  go_wp2_with fail
  refine (list_bools_no (unhide H) hl (unhide G)).mono ?_
  rintro e w1 ⟨rfl, hK⟩
  have HK := hide hK
  clear hK
  go_wp2
  exact ⟨rfl, rfl, unhide HK⟩

set_option maxHeartbeats 4000000 in
theorem fun_no {R : Nat} {l : List UInt8} {w : World} (h : Rd R l w) (hl : l.length ≤ 140737488355328) (hg : gFun l = none) :
    Calls Tryd.prog 39 #[.pointer (some ⟨R, 0, none⟩)] w fun e w' => Gone R w e w' := by
  have hRl := h.lt
  have H := hide h
  clear h
  rcases bind_none hg with g1 | ⟨⟨x1, r1⟩, g1, hg⟩
  · have G1 := hide g1
    clear g1 hg
    go_enter Tryd.func39, Tryd.ntmps39
    go_wp2_with fail
    refine (text_no ((unhide H).alloc2 _ _) (unhide G1)).mono ?_
    rintro e uF ⟨rfl, hK⟩
    have HKF := hide ((keep_alloc2 _ _ _).trans hK)
    clear hK
    go_wp2
    exact ⟨rfl, rfl, unhide HKF⟩
  have G1 := hide g1
  have h1 : r1.length ≤ l.length := len_text g1
  clear g1
  rcases bind_none hg with g2 | ⟨⟨x2, r2⟩, g2, hg⟩
  · have G2 := hide g2
    clear g2 hg
    go_enter Tryd.func39, Tryd.ntmps39
    go_wp2_with fail
    refine (text_is ((unhide H).alloc2 _ _) hl (unhide G1)).mono ?_
    rintro e u1 ⟨rfl, hR, hK⟩
    have b1 : u1.heap[w.heap.size + 1]? = some (.cells #[.string ⟨#[]⟩, .int .i64 0, .int .i64 0, .bool false, .slice none 0 0] 51 (0, 0)) := hK.blk (new2' w _ _) (by omega)
    have b0 : u1.heap[w.heap.size]? = some (.cells #[.string ⟨#[]⟩, .int .i64 0, .int .i64 0, .bool false, .slice none 0 0] 51 (0, 0)) := hK.blk (new2 w _ _) (by omega)
    have c0 : u1.cell? ⟨w.heap.size + 1, 0, none⟩ = some (.string ⟨#[]⟩) := by rw [Lib.cell_of_heap b1]; rfl
    have c1 : u1.cell? ⟨w.heap.size + 1, 1, none⟩ = some (.int .i64 0) := by rw [Lib.cell_of_heap b1]; rfl
    have c2 : u1.cell? ⟨w.heap.size + 1, 2, none⟩ = some (.int .i64 0) := by rw [Lib.cell_of_heap b1]; rfl
    have c3 : u1.cell? ⟨w.heap.size + 1, 3, none⟩ = some (.bool false) := by rw [Lib.cell_of_heap b1]; rfl
    have c4 : u1.cell? ⟨w.heap.size + 1, 4, none⟩ = some (.slice none 0 0) := by rw [Lib.cell_of_heap b1]; rfl
    have f0 : u1.frozen? ⟨w.heap.size + 1, 0, none⟩ = false := Lib.frozen_of_heap b1 0
    have HR1 := hide hR
    have HK1 := hide ((keep_alloc2 _ _ _).trans hK)
    have HB11 := hide b1
    have HB01 := hide b0
    clear hR hK b1 b0
    go_wp2_with fail
    refine (num_no ((unhide HR1).set (show w.heap.size + 1 ≠ R by omega) 0 (.string x1)) (unhide G2) rfl).mono ?_
    rintro e uF ⟨rfl, hK⟩
    have HKF := hide (((unhide HK1).setN (show w.heap.size ≤ w.heap.size + 1 by omega) 0 (.string x1)).trans hK)
    clear hK
    go_wp2
    exact ⟨rfl, rfl, unhide HKF⟩
  have G2 := hide g2
  have h2 : r2.length ≤ r1.length := gNum_len g2
  clear g2
  rcases bind_none hg with g3 | ⟨⟨x3, r3⟩, g3, hg⟩
  · have G3 := hide g3
    clear g3 hg
    go_enter Tryd.func39, Tryd.ntmps39
    go_wp2_with fail
    refine (text_is ((unhide H).alloc2 _ _) hl (unhide G1)).mono ?_
    rintro e u1 ⟨rfl, hR, hK⟩
    have b1 : u1.heap[w.heap.size + 1]? = some (.cells #[.string ⟨#[]⟩, .int .i64 0, .int .i64 0, .bool false, .slice none 0 0] 51 (0, 0)) := hK.blk (new2' w _ _) (by omega)
    have b0 : u1.heap[w.heap.size]? = some (.cells #[.string ⟨#[]⟩, .int .i64 0, .int .i64 0, .bool false, .slice none 0 0] 51 (0, 0)) := hK.blk (new2 w _ _) (by omega)
    have c0 : u1.cell? ⟨w.heap.size + 1, 0, none⟩ = some (.string ⟨#[]⟩) := by rw [Lib.cell_of_heap b1]; rfl
    have c1 : u1.cell? ⟨w.heap.size + 1, 1, none⟩ = some (.int .i64 0) := by rw [Lib.cell_of_heap b1]; rfl
    have c2 : u1.cell? ⟨w.heap.size + 1, 2, none⟩ = some (.int .i64 0) := by rw [Lib.cell_of_heap b1]; rfl
    have c3 : u1.cell? ⟨w.heap.size + 1, 3, none⟩ = some (.bool false) := by rw [Lib.cell_of_heap b1]; rfl
    have c4 : u1.cell? ⟨w.heap.size + 1, 4, none⟩ = some (.slice none 0 0) := by rw [Lib.cell_of_heap b1]; rfl
    have f0 : u1.frozen? ⟨w.heap.size + 1, 0, none⟩ = false := Lib.frozen_of_heap b1 0
    have HR1 := hide hR
    have HK1 := hide ((keep_alloc2 _ _ _).trans hK)
    have HB11 := hide b1
    have HB01 := hide b0
    clear hR hK b1 b0
    go_wp2_with fail
    refine (num_is ((unhide HR1).set (show w.heap.size + 1 ≠ R by omega) 0 (.string x1)) (unhide G2) rfl (by omega)).mono ?_
    rintro e u2 ⟨rfl, hR, hK⟩
    have b1 : u2.heap[w.heap.size + 1]? = some (.cells #[.string x1, .int .i64 0, .int .i64 0, .bool false, .slice none 0 0] 51 (0, 0)) := hK.blk (heap_set (unhide HB11) 0 (.string x1)) (by omega)
    have b0 : u2.heap[w.heap.size]? = some (.cells #[.string ⟨#[]⟩, .int .i64 0, .int .i64 0, .bool false, .slice none 0 0] 51 (0, 0)) := hK.blk (heap_setO (unhide HB01) (show w.heap.size ≠ w.heap.size + 1 by omega) 0 (.string x1)) (by omega)
    have c0 : u2.cell? ⟨w.heap.size + 1, 0, none⟩ = some (.string x1) := by rw [Lib.cell_of_heap b1]; rfl
    have c1 : u2.cell? ⟨w.heap.size + 1, 1, none⟩ = some (.int .i64 0) := by rw [Lib.cell_of_heap b1]; rfl
    have c2 : u2.cell? ⟨w.heap.size + 1, 2, none⟩ = some (.int .i64 0) := by rw [Lib.cell_of_heap b1]; rfl
    have c3 : u2.cell? ⟨w.heap.size + 1, 3, none⟩ = some (.bool false) := by rw [Lib.cell_of_heap b1]; rfl
    have c4 : u2.cell? ⟨w.heap.size + 1, 4, none⟩ = some (.slice none 0 0) := by rw [Lib.cell_of_heap b1]; rfl
    have f1 : u2.frozen? ⟨w.heap.size + 1, 1, none⟩ = false := Lib.frozen_of_heap b1 1
    have HR2 := hide hR
    have HK2 := hide (((unhide HK1).setN (show w.heap.size ≤ w.heap.size + 1 by omega) 0 (.string x1)).trans hK)
    have HB12 := hide b1
    have HB02 := hide b0
    clear hR hK b1 b0
    go_wp2_with fail
    refine (num_no ((unhide HR2).set (show w.heap.size + 1 ≠ R by omega) 1 (.int .i64 x2)) (unhide G3) rfl).mono ?_
    rintro e uF ⟨rfl, hK⟩
    have HKF := hide (((unhide HK2).setN (show w.heap.size ≤ w.heap.size + 1 by omega) 1 (.int .i64 x2)).trans hK)
    clear hK
    go_wp2
    exact ⟨rfl, rfl, unhide HKF⟩
  have G3 := hide g3
  have h3 : r3.length ≤ r2.length := gNum_len g3
  clear g3
  rcases bind_none hg with g4 | ⟨⟨x4, r4⟩, g4, hg⟩
  · have G4 := hide g4
    clear g4 hg
    go_enter Tryd.func39, Tryd.ntmps39
    go_wp2_with fail
    refine (text_is ((unhide H).alloc2 _ _) hl (unhide G1)).mono ?_
    rintro e u1 ⟨rfl, hR, hK⟩
    have b1 : u1.heap[w.heap.size + 1]? = some (.cells #[.string ⟨#[]⟩, .int .i64 0, .int .i64 0, .bool false, .slice none 0 0] 51 (0, 0)) := hK.blk (new2' w _ _) (by omega)
    have b0 : u1.heap[w.heap.size]? = some (.cells #[.string ⟨#[]⟩, .int .i64 0, .int .i64 0, .bool false, .slice none 0 0] 51 (0, 0)) := hK.blk (new2 w _ _) (by omega)
    have c0 : u1.cell? ⟨w.heap.size + 1, 0, none⟩ = some (.string ⟨#[]⟩) := by rw [Lib.cell_of_heap b1]; rfl
    have c1 : u1.cell? ⟨w.heap.size + 1, 1, none⟩ = some (.int .i64 0) := by rw [Lib.cell_of_heap b1]; rfl
    have c2 : u1.cell? ⟨w.heap.size + 1, 2, none⟩ = some (.int .i64 0) := by rw [Lib.cell_of_heap b1]; rfl
    have c3 : u1.cell? ⟨w.heap.size + 1, 3, none⟩ = some (.bool false) := by rw [Lib.cell_of_heap b1]; rfl
    have c4 : u1.cell? ⟨w.heap.size + 1, 4, none⟩ = some (.slice none 0 0) := by rw [Lib.cell_of_heap b1]; rfl
    have f0 : u1.frozen? ⟨w.heap.size + 1, 0, none⟩ = false := Lib.frozen_of_heap b1 0
    have HR1 := hide hR
    have HK1 := hide ((keep_alloc2 _ _ _).trans hK)
    have HB11 := hide b1
    have HB01 := hide b0
    clear hR hK b1 b0
    go_wp2_with fail
    refine (num_is ((unhide HR1).set (show w.heap.size + 1 ≠ R by omega) 0 (.string x1)) (unhide G2) rfl (by omega)).mono ?_
    rintro e u2 ⟨rfl, hR, hK⟩
    have b1 : u2.heap[w.heap.size + 1]? = some (.cells #[.string x1, .int .i64 0, .int .i64 0, .bool false, .slice none 0 0] 51 (0, 0)) := hK.blk (heap_set (unhide HB11) 0 (.string x1)) (by omega)
    have b0 : u2.heap[w.heap.size]? = some (.cells #[.string ⟨#[]⟩, .int .i64 0, .int .i64 0, .bool false, .slice none 0 0] 51 (0, 0)) := hK.blk (heap_setO (unhide HB01) (show w.heap.size ≠ w.heap.size + 1 by omega) 0 (.string x1)) (by omega)
    have c0 : u2.cell? ⟨w.heap.size + 1, 0, none⟩ = some (.string x1) := by rw [Lib.cell_of_heap b1]; rfl
    have c1 : u2.cell? ⟨w.heap.size + 1, 1, none⟩ = some (.int .i64 0) := by rw [Lib.cell_of_heap b1]; rfl
    have c2 : u2.cell? ⟨w.heap.size + 1, 2, none⟩ = some (.int .i64 0) := by rw [Lib.cell_of_heap b1]; rfl
    have c3 : u2.cell? ⟨w.heap.size + 1, 3, none⟩ = some (.bool false) := by rw [Lib.cell_of_heap b1]; rfl
    have c4 : u2.cell? ⟨w.heap.size + 1, 4, none⟩ = some (.slice none 0 0) := by rw [Lib.cell_of_heap b1]; rfl
    have f1 : u2.frozen? ⟨w.heap.size + 1, 1, none⟩ = false := Lib.frozen_of_heap b1 1
    have HR2 := hide hR
    have HK2 := hide (((unhide HK1).setN (show w.heap.size ≤ w.heap.size + 1 by omega) 0 (.string x1)).trans hK)
    have HB12 := hide b1
    have HB02 := hide b0
    clear hR hK b1 b0
    go_wp2_with fail
    refine (num_is ((unhide HR2).set (show w.heap.size + 1 ≠ R by omega) 1 (.int .i64 x2)) (unhide G3) rfl (by omega)).mono ?_
    rintro e u3 ⟨rfl, hR, hK⟩
    have b1 : u3.heap[w.heap.size + 1]? = some (.cells #[.string x1, .int .i64 x2, .int .i64 0, .bool false, .slice none 0 0] 51 (0, 0)) := hK.blk (heap_set (unhide HB12) 1 (.int .i64 x2)) (by omega)
    have b0 : u3.heap[w.heap.size]? = some (.cells #[.string ⟨#[]⟩, .int .i64 0, .int .i64 0, .bool false, .slice none 0 0] 51 (0, 0)) := hK.blk (heap_setO (unhide HB02) (show w.heap.size ≠ w.heap.size + 1 by omega) 1 (.int .i64 x2)) (by omega)
    have c0 : u3.cell? ⟨w.heap.size + 1, 0, none⟩ = some (.string x1) := by rw [Lib.cell_of_heap b1]; rfl
    have c1 : u3.cell? ⟨w.heap.size + 1, 1, none⟩ = some (.int .i64 x2) := by rw [Lib.cell_of_heap b1]; rfl
    have c2 : u3.cell? ⟨w.heap.size + 1, 2, none⟩ = some (.int .i64 0) := by rw [Lib.cell_of_heap b1]; rfl
    have c3 : u3.cell? ⟨w.heap.size + 1, 3, none⟩ = some (.bool false) := by rw [Lib.cell_of_heap b1]; rfl
    have c4 : u3.cell? ⟨w.heap.size + 1, 4, none⟩ = some (.slice none 0 0) := by rw [Lib.cell_of_heap b1]; rfl
    have f2 : u3.frozen? ⟨w.heap.size + 1, 2, none⟩ = false := Lib.frozen_of_heap b1 2
    have HR3 := hide hR
    have HK3 := hide (((unhide HK2).setN (show w.heap.size ≤ w.heap.size + 1 by omega) 1 (.int .i64 x2)).trans hK)
    have HB13 := hide b1
    have HB03 := hide b0
    clear hR hK b1 b0
    go_wp2_with fail
    refine (flag_no ((unhide HR3).set (show w.heap.size + 1 ≠ R by omega) 2 (.int .i64 x3)) (unhide G4)).mono ?_
    rintro e uF ⟨rfl, hK⟩
    have HKF := hide (((unhide HK3).setN (show w.heap.size ≤ w.heap.size + 1 by omega) 2 (.int .i64 x3)).trans hK)
    clear hK
    go_wp2
    exact ⟨rfl, rfl, unhide HKF⟩
  have G4 := hide g4
  have h4 : r4.length ≤ r3.length := len_bools g4
  clear g4
  rcases bind_none hg with g5 | ⟨⟨x5, r5⟩, g5, hg⟩
  · have G5 := hide g5
    clear g5 hg
    go_enter Tryd.func39, Tryd.ntmps39
    go_wp2_with fail
    refine (text_is ((unhide H).alloc2 _ _) hl (unhide G1)).mono ?_
    rintro e u1 ⟨rfl, hR, hK⟩
    have b1 : u1.heap[w.heap.size + 1]? = some (.cells #[.string ⟨#[]⟩, .int .i64 0, .int .i64 0, .bool false, .slice none 0 0] 51 (0, 0)) := hK.blk (new2' w _ _) (by omega)
    have b0 : u1.heap[w.heap.size]? = some (.cells #[.string ⟨#[]⟩, .int .i64 0, .int .i64 0, .bool false, .slice none 0 0] 51 (0, 0)) := hK.blk (new2 w _ _) (by omega)
    have c0 : u1.cell? ⟨w.heap.size + 1, 0, none⟩ = some (.string ⟨#[]⟩) := by rw [Lib.cell_of_heap b1]; rfl
    have c1 : u1.cell? ⟨w.heap.size + 1, 1, none⟩ = some (.int .i64 0) := by rw [Lib.cell_of_heap b1]; rfl
    have c2 : u1.cell? ⟨w.heap.size + 1, 2, none⟩ = some (.int .i64 0) := by rw [Lib.cell_of_heap b1]; rfl
    have c3 : u1.cell? ⟨w.heap.size + 1, 3, none⟩ = some (.bool false) := by rw [Lib.cell_of_heap b1]; rfl
    have c4 : u1.cell? ⟨w.heap.size + 1, 4, none⟩ = some (.slice none 0 0) := by rw [Lib.cell_of_heap b1]; rfl
    have f0 : u1.frozen? ⟨w.heap.size + 1, 0, none⟩ = false := Lib.frozen_of_heap b1 0
    have HR1 := hide hR
    have HK1 := hide ((keep_alloc2 _ _ _).trans hK)
    have HB11 := hide b1
    have HB01 := hide b0
    clear hR hK b1 b0
    go_wp2_with fail
    refine (num_is ((unhide HR1).set (show w.heap.size + 1 ≠ R by omega) 0 (.string x1)) (unhide G2) rfl (by omega)).mono ?_
    rintro e u2 ⟨rfl, hR, hK⟩
    have b1 : u2.heap[w.heap.size + 1]? = some (.cells #[.string x1, .int .i64 0, .int .i64 0, .bool false, .slice none 0 0] 51 (0, 0)) := hK.blk (heap_set (unhide HB11) 0 (.string x1)) (by omega)
    have b0 : u2.heap[w.heap.size]? = some (.cells #[.string ⟨#[]⟩, .int .i64 0, .int .i64 0, .bool false, .slice none 0 0] 51 (0, 0)) := hK.blk (heap_setO (unhide HB01) (show w.heap.size ≠ w.heap.size + 1 by omega) 0 (.string x1)) (by omega)
    have c0 : u2.cell? ⟨w.heap.size + 1, 0, none⟩ = some (.string x1) := by rw [Lib.cell_of_heap b1]; rfl
    have c1 : u2.cell? ⟨w.heap.size + 1, 1, none⟩ = some (.int .i64 0) := by rw [Lib.cell_of_heap b1]; rfl
    have c2 : u2.cell? ⟨w.heap.size + 1, 2, none⟩ = some (.int .i64 0) := by rw [Lib.cell_of_heap b1]; rfl
    have c3 : u2.cell? ⟨w.heap.size + 1, 3, none⟩ = some (.bool false) := by rw [Lib.cell_of_heap b1]; rfl
    have c4 : u2.cell? ⟨w.heap.size + 1, 4, none⟩ = some (.slice none 0 0) := by rw [Lib.cell_of_heap b1]; rfl
    have f1 : u2.frozen? ⟨w.heap.size + 1, 1, none⟩ = false := Lib.frozen_of_heap b1 1
    have HR2 := hide hR
    have HK2 := hide (((unhide HK1).setN (show w.heap.size ≤ w.heap.size + 1 by omega) 0 (.string x1)).trans hK)
    have HB12 := hide b1
    have HB02 := hide b0
    clear hR hK b1 b0
    go_wp2_with fail
    refine (num_is ((unhide HR2).set (show w.heap.size + 1 ≠ R by omega) 1 (.int .i64 x2)) (unhide G3) rfl (by omega)).mono ?_
    rintro e u3 ⟨rfl, hR, hK⟩
    have b1 : u3.heap[w.heap.size + 1]? = some (.cells #[.string x1, .int .i64 x2, .int .i64 0, .bool false, .slice none 0 0] 51 (0, 0)) := hK.blk (heap_set (unhide HB12) 1 (.int .i64 x2)) (by omega)
    have b0 : u3.heap[w.heap.size]? = some (.cells #[.string ⟨#[]⟩, .int .i64 0, .int .i64 0, .bool false, .slice none 0 0] 51 (0, 0)) := hK.blk (heap_setO (unhide HB02) (show w.heap.size ≠ w.heap.size + 1 by omega) 1 (.int .i64 x2)) (by omega)
    have c0 : u3.cell? ⟨w.heap.size + 1, 0, none⟩ = some (.string x1) := by rw [Lib.cell_of_heap b1]; rfl
    have c1 : u3.cell? ⟨w.heap.size + 1, 1, none⟩ = some (.int .i64 x2) := by rw [Lib.cell_of_heap b1]; rfl
    have c2 : u3.cell? ⟨w.heap.size + 1, 2, none⟩ = some (.int .i64 0) := by rw [Lib.cell_of_heap b1]; rfl
    have c3 : u3.cell? ⟨w.heap.size + 1, 3, none⟩ = some (.bool false) := by rw [Lib.cell_of_heap b1]; rfl
    have c4 : u3.cell? ⟨w.heap.size + 1, 4, none⟩ = some (.slice none 0 0) := by rw [Lib.cell_of_heap b1]; rfl
    have f2 : u3.frozen? ⟨w.heap.size + 1, 2, none⟩ = false := Lib.frozen_of_heap b1 2
    have HR3 := hide hR
    have HK3 := hide (((unhide HK2).setN (show w.heap.size ≤ w.heap.size + 1 by omega) 1 (.int .i64 x2)).trans hK)
    have HB13 := hide b1
    have HB03 := hide b0
    clear hR hK b1 b0
    go_wp2_with fail
    refine (flag_is ((unhide HR3).set (show w.heap.size + 1 ≠ R by omega) 2 (.int .i64 x3)) (unhide G4)).mono ?_
    rintro e u4 ⟨rfl, hR, hK⟩
    have b1 : u4.heap[w.heap.size + 1]? = some (.cells #[.string x1, .int .i64 x2, .int .i64 x3, .bool false, .slice none 0 0] 51 (0, 0)) := hK.blk (heap_set (unhide HB13) 2 (.int .i64 x3)) (by omega)
    have b0 : u4.heap[w.heap.size]? = some (.cells #[.string ⟨#[]⟩, .int .i64 0, .int .i64 0, .bool false, .slice none 0 0] 51 (0, 0)) := hK.blk (heap_setO (unhide HB03) (show w.heap.size ≠ w.heap.size + 1 by omega) 2 (.int .i64 x3)) (by omega)
    have c0 : u4.cell? ⟨w.heap.size + 1, 0, none⟩ = some (.string x1) := by rw [Lib.cell_of_heap b1]; rfl
    have c1 : u4.cell? ⟨w.heap.size + 1, 1, none⟩ = some (.int .i64 x2) := by rw [Lib.cell_of_heap b1]; rfl
    have c2 : u4.cell? ⟨w.heap.size + 1, 2, none⟩ = some (.int .i64 x3) := by rw [Lib.cell_of_heap b1]; rfl
    have c3 : u4.cell? ⟨w.heap.size + 1, 3, none⟩ = some (.bool false) := by rw [Lib.cell_of_heap b1]; rfl
    have c4 : u4.cell? ⟨w.heap.size + 1, 4, none⟩ = some (.slice none 0 0) := by rw [Lib.cell_of_heap b1]; rfl
    have f3 : u4.frozen? ⟨w.heap.size + 1, 3, none⟩ = false := Lib.frozen_of_heap b1 3
    have HR4 := hide hR
    have HK4 := hide (((unhide HK3).setN (show w.heap.size ≤ w.heap.size + 1 by omega) 2 (.int .i64 x3)).trans hK)
    have HB14 := hide b1
    have HB04 := hide b0
    clear hR hK b1 b0
    go_wp2_with fail
    refine (list_inss_no ((unhide HR4).set (show w.heap.size + 1 ≠ R by omega) 3 (.bool x4)) (by omega) (unhide G5)).mono ?_
    rintro e uF ⟨rfl, hK⟩
    have HKF := hide (((unhide HK4).setN (show w.heap.size ≤ w.heap.size + 1 by omega) 3 (.bool x4)).trans hK)
    clear hK
    go_wp2
    exact ⟨rfl, rfl, unhide HKF⟩
  cases hg

end Go.Proofs.YtgheaieghoekhaaDoor

namespace Go.Proofs.YtgheaieghoekhaaDoor
open Go.RowKit

set_option maxHeartbeats 8000000 in
theorem list_funs_no {R : Nat} {l : List UInt8} {w : World} (h : Rd R l w) (hl : l.length ≤ 140737488355328) (hg : gList gFun 4 100 12 l = none) :
    Calls Tryd.prog 38 #[.pointer (some ⟨R, 0, none⟩), .int .i64 4, .int .i64 100, .int .i64 12, .func (.func 39) #[] #[]] w fun e w' => Gone R w e w' := by
  have hRl := h.lt
  have H := hide h
  clear h
  rcases bind_none hg with g1 | ⟨⟨c, r1⟩, g1, hg⟩
  · have G1 := hide g1
    clear g1 hg
    go_enter Tryd.func38, Tryd.ntmps38
    go_wp2_with fail
    refine (num_no (unhide H) (unhide G1) rfl).mono ?_
    rintro e u1 ⟨rfl, hK⟩
    have HK := hide hK
    clear hK
    go_wp2
    exact ⟨rfl, rfl, unhide HK⟩
  obtain ⟨n, rfl, _⟩ := gNum_small g1 (by omega)
  have hr1 : r1.length ≤ l.length := gNum_len g1
  have G1 := hide g1
  clear g1
  simp only at hg
  by_cases hn1 : (n : Int) ≤ 100
  rotate_left
  · have q1 : decide ((n : Int) ≤ 100) = false := by simpa using hn1
    clear hg
    go_enter Tryd.func38, Tryd.ntmps38
    go_wp2_with fail
    refine (num_is (unhide H) (unhide G1) rfl (by omega)).mono ?_
    rintro e u1 ⟨rfl, hR1, hK1⟩
    have HK1 := hide hK1
    clear hR1 hK1
    go_wp2_with fail
    refine (need_ne _ (by first | with_reducible rfl | exact decide_eq_false (by omega)) _).mono ?_
    rintro e u2 ⟨rfl, hu⟩
    subst hu
    go_wp2
    exact ⟨rfl, rfl, unhide HK1⟩
  have q1 : decide ((n : Int) ≤ 100) = true := by simpa using hn1
  by_cases hn2 : n ≤ r1.length / 12
  rotate_left
  · clear hg
    go_enter Tryd.func38, Tryd.ntmps38
    go_wp2_with fail
    refine (num_is (unhide H) (unhide G1) rfl (by omega)).mono ?_
    rintro e u1 ⟨rfl, hR1, hK1⟩
    obtain ⟨s, hs, hsb⟩ := hR1
    have hss : s.size = r1.length := by rw [size_list, hs]
    have c0 : u1.cell? ⟨R, 0, none⟩ = some (.string s) := by rw [Lib.cell_of_heap hsb]; rfl
    have q2 : decide ((n : Int) ≤ (s.size : Int) / 12) = false := by simp; omega
    have hsl : s.size ≤ 140737488355328 := by omega
    have hq : ¬ n ≤ s.size / 12 := by rw [hss]; exact hn2
    have HK1 := hide hK1
    clear hs hsb hK1 hss
    go_wp2_with fail
    refine (need_ne _ (by first | with_reducible rfl | exact decide_eq_false (by omega)) _).mono ?_
    rintro e u2 ⟨rfl, hu⟩
    subst hu
    go_wp2
    exact ⟨rfl, rfl, unhide HK1⟩
  rw [if_pos ⟨hn1, by omega⟩, Int.toNat_natCast] at hg
  have hn8 : n ≤ 8388608 := by omega
  have c0n : ¬ n = 0 := fun e => by subst e; cases hg
  have hmk := mk_funs n
  have GM := hide hg
  clear hg
  go_enter Tryd.func38, Tryd.ntmps38
  go_wp2_with fail
  refine (num_is (unhide H) (unhide G1) rfl (by omega)).mono ?_
  rintro e u1 ⟨rfl, hR1, hK1⟩
  obtain ⟨s, hs, hsb⟩ := hR1
  have hss : s.size = r1.length := by rw [size_list, hs]
  have c0 : u1.cell? ⟨R, 0, none⟩ = some (.string s) := by rw [Lib.cell_of_heap hsb]; rfl
  have q2 : decide ((n : Int) ≤ (s.size : Int) / 12) = true := by simp; omega
  have hsl : s.size ≤ 140737488355328 := by omega
  have hq : n ≤ s.size / 12 := by rw [hss]; exact hn2
  have hu1 := hK1.size
  have HR1 := hide (show Rd R r1 u1 from ⟨s, hs, hsb⟩)
  have HK1 := hide hK1
  clear hs hsb hK1 hss
  have q3 : ((n : Int) == 0) = false := by simp; omega
  go_wp2_with fail
  refine (need_eq _ (by first | with_reducible rfl | exact decide_eq_true (by omega)) _).mono ?_
  rintro e u2 ⟨rfl, hu2⟩
  subst hu2
  go_wp2
  obtain ⟨W, hW⟩ : ∃ W, W = u2.alloc (.cells (mc_funs n) 51) := ⟨_, rfl⟩
  obtain ⟨D, hD⟩ : ∃ D, D = u2.heap.size := ⟨_, rfl⟩
  rw [← hW]
  have hBk : Blk W D (n * 5) 51 := by rw [hW, hD]; exact blk_funs u2 n
  have hbW : Below u2.heap.size u2 W := by rw [hW]; exact below1 u2 _
  have hsW : W.heap.size = u2.heap.size + 1 := by rw [hW]; simp
  have hDw0 : w.heap.size ≤ D := by omega
  have hDW : D < W.heap.size := by omega
  have HRW := hide ((unhide HR1).below hbW)
  have HKW := hide ((unhide HK1).trans (Keep.of_below hbW))
  have HBk := hide hBk
  rw [← hD]
  clear hmk hW hBk hbW c0 q1 q2 q3 hsl hq HR1 HK1 hD hsW
  go_loopw [39] (fun i wr => ∃ (k : Nat) (rk : List UInt8), k ≤ n ∧ i = .int .i64 k ∧ gMany gFun (n - k) rk = none ∧ rk.length ≤ l.length ∧ Rd R rk wr ∧ Keep R w wr ∧ Blk wr D (n * 5) 51 ∧ D < wr.heap.size) (fun i _ => n - (intOf i).toNat)
  case atStart => exact ⟨0, r1, Nat.zero_le _, rfl, by simpa using unhide GM, hr1, unhide HRW, unhide HKW, unhide HBk, hDW⟩
  case round =>
    obtain ⟨k, rk, hk, rfl, gk, hrl, hRr, hKr, hBr, hDw⟩ := hrel
    have hszr := hKr.size
    have hlt : k < n := by
      rcases Nat.lt_or_ge k n with h1 | h1
      · exact h1
      · rw [show n - k = 0 by omega] at gk
        cases gk
    obtain ⟨m, hm⟩ : ∃ m, n - k = m + 1 := ⟨n - k - 1, by omega⟩
    rw [hm] at gk
    have HRr := hide hRr
    have HKr := hide hKr
    have HBr := hide hBr
    clear hRr hKr hBr
    rcases bind_none gk with gone | ⟨⟨x, r2⟩, gone, gk⟩
    · have GO := hide gone
      clear gone gk
      go_wp2_with fail
      refine (fun_no (unhide HRr) (Nat.le_trans hrl hl) (unhide GO)).mono ?_
      rintro e w5 ⟨rfl, hK5⟩
      have HK5 := hide ((unhide HKr).trans hK5)
      clear hK5
      go_wp2
      exact ⟨rfl, rfl, unhide HK5⟩
    · rcases bind_none gk with gm2 | ⟨_, _, gk⟩
      rotate_left
      · cases gk
      have hr2 : r2.length ≤ rk.length := len_funs gone
      rw [show m = n - (k + 1) by omega] at gm2
      have GO := hide gone
      have GM2 := hide gm2
      clear gone gm2 gk hm
      go_wp2_with fail
      refine (fun_is (unhide HRr) (Nat.le_trans hrl hl) (unhide GO)).mono ?_
      rintro e w5 ⟨⟨vv, rfl, hvv⟩, hR5, hK5⟩
      obtain ⟨vb, vo, ⟨va, vc, rfl, -⟩, -⟩ := hvv
      have hBk5 : Blk w5 D (n * 5) 51 := (by obtain ⟨cur, q1, q2⟩ := unhide HBr; exact ⟨cur, hK5.blk q1 (by omega), q2⟩)
      have hsz5 := hK5.size
      obtain ⟨old0, c0⟩ := hBk5.cell (k * 5) (by omega)
      have f0 := hBk5.froz (k * 5)
      obtain ⟨old1, c1⟩ := hBk5.cell (k * 5 + 1) (by omega)
      have f1 := hBk5.froz (k * 5 + 1)
      obtain ⟨old2, c2⟩ := hBk5.cell (k * 5 + 2) (by omega)
      have f2 := hBk5.froz (k * 5 + 2)
      obtain ⟨old3, c3⟩ := hBk5.cell (k * 5 + 3) (by omega)
      have f3 := hBk5.froz (k * 5 + 3)
      obtain ⟨old4, c4⟩ := hBk5.cell (k * 5 + 4) (by omega)
      have f4 := hBk5.froz (k * 5 + 4)
      have HB5 := hide hBk5
      have HR5 := hide hR5
      have HK5 := hide ((unhide HKr).trans hK5)
      clear hBk5 hR5 hK5
      go_wp2
      go_roundw
      case rel =>
        have eW : (((((w5.setCell ⟨D, k * 5, none⟩ (.string x.nm)).setCell ⟨D, k * 5 + 1, none⟩ (.int .i64 x.pa)).setCell ⟨D, k * 5 + 2, none⟩ (.int .i64 x.sl)).setCell ⟨D, k * 5 + 3, none⟩ (.bool x.rs)).setCell ⟨D, k * 5 + 4, none⟩ (.slice va x.cd.length vc)) = put w5 D (k * 5) [.string x.nm, .int .i64 x.pa, .int .i64 x.sl, .bool x.rs, .slice va x.cd.length vc] := rfl
        rw [eW]
        exact ⟨k + 1, r2, by omega, by go_num, unhide GM2, by omega, put_rd (unhide HR5) (by omega) _ _, put_keep _ _ (unhide HK5) (by omega), put_blk _ _ (unhide HB5), by rw [put_size]; omega⟩
      case measure => simp [intOf]; omega

end Go.Proofs.YtgheaieghoekhaaDoor

namespace Go.Proofs.YtgheaieghoekhaaDoor
open Go.RowKit

set_option maxHeartbeats 8000000 in
theorem list_prints_no {R : Nat} {l : List UInt8} {w : World} (h : Rd R l w) (hl : l.length ≤ 140737488355328) (hg : gList gPrint 4 8388608 1 l = none) :
    Calls Tryd.prog 40 #[.pointer (some ⟨R, 0, none⟩), .int .i64 4, .int .i64 8388608, .int .i64 1, .func (.func 41) #[] #[]] w fun e w' => Gone R w e w' := by
  have hRl := h.lt
  have H := hide h
  clear h
  rcases bind_none hg with g1 | ⟨⟨c, r1⟩, g1, hg⟩
  · have G1 := hide g1
    clear g1 hg
    go_enter Tryd.func40, Tryd.ntmps40
    go_wp2_with fail
    refine (num_no (unhide H) (unhide G1) rfl).mono ?_
    rintro e u1 ⟨rfl, hK⟩
    have HK := hide hK
    clear hK
    go_wp2
    exact ⟨rfl, rfl, unhide HK⟩
  obtain ⟨n, rfl, _⟩ := gNum_small g1 (by omega)
  have hr1 : r1.length ≤ l.length := gNum_len g1
  have G1 := hide g1
  clear g1
  simp only at hg
  by_cases hn1 : (n : Int) ≤ 8388608
  rotate_left
  · have q1 : decide ((n : Int) ≤ 8388608) = false := by simpa using hn1
    clear hg
    go_enter Tryd.func40, Tryd.ntmps40
    go_wp2_with fail
    refine (num_is (unhide H) (unhide G1) rfl (by omega)).mono ?_
    rintro e u1 ⟨rfl, hR1, hK1⟩
    have HK1 := hide hK1
    clear hR1 hK1
    go_wp2_with fail
    refine (need_ne _ (by first | with_reducible rfl | exact decide_eq_false (by omega)) _).mono ?_
    rintro e u2 ⟨rfl, hu⟩
    subst hu
    go_wp2
    exact ⟨rfl, rfl, unhide HK1⟩
  have q1 : decide ((n : Int) ≤ 8388608) = true := by simpa using hn1
  by_cases hn2 : n ≤ r1.length / 1
  rotate_left
  · clear hg
    go_enter Tryd.func40, Tryd.ntmps40
    go_wp2_with fail
    refine (num_is (unhide H) (unhide G1) rfl (by omega)).mono ?_
    rintro e u1 ⟨rfl, hR1, hK1⟩
    obtain ⟨s, hs, hsb⟩ := hR1
    have hss : s.size = r1.length := by rw [size_list, hs]
    have c0 : u1.cell? ⟨R, 0, none⟩ = some (.string s) := by rw [Lib.cell_of_heap hsb]; rfl
    have q2 : decide ((n : Int) ≤ (s.size : Int)) = false := by simp; omega
    have hsl : s.size ≤ 140737488355328 := by omega
    have hq : ¬ n ≤ s.size / 1 := by rw [hss]; exact hn2
    have HK1 := hide hK1
    clear hs hsb hK1 hss
    go_wp2_with fail
    refine (need_ne _ (by first | with_reducible rfl | exact decide_eq_false (by omega)) _).mono ?_
    rintro e u2 ⟨rfl, hu⟩
    subst hu
    go_wp2
    exact ⟨rfl, rfl, unhide HK1⟩
  rw [if_pos ⟨hn1, by omega⟩, Int.toNat_natCast] at hg
  have hn8 : n ≤ 8388608 := by omega
  have c0n : ¬ n = 0 := fun e => by subst e; cases hg
  have hmk := mk_prints n
  have GM := hide hg
  clear hg
  go_enter Tryd.func40, Tryd.ntmps40
  go_wp2_with fail
  refine (num_is (unhide H) (unhide G1) rfl (by omega)).mono ?_
  rintro e u1 ⟨rfl, hR1, hK1⟩
  obtain ⟨s, hs, hsb⟩ := hR1
  have hss : s.size = r1.length := by rw [size_list, hs]
  have c0 : u1.cell? ⟨R, 0, none⟩ = some (.string s) := by rw [Lib.cell_of_heap hsb]; rfl
  have q2 : decide ((n : Int) ≤ (s.size : Int)) = true := by simp; omega
  have hsl : s.size ≤ 140737488355328 := by omega
  have hq : n ≤ s.size / 1 := by rw [hss]; exact hn2
  have hu1 := hK1.size
  have HR1 := hide (show Rd R r1 u1 from ⟨s, hs, hsb⟩)
  have HK1 := hide hK1
  clear hs hsb hK1 hss
  have q3 : ((n : Int) == 0) = false := by simp; omega
  go_wp2_with fail
  refine (need_eq _ (by first | with_reducible rfl | exact decide_eq_true (by omega)) _).mono ?_
  rintro e u2 ⟨rfl, hu2⟩
  subst hu2
  go_wp2
  obtain ⟨W, hW⟩ : ∃ W, W = u2.alloc (.cells (mc_prints n) 61) := ⟨_, rfl⟩
  obtain ⟨D, hD⟩ : ∃ D, D = u2.heap.size := ⟨_, rfl⟩
  rw [← hW]
  have hBk : Blk W D (n * 1) 61 := by rw [hW, hD]; exact blk_prints u2 n
  have hbW : Below u2.heap.size u2 W := by rw [hW]; exact below1 u2 _
  have hsW : W.heap.size = u2.heap.size + 1 := by rw [hW]; simp
  have hDw0 : w.heap.size ≤ D := by omega
  have hDW : D < W.heap.size := by omega
  have HRW := hide ((unhide HR1).below hbW)
  have HKW := hide ((unhide HK1).trans (Keep.of_below hbW))
  have HBk := hide hBk
  rw [← hD]
  clear hmk hW hBk hbW c0 q1 q2 q3 hsl hq HR1 HK1 hD hsW
  go_loopw [39] (fun i wr => ∃ (k : Nat) (rk : List UInt8), k ≤ n ∧ i = .int .i64 k ∧ gMany gPrint (n - k) rk = none ∧ rk.length ≤ l.length ∧ Rd R rk wr ∧ Keep R w wr ∧ Blk wr D (n * 1) 61 ∧ D < wr.heap.size) (fun i _ => n - (intOf i).toNat)
  case atStart => exact ⟨0, r1, Nat.zero_le _, rfl, by simpa using unhide GM, hr1, unhide HRW, unhide HKW, unhide HBk, hDW⟩
  case round =>
    obtain ⟨k, rk, hk, rfl, gk, hrl, hRr, hKr, hBr, hDw⟩ := hrel
    have hszr := hKr.size
    have hlt : k < n := by
      rcases Nat.lt_or_ge k n with h1 | h1
      · exact h1
      · rw [show n - k = 0 by omega] at gk
        cases gk
    obtain ⟨m, hm⟩ : ∃ m, n - k = m + 1 := ⟨n - k - 1, by omega⟩
    rw [hm] at gk
    have HRr := hide hRr
    have HKr := hide hKr
    have HBr := hide hBr
    clear hRr hKr hBr
    rcases bind_none gk with gone | ⟨⟨x, r2⟩, gone, gk⟩
    · have GO := hide gone
      clear gone gk
      go_wp2_with fail
      refine (print_no (unhide HRr) (Nat.le_trans hrl hl) (unhide GO)).mono ?_
      rintro e w5 ⟨rfl, hK5⟩
      have HK5 := hide ((unhide HKr).trans hK5)
      clear hK5
      go_wp2
      exact ⟨rfl, rfl, unhide HK5⟩
    · rcases bind_none gk with gm2 | ⟨_, _, gk⟩
      rotate_left
      · cases gk
      have hr2 : r2.length ≤ rk.length := len_prints gone
      rw [show m = n - (k + 1) by omega] at gm2
      have GO := hide gone
      have GM2 := hide gm2
      clear gone gm2 gk hm
      go_wp2_with fail
      refine (print_is (unhide HRr) (Nat.le_trans hrl hl) (unhide GO)).mono ?_
      rintro e w5 ⟨⟨vv, rfl, hvv⟩, hR5, hK5⟩
      obtain ⟨vb, vo, ⟨va, vc, rfl, -⟩, -⟩ := hvv
      have hBk5 : Blk w5 D (n * 1) 61 := (by obtain ⟨cur, q1, q2⟩ := unhide HBr; exact ⟨cur, hK5.blk q1 (by omega), q2⟩)
      have hsz5 := hK5.size
      obtain ⟨old0, c0⟩ := hBk5.cell (k) (by omega)
      have f0 := hBk5.froz (k)
      have HB5 := hide hBk5
      have HR5 := hide hR5
      have HK5 := hide ((unhide HKr).trans hK5)
      clear hBk5 hR5 hK5
      go_wp2
      go_roundw
      case rel =>
        have eW : (w5.setCell ⟨D, k, none⟩ (.slice va x.length vc)) = put w5 D (k) [.slice va x.length vc] := rfl
        rw [eW]
        exact ⟨k + 1, r2, by omega, by go_num, unhide GM2, by omega, put_rd (unhide HR5) (by omega) _ _, put_keep _ _ (unhide HK5) (by omega), put_blk _ _ (unhide HB5), by rw [put_size]; omega⟩
      case measure => simp [intOf]; omega

end Go.Proofs.YtgheaieghoekhaaDoor

namespace Go.Proofs.YtgheaieghoekhaaDoor
open Go.RowKit

set_option maxHeartbeats 8000000 in
theorem list_armss_no {R : Nat} {l : List UInt8} {w : World} (h : Rd R l w) (hl : l.length ≤ 140737488355328) (hg : gList gArm 4 8388608 1 l = none) :
    Calls Tryd.prog 42 #[.pointer (some ⟨R, 0, none⟩), .int .i64 4, .int .i64 8388608, .int .i64 1, .func (.func 43) #[] #[]] w fun e w' => Gone R w e w' := by
  have hRl := h.lt
  have H := hide h
  clear h
  rcases bind_none hg with g1 | ⟨⟨c, r1⟩, g1, hg⟩
  · have G1 := hide g1
    clear g1 hg
    go_enter Tryd.func42, Tryd.ntmps42
    go_wp2_with fail
    refine (num_no (unhide H) (unhide G1) rfl).mono ?_
    rintro e u1 ⟨rfl, hK⟩
    have HK := hide hK
    clear hK
    go_wp2
    exact ⟨rfl, rfl, unhide HK⟩
  obtain ⟨n, rfl, _⟩ := gNum_small g1 (by omega)
  have hr1 : r1.length ≤ l.length := gNum_len g1
  have G1 := hide g1
  clear g1
  simp only at hg
  by_cases hn1 : (n : Int) ≤ 8388608
  rotate_left
  · have q1 : decide ((n : Int) ≤ 8388608) = false := by simpa using hn1
    clear hg
    go_enter Tryd.func42, Tryd.ntmps42
    go_wp2_with fail
    refine (num_is (unhide H) (unhide G1) rfl (by omega)).mono ?_
    rintro e u1 ⟨rfl, hR1, hK1⟩
    have HK1 := hide hK1
    clear hR1 hK1
    go_wp2_with fail
    refine (need_ne _ (by first | with_reducible rfl | exact decide_eq_false (by omega)) _).mono ?_
    rintro e u2 ⟨rfl, hu⟩
    subst hu
    go_wp2
    exact ⟨rfl, rfl, unhide HK1⟩
  have q1 : decide ((n : Int) ≤ 8388608) = true := by simpa using hn1
  by_cases hn2 : n ≤ r1.length / 1
  rotate_left
  · clear hg
    go_enter Tryd.func42, Tryd.ntmps42
    go_wp2_with fail
    refine (num_is (unhide H) (unhide G1) rfl (by omega)).mono ?_
    rintro e u1 ⟨rfl, hR1, hK1⟩
    obtain ⟨s, hs, hsb⟩ := hR1
    have hss : s.size = r1.length := by rw [size_list, hs]
    have c0 : u1.cell? ⟨R, 0, none⟩ = some (.string s) := by rw [Lib.cell_of_heap hsb]; rfl
    have q2 : decide ((n : Int) ≤ (s.size : Int)) = false := by simp; omega
    have hsl : s.size ≤ 140737488355328 := by omega
    have hq : ¬ n ≤ s.size / 1 := by rw [hss]; exact hn2
    have HK1 := hide hK1
    clear hs hsb hK1 hss
    go_wp2_with fail
    refine (need_ne _ (by first | with_reducible rfl | exact decide_eq_false (by omega)) _).mono ?_
    rintro e u2 ⟨rfl, hu⟩
    subst hu
    go_wp2
    exact ⟨rfl, rfl, unhide HK1⟩
  rw [if_pos ⟨hn1, by omega⟩, Int.toNat_natCast] at hg
  have hn8 : n ≤ 8388608 := by omega
  have c0n : ¬ n = 0 := fun e => by subst e; cases hg
  have hmk := mk_armss n
  have GM := hide hg
  clear hg
  go_enter Tryd.func42, Tryd.ntmps42
  go_wp2_with fail
  refine (num_is (unhide H) (unhide G1) rfl (by omega)).mono ?_
  rintro e u1 ⟨rfl, hR1, hK1⟩
  obtain ⟨s, hs, hsb⟩ := hR1
  have hss : s.size = r1.length := by rw [size_list, hs]
  have c0 : u1.cell? ⟨R, 0, none⟩ = some (.string s) := by rw [Lib.cell_of_heap hsb]; rfl
  have q2 : decide ((n : Int) ≤ (s.size : Int)) = true := by simp; omega
  have hsl : s.size ≤ 140737488355328 := by omega
  have hq : n ≤ s.size / 1 := by rw [hss]; exact hn2
  have hu1 := hK1.size
  have HR1 := hide (show Rd R r1 u1 from ⟨s, hs, hsb⟩)
  have HK1 := hide hK1
  clear hs hsb hK1 hss
  have q3 : ((n : Int) == 0) = false := by simp; omega
  go_wp2_with fail
  refine (need_eq _ (by first | with_reducible rfl | exact decide_eq_true (by omega)) _).mono ?_
  rintro e u2 ⟨rfl, hu2⟩
  subst hu2
  go_wp2
  obtain ⟨W, hW⟩ : ∃ W, W = u2.alloc (.cells (mc_armss n) 43) := ⟨_, rfl⟩
  obtain ⟨D, hD⟩ : ∃ D, D = u2.heap.size := ⟨_, rfl⟩
  rw [← hW]
  have hBk : Blk W D (n * 1) 43 := by rw [hW, hD]; exact blk_armss u2 n
  have hbW : Below u2.heap.size u2 W := by rw [hW]; exact below1 u2 _
  have hsW : W.heap.size = u2.heap.size + 1 := by rw [hW]; simp
  have hDw0 : w.heap.size ≤ D := by omega
  have hDW : D < W.heap.size := by omega
  have HRW := hide ((unhide HR1).below hbW)
  have HKW := hide ((unhide HK1).trans (Keep.of_below hbW))
  have HBk := hide hBk
  rw [← hD]
  clear hmk hW hBk hbW c0 q1 q2 q3 hsl hq HR1 HK1 hD hsW
  go_loopw [39] (fun i wr => ∃ (k : Nat) (rk : List UInt8), k ≤ n ∧ i = .int .i64 k ∧ gMany gArm (n - k) rk = none ∧ rk.length ≤ l.length ∧ Rd R rk wr ∧ Keep R w wr ∧ Blk wr D (n * 1) 43 ∧ D < wr.heap.size) (fun i _ => n - (intOf i).toNat)
  case atStart => exact ⟨0, r1, Nat.zero_le _, rfl, by simpa using unhide GM, hr1, unhide HRW, unhide HKW, unhide HBk, hDW⟩
  case round =>
    obtain ⟨k, rk, hk, rfl, gk, hrl, hRr, hKr, hBr, hDw⟩ := hrel
    have hszr := hKr.size
    have hlt : k < n := by
      rcases Nat.lt_or_ge k n with h1 | h1
      · exact h1
      · rw [show n - k = 0 by omega] at gk
        cases gk
    obtain ⟨m, hm⟩ : ∃ m, n - k = m + 1 := ⟨n - k - 1, by omega⟩
    rw [hm] at gk
    have HRr := hide hRr
    have HKr := hide hKr
    have HBr := hide hBr
    clear hRr hKr hBr
    rcases bind_none gk with gone | ⟨⟨x, r2⟩, gone, gk⟩
    · have GO := hide gone
      clear gone gk
      go_wp2_with fail
      refine (arms_no (unhide HRr) (Nat.le_trans hrl hl) (unhide GO)).mono ?_
      rintro e w5 ⟨rfl, hK5⟩
      have HK5 := hide ((unhide HKr).trans hK5)
      clear hK5
      go_wp2
      exact ⟨rfl, rfl, unhide HK5⟩
    · rcases bind_none gk with gm2 | ⟨_, _, gk⟩
      rotate_left
      · cases gk
      have hr2 : r2.length ≤ rk.length := len_armss gone
      rw [show m = n - (k + 1) by omega] at gm2
      have GO := hide gone
      have GM2 := hide gm2
      clear gone gm2 gk hm
      go_wp2_with fail
      refine (arms_is (unhide HRr) (Nat.le_trans hrl hl) (unhide GO)).mono ?_
      rintro e w5 ⟨⟨vv, rfl, hvv⟩, hR5, hK5⟩
      obtain ⟨vb, vo, ⟨va, vc, rfl, -⟩, -⟩ := hvv
      have hBk5 : Blk w5 D (n * 1) 43 := (by obtain ⟨cur, q1, q2⟩ := unhide HBr; exact ⟨cur, hK5.blk q1 (by omega), q2⟩)
      have hsz5 := hK5.size
      obtain ⟨old0, c0⟩ := hBk5.cell (k) (by omega)
      have f0 := hBk5.froz (k)
      have HB5 := hide hBk5
      have HR5 := hide hR5
      have HK5 := hide ((unhide HKr).trans hK5)
      clear hBk5 hR5 hK5
      go_wp2
      go_roundw
      case rel =>
        have eW : (w5.setCell ⟨D, k, none⟩ (.slice va x.length vc)) = put w5 D (k) [.slice va x.length vc] := rfl
        rw [eW]
        exact ⟨k + 1, r2, by omega, by go_num, unhide GM2, by omega, put_rd (unhide HR5) (by omega) _ _, put_keep _ _ (unhide HK5) (by omega), put_blk _ _ (unhide HB5), by rw [put_size]; omega⟩
      case measure => simp [intOf]; omega

end Go.Proofs.YtgheaieghoekhaaDoor

namespace Go.Proofs.YtgheaieghoekhaaDoor
open Go.RowKit

theorem magic_ne {x : ByteArray} (h : ¬ x = ⟨#[68, 82, 87, 49]⟩) : (x.toList == [68, 82, 87, 49]) = false := by
  have := bytes_beq x ⟨#[68, 82, 87, 49]⟩
  rw [decide_eq_false h, ByteArray.toList_eq ⟨#[68, 82, 87, 49]⟩] at this
  exact this

set_option maxHeartbeats 8000000 in
theorem prog_no {R : Nat} {l : List UInt8} {w : World} (h : Rd R l w) (hl : l.length ≤ 140737488355328) (hg : gProg l = none) :
    Calls Tryd.prog 22 #[.pointer (some ⟨R, 0, none⟩)] w fun e w' => Gone R w e w' := by
  have hRl := h.lt
  have H := hide h
  clear h
  rcases bind_none hg with g1 | ⟨⟨x1, r1⟩, g1, hg⟩
  · have G1 := hide (gTake_none g1)
    clear g1 hg
    go_enter Tryd.func22, Tryd.ntmps22
    go_wp2_with fail
    refine (bytes_no ((unhide H).alloc2 _ _) (unhide G1)).mono ?_
    rintro e u0 ⟨rfl, hK⟩
    have HK0 := hide ((keep_alloc2 _ _ _).trans hK)
    clear hK
    go_wp2
    exact ⟨rfl, rfl, unhide HK0⟩
  simp only at hg
  have hr1 : r1.length ≤ l.length := gTake_rest g1
  have G1 := hide g1
  clear g1
  by_cases hx1 : x1 = ⟨#[68, 82, 87, 49]⟩
  rotate_left
  · have qm := magic_ne hx1
    clear hg
    go_enter Tryd.func22, Tryd.ntmps22
    go_wp2_with fail
    refine (take_is ((unhide H).alloc2 _ _) (by omega) (unhide G1)).mono ?_
    rintro e u0 ⟨rfl, hR, hK⟩
    have b1 : u0.heap[w.heap.size + 1]? = some (.cells #[.slice none 0 0, .slice none 0 0, .slice none 0 0, .int .i64 0] 26 (0, 0)) := hK.blk (new2' w _ _) (by omega)
    have b0 : u0.heap[w.heap.size]? = some (.cells #[.slice none 0 0, .slice none 0 0, .slice none 0 0, .int .i64 0] 26 (0, 0)) := hK.blk (new2 w _ _) (by omega)
    have HR0 := hide hR
    have HK0 := hide ((keep_alloc2 _ _ _).trans hK)
    have HB10 := hide b1
    have HB00 := hide b0
    clear hR hK b1 b0
    go_wp2_with fail
    refine (need_ne _ (by first | with_reducible rfl | assumption) _).mono ?_
    rintro e u00 ⟨rfl, hu⟩
    subst hu
    go_wp2
    exact ⟨rfl, rfl, unhide HK0⟩
  rw [if_pos hx1] at hg
  subst hx1
  rcases bind_none hg with g2 | ⟨⟨x2, r2⟩, g2, hg⟩
  · have G2 := hide g2
    clear g2 hg
    go_enter Tryd.func22, Tryd.ntmps22
    go_wp2_with fail
    refine (take_is ((unhide H).alloc2 _ _) (by omega) (unhide G1)).mono ?_
    rintro e u0 ⟨rfl, hR, hK⟩
    have b1 : u0.heap[w.heap.size + 1]? = some (.cells #[.slice none 0 0, .slice none 0 0, .slice none 0 0, .int .i64 0] 26 (0, 0)) := hK.blk (new2' w _ _) (by omega)
    have b0 : u0.heap[w.heap.size]? = some (.cells #[.slice none 0 0, .slice none 0 0, .slice none 0 0, .int .i64 0] 26 (0, 0)) := hK.blk (new2 w _ _) (by omega)
    have HR0 := hide hR
    have HK0 := hide ((keep_alloc2 _ _ _).trans hK)
    have HB10 := hide b1
    have HB00 := hide b0
    clear hR hK b1 b0
    go_wp2_with fail
    refine (need_eq _ (by first | with_reducible rfl | decide) _).mono ?_
    rintro e u00 ⟨rfl, hu⟩
    subst hu
    go_wp2_with fail
    refine (num_no (unhide HR0) (unhide G2) rfl).mono ?_
    rintro e uF ⟨rfl, hK⟩
    have HKF := hide ((unhide HK0).trans hK)
    clear hK
    go_wp2
    exact ⟨rfl, rfl, unhide HKF⟩
  have hr2 : r2.length ≤ r1.length := gNum_len g2
  have G2 := hide g2
  clear g2
  rcases bind_none hg with g3 | ⟨⟨x3, r3⟩, g3, hg⟩
  · have G3 := hide g3
    clear g3 hg
    go_enter Tryd.func22, Tryd.ntmps22
    go_wp2_with fail
    refine (take_is ((unhide H).alloc2 _ _) (by omega) (unhide G1)).mono ?_
    rintro e u0 ⟨rfl, hR, hK⟩
    have b1 : u0.heap[w.heap.size + 1]? = some (.cells #[.slice none 0 0, .slice none 0 0, .slice none 0 0, .int .i64 0] 26 (0, 0)) := hK.blk (new2' w _ _) (by omega)
    have b0 : u0.heap[w.heap.size]? = some (.cells #[.slice none 0 0, .slice none 0 0, .slice none 0 0, .int .i64 0] 26 (0, 0)) := hK.blk (new2 w _ _) (by omega)
    have HR0 := hide hR
    have HK0 := hide ((keep_alloc2 _ _ _).trans hK)
    have HB10 := hide b1
    have HB00 := hide b0
    clear hR hK b1 b0
    go_wp2_with fail
    refine (need_eq _ (by first | with_reducible rfl | decide) _).mono ?_
    rintro e u00 ⟨rfl, hu⟩
    subst hu
    go_wp2_with fail
    refine (num_is (unhide HR0) (unhide G2) rfl (by omega)).mono ?_
    rintro e u1 ⟨rfl, hR, hK⟩
    have b1 : u1.heap[w.heap.size + 1]? = some (.cells #[.slice none 0 0, .slice none 0 0, .slice none 0 0, .int .i64 0] 26 (0, 0)) := hK.blk (unhide HB10) (by omega)
    have b0 : u1.heap[w.heap.size]? = some (.cells #[.slice none 0 0, .slice none 0 0, .slice none 0 0, .int .i64 0] 26 (0, 0)) := hK.blk (unhide HB00) (by omega)
    have c0 : u1.cell? ⟨w.heap.size + 1, 0, none⟩ = some (.slice none 0 0) := by rw [Lib.cell_of_heap b1]; rfl
    have c1 : u1.cell? ⟨w.heap.size + 1, 1, none⟩ = some (.slice none 0 0) := by rw [Lib.cell_of_heap b1]; rfl
    have c2 : u1.cell? ⟨w.heap.size + 1, 2, none⟩ = some (.slice none 0 0) := by rw [Lib.cell_of_heap b1]; rfl
    have c3 : u1.cell? ⟨w.heap.size + 1, 3, none⟩ = some (.int .i64 0) := by rw [Lib.cell_of_heap b1]; rfl
    have f3 : u1.frozen? ⟨w.heap.size + 1, 3, none⟩ = false := Lib.frozen_of_heap b1 3
    have HR1 := hide hR
    have HK1 := hide ((unhide HK0).trans hK)
    have HB11 := hide b1
    have HB01 := hide b0
    clear hR hK b1 b0
    go_wp2_with fail
    refine (list_funs_no ((unhide HR1).set (show w.heap.size + 1 ≠ R by omega) 3 (.int .i64 x2)) (by omega) (unhide G3)).mono ?_
    rintro e uF ⟨rfl, hK⟩
    have HKF := hide (((unhide HK1).setN (show w.heap.size ≤ w.heap.size + 1 by omega) 3 (.int .i64 x2)).trans hK)
    clear hK
    go_wp2
    exact ⟨rfl, rfl, unhide HKF⟩
  have hr3 : r3.length ≤ r2.length := len_list len_funs g3
  have G3 := hide g3
  clear g3
  rcases bind_none hg with g4 | ⟨⟨x4, r4⟩, g4, hg⟩
  · have G4 := hide g4
    clear g4 hg
    go_enter Tryd.func22, Tryd.ntmps22
    go_wp2_with fail
    refine (take_is ((unhide H).alloc2 _ _) (by omega) (unhide G1)).mono ?_
    rintro e u0 ⟨rfl, hR, hK⟩
    have b1 : u0.heap[w.heap.size + 1]? = some (.cells #[.slice none 0 0, .slice none 0 0, .slice none 0 0, .int .i64 0] 26 (0, 0)) := hK.blk (new2' w _ _) (by omega)
    have b0 : u0.heap[w.heap.size]? = some (.cells #[.slice none 0 0, .slice none 0 0, .slice none 0 0, .int .i64 0] 26 (0, 0)) := hK.blk (new2 w _ _) (by omega)
    have HR0 := hide hR
    have HK0 := hide ((keep_alloc2 _ _ _).trans hK)
    have HB10 := hide b1
    have HB00 := hide b0
    clear hR hK b1 b0
    go_wp2_with fail
    refine (need_eq _ (by first | with_reducible rfl | decide) _).mono ?_
    rintro e u00 ⟨rfl, hu⟩
    subst hu
    go_wp2_with fail
    refine (num_is (unhide HR0) (unhide G2) rfl (by omega)).mono ?_
    rintro e u1 ⟨rfl, hR, hK⟩
    have b1 : u1.heap[w.heap.size + 1]? = some (.cells #[.slice none 0 0, .slice none 0 0, .slice none 0 0, .int .i64 0] 26 (0, 0)) := hK.blk (unhide HB10) (by omega)
    have b0 : u1.heap[w.heap.size]? = some (.cells #[.slice none 0 0, .slice none 0 0, .slice none 0 0, .int .i64 0] 26 (0, 0)) := hK.blk (unhide HB00) (by omega)
    have c0 : u1.cell? ⟨w.heap.size + 1, 0, none⟩ = some (.slice none 0 0) := by rw [Lib.cell_of_heap b1]; rfl
    have c1 : u1.cell? ⟨w.heap.size + 1, 1, none⟩ = some (.slice none 0 0) := by rw [Lib.cell_of_heap b1]; rfl
    have c2 : u1.cell? ⟨w.heap.size + 1, 2, none⟩ = some (.slice none 0 0) := by rw [Lib.cell_of_heap b1]; rfl
    have c3 : u1.cell? ⟨w.heap.size + 1, 3, none⟩ = some (.int .i64 0) := by rw [Lib.cell_of_heap b1]; rfl
    have f3 : u1.frozen? ⟨w.heap.size + 1, 3, none⟩ = false := Lib.frozen_of_heap b1 3
    have HR1 := hide hR
    have HK1 := hide ((unhide HK0).trans hK)
    have HB11 := hide b1
    have HB01 := hide b0
    clear hR hK b1 b0
    go_wp2_with fail
    refine (list_funs ((unhide HR1).set (show w.heap.size + 1 ≠ R by omega) 3 (.int .i64 x2)) (by omega) (unhide G3)).mono ?_
    rintro e u2 ⟨⟨vv, rfl, hvv⟩, hR, hK⟩
    obtain ⟨vb, vo, ⟨a3, k3, rfl, -⟩, -⟩ := hvv
    have b1 : u2.heap[w.heap.size + 1]? = some (.cells #[.slice none 0 0, .slice none 0 0, .slice none 0 0, .int .i64 x2] 26 (0, 0)) := hK.blk (heap_set (unhide HB11) 3 (.int .i64 x2)) (by omega)
    have b0 : u2.heap[w.heap.size]? = some (.cells #[.slice none 0 0, .slice none 0 0, .slice none 0 0, .int .i64 0] 26 (0, 0)) := hK.blk (heap_setO (unhide HB01) (show w.heap.size ≠ w.heap.size + 1 by omega) 3 (.int .i64 x2)) (by omega)
    have c0 : u2.cell? ⟨w.heap.size + 1, 0, none⟩ = some (.slice none 0 0) := by rw [Lib.cell_of_heap b1]; rfl
    have c1 : u2.cell? ⟨w.heap.size + 1, 1, none⟩ = some (.slice none 0 0) := by rw [Lib.cell_of_heap b1]; rfl
    have c2 : u2.cell? ⟨w.heap.size + 1, 2, none⟩ = some (.slice none 0 0) := by rw [Lib.cell_of_heap b1]; rfl
    have c3 : u2.cell? ⟨w.heap.size + 1, 3, none⟩ = some (.int .i64 x2) := by rw [Lib.cell_of_heap b1]; rfl
    have f0 : u2.frozen? ⟨w.heap.size + 1, 0, none⟩ = false := Lib.frozen_of_heap b1 0
    have HR2 := hide hR
    have HK2 := hide (((unhide HK1).setN (show w.heap.size ≤ w.heap.size + 1 by omega) 3 (.int .i64 x2)).trans hK)
    have HB12 := hide b1
    have HB02 := hide b0
    clear hR hK b1 b0
    go_wp2_with fail
    refine (list_prints_no ((unhide HR2).set (show w.heap.size + 1 ≠ R by omega) 0 (.slice a3 x3.length k3)) (by omega) (unhide G4)).mono ?_
    rintro e uF ⟨rfl, hK⟩
    have HKF := hide (((unhide HK2).setN (show w.heap.size ≤ w.heap.size + 1 by omega) 0 (.slice a3 x3.length k3)).trans hK)
    clear hK
    go_wp2
    exact ⟨rfl, rfl, unhide HKF⟩
  have hr4 : r4.length ≤ r3.length := len_list len_prints g4
  have G4 := hide g4
  clear g4
  rcases bind_none hg with g5 | ⟨⟨x5, r5⟩, g5, hg⟩
  · have G5 := hide g5
    clear g5 hg
    go_enter Tryd.func22, Tryd.ntmps22
    go_wp2_with fail
    refine (take_is ((unhide H).alloc2 _ _) (by omega) (unhide G1)).mono ?_
    rintro e u0 ⟨rfl, hR, hK⟩
    have b1 : u0.heap[w.heap.size + 1]? = some (.cells #[.slice none 0 0, .slice none 0 0, .slice none 0 0, .int .i64 0] 26 (0, 0)) := hK.blk (new2' w _ _) (by omega)
    have b0 : u0.heap[w.heap.size]? = some (.cells #[.slice none 0 0, .slice none 0 0, .slice none 0 0, .int .i64 0] 26 (0, 0)) := hK.blk (new2 w _ _) (by omega)
    have HR0 := hide hR
    have HK0 := hide ((keep_alloc2 _ _ _).trans hK)
    have HB10 := hide b1
    have HB00 := hide b0
    clear hR hK b1 b0
    go_wp2_with fail
    refine (need_eq _ (by first | with_reducible rfl | decide) _).mono ?_
    rintro e u00 ⟨rfl, hu⟩
    subst hu
    go_wp2_with fail
    refine (num_is (unhide HR0) (unhide G2) rfl (by omega)).mono ?_
    rintro e u1 ⟨rfl, hR, hK⟩
    have b1 : u1.heap[w.heap.size + 1]? = some (.cells #[.slice none 0 0, .slice none 0 0, .slice none 0 0, .int .i64 0] 26 (0, 0)) := hK.blk (unhide HB10) (by omega)
    have b0 : u1.heap[w.heap.size]? = some (.cells #[.slice none 0 0, .slice none 0 0, .slice none 0 0, .int .i64 0] 26 (0, 0)) := hK.blk (unhide HB00) (by omega)
    have c0 : u1.cell? ⟨w.heap.size + 1, 0, none⟩ = some (.slice none 0 0) := by rw [Lib.cell_of_heap b1]; rfl
    have c1 : u1.cell? ⟨w.heap.size + 1, 1, none⟩ = some (.slice none 0 0) := by rw [Lib.cell_of_heap b1]; rfl
    have c2 : u1.cell? ⟨w.heap.size + 1, 2, none⟩ = some (.slice none 0 0) := by rw [Lib.cell_of_heap b1]; rfl
    have c3 : u1.cell? ⟨w.heap.size + 1, 3, none⟩ = some (.int .i64 0) := by rw [Lib.cell_of_heap b1]; rfl
    have f3 : u1.frozen? ⟨w.heap.size + 1, 3, none⟩ = false := Lib.frozen_of_heap b1 3
    have HR1 := hide hR
    have HK1 := hide ((unhide HK0).trans hK)
    have HB11 := hide b1
    have HB01 := hide b0
    clear hR hK b1 b0
    go_wp2_with fail
    refine (list_funs ((unhide HR1).set (show w.heap.size + 1 ≠ R by omega) 3 (.int .i64 x2)) (by omega) (unhide G3)).mono ?_
    rintro e u2 ⟨⟨vv, rfl, hvv⟩, hR, hK⟩
    obtain ⟨vb, vo, ⟨a3, k3, rfl, -⟩, -⟩ := hvv
    have b1 : u2.heap[w.heap.size + 1]? = some (.cells #[.slice none 0 0, .slice none 0 0, .slice none 0 0, .int .i64 x2] 26 (0, 0)) := hK.blk (heap_set (unhide HB11) 3 (.int .i64 x2)) (by omega)
    have b0 : u2.heap[w.heap.size]? = some (.cells #[.slice none 0 0, .slice none 0 0, .slice none 0 0, .int .i64 0] 26 (0, 0)) := hK.blk (heap_setO (unhide HB01) (show w.heap.size ≠ w.heap.size + 1 by omega) 3 (.int .i64 x2)) (by omega)
    have c0 : u2.cell? ⟨w.heap.size + 1, 0, none⟩ = some (.slice none 0 0) := by rw [Lib.cell_of_heap b1]; rfl
    have c1 : u2.cell? ⟨w.heap.size + 1, 1, none⟩ = some (.slice none 0 0) := by rw [Lib.cell_of_heap b1]; rfl
    have c2 : u2.cell? ⟨w.heap.size + 1, 2, none⟩ = some (.slice none 0 0) := by rw [Lib.cell_of_heap b1]; rfl
    have c3 : u2.cell? ⟨w.heap.size + 1, 3, none⟩ = some (.int .i64 x2) := by rw [Lib.cell_of_heap b1]; rfl
    have f0 : u2.frozen? ⟨w.heap.size + 1, 0, none⟩ = false := Lib.frozen_of_heap b1 0
    have HR2 := hide hR
    have HK2 := hide (((unhide HK1).setN (show w.heap.size ≤ w.heap.size + 1 by omega) 3 (.int .i64 x2)).trans hK)
    have HB12 := hide b1
    have HB02 := hide b0
    clear hR hK b1 b0
    go_wp2_with fail
    refine (list_prints ((unhide HR2).set (show w.heap.size + 1 ≠ R by omega) 0 (.slice a3 x3.length k3)) (by omega) (unhide G4)).mono ?_
    rintro e u3 ⟨⟨vv, rfl, hvv⟩, hR, hK⟩
    obtain ⟨vb, vo, ⟨a4, k4, rfl, -⟩, -⟩ := hvv
    have b1 : u3.heap[w.heap.size + 1]? = some (.cells #[.slice a3 x3.length k3, .slice none 0 0, .slice none 0 0, .int .i64 x2] 26 (0, 0)) := hK.blk (heap_set (unhide HB12) 0 (.slice a3 x3.length k3)) (by omega)
    have b0 : u3.heap[w.heap.size]? = some (.cells #[.slice none 0 0, .slice none 0 0, .slice none 0 0, .int .i64 0] 26 (0, 0)) := hK.blk (heap_setO (unhide HB02) (show w.heap.size ≠ w.heap.size + 1 by omega) 0 (.slice a3 x3.length k3)) (by omega)
    have c0 : u3.cell? ⟨w.heap.size + 1, 0, none⟩ = some (.slice a3 x3.length k3) := by rw [Lib.cell_of_heap b1]; rfl
    have c1 : u3.cell? ⟨w.heap.size + 1, 1, none⟩ = some (.slice none 0 0) := by rw [Lib.cell_of_heap b1]; rfl
    have c2 : u3.cell? ⟨w.heap.size + 1, 2, none⟩ = some (.slice none 0 0) := by rw [Lib.cell_of_heap b1]; rfl
    have c3 : u3.cell? ⟨w.heap.size + 1, 3, none⟩ = some (.int .i64 x2) := by rw [Lib.cell_of_heap b1]; rfl
    have f1 : u3.frozen? ⟨w.heap.size + 1, 1, none⟩ = false := Lib.frozen_of_heap b1 1
    have HR3 := hide hR
    have HK3 := hide (((unhide HK2).setN (show w.heap.size ≤ w.heap.size + 1 by omega) 0 (.slice a3 x3.length k3)).trans hK)
    have HB13 := hide b1
    have HB03 := hide b0
    clear hR hK b1 b0
    go_wp2_with fail
    refine (list_armss_no ((unhide HR3).set (show w.heap.size + 1 ≠ R by omega) 1 (.slice a4 x4.length k4)) (by omega) (unhide G5)).mono ?_
    rintro e uF ⟨rfl, hK⟩
    have HKF := hide (((unhide HK3).setN (show w.heap.size ≤ w.heap.size + 1 by omega) 1 (.slice a4 x4.length k4)).trans hK)
    clear hK
    go_wp2
    exact ⟨rfl, rfl, unhide HKF⟩
  have hr5 : r5.length ≤ r4.length := len_list len_armss g5
  have G5 := hide g5
  clear g5
  simp only at hg
  split at hg
  · cases hg
  rename_i hr
  clear hg
  go_enter Tryd.func22, Tryd.ntmps22
  go_wp2_with fail
  refine (take_is ((unhide H).alloc2 _ _) (by omega) (unhide G1)).mono ?_
  rintro e u0 ⟨rfl, hR, hK⟩
  have b1 : u0.heap[w.heap.size + 1]? = some (.cells #[.slice none 0 0, .slice none 0 0, .slice none 0 0, .int .i64 0] 26 (0, 0)) := hK.blk (new2' w _ _) (by omega)
  have b0 : u0.heap[w.heap.size]? = some (.cells #[.slice none 0 0, .slice none 0 0, .slice none 0 0, .int .i64 0] 26 (0, 0)) := hK.blk (new2 w _ _) (by omega)
  have HR0 := hide hR
  have HK0 := hide ((keep_alloc2 _ _ _).trans hK)
  have HB10 := hide b1
  have HB00 := hide b0
  clear hR hK b1 b0
  go_wp2_with fail
  refine (need_eq _ (by first | with_reducible rfl | decide) _).mono ?_
  rintro e u00 ⟨rfl, hu⟩
  subst hu
  go_wp2_with fail
  refine (num_is (unhide HR0) (unhide G2) rfl (by omega)).mono ?_
  rintro e u1 ⟨rfl, hR, hK⟩
  have b1 : u1.heap[w.heap.size + 1]? = some (.cells #[.slice none 0 0, .slice none 0 0, .slice none 0 0, .int .i64 0] 26 (0, 0)) := hK.blk (unhide HB10) (by omega)
  have b0 : u1.heap[w.heap.size]? = some (.cells #[.slice none 0 0, .slice none 0 0, .slice none 0 0, .int .i64 0] 26 (0, 0)) := hK.blk (unhide HB00) (by omega)
  have c0 : u1.cell? ⟨w.heap.size + 1, 0, none⟩ = some (.slice none 0 0) := by rw [Lib.cell_of_heap b1]; rfl
  have c1 : u1.cell? ⟨w.heap.size + 1, 1, none⟩ = some (.slice none 0 0) := by rw [Lib.cell_of_heap b1]; rfl
  have c2 : u1.cell? ⟨w.heap.size + 1, 2, none⟩ = some (.slice none 0 0) := by rw [Lib.cell_of_heap b1]; rfl
  have c3 : u1.cell? ⟨w.heap.size + 1, 3, none⟩ = some (.int .i64 0) := by rw [Lib.cell_of_heap b1]; rfl
  have f3 : u1.frozen? ⟨w.heap.size + 1, 3, none⟩ = false := Lib.frozen_of_heap b1 3
  have HR1 := hide hR
  have HK1 := hide ((unhide HK0).trans hK)
  have HB11 := hide b1
  have HB01 := hide b0
  clear hR hK b1 b0
  go_wp2_with fail
  refine (list_funs ((unhide HR1).set (show w.heap.size + 1 ≠ R by omega) 3 (.int .i64 x2)) (by omega) (unhide G3)).mono ?_
  rintro e u2 ⟨⟨vv, rfl, hvv⟩, hR, hK⟩
  obtain ⟨vb, vo, ⟨a3, k3, rfl, -⟩, -⟩ := hvv
  have b1 : u2.heap[w.heap.size + 1]? = some (.cells #[.slice none 0 0, .slice none 0 0, .slice none 0 0, .int .i64 x2] 26 (0, 0)) := hK.blk (heap_set (unhide HB11) 3 (.int .i64 x2)) (by omega)
  have b0 : u2.heap[w.heap.size]? = some (.cells #[.slice none 0 0, .slice none 0 0, .slice none 0 0, .int .i64 0] 26 (0, 0)) := hK.blk (heap_setO (unhide HB01) (show w.heap.size ≠ w.heap.size + 1 by omega) 3 (.int .i64 x2)) (by omega)
  have c0 : u2.cell? ⟨w.heap.size + 1, 0, none⟩ = some (.slice none 0 0) := by rw [Lib.cell_of_heap b1]; rfl
  have c1 : u2.cell? ⟨w.heap.size + 1, 1, none⟩ = some (.slice none 0 0) := by rw [Lib.cell_of_heap b1]; rfl
  have c2 : u2.cell? ⟨w.heap.size + 1, 2, none⟩ = some (.slice none 0 0) := by rw [Lib.cell_of_heap b1]; rfl
  have c3 : u2.cell? ⟨w.heap.size + 1, 3, none⟩ = some (.int .i64 x2) := by rw [Lib.cell_of_heap b1]; rfl
  have f0 : u2.frozen? ⟨w.heap.size + 1, 0, none⟩ = false := Lib.frozen_of_heap b1 0
  have HR2 := hide hR
  have HK2 := hide (((unhide HK1).setN (show w.heap.size ≤ w.heap.size + 1 by omega) 3 (.int .i64 x2)).trans hK)
  have HB12 := hide b1
  have HB02 := hide b0
  clear hR hK b1 b0
  go_wp2_with fail
  refine (list_prints ((unhide HR2).set (show w.heap.size + 1 ≠ R by omega) 0 (.slice a3 x3.length k3)) (by omega) (unhide G4)).mono ?_
  rintro e u3 ⟨⟨vv, rfl, hvv⟩, hR, hK⟩
  obtain ⟨vb, vo, ⟨a4, k4, rfl, -⟩, -⟩ := hvv
  have b1 : u3.heap[w.heap.size + 1]? = some (.cells #[.slice a3 x3.length k3, .slice none 0 0, .slice none 0 0, .int .i64 x2] 26 (0, 0)) := hK.blk (heap_set (unhide HB12) 0 (.slice a3 x3.length k3)) (by omega)
  have b0 : u3.heap[w.heap.size]? = some (.cells #[.slice none 0 0, .slice none 0 0, .slice none 0 0, .int .i64 0] 26 (0, 0)) := hK.blk (heap_setO (unhide HB02) (show w.heap.size ≠ w.heap.size + 1 by omega) 0 (.slice a3 x3.length k3)) (by omega)
  have c0 : u3.cell? ⟨w.heap.size + 1, 0, none⟩ = some (.slice a3 x3.length k3) := by rw [Lib.cell_of_heap b1]; rfl
  have c1 : u3.cell? ⟨w.heap.size + 1, 1, none⟩ = some (.slice none 0 0) := by rw [Lib.cell_of_heap b1]; rfl
  have c2 : u3.cell? ⟨w.heap.size + 1, 2, none⟩ = some (.slice none 0 0) := by rw [Lib.cell_of_heap b1]; rfl
  have c3 : u3.cell? ⟨w.heap.size + 1, 3, none⟩ = some (.int .i64 x2) := by rw [Lib.cell_of_heap b1]; rfl
  have f1 : u3.frozen? ⟨w.heap.size + 1, 1, none⟩ = false := Lib.frozen_of_heap b1 1
  have HR3 := hide hR
  have HK3 := hide (((unhide HK2).setN (show w.heap.size ≤ w.heap.size + 1 by omega) 0 (.slice a3 x3.length k3)).trans hK)
  have HB13 := hide b1
  have HB03 := hide b0
  clear hR hK b1 b0
  go_wp2_with fail
  refine (list_armss ((unhide HR3).set (show w.heap.size + 1 ≠ R by omega) 1 (.slice a4 x4.length k4)) (by omega) (unhide G5)).mono ?_
  rintro e u4 ⟨⟨vv, rfl, hvv⟩, hR, hK⟩
  obtain ⟨vb, vo, ⟨a5, k5, rfl, -⟩, -⟩ := hvv
  have b1 : u4.heap[w.heap.size + 1]? = some (.cells #[.slice a3 x3.length k3, .slice a4 x4.length k4, .slice none 0 0, .int .i64 x2] 26 (0, 0)) := hK.blk (heap_set (unhide HB13) 1 (.slice a4 x4.length k4)) (by omega)
  have b0 : u4.heap[w.heap.size]? = some (.cells #[.slice none 0 0, .slice none 0 0, .slice none 0 0, .int .i64 0] 26 (0, 0)) := hK.blk (heap_setO (unhide HB03) (show w.heap.size ≠ w.heap.size + 1 by omega) 1 (.slice a4 x4.length k4)) (by omega)
  have c0 : u4.cell? ⟨w.heap.size + 1, 0, none⟩ = some (.slice a3 x3.length k3) := by rw [Lib.cell_of_heap b1]; rfl
  have c1 : u4.cell? ⟨w.heap.size + 1, 1, none⟩ = some (.slice a4 x4.length k4) := by rw [Lib.cell_of_heap b1]; rfl
  have c2 : u4.cell? ⟨w.heap.size + 1, 2, none⟩ = some (.slice none 0 0) := by rw [Lib.cell_of_heap b1]; rfl
  have c3 : u4.cell? ⟨w.heap.size + 1, 3, none⟩ = some (.int .i64 x2) := by rw [Lib.cell_of_heap b1]; rfl
  have f2 : u4.frozen? ⟨w.heap.size + 1, 2, none⟩ = false := Lib.frozen_of_heap b1 2
  have HR4 := hide hR
  have HK4 := hide (((unhide HK3).setN (show w.heap.size ≤ w.heap.size + 1 by omega) 1 (.slice a4 x4.length k4)).trans hK)
  have HB14 := hide b1
  have HB04 := hide b0
  clear hR hK b1 b0
  obtain ⟨sr, hsr, hsb⟩ := ((unhide HR4).set (show w.heap.size + 1 ≠ R by omega) 2 (.slice a5 x5.length k5))
  have hre : u4.cell? ⟨R, 0, none⟩ = some (.string sr) := by
    rw [← set_cellB u4 (w.heap.size + 1) 2 (.slice a5 x5.length k5) (show R ≠ w.heap.size + 1 by omega) 0, Lib.cell_of_heap hsb]
    rfl
  have qe : sr.toList.isEmpty = false := by
    rw [ByteArray.toList_eq, hsr]
    cases r5 with
    | nil => exact absurd rfl hr
    | cons a b => rfl
  have qe2 : ¬ sr.toList = [] := fun e => by rw [e] at qe; cases qe
  have nR : ¬ R = w.heap.size + 1 := by omega
  have nR2 : ¬ w.heap.size + 1 = R := by omega
  clear hsb hsr
  go_wp2_with fail
  refine (need_ne _ (by first | with_reducible rfl | assumption) _).mono ?_
  rintro e u5 ⟨rfl, hu⟩
  subst hu
  go_wp2
  exact ⟨rfl, rfl, ((unhide HK4).setN (show w.heap.size ≤ w.heap.size + 1 by omega) 2 (.slice a5 x5.length k5))⟩

end Go.Proofs.YtgheaieghoekhaaDoor

namespace Go.Proofs.YtgheaieghoekhaaDoor
open Go.RowKit

set_option maxHeartbeats 1000000 in
theorem errorof_is (w : World) : Calls Tryd.prog 21 #[.iface 88 (.agg #[])] w fun e w' => e = .returned (.int .i64 86) ∧ Below w.heap.size w w' := by
  have hta : ∀ w : World, (Instr.typeAssert (.iface 88 (.agg #[])) 20 88 true).run Tryd.prog w = .ok (.tuple #[.agg #[], .bool true]) w := fun _ => by kernel_rfl
  go_enter Tryd.func21, Tryd.ntmps21
  go_wp2
  go_ret
  exact ⟨rfl, below1 _ _⟩

abbrev upE (r : Bool) : PanicEntry := { v := .iface 88 (.agg #[]), recovered := r }

set_option maxHeartbeats 2000000 in
theorem catch_panic (b0 b1 : Nat) (w : World) (c0 c1 c2 c3 e0 : Value) (h0 : w.heap[b0]? = some (.cells #[c0, c1, c2, c3] 26 (0, 0))) (h1 : w.heap[b1]? = some (.cells #[e0] 34 (0, 0))) (hne : b0 ≠ b1) (M : Nat) (hM0 : M ≤ b0) (hM1 : M ≤ b1) :
    CallsD Tryd.prog 20 #[.pointer (some ⟨b0, 0, none⟩), .pointer (some ⟨b1, 0, none⟩)] (.panicking [upE false]) w fun e u' w' => e = .returned (.tuple #[]) ∧ u' = .panicking [upE true] ∧
      Below M w w' ∧ w'.heap[b0]? = some (.cells #[.slice none 0 0, .slice none 0 0, .slice none 0 0, .int .i64 0] 26 (0, 0)) ∧ w'.heap[b1]? = some (.cells #[.int .i64 86] 34 (0, 0)) := by
  refine callsD_of_wpS Tryd.func20 rfl fun c₀ cs hu => ?_
  apply wpS_seq
  apply wpS_region
  simp [wpOpsS, go_sem, recoverD, hu, Tryd.ntmps20, Exit.thenS]
  apply wpS_seq
  refine wpS_of_wp ?_
  go_wp2
  refine wpS_cond (t := true) (by simp [Act.eval, Array.replicate]) ?_
  simp only [if_true]
  refine wpS_of_wp ?_
  go_wp2_with fail
  refine (errorof_is _).mono ?_
  rintro e w5 ⟨rfl, hB5⟩
  have k0 := blkO hB5 h0 (Array.getElem?_eq_some_iff.1 h0).1
  have k1 := blkO hB5 h1 (Array.getElem?_eq_some_iff.1 h1).1
  have d0 : w5.cell? ⟨b0, 0, none⟩ = some c0 := by simp [World.cell?, k0]
  have d1 : w5.cell? ⟨b0, 1, none⟩ = some c1 := by simp [World.cell?, k0]
  have d2 : w5.cell? ⟨b0, 2, none⟩ = some c2 := by simp [World.cell?, k0]
  have d3 : w5.cell? ⟨b0, 3, none⟩ = some c3 := by simp [World.cell?, k0]
  have d4 : w5.cell? ⟨b1, 0, none⟩ = some e0 := by simp [World.cell?, k1]
  have y0 : ∀ j, w5.frozen? ⟨b0, j, none⟩ = false := Lib.frozen_of_heap k0
  have y1 : w5.frozen? ⟨b1, 0, none⟩ = false := Lib.frozen_of_heap k1 0
  have n1 : ¬ b1 = b0 := fun e => hne e.symm
  have HB5 := hide hB5
  have K0 := hide k0
  have K1 := hide k1
  clear hB5 k0 k1
  go_wp2
  obtain ⟨WF, hWF⟩ : ∃ WF, WF = ((((w5.setCell ⟨b0, 0, none⟩ (.slice none 0 0)).setCell ⟨b0, 1, none⟩ (.slice none 0 0)).setCell ⟨b0, 2, none⟩ (.slice none 0 0)).setCell ⟨b0, 3, none⟩ (.int .i64 0)).setCell ⟨b1, 0, none⟩ (.int .i64 86) := ⟨_, rfl⟩
  rw [← hWF]
  have f0 : WF.heap[b0]? = some (.cells #[.slice none 0 0, .slice none 0 0, .slice none 0 0, .int .i64 0] 26 (0, 0)) := by
    rw [hWF]
    exact heap_setO (heap_set (heap_set (heap_set (heap_set (unhide K0) 0 _) 1 _) 2 _) 3 _) hne _ _
  have f1 : WF.heap[b1]? = some (.cells #[.int .i64 86] 34 (0, 0)) := by
    rw [hWF]
    exact heap_set (heap_setO (heap_setO (heap_setO (heap_setO (unhide K1) n1 _ _) n1 _ _) n1 _ _) n1 _ _) 0 _
  have hm : M ≤ w.heap.size := by have := (Array.getElem?_eq_some_iff.1 h0).1; omega
  have hbF : Below M w WF := by
    rw [hWF]
    exact ((((((unhide HB5).mono hm).setCell hM0 _).setCell hM0 _).setCell hM0 _).setCell hM0 _).setCell hM1 _
  clear hWF
  simp [bodyPostS, results, Tryd.results20, f0, f1, hbF]

/-- no program -/
abbrev noneV : Value := .tuple #[pv (.slice none 0 0) (.slice none 0 0) (.slice none 0 0) 0, .int .i64 86]

set_option maxHeartbeats 4000000 in
theorem decode_no {w : World} (s : ByteArray) (hl : s.size ≤ 140737488355328) (hg : gProg s.data.toList = none) :
    Calls Tryd.prog 9 #[.string s] w fun e w' => e = .returned noneV ∧ Below w.heap.size w w' := by
  have hmf : ∀ (fn : Fn) (first cap : Array Value) (w : World), (Instr.makeFunc fn first cap).run Tryd.prog w = .ok (.func fn first cap) w := fun _ _ _ _ => rfl
  obtain ⟨W, hW⟩ : ∃ W, W = ((w.alloc (.cells #[.slice none 0 0, .slice none 0 0, .slice none 0 0, .int .i64 0] 26)).alloc (.cells #[.int .i64 0] 34)).alloc (.cells #[.string s] 67) := ⟨_, rfl⟩
  have hB : Below w.heap.size w W := by rw [hW]; exact below3 w _ _ _
  have hsW : W.heap.size = w.heap.size + 3 := by rw [hW]; simp
  have HB0 := hide (show W.heap[w.heap.size]? = some (.cells #[.slice none 0 0, .slice none 0 0, .slice none 0 0, .int .i64 0] 26 (0, 0)) by rw [hW]; exact new3 w _ _ _)
  have HB1 := hide (show W.heap[w.heap.size + 1]? = some (.cells #[.int .i64 0] 34 (0, 0)) by rw [hW]; exact new3' w _ _ _)
  have HRd := hide (show Rd (w.heap.size + 2) s.data.toList W from ⟨s, rfl, by rw [hW]; exact new3'' w _ _ _⟩)
  have HW := hide hW
  have HB := hide hB
  have HGp := hide hg
  clear hW hB hg
  go_enter_defers Tryd.func9, Tryd.ntmps9
  go_wp2_with fail
  rw [← unhide HW]
  refine (prog_no (unhide HRd) (by rw [← size_list]; exact hl) (unhide HGp)).mono ?_
  rintro e u1 ⟨rfl, hK⟩
  have b0 := hK.blk (unhide HB0) (by omega)
  have b1 := hK.blk (unhide HB1) (by omega)
  have hs1 := hK.size
  have HBu := hide ((unhide HB).trans (hK.belowR (by omega) (by omega)))
  have K0 := hide b0
  have K1 := hide b1
  clear hK b0 b1
  go_wp2
  refine leaves_cons (f := 20) (args := #[.pointer (some ⟨w.heap.size, 0, none⟩), .pointer (some ⟨w.heap.size + 1, 0, none⟩)]) (by simp) (by simp [go_sem]) ?_
  refine (catch_panic w.heap.size (w.heap.size + 1) _ _ _ _ _ _ (unhide K0) (unhide K1) (by omega) w.heap.size (Nat.le_refl _) (by omega)).mono ?_
  rintro e u' w'' ⟨rfl, rfl, hb, f0, f1⟩
  have r0 : w''.cell? ⟨w.heap.size, 0, none⟩ = some (.slice none 0 0) := by rw [Lib.cell_of_heap f0]; rfl
  have r1 : w''.cell? ⟨w.heap.size, 1, none⟩ = some (.slice none 0 0) := by rw [Lib.cell_of_heap f0]; rfl
  have r2 : w''.cell? ⟨w.heap.size, 2, none⟩ = some (.slice none 0 0) := by rw [Lib.cell_of_heap f0]; rfl
  have r3 : w''.cell? ⟨w.heap.size, 3, none⟩ = some (.int .i64 0) := by rw [Lib.cell_of_heap f0]; rfl
  have r4 : w''.cell? ⟨w.heap.size + 1, 0, none⟩ = some (.int .i64 86) := by rw [Lib.cell_of_heap f1]; rfl
  have hbF := (unhide HBu).trans hb
  simp [Leaves, settle, results, Tryd.results9, go_sem, r0, r1, r2, r3, r4]
  exact hbF

end Go.Proofs.YtgheaieghoekhaaDoor

namespace Go.Proofs.YtgheaieghoekhaaDoor
open Go.RowKit

set_option maxHeartbeats 8000000 in
theorem decode_bad {w : World} (hT : Tb w) (hG : 0 < w.heap.size) (s : ByteArray) (hl : s.size ≤ 140737488355328) {p : Pg} (hg : gProg s.data.toList = some p) {a b c : Int} (hc : chk p = (a, b, c)) (ha : a ≠ 0) :
    Calls Tryd.prog 9 #[.string s] w fun e w' => e = .returned noneV ∧ Below w.heap.size w w' := by
  have qa : (a == 0) = false := by simpa using ha
  clear ha
  have hmf : ∀ (fn : Fn) (first cap : Array Value) (w : World), (Instr.makeFunc fn first cap).run Tryd.prog w = .ok (.func fn first cap) w := fun _ _ _ _ => rfl
  obtain ⟨W, hW⟩ : ∃ W, W = ((w.alloc (.cells #[.slice none 0 0, .slice none 0 0, .slice none 0 0, .int .i64 0] 26)).alloc (.cells #[.int .i64 0] 34)).alloc (.cells #[.string s] 67) := ⟨_, rfl⟩
  have hB : Below w.heap.size w W := by rw [hW]; exact below3 w _ _ _
  have hsW : W.heap.size = w.heap.size + 3 := by rw [hW]; simp
  have HB0 := hide (show W.heap[w.heap.size]? = some (.cells #[.slice none 0 0, .slice none 0 0, .slice none 0 0, .int .i64 0] 26 (0, 0)) by rw [hW]; exact new3 w _ _ _)
  have HB1 := hide (show W.heap[w.heap.size + 1]? = some (.cells #[.int .i64 0] 34 (0, 0)) by rw [hW]; exact new3' w _ _ _)
  have HRd := hide (show Rd (w.heap.size + 2) s.data.toList W from ⟨s, rfl, by rw [hW]; exact new3'' w _ _ _⟩)
  have HW := hide hW
  have HB := hide hB
  have HT := hide hT
  have HC := hide hc
  have HGp := hide hg
  clear hW hB hT hc hg
  go_enter_defers Tryd.func9, Tryd.ntmps9
  go_wp2_with fail
  rw [← unhide HW]
  refine (prog_is (unhide HRd) (by rw [← size_list]; exact hl) (unhide HGp)).mono ?_
  rintro e u1 ⟨⟨v1, v2, v3, rfl, hP⟩, hK⟩
  have b0 := hK.blk (unhide HB0) (by omega)
  have b1 := hK.blk (unhide HB1) (by omega)
  have hs1 := hK.size
  have HP := hide hP
  obtain ⟨⟨y1, o1, ⟨a1, c1, rfl, -⟩, -⟩, ⟨y2, o2, ⟨a2, c2, rfl, -⟩, -⟩, ⟨y3, o3, ⟨a3, c3, rfl, -⟩, -⟩⟩ := hP
  have z0 : u1.cell? ⟨w.heap.size, 0, none⟩ = some (.slice none 0 0) := by rw [Lib.cell_of_heap b0]; rfl
  have z1 : u1.cell? ⟨w.heap.size, 1, none⟩ = some (.slice none 0 0) := by rw [Lib.cell_of_heap b0]; rfl
  have z2 : u1.cell? ⟨w.heap.size, 2, none⟩ = some (.slice none 0 0) := by rw [Lib.cell_of_heap b0]; rfl
  have z3 : u1.cell? ⟨w.heap.size, 3, none⟩ = some (.int .i64 0) := by rw [Lib.cell_of_heap b0]; rfl
  have y0 : ∀ j, u1.frozen? ⟨w.heap.size, j, none⟩ = false := Lib.frozen_of_heap b0
  obtain ⟨W5, hW5⟩ : ∃ W5, W5 = put u1 w.heap.size 0 [.slice a1 p.fs.length c1, .slice a2 p.ps.length c2, .slice a3 p.ar.length c3, .int .i64 p.mn] := ⟨_, rfl⟩
  have hb5 : W5.heap[w.heap.size]? = some (.cells #[.slice a1 p.fs.length c1, .slice a2 p.ps.length c2, .slice a3 p.ar.length c3, .int .i64 p.mn] 26 (0, 0)) := by
    rw [hW5]
    exact heap_set (heap_set (heap_set (heap_set b0 0 _) 1 _) 2 _) 3 _
  have hs5 : W5.heap.size = u1.heap.size := by rw [hW5]; exact put_size _ _
  have hk5 : ∀ k, k ≠ w.heap.size → W5.heap[k]? = u1.heap[k]? := fun k hk => by rw [hW5]; exact put_heap hk _ _
  have hbel : Below w.heap.size w W5 := (unhide HB).trans ((hK.belowR (by omega) (by omega)).trans (by rw [hW5]; exact put_below _ _ (Below.refl _ _) (Nat.le_refl _)))
  have hp5 : PgR (W.heap.size + 2) W5 (.slice a1 p.fs.length c1) (.slice a2 p.ps.length c2) (.slice a3 p.ar.length c3) p := (unhide HP).sm ⟨by omega, fun b o h1 _ => World.cell?_of_block (w := u1) (hk5 b (by omega))⟩
  have HG5 := hide (show Gd W5.heap.size W5 _ _ _ p from { hp5.at with le := Nat.le_refl _, g := by omega, t := (unhide HT).below hG hbel })
  have x0 : W5.cell? ⟨w.heap.size, 0, none⟩ = some (.slice a1 p.fs.length c1) := by rw [Lib.cell_of_heap hb5]; rfl
  have x1 : W5.cell? ⟨w.heap.size, 1, none⟩ = some (.slice a2 p.ps.length c2) := by rw [Lib.cell_of_heap hb5]; rfl
  have x2 : W5.cell? ⟨w.heap.size, 2, none⟩ = some (.slice a3 p.ar.length c3) := by rw [Lib.cell_of_heap hb5]; rfl
  have x3 : W5.cell? ⟨w.heap.size, 3, none⟩ = some (.int .i64 p.mn) := by rw [Lib.cell_of_heap hb5]; rfl
  have hb51 : W5.heap[w.heap.size + 1]? = some (.cells #[.int .i64 0] 34 (0, 0)) := (hk5 _ (by omega)).trans b1
  have HP5 := hide hp5
  have HBel := hide hbel
  have HB5 := hide hb5
  have HB51 := hide hb51
  have HW5 := hide (show W5 = (((u1.setCell ⟨w.heap.size, 0, none⟩ (.slice a1 p.fs.length c1)).setCell ⟨w.heap.size, 1, none⟩ (.slice a2 p.ps.length c2)).setCell ⟨w.heap.size, 2, none⟩ (.slice a3 p.ar.length c3)).setCell ⟨w.heap.size, 3, none⟩ (.int .i64 p.mn) from hW5)
  clear hK b0 b1 hp5 hbel hb5 hW5 hk5 hb51
  go_wp2_with fail
  rw [← unhide HW5]
  refine (check_is (unhide HG5) (unhide HC)).mono ?_
  rintro e u6 ⟨rfl, hB6⟩
  have b0 := (hB6.block w.heap.size (by omega)).trans (unhide HB5)
  have b1 := (hB6.block (w.heap.size + 1) (by omega)).trans (unhide HB51)
  have q0 : u6.cell? ⟨w.heap.size, 0, none⟩ = some (.slice a1 p.fs.length c1) := by rw [Lib.cell_of_heap b0]; rfl
  have q1 : u6.cell? ⟨w.heap.size, 1, none⟩ = some (.slice a2 p.ps.length c2) := by rw [Lib.cell_of_heap b0]; rfl
  have q2 : u6.cell? ⟨w.heap.size, 2, none⟩ = some (.slice a3 p.ar.length c3) := by rw [Lib.cell_of_heap b0]; rfl
  have q3 : u6.cell? ⟨w.heap.size, 3, none⟩ = some (.int .i64 p.mn) := by rw [Lib.cell_of_heap b0]; rfl
  have q4 : u6.cell? ⟨w.heap.size + 1, 0, none⟩ = some (.int .i64 0) := by rw [Lib.cell_of_heap b1]; rfl
  have y6 : ∀ j, u6.frozen? ⟨w.heap.size, j, none⟩ = false := Lib.frozen_of_heap b0
  have y7 : u6.frozen? ⟨w.heap.size + 1, 0, none⟩ = false := Lib.frozen_of_heap b1 0
  have hs6 := hB6.size
  have HB6 := hide ((unhide HBel).trans (hB6.mono (by omega)))
  have HU0 := hide b0
  have HU1 := hide b1
  clear hB6 b0 b1 z0 z1 z2 z3 y0 x0 x1 x2 x3
  go_wp2_with fail
  refine (need_ne _ (by first | with_reducible rfl | assumption) _).mono ?_
  rintro e u7 ⟨rfl, hu⟩
  subst hu
  clear q0 q1 q2 q3 q4 y6 y7
  go_wp2
  refine leaves_cons (f := 20) (args := #[.pointer (some ⟨w.heap.size, 0, none⟩), .pointer (some ⟨w.heap.size + 1, 0, none⟩)]) (by simp) (by simp [go_sem]) ?_
  refine (catch_panic w.heap.size (w.heap.size + 1) _ _ _ _ _ _ (unhide HU0) (unhide HU1) (by omega) w.heap.size (Nat.le_refl _) (by omega)).mono ?_
  rintro e u' w'' ⟨rfl, rfl, hb, f0, f1⟩
  have r0 : w''.cell? ⟨w.heap.size, 0, none⟩ = some (.slice none 0 0) := by rw [Lib.cell_of_heap f0]; rfl
  have r1 : w''.cell? ⟨w.heap.size, 1, none⟩ = some (.slice none 0 0) := by rw [Lib.cell_of_heap f0]; rfl
  have r2 : w''.cell? ⟨w.heap.size, 2, none⟩ = some (.slice none 0 0) := by rw [Lib.cell_of_heap f0]; rfl
  have r3 : w''.cell? ⟨w.heap.size, 3, none⟩ = some (.int .i64 0) := by rw [Lib.cell_of_heap f0]; rfl
  have r4 : w''.cell? ⟨w.heap.size + 1, 0, none⟩ = some (.int .i64 86) := by rw [Lib.cell_of_heap f1]; rfl
  have hbF := (unhide HB6).trans hb
  simp [Leaves, settle, results, Tryd.results9, go_sem, r0, r1, r2, r3, r4]
  exact hbF

end Go.Proofs.YtgheaieghoekhaaDoor
