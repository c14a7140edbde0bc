/- Layer 10: the document's table: the calls on a handle. -/
import Derived.Test.YtjilnmeegolpkaaSd
namespace Go.Proofs.Ytjilnmeegolpkaa
open Go.RowKit

variable {w : World} {B b : Nat} {v : Value} {l : List Th} {m : Int}

theorem DT.below {w' : World} (h : DT w B b v l m) (hb : Below w.heap.size w w') : DT w' B b v l m := h.ch (Ch.of_below (Q := fun _ => False) hb) (fun h => h) (fun _ _ h => h)
theorem DT.set {g c : Nat} (h : DT w B b (.slice (some ⟨g, 0, none⟩) l.length c) l m) {i j : Nat} (hi : i < l.length) (hj : j < 4) {u : Value} (y : Th) (hy : thF y = (thF l[i]).set j u) :
    DT (w.setCell ⟨g, i * 4 + j, none⟩ u) B b (.slice (some ⟨g, 0, none⟩) l.length c) (l.set i y) m :=
  ⟨(Ch.set (Q := fun x => x = g) w rfl _ _).box h.box (fun e => h.ne (by rw [e]; rfl)), h.row.set thF_len hi hj y hy⟩

set_option maxHeartbeats 1000000 in
theorem rfree_no (h : DT w B b v l m) (s g : Int) (hr : fnd l s g = none) :
    Calls Try.prog 33 #[.pointer (some ⟨b, 0, none⟩), hv s g] w fun e w' => e = .returned (.bool false) ∧ Below w.heap.size w w' := by
  have h1 := h.below (below1 w (.cells #[.int .u32 s, .int .u32 g] 39))
  have hB1 := below1 w (.cells #[.int .u32 s, .int .u32 g] 39)
  go_enter Try.func33, Try.ntmps33
  go_wp2_with (go_at_call 47; refine (rfind_is h1 s g hr).mono ?_; rintro e w' ⟨rfl, hB⟩; simp only [ix])
  go_ret
  exact ⟨rfl, (below1 _ _).trans (hB.mono (by simp))⟩

set_option maxHeartbeats 1000000 in
theorem rfree_is (h : DT w B b v l m) (s g : Int) {i : Nat} (hr : fnd l s g = some i) :
    Calls Try.prog 33 #[.pointer (some ⟨b, 0, none⟩), hv s g] w fun e w' => e = .returned (.bool true) ∧ DT w' B b v (fre l i) m ∧ Ch (fun x => v.ownBlock = some x) w w' := by
  obtain ⟨hi, _⟩ := fnd_some hr
  have h1 := h.below (below1 w (.cells #[.int .u32 s, .int .u32 g] 39))
  have hB1 := below1 w (.cells #[.int .u32 s, .int .u32 g] 39)
  go_enter Try.func33, Try.ntmps33
  go_wp2_with (go_at_call 47; refine (rfind_is h1 s g hr).mono ?_; rintro e w' ⟨rfl, hB⟩; simp only [ix]; have h2 := h1.below hB; obtain ⟨hx0, hx1⟩ := h2.cells; obtain ⟨g', c', cur, rfl, hc', hBg, hg, hgc, hcs, hcell⟩ := h2.row.at thF_len (by omega); have hm' : l.length ≤ 9223372036854775807 := (by have := own_len h2.row; unfold maxLen at this; omega); have y3 := hcell i hi 3 (.bool l[i].d) rfl; have hfr : w'.frozen? ⟨g', i * 4 + 3, none⟩ = false := (by simp [World.frozen?, hgc]))
  go_ret
  refine ⟨rfl, ?_, ((Ch.of_below hB1).trans (Ch.of_below hB) (fun _ _ h => h)).trans (Ch.set (Q := fun x => x = g') w' rfl _ _) (fun x _ e => by rw [e]; rfl)⟩
  unfold fre
  rw [modify_set _ _ _ hi]
  exact h2.set hi (by decide) _ rfl

set_option maxHeartbeats 1000000 in
theorem rset_no (h : DT w B b v l m) (s g : Int) (x : Int) (hr : fnd l s g = none) :
    Calls Try.prog 35 #[.pointer (some ⟨b, 0, none⟩), hv s g, .int .i64 x] w fun e w' => e = .returned (.bool false) ∧ Below w.heap.size w w' := by
  have h1 := h.below (below1 w (.cells #[.int .u32 s, .int .u32 g] 39))
  have hB1 := below1 w (.cells #[.int .u32 s, .int .u32 g] 39)
  go_enter Try.func35, Try.ntmps35
  go_wp2_with (go_at_call 47; refine (rfind_is h1 s g hr).mono ?_; rintro e w' ⟨rfl, hB⟩; simp only [ix])
  go_ret
  exact ⟨rfl, (below1 _ _).trans (hB.mono (by simp))⟩

set_option maxHeartbeats 1000000 in
theorem rset_is (h : DT w B b v l m) (s g : Int) {i : Nat} (x : Int) (hr : fnd l s g = some i) :
    Calls Try.prog 35 #[.pointer (some ⟨b, 0, none⟩), hv s g, .int .i64 x] w fun e w' => e = .returned (.bool true) ∧ DT w' B b v (sett l i x) m ∧ Ch (fun x => v.ownBlock = some x) w w' := by
  obtain ⟨hi, _⟩ := fnd_some hr
  have h1 := h.below (below1 w (.cells #[.int .u32 s, .int .u32 g] 39))
  have hB1 := below1 w (.cells #[.int .u32 s, .int .u32 g] 39)
  go_enter Try.func35, Try.ntmps35
  go_wp2_with (go_at_call 47; refine (rfind_is h1 s g hr).mono ?_; rintro e w' ⟨rfl, hB⟩; simp only [ix]; have h2 := h1.below hB; obtain ⟨hx0, hx1⟩ := h2.cells; obtain ⟨g', c', cur, rfl, hc', hBg, hg, hgc, hcs, hcell⟩ := h2.row.at thF_len (by omega); have hm' : l.length ≤ 9223372036854775807 := (by have := own_len h2.row; unfold maxLen at this; omega); have y2 := hcell i hi 2 (.int .i64 l[i].x) rfl; have hfr : w'.frozen? ⟨g', i * 4 + 2, none⟩ = false := (by simp [World.frozen?, hgc]))
  go_ret
  refine ⟨rfl, ?_, ((Ch.of_below hB1).trans (Ch.of_below hB) (fun _ _ h => h)).trans (Ch.set (Q := fun x => x = g') w' rfl _ _) (fun x _ e => by rw [e]; rfl)⟩
  unfold sett
  rw [modify_set _ _ _ hi]
  exact h2.set hi (by decide) _ rfl

set_option maxHeartbeats 1000000 in
theorem rget_no (h : DT w B b v l m) (s g : Int) (hr : fnd l s g = none) :
    Calls Try.prog 34 #[.pointer (some ⟨b, 0, none⟩), hv s g] w fun e w' => e = .returned (.tuple #[.int .i64 0, .bool false]) ∧ Below w.heap.size w w' := by
  have h1 := h.below (below1 w (.cells #[.int .u32 s, .int .u32 g] 39))
  have hB1 := below1 w (.cells #[.int .u32 s, .int .u32 g] 39)
  go_enter Try.func34, Try.ntmps34
  go_wp2_with (go_at_call 47; refine (rfind_is h1 s g hr).mono ?_; rintro e w' ⟨rfl, hB⟩; simp only [ix])
  go_ret2
  exact ⟨rfl, (below1 _ _).trans (hB.mono (by simp))⟩

set_option maxHeartbeats 1000000 in
theorem rget_is (h : DT w B b v l m) (s g : Int) {i : Nat} (hr : fnd l s g = some i) {x : Int} (hx : l[i]?.map ThG.x = some x) :
    Calls Try.prog 34 #[.pointer (some ⟨b, 0, none⟩), hv s g] w fun e w' => e = .returned (.tuple #[.int .i64 x, .bool true]) ∧ Below w.heap.size w w' := by
  obtain ⟨hi, _⟩ := fnd_some hr
  have h1 := h.below (below1 w (.cells #[.int .u32 s, .int .u32 g] 39))
  have hB1 := below1 w (.cells #[.int .u32 s, .int .u32 g] 39)
  go_enter Try.func34, Try.ntmps34
  go_wp2_with (go_at_call 47; refine (rfind_is h1 s g hr).mono ?_; rintro e w' ⟨rfl, hB⟩; simp only [ix]; have h2 := h1.below hB; obtain ⟨hx0, hx1⟩ := h2.cells; obtain ⟨g', c', cur, rfl, hc', hBg, hg, hgc, hcs, hcell⟩ := h2.row.at thF_len (by omega); have hm' : l.length ≤ 9223372036854775807 := (by have := own_len h2.row; unfold maxLen at this; omega); have y2 := hcell i hi 2 (.int .i64 l[i].x) rfl; have hfr : w'.frozen? ⟨g', i * 4 + 2, none⟩ = false := (by simp [World.frozen?, hgc]))
  go_ret2
  rw [List.getElem?_eq_getElem hi] at hx
  injection hx with hx
  exact ⟨by rw [← hx]; rfl, hB1.trans (hB.mono (by simp))⟩

set_option maxHeartbeats 1000000 in
theorem rserial_no (h : DT w B b v l m) (s g : Int) (hr : fnd l s g = none) :
    Calls Try.prog 36 #[.pointer (some ⟨b, 0, none⟩), hv s g] w fun e w' => e = .returned (.tuple #[.int .i64 0, .bool false]) ∧ Below w.heap.size w w' := by
  have h1 := h.below (below1 w (.cells #[.int .u32 s, .int .u32 g] 39))
  have hB1 := below1 w (.cells #[.int .u32 s, .int .u32 g] 39)
  go_enter Try.func36, Try.ntmps36
  go_wp2_with (go_at_call 47; refine (rfind_is h1 s g hr).mono ?_; rintro e w' ⟨rfl, hB⟩; simp only [ix])
  go_ret2
  exact ⟨rfl, (below1 _ _).trans (hB.mono (by simp))⟩

set_option maxHeartbeats 1000000 in
theorem rserial_is (h : DT w B b v l m) (s g : Int) {i : Nat} (hr : fnd l s g = some i) :
    Calls Try.prog 36 #[.pointer (some ⟨b, 0, none⟩), hv s g] w fun e w' => e = .returned (.tuple #[.int .i64 (i + 1 : Int), .bool true]) ∧ Below w.heap.size w w' := by
  obtain ⟨hi, _⟩ := fnd_some hr
  have hm' : l.length ≤ 9223372036854775807 := by
    have := own_len h.row
    unfold maxLen at this
    omega
  have h1 := h.below (below1 w (.cells #[.int .u32 s, .int .u32 g] 39))
  have hB1 := below1 w (.cells #[.int .u32 s, .int .u32 g] 39)
  go_enter Try.func36, Try.ntmps36
  go_wp2_with (go_at_call 47; refine (rfind_is h1 s g hr).mono ?_; rintro e w' ⟨rfl, hB⟩; simp only [ix])
  go_ret2
  exact ⟨by show Ending.returned (.tuple #[_, _]) = _; go_num, hB1.trans (hB.mono (by simp))⟩

end Go.Proofs.Ytjilnmeegolpkaa
