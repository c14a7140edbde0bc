/- Layer 10: the program's table of kinds: its calls. -/
import Derived.Test.YtcogiklnegpfiaaHc
namespace Go.Proofs.Ytcogiklnegpfiaa
open Go.RowKit Go.Shelf

variable {w : World} {B : Nat} {F : Nat → Prop} {p : Nat} {l : List (ThG Int)} {M g : Nat}

theorem new_noI (w : World) (m : Int) (hm : (decide (1 ≤ m) && decide (m ≤ 500)) = false) : Calls Try.prog 22 #[.int .i64 m] w fun e w' => e = .returned (.tuple #[.pointer none, .int .i64 1]) ∧ Below w.heap.size w w' := by
  by_cases h1 : 1 ≤ m
  · have h2 : ¬ m ≤ 500 := fun h => by simp [h1, h] at hm
    have q1 : decide (m < 1) = false := decide_eq_false (by omega)
    have q2 : decide (500 < m) = true := decide_eq_true (by omega)
    clear hm
    go_enter Try.func22, Try.ntmps22
    go_wp2
    go_ret2
    exact ⟨rfl, Below.refl _ _⟩
  · have q1 : decide (m < 1) = true := decide_eq_true (by omega)
    clear hm
    go_enter Try.func22, Try.ntmps22
    go_wp2
    go_ret2
    exact ⟨rfl, Below.refl _ _⟩

theorem new_isI (w : World) (m : Int) (M : Nat) (hm : m = M) (h1 : 1 ≤ M) (h2 : M ≤ 500) : Calls Try.prog 22 #[.int .i64 m] w fun e w' => ∃ p g F, e = .returned (.tuple #[.pointer (some ⟨p, 0, none⟩), .int .i64 0]) ∧ TbI w' w.heap.size F p [] M g ∧ Below w.heap.size w w' := by
  subst hm
  have q1 : decide ((M : Int) < 1) = false := decide_eq_false (by omega)
  have q2 : decide (500 < (M : Int)) = false := decide_eq_false (by omega)
  obtain ⟨w1, hmk, hrow, hb⟩ := makeI w M h2
  have HR := hide hrow
  have HB := hide hb
  clear hrow hb
  go_enter Try.func22, Try.ntmps22
  go_wp2
  go_ret2
  have hg := own_in HR.out (g := w.heap.size) rfl
  refine ⟨w1.heap.size, w.heap.size, fun x => x = w1.heap.size ∨ x = w.heap.size, rfl, ⟨?_, ?_, HB.out.size, Wf.nil M, Lt.nil, h1, h2, fun x => Iff.rfl⟩, HB.out.trans ((below1 _ _).mono HB.out.size)⟩
  · exact heap_new _ _
  · exact HR.out.ch (Ch.alloc (Q := fun _ => False) _ _) (fun _ _ h => h)

theorem count_isI (h : TbI w B F p l M g) : Calls Try.prog 28 #[.pointer (some ⟨p, 0, none⟩)] w fun e w' => e = .returned (.int .i64 (cnt l : Int)) ∧ Below w.heap.size w w' := by
  obtain ⟨-, c1, -⟩ := h.cells
  go_enter Try.func28, Try.ntmps28
  go_wp2
  go_ret
  exact ⟨rfl, Below.refl _ _⟩

set_option maxHeartbeats 1000000 in
theorem lives_isI (h : TbI w B F p l M g) {s G : Int} (hu : Us s) : Calls Try.prog 50 #[.pointer (some ⟨p, 0, none⟩), hv s G] w fun e w' => e = .returned (.bool (fnB l s G)) ∧ Below w.heap.size w w' := by
  have h1 := h.below (below1 w (.cells #[.int .u32 s, .int .u32 G] 43))
  cases hB : fnB l s G
  · have hf := hide (find_noI h1 hu hB)
    go_enter Try.func50, Try.ntmps50
    go_wp2_with (go_at_call 48; refine hf.out.mono ?_; rintro e w' ⟨rfl, hb⟩)
    go_ret
    exact ⟨rfl, (below1 _ _).trans (hb.mono (by simp))⟩
  · obtain ⟨i, hi, rfl, hG, hr, hf⟩ := find_isI h1 hB
    have hf := hide hf
    go_enter Try.func50, Try.ntmps50
    go_wp2_with (go_at_call 48; refine hf.out.mono ?_; rintro e w' ⟨rfl, hb⟩)
    go_ret
    exact ⟨rfl, (below1 _ _).trans (hb.mono (by simp))⟩

set_option maxHeartbeats 1000000 in
theorem get_isI (h : TbI w B F p l M g) {s G : Int} (hu : Us s) : Calls Try.prog 34 #[.pointer (some ⟨p, 0, none⟩), hv s G] w fun e w' => e = .returned (.tuple #[.int .i64 (gtX l s G), .int .i64 (ec (fnB l s G) 102)]) ∧ Below w.heap.size w w' := by
  have h1 := h.below (below1 w (.cells #[.int .u32 s, .int .u32 G] 43))
  cases hB : fnB l s G
  · have hf := hide (find_noI h1 hu hB)
    rw [gtX_gone hB]
    go_enter Try.func34, Try.ntmps34
    go_wp2_with (go_at_call 48; refine hf.out.mono ?_; rintro e w' ⟨rfl, hb⟩)
    go_ret2
    exact ⟨rfl, (below1 _ _).trans (hb.mono (by simp))⟩
  · rw [gtX_live h.wf h.lt hB]
    obtain ⟨i, hi, rfl, hG, hr, hf⟩ := find_isI h1 hB
    have hf := hide hf
    go_enter Try.func34, Try.ntmps34
    go_wp2_with (go_at_call 48; refine hf.out.mono ?_; rintro e w' ⟨rfl, hb⟩; have c1 := ((h1.below hb).slot hi).2.2)
    go_ret2
    exact ⟨rfl, (below1 _ _).trans (hb.mono (by simp))⟩

end Go.Proofs.Ytcogiklnegpfiaa
