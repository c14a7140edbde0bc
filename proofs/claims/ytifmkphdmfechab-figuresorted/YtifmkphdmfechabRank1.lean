/- The comparison that Rank sorts by. -/
import Derived.Test.YtifmkphdmfechabLists
import Derived.Deep.RegionWith
import Derived.Handy
namespace Go.Proofs.Ytifmkphdmfechab
open Go.RowKit

theorem iff_ne {x : Int} (h : x ≠ 0) : (x != 0) = true := by simpa using h

set_option maxHeartbeats 1000000 in
theorem or_any (g : Nat) (x y : Int) (w : World) (h0 : w.cell? ⟨g, 0, none⟩ = some (.int .i64 x)) (h1 : w.cell? ⟨g, 1, none⟩ = some (.int .i64 y)) :
    Calls Try.prog 20 #[.slice (some ⟨g, 0, none⟩) 2 2] w fun e w' => e = .returned (.int .i64 (if x ≠ 0 then x else y)) ∧ w' = w := by
  by_cases hx : x = 0
  · subst hx
    rw [if_neg (by simp)]
    by_cases hy : y = 0
    · subst hy
      go_enter Try.func20, Try.ntmps20
      go_wp2
      go_rounds 3
      go_wp2
      go_ret
      exact ⟨rfl, rfl⟩
    · have hyn := iff_ne hy
      go_enter Try.func20, Try.ntmps20
      go_wp2
      go_rounds 3
      go_ret
      exact ⟨rfl, rfl⟩
  · rw [if_pos hx]
    have hxn := iff_ne hx
    go_enter Try.func20, Try.ntmps20
    go_wp2
    go_rounds 3
    go_ret
    exact ⟨rfl, rfl⟩

/-- the first that is not 0 -/
def orv (x y : Int) : Int := if x ≠ 0 then x else y

theorem or_new (x y : Int) (W : World) : Calls Try.prog 20 #[.slice (some ⟨W.heap.size, 0, none⟩) 2 2] (W.alloc (.cells #[.int .i64 x, .int .i64 y] 3)).drew fun e w' => e = .returned (.int .i64 (orv x y)) ∧ w' = (W.alloc (.cells #[.int .i64 x, .int .i64 y] 3)).drew :=
  or_any W.heap.size x y _ (by simp) (by simp)

/-- how two places stand -/
def cfr (zs : Nat → Nat) (i j : Nat) : Int := orv (ord (zs i) (zs j)) (FM.cmp3 (i : Int) (j : Int))

set_option maxHeartbeats 2000000 in
theorem closure_any (bx b off n cap i j : Nat) (zs : Nat → Nat) (W : World) (hi : i < n) (hj : j < n)
    (hbox : W.cell? ⟨bx, 0, none⟩ = some (.slice (some ⟨b, off, none⟩) n cap)) (hci : W.cell? ⟨b, off + i, none⟩ = some (.float .f64 (zs i))) (hcj : W.cell? ⟨b, off + j, none⟩ = some (.float .f64 (zs j))) :
    Calls Try.prog 19 #[.int .i64 i, .int .i64 j, .pointer (some ⟨bx, 0, none⟩)] W fun e w' => e = .returned (.int .i64 (cfr zs i j)) ∧ ∃ q o, w' = (W.alloc o).drewN q := by
  have hii : (i : Int) < (n : Int) := by omega
  have hjj : (j : Int) < (n : Int) := by omega
  go_enter Try.func19, Try.ntmps19
  go_wp2
  go_region_with (first
    | (go_at_call 7; refine (order_any _ _ _).mono ?_; rintro e w' ⟨rfl, rfl⟩)
    | (go_at_call 16; refine (cmpint_any _ _ _).mono ?_; rintro e w' ⟨rfl, rfl⟩)
    | (go_at_call 20; refine (or_new _ _ _).mono ?_; rintro e w' ⟨rfl, rfl⟩))
  all_goals go_wp2
  all_goals go_ret
  all_goals exact ⟨rfl, 1, _, rfl⟩

end Go.Proofs.Ytifmkphdmfechab
