/- The head of all statements: true, whatever the world. -/
import Derived.Test.YtifmkphdmfechabFore
import Derived.Test.YtifmkphdmfechabRatio
import Derived.Test.YtifmkphdmfechabText
namespace Go.Proofs.Ytifmkphdmfechab
open Go.RowKit

theorem below_drewN (w : World) (n : Nat) : Below w.heap.size w (w.drewN n) := ⟨rfl, rfl, rfl, Nat.le_refl _, fun _ _ => rfl⟩

theorem third : quo (floatOfInt .f64 1) (floatOfInt .f64 3) = 4599676419421066581 := by decide +kernel
theorem third_cls : FM.cls 4599676419421066581 = 5 := by decide +kernel
theorem text_one : strOfNums (textL (FM.one 4607182418800017408)) = { data := #[51, 102, 102, 48, 48, 48, 48, 48, 48, 48, 48, 48, 48, 48, 48, 48] } := by decide +kernel
def zs3 (i : Nat) : Nat := if i = 0 then 4607182418800017408 else if i = 1 then 4613937818241073152 else 4611686018427387904
theorem fore3 : fore zs3 1 3 = (4613937818241073152, 1) := by decide +kernel

set_option maxHeartbeats 1000000 in
theorem awake_any (w : World) :
    Calls Try.prog 6 #[] w fun e w' => e = .returned (.bool true) ∧ Below w.heap.size w w' := by
  go_enter Try.func6, Try.ntmps6
  go_wp2_with fail
  refine (ratio_any _ _ _).mono ?_
  rintro e w1 ⟨rfl, n, rfl⟩
  rw [third]
  go_wp2_with fail
  refine (text_any _ _ (by decide)).mono ?_
  rintro e w2 ⟨rfl, hb⟩
  rw [text_one]
  go_wp2_with fail
  refine (class_any _ _).mono ?_
  rintro e w3 ⟨rfl, rfl⟩
  rw [third_cls]
  go_wp2_with fail
  refine (most_any (zs := zs3) ?_ (by omega)).mono ?_
  · refine Or.inr ⟨w3.heap.size, 0, rfl, by simp, ?_⟩
    intro i hi
    rw [Nat.zero_add, World.cell?_alloc_new]
    match i, hi with
    | 0, _ => rfl
    | 1, _ => rfl
    | 2, _ => rfl
  rintro e w4 ⟨rfl, rfl⟩
  rw [fore3]
  have c1 : (FloatKind.f64.format.order 4613937818241073152 4613937818241073152 == some Ordering.eq) = true := by decide +kernel
  have c2 : (FloatKind.f64.format.order 4599676419421066581 4599075939470750515 == some Ordering.gt) = true := by decide +kernel
  have c3 : (FloatKind.f64.format.order 4599676419421066581 4600877379321698714 == some Ordering.lt) = true := by decide +kernel
  go_wp2
  go_ret
  exact ⟨rfl, ((below_drewN w n).trans hb).alloc hb.size _⟩

end Go.Proofs.Ytifmkphdmfechab
