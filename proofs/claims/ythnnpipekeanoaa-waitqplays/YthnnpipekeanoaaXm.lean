/- Layer 11: the law's step: an op of no kind. -/
import Derived.Test.YthnnpipekeanoaaXl
namespace Go.Proofs.Ythnnpipekeanoaa
open Go.RowKit

variable {wB : World} {PT : World → Nat → (Nat → Prop) → Nat → List Wt → Prop} {C : Nat → Nat} {w w' : World} {B T p b : Nat} {F : Nat → Prop} {l : List Wt} {hs : List (Int × Int)} {av ov tv lv wv : Value} {ls ws : List Value} {rs : List (List Rc)} {n : Nat}

set_option maxRecDepth 100000 in
set_option maxHeartbeats 8000000 in
theorem step_none (fc : FaceW PT) (h : Tw wB PT C w B T p b F l l hs av ov tv lv wv ls ws rs n) (o : Oq) (hk : o.k < 1 ∨ 8 < o.k) :
    Calls Try.prog 8 #[.pointer (some ⟨T, 0, none⟩), opV o] w fun e w' => e = .returned (.bool true) ∧ Tw wB PT C w' B T p b F l l hs av ov tv lv wv ls ws rs n := by
  have H := hide (h.quiet fc (Ch.alloc (Q := fun _ => False) w (.cells (opF o).toArray 48)))
  have q1 : (o.k == 1) = false := beq_false_of_ne (by omega)
  have q2 : (o.k == 2) = false := beq_false_of_ne (by omega)
  have q3 : (o.k == 3) = false := beq_false_of_ne (by omega)
  have q4 : (o.k == 4) = false := beq_false_of_ne (by omega)
  have q5 : (o.k == 5) = false := beq_false_of_ne (by omega)
  have q6 : (o.k == 6) = false := beq_false_of_ne (by omega)
  have q7 : (o.k == 7) = false := beq_false_of_ne (by omega)
  have q8 : (o.k == 8) = false := beq_false_of_ne (by omega)
  clear h hk
  go_enter Try.func8, Try.ntmps8
  go_wp2
  exact bodyPost_ret (v := .bool true) (by simp [results, Try.results8, go_sem]) rfl ⟨rfl, H.out⟩

end Go.Proofs.Ythnnpipekeanoaa
