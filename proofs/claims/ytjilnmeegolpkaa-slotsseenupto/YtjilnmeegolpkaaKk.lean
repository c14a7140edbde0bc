/- Layer 10: SlotsSeen's walk. -/
import Derived.Test.YtjilnmeegolpkaaKj
namespace Go.Proofs.Ytjilnmeegolpkaa
open Go.RowKit Go.Shelf

/-- numbers in memory -/
def ItAt (w : World) (b o : Nat) (z : Int) : Prop := w.cell? ⟨b, o, none⟩ = some (.int .i64 z) ∧ -9223372036854775808 ≤ z ∧ z ≤ 9223372036854775807

set_option maxRecDepth 100000 in
set_option maxHeartbeats 8000000 in
theorem seen_is (w0 : World) {lv ov iv : Value} {ss ins : List ByteArray} {os : List Int} (hl : Lst w0.heap.size 1 (StAt w0) lv ss) (ho : Lst w0.heap.size 1 (ItAt w0) ov os) (hi : Lst w0.heap.size 1 (StAt w0) iv ins) :
    Calls Try.prog 5 #[lv, ov, iv] w0 fun e w' => e = .returned (.bool true) ∧ Below w0.heap.size w0 w' := by
  obtain ⟨lb, lo, ⟨la, lc, rfl, -, hlm, hla⟩, hst⟩ := hl
  obtain ⟨ob, oo, ⟨oa, oc, rfl, -, hom, hoa⟩, hos⟩ := ho
  obtain ⟨ib, io, ⟨ia, ic, rfl, -, him, hia⟩, his⟩ := hi
  refine (callsIn_wide (n := 20)).1 ?_
  refine callsIn_of_wp_marks Try.func5 rfl trivial ?_ rfl
  simp only [Try.ntmps5, List.size_toArray, List.length_cons, List.length_nil, Nat.reduceAdd, Nat.reduceSub, Array.replicate_succ, Array.replicate_zero, List.push_toArray, List.append_toArray, List.nil_append, List.cons_append]
  refine wpIn_wide.2 ?_
  refine (seen_head (REST := rest6 (Try.f5.body.getD .skip)) hlm hla hst ?_ : (tail6 (Try.f5.body.getD .skip) (rest6 (Try.f5.body.getD .skip))).wp _ _ _ _)
  intros
  rename_i hS hT hx _
  refine (seen_range1 (REST2 := rest4 (rest6 (Try.f5.body.getD .skip))) hS hT hx hla hst hoa hom (fun i h => ?_) hia him (fun i h => ?_) ?_ : (tail4 (rest6 (Try.f5.body.getD .skip)) (rest4 (rest6 (Try.f5.body.getD .skip)))).wp _ _ _ _)
  · have := hos i h
    unfold ItAt at this
    rw [Nat.mul_one] at this
    exact this
  · have := his i h
    unfold StAt at this
    rw [Nat.mul_one] at this
    exact this
  · intros
    rename_i h1 h2 h3 h4 h5 h6 h7 h8
    exact seen_end h1 h2 h3 h4 h5 h6 h7 h8

end Go.Proofs.Ytjilnmeegolpkaa
