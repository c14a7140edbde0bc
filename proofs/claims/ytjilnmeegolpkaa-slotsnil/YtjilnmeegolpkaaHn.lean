/- Layer 10: no table: its calls. -/
import Derived.Test.YtjilnmeegolpkaaHk
namespace Go.Proofs.Ytjilnmeegolpkaa
open Go.RowKit Go.Shelf

attribute [local go_sem] Oper.semAt_some

theorem count_nil (w : World) : Calls Try.prog 12 #[.pointer none] w fun e w' => e = .returned (.int .i64 0) ∧ Below w.heap.size w w' := by
  go_enter Try.func12, Try.ntmps12
  go_wp2
  go_ret
  exact ⟨rfl, Below.refl _ _⟩
theorem born_nil (w : World) : Calls Try.prog 14 #[.pointer none] w fun e w' => e = .returned (.int .i64 0) ∧ Below w.heap.size w w' := by
  go_enter Try.func14, Try.ntmps14
  go_wp2
  go_ret
  exact ⟨rfl, Below.refl _ _⟩
theorem find_nil (w : World) (s g : Int) : Calls Try.prog 40 #[.pointer none, hv s g] w fun e w' => e = .returned (.tuple #[.pointer none, .int .i64 1]) ∧ Below w.heap.size w w' := by
  go_enter Try.func40, Try.ntmps40
  go_wp2
  go_ret2
  exact ⟨rfl, below1 _ _⟩
theorem lives_nil (w : World) (s g : Int) : Calls Try.prog 19 #[.pointer none, hv s g] w fun e w' => e = .returned (.bool false) ∧ Below w.heap.size w w' := by
  go_enter Try.func19, Try.ntmps19
  go_wp2_with (go_at_call 40; refine (find_nil _ s g).mono ?_; rintro e w' ⟨rfl, hb⟩)
  go_ret
  exact ⟨rfl, (below1 _ _).trans (hb.mono (by simp))⟩
theorem get_nil (w : World) (s g : Int) : Calls Try.prog 18 #[.pointer none, hv s g] w fun e w' => e = .returned (.tuple #[.int .i64 0, .int .i64 1]) ∧ Below w.heap.size w w' := by
  go_enter Try.func18, Try.ntmps18
  go_wp2_with (go_at_call 40; refine (find_nil _ s g).mono ?_; rintro e w' ⟨rfl, hb⟩)
  go_ret2
  exact ⟨rfl, (below1 _ _).trans (hb.mono (by simp))⟩
theorem serial_nil (w : World) (s g : Int) : Calls Try.prog 29 #[.pointer none, hv s g] w fun e w' => e = .returned (.tuple #[.int .i64 0, .int .i64 1]) ∧ Below w.heap.size w w' := by
  go_enter Try.func29, Try.ntmps29
  go_wp2_with (go_at_call 40; refine (find_nil _ s g).mono ?_; rintro e w' ⟨rfl, hb⟩)
  go_ret2
  exact ⟨rfl, (below1 _ _).trans (hb.mono (by simp))⟩
theorem free_nil (w : World) (s g : Int) : Calls Try.prog 20 #[.pointer none, hv s g] w fun e w' => e = .returned (.int .i64 1) ∧ Below w.heap.size w w' := by
  go_enter Try.func20, Try.ntmps20
  go_wp2_with (go_at_call 40; refine (find_nil _ s g).mono ?_; rintro e w' ⟨rfl, hb⟩)
  go_ret
  exact ⟨rfl, (below1 _ _).trans (hb.mono (by simp))⟩
theorem set_nil (w : World) (s g x : Int) : Calls Try.prog 21 #[.pointer none, hv s g, .int .i64 x] w fun e w' => e = .returned (.int .i64 1) ∧ Below w.heap.size w w' := by
  go_enter Try.func21, Try.ntmps21
  go_wp2_with (go_at_call 40; refine (find_nil _ s g).mono ?_; rintro e w' ⟨rfl, hb⟩)
  go_ret
  exact ⟨rfl, (below1 _ _).trans (hb.mono (by simp))⟩
set_option maxRecDepth 100000 in
theorem take_nil (w : World) (x : Int) : Calls Try.prog 17 #[.pointer none, .int .i64 x] w fun e w' => e = .returned (.tuple #[hv 0 0, .int .i64 1]) ∧ Below w.heap.size w w' := by
  go_enter Try.func17, Try.ntmps17
  go_wp2
  have hz := heap_new w (.cells #[.int .u32 0, .int .u32 0] 39)
  exact bodyPost_ret (v := .tuple #[hv 0 0, .int .i64 1]) (res_takeI _ w.heap.size _ 0 0 1 rfl rfl (by simp [Lib.cell_of_heap hz]) (by simp [Lib.cell_of_heap hz])) rfl ⟨rfl, below1 _ _⟩
theorem living_nil (w : World) : Calls Try.prog 46 #[.pointer none] w fun e w' => e = .returned (.slice none 0 0) ∧ w' = w := by
  go_enter Try.func46, Try.ntmps46
  go_wp2
  go_ret
  exact ⟨rfl, rfl⟩

set_option maxRecDepth 100000 in
set_option maxHeartbeats 2000000 in
theorem stops_nil {w : World} {bx : Nat} (n : Nat) (hn : 3 ≤ n) (hb : w.heap[bx]? = some (.cells #[.pointer none] 24 (0, 0))) : SeqIs n Try.prog 45 #[.pointer (some ⟨bx, 0, none⟩)] [] (Kc w.heap.size) w := by
  intro lp J Jx W hW hJ hJx hY h0
  have cW := Ch.of_below (Q := fun _ => False) hW
  have hbW := cW.box hb (fun h => h)
  have b0 : W.cell? ⟨bx, 0, none⟩ = some (.pointer none) := by simp [Lib.cell_of_heap hbW]
  clear hY
  refine callsIn_of_wp Try.func45 rfl trivial ?_ rfl
  simp only [Try.ntmps45, List.size_toArray, List.length_cons, List.length_nil, Nat.reduceAdd, Nat.reduceSub, Array.replicate_succ, Array.replicate_zero, List.push_toArray, List.append_toArray, List.nil_append, List.cons_append]
  gi_wp2
  refine ⟨trivial, fun _ => by omega, (callsIn_wide.2 (living_nil W)).mono ?_⟩
  rintro e W ⟨rfl, rfl⟩
  gi_wp2
  gi_loopw [8] (fun iv wr => iv = .int .i64 0 ∧ J 0 wr) (fun _ _ => 0)
  case atStart => exact ⟨rfl, h0⟩
  case round =>
    obtain ⟨rfl, hJi⟩ := hrel
    gi_wp2
    go_end0
    exact ⟨⟨_, rfl⟩, .inl hJi⟩

end Go.Proofs.Ytjilnmeegolpkaa
