/- Layer 12: RingNil's walk. -/
import Derived.Test.YtfheeifllpnjaaaRh
namespace Go.Proofs.Ytfheeifllpnjaaa
open Go.RowKit Go.Shelf

attribute [local go_sem] Oper.semAt_some

set_option maxRecDepth 100000 in
set_option maxHeartbeats 4000000 in
theorem nil_is (w : World) (x : Int) : Calls Try.prog 6 #[.int .i64 x] w fun e w' => e = .returned (.bool true) ∧ Below w.heap.size w w' := by
  refine (callsIn_wide (n := 20)).1 ?_
  refine callsIn_of_wp_marks Try.func6 rfl trivial ?_ rfl
  simp only [Try.ntmps6, List.size_toArray, List.length_cons, List.length_nil, Nat.reduceAdd, Nat.reduceSub, Array.replicate_succ, Array.replicate_zero, List.push_toArray, List.append_toArray, List.nil_append, List.cons_append]
  gi_wp2
  refine ⟨trivial, (callsIn_wide.2 (awake_is w)).mono ?_⟩
  rintro e w1 ⟨rfl, b1⟩
  gi_wp2
  refine ⟨trivial, (callsIn_wide.2 (put_nil w1 x)).mono ?_⟩
  rintro e w1 ⟨rfl, rfl⟩
  gi_wp2
  refine ⟨trivial, (callsIn_wide.2 (take_nil w1)).mono ?_⟩
  rintro e w1 ⟨rfl, rfl⟩
  gi_wp2
  refine ⟨trivial, (callsIn_wide.2 (at_nil w1 x)).mono ?_⟩
  rintro e w1 ⟨rfl, rfl⟩
  gi_wp2
  refine ⟨trivial, (callsIn_wide.2 (all_is w1 (.pointer none) rfl)).mono ?_⟩
  rintro e w2 ⟨rfl, hw2⟩
  have s2 : w2.heap[w1.heap.size]? = some (.cells #[.pointer none] 24 (0, 0)) := by rw [hw2]; exact heap_new _ _
  have b2 : Below w.heap.size w w2 := by rw [hw2]; exact b1.trans ((below1 _ _).mono b1.size)
  clear hw2
  obtain ⟨w3, hw3⟩ : ∃ w3, w2.alloc (.cells #[.bool true] 4) = w3 := ⟨_, rfl⟩
  have t3 : w3.heap[w2.heap.size]? = some (.cells #[.bool true] 4 (0, 0)) := by rw [← hw3]; exact heap_new _ _
  have s3 : w3.heap[w1.heap.size]? = some (.cells #[.pointer none] 24 (0, 0)) := by rw [← hw3]; exact (Ch.alloc (Q := fun _ => False) _ _).box s2 (fun h => h)
  have b3 : Below w.heap.size w w3 := by rw [← hw3]; exact b2.trans ((below1 _ _).mono b2.size)
  have HW := hide hw3
  have qS := seq_some 27 #[.pointer (some ⟨w1.heap.size, 0, none⟩)]
  clear hw3
  gi_wp2
  rw [HW.out]
  clear HW s2
  rename_i K1 hK1
  refine range_is (vs := []) (by decide) (gf := 27) (lb := #[.pointer (some ⟨w1.heap.size, 0, none⟩)]) rfl (enters_of Try.func27 (by kernel_rfl) rfl) (stops_nil 19 (by decide) s3) (fun h k => h.trans k) (fun W l o o' _ h hc _ => Kc.put W l o o' h hc) (fun i h => by cases h)
    (fun _ W => Ch (fun _ => False) w3 W) (fun _ _ _ => False) (ownFrom_ch (Nat.le_refl _)) (fun c => ownFrom_pure _ _) (Ch.refl _ _) (fun _ _ _ => False) (fun _ _ => ownFrom_pure _ _) (fun _ i h => by cases h) (fun _ i h => by cases h) ?done (fun _ _ _ _ _ _ h => h.elim)
  case done =>
    rintro D W hD hc hK
    refine hK1 _ _ ?_
    clear hK1 qS s3
    have t4 := hc.box t3 (fun h => h)
    have b4 : Below w.heap.size w W := b3.trans (hc.below b3.size (fun _ _ h => h))
    have hs3 := b3.size
    have y4 : W.cell? ⟨w2.heap.size, 0, none⟩ = some (.bool true) := by simp [Lib.cell_of_heap t4]
    have K4 := hide hK
    clear hK hc
    gi_wp2
    refine ⟨trivial, (callsIn_wide.2 (len_nil W)).mono ?_⟩
    rintro e W ⟨rfl, rfl⟩
    gi_wp2
    refine ⟨trivial, (callsIn_wide.2 (cap_nil W)).mono ?_⟩
    rintro e W ⟨rfl, rfl⟩
    gi_wp2
    refine ⟨by simp, .inl ⟨_, _, rfl, run_takeDeferred K4.out, ?_⟩⟩
    exact ⟨_, results_tmp rfl _ _ _, rfl, b4.trans (belowK_b (w := w) (Nat.le_refl _) W D _ _ (by omega) K4.out rfl rfl)⟩

end Go.Proofs.Ytfheeifllpnjaaa
