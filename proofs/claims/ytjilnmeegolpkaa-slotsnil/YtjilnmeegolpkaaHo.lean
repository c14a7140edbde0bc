/- Layer 10: SlotsNil's walk. -/
import Derived.Test.YtjilnmeegolpkaaHn
import Derived.Test.YtjilnmeegolpkaaSv
namespace Go.Proofs.Ytjilnmeegolpkaa
open Go.RowKit Go.Shelf

attribute [local go_sem] Oper.semAt_some

/-- two blocks hold handles: the one that came in, and the zero one -/
structure Nb (w0 : Nat) (A : Nat) (s g : Int) (w : World) : Prop where
  h0 : w.heap[w0]? = some (.cells #[.int .u32 s, .int .u32 g] 39 (0, 0))
  h1 : w.heap[A]? = some (.cells #[.int .u32 0, .int .u32 0] 39 (0, 0))
theorem Nb.below {w0 A : Nat} {s g : Int} {w w' : World} (h : Nb w0 A s g w) (hb : Below w.heap.size w w') : Nb w0 A s g w' := ⟨(hb.block _ (Array.getElem?_eq_some_iff.1 h.h0).1).trans h.h0, (hb.block _ (Array.getElem?_eq_some_iff.1 h.h1).1).trans h.h1⟩
theorem Nb.cells {w0 A : Nat} {s g : Int} {w : World} (h : Nb w0 A s g w) : w.cell? ⟨w0, 0, none⟩ = some (.int .u32 s) ∧ w.cell? ⟨w0, 1, none⟩ = some (.int .u32 g) ∧ w.cell? ⟨A, 0, none⟩ = some (.int .u32 0) ∧ w.cell? ⟨A, 1, none⟩ = some (.int .u32 0) := by
  simp [Lib.cell_of_heap h.h0, Lib.cell_of_heap h.h1]

set_option maxRecDepth 100000 in
set_option maxHeartbeats 4000000 in
theorem nil_is (w : World) (s g x : Int) : Calls Try.prog 6 #[hv s g, .int .i64 x] w fun e w' => e = .returned (.bool true) ∧ Below w.heap.size w w' := by
  refine (callsIn_wide (n := 20)).1 ?_
  refine callsIn_of_wp_marks Try.func6 rfl trivial ?_ rfl
  simp only [Try.ntmps6, List.size_toArray, List.length_cons, List.length_nil, Nat.reduceAdd, Nat.reduceSub, Array.replicate_succ, Array.replicate_zero, List.push_toArray, List.append_toArray, List.nil_append, List.cons_append]
  obtain ⟨W0, hW0⟩ : ∃ W0, w.alloc (.cells #[.int .u32 s, .int .u32 g] 39) = W0 := ⟨_, rfl⟩
  have b0 : Below w.heap.size w W0 := by rw [← hW0]; exact below1 _ _
  have n0 : W0.heap[w.heap.size]? = some (.cells #[.int .u32 s, .int .u32 g] 39 (0, 0)) := by rw [← hW0]; exact heap_new _ _
  gi_wp2_with (rw [hW0])
  clear hW0
  refine ⟨trivial, (callsIn_wide.2 (awake_is face W0)).mono ?_⟩
  rintro e w1 ⟨rfl, b1⟩
  have n1 := (b1.block _ (Array.getElem?_eq_some_iff.1 n0).1).trans n0
  replace b1 := b0.trans (b1.mono b0.size)
  clear n0 b0
  gi_wp2
  refine ⟨trivial, (callsIn_wide.2 (take_nil w1 x)).mono ?_⟩
  rintro e w2 ⟨rfl, b2⟩
  have n2 := (b2.block _ (Array.getElem?_eq_some_iff.1 n1).1).trans n1
  replace b2 := b1.trans (b2.mono b1.size)
  clear n1 b1
  obtain ⟨W2, hW2⟩ : ∃ W2, w2.alloc (.cells #[.int .u32 0, .int .u32 0] 39) = W2 := ⟨_, rfl⟩
  have N2 : Nb w.heap.size w2.heap.size s g W2 := by rw [← hW2]; exact ⟨((below1 w2 _).block _ (Array.getElem?_eq_some_iff.1 n2).1).trans n2, heap_new _ _⟩
  have B2 : Below w.heap.size w W2 := by rw [← hW2]; exact b2.trans ((below1 _ _).mono b2.size)
  have y0 : ∀ o, (w2.alloc o).cell? ⟨w.heap.size, 0, none⟩ = some (.int .u32 s) := fun o => by simp [Lib.cell_of_heap ((Ch.alloc (Q := fun _ => False) w2 o).box n2 (fun h => h))]
  have y1 : ∀ o, (w2.alloc o).cell? ⟨w.heap.size, 1, none⟩ = some (.int .u32 g) := fun o => by simp [Lib.cell_of_heap ((Ch.alloc (Q := fun _ => False) w2 o).box n2 (fun h => h))]
  have HW := hide hW2
  clear hW2
  gi_wp2
  rw [HW.out]
  clear HW y0 y1 n2 b2
  refine ⟨trivial, (callsIn_wide.2 (get_nil W2 s g)).mono ?_⟩
  rintro e w3 ⟨rfl, b3⟩
  have N3 := N2.below b3
  have B3 := B2.trans (b3.mono B2.size)
  clear N2 B2 b3
  obtain ⟨y0, y1, y2, y3⟩ := N3.cells
  gi_wp2
  clear y0 y1 y2 y3
  refine ⟨trivial, (callsIn_wide.2 (serial_nil w3 s g)).mono ?_⟩
  rintro e w4 ⟨rfl, b4⟩
  have N4 := N3.below b4
  have B4 := B3.trans (b4.mono B3.size)
  clear N3 B3 b4
  obtain ⟨W4, hW4⟩ : ∃ W4, w4.alloc (.cells #[.bool true] 4) = W4 := ⟨_, rfl⟩
  have N5 : Nb w.heap.size w2.heap.size s g W4 := by rw [← hW4]; exact N4.below (below1 _ _)
  have B5 : Below w.heap.size w W4 := by rw [← hW4]; exact B4.trans ((below1 _ _).mono B4.size)
  have t5 : W4.heap[w4.heap.size]? = some (.cells #[.bool true] 4 (0, 0)) := by rw [← hW4]; exact heap_new _ _
  have HW := hide hW4
  clear hW4
  gi_wp2
  rw [HW.out]
  clear HW N4 B4
  refine ⟨trivial, (callsIn_wide.2 (all_isI W4 (.pointer none) rfl)).mono ?_⟩
  rintro e w5 ⟨rfl, hw5⟩
  have N6 : Nb w.heap.size w2.heap.size s g w5 := by rw [hw5]; exact N5.below (below1 _ _)
  have B6 : Below w.heap.size w w5 := by rw [hw5]; exact B5.trans ((below1 _ _).mono B5.size)
  have t6 : w5.heap[w4.heap.size]? = some (.cells #[.bool true] 4 (0, 0)) := by rw [hw5]; exact ((below1 _ _).block _ (Array.getElem?_eq_some_iff.1 t5).1).trans t5
  have s6 : w5.heap[W4.heap.size]? = some (.cells #[.pointer none] 24 (0, 0)) := by rw [hw5]; exact heap_new _ _
  clear hw5 N5 B5 t5
  have qS := seq_some 45 #[.pointer (some ⟨W4.heap.size, 0, none⟩)]
  gi_wp2
  rename_i K1 hK1
  refine range_is (vs := []) (by decide) (gf := 45) (lb := #[.pointer (some ⟨W4.heap.size, 0, none⟩)]) rfl (enters_of Try.func45 (by kernel_rfl) rfl) (stops_nil 19 (by decide) s6) (fun h k => h.trans k) (fun W l o o' _ h hc _ => Kc.put W l o o' h hc) (fun i h => by cases h)
    (fun _ W => Ch (fun _ => False) w5 W) (fun _ _ _ => False) (ownFrom_ch (Nat.le_refl _)) (fun c => ownFrom_pure _ _) (Ch.refl _ _) (fun _ _ _ => False) (fun _ _ => ownFrom_pure _ _) (fun _ i h => by cases h) (fun _ i h => by cases h) ?done (fun _ _ _ _ _ _ h => h.elim)
  case done =>
    rintro D W hD hc hK
    refine hK1 _ _ ?_
    clear hK1 qS s6
    have N7 : Nb w.heap.size w2.heap.size s g W := ⟨hc.box N6.h0 (fun h => h), hc.box N6.h1 (fun h => h)⟩
    have t7 := hc.box t6 (fun h => h)
    have B7 : Below w.heap.size w W := B6.trans (hc.below B6.size (fun _ _ h => h))
    obtain ⟨y0, y1, y2, y3⟩ := N7.cells
    have hs7 := B6.size
    have K7 := hK
    clear hK hc
    gi_wp2
    clear y0 y1 y2 y3
    refine ⟨trivial, (callsIn_wide.2 (free_nil W s g)).mono ?_⟩
    rintro e w8 ⟨rfl, b8⟩
    have N8 := N7.below b8
    have t8 := (b8.block _ (Array.getElem?_eq_some_iff.1 t7).1).trans t7
    have K8 := (b8.block _ (Array.getElem?_eq_some_iff.1 K7).1).trans K7
    have B8 := B7.trans (b8.mono B7.size)
    clear b8 N7 t7 K7 B7
    obtain ⟨y0, y1, y2, y3⟩ := N8.cells
    have y4 : w8.cell? ⟨w4.heap.size, 0, none⟩ = some (.bool true) := by simp [Lib.cell_of_heap t8]
    gi_wp2
    clear y0 y1 y2 y3 y4
    refine ⟨trivial, (callsIn_wide.2 (set_nil w8 s g x)).mono ?_⟩
    rintro e w9 ⟨rfl, b9⟩
    have N9 := N8.below b9
    have t9 := (b9.block _ (Array.getElem?_eq_some_iff.1 t8).1).trans t8
    have K9 := (b9.block _ (Array.getElem?_eq_some_iff.1 K8).1).trans K8
    have B9 := B8.trans (b9.mono B8.size)
    clear b9 N8 t8 K8 B8
    obtain ⟨y0, y1, y2, y3⟩ := N9.cells
    have y4 : w9.cell? ⟨w4.heap.size, 0, none⟩ = some (.bool true) := by simp [Lib.cell_of_heap t9]
    gi_wp2
    clear y0 y1 y2 y3 y4
    refine ⟨trivial, (callsIn_wide.2 (lives_nil w9 s g)).mono ?_⟩
    rintro e w10 ⟨rfl, b10⟩
    have N10 := N9.below b10
    have t10 := (b10.block _ (Array.getElem?_eq_some_iff.1 t9).1).trans t9
    have K10 := (b10.block _ (Array.getElem?_eq_some_iff.1 K9).1).trans K9
    have B10 := B9.trans (b10.mono B9.size)
    clear b10 N9 t9 K9 B9
    obtain ⟨y0, y1, y2, y3⟩ := N10.cells
    have y4 : w10.cell? ⟨w4.heap.size, 0, none⟩ = some (.bool true) := by simp [Lib.cell_of_heap t10]
    gi_wp2
    clear y0 y1 y2 y3 y4
    refine ⟨trivial, (callsIn_wide.2 (count_nil w10)).mono ?_⟩
    rintro e w11 ⟨rfl, b11⟩
    have N11 := N10.below b11
    have t11 := (b11.block _ (Array.getElem?_eq_some_iff.1 t10).1).trans t10
    have K11 := (b11.block _ (Array.getElem?_eq_some_iff.1 K10).1).trans K10
    have B11 := B10.trans (b11.mono B10.size)
    clear b11 N10 t10 K10 B10
    obtain ⟨y0, y1, y2, y3⟩ := N11.cells
    have y4 : w11.cell? ⟨w4.heap.size, 0, none⟩ = some (.bool true) := by simp [Lib.cell_of_heap t11]
    gi_wp2
    clear y0 y1 y2 y3 y4
    refine ⟨trivial, (callsIn_wide.2 (born_nil w11)).mono ?_⟩
    rintro e w12 ⟨rfl, b12⟩
    have N12 := N11.below b12
    have t12 := (b12.block _ (Array.getElem?_eq_some_iff.1 t11).1).trans t11
    have K12 := (b12.block _ (Array.getElem?_eq_some_iff.1 K11).1).trans K11
    have B12 := B11.trans (b12.mono B11.size)
    clear b12 N11 t11 K11 B11
    obtain ⟨y0, y1, y2, y3⟩ := N12.cells
    have y4 : w12.cell? ⟨w4.heap.size, 0, none⟩ = some (.bool true) := by simp [Lib.cell_of_heap t12]
    gi_wp2
    clear y0 y1 y2 y3 y4
    refine ⟨by simp, .inl ⟨_, _, rfl, run_takeDeferred K12, ?_⟩⟩
    exact ⟨_, results_tmp rfl _ _ _, rfl, B12.trans (belowK_b (w := w) (Nat.le_refl _) w12 D _ _ (by omega) K12 rfl rfl)⟩

end Go.Proofs.Ytjilnmeegolpkaa
