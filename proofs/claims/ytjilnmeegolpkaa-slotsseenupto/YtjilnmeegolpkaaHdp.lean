/- Layer 10: the program's table of pairs: its calls. -/
import Derived.Test.YtjilnmeegolpkaaHcp
namespace Go.Proofs.Ytjilnmeegolpkaa
open Go.RowKit Go.Shelf

variable {w : World} {B : Nat} {F : Nat → Prop} {p : Nat} {l : List (ThG Pa)} {M g : Nat}

theorem new_isP (w : World) (m : Int) (M : Nat) (hm : m = M) (h1 : 1 ≤ M) (h2 : M ≤ 500) : Calls Try.prog 22 #[.int .i64 m] w fun e w' => ∃ p g F, e = .returned (.tuple #[.pointer (some ⟨p, 0, none⟩), .int .i64 0]) ∧ TbP w' w.heap.size F p [] M g ∧ Below w.heap.size w w' := by
  subst hm
  have q1 : decide ((M : Int) < 1) = false := decide_eq_false (by omega)
  have q2 : decide (500 < (M : Int)) = false := decide_eq_false (by omega)
  obtain ⟨w1, hmk, hrow, hb⟩ := makeP w M h2
  have HR := hide hrow
  have HB := hide hb
  clear hrow hb
  go_enter Try.func22, Try.ntmps22
  go_wp2
  go_ret2
  have hg := own_in HR.out (g := w.heap.size) rfl
  refine ⟨w1.heap.size, w.heap.size, fun x => x = w1.heap.size ∨ x = w.heap.size, rfl, ⟨?_, ?_, HB.out.size, Wf.nil M, Lt.nil, h1, h2, fun x => Iff.rfl⟩, HB.out.trans ((below1 _ _).mono HB.out.size)⟩
  · exact heap_new _ _
  · exact HR.out.ch (Ch.alloc (Q := fun _ => False) _ _) (fun _ _ h => h)

theorem count_isP (h : TbP w B F p l M g) : Calls Try.prog 28 #[.pointer (some ⟨p, 0, none⟩)] w fun e w' => e = .returned (.int .i64 (cnt l : Int)) ∧ Below w.heap.size w w' := by
  obtain ⟨-, c1, -⟩ := h.cells
  go_enter Try.func28, Try.ntmps28
  go_wp2
  go_ret
  exact ⟨rfl, Below.refl _ _⟩

theorem gtP_at {l : List (ThG Pa)} {M : Nat} (hw : Wf l M) (hl : Lt l) {s g : Int} (hB : fnB l s g = true) : gtP l s g = sloX paZ l s := by
  obtain ⟨_, _, _, _, _, hf⟩ := live_at hw hl hB
  unfold gtP sloX
  rw [hf]
  cases liv l s <;> rfl
theorem gtP_gone {l : List (ThG Pa)} {s g : Int} (hB : fnB l s g = false) : gtP l s g = paZ := by
  unfold fnB at hB
  unfold gtP
  cases h : fnd l s g with
  | none => rfl
  | some k => rw [h] at hB; cases hB
theorem res_getP (tm : Array Value) (A : Nat) (Z : World) (x : Pa) (c : Int) (h4 : tm[4]?.getD undef = .pointer (some ⟨A, 0, none⟩)) (h5 : tm[5]?.getD undef = .int .i64 c) (c0 : Z.cell? ⟨A, 0, none⟩ = some (.string x.A)) (c1 : Z.cell? ⟨A, 1, none⟩ = some (.slice x.a x.n x.c)) :
    (results Try.f27 tm).run Try.prog Z = .ok (.tuple #[paV x, .int .i64 c]) Z := by
  simp [results, Try.results27, go_sem, h4, h5, c0, c1]

set_option maxRecDepth 100000 in
set_option maxHeartbeats 2000000 in
theorem get_isP (h : TbP w B F p l M g) {s G : Int} (hu : Us s) : Calls Try.prog 27 #[.pointer (some ⟨p, 0, none⟩), hv s G] w fun e w' => e = .returned (.tuple #[paV (gtP l s G), .int .i64 (ec (fnB l s G) 102)]) ∧ Below w.heap.size w w' := by
  obtain ⟨w1, hw1⟩ : ∃ w1, (w.alloc (.cells #[.int .u32 s, .int .u32 G] 39)).alloc (.cells #[.string ⟨#[]⟩, .slice none 0 0] 62) = w1 := ⟨_, rfl⟩
  have hB1 : Below w.heap.size w w1 := by rw [← hw1]; exact (below1 _ _).trans ((below1 _ _).mono (by simp))
  have hs1 : w1.heap.size = w.heap.size + 2 := by rw [← hw1]; simp
  have hn : w1.heap[w.heap.size + 1]? = some (.cells #[.string ⟨#[]⟩, .slice none 0 0] 62 (0, 0)) := by
    rw [← hw1]
    have := heap_new (w.alloc (.cells #[.int .u32 s, .int .u32 G] 39)) (.cells #[.string ⟨#[]⟩, .slice none 0 0] 62)
    rwa [World.size_alloc] at this
  have h1 := h.below hB1
  have y0 : w1.cell? ⟨w.heap.size, 0, none⟩ = some (.int .u32 s) := by
    rw [← hw1]
    simp [Lib.cell_of_heap ((Ch.alloc (Q := fun _ => False) (w.alloc (.cells #[.int .u32 s, .int .u32 G] 39)) (.cells #[.string ⟨#[]⟩, .slice none 0 0] 62)).box (heap_new w (.cells #[.int .u32 s, .int .u32 G] 39)) (fun h => h))]
  have y1 : w1.cell? ⟨w.heap.size, 1, none⟩ = some (.int .u32 G) := by
    rw [← hw1]
    simp [Lib.cell_of_heap ((Ch.alloc (Q := fun _ => False) (w.alloc (.cells #[.int .u32 s, .int .u32 G] 39)) (.cells #[.string ⟨#[]⟩, .slice none 0 0] 62)).box (heap_new w (.cells #[.int .u32 s, .int .u32 G] 39)) (fun h => h))]
  have HB1 := hide hB1
  have fin : ∀ (W : World) (A : ByteArray) (a : Option Addr) (n c : Nat), Below w1.heap.size w1 W → W.heap[w.heap.size + 1]? = some (.cells #[.string ⟨#[]⟩, .slice none 0 0] 62 (0, 0)) → Below w.heap.size w ((W.setCell ⟨w.heap.size + 1, 0, none⟩ (.string A)).setCell ⟨w.heap.size + 1, 1, none⟩ (.slice a n c)) := by
    intro W A a n c hb _
    exact ((HB1.out.trans (hb.mono (by omega))).setCell (p := ⟨w.heap.size + 1, 0, none⟩) (by simp) _).setCell (p := ⟨w.heap.size + 1, 1, none⟩) (by simp) _
  have FIN := hide fin
  clear fin
  cases hB : fnB l s G
  · have hf := hide (find_noP h1 hu hB)
    have HE := hide (gtP_gone hB)
    go_enter Try.func27, Try.ntmps27
    go_wp2_with fail
    refine hf.out.mono ?_
    rintro e w' ⟨rfl, hb⟩
    have n2 := (hb.block _ (by omega)).trans hn
    have HB2 := hide hb
    clear hb
    have N2 := hide n2
    have z0 : ∀ o, (w'.alloc o).cell? ⟨w.heap.size + 1, 0, none⟩ = some (.string ⟨#[]⟩) := (fun o => by simp [Lib.cell_of_heap ((Ch.alloc (Q := fun _ => False) w' o).box n2 (fun h => h))])
    have z1 : ∀ o, (w'.alloc o).cell? ⟨w.heap.size + 1, 1, none⟩ = some (.slice none 0 0) := (fun o => by simp [Lib.cell_of_heap ((Ch.alloc (Q := fun _ => False) w' o).box n2 (fun h => h))])
    have zf : ∀ o j, (w'.alloc o).frozen? ⟨w.heap.size + 1, j, none⟩ = false := (fun o j => by simp [World.frozen?, (Ch.alloc (Q := fun _ => False) w' o).box n2 (fun h => h)])
    go_wp2
    have n3 := hide ((Ch.alloc (Q := fun _ => False) w' (.cells #[.string ⟨#[]⟩, .slice none 0 0] 62)).box N2.out (fun h => h))
    refine bodyPost_ret (v := .tuple #[paV paZ, .int .i64 102]) (res_getP _ (w.heap.size + 1) _ paZ 102 rfl rfl ?_ ?_) rfl ⟨by rw [HE.out]; rfl, ?_⟩
    · simp [go_sem, z0, paZ]
    · simp [go_sem, z1, paZ]
    · exact FIN.out _ _ _ _ _ (HB2.out.alloc HB2.out.size _) n3.out
  · rw [gtP_at h.wf h.lt hB]
    obtain ⟨i, hi, rfl, hG, hr, hf⟩ := find_isP h1 hB
    have hf := hide hf
    clear hG hr
    go_enter Try.func27, Try.ntmps27
    go_wp2_with fail
    refine hf.out.mono ?_
    rintro e w' ⟨rfl, hb⟩
    have n2 := (hb.block _ (by omega)).trans hn
    obtain ⟨c0, c1, c2, c3⟩ := (h1.below hb).slot hi
    have HB2 := hide hb
    clear hb
    have N2 := hide n2
    have z0 : w'.cell? ⟨w.heap.size + 1, 0, none⟩ = some (.string ⟨#[]⟩) := (by simp [Lib.cell_of_heap n2])
    have z1 : w'.cell? ⟨w.heap.size + 1, 1, none⟩ = some (.slice none 0 0) := (by simp [Lib.cell_of_heap n2])
    have zf : ∀ j, w'.frozen? ⟨w.heap.size + 1, j, none⟩ = false := (fun j => by simp [World.frozen?, n2])
    clear n2
    go_wp2
    refine bodyPost_ret (v := .tuple #[paV (sloX paZ l ((i : Int) + 1)), .int .i64 0]) (res_getP _ (w.heap.size + 1) _ _ 0 rfl rfl ?_ ?_) rfl ⟨rfl, ?_⟩
    · simp [go_sem, z0]
    · simp [go_sem, z1]
    · exact FIN.out _ _ _ _ _ HB2.out N2.out

set_option maxRecDepth 100000 in
set_option maxHeartbeats 2000000 in
theorem set_isP (h : TbP w B F p l M g) {s G : Int} (hu : Us s) (x : Pa) : Calls Try.prog 26 #[.pointer (some ⟨p, 0, none⟩), hv s G, paV x] w fun e w' => e = .returned (.int .i64 (ec (fnB l s G) 102)) ∧ TbP w' B F p (std l s G x) M g ∧ Ch F w w' := by
  obtain ⟨w1, hw1⟩ : ∃ w1, (w.alloc (.cells #[.int .u32 s, .int .u32 G] 39)).alloc (.cells #[.string x.A, .slice x.a x.n x.c] 62) = w1 := ⟨_, rfl⟩
  have hB1 : Below w.heap.size w w1 := by rw [← hw1]; exact (below1 _ _).trans ((below1 _ _).mono (by simp))
  have hs1 : w1.heap.size = w.heap.size + 2 := by rw [← hw1]; simp
  have hn : w1.heap[w.heap.size + 1]? = some (.cells #[.string x.A, .slice x.a x.n x.c] 62 (0, 0)) := by
    rw [← hw1]
    have := heap_new (w.alloc (.cells #[.int .u32 s, .int .u32 G] 39)) (.cells #[.string x.A, .slice x.a x.n x.c] 62)
    rwa [World.size_alloc] at this
  have h1 := h.below hB1
  have y0 : w1.cell? ⟨w.heap.size, 0, none⟩ = some (.int .u32 s) := by
    rw [← hw1]
    simp [Lib.cell_of_heap ((Ch.alloc (Q := fun _ => False) (w.alloc (.cells #[.int .u32 s, .int .u32 G] 39)) (.cells #[.string x.A, .slice x.a x.n x.c] 62)).box (heap_new w (.cells #[.int .u32 s, .int .u32 G] 39)) (fun h => h))]
  have y1 : w1.cell? ⟨w.heap.size, 1, none⟩ = some (.int .u32 G) := by
    rw [← hw1]
    simp [Lib.cell_of_heap ((Ch.alloc (Q := fun _ => False) (w.alloc (.cells #[.int .u32 s, .int .u32 G] 39)) (.cells #[.string x.A, .slice x.a x.n x.c] 62)).box (heap_new w (.cells #[.int .u32 s, .int .u32 G] 39)) (fun h => h))]
  have HB1 := hide hB1
  clear hB1
  cases hB : fnB l s G
  · have hf := hide (find_noP h1 hu hB)
    have e : std l s G x = l := by
      unfold fnB at hB
      unfold std
      cases h : fnd l s G with
      | none => rfl
      | some k => rw [h] at hB; cases hB
    rw [e]
    go_enter Try.func26, Try.ntmps26
    go_wp2_with fail
    refine hf.out.mono ?_
    rintro e w' ⟨rfl, hb⟩
    go_wp2
    go_ret
    exact ⟨rfl, h1.below hb, Ch.of_below (HB1.out.trans (hb.mono (by omega)))⟩
  · obtain ⟨i, hi, rfl, hG, hr, hf⟩ := find_isP h1 hB
    have hf := hide hf
    have HB := hide hB
    clear hB hG hr
    go_enter Try.func26, Try.ntmps26
    go_wp2_with fail
    refine hf.out.mono ?_
    rintro e w' ⟨rfl, hb⟩
    have n2 := (hb.block _ (by omega)).trans hn
    have h2 := h1.below hb
    have HB2 := hide hb
    clear hb
    have z0 : w'.cell? ⟨w.heap.size + 1, 0, none⟩ = some (.string x.A) := (by simp [Lib.cell_of_heap n2])
    have z1 : w'.cell? ⟨w.heap.size + 1, 1, none⟩ = some (.slice x.a x.n x.c) := (by simp [Lib.cell_of_heap n2])
    have fz := fun o => (h2.fz o).2
    obtain ⟨c0, c1, c2, c3⟩ := h2.slot hi
    go_wp2
    go_ret
    have hc := (Ch.set (Q := fun x => x = g) w' rfl (i * 4 + 2) (.string x.A)).trans (Ch.set (Q := fun x => x = g) _ rfl (i * 4 + 3) (.slice x.a x.n x.c)) (fun _ _ h => h)
    refine ⟨rfl, ?_, ?_⟩
    · refine ⟨?_, ?_, h.low, h.wf.std _ _ _, h.lt.std _ _ _, h.m1, h.m2, h.foot⟩
      · rw [cnt_std, std_len]
        exact hc.box h2.box (fun e => h.ne e.symm)
      · have r1 := row_putP h2.row (i := i) (j := 2) (by rw [sls_len]; exact hi) (by decide) (u := .string x.A) ⟨gens l ((i : Int) + 1), sloR l ((i : Int) + 1), { sloX paZ l ((i : Int) + 1) with A := x.A }⟩ (by rw [sls_get]; rfl)
        have r2 := row_putP r1 (i := i) (j := 3) (by rw [List.length_set, sls_len]; exact hi) (by decide) (u := .slice x.a x.n x.c) ⟨gens l ((i : Int) + 1), sloR l ((i : Int) + 1), x⟩ (by rw [List.getElem_set_self]; rfl)
        simp only [List.set_set] at r2
        rw [← sls_std paZ h.wf h.lt x HB.out] at r2
        exact r2
    · exact (Ch.of_below (HB1.out.trans (HB2.out.mono (by omega)))).trans hc (fun x _ e => (h.foot x).2 (Or.inr e))

end Go.Proofs.Ytjilnmeegolpkaa
