/- Layer 10: the law's handle; what a pair of tables is. -/
import Derived.Test.YtjilnmeegolpkaaIg
import Derived.Test.YtjilnmeegolpkaaTk
namespace Go.Proofs.Ytjilnmeegolpkaa
open Go.RowKit Go.Shelf

def hdF (a : Int × Int) : List Value := [.int .u32 a.1, .int .u32 a.2]
theorem hdF_len (a : Int × Int) : (hdF a).length = 2 := rfl
abbrev HdRow (w : World) (B : Nat) (v : Value) (l : List (Int × Int)) : Prop := Row hdF 2 39 w B v l

theorem nfHd : (Try.prog.info? 39).map (fun i => (i.zero, i.size, i.bytes)) = some (some (.agg #[.int .u32 0, .int .u32 0]), 2, 8) := by kernel_rfl

theorem res_handle (tm : Array Value) (A : Nat) (Z : World) (s g : Int) (h2 : tm[4]?.getD undef = .pointer (some ⟨A, 0, none⟩)) (c0 : Z.cell? ⟨A, 0, none⟩ = some (.int .u32 s)) (c1 : Z.cell? ⟨A, 1, none⟩ = some (.int .u32 g)) :
    (results Try.f31 tm).run Try.prog Z = .ok (hv s g) Z := by
  simp [results, Try.f31, h2, go_sem, c0, c1]

set_option maxHeartbeats 2000000 in
theorem handle_is {w : World} {B : Nat} {tv : Value} {hs : List (Int × Int)} (h : HdRow w B tv hs) (hl : hs.length ≤ 100000) (k x wh ea s g : Int) (hd : Bool) (h1 : -9223372036854775808 ≤ wh) (h2 : wh ≤ 9223372036854775807) (hu : Us s) (ha : ∀ a ∈ hs, Us a.1) :
    Calls Try.prog 31 #[.agg #[.int .i64 k, .int .i64 x, .int .i64 wh, .int .i64 ea, .int .u32 s, .int .u32 g, .bool hd], tv] w fun e w' => ∃ s' g', e = .returned (hv s' g') ∧ Us s' ∧ Below w.heap.size w w' := by
  obtain ⟨a, c, rfl, hc, hm⟩ := h.form
  have fin : ∀ (o : Obj) (tm : Array Value) (s g : Int), Us s → tm[4]?.getD undef = .pointer (some ⟨w.heap.size + 1, 0, none⟩) → bodyPost Try.prog Try.f31 (fun e w' => ∃ s' g', e = .returned (hv s' g') ∧ Us s' ∧ Below w.heap.size w w') .ret { tmps := tm, defers := [] } ((w.alloc o).alloc (.cells #[.int .u32 s, .int .u32 g] 39)) := by
    intro o tm s g hus ht
    have hz : ((w.alloc o).alloc (.cells #[.int .u32 s, .int .u32 g] 39)).heap[w.heap.size + 1]? = some (.cells #[.int .u32 s, .int .u32 g] 39 (0, 0)) := by
      have := heap_new (w.alloc o) (.cells #[.int .u32 s, .int .u32 g] 39)
      rwa [World.size_alloc] at this
    exact bodyPost_ret (res_handle tm _ _ s g ht (by simp [Lib.cell_of_heap hz]) (by simp [Lib.cell_of_heap hz])) rfl ⟨s, g, rfl, hus, (below1 _ _).trans ((below1 _ _).mono (by simp))⟩
  replace fin := hide fin
  have HU := hide hu
  have HA := hide ha
  clear hu ha
  cases hd
  rotate_left
  · go_enter Try.func31, Try.ntmps31
    go_wp2
    exact fin.out _ _ s g HU.out rfl
  by_cases h0 : hs.length = 0
  · rw [h0]
    go_enter Try.func31, Try.ntmps31
    go_wp2
    exact fin.out _ _ s g HU.out rfl
  · obtain ⟨W2, hW2⟩ : ∃ W2, (w.alloc (.cells #[.int .i64 k, .int .i64 x, .int .i64 wh, .int .i64 ea, .int .u32 s, .int .u32 g, .bool false] 41)).alloc (.cells #[.int .u32 0, .int .u32 0] 39) = W2 := ⟨_, rfl⟩
    have hb2 : Below w.heap.size w W2 := by rw [← hW2]; exact (below1 _ _).trans ((below1 _ _).mono (by simp))
    obtain ⟨g', c', cur, hsl, hcr, hBr, hgr, hgc, hcs, hcell⟩ := (h.ch (Ch.of_below (Q := fun _ => False) hb2) (fun _ _ h => h)).at hdF_len (by omega)
    cases hsl
    have hcell' := hide hcell
    have hpos := hide (show 0 < hs.length by omega)
    have hq : ((hs.length : Int) == 0) = false := beq_false_of_ne (by omega)
    have HW := hide hW2
    clear hcell hW2 h0
    go_enter Try.func31, Try.ntmps31
    go_wp2_with (go_at_call 16; refine (pick_is h1 h2 hpos.out hl _).mono ?_; rintro e w' ⟨i, hi, rfl, rfl⟩; have y0 : W2.cell? ⟨g', i * 2, none⟩ = _ := hcell'.out i hi 0 (.int .u32 hs[i].1) rfl; have y1 := hcell'.out i hi 1 (.int .u32 hs[i].2) rfl; rw [← HW.out] at y0 y1)
    exact fin.out _ _ _ _ (HA.out _ (List.getElem_mem hi)) rfl

end Go.Proofs.Ytjilnmeegolpkaa
