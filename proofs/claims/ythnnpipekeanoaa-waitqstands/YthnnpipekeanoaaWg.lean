/- Layer 11: the document's book: Get, Cut, First, Leave; two lists alike. -/
import Derived.Test.YthnnpipekeanoaaWe
namespace Go.Proofs.Ythnnpipekeanoaa
open Go.RowKit

variable {w : World} {B b : Nat} {av ov : Value} {l : List Wt}

/-- what Get tells -/
def gtW (l : List Wt) (s g : Int) : Rc := match fndW l s g with
  | none => zRc
  | some i => (l[i]?.map Wt.r).getD zRc
def fnW (l : List Wt) (s g : Int) : Bool := (fndW l s g).isSome

theorem resGetW (tm : Array Value) (A : Nat) (Z : World) (r : Rc) (q : Bool) (h4 : tm[4]?.getD undef = .pointer (some ⟨A, 0, none⟩)) (h5 : tm[5]?.getD undef = .bool q) (hc : ∀ j u, (rcF r)[j]? = some u → Z.cell? ⟨A, j, none⟩ = some u) :
    (results Try.f27 tm).run Try.prog Z = .ok (.tuple #[rcV r, .bool q]) Z := by
  have c0 := hc 0 _ rfl
  have c1 := hc 1 _ rfl
  have c2 := hc 2 _ rfl
  have c3 := hc 3 _ rfl
  have c4 := hc 4 _ rfl
  have c5 := hc 5 _ rfl
  have c6 := hc 6 _ rfl
  have c7 := hc 7 _ rfl
  have c8 := hc 8 _ rfl
  have c9 := hc 9 _ rfl
  have c10 := hc 10 _ rfl
  simp [results, Try.results27, go_sem, h4, h5, c0, c1, c2, c3, c4, c5, c6, c7, c8, c9, c10]

set_option maxRecDepth 100000 in
set_option maxHeartbeats 4000000 in
theorem rgetW (h : DB w B b av ov l) (s g : Int) :
    Calls Try.prog 27 #[.pointer (some ⟨b, 0, none⟩), hvW s g] w fun e w' => e = .returned (.tuple #[rcV (gtW l s g), .bool (fnW l s g)]) ∧ Below w.heap.size w w' := by
  obtain ⟨w1, hw1⟩ : ∃ w1, (w.alloc (.cells #[.int .u32 s, .int .u32 g] 41)).alloc (.cells (rcF zRc).toArray 57) = w1 := ⟨_, rfl⟩
  have hB1 : Below w.heap.size w w1 := by rw [← hw1]; exact (below1 _ _).trans ((below1 _ _).mono (by simp))
  have s1 : w1.heap.size = w.heap.size + 2 := by rw [← hw1]; simp
  have hn : w1.heap[w.heap.size + 1]? = some (.cells (rcF zRc).toArray 57 (0, 0)) := by
    rw [← hw1]
    have := heap_new (w.alloc (.cells #[.int .u32 s, .int .u32 g] 41)) (.cells (rcF zRc).toArray 57)
    rwa [World.size_alloc] at this
  have hh : w1.heap[w.heap.size]? = some (.cells #[.int .u32 s, .int .u32 g] 41 (0, 0)) := by
    rw [← hw1]
    exact (Ch.alloc (Q := fun _ => False) _ _).box (heap_new w _) (fun h => h)
  have y0 : w1.cell? ⟨w.heap.size, 0, none⟩ = some (.int .u32 s) := by simp [Lib.cell_of_heap hh]
  have y1 : w1.cell? ⟨w.heap.size, 1, none⟩ = some (.int .u32 g) := by simp [Lib.cell_of_heap hh]
  have h1 := h.below hB1
  have HF := hide (rfindW h1 s g)
  have HW := hide (show w1 = (w.alloc (.cells #[.int .u32 s, .int .u32 g] 41)).alloc (.cells #[.int .u32 0, .int .u32 0, .int .u32 0, .int .u32 0, .int .u32 0, .int .u32 0, .int .i64 0, .int .i64 0, .int .i64 0, .int .u32 0, .int .u32 0] 57) from hw1.symm)
  clear hw1 hh
  cases hf : fndW l s g with
  | none =>
    rw [hf] at HF
    have E1 := hide (show gtW l s g = zRc by unfold gtW; rw [hf])
    have E2 := hide (show fnW l s g = false by unfold fnW; rw [hf]; rfl)
    go_enter Try.func27, Try.ntmps27
    go_wp2_with fail
    rw [← HW.out]
    refine HF.out.mono ?_
    rintro e w' ⟨rfl, hb⟩
    simp only [ixW]
    have n2 := (hb.block _ (by omega)).trans hn
    have z0 : w'.cell? ⟨w.heap.size + 1, 0, none⟩ = some (.int .u32 0) := by simp [Lib.cell_of_heap n2, rcF, zRc]
    have z1 : w'.cell? ⟨w.heap.size + 1, 1, none⟩ = some (.int .u32 0) := by simp [Lib.cell_of_heap n2, rcF, zRc]
    have z2 : w'.cell? ⟨w.heap.size + 1, 2, none⟩ = some (.int .u32 0) := by simp [Lib.cell_of_heap n2, rcF, zRc]
    have z3 : w'.cell? ⟨w.heap.size + 1, 3, none⟩ = some (.int .u32 0) := by simp [Lib.cell_of_heap n2, rcF, zRc]
    have z4 : w'.cell? ⟨w.heap.size + 1, 4, none⟩ = some (.int .u32 0) := by simp [Lib.cell_of_heap n2, rcF, zRc]
    have z5 : w'.cell? ⟨w.heap.size + 1, 5, none⟩ = some (.int .u32 0) := by simp [Lib.cell_of_heap n2, rcF, zRc]
    have z6 : w'.cell? ⟨w.heap.size + 1, 6, none⟩ = some (.int .i64 0) := by simp [Lib.cell_of_heap n2, rcF, zRc]
    have z7 : w'.cell? ⟨w.heap.size + 1, 7, none⟩ = some (.int .i64 0) := by simp [Lib.cell_of_heap n2, rcF, zRc]
    have z8 : w'.cell? ⟨w.heap.size + 1, 8, none⟩ = some (.int .i64 0) := by simp [Lib.cell_of_heap n2, rcF, zRc]
    have z9 : w'.cell? ⟨w.heap.size + 1, 9, none⟩ = some (.int .u32 0) := by simp [Lib.cell_of_heap n2, rcF, zRc]
    have z10 : w'.cell? ⟨w.heap.size + 1, 10, none⟩ = some (.int .u32 0) := by simp [Lib.cell_of_heap n2, rcF, zRc]
    have zf : ∀ j, w'.frozen? ⟨w.heap.size + 1, j, none⟩ = false := fun j => by simp [World.frozen?, n2]
    have HB2 := hide (hB1.trans (hb.mono (by omega)))
    clear HF hn n2 hb
    go_wp2
    refine bodyPost_ret (v := .tuple #[rcV (zRc), .bool false]) (resGetW _ (w.heap.size + 1) _ (zRc) false rfl rfl ?_) rfl ⟨by rw [E1.out, E2.out], ?_⟩
    · intro j u hu
      match j, hu with
      | 0, hu => cases hu; simp [go_sem, z0, zRc]
      | 1, hu => cases hu; simp [go_sem, z1, zRc]
      | 2, hu => cases hu; simp [go_sem, z2, zRc]
      | 3, hu => cases hu; simp [go_sem, z3, zRc]
      | 4, hu => cases hu; simp [go_sem, z4, zRc]
      | 5, hu => cases hu; simp [go_sem, z5, zRc]
      | 6, hu => cases hu; simp [go_sem, z6, zRc]
      | 7, hu => cases hu; simp [go_sem, z7, zRc]
      | 8, hu => cases hu; simp [go_sem, z8, zRc]
      | 9, hu => cases hu; simp [go_sem, z9, zRc]
      | 10, hu => cases hu; simp [go_sem, z10, zRc]
      | j + 11, hu => simp [rcF] at hu
    · repeat (refine Below.setCell (p := ⟨w.heap.size + 1, _, none⟩) ?_ (by simp) _)
      exact HB2.out
  | some i =>
    obtain ⟨hi, -, -, -⟩ := fndW_some hf
    rw [hf] at HF
    have E1 := hide (show gtW l s g = l[i].r by unfold gtW; rw [hf]; simp [hi])
    have E2 := hide (show fnW l s g = true by unfold fnW; rw [hf]; rfl)
    have hm' : l.length ≤ 9223372036854775807 := by obtain ⟨_, _, _, _, _, _, _, _, hm⟩ := h.forms; unfold maxLen at hm; omega
    go_enter Try.func27, Try.ntmps27
    go_wp2_with fail
    rw [← HW.out]
    refine HF.out.mono ?_
    rintro e w' ⟨rfl, hb⟩
    simp only [ixW]
    have n2 := (hb.block _ (by omega)).trans hn
    have z0 : w'.cell? ⟨w.heap.size + 1, 0, none⟩ = some (.int .u32 0) := by simp [Lib.cell_of_heap n2, rcF, zRc]
    have z1 : w'.cell? ⟨w.heap.size + 1, 1, none⟩ = some (.int .u32 0) := by simp [Lib.cell_of_heap n2, rcF, zRc]
    have z2 : w'.cell? ⟨w.heap.size + 1, 2, none⟩ = some (.int .u32 0) := by simp [Lib.cell_of_heap n2, rcF, zRc]
    have z3 : w'.cell? ⟨w.heap.size + 1, 3, none⟩ = some (.int .u32 0) := by simp [Lib.cell_of_heap n2, rcF, zRc]
    have z4 : w'.cell? ⟨w.heap.size + 1, 4, none⟩ = some (.int .u32 0) := by simp [Lib.cell_of_heap n2, rcF, zRc]
    have z5 : w'.cell? ⟨w.heap.size + 1, 5, none⟩ = some (.int .u32 0) := by simp [Lib.cell_of_heap n2, rcF, zRc]
    have z6 : w'.cell? ⟨w.heap.size + 1, 6, none⟩ = some (.int .i64 0) := by simp [Lib.cell_of_heap n2, rcF, zRc]
    have z7 : w'.cell? ⟨w.heap.size + 1, 7, none⟩ = some (.int .i64 0) := by simp [Lib.cell_of_heap n2, rcF, zRc]
    have z8 : w'.cell? ⟨w.heap.size + 1, 8, none⟩ = some (.int .i64 0) := by simp [Lib.cell_of_heap n2, rcF, zRc]
    have z9 : w'.cell? ⟨w.heap.size + 1, 9, none⟩ = some (.int .u32 0) := by simp [Lib.cell_of_heap n2, rcF, zRc]
    have z10 : w'.cell? ⟨w.heap.size + 1, 10, none⟩ = some (.int .u32 0) := by simp [Lib.cell_of_heap n2, rcF, zRc]
    have zf : ∀ j, w'.frozen? ⟨w.heap.size + 1, j, none⟩ = false := fun j => by simp [World.frozen?, n2]
    have HB2 := hide (hB1.trans (hb.mono (by omega)))
    have h2 := h1.below hb
    obtain ⟨hx0, hx1⟩ := h2.cells
    obtain ⟨ga, gc, oa, oc, rfl, rfl, k1, k2, -, -, hcell, -, -⟩ := h2.at (by omega)
    have q1 : decide ((i : Int) < 0) = false := decide_eq_false (by omega)
    have y0 : w'.cell? ⟨ga, i * 11, none⟩ = _ := hcell i hi 0 (.int .u32 l[i].r.ms) rfl
    have y1 := hcell i hi 1 (.int .u32 l[i].r.mg) rfl
    have y2 := hcell i hi 2 (.int .u32 l[i].r.ws) rfl
    have y3 := hcell i hi 3 (.int .u32 l[i].r.wg) rfl
    have y4 := hcell i hi 4 (.int .u32 l[i].r.rs) rfl
    have y5 := hcell i hi 5 (.int .u32 l[i].r.rg) rfl
    have y6 := hcell i hi 6 (.int .i64 l[i].r.rd) rfl
    have y7 := hcell i hi 7 (.int .i64 l[i].r.ar) rfl
    have y8 := hcell i hi 8 (.int .i64 l[i].r.vn) rfl
    have y9 := hcell i hi 9 (.int .u32 l[i].r.vs) rfl
    have y10 := hcell i hi 10 (.int .u32 l[i].r.vg) rfl
    generalize l[i].r = z at *
    clear hcell HF hn n2 hb
    go_wp2
    refine bodyPost_ret (v := .tuple #[rcV (z), .bool true]) (resGetW _ (w.heap.size + 1) _ (z) true rfl rfl ?_) rfl ⟨by rw [E1.out, E2.out], ?_⟩
    · intro j u hu
      match j, hu with
      | 0, hu => cases hu; simp [go_sem, z0]
      | 1, hu => cases hu; simp [go_sem, z1]
      | 2, hu => cases hu; simp [go_sem, z2]
      | 3, hu => cases hu; simp [go_sem, z3]
      | 4, hu => cases hu; simp [go_sem, z4]
      | 5, hu => cases hu; simp [go_sem, z5]
      | 6, hu => cases hu; simp [go_sem, z6]
      | 7, hu => cases hu; simp [go_sem, z7]
      | 8, hu => cases hu; simp [go_sem, z8]
      | 9, hu => cases hu; simp [go_sem, z9]
      | 10, hu => cases hu; simp [go_sem, z10]
      | j + 11, hu => simp [rcF] at hu
    · repeat (refine Below.setCell (p := ⟨w.heap.size + 1, _, none⟩) ?_ (by simp) _)
      exact HB2.out

theorem cutW_at {l : List Wt} {s g : Int} {i : Nat} (hf : fndW l s g = some i) : (cutW l s g).map Wt.r = l.map Wt.r ∧ (cutW l s g).map Wt.o = (l.map Wt.o).set i true := by
  unfold cutW
  rw [hf]
  constructor
  · apply List.ext_getElem
    · simp
    · intro j h1 h2
      rw [List.getElem_map, List.getElem_map, List.getElem_modify]
      split <;> rfl
  · apply List.ext_getElem
    · simp
    · intro j h1 h2
      rw [List.getElem_map, List.getElem_modify, List.getElem_set]
      split
      · rfl
      · rw [List.getElem_map]
theorem DB.ne (h : DB w B b av ov l) : ¬ ov.ownBlock = some b ∧ ¬ av.ownBlock = some b := ⟨own_box h.ov h.box (by decide), own_box h.all h.box (by decide)⟩
theorem DB.two (h : DB w B b av ov l) (x : Nat) (hx : ov.ownBlock = some x) : ¬ av.ownBlock = some x := own_ne h.ov h.all (by decide) x hx
/-- one mark is written over -/
theorem DB.mark {oa oc : Nat} (h : DB w B b av (.slice (some ⟨oa, 0, none⟩) l.length oc) l) {i : Nat} (hi : i < l.length) {l' : List Wt} (h1 : l'.map Wt.r = l.map Wt.r) (h2 : l'.map Wt.o = (l.map Wt.o).set i true) : DB (w.setCell ⟨oa, i, none⟩ (.int .i64 1)) B b av (.slice (some ⟨oa, 0, none⟩) l.length oc) l' := by
  have hc := Ch.set (Q := fun x => x = oa) w rfl i (.int .i64 1)
  refine ⟨hc.box h.box (fun e => h.ne.1 (by rw [e]; rfl)), by rw [h1]; exact h.all.ch hc (fun x hx e => h.two oa rfl (by rw [← e]; exact hx)), ?_⟩
  have hr := h.ov
  rw [h2]
  have e : l.length = (l.map Wt.o).length := by simp
  rw [e] at hr ⊢
  have := Row.set (f := ovF) (K := 1) hr ovF_len (i := i) (j := 0) (by simpa using hi) (by decide) (u := .int .i64 1) true rfl
  rw [Nat.mul_one] at this
  exact this

set_option maxHeartbeats 2000000 in
theorem rcutW (h : DB w B b av ov l) (s g : Int) :
    Calls Try.prog 25 #[.pointer (some ⟨b, 0, none⟩), hvW s g] w fun e w' => e = .returned (.bool (fnW l s g)) ∧ DB w' B b av ov (cutW l s g) ∧ Ch (fun x => ov.ownBlock = some x) w w' := by
  have hB1 := below1 w (.cells #[.int .u32 s, .int .u32 g] 41)
  have h1 := h.below hB1
  have HF := hide (rfindW h1 s g)
  cases hf : fndW l s g with
  | none =>
    rw [hf] at HF
    have E1 := hide (show cutW l s g = l by unfold cutW; rw [hf])
    have E2 := hide (show fnW l s g = false by unfold fnW; rw [hf]; rfl)
    go_enter Try.func25, Try.ntmps25
    go_wp2_with (go_at_call 40; refine HF.out.mono ?_; rintro e w' ⟨rfl, hb⟩; simp only [ixW])
    go_ret
    exact ⟨by rw [E2.out]; rfl, by rw [E1.out]; exact h1.below hb, Ch.of_below (hB1.trans (hb.mono (by simp)))⟩
  | some i =>
    obtain ⟨hi, -, -, -⟩ := fndW_some hf
    rw [hf] at HF
    have E2 := hide (show fnW l s g = true by unfold fnW; rw [hf]; rfl)
    have HC := hide (cutW_at hf)
    have hm' : l.length ≤ 9223372036854775807 := by obtain ⟨_, _, _, _, _, _, _, _, hm⟩ := h.forms; unfold maxLen at hm; omega
    have q1 : decide (0 ≤ (i : Int)) = true := decide_eq_true (by omega)
    obtain ⟨ga, gc, oa, oc, rfl, rfl, k1, k2, -, -, -, -, -⟩ := h.at (by omega)
    go_enter Try.func25, Try.ntmps25
    go_wp2_with fail
    refine HF.out.mono ?_
    rintro e w' ⟨rfl, hb⟩
    simp only [ixW]
    have h2 := h1.below hb
    obtain ⟨hx0, hx1⟩ := h2.cells
    obtain ⟨ga', gc', oa', oc', e1, e2, -, -, -, -, -, hov, fz⟩ := h2.at (by omega)
    cases e1
    cases e2
    have yo := hov i hi
    have H2 := hide h2
    have HB2 := hide (hB1.trans (hb.mono (by simp)))
    clear hov h2 hb
    go_wp2
    go_ret
    refine ⟨ret_bool (by rw [E2.out]), H2.out.mark hi HC.out.1 HC.out.2, (Ch.of_below HB2.out).trans (Ch.set (Q := fun x => x = oa) w' rfl _ _) (fun x _ e => by rw [e]; rfl)⟩

end Go.Proofs.Ythnnpipekeanoaa
