/- Same, the program's and the document's. -/
import Derived.Test.YtnclmlhmmljfgaaGreatDoorTe
namespace Go.Proofs.YtnclmlhmmljfgaaGreatDoor
open Go.RowKit

theorem MapIs.new {κ : Type} (key : κ → Value) (w : World) : MapIs key (w.alloc (.map #[] 0)) w.heap.size [] := ⟨#[], 0, (MapKept.heap_alloc w _).1, rfl⟩

theorem same_eq (s t : Tr) : same s t = (sameF s.f t.f && sames s.ks t.ks) := by cases s; cases t; rfl

set_option maxHeartbeats 2000000 in
theorem same_is {s t : Tr} {w : World} {u v : Value} {m : Md} {S : Nat → Prop} {r : Bool} (hp : m.plain = true) (hu : Kids w m S u s.ks) (hv : Kids w m S v t.ks) (hS : ∀ i, S i → i < w.heap.size) (hr : same s t = r) :
    Calls Tryz.prog 19 #[nv s.f u, nv t.f v] w fun e w' => e = .returned (.bool r) ∧ Below w.heap.size w w' := by
  rw [same_eq] at hr
  have hmm := @run_makeMap Tryz.prog
  cases hf : sameF s.f t.f
  · have HF := hide hf
    rw [hf] at hr
    have E := hide (show false = r from hr)
    clear hf hr hu hv
    unfold nv
    go_enter Tryz.func19, Tryz.ntmps19
    go_wp2_with fail
    refine (samef_is (unhide HF) _).mono ?_
    rintro e w1 ⟨rfl, b1⟩
    have HB1 := hide ((((Below.refl w.heap.size w).alloc (Nat.le_refl _) (.cells #[.int .i64 s.f.k, .string s.f.t, .int .i64 s.f.n, .string s.f.y, .int .i64 s.f.s, .int .i64 s.f.a, .int .i64 s.f.l, u] 25)).alloc (by rw [World.size_alloc]; omega) (.cells #[.int .i64 t.f.k, .string t.f.t, .int .i64 t.f.n, .string t.f.y, .int .i64 t.f.s, .int .i64 t.f.a, .int .i64 t.f.l, v] 25)).trans (b1.mono (by rw [World.size_alloc, World.size_alloc]; omega)))
    clear b1
    go_wp2
    go_ret
    exact ⟨ret_bool (unhide E), unhide HB1⟩
  · have HF := hide hf
    rw [hf] at hr
    have E := hide (show sames s.ks t.ks = r from hr)
    have HU := hide hu
    have HV := hide hv
    clear hf hr hu hv
    unfold nv
    go_enter Tryz.func19, Tryz.ntmps19
    go_wp2_with fail
    obtain ⟨w1, hw1, HB1, HX1, hs1⟩ := boxed w s.f u
    rw [hw1]
    clear hw1
    obtain ⟨w2, hw2, HB2, HX2, hs2⟩ := boxed w1 t.f v
    rw [hw2]
    clear hw2
    rw [hs1] at HX2
    refine (samef_is (unhide HF) _).mono ?_
    rintro e w3 ⟨rfl, b3⟩
    have h3 := b3.size
    have HB3 := hide b3
    clear b3
    obtain ⟨x0, x1, x2, x3, x4, x5, x6, x7⟩ := (((unhide HX1).below (unhide HB2) (by omega)).below (unhide HB3) (by omega)).cell
    obtain ⟨z0, z1, z2, z3, z4, z5, z6, z7⟩ := ((unhide HX2).below (unhide HB3) (by omega)).cell
    have HB := hide ((unhide HB1).trans (((unhide HB2).trans ((unhide HB3).mono (by omega))).mono (by omega)))
    have x7' : ∀ o, (w3.alloc o).cell? ⟨w.heap.size, 7, none⟩ = some u := fun o => (World.cell?_alloc_lt _ _ _ (by show w.heap.size < _; omega)).trans x7
    have z7' : ∀ o, (w3.alloc o).cell? ⟨w.heap.size + 1, 7, none⟩ = some v := fun o => (World.cell?_alloc_lt _ _ _ (by show w.heap.size + 1 < _; omega)).trans z7
    clear HX1 HX2 HB1 HB2 HB3
    go_wp2_with fail
    have hb4 := (Below.refl w3.heap.size w3).alloc (Nat.le_refl _) (.map #[] 0)
    refine (slists_all (cnts s.ks) s.ks t.ks _ u v m S w3.heap.size [] (Nat.le_refl _) hp (((unhide HU).below (unhide HB) hS).below hb4 fun i hi => by have := hS i hi; omega) (((unhide HV).below (unhide HB) hS).below hb4 fun i hi => by have := hS i hi; omega) (fun i hi => by have := hS i hi; omega) (MapIs.new _ _) (fun e he => by cases he)).mono ?_
    rintro e w5 ⟨rfl, k5, _⟩
    rw [unhide E]
    have HB5 := hide (Keep.below (w0 := w) ((unhide HB).trans (hb4.mono (by omega))) (by omega) k5)
    clear k5 hb4 x0 x1 x2 x3 x4 x5 x6 x7 z0 z1 z2 z3 z4 z5 z6 z7 x7' z7'
    go_wp2
    go_ret
    exact ⟨rfl, unhide HB5⟩

end Go.Proofs.YtnclmlhmmljfgaaGreatDoor
