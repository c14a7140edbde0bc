/- WaitqPlays for every script: step by step the program's book answers as the document's; the lists that came out are their owner's. There are no conditions. Layer 11: the law's step, any op. Layer 11: the laws' head: rows of the document's examples. Layer 11: WaitqPlays' walk. Layer 11: arguments that came in: rows, handles. -/
import Derived.Test.YthnnpipekeanoaaXo
import Derived.Test.YthnnpipekeanoaaXp
import Derived.Test.YthnnpipekeanoaaXr
import Derived.Test.YthnnpipekeanoaaYb
import Derived.Test.YthnnpipekeanoaaXa
import Derived.ProofKit
import Derived.OpenShut
import Derived.ShutString
import Derived.JoinedCond
import Derived.Deep.DeepHandedRow
import Derived.Deep.SlicePairs
import Derived.Carry
import Derived.ChangeOld
import Derived.Below
namespace Go.Proofs.Ythnnpipekeanoaa
open Go.RowKit

variable {wB : World} {PT : World → Nat → (Nat → Prop) → Nat → List Wt → Prop} {C : Nat → Nat} {w w' : World} {B T p b : Nat} {F : Nat → Prop} {l : List Wt} {hs : List (Int × Int)} {av ov tv lv wv : Value} {ls ws : List Value} {rs : List (List Rc)} {n k : Nat}

/-- what holds behind k steps -/
structure StO (l : List Wt) (hs : List (Int × Int)) (rs : List (List Rc)) (n k : Nat) : Prop where
  nl : l.length ≤ k
  nh : hs.length ≤ k
  nn : n ≤ k
  nr : rs.length = n
  fit : FitW l
  hd : ∀ a ∈ hs, UsW a.1 ∧ UsW a.2
  few : ∀ j, j < n → (nthR rs j).length ≤ k
def St (wB : World) (PT : World → Nat → (Nat → Prop) → Nat → List Wt → Prop) (w : World) (B T p b k : Nat) : Prop := ∃ C F l hs av ov tv lv wv ls ws rs n, Tw wB PT C w B T p b F l l hs av ov tv lv wv ls ws rs n ∧ StO l hs rs n k

theorem StO.up (h : StO l hs rs n k) : StO l hs rs n (k + 1) := ⟨Nat.le_succ_of_le h.nl, Nat.le_succ_of_le h.nh, Nat.le_succ_of_le h.nn, h.nr, h.fit, h.hd, fun j hj => Nat.le_succ_of_le (h.few j hj)⟩
theorem StO.same (h : StO l hs rs n k) {l' : List Wt} (hl : l'.length = l.length) (hf : FitW l') : StO l' hs rs n (k + 1) := ⟨by have := h.nl; omega, Nat.le_succ_of_le h.nh, Nat.le_succ_of_le h.nn, h.nr, hf, h.hd, fun j hj => Nat.le_succ_of_le (h.few j hj)⟩
theorem StO.list (h : StO l hs rs n k) (q : Wt → Bool) : StO l hs (rs ++ [sel q l]) (n + 1) (k + 1) := by
  refine ⟨Nat.le_succ_of_le h.nl, Nat.le_succ_of_le h.nh, Nat.succ_le_succ h.nn, by simp [h.nr], h.fit, h.hd, fun j hj => ?_⟩
  by_cases e : j = n
  · rw [nthR_last (h.nr.trans e.symm)]
    have := sel_le q l
    have := h.nl
    omega
  · rw [nthR_snoc (by rw [h.nr]; omega)]
    have := h.few j (by omega)
    omega
theorem cutW_len (l : List Wt) (s g : Int) : (cutW l s g).length = l.length := by unfold cutW; split <;> simp
theorem FitW.over {l' : List Wt} (h : FitW l) (hm : ∀ t ∈ l', ∃ u ∈ l, t.r = u.r) : FitW l' := fun t ht => by
  obtain ⟨u, hu, e⟩ := hm t ht
  rw [e]
  exact h u hu
theorem cutW_mem (l : List Wt) (s g : Int) : ∀ t ∈ cutW l s g, ∃ u ∈ l, t.r = u.r := by
  intro t ht
  unfold cutW at ht
  split at ht
  · exact ⟨t, ht, rfl⟩
  · obtain ⟨i, hi, e⟩ := List.mem_iff_getElem.1 ht
    rw [List.getElem_modify] at e
    have hi' : i < l.length := by simpa using hi
    refine ⟨l[i], List.getElem_mem _, ?_⟩
    rw [← e]
    split <;> rfl
theorem leaW_mem (l : List Wt) (s g : Int) : ∀ t ∈ leaW l s g, ∃ u ∈ l, t.r = u.r := by
  intro t ht
  unfold leaW at ht
  obtain ⟨u, hu, e⟩ := List.mem_map.1 ht
  refine ⟨u, hu, ?_⟩
  rw [← e]
  split <;> rfl
theorem psW_us (hl : l.length ≤ 100000) (ws wg rd ar : Int) : UsW (psW l ws wg rd ar) ∧ UsW (pgW l ws wg rd ar) := by
  have h1 := slW_le l
  have h2 := genW_le l (slW l : Int)
  unfold psW pgW UsW
  constructor <;> split <;> omega

theorem step_any (fc : FaceW PT) (h : St wB PT w B T p b k) (hk : k ≤ 1000) (o : Oq) (ho : o.Fit) :
    Calls Try.prog 8 #[.pointer (some ⟨T, 0, none⟩), opV o] w fun e w' => e = .returned (.bool true) ∧ St wB PT w' B T p b (k + 1) := by
  obtain ⟨C, F, l, hs, av, ov, tv, lv, wv, ls, ws, rs, n, ht, hs0⟩ := h
  have hl : l.length ≤ 100000 := by have := hs0.nl; omega
  have hh : hs.length ≤ 100000 := by have := hs0.nh; omega
  have hn : n ≤ 100000 := by have := hs0.nn; omega
  by_cases h1 : o.k = 1
  · refine (step_put fc ht hl hh hs0.fit o ho h1 rfl).mono ?_
    rintro e w' ⟨rfl, C', F', av', ov', tv', t'⟩
    have hlen := putW_len l o.rs o.rg o.rd o.ws o.wg o.ar o.vn o.vs o.vg
    refine ⟨rfl, C', F', _, _, av', ov', tv', lv, wv, ls, ws, rs, n, t', ⟨by have := hs0.nl; omega, ?_, Nat.le_succ_of_le hs0.nn, hs0.nr, hs0.fit.put hl _ _ _ _ _ _ _ _ _, ?_, fun j hj => Nat.le_succ_of_le (hs0.few j hj)⟩⟩
    · have := hs0.nh
      split
      · simp; omega
      · omega
    · split
      · intro a ha
        rcases List.mem_append.1 ha with ha | ha
        · exact hs0.hd a ha
        · rw [List.mem_singleton.1 ha]
          exact psW_us hl ..
      · exact hs0.hd
  by_cases h2 : o.k = 2
  · refine (step_cut fc ht hl hh hs0.hd o ho h2).mono ?_
    rintro e w' ⟨rfl, C', F', t'⟩
    exact ⟨rfl, C', F', _, hs, av, ov, tv, lv, wv, ls, ws, rs, n, t', hs0.same (cutW_len ..) (hs0.fit.over (cutW_mem _ _ _))⟩
  by_cases h3 : o.k = 3
  · refine (step_leave fc ht hl o ho h3).mono ?_
    rintro e w' ⟨rfl, C', F', t'⟩
    exact ⟨rfl, C', F', _, hs, av, ov, tv, lv, wv, ls, ws, rs, n, t', hs0.same (leaW_len ..) (hs0.fit.over (leaW_mem _ _ _))⟩
  by_cases h4 : o.k = 4
  · refine (step_get fc ht hl hh hs0.hd o ho h4).mono ?_
    rintro e w' ⟨rfl, C', F', t'⟩
    exact ⟨rfl, C', F', _, hs, av, ov, tv, lv, wv, ls, ws, rs, n, t', hs0.up⟩
  by_cases h5 : o.k = 5
  · refine (step_first fc ht hl o ho h5).mono ?_
    rintro e w' ⟨rfl, C', F', t'⟩
    exact ⟨rfl, C', F', _, hs, av, ov, tv, lv, wv, ls, ws, rs, n, t', hs0.up⟩
  by_cases h6 : o.k = 6
  · refine (step_row fc ht hl hs0.nr hn o ho h6).mono ?_
    rintro e w' ⟨rfl, C', lv', wv', v, v', t'⟩
    exact ⟨rfl, C', F, l, hs, av, ov, tv, lv', wv', _, _, _, _, t', hs0.list _⟩
  by_cases h7 : o.k = 7
  · refine (step_of fc ht hl hs0.nr hn o ho h7).mono ?_
    rintro e w' ⟨rfl, C', lv', wv', v, v', t'⟩
    exact ⟨rfl, C', F, l, hs, av, ov, tv, lv', wv', _, _, _, _, t', hs0.list _⟩
  by_cases h8 : o.k = 8
  · refine (step_all fc ht hl hs0.nr hn o h8).mono ?_
    rintro e w' ⟨rfl, C', lv', wv', v, v', t'⟩
    exact ⟨rfl, C', F, l, hs, av, ov, tv, lv', wv', _, _, _, _, t', hs0.list _⟩
  · refine (step_none fc ht o (by omega)).mono ?_
    rintro e w' ⟨rfl, t'⟩
    exact ⟨rfl, C, F, l, hs, av, ov, tv, lv, wv, ls, ws, rs, n, t', hs0.up⟩

end Go.Proofs.Ythnnpipekeanoaa

namespace Go.Proofs.Ythnnpipekeanoaa
open Go.RowKit

theorem PTb.nbox {w : World} {B : Nat} {F : Nat → Prop} {p b : Nat} {l : List Wt} {cs : Array Value} {T : TypeId} (h : PTb w B F p l) (hb : w.heap[b]? = some (.cells cs T (0, 0))) (h1 : 73 ≠ T) (h2 : 92 ≠ T) : ¬ F b := by
  obtain ⟨wv, M, C, sl, full, en, cl, n, hk, hi, rfl, hs⟩ := h
  obtain ⟨_, hm⟩ := hk.mp
  rintro (e | e | e | e)
  · subst e
    rw [hk.box] at hb
    injection hb with hb
    injection hb with _ hb _
    exact h1 hb
  · exact hm.ne_cells hb e
  · exact hk.cm.ne_cells hb e
  · exact own_box hk.row hb h2 e
def aw1 : Rc := ⟨1, 1, 5, 1, 1, 1, 1, 0, 3, 0, 0⟩
def aw2 : Rc := ⟨2, 1, 6, 1, 1, 1, 1, 0, 0, 0, 0⟩

set_option maxRecDepth 100000 in
set_option maxHeartbeats 16000000 in
theorem awake_is (w : World) : Calls Try.prog 6 #[] w fun e w' => e = .returned (.bool true) ∧ Below w.heap.size w w' := by
  go_enter Try.func6, Try.ntmps6
  go_wp2_with fail
  refine (face.new w).mono ?_
  rintro e W1 ⟨p, F, rfl, h1, b1⟩
  obtain ⟨W2, hW2⟩ : ∃ x, ((W1.alloc (.cells #[.int .u32 1, .int .u32 1, .int .i64 1] 44)).alloc (.cells #[.int .u32 5, .int .u32 1] 41)).alloc (.cells #[.int .u32 6, .int .u32 1] 41) = x := ⟨_, rfl⟩
  have al : ∀ (W : World) (o : Obj) {b : Nat} {x : Obj}, W.heap[b]? = some x → (W.alloc o).heap[b]? = some x := fun W o b x h => (Ch.alloc (Q := fun _ => False) W o).box h (fun h => h)
  have nw : ∀ (W : World) (o : Obj) {b : Nat}, W.heap.size = b → (W.alloc o).heap[b]? = some o := fun W o b e => by rw [← e]; exact heap_new W o
  have AL := hide al
  have NW := hide nw
  have nS := hide (show W2.heap[W1.heap.size]? = some (.cells #[.int .u32 1, .int .u32 1, .int .i64 1] 44 (0, 0)) by rw [← hW2]; exact al _ _ (al _ _ (nw _ _ rfl)))
  have nX := hide (show W2.heap[W1.heap.size + 1]? = some (.cells #[.int .u32 5, .int .u32 1] 41 (0, 0)) by rw [← hW2]; exact al _ _ (nw _ _ (by simp)))
  have nY := hide (show W2.heap[W1.heap.size + 2]? = some (.cells #[.int .u32 6, .int .u32 1] 41 (0, 0)) by rw [← hW2]; exact nw _ _ (by simp))
  have c2 : Ch (fun _ => False) W1 W2 := by rw [← hW2]; exact ((Ch.alloc _ _).trans (Ch.alloc _ _) (fun _ _ h => h)).trans (Ch.alloc _ _) (fun _ _ h => h)
  have PTc := hide (face.ch h1 c2 (fun _ _ h => h))
  have BE := hide (b1.trans (c2.below (N := w.heap.size) b1.size (fun _ _ h => h)))
  clear h1 b1 c2 al nw
  have ns0 : W2.cell? ⟨W1.heap.size, 0, none⟩ = some (.int .u32 1) := by simp [Lib.cell_of_heap nS.out]
  have ns1 : W2.cell? ⟨W1.heap.size, 1, none⟩ = some (.int .u32 1) := by simp [Lib.cell_of_heap nS.out]
  have ns2 : W2.cell? ⟨W1.heap.size, 2, none⟩ = some (.int .i64 1) := by simp [Lib.cell_of_heap nS.out]
  have nx0 : W2.cell? ⟨W1.heap.size + 1, 0, none⟩ = some (.int .u32 5) := by simp [Lib.cell_of_heap nX.out]
  have nx1 : W2.cell? ⟨W1.heap.size + 1, 1, none⟩ = some (.int .u32 1) := by simp [Lib.cell_of_heap nX.out]
  go_wp2_with fail
  clear ns0 ns1 ns2 nx0 nx1
  clear hW2
  refine (face.put 1 1 1 5 1 0 3 0 0 (by unfold UsW; omega) (by unfold UsW; omega) (by unfold I64; omega) (by unfold UsW; omega) (by unfold UsW; omega) (by unfold I64; omega) (by unfold I64; omega) (by unfold UsW; omega) (by unfold UsW; omega) PTc.out (by simp) (by have := BE.out.size; omega)).mono ?_
  rintro e W3 ⟨F3, rfl, hp, hc, hf⟩
  rw [show psW [] 5 1 1 0 = 1 from rfl, show pgW [] 5 1 1 0 = 1 from rfl, show ecW [] 5 1 1 0 = 0 from rfl]
  have PTo := PTc
  have nS := hide (hc.box nS.out (PTc.out.nbox nS.out (by decide) (by decide)))
  have nX := hide (hc.box nX.out (PTc.out.nbox nX.out (by decide) (by decide)))
  have nY := hide (hc.box nY.out (PTc.out.nbox nY.out (by decide) (by decide)))
  have PTc := hide (show PTb W3 w.heap.size F3 p [⟨aw1, false⟩] from hp)
  have BE := hide (BE.out.trans (hc.below (N := w.heap.size) BE.out.size (fun y hy e => by have := (face.foot PTo.out y e).1; omega)))
  clear hp hc hf PTo
  obtain ⟨W4, hW4⟩ : ∃ x, W3.alloc (.cells #[.int .u32 1, .int .u32 1] 41) = x := ⟨_, rfl⟩
  have nM := hide (show W4.heap[W3.heap.size]? = some (.cells #[.int .u32 1, .int .u32 1] 41 (0, 0)) by rw [← hW4]; exact NW.out _ _ rfl)
  have cA : Ch (fun _ => False) W3 W4 := by rw [← hW4]; exact Ch.alloc _ _
  have nS := hide (cA.box nS.out (fun h => h))
  have nX := hide (cA.box nX.out (fun h => h))
  have nY := hide (cA.box nY.out (fun h => h))
  have PTc := hide (face.ch PTc.out cA (fun _ _ h => h))
  have BE := hide (BE.out.trans (cA.below (N := w.heap.size) BE.out.size (fun _ _ h => h)))
  clear cA
  have ns0 : W4.cell? ⟨W1.heap.size, 0, none⟩ = some (.int .u32 1) := by simp [Lib.cell_of_heap nS.out]
  have ns1 : W4.cell? ⟨W1.heap.size, 1, none⟩ = some (.int .u32 1) := by simp [Lib.cell_of_heap nS.out]
  have ns2 : W4.cell? ⟨W1.heap.size, 2, none⟩ = some (.int .i64 1) := by simp [Lib.cell_of_heap nS.out]
  have ny0 : W4.cell? ⟨W1.heap.size + 2, 0, none⟩ = some (.int .u32 6) := by simp [Lib.cell_of_heap nY.out]
  have ny1 : W4.cell? ⟨W1.heap.size + 2, 1, none⟩ = some (.int .u32 1) := by simp [Lib.cell_of_heap nY.out]
  go_wp2_with fail
  clear hW4
  clear ns0 ns1 ns2 ny0 ny1
  refine (face.put 1 1 1 6 1 0 0 0 0 (by unfold UsW; omega) (by unfold UsW; omega) (by unfold I64; omega) (by unfold UsW; omega) (by unfold UsW; omega) (by unfold I64; omega) (by unfold I64; omega) (by unfold UsW; omega) (by unfold UsW; omega) PTc.out (by simp) (by have := BE.out.size; omega)).mono ?_
  rintro e W5 ⟨F5, rfl, hp, hc, hf⟩
  rw [show psW [⟨aw1, false⟩] 6 1 1 0 = 2 from rfl, show pgW [⟨aw1, false⟩] 6 1 1 0 = 1 from rfl, show ecW [⟨aw1, false⟩] 6 1 1 0 = 0 from rfl]
  have PTo := PTc
  have nS := hide (hc.box nS.out (PTc.out.nbox nS.out (by decide) (by decide)))
  have nX := hide (hc.box nX.out (PTc.out.nbox nX.out (by decide) (by decide)))
  have nY := hide (hc.box nY.out (PTc.out.nbox nY.out (by decide) (by decide)))
  have nM := hide (hc.box nM.out (PTc.out.nbox nM.out (by decide) (by decide)))
  have PTc := hide (show PTb W5 w.heap.size F5 p [⟨aw1, false⟩, ⟨aw2, false⟩] from hp)
  have BE := hide (BE.out.trans (hc.below (N := w.heap.size) BE.out.size (fun y hy e => by have := (face.foot PTo.out y e).1; omega)))
  clear hp hc hf PTo
  obtain ⟨W6, hW6⟩ : ∃ x, W5.alloc (.cells #[.int .u32 2, .int .u32 1] 41) = x := ⟨_, rfl⟩
  have nN := hide (show W6.heap[W5.heap.size]? = some (.cells #[.int .u32 2, .int .u32 1] 41 (0, 0)) by rw [← hW6]; exact NW.out _ _ rfl)
  have cA : Ch (fun _ => False) W5 W6 := by rw [← hW6]; exact Ch.alloc _ _
  have nS := hide (cA.box nS.out (fun h => h))
  have nX := hide (cA.box nX.out (fun h => h))
  have nY := hide (cA.box nY.out (fun h => h))
  have nM := hide (cA.box nM.out (fun h => h))
  have PTc := hide (face.ch PTc.out cA (fun _ _ h => h))
  have BE := hide (BE.out.trans (cA.below (N := w.heap.size) BE.out.size (fun _ _ h => h)))
  clear cA
  have ns0 : W6.cell? ⟨W1.heap.size, 0, none⟩ = some (.int .u32 1) := by simp [Lib.cell_of_heap nS.out]
  have ns1 : W6.cell? ⟨W1.heap.size, 1, none⟩ = some (.int .u32 1) := by simp [Lib.cell_of_heap nS.out]
  have ns2 : W6.cell? ⟨W1.heap.size, 2, none⟩ = some (.int .i64 1) := by simp [Lib.cell_of_heap nS.out]
  have nx0 : W6.cell? ⟨W1.heap.size + 1, 0, none⟩ = some (.int .u32 5) := by simp [Lib.cell_of_heap nX.out]
  have nx1 : W6.cell? ⟨W1.heap.size + 1, 1, none⟩ = some (.int .u32 1) := by simp [Lib.cell_of_heap nX.out]
  go_wp2_with fail
  clear hW6
  clear ns0 ns1 ns2 nx0 nx1
  refine (face.put 1 1 1 5 1 0 0 0 0 (by unfold UsW; omega) (by unfold UsW; omega) (by unfold I64; omega) (by unfold UsW; omega) (by unfold UsW; omega) (by unfold I64; omega) (by unfold I64; omega) (by unfold UsW; omega) (by unfold UsW; omega) PTc.out (by simp) (by have := BE.out.size; omega)).mono ?_
  rintro e W7 ⟨F7, rfl, hp, hc, hf⟩
  rw [show psW [⟨aw1, false⟩, ⟨aw2, false⟩] 5 1 1 0 = 0 from rfl, show pgW [⟨aw1, false⟩, ⟨aw2, false⟩] 5 1 1 0 = 0 from rfl, show ecW [⟨aw1, false⟩, ⟨aw2, false⟩] 5 1 1 0 = 113 from rfl]
  have PTo := PTc
  have nS := hide (hc.box nS.out (PTc.out.nbox nS.out (by decide) (by decide)))
  have nX := hide (hc.box nX.out (PTc.out.nbox nX.out (by decide) (by decide)))
  have nY := hide (hc.box nY.out (PTc.out.nbox nY.out (by decide) (by decide)))
  have nM := hide (hc.box nM.out (PTc.out.nbox nM.out (by decide) (by decide)))
  have nN := hide (hc.box nN.out (PTc.out.nbox nN.out (by decide) (by decide)))
  have PTc := hide (show PTb W7 w.heap.size F7 p [⟨aw1, false⟩, ⟨aw2, false⟩] from hp)
  have BE := hide (BE.out.trans (hc.below (N := w.heap.size) BE.out.size (fun y hy e => by have := (face.foot PTo.out y e).1; omega)))
  clear hp hc hf PTo
  obtain ⟨W8, hW8⟩ : ∃ x, W7.alloc (.cells #[.int .u32 0, .int .u32 0] 41) = x := ⟨_, rfl⟩
  have nO := hide (show W8.heap[W7.heap.size]? = some (.cells #[.int .u32 0, .int .u32 0] 41 (0, 0)) by rw [← hW8]; exact NW.out _ _ rfl)
  have cA : Ch (fun _ => False) W7 W8 := by rw [← hW8]; exact Ch.alloc _ _
  have nS := hide (cA.box nS.out (fun h => h))
  have nX := hide (cA.box nX.out (fun h => h))
  have nY := hide (cA.box nY.out (fun h => h))
  have nM := hide (cA.box nM.out (fun h => h))
  have nN := hide (cA.box nN.out (fun h => h))
  have PTc := hide (face.ch PTc.out cA (fun _ _ h => h))
  have BE := hide (BE.out.trans (cA.below (N := w.heap.size) BE.out.size (fun _ _ h => h)))
  clear cA
  have HW8 := hide hW8
  clear hW8
  have ns0 : (W7.alloc (.cells #[.int .u32 0, .int .u32 0] 41)).cell? ⟨W1.heap.size, 0, none⟩ = some (.int .u32 1) := by rw [HW8.out]; simp [Lib.cell_of_heap nS.out]
  have ns1 : (W7.alloc (.cells #[.int .u32 0, .int .u32 0] 41)).cell? ⟨W1.heap.size, 1, none⟩ = some (.int .u32 1) := by rw [HW8.out]; simp [Lib.cell_of_heap nS.out]
  have ns2 : (W7.alloc (.cells #[.int .u32 0, .int .u32 0] 41)).cell? ⟨W1.heap.size, 2, none⟩ = some (.int .i64 1) := by rw [HW8.out]; simp [Lib.cell_of_heap nS.out]
  go_wp2_with fail
  rw [HW8.out]
  clear ns0 ns1 ns2
  refine (face.first 1 1 1 (by unfold UsW; omega) (by unfold UsW; omega) (by unfold I64; omega) PTc.out (by simp)).mono ?_
  rintro e W9 ⟨rfl, hb⟩
  rw [show (sel (inRow 1 1 1) [⟨aw1, false⟩, ⟨aw2, false⟩]).headD zRc = aw1 from rfl, show (!(sel (inRow 1 1 1) [⟨aw1, false⟩, ⟨aw2, false⟩]).isEmpty) = true from rfl]
  have hc := Ch.of_below (Q := fun _ => False) hb
  have nS := hide (hc.box nS.out (fun h => h))
  have nX := hide (hc.box nX.out (fun h => h))
  have nY := hide (hc.box nY.out (fun h => h))
  have nM := hide (hc.box nM.out (fun h => h))
  have nN := hide (hc.box nN.out (fun h => h))
  have nO := hide (hc.box nO.out (fun h => h))
  have PTc := hide (face.ch PTc.out hc (fun _ _ h => h))
  have BE := hide (BE.out.trans (hc.below (N := w.heap.size) BE.out.size (fun _ _ h => h)))
  clear hb hc
  unfold aw1
  obtain ⟨W10, hW10⟩ : ∃ x, W9.alloc (.cells #[.int .u32 1, .int .u32 1, .int .u32 5, .int .u32 1, .int .u32 1, .int .u32 1, .int .i64 1, .int .i64 0, .int .i64 3, .int .u32 0, .int .u32 0] 57) = x := ⟨_, rfl⟩
  have nR := hide (show W10.heap[W9.heap.size]? = some (.cells #[.int .u32 1, .int .u32 1, .int .u32 5, .int .u32 1, .int .u32 1, .int .u32 1, .int .i64 1, .int .i64 0, .int .i64 3, .int .u32 0, .int .u32 0] 57 (0, 0)) by rw [← hW10]; exact NW.out _ _ rfl)
  have cA : Ch (fun _ => False) W9 W10 := by rw [← hW10]; exact Ch.alloc _ _
  have nS := hide (cA.box nS.out (fun h => h))
  have nX := hide (cA.box nX.out (fun h => h))
  have nY := hide (cA.box nY.out (fun h => h))
  have nM := hide (cA.box nM.out (fun h => h))
  have nN := hide (cA.box nN.out (fun h => h))
  have nO := hide (cA.box nO.out (fun h => h))
  have PTc := hide (face.ch PTc.out cA (fun _ _ h => h))
  have BE := hide (BE.out.trans (cA.below (N := w.heap.size) BE.out.size (fun _ _ h => h)))
  clear cA
  have HW10 := hide hW10
  clear hW10
  have nx0 : (W9.alloc (.cells #[.int .u32 1, .int .u32 1, .int .u32 5, .int .u32 1, .int .u32 1, .int .u32 1, .int .i64 1, .int .i64 0, .int .i64 3, .int .u32 0, .int .u32 0] 57)).cell? ⟨W1.heap.size + 1, 0, none⟩ = some (.int .u32 5) := by rw [HW10.out]; simp [Lib.cell_of_heap nX.out]
  have nx1 : (W9.alloc (.cells #[.int .u32 1, .int .u32 1, .int .u32 5, .int .u32 1, .int .u32 1, .int .u32 1, .int .i64 1, .int .i64 0, .int .i64 3, .int .u32 0, .int .u32 0] 57)).cell? ⟨W1.heap.size + 1, 1, none⟩ = some (.int .u32 1) := by rw [HW10.out]; simp [Lib.cell_of_heap nX.out]
  go_wp2_with fail
  rw [HW10.out]
  clear nx0 nx1
  refine (face.leave 5 1 (by unfold UsW; omega) (by unfold UsW; omega) PTc.out (by simp)).mono ?_
  rintro e W11 ⟨F11, rfl, hp, hc, hf⟩
  rw [show leaN [⟨aw1, false⟩, ⟨aw2, false⟩] 5 1 = 1 from rfl]
  have PTo := PTc
  have nS := hide (hc.box nS.out (PTc.out.nbox nS.out (by decide) (by decide)))
  have nX := hide (hc.box nX.out (PTc.out.nbox nX.out (by decide) (by decide)))
  have nY := hide (hc.box nY.out (PTc.out.nbox nY.out (by decide) (by decide)))
  have nM := hide (hc.box nM.out (PTc.out.nbox nM.out (by decide) (by decide)))
  have nN := hide (hc.box nN.out (PTc.out.nbox nN.out (by decide) (by decide)))
  have nO := hide (hc.box nO.out (PTc.out.nbox nO.out (by decide) (by decide)))
  have nR := hide (hc.box nR.out (PTc.out.nbox nR.out (by decide) (by decide)))
  have PTc := hide (show PTb W11 w.heap.size F11 p [⟨aw1, true⟩, ⟨aw2, false⟩] from hp)
  have BE := hide (BE.out.trans (hc.below (N := w.heap.size) BE.out.size (fun y hy e => by have := (face.foot PTo.out y e).1; omega)))
  clear hp hc hf PTo
  have ns0 : W11.cell? ⟨W1.heap.size, 0, none⟩ = some (.int .u32 1) := by simp [Lib.cell_of_heap nS.out]
  have ns1 : W11.cell? ⟨W1.heap.size, 1, none⟩ = some (.int .u32 1) := by simp [Lib.cell_of_heap nS.out]
  have ns2 : W11.cell? ⟨W1.heap.size, 2, none⟩ = some (.int .i64 1) := by simp [Lib.cell_of_heap nS.out]
  go_wp2_with fail
  clear ns0 ns1 ns2
  refine (face.first 1 1 1 (by unfold UsW; omega) (by unfold UsW; omega) (by unfold I64; omega) PTc.out (by simp)).mono ?_
  rintro e W12 ⟨rfl, hb⟩
  rw [show (sel (inRow 1 1 1) [⟨aw1, true⟩, ⟨aw2, false⟩]).headD zRc = aw2 from rfl, show (!(sel (inRow 1 1 1) [⟨aw1, true⟩, ⟨aw2, false⟩]).isEmpty) = true from rfl]
  have hc := Ch.of_below (Q := fun _ => False) hb
  have nS := hide (hc.box nS.out (fun h => h))
  have nX := hide (hc.box nX.out (fun h => h))
  have nY := hide (hc.box nY.out (fun h => h))
  have nM := hide (hc.box nM.out (fun h => h))
  have nN := hide (hc.box nN.out (fun h => h))
  have nO := hide (hc.box nO.out (fun h => h))
  have nR := hide (hc.box nR.out (fun h => h))
  have PTc := hide (face.ch PTc.out hc (fun _ _ h => h))
  have BE := hide (BE.out.trans (hc.below (N := w.heap.size) BE.out.size (fun _ _ h => h)))
  clear hb hc
  unfold aw2
  obtain ⟨W13, hW13⟩ : ∃ x, W12.alloc (.cells #[.int .u32 2, .int .u32 1, .int .u32 6, .int .u32 1, .int .u32 1, .int .u32 1, .int .i64 1, .int .i64 0, .int .i64 0, .int .u32 0, .int .u32 0] 57) = x := ⟨_, rfl⟩
  have nQ := hide (show W13.heap[W12.heap.size]? = some (.cells #[.int .u32 2, .int .u32 1, .int .u32 6, .int .u32 1, .int .u32 1, .int .u32 1, .int .i64 1, .int .i64 0, .int .i64 0, .int .u32 0, .int .u32 0] 57 (0, 0)) by rw [← hW13]; exact NW.out _ _ rfl)
  have cA : Ch (fun _ => False) W12 W13 := by rw [← hW13]; exact Ch.alloc _ _
  have nS := hide (cA.box nS.out (fun h => h))
  have nX := hide (cA.box nX.out (fun h => h))
  have nY := hide (cA.box nY.out (fun h => h))
  have nM := hide (cA.box nM.out (fun h => h))
  have nN := hide (cA.box nN.out (fun h => h))
  have nO := hide (cA.box nO.out (fun h => h))
  have nR := hide (cA.box nR.out (fun h => h))
  have PTc := hide (face.ch PTc.out cA (fun _ _ h => h))
  have BE := hide (BE.out.trans (cA.below (N := w.heap.size) BE.out.size (fun _ _ h => h)))
  clear cA
  have HW13 := hide hW13
  clear hW13
  have nm0 : (W12.alloc (.cells #[.int .u32 2, .int .u32 1, .int .u32 6, .int .u32 1, .int .u32 1, .int .u32 1, .int .i64 1, .int .i64 0, .int .i64 0, .int .u32 0, .int .u32 0] 57)).cell? ⟨W3.heap.size, 0, none⟩ = some (.int .u32 1) := by rw [HW13.out]; simp [Lib.cell_of_heap nM.out]
  have nm1 : (W12.alloc (.cells #[.int .u32 2, .int .u32 1, .int .u32 6, .int .u32 1, .int .u32 1, .int .u32 1, .int .i64 1, .int .i64 0, .int .i64 0, .int .u32 0, .int .u32 0] 57)).cell? ⟨W3.heap.size, 1, none⟩ = some (.int .u32 1) := by rw [HW13.out]; simp [Lib.cell_of_heap nM.out]
  have nn0 : (W12.alloc (.cells #[.int .u32 2, .int .u32 1, .int .u32 6, .int .u32 1, .int .u32 1, .int .u32 1, .int .i64 1, .int .i64 0, .int .i64 0, .int .u32 0, .int .u32 0] 57)).cell? ⟨W5.heap.size, 0, none⟩ = some (.int .u32 2) := by rw [HW13.out]; simp [Lib.cell_of_heap nN.out]
  have nn1 : (W12.alloc (.cells #[.int .u32 2, .int .u32 1, .int .u32 6, .int .u32 1, .int .u32 1, .int .u32 1, .int .i64 1, .int .i64 0, .int .i64 0, .int .u32 0, .int .u32 0] 57)).cell? ⟨W5.heap.size, 1, none⟩ = some (.int .u32 1) := by rw [HW13.out]; simp [Lib.cell_of_heap nN.out]
  have nr0 : (W12.alloc (.cells #[.int .u32 2, .int .u32 1, .int .u32 6, .int .u32 1, .int .u32 1, .int .u32 1, .int .i64 1, .int .i64 0, .int .i64 0, .int .u32 0, .int .u32 0] 57)).cell? ⟨W9.heap.size, 0, none⟩ = some (.int .u32 1) := by rw [HW13.out]; simp [Lib.cell_of_heap nR.out]
  have nr1 : (W12.alloc (.cells #[.int .u32 2, .int .u32 1, .int .u32 6, .int .u32 1, .int .u32 1, .int .u32 1, .int .i64 1, .int .i64 0, .int .i64 0, .int .u32 0, .int .u32 0] 57)).cell? ⟨W9.heap.size, 1, none⟩ = some (.int .u32 1) := by rw [HW13.out]; simp [Lib.cell_of_heap nR.out]
  have nq0 : (W12.alloc (.cells #[.int .u32 2, .int .u32 1, .int .u32 6, .int .u32 1, .int .u32 1, .int .u32 1, .int .i64 1, .int .i64 0, .int .i64 0, .int .u32 0, .int .u32 0] 57)).cell? ⟨W12.heap.size, 0, none⟩ = some (.int .u32 2) := by rw [HW13.out]; simp [Lib.cell_of_heap nQ.out]
  have nq1 : (W12.alloc (.cells #[.int .u32 2, .int .u32 1, .int .u32 6, .int .u32 1, .int .u32 1, .int .u32 1, .int .i64 1, .int .i64 0, .int .i64 0, .int .u32 0, .int .u32 0] 57)).cell? ⟨W12.heap.size, 1, none⟩ = some (.int .u32 1) := by rw [HW13.out]; simp [Lib.cell_of_heap nQ.out]
  have nr8 : (W12.alloc (.cells #[.int .u32 2, .int .u32 1, .int .u32 6, .int .u32 1, .int .u32 1, .int .u32 1, .int .i64 1, .int .i64 0, .int .i64 0, .int .u32 0, .int .u32 0] 57)).cell? ⟨W9.heap.size, 8, none⟩ = some (.int .i64 3) := by rw [HW13.out]; simp [Lib.cell_of_heap nR.out]
  go_wp2_with fail
  rw [HW13.out]
  clear nm0 nm1 nn0 nn1 nr0 nr1 nq0 nq1 nr8
  refine (face.count PTc.out (by simp)).mono ?_
  rintro e W14 ⟨rfl, hb⟩
  rw [show cntW [⟨aw1, true⟩, ⟨aw2, false⟩] = 1 from rfl]
  have BE := hide (BE.out.trans (hb.mono BE.out.size))
  clear hb
  go_wp2_with fail
  go_ret
  exact ⟨rfl, BE.out⟩

end Go.Proofs.Ythnnpipekeanoaa

namespace Go.Proofs.Ythnnpipekeanoaa
open Go.RowKit

/-- a script in memory -/
def OpsAt (w : World) (v : Value) (sc : List Oq) : Prop := ∃ a c b o, v = .slice a sc.length c ∧ sc.length ≤ c ∧ sc.length ≤ 9223372036854775807 ∧ (0 < sc.length → a = some ⟨b, o, none⟩ ∧ b < w.heap.size) ∧ ∀ i (h : i < sc.length), sc[i].Fit ∧ ∀ j u, (opF sc[i])[j]? = some u → w.cell? ⟨b, o + i * 14 + j, none⟩ = some u

abbrev wp0 : Oper := { dst := some 62, op := Op.move (Operand.tmp 4), type := 24, pos := "law.go:143", after := #[], guard := none }
abbrev wp1 : Oper := { dst := some 63, op := Op.nilCheck (Operand.tmp 62), type := 0, pos := "law.go:143", after := #[{ on := 0, ground := Ground.data }], guard := none }
abbrev wp2 : Oper := { dst := some 64, op := Op.fieldAddr 37 (Operand.tmp 63) 0, type := 0, pos := "law.go:143", after := #[{ on := 1, ground := Ground.data }], guard := none }
abbrev wp3 : Oper := { dst := some 65, op := Op.load 25 (Operand.tmp 64), type := 25, pos := "law.go:143", after := #[{ on := 2, ground := Ground.data }], guard := none }
abbrev wp4 : Oper := { dst := some 66, op := Op.call { callee := Callee.value (Operand.func 13), args := #[Operand.tmp 65], argTypes := #[25] }, type := 28, pos := "law.go:143", after := #[{ on := 3, ground := Ground.data }], guard := none }
abbrev wp5 : Oper := { dst := some 67, op := Op.move (Operand.tmp 4), type := 24, pos := "law.go:143", after := #[], guard := none }
abbrev wp6 : Oper := { dst := some 68, op := Op.nilCheck (Operand.tmp 67), type := 0, pos := "law.go:143", after := #[{ on := 5, ground := Ground.data }], guard := none }
abbrev wp7 : Oper := { dst := some 69, op := Op.fieldAddr 37 (Operand.tmp 68) 1, type := 0, pos := "law.go:143", after := #[{ on := 6, ground := Ground.data }], guard := none }
abbrev wp8 : Oper := { dst := some 70, op := Op.load 27 (Operand.tmp 69), type := 27, pos := "law.go:143", after := #[{ on := 7, ground := Ground.data }], guard := none }
abbrev wp9 : Oper := { dst := some 71, op := Op.call { callee := Callee.value (Operand.func 9), args := #[Operand.tmp 70], argTypes := #[27] }, type := 28, pos := "law.go:143", after := #[{ on := 8, ground := Ground.data }, { on := 4, ground := Ground.chain }], guard := none }
abbrev wp10 : Oper := { dst := some 72, op := Op.call { callee := Callee.value (Operand.func 12), args := #[Operand.tmp 66, Operand.tmp 71], argTypes := #[28, 28] }, type := 4, pos := "law.go:143", after := #[{ on := 4, ground := Ground.data }, { on := 9, ground := Ground.data }, { on := 9, ground := Ground.chain }], guard := none }
abbrev wp11 : Oper := { dst := some 9, op := Op.assign (Operand.tmp 72), type := 4, pos := "law.go:143", after := #[{ on := 10, ground := Ground.data }, { on := 10, ground := Ground.chain }, { on := 0, ground := Ground.phase }, { on := 1, ground := Ground.phase }, { on := 2, ground := Ground.phase }, { on := 3, ground := Ground.phase }, { on := 4, ground := Ground.phase }, { on := 5, ground := Ground.phase }, { on := 6, ground := Ground.phase }, { on := 7, ground := Ground.phase }, { on := 8, ground := Ground.phase }, { on := 9, ground := Ground.phase }, { on := 10, ground := Ground.phase }], guard := none }

theorem tw_new {w1 w W : World} {p b T : Nat} {F : Nat → Prop} (h1 : PTb w w1.heap.size F p []) (hb : Below w1.heap.size w1 w) (eb : b = w.heap.size) (eT : T = w.heap.size + 1) (eW : W = (w.alloc (.cells #[.slice none 0 0, .slice none 0 0] 31)).alloc (.cells #[.pointer (some ⟨p, 0, none⟩), .pointer (some ⟨b, 0, none⟩), .slice none 0 0, .slice none 0 0, .slice none 0 0] 37)) : St w1 PTb W w1.heap.size T p b 0 := by
  subst eb
  subst eT
  subst eW
  have c1 : Ch (fun _ => False) w ((w.alloc (.cells #[.slice none 0 0, .slice none 0 0] 31)).alloc (.cells #[.pointer (some ⟨p, 0, none⟩), .pointer (some ⟨w.heap.size, 0, none⟩), .slice none 0 0, .slice none 0 0, .slice none 0 0] 37)) := (Ch.alloc _ _).trans (Ch.alloc _ _) (fun _ _ h => h)
  have nT := heap_new (w.alloc (.cells #[.slice none 0 0, .slice none 0 0] 31)) (.cells #[.pointer (some ⟨p, 0, none⟩), .pointer (some ⟨w.heap.size, 0, none⟩), .slice none 0 0, .slice none 0 0, .slice none 0 0] 37)
  rw [World.size_alloc] at nT
  have nb := (Ch.alloc (Q := fun _ => False) (w.alloc (.cells #[.slice none 0 0, .slice none 0 0] 31)) (.cells #[.pointer (some ⟨p, 0, none⟩), .pointer (some ⟨w.heap.size, 0, none⟩), .slice none 0 0, .slice none 0 0, .slice none 0 0] 37)).box (heap_new w (.cells #[.slice none 0 0, .slice none 0 0] 31)) (fun h => h)
  have ff := fun x hx => (face.foot h1 x hx).2
  refine ⟨fun x => if x = w.heap.size + 1 then 0 else if x = w.heap.size then 1 else 7, F, [], [], .slice none 0 0, .slice none 0 0, .slice none 0 0, .slice none 0 0, .slice none 0 0, [], [], [], 0, ?_, ⟨Nat.le_refl _, Nat.le_refl _, Nat.le_refl _, rfl, fun t ht => (by cases ht), fun a ha => (by cases ha), fun j hj => (by omega)⟩⟩
  have hsz := hb.size
  exact
  { hT := nT
    pt := face.ch h1 c1 (fun _ _ h => h)
    db := ⟨nb, Row.nil _ _, Row.nil _ _⟩
    td := Row.nil _ _
    hl := Row.nil _ _
    hw := Row.nil _ _
    n1 := rfl
    n2 := rfl
    hB := Nat.le_trans hsz c1.size
    fr := hb.trans (c1.below hsz (fun _ _ h => h))
    lT := by omega
    lb := by omega
    at1 := fun j hj => by omega
    at2 := fun j hj => by omega
    fF := fun x hx => Nat.lt_of_lt_of_le (ff x hx) c1.size
    cT := if_pos rfl
    cb := by rw [if_neg (by omega), if_pos rfl]
    cav := fun x hx => by cases hx
    cov := fun x hx => by cases hx
    ctv := fun x hx => by cases hx
    clv := fun x hx => by cases hx
    cwv := fun x hx => by cases hx
    cF := fun x hx => by have := ff x hx; rw [if_neg (by omega), if_neg (by omega)]
    cls := fun j hj => by omega
    cws := fun j hj => by omega }

set_option maxRecDepth 100000 in
set_option maxHeartbeats 16000000 in
theorem plays_is (w : World) {sv : Value} {sc : List Oq} (hs : OpsAt w sv sc) :
    Calls Try.prog 3 #[sv] w fun e w' => e = .returned (.bool true) ∧ Below w.heap.size w w' := by
  obtain ⟨az, cs, bs, os, rfl, hcs, hms, has, hop⟩ := hs
  have HOP := hide hop
  have HAS := hide has
  clear hop has
  go_enter Try.func3, Try.ntmps3
  go_wp2_with fail
  refine (awake_is w).mono ?_
  rintro e W1 ⟨rfl, b1⟩
  have B1 := hide b1
  clear b1
  go_wp2_with fail
  refine (face.new W1).mono ?_
  rintro e W2 ⟨p, F, rfl, h2, b2⟩
  obtain ⟨b, hb⟩ : ∃ x, x = W2.heap.size := ⟨_, rfl⟩
  obtain ⟨T, hT⟩ : ∃ x, x = W2.heap.size + 1 := ⟨_, rfl⟩
  obtain ⟨W4, hW4⟩ : ∃ x, x = (W2.alloc (.cells #[.slice none 0 0, .slice none 0 0] 31)).alloc (.cells #[.pointer (some ⟨p, 0, none⟩), .pointer (some ⟨b, 0, none⟩), .slice none 0 0, .slice none 0 0, .slice none 0 0] 37) := ⟨_, rfl⟩
  have S4 := hide (tw_new h2 b2 hb hT hW4)
  have hW4' := hW4.symm
  rw [hb] at hW4'
  have y0 : W4.cell? ⟨W2.heap.size + 1, 0, none⟩ = some (.pointer (some ⟨p, 0, none⟩)) := by
    obtain ⟨C, F', l, hs, av, ov, tv, lv, wv, ls, ws, rs, n, t, -⟩ := S4.out
    rw [← hT]
    simp [Lib.cell_of_heap t.hT]
  clear h2 b2 hW4
  go_wp2_with fail
  rw [← hT]
  clear y0 hW4' hT hb
  go_loopw [5] (fun iv wr => ∃ k : Nat, k ≤ sc.length ∧ k ≤ 600 ∧ iv = .int .i64 (k : Int) ∧ Hid (St W1 PTb wr W1.heap.size T p b k)) (fun iv _ => 600 - (intOf iv).toNat)
  case atStart => exact ⟨0, Nat.zero_le _, by omega, rfl, S4⟩
  case round =>
    obtain ⟨k, hk1, hk2, rfl, HI⟩ := hrel
    obtain ⟨W5, rfl⟩ : ∃ x, x = wr := ⟨_, rfl⟩
    by_cases hlt : k < sc.length ∧ k < 600
    · have q1 : decide ((k : Int) < (sc.length : Int)) = true := decide_eq_true (by omega)
      have q2 : decide ((k : Int) < 600) = true := decide_eq_true (by omega)
      obtain ⟨hla, hbs⟩ := HAS.out (by omega)
      obtain ⟨hfit, hcl⟩ := HOP.out k hlt.1
      have HB5 := hide (show Below w.heap.size w W5 by
        obtain ⟨C, F', l, hs, av, ov, tv, lv, wv, ls, ws, rs, n, t, -⟩ := HI.out
        exact B1.out.trans (t.fr.mono B1.out.size))
      obtain ⟨y, hy⟩ : ∃ y, sc[k] = y := ⟨_, rfl⟩
      rw [hy] at hfit hcl
      have HCL := hide (fun j u hu => (HB5.out.cell (p := ⟨bs, os + k * 14 + j, none⟩) hbs).trans (hcl j u hu))
      have HF := hide hfit
      subst hla
      have y0 : W5.cell? ⟨bs, os + k * 14, none⟩ = some (.int .i64 y.k) := HCL.out 0 _ rfl
      have y1 : W5.cell? ⟨bs, os + k * 14 + 1, none⟩ = some (.int .i64 y.wh) := HCL.out 1 _ rfl
      have y2 : W5.cell? ⟨bs, os + k * 14 + 2, none⟩ = some (.int .i64 y.ar) := HCL.out 2 _ rfl
      have y3 : W5.cell? ⟨bs, os + k * 14 + 3, none⟩ = some (.int .u32 y.rs) := HCL.out 3 _ rfl
      have y4 : W5.cell? ⟨bs, os + k * 14 + 4, none⟩ = some (.int .u32 y.rg) := HCL.out 4 _ rfl
      have y5 : W5.cell? ⟨bs, os + k * 14 + 5, none⟩ = some (.int .i64 y.rd) := HCL.out 5 _ rfl
      have y6 : W5.cell? ⟨bs, os + k * 14 + 6, none⟩ = some (.int .u32 y.ws) := HCL.out 6 _ rfl
      have y7 : W5.cell? ⟨bs, os + k * 14 + 7, none⟩ = some (.int .u32 y.wg) := HCL.out 7 _ rfl
      have y8 : W5.cell? ⟨bs, os + k * 14 + 8, none⟩ = some (.int .u32 y.ms) := HCL.out 8 _ rfl
      have y9 : W5.cell? ⟨bs, os + k * 14 + 9, none⟩ = some (.int .u32 y.mg) := HCL.out 9 _ rfl
      have y10 : W5.cell? ⟨bs, os + k * 14 + 10, none⟩ = some (.bool y.hd) := HCL.out 10 _ rfl
      have y11 : W5.cell? ⟨bs, os + k * 14 + 11, none⟩ = some (.int .i64 y.vn) := HCL.out 11 _ rfl
      have y12 : W5.cell? ⟨bs, os + k * 14 + 12, none⟩ = some (.int .u32 y.vs) := HCL.out 12 _ rfl
      have y13 : W5.cell? ⟨bs, os + k * 14 + 13, none⟩ = some (.int .u32 y.vg) := HCL.out 13 _ rfl
      have hkl : k < sc.length := hlt.1
      have HLT := hide hlt
      clear hcl hfit hy hbs hlt
      go_wp2_with fail
      refine (step_any face HI.out (by have := HLT.out; omega) y HF.out).mono ?_
      rintro e W6 ⟨rfl, h6⟩
      obtain ⟨C, F6, l, hs, av, ov, tv, lv, wv, ls, ws, rs, n, t6, o6⟩ := h6
      have T6 := hide t6
      have O6 := hide o6
      have z1 : W6.cell? ⟨T, 1, none⟩ = some (.pointer (some ⟨b, 0, none⟩)) := by simp [Lib.cell_of_heap t6.hT]
      clear t6 o6 HCL y0 y1 y2 y3 y4 y5 y6 y7 y8 y9 y10 y11 y12 y13
      go_wp2_with fail
      refine (rnowW T6.out.db (by have := O6.out.nl; have := HLT.out; omega)).mono ?_
      rintro e W7 ⟨v7, rfl, r7, b7⟩
      have T7 := hide (T6.out.quiet face (Ch.of_below b7))
      obtain ⟨a7, c7, rfl, -, -⟩ := r7.form
      have z0 : W7.cell? ⟨T, 0, none⟩ = some (.pointer (some ⟨p, 0, none⟩)) := by simp [Lib.cell_of_heap T7.out.hT]
      clear z1 r7 b7
      go_wp2_with fail
      refine (face.count T7.out.pt (by have := O6.out.nl; have := HLT.out; omega)).mono ?_
      rintro e W8 ⟨rfl, b8⟩
      have T8 := hide (T7.out.quiet face (Ch.of_below b8))
      have ec : ((cntW l : Int) == ((sel isNow l).length : Int)) = true := by simp [cntW]
      have ew : IntKind.i64.wrap ((k : Int) + 1) = (k : Int) + 1 := by rw [IntKind.wrap_i64]; omega
      clear b8 z0
      go_wp2_with fail
      go_roundw
      case rel => exact ⟨k + 1, by have := HLT.out; omega, by have := HLT.out; omega, by go_num, hide ⟨_, _, _, _, _, _, _, _, _, _, _, _, _, T8.out, O6.out⟩⟩
      case measure => have := HLT.out; simp [intOf]; omega
    · obtain ⟨C, F5, l, hs, av, ov, tv, lv, wv, ls, ws, rs, n, t5, o5⟩ := HI.out
      have T5 := hide t5
      have O5 := hide (show l.length ≤ 600 ∧ n ≤ 600 ∧ ∀ j, j < n → (nthR rs j).length ≤ 600 from ⟨by have := o5.nl; omega, by have := o5.nn; omega, fun j hj => by have := o5.few j hj; omega⟩)
      have OV := hide (over_is (T5.out.lists (by have := O5.out.2.1; omega) (fun j hj => by have := O5.out.2.2 j hj; omega)))
      clear t5 o5 HI
      by_cases h1 : k < sc.length
      · have q : decide ((k : Int) < (sc.length : Int)) = true := decide_eq_true (by omega)
        have q' : decide ((k : Int) < 600) = false := decide_eq_false (by omega)
        clear hlt
        go_wp2_with fail
        refine OV.out.mono ?_
        rintro e W6 ⟨rfl, hc⟩
        have cO : Ch (Qo lv ls n) W5 W6 := hc
        have nq : ∀ {x c : Nat}, C x = c → c ≠ 5 → (∀ j, j < n → c ≠ 8 + 2 * j) → ¬ Qo lv ls n x := fun e h5 h8 hx => by
          rcases hx with hx | ⟨j, hj, hx⟩
          · exact h5 (e.symm.trans (T5.out.clv _ hx))
          · exact h8 j hj (e.symm.trans (T5.out.cls j hj _ hx))
        have HZ := hide (show PTb W6 W1.heap.size F5 p l ∧ DB W6 W1.heap.size b av ov l ∧ W6.heap[T]? = some (.cells #[.pointer (some ⟨p, 0, none⟩), .pointer (some ⟨b, 0, none⟩), tv, lv, wv] 37 (0, 0)) ∧ Below W1.heap.size W1 W6 from ⟨face.ch T5.out.pt cO (fun x hx => nq (T5.out.cF x hx) (by omega) (fun j _ => by omega)), T5.out.db.ch cO (nq T5.out.cb (by omega) (fun j _ => by omega)) (fun x hx => nq (T5.out.cav x hx) (by omega) (fun j _ => by omega)) (fun x hx => nq (T5.out.cov x hx) (by omega) (fun j _ => by omega)), cO.box T5.out.hT (nq T5.out.cT (by omega) (fun j _ => by omega)), T5.out.fr.trans (cO.below T5.out.hB (fun y hy e => by rcases e with e | ⟨j, hj, e⟩; have := (own_in T5.out.hl e).1; omega; have := (own_in (T5.out.at1 j hj) e).1; omega))⟩)
        clear hc cO nq
        go_wp2_with fail
        refine wp_reg (fun _ => False) (R := fun W => PTb W W1.heap.size F5 p l ∧ DB W W1.heap.size b av ov l ∧ W.heap[T]? = some (.cells #[.pointer (some ⟨p, 0, none⟩), .pointer (some ⟨b, 0, none⟩), tv, lv, wv] 37 (0, 0)) ∧ Below W1.heap.size W1 W) (by kernel_rfl) ⟨face.ch HZ.out.1 (Ch.drew (Q := fun _ => False) _) (fun _ _ h => h), HZ.out.2.1.ch (Ch.drew (Q := fun _ => False) _) (fun h => h) (fun _ _ h => h) (fun _ _ h => h), (Ch.drew (Q := fun _ => False) _).box HZ.out.2.2.1 (fun h => h), HZ.out.2.2.2.trans (below_dr _ _ 1)⟩ ?_
        rintro V v zk
        have HV := hide v
        clear v
        have HC := hide (fun wq (zq : Ch (fun _ => False) V wq) => have e := Lib.cell_of_heap (zq.box HV.out.2.2.1 (fun h => h)); show wq.cell? ⟨T, 0, none⟩ = some (.pointer (some ⟨p, 0, none⟩)) ∧ wq.cell? ⟨T, 1, none⟩ = some (.pointer (some ⟨b, 0, none⟩)) from ⟨by simp [e], by simp [e]⟩)
        apply tk 0 wp0 rfl (by kernel_rfl) (fun _ _ _ h => h) zk
        · intro wq zq
          go_simp
          try rfl
        go_frame
        apply tk 1 wp1 rfl (by kernel_rfl) (fun _ _ _ h => h) zk
        · intro wq zq
          go_simp
          try rfl
        go_frame
        apply tk 2 wp2 rfl (by kernel_rfl) (fun _ _ _ h => h) zk
        · intro wq zq
          go_simp
          try rfl
        go_frame
        apply tk 3 wp3 rfl (by kernel_rfl) (fun _ _ _ h => h) zk
        · intro wq zq
          obtain ⟨s1, s2⟩ := HC.out _ zq
          go_simp
          try rfl
        go_frame
        apply tk 5 wp5 rfl (by kernel_rfl) (fun _ _ _ h => h) zk
        · intro wq zq
          go_simp
          try rfl
        go_frame
        apply tk 6 wp6 rfl (by kernel_rfl) (fun _ _ _ h => h) zk
        · intro wq zq
          go_simp
          try rfl
        go_frame
        apply tk 7 wp7 rfl (by kernel_rfl) (fun _ _ _ h => h) zk
        · intro wq zq
          go_simp
          try rfl
        go_frame
        apply tk 8 wp8 rfl (by kernel_rfl) (fun _ _ _ h => h) zk
        · intro wq zq
          obtain ⟨s1, s2⟩ := HC.out _ zq
          go_simp
          try rfl
        go_frame
        refine Go.Proofs.Ythnnpipekeanoaa.rd 4 wp4 rfl (by kernel_rfl) fun K hK => ?_
        go_simp
        refine (face.all HV.out.1 (by have := O5.out.1; omega)).mono ?_
        rintro e X1 ⟨v1, rfl, r1, b1⟩
        have c1 := Ch.of_below (Q := fun _ => False) b1
        have R1 := hide r1
        have C1 := hide c1
        clear r1 b1 c1
        go_wp2_with fail
        refine hK.out _ _ ?_ (fun zk => ?_)
        · exact zk.trans C1.out (fun _ _ h => h)
        clear hK K
        try go_frame
        refine Go.Proofs.Ythnnpipekeanoaa.rd 9 wp9 rfl (by kernel_rfl) fun K hK => ?_
        go_simp
        refine (rnowW (HV.out.2.1.ch C1.out (fun h => h) (fun _ _ h => h) (fun _ _ h => h)) (by have := O5.out.1; omega)).mono ?_
        rintro e X2 ⟨v2, rfl, r2, b2⟩
        have c2 := Ch.of_below (Q := fun _ => False) b2
        have R2 := hide r2
        have C2 := hide c2
        clear r2 b2 c2
        go_wp2_with fail
        refine hK.out _ _ ?_ (fun zk => ?_)
        · exact zk.trans C2.out (fun _ _ h => h)
        clear hK K
        try go_frame
        refine Go.Proofs.Ythnnpipekeanoaa.rd 10 wp10 rfl (by kernel_rfl) fun K hK => ?_
        go_simp
        refine (sameW (R1.out.ch C2.out (fun _ _ h => h)) R2.out (by have := sel_le isNow l; have := O5.out.1; omega)).mono ?_
        rintro e X3 ⟨rfl, b3⟩
        have C3 := hide (Ch.of_below (Q := fun _ => False) b3)
        clear b3
        go_wp2_with fail
        refine hK.out _ _ ?_ (fun zk => ?_)
        · exact zk.trans C3.out (fun _ _ h => h)
        clear hK K
        try go_frame
        have BX := hide (HV.out.2.2.2.trans (zk.below (N := W1.heap.size) HV.out.2.2.2.size (fun _ _ h => h)))
        refine Go.Proofs.Ythnnpipekeanoaa.rd 11 wp11 rfl (by kernel_rfl) fun K hK => ?_
        go_simp
        refine hK.out _ _ ?_ (fun zk => ?_)
        · exact zk
        clear hK K
        try go_frame
        refine wpAnyH_done (by kernel_rfl) ?_ _
        clear zk
        go_wp2_with fail
        go_ret
        exact ⟨rfl, B1.out.trans (BX.out.mono B1.out.size)⟩
      · have q : decide ((k : Int) < (sc.length : Int)) = false := decide_eq_false (by omega)
        clear hlt
        go_wp2_with fail
        refine OV.out.mono ?_
        rintro e W6 ⟨rfl, hc⟩
        have cO : Ch (Qo lv ls n) W5 W6 := hc
        have nq : ∀ {x c : Nat}, C x = c → c ≠ 5 → (∀ j, j < n → c ≠ 8 + 2 * j) → ¬ Qo lv ls n x := fun e h5 h8 hx => by
          rcases hx with hx | ⟨j, hj, hx⟩
          · exact h5 (e.symm.trans (T5.out.clv _ hx))
          · exact h8 j hj (e.symm.trans (T5.out.cls j hj _ hx))
        have HZ := hide (show PTb W6 W1.heap.size F5 p l ∧ DB W6 W1.heap.size b av ov l ∧ W6.heap[T]? = some (.cells #[.pointer (some ⟨p, 0, none⟩), .pointer (some ⟨b, 0, none⟩), tv, lv, wv] 37 (0, 0)) ∧ Below W1.heap.size W1 W6 from ⟨face.ch T5.out.pt cO (fun x hx => nq (T5.out.cF x hx) (by omega) (fun j _ => by omega)), T5.out.db.ch cO (nq T5.out.cb (by omega) (fun j _ => by omega)) (fun x hx => nq (T5.out.cav x hx) (by omega) (fun j _ => by omega)) (fun x hx => nq (T5.out.cov x hx) (by omega) (fun j _ => by omega)), cO.box T5.out.hT (nq T5.out.cT (by omega) (fun j _ => by omega)), T5.out.fr.trans (cO.below T5.out.hB (fun y hy e => by rcases e with e | ⟨j, hj, e⟩; have := (own_in T5.out.hl e).1; omega; have := (own_in (T5.out.at1 j hj) e).1; omega))⟩)
        clear hc cO nq
        go_wp2_with fail
        refine wp_reg (fun _ => False) (R := fun W => PTb W W1.heap.size F5 p l ∧ DB W W1.heap.size b av ov l ∧ W.heap[T]? = some (.cells #[.pointer (some ⟨p, 0, none⟩), .pointer (some ⟨b, 0, none⟩), tv, lv, wv] 37 (0, 0)) ∧ Below W1.heap.size W1 W) (by kernel_rfl) ⟨face.ch HZ.out.1 (Ch.drew (Q := fun _ => False) _) (fun _ _ h => h), HZ.out.2.1.ch (Ch.drew (Q := fun _ => False) _) (fun h => h) (fun _ _ h => h) (fun _ _ h => h), (Ch.drew (Q := fun _ => False) _).box HZ.out.2.2.1 (fun h => h), HZ.out.2.2.2.trans (below_dr _ _ 1)⟩ ?_
        rintro V v zk
        have HV := hide v
        clear v
        have HC := hide (fun wq (zq : Ch (fun _ => False) V wq) => have e := Lib.cell_of_heap (zq.box HV.out.2.2.1 (fun h => h)); show wq.cell? ⟨T, 0, none⟩ = some (.pointer (some ⟨p, 0, none⟩)) ∧ wq.cell? ⟨T, 1, none⟩ = some (.pointer (some ⟨b, 0, none⟩)) from ⟨by simp [e], by simp [e]⟩)
        apply tk 0 wp0 rfl (by kernel_rfl) (fun _ _ _ h => h) zk
        · intro wq zq
          go_simp
          try rfl
        go_frame
        apply tk 1 wp1 rfl (by kernel_rfl) (fun _ _ _ h => h) zk
        · intro wq zq
          go_simp
          try rfl
        go_frame
        apply tk 2 wp2 rfl (by kernel_rfl) (fun _ _ _ h => h) zk
        · intro wq zq
          go_simp
          try rfl
        go_frame
        apply tk 3 wp3 rfl (by kernel_rfl) (fun _ _ _ h => h) zk
        · intro wq zq
          obtain ⟨s1, s2⟩ := HC.out _ zq
          go_simp
          try rfl
        go_frame
        apply tk 5 wp5 rfl (by kernel_rfl) (fun _ _ _ h => h) zk
        · intro wq zq
          go_simp
          try rfl
        go_frame
        apply tk 6 wp6 rfl (by kernel_rfl) (fun _ _ _ h => h) zk
        · intro wq zq
          go_simp
          try rfl
        go_frame
        apply tk 7 wp7 rfl (by kernel_rfl) (fun _ _ _ h => h) zk
        · intro wq zq
          go_simp
          try rfl
        go_frame
        apply tk 8 wp8 rfl (by kernel_rfl) (fun _ _ _ h => h) zk
        · intro wq zq
          obtain ⟨s1, s2⟩ := HC.out _ zq
          go_simp
          try rfl
        go_frame
        refine Go.Proofs.Ythnnpipekeanoaa.rd 4 wp4 rfl (by kernel_rfl) fun K hK => ?_
        go_simp
        refine (face.all HV.out.1 (by have := O5.out.1; omega)).mono ?_
        rintro e X1 ⟨v1, rfl, r1, b1⟩
        have c1 := Ch.of_below (Q := fun _ => False) b1
        have R1 := hide r1
        have C1 := hide c1
        clear r1 b1 c1
        go_wp2_with fail
        refine hK.out _ _ ?_ (fun zk => ?_)
        · exact zk.trans C1.out (fun _ _ h => h)
        clear hK K
        try go_frame
        refine Go.Proofs.Ythnnpipekeanoaa.rd 9 wp9 rfl (by kernel_rfl) fun K hK => ?_
        go_simp
        refine (rnowW (HV.out.2.1.ch C1.out (fun h => h) (fun _ _ h => h) (fun _ _ h => h)) (by have := O5.out.1; omega)).mono ?_
        rintro e X2 ⟨v2, rfl, r2, b2⟩
        have c2 := Ch.of_below (Q := fun _ => False) b2
        have R2 := hide r2
        have C2 := hide c2
        clear r2 b2 c2
        go_wp2_with fail
        refine hK.out _ _ ?_ (fun zk => ?_)
        · exact zk.trans C2.out (fun _ _ h => h)
        clear hK K
        try go_frame
        refine Go.Proofs.Ythnnpipekeanoaa.rd 10 wp10 rfl (by kernel_rfl) fun K hK => ?_
        go_simp
        refine (sameW (R1.out.ch C2.out (fun _ _ h => h)) R2.out (by have := sel_le isNow l; have := O5.out.1; omega)).mono ?_
        rintro e X3 ⟨rfl, b3⟩
        have C3 := hide (Ch.of_below (Q := fun _ => False) b3)
        clear b3
        go_wp2_with fail
        refine hK.out _ _ ?_ (fun zk => ?_)
        · exact zk.trans C3.out (fun _ _ h => h)
        clear hK K
        try go_frame
        have BX := hide (HV.out.2.2.2.trans (zk.below (N := W1.heap.size) HV.out.2.2.2.size (fun _ _ h => h)))
        refine Go.Proofs.Ythnnpipekeanoaa.rd 11 wp11 rfl (by kernel_rfl) fun K hK => ?_
        go_simp
        refine hK.out _ _ ?_ (fun zk => ?_)
        · exact zk
        clear hK K
        try go_frame
        refine wpAnyH_done (by kernel_rfl) ?_ _
        clear zk
        go_wp2_with fail
        go_ret
        exact ⟨rfl, B1.out.trans (BX.out.mono B1.out.size)⟩

end Go.Proofs.Ythnnpipekeanoaa

namespace Go.Proofs.Ythnnpipekeanoaa
open Go.ChangeShapes Go.WideShapes Go.ChangeAt Go.RowKit Go.Deep

theorem own_knob : ownKnob Try.prog.godebug = none := by kernel_rfl
theorem laid_out : laidOutB Try.prog = true := by kernel_rfl
theorem i64_of_wf {n : Int} (h : (Lit.int .i64 n).wf = true) : -9223372036854775808 ≤ n ∧ n ≤ 9223372036854775807 := by
  rw [show (Lit.int .i64 n).wf = (decide (-9223372036854775808 ≤ n) && decide (n ≤ 9223372036854775807)) from rfl, Bool.and_eq_true, decide_eq_true_eq, decide_eq_true_eq] at h
  exact h

theorem u32_of_wf {n : Int} (h : (Lit.int .u32 n).wf = true) : UsW n := by
  rw [show (Lit.int .u32 n).wf = (decide (0 ≤ n) && decide (n ≤ 4294967295)) from rfl, Bool.and_eq_true, decide_eq_true_eq, decide_eq_true_eq] at h
  exact h

section
variable {H : Type} {enc : TypeId × Value → H} {w : World} {base : Nat} {spare : Nat → Bool} {held : Bool} {fuel : Nat} {v : Value} {x : DataW H × List MemPlace}

theorem trod_i64 {t : TypeId} (hu : Try.prog.underlying t = some (.int .i64)) (h : DataW.trod enc Try.prog w base spare held fuel t [v] = some x) : ∃ z, v = .int .i64 z ∧ -9223372036854775808 ≤ z ∧ z ≤ 9223372036854775807 := by
  cases fuel with
  | zero => simp [DataW.trod] at h
  | succ n =>
    simp only [DataW.trod, hu] at h
    cases v <;> simp at h
    rename_i k b
    obtain ⟨⟨rfl, h2⟩, _⟩ := h
    exact ⟨b, rfl, i64_of_wf h2⟩
theorem trod_u32 {t : TypeId} (hu : Try.prog.underlying t = some (.int .u32)) (h : DataW.trod enc Try.prog w base spare held fuel t [v] = some x) : ∃ z, v = .int .u32 z ∧ UsW z := by
  cases fuel with
  | zero => simp [DataW.trod] at h
  | succ n =>
    simp only [DataW.trod, hu] at h
    cases v <;> simp at h
    rename_i k b
    obtain ⟨⟨rfl, h2⟩, _⟩ := h
    exact ⟨b, rfl, u32_of_wf h2⟩
theorem trod_bool (h : DataW.trod enc Try.prog w base spare held fuel 4 [v] = some x) : ∃ s, v = .bool s := by
  cases fuel with
  | zero => simp [DataW.trod] at h
  | succ n =>
    simp only [DataW.trod, Try.underlying4] at h
    cases v <;> simp at h
    rename_i s
    exact ⟨s, rfl⟩
end

theorem ceInt : Try.prog.cellsOf 3 = 1 := by kernel_rfl
theorem ceSide : Try.prog.cellsOf 42 = 1 := by kernel_rfl
theorem ceBool : Try.prog.cellsOf 4 = 1 := by kernel_rfl
theorem ceU32 : Try.prog.cellsOf 39 = 1 := by kernel_rfl
theorem ceHd : Try.prog.cellsOf 41 = 2 := by kernel_rfl
theorem ceRow : Try.prog.cellsOf 44 = 3 := by kernel_rfl

section
variable {H : Type} {enc : TypeId × Value → H} {W : World} {spare : Nat → Bool} {held : Bool}

set_option maxRecDepth 100000 in
theorem hd_in {n : Nat} {cs : List Value} {x : DataW H × List MemPlace} (hl : cs.length = 2) (h : DataW.trod enc Try.prog W 0 spare held n 41 cs = some x) : ∃ s g, cs = [.int .u32 s, .int .u32 g] ∧ UsW s ∧ UsW g := by
  obtain ⟨xs, k, hk, hxy, hlen, hxl, hf⟩ := DataW.trod_struct Try.underlying41 h
  match xs, hxl, cs, hl with
  | [y0, y1], _, [v0, v1], _ =>
    have g0 := hf 0 _ rfl
    have g1 := hf 1 _ rfl
    simp [ceU32] at g0 g1
    obtain ⟨z0, rfl, u0⟩ := trod_u32 Try.underlying39 g0
    obtain ⟨z1, rfl, u1⟩ := trod_u32 Try.underlying39 g1
    exact ⟨z0, z1, rfl, u0, u1⟩

set_option maxRecDepth 100000 in
theorem row_in {n : Nat} {cs : List Value} {x : DataW H × List MemPlace} (hl : cs.length = 3) (h : DataW.trod enc Try.prog W 0 spare held n 44 cs = some x) : ∃ s g d, cs = [.int .u32 s, .int .u32 g, .int .i64 d] ∧ UsW s ∧ UsW g ∧ I64 d := by
  obtain ⟨xs, k, hk, hxy, hlen, hxl, hf⟩ := DataW.trod_struct Try.underlying44 h
  match xs, hxl, cs, hl with
  | [y0, y1], _, [v0, v1, v2], _ =>
    have g0 := hf 0 _ rfl
    have g1 := hf 1 _ rfl
    simp [ceHd, ceSide] at g0 g1
    obtain ⟨s, g, e, us, ug⟩ := hd_in rfl g0
    cases e
    obtain ⟨z1, rfl, b1, b2⟩ := trod_i64 Try.underlying42 g1
    exact ⟨s, g, z1, rfl, us, ug, b1, b2⟩
end

set_option maxRecDepth 100000 in
theorem handle_in {H : Type} {enc : TypeId × Value → H} {W : World} {base : Nat} {v : Value} {d : DataW H} {ps : List MemPlace} (hv : Value.okWide Try.prog W .any base 41 v) (h : DataW.Trod enc Try.prog W 0 (fun _ => true) true 41 v d ps) : ∃ s g, v = .agg #[.int .u32 s, .int .u32 g] := by
  obtain ⟨cs, rfl, hsz⟩ := okWide_struct Try.underlying41 hv
  rw [ceHd] at hsz
  obtain ⟨n, hn⟩ := h
  obtain ⟨cl⟩ := cs
  obtain ⟨s, g, e, _, _⟩ := hd_in (cs := cl) hsz hn
  subst e
  exact ⟨s, g, rfl⟩

set_option maxRecDepth 100000 in
theorem rowv_in {H : Type} {enc : TypeId × Value → H} {W : World} {base : Nat} {v : Value} {d : DataW H} {ps : List MemPlace} (hv : Value.okWide Try.prog W .any base 44 v) (h : DataW.Trod enc Try.prog W 0 (fun _ => true) true 44 v d ps) : ∃ s g d, v = .agg #[.int .u32 s, .int .u32 g, .int .i64 d] := by
  obtain ⟨cs, rfl, hsz⟩ := okWide_struct Try.underlying44 hv
  rw [ceRow] at hsz
  obtain ⟨n, hn⟩ := h
  obtain ⟨cl⟩ := cs
  obtain ⟨s, g, d, e, _⟩ := row_in (cs := cl) hsz hn
  subst e
  exact ⟨s, g, d, rfl⟩

end Go.Proofs.Ythnnpipekeanoaa

namespace Go.Proofs.Ythnnpipekeanoaa
open Go.ChangeShapes Go.WideShapes Go.ChangeAt Go.RowKit Go.Deep

/-- a slice of n, from here on, in a block below N; a list of elements of k cells each -/
def Sq (N : Nat) (v : Value) (n b o : Nat) : Prop := ∃ a c, v = .slice a n c ∧ n ≤ c ∧ n ≤ 9223372036854775807 ∧ (0 < n → a = some ⟨b, o, none⟩ ∧ b < N)
def Lst {α : Type} (N k : Nat) (A : Nat → Nat → α → Prop) (v : Value) (l : List α) : Prop := ∃ b o, Sq N v l.length b o ∧ ∀ i (h : i < l.length), A b (o + i * k) l[i]
theorem choose_lt {α : Type} [Inhabited α] {n : Nat} {A : Nat → α → Prop} (h : ∀ i, i < n → ∃ y : α, A i y) : ∃ R : Nat → α, ∀ i, i < n → A i (R i) := by
  refine ⟨fun i => if hi : i < n then Classical.choose (h i hi) else default, fun i hi => ?_⟩
  dsimp only
  rw [dif_pos hi]
  exact Classical.choose_spec (h i hi)

set_option maxRecDepth 100000 in
theorem lst_of_trod {α : Type} [Inhabited α] {H : Type} {enc : TypeId × Value → H} {W : World} {spare : Nat → Bool} {held : Bool} {sT eT : TypeId} {K : Nat} (hK : 0 < K) (hu : Try.prog.underlying sT = some (.slice eT)) (hce : Try.prog.cellsOf eT = K) {A : Nat → Nat → α → Prop}
    (hel : ∀ n cs x, cs.length = K → DataW.trod enc Try.prog W 0 spare held n eT cs = some x → ∃ y : α, ∀ b o, (∀ j (h : j < cs.length), W.cell? ⟨b, o + j, none⟩ = some cs[j]) → A b o y) :
    ∀ n v x, DataW.trod enc Try.prog W 0 spare held n sT [v] = some x → ∃ l : List α, Lst W.heap.size K A v l := by
  intro n v x h
  rcases DataW.trod_slice hu h with ⟨e, _⟩ | ⟨a, len, cap, elems, rest, k, hk, e, _, _, hl, hc, hlen, hg, _, _⟩
  · obtain rfl : v = .slice none 0 0 := by simpa using e
    exact ⟨[], 0, 0, ⟨none, 0, rfl, Nat.le_refl _, Nat.zero_le _, fun h => absurd h (Nat.lt_irrefl _)⟩, fun i hi => absurd hi (Nat.not_lt_zero _)⟩
  · obtain rfl : v = .slice (some a) len cap := by simpa using e
    by_cases h0 : len = 0
    · subst h0
      exact ⟨[], 0, 0, ⟨some a, cap, rfl, Nat.zero_le _, Nat.zero_le _, fun h => absurd h (Nat.lt_irrefl _)⟩, fun i hi => absurd hi (Nat.not_lt_zero _)⟩
    rw [hce] at hg
    have hcs : ∀ i, i < len → ∃ cs : List Value, cs.length = K ∧ (∀ j (h : j < cs.length), W.cell? ((a.add (i * K)).add j) = some cs[j]) ∧ ∃ x, DataW.trod enc Try.prog W 0 spare held k eT cs = some x := by
      intro i hi
      have h1 := hg i hi
      rw [List.getElem?_eq_getElem (by omega)] at h1
      obtain ⟨cs, h2, h3⟩ := Option.bind_eq_some_iff.1 h1
      obtain ⟨_, hcl, hcell⟩ := World.cells?_some h2
      exact ⟨cs, hcl, fun j hj => (hcell j (by omega)).trans (List.getElem?_eq_getElem hj), _, h3⟩
    obtain ⟨b, off, spot⟩ := a
    have hspot : spot = none := by
      obtain ⟨cs, hcl, hcell, _⟩ := hcs 0 (by omega)
      have := World.cell?_spot (hcell 0 (by omega))
      simpa [Addr.add] using this
    subst hspot
    have hplain : ∀ i j, ((⟨b, off, none⟩ : Addr).add i).add j = ⟨b, off + i + j, none⟩ := by intro i j; unfold Addr.add; split <;> split <;> simp_all <;> omega
    have hb : b < W.heap.size := by
      obtain ⟨cs, hcl, hcell, _⟩ := hcs 0 (by omega)
      have c0 := hcell 0 (by omega)
      rw [hplain] at c0
      rcases Nat.lt_or_ge b W.heap.size with h1 | h1
      · exact h1
      · simp [World.cell?, Array.getElem?_eq_none h1] at c0
    have hA : ∀ i, i < len → ∃ y : α, A b (off + i * K) y := by
      intro i hi
      obtain ⟨cs, hcl, hcell, x, hx⟩ := hcs i hi
      obtain ⟨y, hy⟩ := hel k cs x hcl hx
      exact ⟨y, hy b (off + i * K) fun j hj => by have := hcell j hj; rwa [hplain] at this⟩
    obtain ⟨R, hR⟩ := choose_lt hA
    have hll : ((List.range len).map R).length = len := by simp
    have hmx : maxLen = 9223372036854775807 := rfl
    refine ⟨(List.range len).map R, b, off, ⟨some ⟨b, off, none⟩, cap, by rw [hll], by omega, by omega, fun _ => ⟨rfl, hb⟩⟩, fun i hi => ?_⟩
    rw [List.getElem_map, List.getElem_range]
    exact hR i (by omega)

instance : Inhabited Oq := ⟨⟨0, 0, 0, 0, 0, 0, 0, 0, 0, 0, false, 0, 0, 0⟩⟩
theorem ceVal : Try.prog.cellsOf 46 = 3 := by kernel_rfl
theorem ceI64 : Try.prog.cellsOf 2 = 1 := by kernel_rfl
theorem ceOp : Try.prog.cellsOf 48 = 14 := by kernel_rfl

section
variable {H : Type} {enc : TypeId × Value → H} {W : World} {spare : Nat → Bool} {held : Bool}

set_option maxRecDepth 100000 in
theorem val_in {n : Nat} {cs : List Value} {x : DataW H × List MemPlace} (hl : cs.length = 3) (h : DataW.trod enc Try.prog W 0 spare held n 46 cs = some x) : ∃ d s g, cs = [.int .i64 d, .int .u32 s, .int .u32 g] ∧ I64 d ∧ UsW s ∧ UsW g := by
  obtain ⟨xs, k, hk, hxy, hlen, hxl, hf⟩ := DataW.trod_struct Try.underlying46 h
  match xs, hxl, cs, hl with
  | [y0, y1], _, [v0, v1, v2], _ =>
    have g0 := hf 0 _ rfl
    have g1 := hf 1 _ rfl
    simp [ceHd, ceI64] at g0 g1
    obtain ⟨z0, rfl, b1, b2⟩ := trod_i64 Try.underlying2 g0
    obtain ⟨s, g, e, us, ug⟩ := hd_in rfl g1
    cases e
    exact ⟨z0, s, g, rfl, ⟨b1, b2⟩, us, ug⟩

set_option maxRecDepth 100000 in
theorem oq_in {n : Nat} {cs : List Value} {x : DataW H × List MemPlace} (hl : cs.length = 14) (h : DataW.trod enc Try.prog W 0 spare held n 48 cs = some x) : ∃ y : Oq, cs = opF y ∧ y.Fit := by
  obtain ⟨xs, k, hk, hxy, hlen, hxl, hf⟩ := DataW.trod_struct Try.underlying48 h
  match xs, hxl, cs, hl with
  | [y0, y1, y2, y3, y4, y5, y6, y7], _, [v0, v1, v2, v3, v4, v5, v6, v7, v8, v9, v10, v11, v12, v13], _ =>
    have g0 := hf 0 _ rfl
    have g1 := hf 1 _ rfl
    have g2 := hf 2 _ rfl
    have g3 := hf 3 _ rfl
    have g4 := hf 4 _ rfl
    have g5 := hf 5 _ rfl
    have g6 := hf 6 _ rfl
    have g7 := hf 7 _ rfl
    simp [ceInt, ceHd, ceBool, ceRow, ceVal] at g0 g1 g2 g3 g4 g5 g6 g7
    obtain ⟨z0, rfl, a0⟩ := trod_i64 Try.underlying3 g0
    obtain ⟨z1, rfl, a1⟩ := trod_i64 Try.underlying3 g1
    obtain ⟨z2, rfl, a2⟩ := trod_i64 Try.underlying3 g2
    obtain ⟨r1, r2, r3, e, u1, u2, u3⟩ := row_in rfl g3
    cases e
    obtain ⟨s4, t4, e, u4, u5⟩ := hd_in rfl g4
    cases e
    obtain ⟨s5, t5, e, u6, u7⟩ := hd_in rfl g5
    cases e
    obtain ⟨z6, rfl⟩ := trod_bool g6
    obtain ⟨d7, s7, t7, e, u8, u9, u10⟩ := val_in rfl g7
    cases e
    exact ⟨⟨z0, z1, z2, r1, r2, r3, s4, t4, s5, t5, z6, d7, s7, t7⟩, rfl, ⟨a0, a1, a2, u1, u2, u3, u4, u5, u6, u7, u8, u9, u10⟩⟩

theorem ops_in (n : Nat) (v : Value) (x : DataW H × List MemPlace) (h : DataW.trod enc Try.prog W 0 spare held n 22 [v] = some x) : ∃ l : List Oq, OpsAt W v l := by
  obtain ⟨l, b, o, ⟨a, c, e, h1, h2, h3⟩, h4⟩ := lst_of_trod (A := fun b o (y : Oq) => y.Fit ∧ ∀ j u, (opF y)[j]? = some u → W.cell? ⟨b, o + j, none⟩ = some u) (by decide) Try.underlying22 ceOp (fun n cs x hl h => by
    obtain ⟨y, rfl, hf⟩ := oq_in hl h
    refine ⟨y, fun b o hc => ⟨hf, fun j u hu => ?_⟩⟩
    obtain ⟨hj, e⟩ := List.getElem?_eq_some_iff.1 hu
    rw [← e]
    exact hc j hj) n v x h
  exact ⟨l, a, c, b, o, e, h1, h2, h3, h4⟩
end

set_option maxRecDepth 100000 in
theorem plays_lifted (os : Os) (started : os.Started) (H : Type) (enc : TypeId × Value → H) :
    ReturnsInHanded {} Try.checked os 3 .any (Rows.waitqPlaysSpec.pre6 enc Try.prog Try.f3 Rows.waitqPlaysRow.domain false) (Rows.waitqPlaysSpec.post enc Try.prog Try.f3 false true false false) := by
  refine returnsInHanded_of_change (C := Try.checked) own_knob started (by kernel_rfl) Try.func3
    (ChangeSpec.witness6 (enc := enc) (C := Try.checked) false ⟨#[], #[.slice none 0 0], []⟩ 8 (by kernel_rfl) (by kernel_rfl) (by kernel_rfl) (by kernel_rfl)) ?_
  intro W base args ds gs before hval0 hW _ _
  have hval : ∀ (j : Nat) t v, Try.f3.params[j]? = some t → args[j]? = some v → Value.okWide Try.prog W .any base t v := hval0
  have hW' := hW
  obtain ⟨p, q, hA0, hV, rfl, hfz, hnd⟩ := hW
  have hA : DataW.TrodAll enc Try.prog W 0 (fun _ => true) true Try.f3.params.toList args.toList ds p := hA0
  rw [Try.params3] at hA hval
  obtain ⟨v1, vs1, d1, ds1, p1, q1, hargs, rfl, rfl, h1, r1⟩ := trodAll_cons hA
  obtain ⟨rfl, rfl, rfl⟩ := trodAll_nil r1
  obtain rfl : args = #[v1] := by cases args; simp_all
  obtain ⟨rfl, rfl⟩ := trodVars_none hV
  obtain ⟨sa, sl, sk, rfl⟩ := okWide_slice Try.underlying22 (hval 0 22 v1 rfl rfl)
  have k1 := h1
  have lt1 : ∀ x ∈ p1, x.block < W.heap.size := by obtain ⟨m, hm⟩ := k1; exact DataW.trod_lt m _ _ _ hm
  obtain ⟨n1, hn1⟩ := h1
  obtain ⟨sc, hsc⟩ := ops_in _ _ _ hn1
  clear hA0 hval0
  refine (plays_is W hsc).mono fun e W' ⟨he, bel⟩ => ?_
  subst he
  exact ⟨_, rfl, _, _, _, [], _, [], hW', trodAll_mk1 (shut_bool Try.underlying4 _), (trodAll_cons_mk (Below.trod laid_out (by kernel_rfl) (of_decide_eq_true (by kernel_rfl)) k1 bel lt1) trodAll_mk0), rfl, bel.frame _, fun h => by cases h⟩

theorem waitqPlays_holds : Rows.WaitqPlaysSaid :=
  OpenClaim.holds_of_wide 3 Try.f3 rfl rfl rfl rfl rfl rfl rfl ⟨rfl, rfl, rfl, rfl, rfl⟩ rfl rfl rfl rfl rfl (by kernel_rfl) Try.func3 (by kernel_rfl)
    (of_decide_eq_true (by kernel_rfl)) (by unfold Func.isWrapper; first | (rw [if_pos (by decide +kernel)]; kernel_rfl) | (rw [if_neg (by decide +kernel)]; exact ⟨rfl, rfl⟩))
    (fun os started H enc _ => plays_lifted os started H enc)

#print axioms waitqPlays_holds
end Go.Proofs.Ythnnpipekeanoaa
