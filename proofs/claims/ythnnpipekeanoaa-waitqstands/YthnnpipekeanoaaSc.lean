/- Layer 11: WaitqStands: the book, all waits that were told, and which are over. -/
import Derived.Test.YthnnpipekeanoaaSb
import Derived.Test.YthnnpipekeanoaaAw
import Derived.Test.YthnnpipekeanoaaXc
namespace Go.Proofs.Ythnnpipekeanoaa
open Go.RowKit

structure RFit (r : Rc) : Prop where
  ms : UsW r.ms
  mg : UsW r.mg
  ws : UsW r.ws
  wg : UsW r.wg
  rs : UsW r.rs
  rg : UsW r.rg
  rd : I64 r.rd

theorem psW_usT {l : List Wt} (hl : l.length ≤ 100000) (ws wg rd ar : Int) : UsW (psW l ws wg rd ar) ∧ UsW (pgW l ws wg rd ar) := by
  have h1 := slW_le l
  have h2 := genW_le l (slW l : Int)
  unfold psW pgW UsW
  constructor <;> split <;> omega

structure Sd (w0 : World) (B : Nat) (F : Nat → Prop) (p : Nat) (tv ov : Value) (l : List Wt) (W : World) : Prop where
  bk : PTb W B F p l
  told : RcRow W B tv (l.map Wt.r)
  over : OvRow W B ov (l.map Wt.o)
  fr : Below w0.heap.size w0 W
  lo : w0.heap.size ≤ B
  hB : B ≤ W.heap.size
  apt : Apt l
  fit : ∀ t ∈ l, RFit t.r

section
variable {w0 W W' : World} {B : Nat} {F : Nat → Prop} {p : Nat} {tv ov : Value} {l : List Wt}

theorem Sd.nt (h : Sd w0 B F p tv ov l W) (g : Nat) (hg : tv.ownBlock = some g) : ¬ F g := by
  obtain ⟨_, _, cur, hc⟩ := own_in h.told hg
  exact h.bk.nbox hc (by decide) (by decide)
theorem Sd.no (h : Sd w0 B F p tv ov l W) (g : Nat) (hg : ov.ownBlock = some g) : ¬ F g := by
  obtain ⟨_, _, cur, hc⟩ := own_in h.over hg
  exact h.bk.nbox hc (by decide) (by decide)
theorem Sd.tno (h : Sd w0 B F p tv ov l W) (g : Nat) (hg : tv.ownBlock = some g) : ¬ ov.ownBlock = some g := own_ne h.told h.over (by decide) g hg
theorem Sd.quiet (h : Sd w0 B F p tv ov l W) (hc : Ch (fun _ => False) W W') : Sd w0 B F p tv ov l W' :=
  ⟨face.ch h.bk hc (fun _ _ h => h), h.told.ch hc (fun _ _ h => h), h.over.ch hc (fun _ _ h => h), h.fr.trans (hc.below h.fr.size (fun _ _ h => h)), h.lo, Nat.le_trans h.hB hc.size, h.apt, h.fit⟩
theorem Sd.below (h : Sd w0 B F p tv ov l W) (hb : Below W.heap.size W W') : Sd w0 B F p tv ov l W' := h.quiet (Ch.of_below hb)
/-- the book was changed: the lists stay -/
theorem Sd.book (h : Sd w0 B F p tv ov l W) (hc : Ch F W W') : RcRow W' B tv (l.map Wt.r) ∧ OvRow W' B ov (l.map Wt.o) ∧ Below w0.heap.size w0 W' ∧ B ≤ W'.heap.size :=
  ⟨h.told.ch hc (fun g hg e => h.nt g hg e), h.over.ch hc (fun g hg e => h.no g hg e), h.fr.trans (hc.below h.fr.size (fun b hb e => by have := (face.foot h.bk b e).1; have := h.lo; omega)), Nat.le_trans h.hB hc.size⟩
theorem Sd.len (h : Sd w0 B F p tv ov l W) : ∃ ta tc oa oc, tv = .slice ta l.length tc ∧ ov = .slice oa l.length oc := by
  obtain ⟨ta, tc, e1, _, _⟩ := h.told.form
  obtain ⟨oa, oc, e2, _, _⟩ := h.over.form
  rw [List.length_map] at e1 e2
  exact ⟨ta, tc, oa, oc, e1, e2⟩
/-- the k-th of both lists, in memory -/
theorem Sd.at (h : Sd w0 B F p tv ov l W) {k : Nat} (hk : k < l.length) : ∃ tg tc og oc, tv = .slice (some ⟨tg, 0, none⟩) l.length tc ∧ ov = .slice (some ⟨og, 0, none⟩) l.length oc ∧ tg < W.heap.size ∧ og < W.heap.size ∧
    (∀ i (hi : i < l.length) j u, (rcF l[i].r)[j]? = some u → W.cell? ⟨tg, i * 11 + j, none⟩ = some u) ∧ (∀ i (hi : i < l.length), W.cell? ⟨og, i, none⟩ = some (.int .i64 (if l[i].o then 1 else 0))) ∧ ¬ og = tg := by
  obtain ⟨tg, tc, cur, e1, _, _, h1, hc1, _, h2⟩ := h.told.at rcF_len (by rw [List.length_map]; omega)
  obtain ⟨og, oc, cur', e2, _, _, h3, hc3, _, h4⟩ := h.over.at (K := 1) (fun _ => rfl) (by rw [List.length_map]; omega)
  rw [List.length_map] at e1 e2
  refine ⟨tg, tc, og, oc, e1, e2, h1, h3, fun i hi j u hu => h2 i (by rw [List.length_map]; exact hi) j u (by rw [List.getElem_map]; exact hu), fun i hi => ?_, fun e => ?_⟩
  · have := h4 i (by rw [List.length_map]; exact hi) 0 (.int .i64 (if l[i].o then 1 else 0)) (by rw [List.getElem_map]; rfl)
    rw [Nat.mul_one, Nat.add_zero] at this
    exact this
  · subst e
    exact h.tno og (by rw [e1]; rfl) (by rw [e2]; rfl)
/-- one more is over -/
theorem Sd.mark {F' : Nat → Prop} {l' : List Wt} {og oc kk : Nat} (h : Sd w0 B F p tv (.slice (some ⟨og, 0, none⟩) l.length oc) l W) (hk' : PTb W' B F' p l') (hc : Ch F W W') (hr : l'.map Wt.r = l.map Wt.r) (ho : l'.map Wt.o = (l.map Wt.o).set kk true) (hkk : kk < l.length) : Sd w0 B F' p tv (.slice (some ⟨og, 0, none⟩) l.length oc) l' (W'.setCell ⟨og, kk, none⟩ (.int .i64 1)) := by
  obtain ⟨h1, h2, h3, h4⟩ := h.book hc
  obtain ⟨hog, _, cur, hcur⟩ := own_in h2 (g := og) rfl
  have hs := Ch.set (Q := fun x => x = og) W' rfl kk (.int .i64 1)
  refine ⟨face.ch hk' hs (fun x hx e => ?_), ?_, ?_, h3.trans (hs.below h3.size (fun b hb e => by have := h.lo; omega)), h.lo, Nat.le_trans h4 hs.size, h.apt.same hr, fun t ht => ?_⟩
  · subst e
    exact hk'.nbox hcur (by decide) (by decide) hx
  · rw [hr]
    exact h1.ch hs (fun g hg e => by subst e; exact h.tno _ hg rfl)
  · rw [ho]
    have hkk' : kk < (l.map Wt.o).length := by rw [List.length_map]; exact hkk
    have h2' : OvRow W' B (.slice (some ⟨og, 0, none⟩) (l.map Wt.o).length oc) (l.map Wt.o) := by rw [List.length_map]; exact h2
    have := Row.set h2' (fun _ => rfl) (i := kk) (j := 0) hkk' (by decide) (u := .int .i64 1) true rfl
    rw [Nat.mul_one, Nat.add_zero, List.length_map] at this
    exact this
  · have : t.r ∈ l.map Wt.r := by rw [← hr]; exact List.mem_map_of_mem ht
    obtain ⟨u, hu, e⟩ := List.mem_map.1 this
    rw [← e]
    exact h.fit u hu
end

theorem cut_marks {l : List Wt} (h : Apt l) {kk : Nat} (hk : kk < l.length) : (cutW l l[kk].r.ms l[kk].r.mg).map Wt.o = (l.map Wt.o).set kk true ∧ fnW l l[kk].r.ms l[kk].r.mg = !l[kk].o := by
  have hf := h.found hk
  cases ho : l[kk].o with
  | true =>
    rw [ho] at hf
    have hf : fndW l l[kk].r.ms l[kk].r.mg = none := hf
    have e1 : cutW l l[kk].r.ms l[kk].r.mg = l := by unfold cutW; rw [hf]
    refine ⟨?_, by unfold fnW; rw [hf]; rfl⟩
    rw [e1]
    refine List.ext_getElem (by simp) fun i h1 h2 => ?_
    rw [List.getElem_set]
    by_cases e : kk = i
    · subst e
      simp [ho]
    · rw [if_neg e]
  | false =>
    rw [ho] at hf
    have hf : fndW l l[kk].r.ms l[kk].r.mg = some kk := hf
    have e1 : cutW l l[kk].r.ms l[kk].r.mg = l.modify kk over := by unfold cutW; rw [hf]
    refine ⟨?_, by unfold fnW; rw [hf]; rfl⟩
    rw [e1]
    refine List.ext_getElem (by simp) fun i h1 h2 => ?_
    simp only [List.getElem_map, List.getElem_modify, List.getElem_set]
    split <;> rfl

end Go.Proofs.Ythnnpipekeanoaa
