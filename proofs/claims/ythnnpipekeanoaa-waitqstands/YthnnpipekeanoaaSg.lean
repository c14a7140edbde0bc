/- Layer 11: WaitqStands: somebody's waits are marked, one by one. -/
import Derived.Test.YthnnpipekeanoaaSc
namespace Go.Proofs.Ythnnpipekeanoaa
open Go.RowKit

/-- which are over, when the first k have been looked at -/
def mks (l : List Wt) (s g : Int) (k : Nat) : List Bool := ((leaW (l.take k) s g) ++ l.drop k).map Wt.o
theorem mks_len (l : List Wt) (s g : Int) (k : Nat) : (mks l s g k).length = l.length := by
  unfold mks
  rw [List.length_map, List.length_append, leaW_len, List.length_take, List.length_drop]
  omega
theorem mks_zero (l : List Wt) (s g : Int) : mks l s g 0 = l.map Wt.o := by simp [mks, leaW]
theorem mks_all (l : List Wt) (s g : Int) : mks l s g l.length = (leaW l s g).map Wt.o := by simp [mks]
theorem mks_at {l : List Wt} (s g : Int) {k : Nat} (hk : k < l.length) : (mks l s g k)[k]'(by rw [mks_len]; exact hk) = l[k].o := by
  have h : (leaW (l.take k) s g).length = k := by rw [leaW_len, List.length_take]; omega
  simp only [mks, List.getElem_map]
  rw [List.getElem_append_right (by omega), List.getElem_drop]
  simp [h]
theorem mks_next {l : List Wt} (s g : Int) {k : Nat} (hk : k < l.length) : mks l s g (k + 1) = (mks l s g k).set k (l[k].o || isWho s g l[k]) := by
  have h1 : leaW (l.take (k + 1)) s g = leaW (l.take k) s g ++ [if isWho s g l[k] then over l[k] else l[k]] := by
    rw [List.take_succ_eq_append_getElem hk]
    unfold leaW
    rw [List.map_append]
    rfl
  have h2 : l.drop k = l[k] :: l.drop (k + 1) := List.drop_eq_getElem_cons hk
  have h3 : (leaW (l.take k) s g).length = k := by rw [leaW_len, List.length_take]; omega
  unfold mks
  rw [h1, h2, List.map_append, List.map_append, List.map_append, List.map_cons, List.set_append_right _ _ (by rw [List.length_map]; omega), List.length_map, h3, Nat.sub_self]
  cases hw : isWho s g l[k]
  · rw [List.append_assoc, Bool.or_false]
    rfl
  · rw [List.append_assoc, Bool.or_true]
    rfl
theorem leaN_le (l : List Wt) (s g : Int) : leaN l s g ≤ l.length := List.countP_le_length

theorem Apt.got {l : List Wt} (h : Apt l) {k : Nat} (hk : k < l.length) : l[k].o = false → gtW l l[k].r.ms l[k].r.mg = l[k].r := fun ho => by
  have hf := h.found hk
  rw [ho] at hf
  have hf : fndW l l[k].r.ms l[k].r.mg = some k := hf
  unfold gtW
  rw [hf]
  simp [hk]

structure Sm (w0 : World) (B : Nat) (F : Nat → Prop) (p : Nat) (tv ov : Value) (l : List Wt) (M : List Bool) (A : Nat) (ob : Obj) (W : World) : Prop where
  bk : PTb W B F p l
  told : RcRow W B tv (l.map Wt.r)
  over : OvRow W B ov M
  fr : Below w0.heap.size w0 W
  lo : w0.heap.size ≤ B
  hB : B ≤ W.heap.size
  box : W.heap[A]? = some ob
  apt : Apt l
  fit : ∀ t ∈ l, RFit t.r

section
variable {w0 W W' : World} {B : Nat} {F : Nat → Prop} {p : Nat} {tv ov : Value} {l : List Wt} {M : List Bool} {A : Nat} {ob : Obj}

theorem Sm.quiet (h : Sm w0 B F p tv ov l M A ob W) (hc : Ch (fun _ => False) W W') : Sm w0 B F p tv ov l M A ob W' :=
  ⟨face.ch h.bk hc (fun _ _ h => h), h.told.ch hc (fun _ _ h => h), h.over.ch hc (fun _ _ h => h), h.fr.trans (hc.below h.fr.size (fun _ _ h => h)), h.lo, Nat.le_trans h.hB hc.size, hc.box h.box (fun h => h), h.apt, h.fit⟩
theorem Sm.set {og oc n kk : Nat} (h : Sm w0 B F p tv (.slice (some ⟨og, 0, none⟩) n oc) l M A ob W) (hn : M.length = n) (hkk : kk < M.length) (hA : ¬ A = og) : Sm w0 B F p tv (.slice (some ⟨og, 0, none⟩) n oc) l (M.set kk true) A ob (W.setCell ⟨og, kk, none⟩ (.int .i64 1)) := by
  subst hn
  obtain ⟨hog, _, cur, hcur⟩ := own_in h.over (g := og) rfl
  have hs := Ch.set (Q := fun x => x = og) W rfl kk (.int .i64 1)
  refine ⟨face.ch h.bk hs (fun x hx e => ?_), ?_, ?_, h.fr.trans (hs.below h.fr.size (fun b hb e => by have := h.lo; omega)), h.lo, Nat.le_trans h.hB hs.size, hs.box h.box hA, h.apt, h.fit⟩
  · subst e
    exact h.bk.nbox hcur (by decide) (by decide) hx
  · exact h.told.ch hs (fun g hg e => by subst e; exact own_ne h.told h.over (by decide) _ hg rfl)
  · have := Row.set h.over (fun _ => rfl) (i := kk) (j := 0) hkk (by decide) (u := .int .i64 1) true rfl
    rw [Nat.mul_one, Nat.add_zero] at this
    exact this
theorem Sm.at (h : Sm w0 B F p tv ov l M A ob W) (hM : M.length = l.length) {k : Nat} (hk : k < l.length) : ∃ tg tc og oc cur cur', tv = .slice (some ⟨tg, 0, none⟩) l.length tc ∧ ov = .slice (some ⟨og, 0, none⟩) l.length oc ∧ W.heap[tg]? = some (.cells cur 57 (0, 0)) ∧ W.heap[og]? = some (.cells cur' 3 (0, 0)) ∧
    (∀ j u, (rcF l[k].r)[j]? = some u → W.cell? ⟨tg, k * 11 + j, none⟩ = some u) ∧ W.cell? ⟨og, k, none⟩ = some (.int .i64 (if M[k]'(by omega) then 1 else 0)) := by
  obtain ⟨tg, tc, cur, e1, _, _, h1, hc1, _, h2⟩ := h.told.at rcF_len (by rw [List.length_map]; omega)
  obtain ⟨og, oc, cur', e2, _, _, h3, hc3, _, h4⟩ := h.over.at (K := 1) (fun _ => rfl) (by omega)
  rw [List.length_map] at e1
  rw [hM] at e2
  refine ⟨tg, tc, og, oc, cur, cur', e1, e2, hc1, hc3, fun j u hu => h2 k (by rw [List.length_map]; exact hk) j u (by rw [List.getElem_map]; exact hu), ?_⟩
  have := h4 k (by omega) 0 (.int .i64 (if M[k]'(by omega) then 1 else 0)) rfl
  rw [Nat.mul_one, Nat.add_zero] at this
  exact this
end

end Go.Proofs.Ythnnpipekeanoaa
