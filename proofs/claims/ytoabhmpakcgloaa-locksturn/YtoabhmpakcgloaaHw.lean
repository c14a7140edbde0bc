/- Layer 11: the landed book, as the face asks: a wait is taken out; Cut. -/
import Derived.Test.YtoabhmpakcgloaaHu
import Derived.Test.YtoabhmpakcgloaaHm
namespace Go.Proofs.Ytoabhmpakcgloaa
open Go.RowKit

theorem lkS_ne (sl : List Sl) (k : Nat) {s s' : Int} (h1 : 1 ≤ s') (hne : s ≠ s') (f : Sl → Sl) : lkS (modS sl s' f) k s = lkS sl k s := by
  unfold lkS modS
  by_cases h3 : 1 ≤ s
  · have : ¬ (s' - 1).toNat = (s - 1).toNat := by omega
    generalize (s - 1).toNat = i at this
    generalize (s' - 1).toNat = j at this
    simp [h3, this]
  · simp [h3]
theorem gr_wipe {sl sl' : List Sl} {i : Nat} (h : sl'.map Sl.gr = sl.map Sl.gr) (hi : i < sl.length) (f : Sl → Sl) (q : Int × Rc) (hf : ∀ z, z.gr = (sl[i]).gr → (f z).gr = q) : (modS sl' ((i : Int) + 1) f).map Sl.gr = (sl.map Sl.gr).set i q := by
  have hl := (gr_same h).1
  unfold modS
  rw [show ((i : Int) + 1 - 1).toNat = i by omega]
  refine List.ext_getElem (by simp [hl]) fun j h1 h2 => ?_
  rw [List.getElem_map, List.getElem_modify, List.getElem_set]
  have e : ∀ (j : Nat) (hj : j < sl'.length) (hj' : j < sl.length), sl'[j].gr = sl[j].gr := fun j hj hj' => by
    have := List.getElem_of_eq h (i := j) (by simpa using hj)
    simpa using this
  split
  · rename_i hij
    subst hij
    exact hf _ (e _ _ _)
  · rw [List.getElem_map]
    exact e _ _ _

section
variable {w : World} {B p M C n : Nat} {wv : Value} {A D : List Wt} {t : Wt} {sl : List Sl} {full : Int} {en : Ln → Option (Int × Int)} {cl : Int × Int × Int → Option Int}
theorem take_b (hb : Bk w B p wv M C sl full en cl n) (hl : sl.length ≤ 100001) (hI : BInv (A ++ t :: D) sl full en cl n) (ht : t.o = false) {i : Nat} (hm : t.r.ms = (i : Int) + 1) :
    Calls Try.prog 49 #[.pointer (some ⟨p, 0, none⟩), .int .u32 ((i : Int) + 1)] w fun e w' => e = .returned (.tuple #[]) ∧ ∃ sl' full' en' cl' n', Bk w' B p wv M C sl' full' en' cl' n' ∧ BInv (A ++ over t :: D) sl' full' en' cl' n' ∧ sl'.length = sl.length ∧ Ch (bkF p M C wv) w w' := by
  have hd := hI.dom t (by simp)
  have hi : i < sl.length := by omega
  have hr := hI.live t (by simp) ht i hi hm
  have hfl := hI.full_le
  have hs : ∀ k, k < 3 → ((i : Int) + 1) ∈ mbW (A ++ t :: D) (lnOf k t.r) := fun k hk => mbW_mem.2 ⟨t, by simp, stW_of hk ht, hm⟩
  have hc : (cl (clR t.r)).isSome = true := by
    have := hI.has t (by simp) ht
    unfold clT at this
    rw [this]
    rfl
  refine (take_is hb hl hI.lines (fun x s hs => (hI.bnd x s hs).2) hi hr hs ⟨hI.full0, by omega⟩ (n' := n - 1) (by rw [if_pos hc]) rfl).mono ?_
  rintro e w' ⟨rfl, sl', en', b', l', g', c'⟩
  rw [← hm, cut_mb hI.one ht] at l'
  have gw := gr_wipe (f := fun _ => zSl sl[i].g) g' hi (sl[i].g, zRc) (fun z _ => rfl)
  refine ⟨rfl, _, _, en', _, n - 1, b', hI.cut ht hi hm (l'.congr fun x s hx => ?_) gw rfl, by rw [modS_len]; exact (gr_same g').1, c'⟩
  refine lkS_ne _ _ (by omega) (fun e => ?_) _
  obtain ⟨u, h1, h2, h3⟩ := mbW_mem.1 hx
  have hu := mem_over h1 (stW_live h2)
  have := hu.elim (fun h => ((one_A hI.one ht).1 u h (stW_live h2)).1) (fun h => ((one_A hI.one ht).2 u h (stW_live h2)).1)
  exact this (by rw [h3, e, hm])
end

theorem cut_split {l : List Wt} {s g : Int} {k : Nat} (h : fndW l s g = some k) : ∃ A t D, l = A ++ t :: D ∧ t.o = false ∧ t.r.ms = s ∧ t.r.mg = g ∧ cutW l s g = A ++ over t :: D := by
  obtain ⟨hk, h1, h2, h3⟩ := fndW_some h
  have hs : l = l.take k ++ l[k] :: l.drop (k + 1) := by rw [List.getElem_cons_drop, List.take_append_drop]
  refine ⟨l.take k, l[k], l.drop (k + 1), hs, h1, h2, h3, ?_⟩
  unfold cutW
  rw [h]
  show l.modify k over = _
  rw [List.modify_eq_take_cons_drop hk]

end Go.Proofs.Ytoabhmpakcgloaa
