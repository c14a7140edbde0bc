/- Layer 11: the landed book, as the face asks: a wait is taken out; Cut. -/
import Derived.Test.YthnnpipekeanoaaHu
import Derived.Test.YthnnpipekeanoaaHm
namespace Go.Proofs.Ythnnpipekeanoaa
open Go.RowKit

theorem lkS_ne (sl : List Sl) (k : Nat) {s s' : Int} (h1 : 1 ≤ s') (hne : s ≠ s') (f : Sl → Sl) : lkS (modS sl s' f) k s = lkS sl k s := by
  unfold lkS modS
  by_cases h3 : 1 ≤ s
  · have : ¬ (s' - 1).toNat = (s - 1).toNat := by omega
    generalize (s - 1).toNat = i at this
    generalize (s' - 1).toNat = j at this
    simp [h3, this]
  · simp [h3]
theorem gr_wipe {sl sl' : List Sl} {i : Nat} (h : sl'.map Sl.gr = sl.map Sl.gr) (hi : i < sl.length) (f : Sl → Sl) (q : Int × Rc) (hf : ∀ z, z.gr = (sl[i]).gr → (f z).gr = q) : (modS sl' ((i : Int) + 1) f).map Sl.gr = (sl.map Sl.gr).set i q := by
  have hl := (gr_same h).1
  unfold modS
  rw [show ((i : Int) + 1 - 1).toNat = i by omega]
  refine List.ext_getElem (by simp [hl]) fun j h1 h2 => ?_
  rw [List.getElem_map, List.getElem_modify, List.getElem_set]
  have e : ∀ (j : Nat) (hj : j < sl'.length) (hj' : j < sl.length), sl'[j].gr = sl[j].gr := fun j hj hj' => by
    have := List.getElem_of_eq h (i := j) (by simpa using hj)
    simpa using this
  split
  · rename_i hij
    subst hij
    exact hf _ (e _ _ _)
  · rw [List.getElem_map]
    exact e _ _ _

section
variable {w : World} {B p M C n : Nat} {wv : Value} {A D : List Wt} {t : Wt} {sl : List Sl} {full : Int} {en : Ln → Option (Int × Int)} {cl : Int × Int × Int → Option Int}
theorem take_b (hb : Bk w B p wv M C sl full en cl n) (hl : sl.length ≤ 100001) (hI : BInv (A ++ t :: D) sl full en cl n) (ht : t.o = false) {i : Nat} (hm : t.r.ms = (i : Int) + 1) :
    Calls Try.prog 34 #[.pointer (some ⟨p, 0, none⟩), .int .u32 ((i : Int) + 1)] w fun e w' => e = .returned (.tuple #[]) ∧ ∃ sl' full' en' cl' n', Bk w' B p wv M C sl' full' en' cl' n' ∧ BInv (A ++ over t :: D) sl' full' en' cl' n' ∧ sl'.length = sl.length ∧ Ch (bkF p M C wv) w w' := by
  have hd := hI.dom t (by simp)
  have hi : i < sl.length := by omega
  have hr := hI.live t (by simp) ht i hi hm
  have hfl := hI.full_le
  have hs : ∀ k, k < 3 → ((i : Int) + 1) ∈ mbW (A ++ t :: D) (lnOf k t.r) := fun k hk => mbW_mem.2 ⟨t, by simp, stW_of hk ht, hm⟩
  have hc : (cl (clR t.r)).isSome = true := by
    have := hI.has t (by simp) ht
    unfold clT at this
    rw [this]
    rfl
  refine (take_is hb hl hI.lines (fun x s hs => (hI.bnd x s hs).2) hi hr hs ⟨hI.full0, by omega⟩ (n' := n - 1) (by rw [if_pos hc]) rfl).mono ?_
  rintro e w' ⟨rfl, sl', en', b', l', g', c'⟩
  rw [← hm, cut_mb hI.one ht] at l'
  have gw := gr_wipe (f := fun _ => zSl sl[i].g) g' hi (sl[i].g, zRc) (fun z _ => rfl)
  refine ⟨rfl, _, _, en', _, n - 1, b', hI.cut ht hi hm (l'.congr fun x s hx => ?_) gw rfl, by rw [modS_len]; exact (gr_same g').1, c'⟩
  refine lkS_ne _ _ (by omega) (fun e => ?_) _
  obtain ⟨u, h1, h2, h3⟩ := mbW_mem.1 hx
  have hu := mem_over h1 (stW_live h2)
  have := hu.elim (fun h => ((one_A hI.one ht).1 u h (stW_live h2)).1) (fun h => ((one_A hI.one ht).2 u h (stW_live h2)).1)
  exact this (by rw [h3, e, hm])
end

theorem cut_split {l : List Wt} {s g : Int} {k : Nat} (h : fndW l s g = some k) : ∃ A t D, l = A ++ t :: D ∧ t.o = false ∧ t.r.ms = s ∧ t.r.mg = g ∧ cutW l s g = A ++ over t :: D := by
  obtain ⟨hk, h1, h2, h3⟩ := fndW_some h
  have hs : l = l.take k ++ l[k] :: l.drop (k + 1) := by rw [List.getElem_cons_drop, List.take_append_drop]
  refine ⟨l.take k, l[k], l.drop (k + 1), hs, h1, h2, h3, ?_⟩
  unfold cutW
  rw [h]
  show l.modify k over = _
  rw [List.modify_eq_take_cons_drop hk]

set_option maxRecDepth 100000 in
set_option maxHeartbeats 8000000 in
theorem cut_b {w : World} {B p M C n : Nat} {wv : Value} {l : List Wt} {sl : List Sl} {full : Int} {en : Ln → Option (Int × Int)} {cl : Int × Int × Int → Option Int} (hb : Bk w B p wv M C sl full en cl n) (hl : sl.length ≤ 100001) (hi : BInv l sl full en cl n) {s g : Int} (hu : 0 ≤ s ∧ s ≤ 4294967295) :
    Calls Try.prog 15 #[.pointer (some ⟨p, 0, none⟩), hvW s g] w fun e w' => e = .returned (.int .i64 (ecB (fnW l s g) 111)) ∧ ∃ sl' full' en' cl' n', Bk w' B p wv M C sl' full' en' cl' n' ∧ BInv (cutW l s g) sl' full' en' cl' n' ∧ sl'.length = sl.length ∧ Ch (bkF p M C wv) w w' := by
  obtain ⟨w1, hw1⟩ : ∃ w1, w.alloc (.cells #[.int .u32 s, .int .u32 g] 41) = w1 := ⟨_, rfl⟩
  have hB1 : Below w.heap.size w w1 := by rw [← hw1]; exact below1 _ _
  have hh : w1.heap[w.heap.size]? = some (.cells #[.int .u32 s, .int .u32 g] 41 (0, 0)) := by rw [← hw1]; exact heap_new _ _
  have x0 : w1.cell? ⟨w.heap.size, 0, none⟩ = some (.int .u32 s) := by simp [Lib.cell_of_heap hh]
  have x1 : w1.cell? ⟨w.heap.size, 1, none⟩ = some (.int .u32 g) := by simp [Lib.cell_of_heap hh]
  have HB := hide hB1
  have HK := hide (hb.below hB1)
  have HI := hide hi
  have HH := hide hh
  clear hB1 hh hb hi
  go_enter Try.func15, Try.ntmps15
  go_wp2_with fail
  refine (know_b HK.out hl HI.out hu).mono ?_
  rintro e W2 ⟨rfl, h2⟩
  have H2 := hide h2
  have xs : W2.cell? ⟨w.heap.size, 0, none⟩ = some (.int .u32 s) := by simp [Lib.cell_of_heap ((Ch.of_below (Q := fun _ => False) h2).box HH.out (fun h => h))]
  have BW := hide (HK.out.below h2)
  clear h2 hw1 x0 x1
  cases hf : fndW l s g with
  | none =>
    have hq : fnW l s g = false := by unfold fnW; rw [hf]; rfl
    have hcw : cutW l s g = l := by unfold cutW; rw [hf]
    have HC := hide hcw
    have e1 : ecB (fnW l s g) 111 = 111 := by rw [hq]; rfl
    have HE := hide e1
    clear hcw hq hf
    go_wp2_with fail
    go_ret
    exact ⟨ret_int HE.out.symm, sl, full, en, cl, n, BW.out, by rw [HC.out]; exact HI.out, rfl, Ch.of_below (HB.out.trans (H2.out.mono HB.out.size))⟩
  | some k =>
    have hq : fnW l s g = true := by unfold fnW; rw [hf]; rfl
    obtain ⟨A, t, D, hl', ht, hms, hmg, hcw⟩ := cut_split hf
    have e1 : ecB (fnW l s g) 111 = 0 := by rw [hq]; rfl
    have HE := hide e1
    have HC := hide hcw
    have hI := HI.out
    rw [hl'] at hI
    obtain ⟨i, hi', hs⟩ := idx_of (s := s) (n := sl.length) (by rw [← hms]; have := hI.dom t (by simp); omega) (by rw [← hms]; have := hI.dom t (by simp); omega)
    subst hs
    have HT := hide (take_b BW.out hl hI ht hms)
    rw [e1]
    clear hcw hq hf hI ht hms hmg hl' hu e1
    go_wp2_with fail
    refine HT.out.mono ?_
    rintro e W3 ⟨rfl, sl', full', en', cl', n', b', i', l3, c'⟩
    have H3 := hide (And.intro b' (And.intro i' (And.intro l3 c')))
    clear b' i' l3 c'
    go_wp2_with fail
    go_ret
    exact ⟨ret_int HE.out.symm, sl', full', en', cl', n', H3.out.1, by rw [HC.out]; exact H3.out.2.1, H3.out.2.2.1, (Ch.of_below (HB.out.trans (H2.out.mono HB.out.size))).trans H3.out.2.2.2 (fun _ _ h => h)⟩

end Go.Proofs.Ythnnpipekeanoaa
