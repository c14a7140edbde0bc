/- Layer 10: the program's table of pairs: the sort. -/
import Derived.Test.YtjilnmeegolpkaaHgp
import Derived.Test.YtjilnmeegolpkaaHh
namespace Go.Proofs.Ytjilnmeegolpkaa
open Go.RowKit Go.Shelf Go.Sort

instance : Inhabited Pa := ⟨paZ⟩

/-- a list lies in block b -/
def LsP (w : World) (b : Nat) (d : List (En Pa)) : Prop := (∃ cur T r, w.heap[b]? = some (.cells cur T r)) ∧ ∀ i (hi : i < d.length) j u, (enFP d[i])[j]? = some u → w.cell? ⟨b, i * 5 + j, none⟩ = some u

theorem aEP (w : World) : (isAgg (srtP_ren.t 24)).run Try.prog w = .ok true w := Try.isAgg102 w
theorem zEP (w : World) : (Go.sizeOf (srtP_ren.t 24)).run Try.prog w = .ok 5 w := Try.sizeOf102 w

set_option maxRecDepth 100000 in
theorem sort_isP {w : World} {B b c : Nat} {L : List (En Pa)} (h : Row enFP 5 102 w B (.slice (some ⟨b, 0, none⟩) L.length c) L) (hn : L.length ≤ 500) :
    Calls Try.prog 50 #[.slice (some ⟨b, 0, none⟩) L.length c, .func (.func 51) #[] #[]] w fun e w' => e = .returned (.tuple #[]) ∧ ∃ d : List (En Pa), d.Perm L ∧ (∀ i j (hi : i < d.length) (hj : j < d.length), i < j → d[i].r ≤ d[j].r) ∧ LsP w' b d ∧ Ch (fun y => y = b) w w' := by
  obtain ⟨hB, hb, cur, hcur⟩ := own_in h (g := b) rfl
  have eg : ∀ args w, (callFunc 51 args).run Try.prog w = .ok (.enter 51 args) w := enters_of Try.func51 (by kernel_rfl) rfl
  have hH : HoldsK enFP 5 w b 0 L.toArray := by
    intro t ht
    rw [size_flatK, List.size_toArray] at ht
    have hd : t / 5 < L.length := (Nat.div_lt_iff_lt_mul (by decide)).2 ht
    have hm : t % 5 < 5 := Nat.mod_lt _ (by decide)
    obtain ⟨b', c', cur', e1, _, _, _, e2, _, hc⟩ := h.at enFP_len (by omega)
    cases e1
    have e : t = t / 5 * 5 + t % 5 := by omega
    have hu : (enFP L[t / 5])[t % 5]? = some ((enFP L[t / 5])[t % 5]'(by rw [enFP_len]; exact hm)) := List.getElem?_eq_getElem _
    have key := hc (t / 5) hd (t % 5) _ hu
    rw [← e] at key
    refine ⟨?_, by simp [World.frozen?, hcur]⟩
    rw [get_flatK enFP 5 L.toArray t (by simpa using ht), Nat.zero_add, key]
    simp only [id, List.getElem!_toArray]
    rw [getElem!_pos L (t / 5) hd, getElem!_pos (enFP L[t / 5]) (t % 5) (by rw [enFP_len]; exact hm)]
  have hcmp : CmpLays Try.prog 51 #[] enFP 5 (fun x y : En Pa => cmp3 x.r y.r) b 0 L.toArray.size w := by
    intro m os dk _ x y
    refine (cmp_isP _ x y).mono ?_
    rintro e w' ⟨rfl, rfl⟩
    exact ⟨rfl, 0, #[.cells (enFP x).toArray 102, .cells (enFP y).toArray 102], by rw [alloc_eq_grow, alloc_eq_grow, grow_grow]; rfl⟩
  have hS := AnyQ.slices_SortFunc srtP 5 aEP zEP enFP enFP_len enFP_one (fun x y : En Pa => cmp3 x.r y.r) cmp3_swo 51 #[] b 0 c L.toArray w eg hcmp hH hb (by simp; omega)
  rw [List.size_toArray] at hS
  refine hS.mono ?_
  rintro e w' ⟨rfl, d', n, os, ⟨hp1, -, hp2⟩, hs, rfl⟩
  have hsz : d'.size = L.length := by rw [hp1, List.size_toArray]
  rw [← hsz, Array.extract_size] at hp2
  have hp3 : (L.toArray.extract 0 d'.size).toList = L := by rw [hsz, ← List.size_toArray, Array.extract_size]
  rw [hp3] at hp2
  refine ⟨rfl, d'.toList, hp2, fun i j hi hj hij => ?_, ⟨?_, ?_⟩, sort_ch _ _ _ _ _ _ _⟩
  · rw [Array.length_toList] at hi hj
    have := hs i j (Nat.zero_le _) hij (by omega)
    rw [getElem!_pos d' i hi, getElem!_pos d' j hj, ltOf, decide_eq_false_iff_not] at this
    rw [Array.getElem_toList, Array.getElem_toList]
    unfold cmp3 at this
    by_cases h1 : d'[j].r < d'[i].r
    · rw [if_pos h1] at this
      omega
    · omega
  · exact sort_blk _ _ _ _ _ _ _ hcur
  · intro i hi j u hu
    rw [Array.length_toList] at hi
    rw [Array.getElem_toList] at hu
    have hj : j < 5 := by rw [← enFP_len d'[i]]; exact (List.getElem?_eq_some_iff.1 hu).1
    have hH' := holdsK_sortWorldK_c enFP 5 w b 0 L.toArray d' n os hH hb (by rw [hsz, List.size_toArray])
    have ht : i * 5 + j < d'.size * 5 := by
      have : (i + 1) * 5 ≤ d'.size * 5 := Nat.mul_le_mul_right _ hi
      omega
    have key := (hH' (i * 5 + j) (by rw [size_flatK]; exact ht)).1
    rw [get_flatK enFP 5 d' _ ht, show (i * 5 + j) / 5 = i by omega, show (i * 5 + j) % 5 = j by omega, Nat.zero_add, getElem!_pos d' i hi] at key
    rw [key]
    obtain ⟨h1, h2⟩ := List.getElem?_eq_some_iff.1 hu
    rw [getElem!_pos (enFP d'[i]) j h1, h2]
    rfl

end Go.Proofs.Ytjilnmeegolpkaa
