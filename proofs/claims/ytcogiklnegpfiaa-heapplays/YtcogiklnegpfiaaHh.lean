/- Layer 10: the program's table of kinds: the sort. -/
import Derived.Test.YtcogiklnegpfiaaHg
namespace Go.Proofs.Ytcogiklnegpfiaa
open Go.RowKit Go.Shelf Go.Sort

/-- a list lies in block b -/
def LsI (w : World) (b : Nat) (d : List (En Int)) : Prop := (∃ cur T r, w.heap[b]? = some (.cells cur T r)) ∧ ∀ i (hi : i < d.length) j u, (enFI d[i])[j]? = some u → w.cell? ⟨b, i * 4 + j, none⟩ = some u

theorem sort_ch {α : Type} [Inhabited α] (enc : α → List Value) (k : Nat) (w : World) (b : Nat) (n : Nat) (d : Array α) (os : Array Obj) : Ch (fun y => y = b) w (sortWorldK enc k w b 0 n d os) := by
  refine ⟨rfl, rfl, rfl, ?_, fun x hx hn => ?_⟩
  · simp [sortWorldK, putRowK]
  · unfold sortWorldK
    rw [heap_grow_old _ _ (by simp [putRowK]; exact hx)]
    simp only [putRowK, putRow, mapBlock, Array.getElem?_modify, heap_ahead]
    rw [if_neg (fun e => hn e.symm)]
theorem sort_blk {α : Type} [Inhabited α] (enc : α → List Value) (k : Nat) (w : World) (b : Nat) (n : Nat) (d : Array α) (os : Array Obj) {cur : Array Value} {T : TypeId} {r : Nat × Nat} (hb : w.heap[b]? = some (.cells cur T r)) : ∃ cur T r, (sortWorldK enc k w b 0 n d os).heap[b]? = some (.cells cur T r) := by
  have hlt := (Array.getElem?_eq_some_iff.1 hb).1
  unfold sortWorldK
  rw [heap_grow_old _ _ (by simp [putRowK]; exact hlt)]
  simp only [putRowK, putRow, mapBlock, Array.getElem?_modify, heap_ahead, hb, if_true, Option.map_some, onCells]
  exact ⟨_, _, _, rfl⟩
theorem cmp3_neg (a b : Nat) : (cmp3 a b < 0) = (a < b) := by
  unfold cmp3
  by_cases h1 : a < b
  · simp [h1]
  · by_cases h2 : b < a <;> simp [h1, h2]
theorem cmp3_swo {α : Type} : SWO (ltOf fun x y : En α => cmp3 x.r y.r) := by
  refine ⟨fun x => ?_, fun x y z h1 h2 => ?_, fun x y z h1 h2 => ?_⟩
  · simp only [ltOf, cmp3_neg, decide_eq_false_iff_not]
    omega
  · simp only [ltOf, cmp3_neg, decide_eq_true_eq] at *
    omega
  · simp only [ltOf, cmp3_neg, decide_eq_false_iff_not] at *
    omega

theorem aEI (w : World) : (isAgg (srtI_ren.t 24)).run Try.prog w = .ok true w := Try.isAgg100 w
theorem zEI (w : World) : (Go.sizeOf (srtI_ren.t 24)).run Try.prog w = .ok 4 w := Try.sizeOf100 w

set_option maxRecDepth 100000 in
theorem sort_isI {w : World} {B b c : Nat} {L : List (En Int)} (h : Row enFI 4 100 w B (.slice (some ⟨b, 0, none⟩) L.length c) L) (hn : L.length ≤ 500) :
    Calls Try.prog 61 #[.slice (some ⟨b, 0, none⟩) L.length c, .func (.func 62) #[] #[]] w fun e w' => e = .returned (.tuple #[]) ∧ ∃ d : List (En Int), d.Perm L ∧ (∀ i j (hi : i < d.length) (hj : j < d.length), i < j → d[i].r ≤ d[j].r) ∧ LsI w' b d ∧ Ch (fun y => y = b) w w' := by
  obtain ⟨hB, hb, cur, hcur⟩ := own_in h (g := b) rfl
  have eg : ∀ args w, (callFunc 62 args).run Try.prog w = .ok (.enter 62 args) w := enters_of Try.func62 (by kernel_rfl) rfl
  have hH : HoldsK enFI 4 w b 0 L.toArray := by
    intro t ht
    rw [size_flatK, List.size_toArray] at ht
    have hd : t / 4 < L.length := (Nat.div_lt_iff_lt_mul (by decide)).2 ht
    have hm : t % 4 < 4 := Nat.mod_lt _ (by decide)
    obtain ⟨b', c', cur', e1, _, _, _, e2, _, hc⟩ := h.at enFI_len (by omega)
    cases e1
    have e : t = t / 4 * 4 + t % 4 := by omega
    have hu : (enFI L[t / 4])[t % 4]? = some ((enFI L[t / 4])[t % 4]'(by rw [enFI_len]; exact hm)) := List.getElem?_eq_getElem _
    have key := hc (t / 4) hd (t % 4) _ hu
    rw [← e] at key
    refine ⟨?_, by simp [World.frozen?, hcur]⟩
    rw [get_flatK enFI 4 L.toArray t (by simpa using ht), Nat.zero_add, key]
    simp only [id, List.getElem!_toArray]
    rw [getElem!_pos L (t / 4) hd, getElem!_pos (enFI L[t / 4]) (t % 4) (by rw [enFI_len]; exact hm)]
  have hcmp : CmpLays Try.prog 62 #[] enFI 4 (fun x y : En Int => cmp3 x.r y.r) b 0 L.toArray.size w := by
    intro m os dk _ x y
    refine (cmp_isI _ x y).mono ?_
    rintro e w' ⟨rfl, rfl⟩
    exact ⟨rfl, 0, #[.cells (enFI x).toArray 100, .cells (enFI y).toArray 100], by rw [alloc_eq_grow, alloc_eq_grow, grow_grow]; rfl⟩
  have hS := AnyQ.slices_SortFunc srtI 4 aEI zEI enFI enFI_len enFI_one (fun x y : En Int => cmp3 x.r y.r) cmp3_swo 62 #[] b 0 c L.toArray w eg hcmp hH hb (by simp; omega)
  rw [List.size_toArray] at hS
  refine hS.mono ?_
  rintro e w' ⟨rfl, d', n, os, ⟨hp1, -, hp2⟩, hs, rfl⟩
  have hsz : d'.size = L.length := by rw [hp1, List.size_toArray]
  rw [← hsz, Array.extract_size] at hp2
  have hp3 : (L.toArray.extract 0 d'.size).toList = L := by rw [hsz, ← List.size_toArray, Array.extract_size]
  rw [hp3] at hp2
  refine ⟨rfl, d'.toList, hp2, fun i j hi hj hij => ?_, ⟨?_, ?_⟩, sort_ch _ _ _ _ _ _ _⟩
  · rw [Array.length_toList] at hi hj
    have := hs i j (Nat.zero_le _) hij (by omega)
    rw [getElem!_pos d' i hi, getElem!_pos d' j hj, ltOf, decide_eq_false_iff_not] at this
    rw [Array.getElem_toList, Array.getElem_toList]
    unfold cmp3 at this
    by_cases h1 : d'[j].r < d'[i].r
    · rw [if_pos h1] at this
      omega
    · omega
  · exact sort_blk _ _ _ _ _ _ _ hcur
  · intro i hi j u hu
    rw [Array.length_toList] at hi
    rw [Array.getElem_toList] at hu
    have hj : j < 4 := by rw [← enFI_len d'[i]]; exact (List.getElem?_eq_some_iff.1 hu).1
    have hH' := holdsK_sortWorldK_c enFI 4 w b 0 L.toArray d' n os hH hb (by rw [hsz, List.size_toArray])
    have ht : i * 4 + j < d'.size * 4 := by
      have : (i + 1) * 4 ≤ d'.size * 4 := Nat.mul_le_mul_right _ hi
      omega
    have key := (hH' (i * 4 + j) (by rw [size_flatK]; exact ht)).1
    rw [get_flatK enFI 4 d' _ ht, show (i * 4 + j) / 4 = i by omega, show (i * 4 + j) % 4 = j by omega, Nat.zero_add, getElem!_pos d' i hi] at key
    rw [key]
    obtain ⟨h1, h2⟩ := List.getElem?_eq_some_iff.1 hu
    rw [getElem!_pos (enFI d'[i]) j h1, h2]
    rfl

end Go.Proofs.Ytcogiklnegpfiaa
