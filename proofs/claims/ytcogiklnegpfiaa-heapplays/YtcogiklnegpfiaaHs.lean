/- Layer 13: handles sorted by their slots. -/
import Derived.Test.YtcogiklnegpfiaaHj
import Derived.Test.YtcogiklnegpfiaaHz
import Derived.Test.YtcogiklnegpfiaaSoH
namespace Go.Proofs.Ytcogiklnegpfiaa
open Go.RowKit Go.Shelf Go.Sort

/-- as slots are compared -/
def cmpi (a b : Int) : Int := if a < b then -1 else if b < a then 1 else 0
theorem nanU_is (w : World) (a : Int) : Calls Try.prog 57 #[.int .u32 a] w fun e w' => e = .returned (.bool false) ∧ w' = w := by
  have q : (a == a) = true := by simp
  go_enter Try.func57, Try.ntmps57
  go_wp2
  go_ret
  exact ⟨ret_bool (by simp), rfl⟩
theorem compareU_is (w : World) (a b : Int) : Calls Try.prog 41 #[.int .u32 a, .int .u32 b] w fun e w' => e = .returned (.int .i64 (cmpi a b)) ∧ w' = w := by
  by_cases h1 : a < b
  · have q1 : decide (a < b) = true := decide_eq_true (by omega)
    have e : cmpi a b = -1 := by unfold cmpi; rw [if_pos h1]
    rw [e]
    go_enter Try.func41, Try.ntmps41
    go_wp2_with (go_at_call 57; refine (nanU_is _ _).mono ?_; rintro e w ⟨rfl, rfl⟩)
    go_ret
    exact ⟨rfl, rfl⟩
  · have q1 : decide (a < b) = false := decide_eq_false (by omega)
    by_cases h2 : b < a
    · have q2 : decide (b < a) = true := decide_eq_true (by omega)
      have e : cmpi a b = 1 := by unfold cmpi; rw [if_neg h1, if_pos h2]
      rw [e]
      go_enter Try.func41, Try.ntmps41
      go_wp2_with (go_at_call 57; refine (nanU_is _ _).mono ?_; rintro e w ⟨rfl, rfl⟩)
      go_ret
      exact ⟨rfl, rfl⟩
    · have q2 : decide (b < a) = false := decide_eq_false (by omega)
      have e : cmpi a b = 0 := by unfold cmpi; rw [if_neg h1, if_neg h2]
      rw [e]
      go_enter Try.func41, Try.ntmps41
      go_wp2_with (go_at_call 57; refine (nanU_is _ _).mono ?_; rintro e w ⟨rfl, rfl⟩)
      go_ret
      exact ⟨rfl, rfl⟩

theorem cmpH_is (w : World) (a b : Int × Int) : Calls Try.prog 40 #[.agg (hF a).toArray, .agg (hF b).toArray] w fun e w' => e = .returned (.int .i64 (cmpi a.1 b.1)) ∧ w' = (w.alloc (.cells (hF a).toArray 43)).alloc (.cells (hF b).toArray 43) := by
  unfold hF
  go_enter Try.func40, Try.ntmps40
  go_wp2_with (go_at_call 41; refine (compareU_is _ a.1 b.1).mono ?_; rintro e w' ⟨rfl, rfl⟩)
  go_ret
  exact ⟨rfl, rfl⟩

theorem cmpi_neg (a b : Int) : (cmpi a b < 0) = (a < b) := by
  unfold cmpi
  by_cases h1 : a < b
  · simp [h1]
  · by_cases h2 : b < a <;> simp [h1, h2]
theorem cmpi_swo : SWO (ltOf fun x y : Int × Int => cmpi x.1 y.1) := by
  refine ⟨fun x => ?_, fun x y z h1 h2 => ?_, fun x y z h1 h2 => ?_⟩
  · simp only [ltOf, cmpi_neg, decide_eq_false_iff_not]
    omega
  · simp only [ltOf, cmpi_neg, decide_eq_true_eq] at *
    omega
  · simp only [ltOf, cmpi_neg, decide_eq_false_iff_not] at *
    omega
theorem aEH (w : World) : (isAgg (srtH_ren.t 24)).run Try.prog w = .ok true w := Try.isAgg43 w
theorem zEH (w : World) : (Go.sizeOf (srtH_ren.t 24)).run Try.prog w = .ok 2 w := Try.sizeOf43 w

theorem sort_blk2 {α : Type} [Inhabited α] (enc : α → List Value) (k : Nat) (w : World) (b : Nat) (n : Nat) (d : Array α) (os : Array Obj) {cur : Array Value} {T : TypeId} {r : Nat × Nat} (hb : w.heap[b]? = some (.cells cur T r)) : ∃ cur', (sortWorldK enc k w b 0 n d os).heap[b]? = some (.cells cur' T r) ∧ cur'.size = cur.size := by
  have hlt := (Array.getElem?_eq_some_iff.1 hb).1
  unfold sortWorldK
  rw [heap_grow_old _ _ (by simp [putRowK]; exact hlt)]
  simp only [putRowK, putRow, mapBlock, Array.getElem?_modify, heap_ahead, hb, if_true, Option.map_some, onCells]
  exact ⟨_, rfl, by simp [putCells]⟩
theorem row_of_cells {w : World} {B b n c : Nat} {d : List (Int × Int)} {cur : Array Value} (hn : d.length = n) (hB : B ≤ b) (hb : w.heap[b]? = some (.cells cur 43 (0, 0))) (hc : n ≤ c) (hm : c ≤ maxLen) (hs : cur.size = c * 2)
    (hcell : ∀ i (hi : i < d.length) j u, (hF d[i])[j]? = some u → w.cell? ⟨b, i * 2 + j, none⟩ = some u) : Row hF 2 43 w B (.slice (some ⟨b, 0, none⟩) n c) d := by
  subst hn
  have hfl := flat_len hF 2 hF_len d
  refine ⟨hfl, .inr ⟨b, c, cur, rfl, hB, hb, hc, hm, hs, ?_⟩⟩
  apply List.ext_getElem
  · have hcl : cur.toList.length = c * 2 := by rw [← hs]; exact Array.length_toList
    rw [List.length_take, hcl, hfl]
    omega
  · intro t h1 h2
    rw [hfl] at h2
    have hd : t / 2 < d.length := (Nat.div_lt_iff_lt_mul (by decide)).2 h2
    have hmod : t % 2 < 2 := Nat.mod_lt _ (by decide)
    have e : t / 2 * 2 + t % 2 = t := by omega
    have key := flat_get hF 2 hF_len d (t / 2) (t % 2) hd hmod
    rw [e] at key
    have hu : (hF d[t / 2])[t % 2]? = some ((hF d[t / 2])[t % 2]'(by rw [hF_len]; exact hmod)) := List.getElem?_eq_getElem _
    have kc := hcell (t / 2) hd (t % 2) _ hu
    rw [e, Lib.cell_of_heap hb] at kc
    apply Option.some.inj
    rw [← List.getElem?_eq_getElem, ← List.getElem?_eq_getElem, key, hu, ← kc, List.getElem?_take_of_lt (by omega)]
    simp

set_option maxRecDepth 100000 in
theorem sortH_is {w : World} {B b c : Nat} {L : List (Int × Int)} (h : Row hF 2 43 w B (.slice (some ⟨b, 0, none⟩) L.length c) L) (hn : L.length ≤ 500) :
    Calls Try.prog 39 #[.slice (some ⟨b, 0, none⟩) L.length c, .func (.func 40) #[] #[]] w fun e w' => e = .returned (.tuple #[]) ∧ ∃ d : List (Int × Int), d.Perm L ∧ (∀ i j (hi : i < d.length) (hj : j < d.length), i < j → d[i].1 ≤ d[j].1) ∧ Row hF 2 43 w' B (.slice (some ⟨b, 0, none⟩) L.length c) d ∧ Ch (fun y => y = b) w w' := by
  obtain ⟨hB, hb, -⟩ := own_in h (g := b) rfl
  obtain ⟨cur, hcur, hcc, hcm, hcs⟩ : ∃ cur, w.heap[b]? = some (.cells cur 43 (0, 0)) ∧ L.length ≤ c ∧ c ≤ maxLen ∧ cur.size = c * 2 := by
    obtain ⟨-, ⟨e, -⟩ | ⟨g', c', cur, e, _, h3, h4, h5, h6, -⟩⟩ := h
    · cases e
    · cases e
      exact ⟨cur, h3, h4, h5, h6⟩
  have eg : ∀ args w, (callFunc 40 args).run Try.prog w = .ok (.enter 40 args) w := enters_of Try.func40 (by kernel_rfl) rfl
  have hH : HoldsK hF 2 w b 0 L.toArray := by
    intro t ht
    rw [size_flatK, List.size_toArray] at ht
    have hd : t / 2 < L.length := (Nat.div_lt_iff_lt_mul (by decide)).2 ht
    have hm : t % 2 < 2 := Nat.mod_lt _ (by decide)
    obtain ⟨b', c', cur', e1, _, _, _, e2, _, hc⟩ := h.at hF_len (by omega)
    cases e1
    have e : t = t / 2 * 2 + t % 2 := by omega
    have hu : (hF L[t / 2])[t % 2]? = some ((hF L[t / 2])[t % 2]'(by rw [hF_len]; exact hm)) := List.getElem?_eq_getElem _
    have key := hc (t / 2) hd (t % 2) _ hu
    rw [← e] at key
    refine ⟨?_, by simp [World.frozen?, hcur]⟩
    rw [get_flatK hF 2 L.toArray t (by simpa using ht), Nat.zero_add, key]
    simp only [id, List.getElem!_toArray]
    rw [getElem!_pos L (t / 2) hd, getElem!_pos (hF L[t / 2]) (t % 2) (by rw [hF_len]; exact hm)]
  have hcmp : CmpLays Try.prog 40 #[] hF 2 (fun x y : Int × Int => cmpi x.1 y.1) b 0 L.toArray.size w := by
    intro m os dk _ x y
    refine (cmpH_is _ x y).mono ?_
    rintro e w' ⟨rfl, rfl⟩
    exact ⟨rfl, 0, #[.cells (hF x).toArray 43, .cells (hF y).toArray 43], by rw [alloc_eq_grow, alloc_eq_grow, grow_grow]; rfl⟩
  have hS := AnyQ.slices_SortFunc srtH 2 aEH zEH hF hF_len hF_one (fun x y : Int × Int => cmpi x.1 y.1) cmpi_swo 40 #[] b 0 c L.toArray w eg hcmp hH hb (by simp; omega)
  rw [List.size_toArray] at hS
  refine hS.mono ?_
  rintro e w' ⟨rfl, d', n, os, ⟨hp1, -, hp2⟩, hs, rfl⟩
  have hsz : d'.size = L.length := by rw [hp1, List.size_toArray]
  rw [← hsz, Array.extract_size] at hp2
  have hp3 : (L.toArray.extract 0 d'.size).toList = L := by rw [hsz, ← List.size_toArray, Array.extract_size]
  rw [hp3] at hp2
  obtain ⟨cur', hcur', hss'⟩ := sort_blk2 hF 2 w b n d' os hcur
  refine ⟨rfl, d'.toList, hp2, fun i j hi hj hij => ?_, row_of_cells (by rw [Array.length_toList, hsz]) hB hcur' hcc hcm (by rw [hss', hcs]) ?_, sort_ch _ _ _ _ _ _ _⟩
  · rw [Array.length_toList] at hi hj
    have := hs i j (Nat.zero_le _) hij (by omega)
    rw [getElem!_pos d' i hi, getElem!_pos d' j hj, ltOf, decide_eq_false_iff_not] at this
    rw [Array.getElem_toList, Array.getElem_toList]
    unfold cmpi at this
    by_cases h1 : d'[j].1 < d'[i].1
    · rw [if_pos h1] at this
      omega
    · omega
  · intro i hi j u hu
    rw [Array.length_toList] at hi
    rw [Array.getElem_toList] at hu
    have hj : j < 2 := by rw [← hF_len d'[i]]; exact (List.getElem?_eq_some_iff.1 hu).1
    have hH' := holdsK_sortWorldK_c hF 2 w b 0 L.toArray d' n os hH hb (by rw [hsz, List.size_toArray])
    have ht : i * 2 + j < d'.size * 2 := by
      have : (i + 1) * 2 ≤ d'.size * 2 := Nat.mul_le_mul_right _ hi
      omega
    have key := (hH' (i * 2 + j) (by rw [size_flatK]; exact ht)).1
    rw [get_flatK hF 2 d' _ ht, show (i * 2 + j) / 2 = i by omega, show (i * 2 + j) % 2 = j by omega, Nat.zero_add, getElem!_pos d' i hi] at key
    rw [key]
    obtain ⟨h1, h2⟩ := List.getElem?_eq_some_iff.1 hu
    rw [getElem!_pos (hF d'[i]) j h1, h2]
    rfl

end Go.Proofs.Ytcogiklnegpfiaa
