/- Depths of a function's instructions. -/
import Derived.Test.YtgheaieghoekhaaDoorCh
import Derived.Deep.OwnRows
namespace Go.Proofs.YtgheaieghoekhaaDoor
open Go.RowKit

theorem getD_at (d : List Int) {k : Nat} (h : k < d.length) : d.getD k 0 = d[k] := by rw [List.getD_eq_getElem?_getD, List.getElem?_eq_getElem h]; rfl

theorem pass_any {N : Nat} {w : World} {v1 v2 v3 : Value} {p : Pg} (h : Gd N w v1 v2 v3 p) {D : Nat} {d : List Int} (hR : RowI w D d) (hN : N ≤ D) (at_ : Nat) (hat : at_ < d.length) (hs : d.length ≤ 8388608)
    (h0 : 0 ≤ d[at_]) (h1 : d[at_] ≤ 1000) (c : Nat) (i : In) (hk : knw i.op = true) (hj : tA i.op.toNat = 3 → ∃ j : Nat, i.a = (j : Int) ∧ j < d.length) :
    Calls Tryd.prog 63 #[pv v1 v2 v3 p.mn, .slice (some ⟨D, 0, none⟩) d.length c, .int .i64 (at_ : Int), iv i] w fun e w' => PassPost w D (passS p d at_ i) e w' := by
  obtain ⟨op, a, b, l⟩ := i
  unfold knw at hk
  simp only [Bool.and_eq_true, decide_eq_true_eq] at hk
  obtain ⟨k, rfl⟩ : ∃ k : Nat, op = (k : Int) := ⟨op.toNat, by omega⟩
  have hk4 : k < 44 := by omega
  simp only [Int.toNat_natCast] at hj
  obtain ⟨tk, gv, he⟩ : ∃ tk gv, eff p ⟨(k : Int), a, b, l⟩ = (tk, gv) := ⟨_, _, rfl⟩
  have ep : passS p d at_ ⟨(k : Int), a, b, l⟩ = if d[at_] < tk ∨ tk < d[at_] + gv - 1000 then (84, d) else if (stp1 d k at_ (d[at_] - tk + gv)).1 = 0 then stp2 (stp1 d k at_ (d[at_] - tk + gv)).2 k at_ a.toNat (d[at_] - tk + gv) else stp1 d k at_ (d[at_] - tk + gv) := by
    unfold passS
    rw [he, getD_at d hat]
    simp only [Int.toNat_natCast]
  rw [ep]
  by_cases ho : d[at_] < tk ∨ tk < d[at_] + gv - 1000
  · rw [if_pos ho]
    exact pass_over h hR at_ hat c a b l tk gv he h0 h1 ho
  rw [if_neg ho]
  cases hS : tS k
  · by_cases hend : at_ + 1 = d.length
    · have e1 : stp1 d k at_ (d[at_] - tk + gv) = (83, d) := by unfold stp1; rw [hS, if_neg (by simp), if_pos hend]
      rw [e1, if_neg (by simp)]
      exact pass_end h hR at_ hat c a b l hk4 tk gv he hs h0 h1 (by omega) (by omega) hS hend
    have hlt : at_ + 1 < d.length := by omega
    cases hl : layB d at_ (at_ + 1) (d[at_] - tk + gv)
    · have e1 : stp1 d k at_ (d[at_] - tk + gv) = (84, layL d at_ (at_ + 1) (d[at_] - tk + gv)) := by unfold stp1; rw [hS, if_neg (by simp), if_neg hend, hl]; rfl
      rw [e1, if_neg (by simp)]
      exact pass_stack1 h hR at_ hat c a b l hk4 tk gv he hs h0 h1 (by omega) (by omega) hS hlt hl
    have e1 : stp1 d k at_ (d[at_] - tk + gv) = (0, layL d at_ (at_ + 1) (d[at_] - tk + gv)) := by unfold stp1; rw [hS, if_neg (by simp), if_neg hend, hl]; rfl
    rw [e1, if_pos (by simp)]
    unfold stp2
    by_cases hA : tA k = 3
    · rw [if_pos hA]
      obtain ⟨j, ea, hjl⟩ := hj hA
      have ej : a.toNat = j := by omega
      rw [ej]
      have hn5 := lay_len d at_ (at_ + 1) (d[at_] - tk + gv)
      cases hl2 : layB (layL d at_ (at_ + 1) (d[at_] - tk + gv)) at_ j (d[at_] - tk + gv)
      · exact pass_both84 h hR at_ hat c a b l hk4 tk gv he hs h0 h1 (by omega) (by omega) hS hN hlt hl _ rfl hn5.symm hA j ea (by omega) hl2
      · exact pass_both0 h hR at_ hat c a b l hk4 tk gv he hs h0 h1 (by omega) (by omega) hS hN hlt hl _ rfl hn5.symm hA j ea (by omega) hl2
    · rw [if_neg hA]
      exact pass_next h hR at_ hat c a b l hk4 tk gv he hs h0 h1 (by omega) (by omega) hS hN hlt hl hA
  · have e1 : stp1 d k at_ (d[at_] - tk + gv) = (0, d) := by unfold stp1; rw [hS]; rfl
    rw [e1, if_pos (by simp)]
    unfold stp2
    by_cases hA : tA k = 3
    · rw [if_pos hA]
      obtain ⟨j, ea, hjl⟩ := hj hA
      have ej : a.toNat = j := by omega
      rw [ej]
      cases hl2 : layB d at_ j (d[at_] - tk + gv)
      · exact pass_jump84 h hR at_ hat c a b l hk4 tk gv he h0 h1 (by omega) (by omega) hS hA j ea hjl hl2
      · exact pass_jump0 h hR at_ hat c a b l hk4 tk gv he h0 h1 (by omega) (by omega) hS hA j ea hjl hl2
    · rw [if_neg hA]
      exact pass_stop h hR at_ hat c a b l hk4 tk gv he h0 h1 (by omega) (by omega) hS hA

/-- depths of instructions, one by one -/
def dps (p : Pg) : List In → Nat → List Int → Int × Int × List Int
  | [], _, d => (0, -1, d)
  | i :: r, at_, d => if d.getD at_ 0 = -1 then dps p r (at_ + 1) d else if (passS p d at_ i).1 = 0 then dps p r (at_ + 1) (passS p d at_ i).2 else ((passS p d at_ i).1, at_, [])

def dp0 (n : Nat) : List Int := 0 :: List.replicate (n - 1) (-1)

/-- depths are -1, or 0 to 1000 -/
def InB (d : List Int) : Prop := ∀ x ∈ d, x = -1 ∨ (0 ≤ x ∧ x ≤ 1000)

theorem InB.at {d : List Int} (h : InB d) {k : Nat} (hk : k < d.length) : d[k] = -1 ∨ (0 ≤ d[k] ∧ d[k] ≤ 1000) := h _ (List.getElem_mem hk)

theorem InB.lay {d : List Int} (h : InB d) (fr to : Nat) {x : Int} (h0 : 0 ≤ x) (h1 : x ≤ 1000) : InB (layL d fr to x) := by
  unfold layL
  split
  · intro y hy
    rcases List.mem_or_eq_of_mem_set hy with hy | rfl
    · exact h y hy
    · exact Or.inr ⟨h0, h1⟩
  · exact h

theorem pass_len (p : Pg) (d : List Int) (at_ : Nat) (i : In) : (passS p d at_ i).2.length = d.length := by
  unfold passS stp2 stp1
  repeat' split
  all_goals simp [lay_len]

theorem pass_inb {p : Pg} {d : List Int} {at_ : Nat} {i : In} (h : InB d) : InB (passS p d at_ i).2 := by
  unfold passS
  split
  · exact h
  rename_i hb
  have g := (eff_gv p i).1
  have h0 : 0 ≤ d.getD at_ 0 - (eff p i).1 + (eff p i).2 := by omega
  have h1 : d.getD at_ 0 - (eff p i).1 + (eff p i).2 ≤ 1000 := by omega
  generalize d.getD at_ 0 - (eff p i).1 + (eff p i).2 = x at *
  have k1 : InB (stp1 d i.op.toNat at_ x).2 := by
    unfold stp1
    repeat' split
    all_goals first | exact h | exact h.lay _ _ h0 h1
  split
  · unfold stp2
    repeat' split
    all_goals first | exact k1 | exact k1.lay _ _ h0 h1
  · exact k1

theorem dp0_inb (n : Nat) : InB (dp0 n) := by
  intro x hx
  unfold dp0 at hx
  rcases List.mem_cons.1 hx with rfl | hx
  · exact Or.inr ⟨by omega, by omega⟩
  · exact Or.inl (List.eq_of_mem_replicate hx)

theorem dps_drop (p : Pg) (cd : List In) (k : Nat) (d : List Int) (h : k < cd.length) :
    dps p (cd.drop k) k d = if d.getD k 0 = -1 then dps p (cd.drop (k + 1)) (k + 1) d else if (passS p d k cd[k]).1 = 0 then dps p (cd.drop (k + 1)) (k + 1) (passS p d k cd[k]).2 else ((passS p d k cd[k]).1, (k : Int), []) := by
  rw [List.drop_eq_getElem_cons h]
  rfl

theorem infoI : (Tryd.prog.info? 3).map (fun i => (i.zero, i.size, i.bytes)) = some (some (.int .i64 0), 1, 8) := by kernel_rfl

theorem rowI_made (w : World) (n : Nat) : RowI (w.alloc (.cells (madeCells #[.int .i64 0] n) 3)) w.heap.size (List.replicate n 0) := by
  unfold RowI
  rw [(MapKept.heap_alloc w _).1]
  congr 2
  apply Array.ext
  · simp [size_madeCells]
  · intro i h1 h2
    simp [madeCells, Nat.mod_one]

end Go.Proofs.YtgheaieghoekhaaDoor
