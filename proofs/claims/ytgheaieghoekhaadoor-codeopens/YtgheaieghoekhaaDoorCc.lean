/- Effect: the program's. -/
import Derived.Test.YtgheaieghoekhaaDoorCb
namespace Go.Proofs.YtgheaieghoekhaaDoor
open Go.RowKit

theorem nmd_f {p : Pg} {i : In} (h : tA i.op.toNat = 4) : nmd p i = wthn i.a p.fs.length := by unfold nmd; rw [if_pos h]
theorem nmd_a {p : Pg} {i : In} (h : tA i.op.toNat = 5) : nmd p i = wthn i.a p.ar.length := by unfold nmd; rw [if_neg (by omega), if_pos h]
theorem nmd_p {p : Pg} {i : In} (h : tA i.op.toNat = 6) : nmd p i = wthn i.a p.ps.length := by unfold nmd; rw [if_neg (by omega), if_neg (by omega), if_pos h]
theorem nmd_o {p : Pg} {i : In} (h : tA i.op.toNat < 4) : nmd p i = true := by unfold nmd; rw [if_neg (by omega), if_neg (by omega), if_neg (by omega)]

theorem tA_le {k : Nat} (h : k < 44) : tA k ≤ 6 := by
  have : ∀ k : Fin 44, tA k.1 ≤ 6 := by decide
  exact this ⟨k, h⟩

theorem below2 (w : World) (o o' : Obj) : Below w.heap.size w ((w.alloc o).alloc o') := ((Below.refl _ _).alloc (Nat.le_refl _) _).alloc (by simp) _

set_option maxHeartbeats 1000000 in
theorem named_any {N : Nat} {w : World} {v1 v2 v3 : Value} {p : Pg} (h : Gd N w v1 v2 v3 p) (i : In) {k : Nat} (hk : k < 44) (ek : i.op = (k : Int)) :
    Calls Tryd.prog 17 #[pv v1 v2 v3 p.mn, iv i] w fun e w' => e = .returned (.bool (nmd p i)) ∧ Below w.heap.size w w' := by
  have hg : 0 < w.heap.size := Nat.lt_of_lt_of_le h.g h.le
  obtain ⟨t1, _, _, _⟩ := h.t k hk
  have et : i.op.toNat = k := by omega
  have hle := tA_le hk
  obtain ⟨b1, o1, ⟨a1, c1, rfl, -, hm1, -⟩, -⟩ := h.hf
  obtain ⟨b2, o2, ⟨a2, c2, rfl, -, hm2, -⟩, -⟩ := h.hp
  obtain ⟨b3, o3, ⟨a3, c3, rfl, -, hm3, -⟩, -⟩ := h.ha
  by_cases c4 : tA k = 4
  · have E := hide (nmd_f (p := p) (i := i) (by rw [et]; exact c4))
    rw [c4] at t1
    clear h c4 hle
    go_enter Tryd.func17, Tryd.ntmps17
    go_wp2_with (go_at_call 34; refine (within_any _ _ _).mono ?_; rintro e w' ⟨rfl, rfl⟩)
    go_ret
    exact ⟨ret_bool (unhide E).symm, below2 _ _ _⟩
  by_cases c5 : tA k = 5
  · have E := hide (nmd_a (p := p) (i := i) (by rw [et]; exact c5))
    rw [c5] at t1
    clear h c4 c5 hle
    go_enter Tryd.func17, Tryd.ntmps17
    go_wp2_with (go_at_call 34; refine (within_any _ _ _).mono ?_; rintro e w' ⟨rfl, rfl⟩)
    go_ret
    exact ⟨ret_bool (unhide E).symm, below2 _ _ _⟩
  by_cases c6 : tA k = 6
  · have E := hide (nmd_p (p := p) (i := i) (by rw [et]; exact c6))
    rw [c6] at t1
    clear h c4 c5 c6 hle
    go_enter Tryd.func17, Tryd.ntmps17
    go_wp2_with (go_at_call 34; refine (within_any _ _ _).mono ?_; rintro e w' ⟨rfl, rfl⟩)
    go_ret
    exact ⟨ret_bool (unhide E).symm, below2 _ _ _⟩
  have E := hide (nmd_o (p := p) (i := i) (by rw [et]; omega))
  have q4 : ((tA k : Int) == 4) = false := by simp; omega
  have q5 : ((tA k : Int) == 5) = false := by simp; omega
  have q6 : ((tA k : Int) == 6) = false := by simp; omega
  clear h c4 c5 c6
  go_enter Tryd.func17, Tryd.ntmps17
  go_wp2
  go_ret
  exact ⟨ret_bool (unhide E).symm, below2 _ _ _⟩

theorem eff_no {p : Pg} {i : In} (h : knw i.op = false) : eff p i = (0, 0) := by
  unfold knw at h
  simp only [Bool.and_eq_false_iff, decide_eq_false_iff_not] at h
  unfold eff
  rw [if_neg (by omega), if_neg (by omega), if_neg (by omega), if_neg (by omega), if_neg]
  unfold knw
  simp only [Bool.and_eq_true, decide_eq_true_eq]
  omega

theorem pick_no {α : Type} {l : List α} {a : Int} (h : wthn a l.length = false) : pick_ l a = none := by
  unfold wthn at h
  simp only [Bool.and_eq_false_iff, decide_eq_false_iff_not] at h
  unfold pick_
  split
  · rw [List.getElem?_eq_none]; omega
  · rfl
theorem pick_yes {α : Type} {l : List α} {j : Nat} (h : j < l.length) : pick_ l (j : Int) = some l[j] := by
  unfold pick_
  rw [if_pos (by omega)]
  simp [h]
theorem wthn_yes {a : Int} {n : Nat} (h : wthn a n = true) : ∃ j : Nat, a = (j : Int) ∧ j < n := by
  unfold wthn at h
  simp only [Bool.and_eq_true, decide_eq_true_eq] at h
  exact ⟨a.toNat, by omega, by omega⟩

theorem eff_unnamed {p : Pg} {i : In} (h : nmd p i = false) : eff p i = (0, 0) := by
  unfold nmd at h
  unfold eff
  by_cases c1 : i.op = 24
  · rw [if_pos c1]
    rw [c1, if_pos (by decide)] at h
    rw [pick_no h]
  rw [if_neg c1]
  by_cases c2 : i.op = 25
  · rw [if_pos c2]
    rw [c2, if_pos (by decide)] at h
    rw [pick_no h]
  rw [if_neg c2]
  by_cases c3 : i.op = 41
  · rw [if_pos c3]
    rw [c3, if_neg (by decide), if_pos (by decide)] at h
    rw [pick_no h]
  rw [if_neg c3]
  by_cases c4 : i.op = 43
  · rw [if_pos c4]
    rw [c4, if_neg (by decide), if_neg (by decide), if_pos (by decide)] at h
    rw [pick_no h]
  rw [if_neg c4]
  by_cases c5 : i.op.toNat < 44
  · have := tA_other c5 (by omega) (by omega) (by omega) (by omega)
    rw [if_neg (by omega), if_neg (by omega), if_neg (by omega)] at h
    cases h
  · rw [if_neg]
    unfold knw
    simp only [Bool.and_eq_true, decide_eq_true_eq]
    omega

theorem ret_pair {a b x y : Int} (h : (a, b) = (x, y)) : Ending.returned (.tuple #[.int .i64 x, .int .i64 y]) = .returned (.tuple #[.int .i64 a, .int .i64 b]) := by cases h; rfl

abbrev effV (p : Pg) (i : In) : Value := .tuple #[.int .i64 (eff p i).1, .int .i64 (eff p i).2]

set_option maxHeartbeats 1000000 in
theorem effect_unknown {w : World} {v1 v2 v3 : Value} {p : Pg} (i : In) (hk : knw i.op = false) :
    Calls Tryd.prog 7 #[pv v1 v2 v3 p.mn, iv i] w fun e w' => e = .returned (effV p i) ∧ Below w.heap.size w w' := by
  have E := hide (eff_no (p := p) hk)
  go_enter Tryd.func7, Tryd.ntmps7
  go_wp2_with (go_at_call 16; refine (known_any _ _).mono ?_; rw [hk]; rintro e w' ⟨rfl, rfl⟩)
  go_ret2
  exact ⟨ret_pair (unhide E), below2 _ _ _⟩

set_option maxHeartbeats 1000000 in
theorem effect_unnamed {N : Nat} {w : World} {v1 v2 v3 : Value} {p : Pg} (h : Gd N w v1 v2 v3 p) (i : In) (hk : knw i.op = true) (hn : nmd p i = false) :
    Calls Tryd.prog 7 #[pv v1 v2 v3 p.mn, iv i] w fun e w' => e = .returned (effV p i) ∧ Below w.heap.size w w' := by
  have E := hide (eff_unnamed hn)
  have K : ∃ k : Nat, k < 44 ∧ i.op = (k : Int) := by
    unfold knw at hk
    simp only [Bool.and_eq_true, decide_eq_true_eq] at hk
    exact ⟨i.op.toNat, by omega, by omega⟩
  obtain ⟨k, hk44, ek⟩ := K
  have HE := hide ek
  have HG := hide h
  clear h ek
  go_enter Tryd.func7, Tryd.ntmps7
  go_wp2_with (first
    | (go_at_call 16; refine (known_any _ _).mono ?_; rw [hk]; rintro e w' ⟨rfl, rfl⟩)
    | (go_at_call 17; refine (named_any (((unhide HG).alloc _).alloc _) i hk44 (unhide HE)).mono ?_; rw [hn]; rintro e w' ⟨rfl, hB⟩; have HB := hide hB; clear hB))
  go_ret2
  exact ⟨ret_pair (unhide E), (below2 _ _ _).trans ((unhide HB).mono (by simp; omega))⟩

end Go.Proofs.YtgheaieghoekhaaDoor
