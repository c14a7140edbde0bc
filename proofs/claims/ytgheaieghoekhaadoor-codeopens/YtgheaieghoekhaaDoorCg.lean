/- An instruction's numbers; jumps; the depth laid down. -/
import Derived.Test.YtgheaieghoekhaaDoorCf
namespace Go.Proofs.YtgheaieghoekhaaDoor
open Go.RowKit

theorem within_int (a c : Int) (w : World) : Calls Tryd.prog 34 #[.int .i64 a, .int .i64 c] w fun e w' => e = .returned (.bool (decide (0 ≤ a) && decide (a < c))) ∧ w' = w := by
  by_cases h : 0 ≤ a
  · have e : (decide (0 ≤ a) && decide (a < c)) = decide (a < c) := by simp [h]
    rw [e]; clear e
    go_enter Tryd.func34, Tryd.ntmps34
    go_wp2
    go_ret
    exact ⟨rfl, rfl⟩
  · have e : (decide (0 ≤ a) && decide (a < c)) = false := by simp [h]
    have h' : decide (0 ≤ a) = false := by simpa using h
    rw [e]; clear e
    go_enter Tryd.func34, Tryd.ntmps34
    go_wp2
    go_ret
    exact ⟨rfl, rfl⟩

set_option maxHeartbeats 2000000 in
theorem rnum_any {N : Nat} {w : World} {v1 v2 v3 : Value} {p : Pg} (h : Gd N w v1 v2 v3 p) (f : Fu) (v : Value) (a b l : Int) {k : Nat} (hk : k < 44) :
    Calls Tryd.prog 60 #[pv v1 v2 v3 p.mn, fv f v, iv ⟨(k : Int), a, b, l⟩] w fun e w' => e = .returned (.bool (rNum p f ⟨(k : Int), a, b, l⟩)) ∧ Below w.heap.size w w' := by
  by_cases c1 : l < 0
  · have E := hide (show rNum p f ⟨(k : Int), a, b, l⟩ = false by simp [rNum]; intro h; omega)
    clear h
    go_enter Tryd.func60, Tryd.ntmps60
    go_wp2
    go_ret
    exact ⟨ret_bool (unhide E).symm, below3 _ _ _ _⟩
  have q1 : decide (l < 0) = false := by simpa using c1
  by_cases c2 : 2147483647 < l
  · have E := hide (show rNum p f ⟨(k : Int), a, b, l⟩ = false by simp [rNum]; intro h h'; omega)
    clear h
    go_enter Tryd.func60, Tryd.ntmps60
    go_wp2
    go_ret
    exact ⟨ret_bool (unhide E).symm, below3 _ _ _ _⟩
  have q2 : decide (2147483647 < l) = false := by simpa using c2
  have E0 : rNum p f ⟨(k : Int), a, b, l⟩ = (rNumB ⟨(k : Int), a, b, l⟩ && rNumA p f ⟨(k : Int), a, b, l⟩) := by
    unfold rNum
    rw [decide_eq_true (show (0 : Int) ≤ l by omega), decide_eq_true (show l ≤ 2147483647 by omega)]
    simp
  -- B is not as it may be
  cases hb : rNumB ⟨(k : Int), a, b, l⟩
  · have E := hide (show rNum p f ⟨(k : Int), a, b, l⟩ = false by rw [E0, hb]; rfl)
    have hb' : b ≠ 0 ∧ (b ≠ 1 ∨ (k : Int) ≠ 41) := by
      simp only [rNumB, Bool.or_eq_false_iff, Bool.and_eq_false_iff, decide_eq_false_iff_not] at hb
      exact hb
    have r0 : (b != 0) = true := by simpa using hb'.1
    clear E0 hb h c1 c2
    by_cases c3 : b = 1
    · have c4 : (k : Int) ≠ 41 := by omega
      subst c3
      have r2 : ((k : Int) != 41) = true := by simpa using c4
      clear hb' c4
      go_enter Tryd.func60, Tryd.ntmps60
      go_wp2
      go_ret
      exact ⟨ret_bool (unhide E).symm, below3 _ _ _ _⟩
    · have r1 : (b != 1) = true := by simpa using c3
      clear hb' c3
      go_enter Tryd.func60, Tryd.ntmps60
      go_wp2
      go_ret
      exact ⟨ret_bool (unhide E).symm, below3 _ _ _ _⟩
  rw [hb, Bool.true_and] at E0
  have HE := hide E0
  have hb' : b = 0 ∨ (b = 1 ∧ (k : Int) = 41) := by
    simp only [rNumB, Bool.or_eq_true, Bool.and_eq_true, decide_eq_true_eq] at hb
    exact hb
  have hg : 0 < w.heap.size := Nat.lt_of_lt_of_le h.g h.le
  obtain ⟨t1, -, -, -⟩ := h.t k hk
  have HG := hide h
  clear E0 hb c1 c2 h
  rcases hb' with rfl | ⟨rfl, hk41⟩
  · by_cases c0 : tA k = 0
    · have E := hide ((unhide HE).trans (show rNumA p f ⟨(k : Int), a, 0, l⟩ = (a == 0) by unfold rNumA; rw [if_pos (by simpa using c0)]; rfl))
      rw [c0] at t1
      clear HE c0 HG
      go_enter Tryd.func60, Tryd.ntmps60
      go_wp2
      go_ret
      exact ⟨ret_bool (unhide E).symm, below3 _ _ _ _⟩
    have r0 : ((tA k : Int) == 0) = false := by simp; omega
    by_cases c2 : tA k = 2
    · have E := hide ((unhide HE).trans (show rNumA p f ⟨(k : Int), a, 0, l⟩ = (decide (0 ≤ a) && decide (a < f.sl)) by unfold rNumA; rw [if_neg (by simpa using c0), if_pos (by simpa using c2)]))
      rw [c2] at t1 r0
      clear HE c0 c2 HG
      go_enter Tryd.func60, Tryd.ntmps60
      go_wp2_with (go_at_call 34; refine (within_int _ _ _).mono ?_; rintro e w' ⟨rfl, rfl⟩)
      go_ret
      exact ⟨ret_bool (unhide E).symm, below3 _ _ _ _⟩
    have r2 : ((tA k : Int) == 2) = false := by simp; omega
    have E := hide ((unhide HE).trans (show rNumA p f ⟨(k : Int), a, 0, l⟩ = nmd p ⟨(k : Int), a, 0, l⟩ by unfold rNumA; rw [if_neg (by simpa using c0), if_neg (by simpa using c2)]))
    clear HE c0 c2
    go_enter Tryd.func60, Tryd.ntmps60
    go_wp2_with (go_at_call 17; refine (named_any ((((unhide HG).alloc _).alloc _).alloc _) ⟨(k : Int), a, 0, l⟩ hk rfl).mono ?_; rintro e w' ⟨rfl, hB⟩; have HB := hide hB; clear hB)
    go_ret
    exact ⟨ret_bool (unhide E).symm, (below3 _ _ _ _).trans ((unhide HB).mono (by simp; omega))⟩
  · have c0 : tA k = 5 := by have : k = 41 := by omega
                             subst this; rfl
    have E := hide ((unhide HE).trans (show rNumA p f ⟨(k : Int), a, 1, l⟩ = nmd p ⟨(k : Int), a, 1, l⟩ by unfold rNumA; rw [if_neg (by simp [c0]), if_neg (by simp [c0])]))
    have r2 : ((k : Int) != 41) = false := by simp; omega
    rw [c0] at t1
    clear HE c0 hk41
    go_enter Tryd.func60, Tryd.ntmps60
    go_wp2_with (go_at_call 17; refine (named_any ((((unhide HG).alloc _).alloc _).alloc _) ⟨(k : Int), a, 1, l⟩ hk rfl).mono ?_; rintro e w' ⟨rfl, hB⟩; have HB := hide hB; clear hB)
    go_ret
    exact ⟨ret_bool (unhide E).symm, (below3 _ _ _ _).trans ((unhide HB).mono (by simp; omega))⟩

theorem cj_no {cd : List In} {at_ : Nat} {i : In} (h : ¬ tA i.op.toNat = 3) : cJump cd at_ i = 0 := by unfold cJump; rw [if_neg h]
theorem cj_out {cd : List In} {at_ : Nat} {i : In} (h : tA i.op.toNat = 3) (hw : wthn i.a cd.length = false) : cJump cd at_ i = 83 := by unfold cJump; rw [if_pos h, pick_no hw]
theorem cj_in {cd : List In} {at_ j : Nat} {i : In} (h : tA i.op.toNat = 3) (ea : i.a = (j : Int)) (hj : j < cd.length) : cJump cd at_ i = if (j : Int) ≤ at_ ∧ cd[j].op ≠ 1 then 85 else 0 := by unfold cJump; rw [if_pos h, ea, pick_yes hj]

set_option maxHeartbeats 2000000 in
theorem cjump_any {N : Nat} {w : World} {v : Value} {cd : List In} (hT : Tb w) (hg : 0 < N) (hN : N ≤ w.heap.size) (h : Lst N 4 (InAt w) v cd) (at_ : Nat) (a b l : Int) {k : Nat} (hk : k < 44) :
    Calls Tryd.prog 62 #[v, .int .i64 (at_ : Int), iv ⟨(k : Int), a, b, l⟩] w fun e w' => e = .returned (.int .i64 (cJump cd at_ ⟨(k : Int), a, b, l⟩)) ∧ Below w.heap.size w w' := by
  have hg' : 0 < w.heap.size := Nat.lt_of_lt_of_le hg hN
  obtain ⟨t1, -, -, -⟩ := hT k hk
  obtain ⟨b1, o1, ⟨a1, c1, rfl, hc1, hm1, hs1⟩, hl1⟩ := h
  clear hT
  by_cases c3 : tA k = 3
  rotate_left
  · have E := hide (cj_no (cd := cd) (at_ := at_) (i := ⟨(k : Int), a, b, l⟩) (by simpa using c3))
    have r : ((tA k : Int) != 3) = true := by simp; omega
    clear c3 hl1 hs1
    go_enter Tryd.func62, Tryd.ntmps62
    go_wp2
    go_ret
    exact ⟨ret_int (unhide E).symm, below1 _ _⟩
  have c3' : tA (k : Int).toNat = 3 := by simpa using c3
  rw [c3] at t1
  cases hw : wthn a cd.length
  · have E := hide (cj_out (cd := cd) (at_ := at_) (i := ⟨(k : Int), a, b, l⟩) c3' hw)
    clear c3 hl1 hs1 c3'
    go_enter Tryd.func62, Tryd.ntmps62
    go_wp2_with (go_at_call 34; refine (within_any _ _ _).mono ?_; rw [hw]; rintro e w' ⟨rfl, rfl⟩)
    go_ret
    exact ⟨ret_int (unhide E).symm, below1 _ _⟩
  obtain ⟨j, rfl, hj⟩ := wthn_yes hw
  have E := hide (cj_in (cd := cd) (at_ := at_) (i := ⟨(k : Int), j, b, l⟩) c3' rfl hj)
  obtain ⟨rfl, hb1⟩ := hs1 (by omega)
  have hb1' : b1 < w.heap.size := by omega
  obtain ⟨f1, -, -, -⟩ := hl1 j hj
  generalize cd[j] = z at *
  clear c3 hl1 hs1 c3'
  by_cases d1 : j ≤ at_
  rotate_left
  · have E2 := hide ((unhide E).trans (if_neg (by omega)))
    have r1 : decide ((j : Int) ≤ (at_ : Int)) = false := by simp; omega
    clear E
    go_enter Tryd.func62, Tryd.ntmps62
    go_wp2_with (go_at_call 34; refine (within_any _ _ _).mono ?_; rw [hw]; rintro e w' ⟨rfl, rfl⟩)
    go_ret
    exact ⟨ret_int (unhide E2).symm, below1 _ _⟩
  have r1 : decide ((j : Int) ≤ (at_ : Int)) = true := by simp; omega
  by_cases d2 : z.op = 1
  · have E2 := hide ((unhide E).trans (if_neg (by simp [d2])))
    rw [d2] at f1
    clear E d2
    go_enter Tryd.func62, Tryd.ntmps62
    go_wp2_with (go_at_call 34; refine (within_any _ _ _).mono ?_; rw [hw]; rintro e w' ⟨rfl, rfl⟩)
    go_ret
    exact ⟨ret_int (unhide E2).symm, below1 _ _⟩
  · have E2 := hide ((unhide E).trans (if_pos ⟨by omega, d2⟩))
    have r2 : (z.op != 1) = true := by simpa using d2
    clear E d2
    go_enter Tryd.func62, Tryd.ntmps62
    go_wp2_with (go_at_call 34; refine (within_any _ _ _).mono ?_; rw [hw]; rintro e w' ⟨rfl, rfl⟩)
    go_ret
    exact ⟨ret_int (unhide E2).symm, below1 _ _⟩

/-! ### The list of depths -/

/-- block D holds these numbers -/
def RowI (w : World) (D : Nat) (d : List Int) : Prop := w.heap[D]? = some (.cells (d.map (Value.int .i64)).toArray 3 (0, 0))

theorem RowI.cell {w : World} {D : Nat} {d : List Int} (h : RowI w D d) {i : Nat} (hi : i < d.length) : w.cell? ⟨D, i, none⟩ = some (.int .i64 d[i]) := by
  unfold RowI at h
  simp only [World.cell?, h]
  simp [hi]
theorem RowI.froz {w : World} {D : Nat} {d : List Int} (h : RowI w D d) (i : Nat) : w.frozen? ⟨D, i, none⟩ = false := by
  unfold RowI at h
  simp [World.frozen?, h]
theorem RowI.lt {w : World} {D : Nat} {d : List Int} (h : RowI w D d) : D < w.heap.size := (Array.getElem?_eq_some_iff.1 h).1
theorem RowI.set {w : World} {D : Nat} {d : List Int} (h : RowI w D d) (i : Nat) (x : Int) : RowI (w.setCell ⟨D, i, none⟩ (.int .i64 x)) D (d.set i x) := by
  unfold RowI at *
  simp [World.setCell, Array.getElem?_modify, h, List.map_set]
theorem RowI.below {w w' : World} {D M : Nat} {d : List Int} (h : RowI w D d) (hb : Below M w w') (hD : D < M) : RowI w' D d := (hb.block D hD).trans h
theorem RowI.alloc {w : World} {D : Nat} {d : List Int} (h : RowI w D d) (o : Obj) : RowI (w.alloc o) D d := h.below (below1 w o) h.lt

def layL (d : List Int) (fr to : Nat) (x : Int) : List Int := if d.getD to 0 = -1 ∧ fr < to then d.set to x else d
def layB (d : List Int) (fr to : Nat) (x : Int) : Bool := decide ((layL d fr to x).getD to 0 = x)

theorem lay_len (d : List Int) (fr to : Nat) (x : Int) : (layL d fr to x).length = d.length := by unfold layL; split <;> simp

set_option maxHeartbeats 2000000 in
theorem lay_any {w : World} {D : Nat} {d : List Int} (h : RowI w D d) {fr to : Nat} {f' t' : Int} (ef : f' = (fr : Int)) (et : t' = (to : Int)) (ht : to < d.length) (x : Int) {n : Nat} (hn : n = d.length) (c : Nat) :
    Calls Tryd.prog 77 #[.slice (some ⟨D, 0, none⟩) n c, .int .i64 f', .int .i64 t', .int .i64 x] w fun e w' => e = .returned (.bool (layB d fr to x)) ∧ RowI w' D (layL d fr to x) ∧ Keep D w w' := by
  subst ef et hn
  have hc := h.cell ht
  have hf := h.froz to
  have eg : d.getD to 0 = d[to] := by rw [List.getD_eq_getElem?_getD, List.getElem?_eq_getElem ht]; rfl
  by_cases c1 : d[to] = -1
  · rw [c1] at hc
    by_cases c2 : fr < to
    · have e : layL d fr to x = d.set to x := by unfold layL; rw [if_pos ⟨by rw [eg, c1], c2⟩]
      have e2 : layB d fr to x = true := by
        unfold layB
        rw [e, List.getD_eq_getElem?_getD, List.getElem?_eq_getElem (by simpa using ht)]
        simp
      have q : decide ((fr : Int) < (to : Int)) = true := by simp; omega
      have R := hide (show RowI (w.setCell ⟨D, to, none⟩ (.int .i64 x)) D (layL d fr to x) by rw [e]; exact h.set to x)
      have E2 := hide e2
      clear e e2 eg c1 h
      go_enter Tryd.func77, Tryd.ntmps77
      go_wp2
      go_ret
      exact ⟨ret_bool (by rw [unhide E2]), unhide R, (Keep.of_below (Below.refl _ _)).set _ _⟩
    · have e : layL d fr to x = d := by unfold layL; rw [if_neg (by omega)]
      have e2 : layB d fr to x = decide (-1 = x) := by unfold layB; rw [e, eg, c1]
      have q : decide ((fr : Int) < (to : Int)) = false := by simp; omega
      have R := hide (show RowI w D (layL d fr to x) by rw [e]; exact h)
      have E2 := hide e2
      clear e e2 eg c1 h
      go_enter Tryd.func77, Tryd.ntmps77
      go_wp2
      go_ret
      exact ⟨ret_bool (by rw [unhide E2]; rfl), unhide R, Keep.of_below (Below.refl _ _)⟩
  · have e : layL d fr to x = d := by unfold layL; rw [if_neg (by rw [eg]; omega)]
    have e2 : layB d fr to x = decide (d[to] = x) := by unfold layB; rw [e, eg]
    have q : (d[to] == -1) = false := by simpa using c1
    have R := hide (show RowI w D (layL d fr to x) by rw [e]; exact h)
    have E2 := hide e2
    generalize d[to] = y at *
    clear e e2 eg c1 h
    go_enter Tryd.func77, Tryd.ntmps77
    go_wp2
    go_ret
    exact ⟨ret_bool (by rw [unhide E2]; rfl), unhide R, Keep.of_below (Below.refl _ _)⟩

end Go.Proofs.YtgheaieghoekhaaDoor
