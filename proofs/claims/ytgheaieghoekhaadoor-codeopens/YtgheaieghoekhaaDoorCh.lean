/- Depths laid down behind an instruction. -/
import Derived.Test.YtgheaieghoekhaaDoorCg
namespace Go.Proofs.YtgheaieghoekhaaDoor
open Go.RowKit

def stp1 (d : List Int) (k : Nat) (at_ : Nat) (b : Int) : Int × List Int :=
  if tS k then (0, d) else if at_ + 1 = d.length then (83, d) else if layB d at_ (at_ + 1) b then (0, layL d at_ (at_ + 1) b) else (84, layL d at_ (at_ + 1) b)
def stp2 (d : List Int) (k : Nat) (at_ to : Nat) (b : Int) : Int × List Int :=
  if tA k = 3 then (if layB d at_ to b then (0, layL d at_ to b) else (84, layL d at_ to b)) else (0, d)
def passS (p : Pg) (d : List Int) (at_ : Nat) (i : In) : Int × List Int :=
  if d.getD at_ 0 < (eff p i).1 ∨ (eff p i).1 < d.getD at_ 0 + (eff p i).2 - 1000 then (84, d)
  else if (stp1 d i.op.toNat at_ (d.getD at_ 0 - (eff p i).1 + (eff p i).2)).1 = 0 then stp2 (stp1 d i.op.toNat at_ (d.getD at_ 0 - (eff p i).1 + (eff p i).2)).2 i.op.toNat at_ i.a.toNat (d.getD at_ 0 - (eff p i).1 + (eff p i).2)
  else stp1 d i.op.toNat at_ (d.getD at_ 0 - (eff p i).1 + (eff p i).2)

theorem effect_is {N : Nat} {w : World} {v1 v2 v3 : Value} {p : Pg} (h : Gd N w v1 v2 v3 p) (i : In) {tk gv : Int} (he : eff p i = (tk, gv)) :
    Calls Tryd.prog 7 #[pv v1 v2 v3 p.mn, iv i] w fun e w' => e = .returned (.tuple #[.int .i64 tk, .int .i64 gv]) ∧ Below w.heap.size w w' := by
  have := effect_any h i
  unfold effV at this
  rw [he] at this
  exact this

theorem eff_gv (p : Pg) (i : In) : 0 ≤ (eff p i).2 ∧ (eff p i).2 ≤ 3 := by
  unfold eff
  repeat' split
  all_goals first
    | (simp; done)
    | (rename_i h; unfold knw at h; simp only [Bool.and_eq_true, decide_eq_true_eq] at h; have := tG_le (k := i.op.toNat) (by omega); simp; omega)
    | (simp; split <;> simp)

theorem Keep.belowN {D N : Nat} {w w' : World} (h : Keep D w w') (hD : N ≤ D) (hN : N ≤ w.heap.size) : Below N w w' :=
  ⟨h.os, h.tape, h.output, h.size, fun i hi => h.block i (Nat.lt_of_lt_of_le hi hN) (by intro e; cases e; omega)⟩

theorem Keep.cellO {D : Nat} {w w' : World} (h : Keep D w w') {b o : Nat} (hb : b < w.heap.size) (hne : b ≠ D) : w'.cell? ⟨b, o, none⟩ = w.cell? ⟨b, o, none⟩ :=
  World.cell?_of_block (w := w) (h.block b hb (by intro e; cases e; exact hne rfl))

/-- what pass tells -/
def PassPost (w : World) (D : Nat) (r : Int × List Int) (e : Ending) (w' : World) : Prop := e = .returned (.int .i64 r.1) ∧ RowI w' D r.2 ∧ Keep D w w'
theorem PassPost.mk' {w w' : World} {D : Nat} {r r' : Int × List Int} {e : Ending} (hr : r = r') (h : PassPost w D r' e w') : PassPost w D r e w' := by rw [hr]; exact h

theorem keep2 {D : Nat} {w w' : World} (o o' : Obj) (hB : Below ((w.alloc o).alloc o').heap.size ((w.alloc o).alloc o') w') : Keep D w w' := Keep.of_below ((below2 w o o').trans (hB.mono (by simp; omega)))

section
variable {N : Nat} {w : World} {v1 v2 v3 : Value} {p : Pg} (h : Gd N w v1 v2 v3 p) {D : Nat} {d : List Int} (hR : RowI w D d) (at_ : Nat) (hat : at_ < d.length) (c : Nat) (a b l : Int) {k : Nat} (hk : k < 44)
  (tk gv : Int) (he : eff p ⟨(k : Int), a, b, l⟩ = (tk, gv))
include h hR hat he
set_option maxHeartbeats 2000000 in
theorem pass_over (h0 : 0 ≤ d[at_]) (h1 : d[at_] ≤ 1000) (ho : d[at_] < tk ∨ tk < d[at_] + gv - 1000) :
    Calls Tryd.prog 63 #[pv v1 v2 v3 p.mn, .slice (some ⟨D, 0, none⟩) d.length c, .int .i64 (at_ : Int), iv ⟨(k : Int), a, b, l⟩] w fun e w' => PassPost w D (84, d) e w' := by
  have hgv := eff_gv p ⟨(k : Int), a, b, l⟩
  rw [he] at hgv
  obtain ⟨hg0, hg3⟩ := hgv
  have hc := hR.cell hat
  have hD := hR.lt
  have R := hide hR
  have HG := hide h
  generalize d[at_] = y at *
  clear h hR
  by_cases c1 : y < tk
  · clear ho
    go_enter Tryd.func63, Tryd.ntmps63
    go_wp2_with fail
    (refine (effect_is (((unhide HG).alloc _).alloc _) ⟨(k : Int), a, b, l⟩ he).mono ?_; rintro e w' ⟨rfl, hB⟩; obtain ⟨bc, bf⟩ := bcell hB; have hB1 := (below2 w _ _).trans (hB.mono (by simp; omega)); have hc := (hB1.cell (p := ⟨D, at_, none⟩) hD).trans hc; have RR := hide ((unhide R).below hB1 hD); have HB := hide hB1; clear hB bf hB1)
    go_wp2
    go_ret
    exact ⟨rfl, unhide RR, Keep.of_below (unhide HB)⟩
  · have q1 : decide (y < tk) = false := by simpa using c1
    have c2 : tk < y + gv - 1000 := by omega
    clear ho
    go_enter Tryd.func63, Tryd.ntmps63
    go_wp2_with fail
    (refine (effect_is (((unhide HG).alloc _).alloc _) ⟨(k : Int), a, b, l⟩ he).mono ?_; rintro e w' ⟨rfl, hB⟩; obtain ⟨bc, bf⟩ := bcell hB; have hB1 := (below2 w _ _).trans (hB.mono (by simp; omega)); have hc := (hB1.cell (p := ⟨D, at_, none⟩) hD).trans hc; have RR := hide ((unhide R).below hB1 hD); have HB := hide hB1; clear hB bf hB1)
    go_wp2
    go_ret
    exact ⟨rfl, unhide RR, Keep.of_below (unhide HB)⟩

include hk
set_option maxHeartbeats 2000000 in
theorem pass_end (hs : d.length ≤ 8388608) (h0 : 0 ≤ d[at_]) (h1 : d[at_] ≤ 1000) (ho : ¬ d[at_] < tk) (ho2 : ¬ tk < d[at_] + gv - 1000) (hS : tS k = false) (hend : at_ + 1 = d.length) :
    Calls Tryd.prog 63 #[pv v1 v2 v3 p.mn, .slice (some ⟨D, 0, none⟩) d.length c, .int .i64 (at_ : Int), iv ⟨(k : Int), a, b, l⟩] w fun e w' => PassPost w D (83, d) e w' := by
  have hgv := eff_gv p ⟨(k : Int), a, b, l⟩
  rw [he] at hgv
  obtain ⟨hg0, hg3⟩ := hgv
  have hc := hR.cell hat
  have hD := hR.lt
  have R := hide hR
  have HG := hide h
  have hg : 0 < w.heap.size := Nat.lt_of_lt_of_le h.g h.le
  obtain ⟨t1, -, -, t4⟩ := h.t k hk
  rw [hS] at t4
  generalize d[at_] = y at *
  have q1 : decide (y < tk) = false := by simpa using ho
  have q2 : decide (tk < y + gv - 1000) = false := by simpa using ho2
  have q3 : ((at_ : Int) + 1 == (d.length : Int)) = true := by simp; omega
  clear h hR hend
  go_enter Tryd.func63, Tryd.ntmps63
  go_wp2_with fail
  (refine (effect_is (((unhide HG).alloc _).alloc _) ⟨(k : Int), a, b, l⟩ he).mono ?_; rintro e w' ⟨rfl, hB⟩; obtain ⟨bc, bf⟩ := bcell hB; have hB1 := (below2 w _ _).trans (hB.mono (by simp; omega)); have hc := (hB1.cell (p := ⟨D, at_, none⟩) hD).trans hc; have RR := hide ((unhide R).below hB1 hD); have HB := hide hB1; clear hB bf hB1)
  go_wp2
  go_ret
  exact ⟨rfl, unhide RR, Keep.of_below (unhide HB)⟩

set_option maxHeartbeats 2000000 in
theorem pass_stack1 (hs : d.length ≤ 8388608) (h0 : 0 ≤ d[at_]) (h1 : d[at_] ≤ 1000) (ho : ¬ d[at_] < tk) (ho2 : ¬ tk < d[at_] + gv - 1000) (hS : tS k = false) (hend : at_ + 1 < d.length) (hl : layB d at_ (at_ + 1) (d[at_] - tk + gv) = false) :
    Calls Tryd.prog 63 #[pv v1 v2 v3 p.mn, .slice (some ⟨D, 0, none⟩) d.length c, .int .i64 (at_ : Int), iv ⟨(k : Int), a, b, l⟩] w fun e w' => PassPost w D (84, layL d at_ (at_ + 1) (d[at_] - tk + gv)) e w' := by
  have hgv := eff_gv p ⟨(k : Int), a, b, l⟩
  rw [he] at hgv
  obtain ⟨hg0, hg3⟩ := hgv
  have hc := hR.cell hat
  have hD := hR.lt
  have R := hide hR
  have HG := hide h
  have hg : 0 < w.heap.size := Nat.lt_of_lt_of_le h.g h.le
  obtain ⟨t1, -, -, t4⟩ := h.t k hk
  rw [hS] at t4
  generalize hy : d[at_] = y at *
  have q1 : decide (y < tk) = false := by simpa using ho
  have q2 : decide (tk < y + gv - 1000) = false := by simpa using ho2
  have q3 : ((at_ : Int) + 1 == (d.length : Int)) = false := by simp; omega
  clear h hR hy
  go_enter Tryd.func63, Tryd.ntmps63
  go_wp2_with fail
  (refine (effect_is (((unhide HG).alloc _).alloc _) ⟨(k : Int), a, b, l⟩ he).mono ?_; rintro e w' ⟨rfl, hB⟩; obtain ⟨bc, bf⟩ := bcell hB; have hB1 := (below2 w _ _).trans (hB.mono (by simp; omega)); have hc := (hB1.cell (p := ⟨D, at_, none⟩) hD).trans hc; have RR := hide ((unhide R).below hB1 hD); have HB := hide hB1; have HS := hide hB; clear hB bf hB1)
  have s1 : w.heap.size < w'.heap.size := by have := (unhide HS).size; simp at this; omega
  have s2 : w.heap.size + 1 < w'.heap.size := by have := (unhide HS).size; simp at this; omega
  go_wp2_with fail
  (refine (lay_any (unhide RR) (fr := at_) (to := at_ + 1) rfl (by omega) (by omega) _ rfl c).mono ?_; rw [hl]; rintro e w5 ⟨rfl, R5, K5⟩; have bc5 := fun b o => @Keep.cellO D w' w5 K5 b o; have RR5 := hide R5; have HK5 := hide K5; clear R5 K5)
  clear s1 s2
  go_wp2
  go_ret
  exact ⟨rfl, unhide RR5, (Keep.of_below (unhide HB)).trans (unhide HK5)⟩

set_option maxHeartbeats 2000000 in
theorem pass_next (hs : d.length ≤ 8388608) (h0 : 0 ≤ d[at_]) (h1 : d[at_] ≤ 1000) (ho : ¬ d[at_] < tk) (ho2 : ¬ tk < d[at_] + gv - 1000) (hS : tS k = false) (hN : N ≤ D) (hend : at_ + 1 < d.length) (hl : layB d at_ (at_ + 1) (d[at_] - tk + gv) = true) (hA : ¬ tA k = 3) :
    Calls Tryd.prog 63 #[pv v1 v2 v3 p.mn, .slice (some ⟨D, 0, none⟩) d.length c, .int .i64 (at_ : Int), iv ⟨(k : Int), a, b, l⟩] w fun e w' => PassPost w D (0, layL d at_ (at_ + 1) (d[at_] - tk + gv)) e w' := by
  have hgv := eff_gv p ⟨(k : Int), a, b, l⟩
  rw [he] at hgv
  obtain ⟨hg0, hg3⟩ := hgv
  have hc := hR.cell hat
  have hD := hR.lt
  have R := hide hR
  have HG := hide h
  have hg : 0 < w.heap.size := Nat.lt_of_lt_of_le h.g h.le
  obtain ⟨t1, -, -, t4⟩ := h.t k hk
  rw [hS] at t4
  generalize hy : d[at_] = y at *
  have q1 : decide (y < tk) = false := by simpa using ho
  have q2 : decide (tk < y + gv - 1000) = false := by simpa using ho2
  have q3 : ((at_ : Int) + 1 == (d.length : Int)) = false := by simp; omega
  have q4 : ((tA k : Int) == 3) = false := by simp; omega
  clear h hR hy
  go_enter Tryd.func63, Tryd.ntmps63
  go_wp2_with fail
  (refine (effect_is (((unhide HG).alloc _).alloc _) ⟨(k : Int), a, b, l⟩ he).mono ?_; rintro e w' ⟨rfl, hB⟩; obtain ⟨bc, bf⟩ := bcell hB; have hB1 := (below2 w _ _).trans (hB.mono (by simp; omega)); have hc := (hB1.cell (p := ⟨D, at_, none⟩) hD).trans hc; have RR := hide ((unhide R).below hB1 hD); have HB := hide hB1; have HS := hide hB; clear hB bf hB1)
  have s1 : w.heap.size < w'.heap.size := by have := (unhide HS).size; simp at this; omega
  have s2 : w.heap.size + 1 < w'.heap.size := by have := (unhide HS).size; simp at this; omega
  have n0 : ¬ 0 = D := by have := (unhide HG).g; have := hN; omega
  have n1 : ¬ w.heap.size = D := by omega
  have n2 : ¬ w.heap.size + 1 = D := by omega
  have hgw : 0 < w'.heap.size := by omega
  go_wp2_with fail
  (refine (lay_any (unhide RR) (fr := at_) (to := at_ + 1) rfl (by omega) (by omega) _ rfl c).mono ?_; rw [hl]; rintro e w5 ⟨rfl, R5, K5⟩; have bc5 := fun b o => @Keep.cellO D w' w5 K5 b o; have RR5 := hide R5; have HK5 := hide K5; clear R5 K5)
  go_wp2
  go_ret
  exact ⟨rfl, unhide RR5, (Keep.of_below (unhide HB)).trans (unhide HK5)⟩

set_option maxHeartbeats 2000000 in
theorem pass_both0 (hs : d.length ≤ 8388608) (h0 : 0 ≤ d[at_]) (h1 : d[at_] ≤ 1000) (ho : ¬ d[at_] < tk) (ho2 : ¬ tk < d[at_] + gv - 1000) (hS : tS k = false) (hN : N ≤ D) (hend : at_ + 1 < d.length) (hl : layB d at_ (at_ + 1) (d[at_] - tk + gv) = true) (d5 : List Int) (h5 : layL d at_ (at_ + 1) (d[at_] - tk + gv) = d5) (hn5 : d.length = d5.length) (hA : tA k = 3) (j : Nat) (ea : a = (j : Int)) (hj : j < d5.length) (hl2 : layB d5 at_ j (d[at_] - tk + gv) = true) :
    Calls Tryd.prog 63 #[pv v1 v2 v3 p.mn, .slice (some ⟨D, 0, none⟩) d.length c, .int .i64 (at_ : Int), iv ⟨(k : Int), a, b, l⟩] w fun e w' => PassPost w D (0, layL d5 at_ j (d[at_] - tk + gv)) e w' := by
  have hgv := eff_gv p ⟨(k : Int), a, b, l⟩
  rw [he] at hgv
  obtain ⟨hg0, hg3⟩ := hgv
  have hc := hR.cell hat
  have hD := hR.lt
  have R := hide hR
  have HG := hide h
  have hg : 0 < w.heap.size := Nat.lt_of_lt_of_le h.g h.le
  obtain ⟨t1, -, -, t4⟩ := h.t k hk
  rw [hS] at t4
  generalize hy : d[at_] = y at *
  have q1 : decide (y < tk) = false := by simpa using ho
  have q2 : decide (tk < y + gv - 1000) = false := by simpa using ho2
  have q3 : ((at_ : Int) + 1 == (d.length : Int)) = false := by simp; omega
  rw [hA] at t1
  have HEA := hide ea
  clear ea
  have H5 := hide h5
  have HN5 := hide hn5
  clear h5 hn5
  clear h hR hy
  go_enter Tryd.func63, Tryd.ntmps63
  go_wp2_with fail
  (refine (effect_is (((unhide HG).alloc _).alloc _) ⟨(k : Int), a, b, l⟩ he).mono ?_; rintro e w' ⟨rfl, hB⟩; obtain ⟨bc, bf⟩ := bcell hB; have hB1 := (below2 w _ _).trans (hB.mono (by simp; omega)); have hc := (hB1.cell (p := ⟨D, at_, none⟩) hD).trans hc; have RR := hide ((unhide R).below hB1 hD); have HB := hide hB1; have HS := hide hB; clear hB bf hB1)
  have s1 : w.heap.size < w'.heap.size := by have := (unhide HS).size; simp at this; omega
  have s2 : w.heap.size + 1 < w'.heap.size := by have := (unhide HS).size; simp at this; omega
  have n0 : ¬ 0 = D := by have := (unhide HG).g; have := hN; omega
  have n1 : ¬ w.heap.size = D := by omega
  have n2 : ¬ w.heap.size + 1 = D := by omega
  have hgw : 0 < w'.heap.size := by omega
  go_wp2_with fail
  (refine (lay_any (unhide RR) (fr := at_) (to := at_ + 1) rfl (by omega) (by omega) _ rfl c).mono ?_; rw [hl, unhide H5]; rintro e w5 ⟨rfl, R5, K5⟩; have bc5 := fun b o => @Keep.cellO D w' w5 K5 b o; have RR5 := hide R5; have HK5 := hide K5; clear R5 K5)
  go_wp2_with fail
  (refine (lay_any (unhide RR5) (fr := at_) (to := j) rfl (unhide HEA) hj _ (unhide HN5) c).mono ?_; rw [hl2]; rintro e w6 ⟨rfl, R6, K6⟩; have RR6 := hide R6; have HK6 := hide K6; clear R6 K6)
  go_wp2
  go_ret
  exact ⟨rfl, unhide RR6, ((Keep.of_below (unhide HB)).trans (unhide HK5)).trans (unhide HK6)⟩

set_option maxHeartbeats 2000000 in
theorem pass_both84 (hs : d.length ≤ 8388608) (h0 : 0 ≤ d[at_]) (h1 : d[at_] ≤ 1000) (ho : ¬ d[at_] < tk) (ho2 : ¬ tk < d[at_] + gv - 1000) (hS : tS k = false) (hN : N ≤ D) (hend : at_ + 1 < d.length) (hl : layB d at_ (at_ + 1) (d[at_] - tk + gv) = true) (d5 : List Int) (h5 : layL d at_ (at_ + 1) (d[at_] - tk + gv) = d5) (hn5 : d.length = d5.length) (hA : tA k = 3) (j : Nat) (ea : a = (j : Int)) (hj : j < d5.length) (hl2 : layB d5 at_ j (d[at_] - tk + gv) = false) :
    Calls Tryd.prog 63 #[pv v1 v2 v3 p.mn, .slice (some ⟨D, 0, none⟩) d.length c, .int .i64 (at_ : Int), iv ⟨(k : Int), a, b, l⟩] w fun e w' => PassPost w D (84, layL d5 at_ j (d[at_] - tk + gv)) e w' := by
  have hgv := eff_gv p ⟨(k : Int), a, b, l⟩
  rw [he] at hgv
  obtain ⟨hg0, hg3⟩ := hgv
  have hc := hR.cell hat
  have hD := hR.lt
  have R := hide hR
  have HG := hide h
  have hg : 0 < w.heap.size := Nat.lt_of_lt_of_le h.g h.le
  obtain ⟨t1, -, -, t4⟩ := h.t k hk
  rw [hS] at t4
  generalize hy : d[at_] = y at *
  have q1 : decide (y < tk) = false := by simpa using ho
  have q2 : decide (tk < y + gv - 1000) = false := by simpa using ho2
  have q3 : ((at_ : Int) + 1 == (d.length : Int)) = false := by simp; omega
  rw [hA] at t1
  have HEA := hide ea
  clear ea
  have H5 := hide h5
  have HN5 := hide hn5
  clear h5 hn5
  clear h hR hy
  go_enter Tryd.func63, Tryd.ntmps63
  go_wp2_with fail
  (refine (effect_is (((unhide HG).alloc _).alloc _) ⟨(k : Int), a, b, l⟩ he).mono ?_; rintro e w' ⟨rfl, hB⟩; obtain ⟨bc, bf⟩ := bcell hB; have hB1 := (below2 w _ _).trans (hB.mono (by simp; omega)); have hc := (hB1.cell (p := ⟨D, at_, none⟩) hD).trans hc; have RR := hide ((unhide R).below hB1 hD); have HB := hide hB1; have HS := hide hB; clear hB bf hB1)
  have s1 : w.heap.size < w'.heap.size := by have := (unhide HS).size; simp at this; omega
  have s2 : w.heap.size + 1 < w'.heap.size := by have := (unhide HS).size; simp at this; omega
  have n0 : ¬ 0 = D := by have := (unhide HG).g; have := hN; omega
  have n1 : ¬ w.heap.size = D := by omega
  have n2 : ¬ w.heap.size + 1 = D := by omega
  have hgw : 0 < w'.heap.size := by omega
  go_wp2_with fail
  (refine (lay_any (unhide RR) (fr := at_) (to := at_ + 1) rfl (by omega) (by omega) _ rfl c).mono ?_; rw [hl, unhide H5]; rintro e w5 ⟨rfl, R5, K5⟩; have bc5 := fun b o => @Keep.cellO D w' w5 K5 b o; have RR5 := hide R5; have HK5 := hide K5; clear R5 K5)
  go_wp2_with fail
  (refine (lay_any (unhide RR5) (fr := at_) (to := j) rfl (unhide HEA) hj _ (unhide HN5) c).mono ?_; rw [hl2]; rintro e w6 ⟨rfl, R6, K6⟩; have RR6 := hide R6; have HK6 := hide K6; clear R6 K6)
  go_wp2
  go_ret
  exact ⟨rfl, unhide RR6, ((Keep.of_below (unhide HB)).trans (unhide HK5)).trans (unhide HK6)⟩

set_option maxHeartbeats 2000000 in
theorem pass_stop (h0 : 0 ≤ d[at_]) (h1 : d[at_] ≤ 1000) (ho : ¬ d[at_] < tk) (ho2 : ¬ tk < d[at_] + gv - 1000) (hS : tS k = true) (hA : ¬ tA k = 3) :
    Calls Tryd.prog 63 #[pv v1 v2 v3 p.mn, .slice (some ⟨D, 0, none⟩) d.length c, .int .i64 (at_ : Int), iv ⟨(k : Int), a, b, l⟩] w fun e w' => PassPost w D (0, d) e w' := by
  have hgv := eff_gv p ⟨(k : Int), a, b, l⟩
  rw [he] at hgv
  obtain ⟨hg0, hg3⟩ := hgv
  have hc := hR.cell hat
  have hD := hR.lt
  have R := hide hR
  have HG := hide h
  have hg : 0 < w.heap.size := Nat.lt_of_lt_of_le h.g h.le
  obtain ⟨t1, -, -, t4⟩ := h.t k hk
  rw [hS] at t4
  generalize hy : d[at_] = y at *
  have q1 : decide (y < tk) = false := by simpa using ho
  have q2 : decide (tk < y + gv - 1000) = false := by simpa using ho2
  have q4 : ((tA k : Int) == 3) = false := by simp; omega
  clear h hR hy
  go_enter Tryd.func63, Tryd.ntmps63
  go_wp2_with fail
  (refine (effect_is (((unhide HG).alloc _).alloc _) ⟨(k : Int), a, b, l⟩ he).mono ?_; rintro e w' ⟨rfl, hB⟩; obtain ⟨bc, bf⟩ := bcell hB; have hB1 := (below2 w _ _).trans (hB.mono (by simp; omega)); have hc := (hB1.cell (p := ⟨D, at_, none⟩) hD).trans hc; have RR := hide ((unhide R).below hB1 hD); have HB := hide hB1; have HS := hide hB; clear hB bf hB1)
  have s1 : w.heap.size < w'.heap.size := by have := (unhide HS).size; simp at this; omega
  have s2 : w.heap.size + 1 < w'.heap.size := by have := (unhide HS).size; simp at this; omega
  go_wp2
  go_ret
  exact ⟨rfl, unhide RR, Keep.of_below (unhide HB)⟩

set_option maxHeartbeats 2000000 in
theorem pass_jump0 (h0 : 0 ≤ d[at_]) (h1 : d[at_] ≤ 1000) (ho : ¬ d[at_] < tk) (ho2 : ¬ tk < d[at_] + gv - 1000) (hS : tS k = true) (hA : tA k = 3) (j : Nat) (ea : a = (j : Int)) (hj : j < d.length) (hl2 : layB d at_ j (d[at_] - tk + gv) = true) :
    Calls Tryd.prog 63 #[pv v1 v2 v3 p.mn, .slice (some ⟨D, 0, none⟩) d.length c, .int .i64 (at_ : Int), iv ⟨(k : Int), a, b, l⟩] w fun e w' => PassPost w D (0, layL d at_ j (d[at_] - tk + gv)) e w' := by
  have hgv := eff_gv p ⟨(k : Int), a, b, l⟩
  rw [he] at hgv
  obtain ⟨hg0, hg3⟩ := hgv
  have hc := hR.cell hat
  have hD := hR.lt
  have R := hide hR
  have HG := hide h
  have hg : 0 < w.heap.size := Nat.lt_of_lt_of_le h.g h.le
  obtain ⟨t1, -, -, t4⟩ := h.t k hk
  rw [hS] at t4
  generalize hy : d[at_] = y at *
  have q1 : decide (y < tk) = false := by simpa using ho
  have q2 : decide (tk < y + gv - 1000) = false := by simpa using ho2
  rw [hA] at t1
  have HEA := hide ea
  clear ea
  clear h hR hy
  go_enter Tryd.func63, Tryd.ntmps63
  go_wp2_with fail
  (refine (effect_is (((unhide HG).alloc _).alloc _) ⟨(k : Int), a, b, l⟩ he).mono ?_; rintro e w' ⟨rfl, hB⟩; obtain ⟨bc, bf⟩ := bcell hB; have hB1 := (below2 w _ _).trans (hB.mono (by simp; omega)); have hc := (hB1.cell (p := ⟨D, at_, none⟩) hD).trans hc; have RR := hide ((unhide R).below hB1 hD); have HB := hide hB1; have HS := hide hB; clear hB bf hB1)
  have s1 : w.heap.size < w'.heap.size := by have := (unhide HS).size; simp at this; omega
  have s2 : w.heap.size + 1 < w'.heap.size := by have := (unhide HS).size; simp at this; omega
  go_wp2_with fail
  (refine (lay_any (unhide RR) (fr := at_) (to := j) rfl (unhide HEA) hj _ rfl c).mono ?_; rw [hl2]; rintro e w6 ⟨rfl, R6, K6⟩; have RR6 := hide R6; have HK6 := hide K6; clear R6 K6)
  go_wp2
  go_ret
  exact ⟨rfl, unhide RR6, (Keep.of_below (unhide HB)).trans (unhide HK6)⟩

set_option maxHeartbeats 2000000 in
theorem pass_jump84 (h0 : 0 ≤ d[at_]) (h1 : d[at_] ≤ 1000) (ho : ¬ d[at_] < tk) (ho2 : ¬ tk < d[at_] + gv - 1000) (hS : tS k = true) (hA : tA k = 3) (j : Nat) (ea : a = (j : Int)) (hj : j < d.length) (hl2 : layB d at_ j (d[at_] - tk + gv) = false) :
    Calls Tryd.prog 63 #[pv v1 v2 v3 p.mn, .slice (some ⟨D, 0, none⟩) d.length c, .int .i64 (at_ : Int), iv ⟨(k : Int), a, b, l⟩] w fun e w' => PassPost w D (84, layL d at_ j (d[at_] - tk + gv)) e w' := by
  have hgv := eff_gv p ⟨(k : Int), a, b, l⟩
  rw [he] at hgv
  obtain ⟨hg0, hg3⟩ := hgv
  have hc := hR.cell hat
  have hD := hR.lt
  have R := hide hR
  have HG := hide h
  have hg : 0 < w.heap.size := Nat.lt_of_lt_of_le h.g h.le
  obtain ⟨t1, -, -, t4⟩ := h.t k hk
  rw [hS] at t4
  generalize hy : d[at_] = y at *
  have q1 : decide (y < tk) = false := by simpa using ho
  have q2 : decide (tk < y + gv - 1000) = false := by simpa using ho2
  rw [hA] at t1
  have HEA := hide ea
  clear ea
  clear h hR hy
  go_enter Tryd.func63, Tryd.ntmps63
  go_wp2_with fail
  (refine (effect_is (((unhide HG).alloc _).alloc _) ⟨(k : Int), a, b, l⟩ he).mono ?_; rintro e w' ⟨rfl, hB⟩; obtain ⟨bc, bf⟩ := bcell hB; have hB1 := (below2 w _ _).trans (hB.mono (by simp; omega)); have hc := (hB1.cell (p := ⟨D, at_, none⟩) hD).trans hc; have RR := hide ((unhide R).below hB1 hD); have HB := hide hB1; have HS := hide hB; clear hB bf hB1)
  have s1 : w.heap.size < w'.heap.size := by have := (unhide HS).size; simp at this; omega
  have s2 : w.heap.size + 1 < w'.heap.size := by have := (unhide HS).size; simp at this; omega
  go_wp2_with fail
  (refine (lay_any (unhide RR) (fr := at_) (to := j) rfl (unhide HEA) hj _ rfl c).mono ?_; rw [hl2]; rintro e w6 ⟨rfl, R6, K6⟩; have RR6 := hide R6; have HK6 := hide K6; clear R6 K6)
  go_wp2
  go_ret
  exact ⟨rfl, unhide RR6, (Keep.of_below (unhide HB)).trans (unhide HK6)⟩
end

end Go.Proofs.YtgheaieghoekhaaDoor
