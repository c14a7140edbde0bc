/- Effect, whole. -/
import Derived.Test.YtgheaieghoekhaaDoorCc
namespace Go.Proofs.YtgheaieghoekhaaDoor
open Go.RowKit

theorem bcell {W w1 : World} (hb : Below W.heap.size W w1) : (∀ b o, b < W.heap.size → w1.cell? ⟨b, o, none⟩ = W.cell? ⟨b, o, none⟩) ∧ (∀ b o, b < W.heap.size → w1.frozen? ⟨b, o, none⟩ = W.frozen? ⟨b, o, none⟩) :=
  ⟨fun b o h => hb.cell (p := ⟨b, o, none⟩) h, fun b o h => hb.frozen (p := ⟨b, o, none⟩) h⟩

theorem bdr {N : Nat} {w w' : World} (h : Below N w w') (m : Nat) : Below N w (w'.drewN m) := h.trans ⟨rfl, rfl, rfl, Nat.le_refl _, fun _ _ => rfl⟩

theorem eff_call {p : Pg} {i : In} {j : Nat} (h : i.op = 24) (ea : i.a = (j : Int)) (hj : j < p.fs.length) : eff p i = (p.fs[j].pa, if p.fs[j].rs then 1 else 0) := by
  unfold eff; rw [if_pos h, ea, pick_yes hj]
theorem eff_go {p : Pg} {i : In} {j : Nat} (h : i.op = 25) (ea : i.a = (j : Int)) (hj : j < p.fs.length) : eff p i = (p.fs[j].pa, 0) := by
  unfold eff; rw [if_neg (by omega), if_pos h, ea, pick_yes hj]
theorem eff_sel {p : Pg} {i : In} {j : Nat} (h : i.op = 41) (ea : i.a = (j : Int)) (hj : j < p.ar.length) : eff p i = (wrap64 (armv p.ar[j] : Int), 3) := by
  unfold eff; rw [if_neg (by omega), if_neg (by omega), if_pos h, ea, pick_yes hj]
theorem eff_print {p : Pg} {i : In} {j : Nat} (h : i.op = 43) (ea : i.a = (j : Int)) (hj : j < p.ps.length) : eff p i = ((itmv p.ps[j] : Int), 0) := by
  unfold eff; rw [if_neg (by omega), if_neg (by omega), if_neg (by omega), if_pos h, ea, pick_yes hj]
theorem eff_else {p : Pg} {i : In} {k : Nat} (ek : i.op = (k : Int)) (h0 : 0 < k) (h : k < 44) (h1 : ¬ k = 24) (h2 : ¬ k = 25) (h3 : ¬ k = 41) (h4 : ¬ k = 43) : eff p i = ((tT k : Int), (tG k : Int)) := by
  unfold eff
  have e : i.op.toNat = k := by omega
  rw [if_neg (by omega), if_neg (by omega), if_neg (by omega), if_neg (by omega), if_pos, e]
  unfold knw
  simp only [Bool.and_eq_true, decide_eq_true_eq]
  omega

set_option maxHeartbeats 1000000 in
theorem effect_call {N : Nat} {w : World} {v1 v2 v3 : Value} {p : Pg} (h : Gd N w v1 v2 v3 p) (a b l : Int) {j : Nat} (ea : a = (j : Int)) (hj : j < p.fs.length) :
    Calls Tryd.prog 7 #[pv v1 v2 v3 p.mn, iv ⟨24, a, b, l⟩] w fun e w' => e = .returned (effV p ⟨24, a, b, l⟩) ∧ Below w.heap.size w w' := by
  subst ea
  have hn : nmd p ⟨24, j, b, l⟩ = true := by rw [nmd_f rfl]; unfold wthn; simp; omega
  have hk : knw 24 = true := by decide
  have E := hide (eff_call (p := p) (i := ⟨24, j, b, l⟩) rfl rfl hj)
  have HG := hide h
  have hle := h.le
  have hg : 0 < w.heap.size := Nat.lt_of_lt_of_le h.g h.le
  obtain ⟨t1, t2, t3, t4⟩ := h.t 24 (by omega)
  rw [show (tT 24 : Int) = 0 from rfl] at t2
  rw [show (tG 24 : Int) = 0 from rfl] at t3
  obtain ⟨b1, o1, ⟨a1, c1, rfl, hc1, hm1, hs1⟩, hl1⟩ := h.hf
  obtain ⟨rfl, hb1⟩ := hs1 (by omega)
  obtain ⟨v, f1, f2, f3, f4, f5, f6⟩ := hl1 j hj
  have hb1' : b1 < w.heap.size := by omega
  generalize hz : p.fs[j] = z at *
  clear hl1 h f6 t4 t1 f5 f1 f3 hs1
  have EE : Hid (eff p ⟨24, j, b, l⟩ = (z.pa, if z.rs then 1 else 0)) := E
  clear E hz
  cases hr : z.rs
  all_goals
    rw [hr] at f4
    have EF := hide ((unhide EE).trans (by rw [hr] : (z.pa, if z.rs then (1 : Int) else 0) = (z.pa, _)))
    clear EE hr
    go_enter Tryd.func7, Tryd.ntmps7
    go_wp2_with (first
      | (go_at_call 16; refine (known_any _ _).mono ?_; rw [hk]; rintro e w' ⟨rfl, rfl⟩)
      | (go_at_call 17; refine (named_any (((unhide HG).alloc _).alloc _) ⟨24, j, b, l⟩ (k := 24) (by omega) rfl).mono ?_; rw [hn]; rintro e w' ⟨rfl, hB⟩; obtain ⟨bc, bf⟩ := bcell hB; have hB1 := (below2 w _ _).trans (hB.mono (by simp; omega)); have f2 := (cell_below hB1 hb1').trans f2; have f4 := (cell_below hB1 hb1').trans f4; have HB := hide hB1; clear hB bf hB1))
    go_quiet (fail)
    go_wp2
    go_ret2
    exact ⟨ret_pair (unhide EF), bdr (unhide HB) _⟩

set_option maxHeartbeats 1000000 in
theorem effect_go {N : Nat} {w : World} {v1 v2 v3 : Value} {p : Pg} (h : Gd N w v1 v2 v3 p) (a b l : Int) {j : Nat} (ea : a = (j : Int)) (hj : j < p.fs.length) :
    Calls Tryd.prog 7 #[pv v1 v2 v3 p.mn, iv ⟨25, a, b, l⟩] w fun e w' => e = .returned (effV p ⟨25, a, b, l⟩) ∧ Below w.heap.size w w' := by
  subst ea
  have hn : nmd p ⟨25, j, b, l⟩ = true := by rw [nmd_f rfl]; unfold wthn; simp; omega
  have hk : knw 25 = true := by decide
  have E := hide (eff_go (p := p) (i := ⟨25, j, b, l⟩) rfl rfl hj)
  have HG := hide h
  have hle := h.le
  have hg : 0 < w.heap.size := Nat.lt_of_lt_of_le h.g h.le
  obtain ⟨t1, t2, t3, t4⟩ := h.t 25 (by omega)
  rw [show (tT 25 : Int) = 0 from rfl] at t2
  rw [show (tG 25 : Int) = 0 from rfl] at t3
  obtain ⟨b1, o1, ⟨a1, c1, rfl, hc1, hm1, hs1⟩, hl1⟩ := h.hf
  obtain ⟨rfl, hb1⟩ := hs1 (by omega)
  have hb1' : b1 < w.heap.size := by omega
  obtain ⟨v, f1, f2, f3, f4, f5, f6⟩ := hl1 j hj
  clear hl1 h f6 t4 t1 f5 f1 f3 hs1 f4
  go_enter Tryd.func7, Tryd.ntmps7
  go_wp2_with (first
    | (go_at_call 16; refine (known_any _ _).mono ?_; rw [hk]; rintro e w' ⟨rfl, rfl⟩)
    | (go_at_call 17; refine (named_any (((unhide HG).alloc _).alloc _) ⟨25, j, b, l⟩ (k := 25) (by omega) rfl).mono ?_; rw [hn]; rintro e w' ⟨rfl, hB⟩; obtain ⟨bc, bf⟩ := bcell hB; have hB1 := (below2 w _ _).trans (hB.mono (by simp; omega)); have f2 := (cell_below hB1 hb1').trans f2; have HB := hide hB1; clear hB bf hB1))
  go_quiet (fail)
  go_wp2
  go_ret2
  exact ⟨ret_pair (unhide E), bdr (unhide HB) _⟩

set_option maxHeartbeats 1000000 in
theorem effect_sel {N : Nat} {w : World} {v1 v2 v3 : Value} {p : Pg} (h : Gd N w v1 v2 v3 p) (a b l : Int) {j : Nat} (ea : a = (j : Int)) (hj : j < p.ar.length) :
    Calls Tryd.prog 7 #[pv v1 v2 v3 p.mn, iv ⟨41, a, b, l⟩] w fun e w' => e = .returned (effV p ⟨41, a, b, l⟩) ∧ Below w.heap.size w w' := by
  subst ea
  have hn : nmd p ⟨41, j, b, l⟩ = true := by rw [nmd_a rfl]; unfold wthn; simp; omega
  have hk : knw 41 = true := by decide
  have E := hide (eff_sel (p := p) (i := ⟨41, j, b, l⟩) rfl rfl hj)
  have HG := hide h
  have hle := h.le
  have hg : 0 < w.heap.size := Nat.lt_of_lt_of_le h.g h.le
  obtain ⟨t1, t2, t3, t4⟩ := h.t 41 (by omega)
  rw [show (tT 41 : Int) = 0 from rfl] at t2
  rw [show (tG 41 : Int) = 3 from rfl] at t3
  obtain ⟨b1, o1, ⟨a1, c1, rfl, hc1, hm1, hs1⟩, hl1⟩ := h.ha
  obtain ⟨rfl, hb1⟩ := hs1 (by omega)
  have hb1' : b1 < w.heap.size := by omega
  obtain ⟨v, f1, f2⟩ := hl1 j hj
  rw [Nat.mul_one] at f1
  have HL := hide f2
  clear hl1 h t4 t1 hs1 f2
  go_enter Tryd.func7, Tryd.ntmps7
  go_wp2_with (first
    | (go_at_call 16; refine (known_any _ _).mono ?_; rw [hk]; rintro e w' ⟨rfl, rfl⟩)
    | (go_at_call 17; refine (named_any (((unhide HG).alloc _).alloc _) ⟨41, j, b, l⟩ (k := 41) (by omega) rfl).mono ?_; rw [hn]; rintro e w' ⟨rfl, hB⟩; obtain ⟨bc, bf⟩ := bcell hB; have hB1 := (below2 w _ _).trans (hB.mono (by simp; omega)); have f1 := (cell_below hB1 hb1').trans f1; have HL := hide (bools_below (hB1.mono hle) (unhide HL)); have HB := hide hB1; clear hB bf hB1))
  go_quiet (fail)
  go_wp2_with (first
    | (go_at_call 18; refine (armv_any _ (bools_below (bdr (Below.refl _ _) _) (unhide HL))).mono ?_; rintro e w5 ⟨rfl, rfl⟩))
  go_ret2
  exact ⟨ret_pair (unhide E), bdr (unhide HB) _⟩

set_option maxHeartbeats 1000000 in
theorem effect_print {N : Nat} {w : World} {v1 v2 v3 : Value} {p : Pg} (h : Gd N w v1 v2 v3 p) (a b l : Int) {j : Nat} (ea : a = (j : Int)) (hj : j < p.ps.length) :
    Calls Tryd.prog 7 #[pv v1 v2 v3 p.mn, iv ⟨43, a, b, l⟩] w fun e w' => e = .returned (effV p ⟨43, a, b, l⟩) ∧ Below w.heap.size w w' := by
  subst ea
  have hn : nmd p ⟨43, j, b, l⟩ = true := by rw [nmd_p rfl]; unfold wthn; simp; omega
  have hk : knw 43 = true := by decide
  have E := hide (eff_print (p := p) (i := ⟨43, j, b, l⟩) rfl rfl hj)
  have HG := hide h
  have hle := h.le
  have hg : 0 < w.heap.size := Nat.lt_of_lt_of_le h.g h.le
  obtain ⟨t1, t2, t3, t4⟩ := h.t 43 (by omega)
  rw [show (tT 43 : Int) = 0 from rfl] at t2
  rw [show (tG 43 : Int) = 0 from rfl] at t3
  obtain ⟨b1, o1, ⟨a1, c1, rfl, hc1, hm1, hs1⟩, hl1⟩ := h.hp
  obtain ⟨rfl, hb1⟩ := hs1 (by omega)
  have hb1' : b1 < w.heap.size := by omega
  obtain ⟨v, f1, f2⟩ := hl1 j hj
  rw [Nat.mul_one] at f1
  have HL := hide f2
  clear hl1 h t4 t1 hs1 f2
  go_enter Tryd.func7, Tryd.ntmps7
  go_wp2_with (first
    | (go_at_call 16; refine (known_any _ _).mono ?_; rw [hk]; rintro e w' ⟨rfl, rfl⟩)
    | (go_at_call 17; refine (named_any (((unhide HG).alloc _).alloc _) ⟨43, j, b, l⟩ (k := 43) (by omega) rfl).mono ?_; rw [hn]; rintro e w' ⟨rfl, hB⟩; obtain ⟨bc, bf⟩ := bcell hB; have hB1 := (below2 w _ _).trans (hB.mono (by simp; omega)); have f1 := (cell_below hB1 hb1').trans f1; have HL := hide (items_below (hB1.mono hle) (unhide HL)); have HB := hide hB1; clear hB bf hB1))
  go_quiet (fail)
  go_wp2_with (first
    | (go_at_call 19; refine (itmv_any _ (items_below (bdr (Below.refl _ _) _) (unhide HL)) (by have := (unhide HB).size; simp; omega)).mono ?_; rintro e w5 ⟨rfl, hB5⟩; have HB5 := hide hB5; clear hB5))
  go_ret2
  exact ⟨ret_pair (unhide E), (bdr (unhide HB) _).trans ((unhide HB5).mono (by have := (unhide HB).size; simp; omega))⟩

set_option maxHeartbeats 1000000 in
theorem effect_else {N : Nat} {w : World} {v1 v2 v3 : Value} {p : Pg} (h : Gd N w v1 v2 v3 p) (a b l : Int) {k : Nat} (h0 : 0 < k) (h44 : k < 44) (h1 : ¬ k = 24) (h2 : ¬ k = 25) (h3 : ¬ k = 41) (h4 : ¬ k = 43) :
    Calls Tryd.prog 7 #[pv v1 v2 v3 p.mn, iv ⟨(k : Int), a, b, l⟩] w fun e w' => e = .returned (effV p ⟨(k : Int), a, b, l⟩) ∧ Below w.heap.size w w' := by
  have hn : nmd p ⟨(k : Int), a, b, l⟩ = true := nmd_o (tA_other (by simpa using h44) (by simpa using h1) (by simpa using h2) (by simpa using h3) (by simpa using h4))
  have hk : knw (k : Int) = true := by unfold knw; simp; omega
  have E := hide (eff_else (p := p) (i := ⟨(k : Int), a, b, l⟩) rfl h0 h44 h1 h2 h3 h4)
  have HG := hide h
  have hle := h.le
  have hg : 0 < w.heap.size := Nat.lt_of_lt_of_le h.g h.le
  obtain ⟨t1, t2, t3, t4⟩ := h.t k h44
  have q1 : ((k : Int) == 24) = false := by simp; omega
  have q2 : ((k : Int) == 25) = false := by simp; omega
  have q3 : ((k : Int) == 41) = false := by simp; omega
  have q4 : ((k : Int) == 43) = false := by simp; omega
  have b2 := tT_le h44
  have b3 := tG_le h44
  clear h t4 t1 h1 h2 h3 h4
  go_enter Tryd.func7, Tryd.ntmps7
  go_wp2_with (first
    | (go_at_call 16; refine (known_any _ _).mono ?_; rw [hk]; rintro e w' ⟨rfl, rfl⟩)
    | (go_at_call 17; refine (named_any (((unhide HG).alloc _).alloc _) ⟨(k : Int), a, b, l⟩ (k := k) (by omega) rfl).mono ?_; rw [hn]; rintro e w' ⟨rfl, hB⟩; obtain ⟨bc, bf⟩ := bcell hB; have hB1 := (below2 w _ _).trans (hB.mono (by simp; omega));  have HB := hide hB1; clear hB bf hB1))
  go_quiet (fail)
  go_wp2
  go_ret2
  exact ⟨ret_pair (unhide E), bdr (unhide HB) _⟩

theorem effect_any {N : Nat} {w : World} {v1 v2 v3 : Value} {p : Pg} (h : Gd N w v1 v2 v3 p) (i : In) :
    Calls Tryd.prog 7 #[pv v1 v2 v3 p.mn, iv i] w fun e w' => e = .returned (effV p i) ∧ Below w.heap.size w w' := by
  cases hk : knw i.op
  · exact effect_unknown i hk
  cases hn : nmd p i
  · exact effect_unnamed h i hk hn
  obtain ⟨op, a, b, l⟩ := i
  unfold knw at hk
  simp only [Bool.and_eq_true, decide_eq_true_eq] at hk
  obtain ⟨k, rfl⟩ : ∃ k : Nat, op = (k : Int) := ⟨op.toNat, by omega⟩
  by_cases c1 : k = 24
  · subst c1
    rw [nmd_f rfl] at hn
    obtain ⟨j, ea, hj⟩ := wthn_yes hn
    exact effect_call h a b l ea hj
  by_cases c2 : k = 25
  · subst c2
    rw [nmd_f rfl] at hn
    obtain ⟨j, ea, hj⟩ := wthn_yes hn
    exact effect_go h a b l ea hj
  by_cases c3 : k = 41
  · subst c3
    rw [nmd_a rfl] at hn
    obtain ⟨j, ea, hj⟩ := wthn_yes hn
    exact effect_sel h a b l ea hj
  by_cases c4 : k = 43
  · subst c4
    rw [nmd_p rfl] at hn
    obtain ⟨j, ea, hj⟩ := wthn_yes hn
    exact effect_print h a b l ea hj
  exact effect_else h a b l (by omega) (by omega) c1 c2 c3 c4

end Go.Proofs.YtgheaieghoekhaaDoor
