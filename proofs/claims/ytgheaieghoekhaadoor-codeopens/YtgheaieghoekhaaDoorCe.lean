/- Effect: the document's. -/
import Derived.Test.YtgheaieghoekhaaDoorCd
namespace Go.Proofs.YtgheaieghoekhaaDoor
open Go.RowKit

theorem wrap_add2 (a : Int) : wrap64 (wrap64 (wrap64 a + 1) + 1) = wrap64 (a + 1 + 1) := by
  unfold wrap64
  omega

set_option maxHeartbeats 1000000 in
theorem reff_no {w : World} {v1 v2 v3 : Value} {p : Pg} (i : In) (hk : knw i.op = false) :
    Calls Tryd.prog 8 #[pv v1 v2 v3 p.mn, iv i] w fun e w' => e = .returned (effV p i) ∧ Below w.heap.size w w' := by
  have E := hide (eff_no (p := p) hk)
  by_cases h1 : i.op < 1
  · clear hk
    go_enter Tryd.func8, Tryd.ntmps8
    go_wp2
    go_ret2
    exact ⟨ret_pair (unhide E), below2 _ _ _⟩
  · have h2 : 43 < i.op := by
      unfold knw at hk
      simp only [Bool.and_eq_false_iff, decide_eq_false_iff_not] at hk
      omega
    have q1 : decide (i.op < 1) = false := by simpa using h1
    clear hk
    go_enter Tryd.func8, Tryd.ntmps8
    go_wp2
    go_ret2
    exact ⟨ret_pair (unhide E), below2 _ _ _⟩

theorem rT_all : ∀ m : Fin 43, ¬ m.1 + 1 = 24 → ¬ m.1 + 1 = 25 → ¬ m.1 + 1 = 41 → ¬ m.1 + 1 = 43 →
    (({ data := #[48, 48, 48, 49, 48, 49, 48, 49, 49, 48, 48, 48, 49, 48, 50, 49, 50, 49, 50, 49, 50, 49, 50, 49, 49, 49, 49, 49, 50, 49, 50, 49, 50, 49, 50, 49, 50, 49, 50, 49, 48, 48, 49, 48, 49, 48, 120, 120, 120, 120, 48, 48, 49, 48, 48, 49, 48, 49, 49, 49, 50, 48, 49, 49, 49, 50, 49, 48, 49, 49, 49, 49, 49, 48, 49, 48, 50, 48, 49, 48, 120, 120, 48, 48, 120, 120] } : ByteArray)[2 * m.1]'(by show _ < 86; omega)).toNat = tT (m.1 + 1) + 48 ∧ (({ data := #[48, 48, 48, 49, 48, 49, 48, 49, 49, 48, 48, 48, 49, 48, 50, 49, 50, 49, 50, 49, 50, 49, 50, 49, 49, 49, 49, 49, 50, 49, 50, 49, 50, 49, 50, 49, 50, 49, 50, 49, 48, 48, 49, 48, 49, 48, 120, 120, 120, 120, 48, 48, 49, 48, 48, 49, 48, 49, 49, 49, 50, 48, 49, 49, 49, 50, 49, 48, 49, 49, 49, 49, 49, 48, 49, 48, 50, 48, 49, 48, 120, 120, 48, 48, 120, 120] } : ByteArray)[2 * m.1 + 1]'(by show _ < 86; omega)).toNat = tG (m.1 + 1) + 48 := by decide

set_option maxRecDepth 100000 in
set_option maxHeartbeats 1000000 in
theorem reff_else {w : World} {v1 v2 v3 : Value} {p : Pg} (a b l : Int) {k : Nat} (h0 : 0 < k) (h44 : k < 44) (h1 : ¬ k = 24) (h2 : ¬ k = 25) (h3 : ¬ k = 41) (h4 : ¬ k = 43) :
    Calls Tryd.prog 8 #[pv v1 v2 v3 p.mn, iv ⟨(k : Int), a, b, l⟩] w fun e w' => e = .returned (effV p ⟨(k : Int), a, b, l⟩) ∧ Below w.heap.size w w' := by
  have E := hide (eff_else (p := p) (i := ⟨(k : Int), a, b, l⟩) rfl h0 h44 h1 h2 h3 h4)
  have b2 := tT_le h44
  have b3 := tG_le h44
  have q1 : decide ((k : Int) < 1) = false := by simp; omega
  have q2 : decide (43 < (k : Int)) = false := by simp; omega
  obtain ⟨m, rfl⟩ : ∃ m, k = m + 1 := ⟨k - 1, by omega⟩
  obtain ⟨x1, x2⟩ := rT_all ⟨m, by omega⟩ h1 h2 h3 h4
  generalize hc : tT (m + 1) = c at *
  generalize hd : tG (m + 1) = d at *
  have q3 : ((c : Int) + 48 != 120) = true := by simp; omega
  have q4 : decide (2 * (m : Int) < 86) = true := by simp; omega
  have q5 : decide (2 * (m : Int) + 1 < 86) = true := by simp; omega
  have e1 : (2 * (m : Int)).toNat = 2 * m := by omega
  have e2 : (2 * (m : Int) + 1).toNat = 2 * m + 1 := by omega
  have e3 : IntKind.i64.wrap (2 * (m : Int) + 1) = 2 * m + 1 := by rw [IntKind.wrap_i64]; omega
  have e4 : ∀ n : Nat, n ≤ 3 → IntKind.u8.wrap (((n + 48 : Nat) : Int) - 48) = (n : Int) := fun n h => by rw [show (((n + 48 : Nat) : Int) - 48) = n by omega, IntKind.wrap_u8]; omega
  have e5 : ∀ n : Nat, n ≤ 3 → IntKind.u8.wrap ((n : Int) + 48 - 48) = (n : Int) := fun n h => by rw [show ((n : Int) + 48 - 48) = n by omega, IntKind.wrap_u8]; omega
  have e6 : ∀ n : Nat, n ≤ 3 → IntKind.i64.wrap (n : Int) = (n : Int) := fun n h => by rw [IntKind.wrap_i64]; omega
  have e41 := e4 c (by omega)
  have e42 := e4 d (by omega)
  have e51 := e5 c (by omega)
  have e52 := e5 d (by omega)
  have e61 := e6 c (by omega)
  have e62 := e6 d (by omega)
  clear h1 h2 h3 h4 hc hd e4 e5 e6
  go_enter Tryd.func8, Tryd.ntmps8
  go_wp2
  go_quiet (fail)
  go_wp2
  go_ret2
  exact ⟨ret_pair (unhide E), bdr (below2 _ _ _) _⟩

set_option maxRecDepth 100000 in
set_option maxHeartbeats 2000000 in
theorem reff_out24 {N : Nat} {w : World} {v1 v2 v3 : Value} {p : Pg} (h : PgAt N w v1 v2 v3 p) (_hle : N ≤ w.heap.size) (a b l : Int) (hw : wthn a p.fs.length = false) :
    Calls Tryd.prog 8 #[pv v1 v2 v3 p.mn, iv ⟨24, a, b, l⟩] w fun e w' => e = .returned (effV p ⟨24, a, b, l⟩) ∧ Below w.heap.size w w' := by
  have E := hide (eff_unnamed (p := p) (i := ⟨24, a, b, l⟩) (by rw [nmd_f rfl]; exact hw))
  obtain ⟨b1, o1, ⟨a1, c1, rfl, hc1, hm1, hs1⟩, hl1⟩ := h.hf
  unfold wthn at hw
  simp only [Bool.and_eq_false_iff, decide_eq_false_iff_not] at hw
  clear hl1 hs1 h
  by_cases h1 : a < 0
  · clear hw
    go_enter Tryd.func8, Tryd.ntmps8
    go_wp2
    go_ret2
    exact ⟨ret_pair (unhide E), below2 _ _ _⟩
  · have h2 : (p.fs.length : Int) ≤ a := by omega
    have q1 : decide (a < 0) = false := by simpa using h1
    clear hw
    go_enter Tryd.func8, Tryd.ntmps8
    go_wp2
    go_ret2
    exact ⟨ret_pair (unhide E), below2 _ _ _⟩

set_option maxRecDepth 100000 in
set_option maxHeartbeats 2000000 in
theorem reff_out25 {N : Nat} {w : World} {v1 v2 v3 : Value} {p : Pg} (h : PgAt N w v1 v2 v3 p) (_hle : N ≤ w.heap.size) (a b l : Int) (hw : wthn a p.fs.length = false) :
    Calls Tryd.prog 8 #[pv v1 v2 v3 p.mn, iv ⟨25, a, b, l⟩] w fun e w' => e = .returned (effV p ⟨25, a, b, l⟩) ∧ Below w.heap.size w w' := by
  have E := hide (eff_unnamed (p := p) (i := ⟨25, a, b, l⟩) (by rw [nmd_f rfl]; exact hw))
  obtain ⟨b1, o1, ⟨a1, c1, rfl, hc1, hm1, hs1⟩, hl1⟩ := h.hf
  unfold wthn at hw
  simp only [Bool.and_eq_false_iff, decide_eq_false_iff_not] at hw
  clear hl1 hs1 h
  by_cases h1 : a < 0
  · clear hw
    go_enter Tryd.func8, Tryd.ntmps8
    go_wp2
    go_ret2
    exact ⟨ret_pair (unhide E), below2 _ _ _⟩
  · have h2 : (p.fs.length : Int) ≤ a := by omega
    have q1 : decide (a < 0) = false := by simpa using h1
    clear hw
    go_enter Tryd.func8, Tryd.ntmps8
    go_wp2
    go_ret2
    exact ⟨ret_pair (unhide E), below2 _ _ _⟩

set_option maxRecDepth 100000 in
set_option maxHeartbeats 2000000 in
theorem reff_out41 {N : Nat} {w : World} {v1 v2 v3 : Value} {p : Pg} (h : PgAt N w v1 v2 v3 p) (_hle : N ≤ w.heap.size) (a b l : Int) (hw : wthn a p.ar.length = false) :
    Calls Tryd.prog 8 #[pv v1 v2 v3 p.mn, iv ⟨41, a, b, l⟩] w fun e w' => e = .returned (effV p ⟨41, a, b, l⟩) ∧ Below w.heap.size w w' := by
  have E := hide (eff_unnamed (p := p) (i := ⟨41, a, b, l⟩) (by rw [nmd_a rfl]; exact hw))
  obtain ⟨b1, o1, ⟨a1, c1, rfl, hc1, hm1, hs1⟩, hl1⟩ := h.ha
  unfold wthn at hw
  simp only [Bool.and_eq_false_iff, decide_eq_false_iff_not] at hw
  clear hl1 hs1 h
  by_cases h1 : a < 0
  · clear hw
    go_enter Tryd.func8, Tryd.ntmps8
    go_wp2
    go_ret2
    exact ⟨ret_pair (unhide E), below2 _ _ _⟩
  · have h2 : (p.ar.length : Int) ≤ a := by omega
    have q1 : decide (a < 0) = false := by simpa using h1
    clear hw
    go_enter Tryd.func8, Tryd.ntmps8
    go_wp2
    go_ret2
    exact ⟨ret_pair (unhide E), below2 _ _ _⟩

set_option maxRecDepth 100000 in
set_option maxHeartbeats 2000000 in
theorem reff_out43 {N : Nat} {w : World} {v1 v2 v3 : Value} {p : Pg} (h : PgAt N w v1 v2 v3 p) (_hle : N ≤ w.heap.size) (a b l : Int) (hw : wthn a p.ps.length = false) :
    Calls Tryd.prog 8 #[pv v1 v2 v3 p.mn, iv ⟨43, a, b, l⟩] w fun e w' => e = .returned (effV p ⟨43, a, b, l⟩) ∧ Below w.heap.size w w' := by
  have E := hide (eff_unnamed (p := p) (i := ⟨43, a, b, l⟩) (by rw [nmd_p rfl]; exact hw))
  obtain ⟨b1, o1, ⟨a1, c1, rfl, hc1, hm1, hs1⟩, hl1⟩ := h.hp
  unfold wthn at hw
  simp only [Bool.and_eq_false_iff, decide_eq_false_iff_not] at hw
  clear hl1 hs1 h
  by_cases h1 : a < 0
  · clear hw
    go_enter Tryd.func8, Tryd.ntmps8
    go_wp2
    go_ret2
    exact ⟨ret_pair (unhide E), below2 _ _ _⟩
  · have h2 : (p.ps.length : Int) ≤ a := by omega
    have q1 : decide (a < 0) = false := by simpa using h1
    clear hw
    go_enter Tryd.func8, Tryd.ntmps8
    go_wp2
    go_ret2
    exact ⟨ret_pair (unhide E), below2 _ _ _⟩

set_option maxRecDepth 100000 in
set_option maxHeartbeats 2000000 in
theorem reff_call {N : Nat} {w : World} {v1 v2 v3 : Value} {p : Pg} (h : PgAt N w v1 v2 v3 p) (hle : N ≤ w.heap.size) (a b l : Int) {j : Nat} (ea : a = (j : Int)) (hj : j < p.fs.length) :
    Calls Tryd.prog 8 #[pv v1 v2 v3 p.mn, iv ⟨24, a, b, l⟩] w fun e w' => e = .returned (effV p ⟨24, a, b, l⟩) ∧ Below w.heap.size w w' := by
  subst ea
  have E := hide (eff_call (p := p) (i := ⟨24, j, b, l⟩) rfl rfl hj)
  obtain ⟨b1, o1, ⟨a1, c1, rfl, hc1, hm1, hs1⟩, hl1⟩ := h.hf
  obtain ⟨rfl, hb1⟩ := hs1 (by omega)
  have hb1' : b1 < w.heap.size := by omega
  have q1 : decide ((j : Int) < 0) = false := by simp
  have q2 : decide ((p.fs.length : Int) ≤ (j : Int)) = false := by simp; omega
  obtain ⟨v, f1, f2, f3, f4, f5, f6⟩ := hl1 j hj
  generalize hz : p.fs[j] = z at *
  clear hl1 h f6 f5 f1 f3 hs1 hz
  cases hr : z.rs
  all_goals
    rw [hr] at f4
    have EF := hide ((unhide E).trans (by rw [hr] : (z.pa, if z.rs then (1 : Int) else 0) = (z.pa, _)))
    clear E hr
    go_enter Tryd.func8, Tryd.ntmps8
    go_wp2
    go_ret2
    exact ⟨ret_pair (unhide EF), below2 _ _ _⟩

set_option maxRecDepth 100000 in
set_option maxHeartbeats 2000000 in
theorem reff_go {N : Nat} {w : World} {v1 v2 v3 : Value} {p : Pg} (h : PgAt N w v1 v2 v3 p) (hle : N ≤ w.heap.size) (a b l : Int) {j : Nat} (ea : a = (j : Int)) (hj : j < p.fs.length) :
    Calls Tryd.prog 8 #[pv v1 v2 v3 p.mn, iv ⟨25, a, b, l⟩] w fun e w' => e = .returned (effV p ⟨25, a, b, l⟩) ∧ Below w.heap.size w w' := by
  subst ea
  have E := hide (eff_go (p := p) (i := ⟨25, j, b, l⟩) rfl rfl hj)
  obtain ⟨b1, o1, ⟨a1, c1, rfl, hc1, hm1, hs1⟩, hl1⟩ := h.hf
  obtain ⟨rfl, hb1⟩ := hs1 (by omega)
  have hb1' : b1 < w.heap.size := by omega
  have q1 : decide ((j : Int) < 0) = false := by simp
  have q2 : decide ((p.fs.length : Int) ≤ (j : Int)) = false := by simp; omega
  obtain ⟨v, f1, f2, f3, f4, f5, f6⟩ := hl1 j hj
  generalize hz : p.fs[j] = z at *
  clear hl1 h f6 f5 f1 f3 hs1 hz
  cases hr : z.rs
  all_goals
    rw [hr] at f4
    have EF := hide (unhide E)
    clear E hr
    go_enter Tryd.func8, Tryd.ntmps8
    go_wp2
    go_ret2
    exact ⟨ret_pair (unhide EF), below2 _ _ _⟩

set_option maxRecDepth 100000 in
set_option maxHeartbeats 2000000 in
theorem reff_sel {N : Nat} {w : World} {v1 v2 v3 : Value} {p : Pg} (h : PgAt N w v1 v2 v3 p) (hle : N ≤ w.heap.size) (a b l : Int) {j : Nat} (ea : a = (j : Int)) (hj : j < p.ar.length) :
    Calls Tryd.prog 8 #[pv v1 v2 v3 p.mn, iv ⟨41, a, b, l⟩] w fun e w' => e = .returned (effV p ⟨41, a, b, l⟩) ∧ Below w.heap.size w w' := by
  subst ea
  have E := hide (eff_sel (p := p) (i := ⟨41, j, b, l⟩) rfl rfl hj)
  obtain ⟨b1, o1, ⟨a1, c1, rfl, hc1, hm1, hs1⟩, hl1⟩ := h.ha
  obtain ⟨rfl, hb1⟩ := hs1 (by omega)
  have hb1' : b1 < w.heap.size := by omega
  have q1 : decide ((j : Int) < 0) = false := by simp
  have q2 : decide ((p.ar.length : Int) ≤ (j : Int)) = false := by simp; omega
  obtain ⟨v, f1, b2, o2, ⟨a2, c2, rfl, hc2, hm2, hs2⟩, hl2⟩ := hl1 j hj
  rw [Nat.mul_one] at f1
  generalize hz : p.ar[j] = z at *
  clear hl1 h hs1 hz
  go_enter Tryd.func8, Tryd.ntmps8
  go_wp2
  go_loop [8, 9] (fun t i => ∃ k : Nat, k ≤ z.length ∧ i = .int .i64 k ∧ t = .int .i64 (wrap64 ((k + (z.take k).countP id : Nat) : Int))) (fun _ i => z.length - (intOf i).toNat)
  case atStart => exact ⟨0, Nat.zero_le _, rfl, by simp [wrap64]⟩
  case round =>
    obtain ⟨k, hk, rfl, rfl⟩ := hrel
    by_cases hlt : k < z.length
    · obtain ⟨rfl, hb2⟩ := hs2 (by omega)
      have hb2' : b2 < w.heap.size := by omega
      have hx : w.cell? ⟨b2, o2 + k, none⟩ = some (.bool z[k]) := by have := hl2 k hlt; rwa [Nat.mul_one] at this
      have hn : k + 1 + (z.take (k + 1)).countP id = k + (z.take k).countP id + 1 + if z[k] then 1 else 0 := by rw [countP_take id z k hlt]; show _ + (_ + if z[k] then 1 else 0) = _; omega
      generalize k + (z.take k).countP id = T at *
      generalize hz : z[k] = y at hx hn
      have HN := hide hn
      clear hl2 hs2 hn hz
      cases y
      · go_wp2
        go_round
        case rel => exact ⟨k + 1, by omega, by go_num, by rw [unhide HN, wrap_add]; exact vint (by simp)⟩
        case measure => simp [intOf]; omega
      · go_wp2
        go_round
        case rel => exact ⟨k + 1, by omega, by go_num, by rw [unhide HN, wrap_add2]; exact vint (by simp)⟩
        case measure => simp [intOf]; omega
    · go_wp2
      go_ret2
      have e : k = z.length := by omega
      subst e
      exact ⟨ret_pair ((unhide E).trans (by simp [armv])), below2 _ _ _⟩

set_option maxRecDepth 100000 in
set_option maxHeartbeats 2000000 in
theorem reff_print {N : Nat} {w : World} {v1 v2 v3 : Value} {p : Pg} (h : PgAt N w v1 v2 v3 p) (hle : N ≤ w.heap.size) (a b l : Int) {j : Nat} (ea : a = (j : Int)) (hj : j < p.ps.length) :
    Calls Tryd.prog 8 #[pv v1 v2 v3 p.mn, iv ⟨43, a, b, l⟩] w fun e w' => e = .returned (effV p ⟨43, a, b, l⟩) ∧ Below w.heap.size w w' := by
  subst ea
  have E := hide (eff_print (p := p) (i := ⟨43, j, b, l⟩) rfl rfl hj)
  obtain ⟨b1, o1, ⟨a1, c1, rfl, hc1, hm1, hs1⟩, hl1⟩ := h.hp
  obtain ⟨rfl, hb1⟩ := hs1 (by omega)
  have hb1' : b1 < w.heap.size := by omega
  have q1 : decide ((j : Int) < 0) = false := by simp
  have q2 : decide ((p.ps.length : Int) ≤ (j : Int)) = false := by simp; omega
  obtain ⟨v, f1, b2, o2, ⟨a2, c2, rfl, hc2, hm2, hs2⟩, hl2⟩ := hl1 j hj
  rw [Nat.mul_one] at f1
  generalize hz : p.ps[j] = z at *
  have hcp := List.countP_le_length (p := isV) (l := z)
  clear hl1 h hs1 hz
  go_enter Tryd.func8, Tryd.ntmps8
  go_wp2
  go_loop [8, 10] (fun t i => ∃ k : Nat, k ≤ z.length ∧ i = .int .i64 k ∧ t = .int .i64 (((z.take k).countP isV : Nat) : Int)) (fun _ i => z.length - (intOf i).toNat)
  case atStart => exact ⟨0, Nat.zero_le _, rfl, by simp⟩
  case round =>
    obtain ⟨k, hk, rfl, rfl⟩ := hrel
    have hle2 : (z.take k).countP isV ≤ k := Nat.le_trans List.countP_le_length (List.length_take_le _ _)
    by_cases hlt : k < z.length
    · obtain ⟨rfl, hb2⟩ := hs2 (by omega)
      have hb2' : b2 < w.heap.size := by omega
      obtain ⟨hx, -⟩ := hl2 k hlt
      have hn := countP_take isV z k hlt
      generalize hz : z[k] = y at hx hn
      have HN := hide hn
      clear hl2 hs2 hn hz
      by_cases c2 : y.k = 2
      · rw [c2] at hx
        have hv : isV y = true := by simp [isV, c2]
        go_wp2
        go_round
        case rel => exact ⟨k + 1, by omega, by go_num, by rw [unhide HN, hv]; go_num⟩
        case measure => simp [intOf]; omega
      have q4 : (y.k == 2) = false := by simpa using c2
      by_cases c3 : y.k = 3
      · rw [c3] at hx q4
        have hv : isV y = true := by simp [isV, c3]
        go_wp2
        go_round
        case rel => exact ⟨k + 1, by omega, by go_num, by rw [unhide HN, hv]; go_num⟩
        case measure => simp [intOf]; omega
      have q3 : (y.k == 3) = false := by simpa using c3
      have hv : isV y = false := by simp [isV, c2, c3]
      clear c2 c3
      go_wp2
      go_round
      case rel => exact ⟨k + 1, by omega, by go_num, by rw [unhide HN, hv]; simp⟩
      case measure => simp [intOf]; omega
    · go_wp2
      go_ret2
      have e : k = z.length := by omega
      subst e
      exact ⟨ret_pair ((unhide E).trans (by simp [itmv])), below2 _ _ _⟩

theorem reff_any {N : Nat} {w : World} {v1 v2 v3 : Value} {p : Pg} (h : PgAt N w v1 v2 v3 p) (hle : N ≤ w.heap.size) (i : In) :
    Calls Tryd.prog 8 #[pv v1 v2 v3 p.mn, iv i] w fun e w' => e = .returned (effV p i) ∧ Below w.heap.size w w' := by
  cases hk : knw i.op
  · exact reff_no i hk
  obtain ⟨op, a, b, l⟩ := i
  unfold knw at hk
  simp only [Bool.and_eq_true, decide_eq_true_eq] at hk
  obtain ⟨k, rfl⟩ : ∃ k : Nat, op = (k : Int) := ⟨op.toNat, by omega⟩
  by_cases c1 : k = 24
  · subst c1
    cases hn : wthn a p.fs.length
    · exact reff_out24 h hle a b l hn
    · obtain ⟨j, ea, hj⟩ := wthn_yes hn
      exact reff_call h hle a b l ea hj
  by_cases c2 : k = 25
  · subst c2
    cases hn : wthn a p.fs.length
    · exact reff_out25 h hle a b l hn
    · obtain ⟨j, ea, hj⟩ := wthn_yes hn
      exact reff_go h hle a b l ea hj
  by_cases c3 : k = 41
  · subst c3
    cases hn : wthn a p.ar.length
    · exact reff_out41 h hle a b l hn
    · obtain ⟨j, ea, hj⟩ := wthn_yes hn
      exact reff_sel h hle a b l ea hj
  by_cases c4 : k = 43
  · subst c4
    cases hn : wthn a p.ps.length
    · exact reff_out43 h hle a b l hn
    · obtain ⟨j, ea, hj⟩ := wthn_yes hn
      exact reff_print h hle a b l ea hj
  exact reff_else a b l (by omega) (by omega) c1 c2 c3 c4

end Go.Proofs.YtgheaieghoekhaaDoor
