/- The document's Mean, Share, Fair. -/
import Derived.Test.YtifmkphdmfechaaFair
namespace Go.Proofs.Ytifmkphdmfechaa
open Go.RowKit

/-- a list that is appended to: k elements so far, in blocks from B on -/
def Grow (w : World) (B : Nat) (v : Value) (k : Nat) (p : Nat → Nat → Prop) : Prop :=
  ∃ ys : Nat → Nat, (∀ i, i < k → p i (ys i)) ∧ w.ownsRow B 22 1 v k ((List.range k).map fun i => .float .f64 (ys i))

theorem Grow.step {w : World} {B k r : Nat} {v : Value} {p : Nat → Nat → Prop} {ys : Nat → Nat} (hp : ∀ i, i < k → p i (ys i)) (hr : p k r)
    (h : w.ownsRow B 22 1 v (k + 1) (((List.range k).map fun i => .float .f64 (ys i)) ++ [.float .f64 r])) : Grow w B v (k + 1) p := by
  refine ⟨fun i => if i = k then r else ys i, fun i hi => ?_, ?_⟩
  · by_cases e : i = k
    · subst e; simp only [if_true]; exact hr
    · simp only [if_neg e]; exact hp i (by omega)
  · have e : ((List.range (k + 1)).map fun i => Value.float .f64 (if i = k then r else ys i)) = ((List.range k).map fun i => Value.float .f64 (ys i)) ++ [.float .f64 r] := by
      rw [List.range_succ, List.map_append]
      congr 1
      · apply List.map_congr_left
        intro i hi
        have := List.mem_range.1 hi
        rw [if_neg (by omega)]
      · simp
    rw [e]
    exact h

theorem Grow.row {w : World} {B n : Nat} {v : Value} {p : Nat → Nat → Prop} (h : Grow w B v n p) :
    ∃ a cap ys, v = .slice a n cap ∧ Row w a n ys ∧ (∀ i, i < n → p i (ys i)) ∧ ∀ b off, a = some ⟨b, off, none⟩ → B ≤ b := by
  obtain ⟨ys, hp, hlen, h⟩ := h
  rcases h with ⟨rfl, rfl⟩ | ⟨g, cap, cur, rfl, hB, hg, hn, hm, hsz, ht⟩
  · exact ⟨none, 0, ys, rfl, Or.inl rfl, hp, fun b off e => by cases e⟩
  · refine ⟨some ⟨g, 0, none⟩, cap, ys, rfl, Or.inr ⟨g, 0, rfl, (Array.getElem?_eq_some_iff.1 hg).1, fun i hi => ?_⟩, hp, fun b off e => by cases e; exact hB⟩
    have hc : cur.toList[i]? = some (.float .f64 (ys i)) := by
      have h1 : (cur.toList.take (n * 1))[i]? = some (.float .f64 (ys i)) := by
        rw [ht, List.getElem?_map, List.getElem?_range hi]; rfl
      rw [List.getElem?_take] at h1
      simpa [hi] using h1
    rw [Nat.zero_add]
    simp only [World.cell?, hg]
    simpa using hc

theorem own_block {w : World} {B n : Nat} {e : TypeId} {v : Value} {xs : List Value} (h : w.ownsRow B e 1 v n xs) : ∀ k, v.ownBlock = some k → B ≤ k := by
  rcases h with ⟨_, ⟨rfl, rfl⟩ | ⟨g, cap, cur, rfl, hB, _⟩⟩
  · intro k hk; cases hk
  · intro k hk; cases hk; exact hB

theorem one_new (w : World) (v : Value) (t : TypeId) : ∀ (j : Nat) (u : Value), [v][j]? = some u → (w.alloc (.cells #[v] t)).cell? ((⟨w.heap.size, 0, none⟩ : Addr).add j) = some u := by
  intro j u hj
  match j, hj with
  | 0, hj => simp at hj; subst hj; simp [Addr.add]

theorem below_alloc_own {w wr : World} (h : Below w.heap.size w wr) (o : Obj) : Below w.heap.size w (wr.alloc o) := h.alloc h.size o

set_option maxHeartbeats 1000000 in
theorem refshare_any {a : Option Addr} {n cap : Nat} {zs : Nat → Nat} {w : World} (hR : Row w a n zs) (hn : n ≤ 17592186044416) (hn2 : n * 8 ≤ 140737488355328) :
    Calls Try.prog 30 #[.slice a n cap] w fun e w' => ∃ v, e = .returned v ∧ Grow w' w.heap.size v n (fun i v => v = quo (zs i) (FM.fsum zs n)) ∧ Below w.heap.size w w' := by
  have HR := hide hR
  clear hR
  obtain ⟨i0, hi0, hz0, hz1, hz2⟩ := info_parts Try.infoF
  go_enter Try.func30, Try.ntmps30
  go_wp2_with fail
  refine (refsum_any (unhide HR) hn).mono ?_
  rintro e w1 ⟨rfl, m0, rfl⟩
  go_wp2
  go_loopw [4, 5] (fun v i wr => ∃ k : Nat, k ≤ n ∧ i = .int .i64 k ∧ Grow wr w.heap.size v k (fun i v => v = quo (zs i) (FM.fsum zs n)) ∧ Below w.heap.size w wr) (fun _ i _ => n - (intOf i).toNat)
  case atStart => exact ⟨0, by omega, rfl, ⟨fun _ => 0, fun i hi => by omega, World.ownsRow_nil _ _ _ _⟩, ⟨rfl, rfl, rfl, Nat.le_refl _, fun _ _ => rfl⟩⟩
  case round =>
    obtain ⟨k, hk, rfl, ⟨ys, hp, hown⟩, hB⟩ := hrel
    by_cases hlt : k < n
    · obtain ⟨b, off, rfl, hb, hc⟩ := (unhide HR).at (by omega)
      have hck : wr.cell? ⟨b, off + k, none⟩ = some (.float .f64 (zs k)) := (hB.cell (p := ⟨b, off + k, none⟩) hb).trans (hc k hlt)
      have HP := hide hp
      have HO := hide hown
      have HB := hide hB
      have hsz := hB.size
      clear hc hb hp hown hB
      cases h : Ieee.double.div (zs k) (FM.fsum zs n) with
      | some r =>
        have hq := fun t w => run_quo_some t _ _ _ w h
        have E : Hid (FM.one r = quo (zs k) (FM.fsum zs n)) := by show _ = quo _ _; unfold quo; rw [h]
        clear h
        go_wp2_with (first
          | (go_at_call 12; refine (refone_any _ _).mono ?_; rintro e w' ⟨rfl, rfl⟩)
          | (at_builtin; refine wpList_append_own _ rfl _ _ 28 rfl w.heap.size 22 i0 (.float .f64 0) 1 8 Try.underlying28 hi0 hz0 hz1 hz2 rfl (by decide) _ _ _ rfl ((unhide HO).alloc _) ⟨w'.heap.size, 0, none⟩ 1 1 [.float .f64 (FM.one r)] rfl rfl ?c1 ?c2 ?c3 ?c4 ?c5 ?_))
        case c1 => exact one_new _ _ _
        case c2 => intro u hu; simp at hu; subst hu; rfl
        case c3 => unfold maxLen; omega
        case c4 => omega
        case c5 => simp; omega
        intro v' w1 hown' hgrow _
        have HG := hide (Grow.step (p := fun i v => v = quo (zs i) (FM.fsum zs n)) (unhide HP) (unhide E) hown')
        have HB1 := hide ((below_alloc_own (unhide HB) _).grown hgrow (by simp; omega) (own_block (unhide HO)))
        clear hown' hgrow
        go_wp2
        go_roundw
        case rel => exact ⟨k + 1, by omega, by go_num, unhide HG, unhide HB1⟩
        case measure => simp [intOf]; omega
      | none =>
        have hq := fun t w => run_quo_none t _ _ w h
        have E : Hid (∀ W, FM.one (nd (zs k) (FM.fsum zs n) W) = quo (zs k) (FM.fsum zs n)) := by show ∀ W, _ = quo _ _; intro W; unfold quo; rw [h, one_nd]
        clear h
        go_wp2_with (first
          | (go_at_call 12; refine (refone_any _ _).mono ?_; rintro e w' ⟨rfl, rfl⟩)
          | (at_builtin; refine wpList_append_own _ rfl _ _ 28 rfl w.heap.size 22 i0 (.float .f64 0) 1 8 Try.underlying28 hi0 hz0 hz1 hz2 rfl (by decide) _ _ _ rfl ((unhide HO).drew.alloc _) ⟨wr.heap.size, 0, none⟩ 1 1 [.float .f64 (FM.one (nd (zs k) (FM.fsum zs n) wr))] rfl rfl ?c1 ?c2 ?c3 ?c4 ?c5 ?_))
        case c1 => exact one_new _ _ _
        case c2 => intro u hu; simp at hu; subst hu; rfl
        case c3 => unfold maxLen; omega
        case c4 => omega
        case c5 => simp; omega
        intro v' w1 hown' hgrow _
        have HG := hide (Grow.step (p := fun i v => v = quo (zs i) (FM.fsum zs n)) (unhide HP) (unhide E _) hown')
        have HB1 := hide ((below_alloc_own (unhide HB).drew _).grown hgrow (by simp; omega) (own_block (unhide HO)))
        clear hown' hgrow
        go_wp2
        go_roundw
        case rel => exact ⟨k + 1, by omega, by go_num, unhide HG, unhide HB1⟩
        case measure => simp [intOf]; omega
    · have e : k = n := by omega
      subst e
      have HG : Hid (Grow wr w.heap.size u4 k (fun i v => v = quo (zs i) (FM.fsum zs k))) := ⟨ys, hp, hown⟩
      have HB := hide hB
      clear hp hown hB
      go_wp2
      go_ret
      exact ⟨_, rfl, unhide HG, unhide HB⟩

theorem mean0 (zs : Nat → Nat) : quo (FM.fsum zs 0) (floatOfInt .f64 ((0 : Nat) : Int)) = 9221120237041090561 := by
  have e : FM.fsum zs 0 = 0 := rfl
  rw [e]
  decide +kernel

set_option maxHeartbeats 400000 in
theorem refmean_any {a : Option Addr} {n cap : Nat} {zs : Nat → Nat} {w : World} (hR : Row w a n zs) (hn : n ≤ 17592186044416) :
    Calls Try.prog 34 #[.slice a n cap] w fun e w' => e = .returned (.float .f64 (quo (FM.fsum zs n) (floatOfInt .f64 n))) ∧ ∃ m, w' = w.drewN m := by
  have HR := hide hR
  clear hR
  by_cases h0 : n = 0
  · subst h0
    have E := hide (mean0 zs)
    go_enter Try.func34, Try.ntmps34
    go_wp2_with (go_at_call 44; refine (none_any _).mono ?_; rintro e w' ⟨rfl, rfl⟩)
    go_ret
    exact ⟨ret_float (unhide E).symm, 0, rfl⟩
  have e0 : ((n : Int) == 0) = false := by simp; omega
  cases h : Ieee.double.div (FM.fsum zs n) (floatOfInt .f64 n) with
  | some r =>
    have hq := fun t w => run_quo_some t _ _ _ w h
    have E : Hid (quo (FM.fsum zs n) (floatOfInt .f64 n) = FM.one r) := by show quo _ _ = _; unfold quo; rw [h]
    clear h
    go_enter Try.func34, Try.ntmps34
    go_wp2_with fail
    refine (refsum_any (unhide HR) hn).mono ?_
    rintro e w1 ⟨rfl, m, rfl⟩
    go_wp2_with (go_at_call 12; refine (refone_any _ _).mono ?_; rintro e w' ⟨rfl, rfl⟩)
    go_ret
    exact ⟨ret_float (unhide E).symm, m, rfl⟩
  | none =>
    have hq := fun t w => run_quo_none t _ _ w h
    have E : Hid (quo (FM.fsum zs n) (floatOfInt .f64 n) = 9221120237041090561) := by show quo _ _ = _; unfold quo; rw [h]
    clear h
    go_enter Try.func34, Try.ntmps34
    go_wp2_with fail
    refine (refsum_any (unhide HR) hn).mono ?_
    rintro e w1 ⟨rfl, m, rfl⟩
    go_wp2_with (go_at_call 12; refine (refone_any _ _).mono ?_; rintro e w' ⟨rfl, rfl⟩)
    go_ret
    exact ⟨ret_float (by rw [unhide E, one_nd]), m + 1, rfl⟩

theorem own_drewN {w : World} {B n : Nat} {e : TypeId} {v : Value} {xs : List Value} (h : w.ownsRow B e 1 v n xs) (m : Nat) : (w.drewN m).ownsRow B e 1 v n xs := h

theorem mv_drew1 (x y : Nat) (w : World) : ∃ m, (mv x y w.drew).2 = w.drewN m := by
  obtain ⟨m, h⟩ := mv_drew x y w.drew
  exact ⟨1 + m, h.trans (by simp)⟩

theorem below_dn {B : Nat} {a w : World} (h : Below B a w) (n : Nat) : Below B a (w.drewN n) := ⟨h.os, h.tape, h.output, h.size, h.block⟩

theorem fair0 (zs : Nat → Nat) : fairv zs 0 = 9221120237041090561 := by
  have e : fairv zs 0 = FM.fdiv (FM.fmul 0 0) (FM.fmul (floatOfInt .f64 ((0 : Nat) : Int)) 0) := rfl
  rw [e]
  decide +kernel

attribute [local go_sem] mv_run dv_run

set_option maxHeartbeats 2000000 in
theorem reffair_any {a : Option Addr} {n cap : Nat} {zs : Nat → Nat} {w : World} (hR : Row w a n zs) (hn : n ≤ 17592186044416) :
    Calls Try.prog 36 #[.slice a n cap] w fun e w' => e = .returned (.float .f64 (fairv zs n)) ∧ Below w.heap.size w w' := by
  have HR := hide hR
  clear hR
  by_cases h0 : n = 0
  · subst h0
    have E := hide (fair0 zs)
    go_enter Try.func36, Try.ntmps36
    go_wp2_with (go_at_call 44; refine (none_any _).mono ?_; rintro e w' ⟨rfl, rfl⟩)
    go_ret
    exact ⟨ret_float (unhide E).symm, Below.refl _ _⟩
  have e0 : ((n : Int) == 0) = false := by simp; omega
  obtain ⟨i0, hi0, hz0, hz1, hz2⟩ := info_parts Try.infoF
  go_enter Try.func36, Try.ntmps36
  go_wp2
  go_loopw [3, 4] (fun v i wr => ∃ k : Nat, k ≤ n ∧ i = .int .i64 k ∧ Grow wr w.heap.size v k (fun i v => FM.one v = FM.fmul (zs i) (zs i)) ∧ Below w.heap.size w wr) (fun _ i _ => n - (intOf i).toNat)
  case atStart => exact ⟨0, by omega, rfl, ⟨fun _ => 0, fun i hi => by omega, World.ownsRow_nil _ _ _ _⟩, Below.refl _ _⟩
  case round =>
    obtain ⟨k, hk, rfl, ⟨ys, hp, hown⟩, hB⟩ := hrel
    by_cases hlt : k < n
    · obtain ⟨b, off, rfl, hb, hc⟩ := (unhide HR).at (by omega)
      have hck : wr.cell? ⟨b, off + k, none⟩ = some (.float .f64 (zs k)) := (hB.cell (p := ⟨b, off + k, none⟩) hb).trans (hc k hlt)
      have HP := hide hp
      have HO := hide hown
      have HB := hide hB
      have hsz := hB.size
      clear hc hb hp hown hB
      go_wp2
      go_region
      obtain ⟨m1, hm1⟩ := mv_drew1 (zs k) (zs k) wr
      have H1 := hide (mv_one (zs k) (zs k) wr.drew)
      generalize mv (zs k) (zs k) wr.drew = R1 at *
      obtain ⟨r, W1⟩ := R1
      simp only at hm1 H1 ⊢
      subst hm1
      go_wp2_with (at_builtin; refine wpList_append_own _ rfl _ _ 28 rfl w.heap.size 22 i0 (.float .f64 0) 1 8 Try.underlying28 hi0 hz0 hz1 hz2 rfl (by decide) _ _ _ rfl ((own_drewN (unhide HO) m1).alloc _) ⟨wr.heap.size, 0, none⟩ 1 1 [.float .f64 r] rfl rfl ?c1 ?c2 ?c3 ?c4 ?c5 ?_)
      case c1 => exact one_new _ _ _
      case c2 => intro u hu; simp at hu; subst hu; rfl
      case c3 => unfold maxLen; omega
      case c4 => omega
      case c5 => simp; omega
      intro v' w1 hown' hgrow _
      have HG := hide (Grow.step (p := fun i v => FM.one v = FM.fmul (zs i) (zs i)) (unhide HP) (unhide H1) hown')
      have HB1 := hide ((below_alloc_own (below_dn (unhide HB) m1) _).grown hgrow (by simp; omega) (own_block (unhide HO)))
      clear hown' hgrow
      go_wp2
      go_roundw
      case rel => exact ⟨k + 1, by omega, by go_num, unhide HG, unhide HB1⟩
      case measure => simp [intOf]; omega
    · have e : k = n := by omega
      subst e
      obtain ⟨a2, cap2, ys2, rfl, hrow, hy, _⟩ := Grow.row (p := fun i v => FM.one v = FM.fmul (zs i) (zs i)) ⟨ys, hp, hown⟩
      have HR1 := hide ((unhide HR).below hB)
      have HR2 := hide hrow
      have HY := hide hy
      have HB := hide hB
      clear hp hown hrow hy hB
      go_wp2_with fail
      refine (refsum_any (unhide HR1) hn).mono ?_
      rintro e w1 ⟨rfl, m0, rfl⟩
      go_wp2_with fail
      refine (refsum_any ((unhide HR2).drewN m0) hn).mono ?_
      rintro e w2 ⟨rfl, m2, rfl⟩
      go_wp2_with fail
      obtain ⟨m3, hm3⟩ := mv_drew (FM.fsum zs k) (FM.fsum zs k) (wr.drewN (m0 + m2))
      have H1 := hide (mv_one (FM.fsum zs k) (FM.fsum zs k) (wr.drewN (m0 + m2)))
      generalize mv (FM.fsum zs k) (FM.fsum zs k) (wr.drewN (m0 + m2)) = R1 at *
      obtain ⟨r1, W1⟩ := R1
      simp only at hm3 H1 ⊢
      subst hm3
      obtain ⟨m4, hm4⟩ := mv_drew (floatOfInt .f64 k) (FM.fsum ys2 k) ((wr.drewN (m0 + m2)).drewN m3)
      have H2 := hide (mv_one (floatOfInt .f64 k) (FM.fsum ys2 k) ((wr.drewN (m0 + m2)).drewN m3))
      generalize mv (floatOfInt .f64 k) (FM.fsum ys2 k) ((wr.drewN (m0 + m2)).drewN m3) = R2 at *
      obtain ⟨r2, W2⟩ := R2
      simp only at hm4 H2 ⊢
      subst hm4
      obtain ⟨m5, hm5⟩ := dv_drew r1 r2 (((wr.drewN (m0 + m2)).drewN m3).drewN m4)
      have H3 := hide ((dv_one r1 r2 (((wr.drewN (m0 + m2)).drewN m3).drewN m4)).trans (fair_of (unhide HY) (unhide H1) (unhide H2)))
      generalize dv r1 r2 (((wr.drewN (m0 + m2)).drewN m3).drewN m4) = R3 at *
      obtain ⟨r3, W3⟩ := R3
      simp only at hm5 H3 ⊢
      subst hm5
      refine (refone_any _ _).mono ?_
      rintro e w4 ⟨rfl, rfl⟩
      go_wp2
      go_ret
      exact ⟨ret_float (unhide H3), below_dn (unhide HB) _⟩

end Go.Proofs.Ytifmkphdmfechaa
