/- The document's Count; Great. -/
import Derived.Test.YtnclmlhmmljfgaaGreatDoorTr
namespace Go.Proofs.YtnclmlhmmljfgaaGreatDoor
open Go.RowKit

/-- the document's count, up to a bound -/
def rc (c : Nat) (m : Int) : Int := if m ≤ 0 then 1 else min (c : Int) (m + 1)
/-- counted so far -/
def rcs (ts : List Tr) (m : Int) (k : Nat) : Int := min (1 + (cnts (ts.take k) : Int)) (m + 1)

theorem cnts_take_succ {ts : List Tr} {k : Nat} (h : k < ts.length) : cnts (ts.take (k + 1)) = cnts (ts.take k) + cnt ts[k] := by
  rw [List.take_succ_eq_append_getElem h, cnts_app]
  simp [cnts]
theorem cnts_take_le (ts : List Tr) (k : Nat) : cnts (ts.take k) ≤ cnts ts := by
  have := cnts_app (ts.take k) (ts.drop k)
  rw [List.take_append_drop] at this
  omega

theorem rcs_zero (ts : List Tr) {m : Int} (h : 0 < m) : rcs ts m 0 = 1 := by
  unfold rcs
  simp [cnts]
  omega
theorem rcs_succ {ts : List Tr} {m : Int} {k : Nat} (h : k < ts.length) (hm : rcs ts m k ≤ m) : rcs ts m (k + 1) = rcs ts m k + rc (cnt ts[k]) (m - rcs ts m k) := by
  unfold rcs rc at *
  rw [cnts_take_succ h]
  have := cnt_pos ts[k]
  split
  · omega
  · omega
theorem rcs_bd (ts : List Tr) (m : Int) (k : Nat) (h : 0 < m) : 1 ≤ rcs ts m k ∧ rcs ts m k ≤ m + 1 ∧ rcs ts m k ≤ 1 + cnts ts := by
  have := cnts_take_le ts k
  unfold rcs
  omega
theorem rcs_end {t : Tr} {m : Int} {k : Nat} (h : 0 < m) (hk : t.ks.length ≤ k ∨ m < rcs t.ks m k) : rcs t.ks m k = rc (cnt t) m := by
  obtain ⟨f, ks⟩ := t
  have h1 := cnts_take_le ks k
  unfold rc
  rw [if_neg (by omega)]
  simp only [Tr.ks] at hk ⊢
  unfold rcs at *
  unfold cnt
  rcases hk with hk | hk
  · rw [List.take_of_length_le hk]
    omega
  · omega

set_option maxHeartbeats 2000000 in
theorem rcount_all (n : Nat) : ∀ (t : Tr) (w : World) (v : Value) (pl : Md) (S : Nat → Prop) (m : Int), cnt t ≤ n → Kids w pl S v t.ks → (∀ i, S i → i < w.heap.size) → (m < 9223372036854775807 ∨ cnt t ≤ 65536) → m ≤ 9223372036854775807 →
    Calls Tryz.prog 17 #[nv t.f v, .int .i64 m] w fun e w' => e = .returned (.int .i64 (rc (cnt t) m)) ∧ Below w.heap.size w w' := by
  induction n with
  | zero => intro t w v pl S m h; have := cnt_pos t; omega
  | succ n ih =>
    intro t w v pl S m hc hK hN hm hmx
    unfold nv
    by_cases h0 : m ≤ 0
    · have E := hide (show (1 : Int) = rc (cnt t) m by unfold rc; rw [if_pos h0])
      clear ih hc hK hN hm hmx
      by_cases h1 : m < 0
      · go_enter Tryz.func17, Tryz.ntmps17
        go_wp2
        go_ret
        exact ⟨ret_int (unhide E), (Below.refl _ _).alloc (Nat.le_refl _) _⟩
      · obtain rfl : m = 0 := by omega
        go_enter Tryz.func17, Tryz.ntmps17
        go_wp2
        go_ret
        exact ⟨ret_int (unhide E), (Below.refl _ _).alloc (Nat.le_refl _) _⟩
    · have hm0 : 0 < m := by omega
      have q0 : decide (m < 0) = false := decide_eq_false (by omega)
      have q1 : (m == 0) = false := by simp; omega
      obtain ⟨A, c, b, o, rfl, hln, hA, hr⟩ := hK.form
      have HK := hide hK
      have HC := hide hc
      have HM := hide hm
      have HX := hide hmx
      have HA := hide hA
      clear hK hc hm hA
      go_enter Tryz.func17, Tryz.ntmps17
      go_wp2
      obtain ⟨w1, hw1, HB1, HX1, hs1⟩ := boxed w t.f (.slice A t.ks.length c)
      rw [hw1]
      clear hw1
      have hlt := (unhide HX1).lt
      go_loopw [5, 6] (fun s i wr => ∃ k : Nat, k ≤ t.ks.length ∧ i = .int .i64 k ∧ s = .int .i64 (rcs t.ks m k) ∧ Below w1.heap.size w1 wr) (fun _ i _ => t.ks.length - (intOf i).toNat)
      case atStart => exact ⟨0, Nat.zero_le _, rfl, by rw [rcs_zero _ hm0], Below.refl _ _⟩
      case round =>
        obtain ⟨k, hk, rfl, rfl, hbw⟩ := hrel
        have bd := rcs_bd t.ks m k hm0
        have hsz := hbw.size
        have HBW := hide hbw
        generalize hS : rcs t.ks m k = C at *
        have HS := hide hS
        obtain ⟨x0, x1, x2, x3, x4, x5, x6, x7⟩ := ((unhide HX1).below hbw hlt).cell
        by_cases hkl : k < t.ks.length
        · by_cases hsm : C ≤ m
          · obtain ⟨hA1, hb, _⟩ := unhide HA (by omega)
            subst hA1
            have hr2 := (hr.agree (Agree.of_below (unhide HB1) hN) hb).agree (Agree.of_below hbw fun i hi => by have := hN i hi; omega) hb
            obtain ⟨v', c0, c1, c2, c3, c4, c5, c6, c7, hk'⟩ := (hr2.get k hkl).open
            have hcn := cnts_mem (List.getElem_mem hkl)
            have HK' := hide hk'
            have hlt2 : cnt t.ks[k] ≤ n := by
              have h1 := unhide HC
              obtain ⟨f, ks⟩ := t
              unfold cnt at h1
              simp only [Tr.ks] at hcn ⊢
              omega
            have HL2 := hide hlt2
            clear hk' hr2 hcn hlt2 hbw hS
            go_wp2_with fail
            refine (ih t.ks[k] wr v' pl S (m - C) (unhide HL2) (unhide HK') (fun i hi => by have := hN i hi; omega) (Or.inl (by omega)) (by omega)).mono ?_
            rintro e w' ⟨rfl, hb'⟩
            have h1 := rcs_succ hkl (by rw [unhide HS]; exact hsm)
            rw [unhide HS] at h1
            have h2 := rcs_bd t.ks m (k + 1) hm0
            generalize rc (cnt t.ks[k]) (m - C) = R at *
            rw [h1] at h2
            have h3 : C + R ≤ 9223372036854775807 := by
              rcases unhide HM with h | h
              · omega
              · obtain ⟨f, ks⟩ := t
                unfold cnt at h
                simp only [Tr.ks] at h2
                omega
            have h4 : 1 ≤ C + R := h2.1
            have H1 := hide h1
            have HB' := hide ((unhide HBW).trans (hb'.mono hsz))
            clear h1 h2 bd hb' c0 c1 c2 c3 c4 c5 c6 c7 x0 x1 x2 x3 x4 x5 x6 x7 hr ih
            go_wp2
            go_roundw
            case rel => exact ⟨k + 1, by omega, by go_num, by rw [unhide H1], unhide HB'⟩
            case measure => simp [intOf]; omega
          · have E := hide (rcs_end (t := t) (k := k) hm0 (Or.inr (by rw [unhide HS]; omega)))
            rw [unhide HS] at E
            have HB' := hide (((unhide HB1).trans (hbw.mono (unhide HB1).size)))
            clear hbw hS hr ih
            go_wp2
            go_ret
            exact ⟨ret_int (unhide E), unhide HB'⟩
        · have E := hide (rcs_end (t := t) (k := k) hm0 (Or.inl (by omega)))
          rw [unhide HS] at E
          have HB' := hide (((unhide HB1).trans (hbw.mono (unhide HB1).size)))
          clear hbw hS hr ih
          go_wp2
          go_ret
          exact ⟨ret_int (unhide E), unhide HB'⟩

set_option maxHeartbeats 1000000 in
theorem great_any {t : Tr} {w : World} {v : Value} {pl : Md} {S : Nat → Prop} (hK : Kids w pl S v t.ks) (hN : ∀ i, S i → i < w.heap.size) {g : Bool} (hg : decide (65536 < cnt t) = g) :
    Calls Tryz.prog 8 #[nv t.f v] w fun e w' => e = .returned (.bool g) ∧ Below w.heap.size w w' := by
  have hr : rc (cnt t) 65536 = min (cnt t : Int) 65537 := by unfold rc; rw [if_neg (by decide)]; rfl
  generalize hR : rc (cnt t) 65536 = R at hr
  have hd : decide (65536 < R) = g := by
    rw [← hg, hr]
    by_cases h : 65536 < cnt t
    · rw [decide_eq_true h, decide_eq_true (by omega)]
    · rw [decide_eq_false h, decide_eq_false (by omega)]
  have HK := hide hK
  have HR := hide hR
  clear hK hr hg hR
  unfold nv
  go_enter Tryz.func8, Tryz.ntmps8
  go_wp2_with fail
  have hb1 := (Below.refl w.heap.size w).alloc (Nat.le_refl _) (.cells #[.int .i64 t.f.k, .string t.f.t, .int .i64 t.f.n, .string t.f.y, .int .i64 t.f.s, .int .i64 t.f.a, .int .i64 t.f.l, v] 25)
  refine (rcount_all (cnt t) t _ v pl S 65536 (Nat.le_refl _) ((unhide HK).below hb1 hN) (fun i hi => Nat.lt_of_lt_of_le (hN i hi) hb1.size) (Or.inl (by decide)) (by decide)).mono ?_
  rintro e w' ⟨rfl, hb'⟩
  rw [unhide HR]
  have HB := hide (hb1.trans (hb'.mono hb1.size))
  clear hb1 hb'
  go_wp2
  go_ret
  exact ⟨rfl, unhide HB⟩

end Go.Proofs.YtnclmlhmmljfgaaGreatDoor
