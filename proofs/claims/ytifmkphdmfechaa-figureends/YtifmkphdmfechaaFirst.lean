/- The document's first, Least and Most. -/
import Derived.Test.YtifmkphdmfechaaLists
namespace Go.Proofs.Ytifmkphdmfechaa
open Go.RowKit

/-- does place k forbid place i? -/
def frb (zs : Nat → Nat) (way : Int) (i k : Nat) : Bool := !(FM.nan (zs k)) && (ord (zs k) (zs i) == way || (ord (zs k) (zs i) == 0 && decide (k < i)))
/-- how many of the first k forbid place i -/
def cntF (zs : Nat → Nat) (way : Int) (i : Nat) : Nat → Nat
  | 0 => 0
  | k + 1 => if frb zs way i k then cntF zs way i k + 1 else cntF zs way i k
/-- is i the place? -/
def okf (zs : Nat → Nat) (way : Int) (n i : Nat) : Bool := !(FM.nan (zs i)) && (cntF zs way i n == 0)

theorem cntF_le (zs : Nat → Nat) (way : Int) (i k : Nat) : cntF zs way i k ≤ k := by
  induction k with
  | zero => exact Nat.le_refl _
  | succ k ih => rw [cntF]; split <;> omega

theorem cntF_yes {zs : Nat → Nat} {way : Int} {i k : Nat} (h : frb zs way i k = true) : cntF zs way i (k + 1) = cntF zs way i k + 1 := by rw [cntF, if_pos h]
theorem cntF_no {zs : Nat → Nat} {way : Int} {i k : Nat} (h : frb zs way i k = false) : cntF zs way i (k + 1) = cntF zs way i k := by rw [cntF, h, if_neg Bool.false_ne_true]

/-- what first answers -/
def IsFirst (zs : Nat → Nat) (way : Int) (n : Nat) (r : Int) : Prop :=
  (r = -1 ∧ ∀ j, j < n → okf zs way n j = false) ∨ ∃ i : Nat, i < n ∧ r = (i : Int) ∧ okf zs way n i = true ∧ ∀ j, j < i → okf zs way n j = false

theorem drewN_sum {wr w : World} {m : Nat} (h : wr = w.drewN m) (k : Nat) : wr.drewN k = w.drewN (m + k) := by rw [h, World.drewN_drewN]

set_option maxHeartbeats 4000000 in
theorem first_any {w : World} {a : Option Addr} {n cap : Nat} {zs : Nat → Nat} {way : Int} (hR : Row w a n zs) (hz : ∀ i, i < n → zs i < 18446744073709551616) (hn : n ≤ 17592186044416) :
    Calls Try.prog 50 #[.slice a n cap, .int .i64 way] w fun e w' => ∃ r : Int, e = .returned (.int .i64 r) ∧ IsFirst zs way n r ∧ ∃ m, w' = w.drewN m := by
  have HR := hide hR
  have HZ := hide hz
  clear hR hz
  go_enter Try.func50, Try.ntmps50
  go_wp2
  go_loopw [5] (fun i wr => ∃ k m : Nat, k ≤ n ∧ i = .int .i64 k ∧ wr = w.drewN m ∧ ∀ j, j < k → okf zs way n j = false) (fun i _ => n - (intOf i).toNat)
  case atStart => exact ⟨0, 0, by omega, rfl, rfl, fun j hj => by omega⟩
  case round =>
    obtain ⟨i, m, hi, rfl, hw, hno⟩ := hrel
    have NO := hide hno
    clear hno
    subst hw
    by_cases hlt : i < n
    · obtain ⟨b, off, rfl, hb, hc⟩ := (unhide HR).at (by omega)
      have HC := hide hc
      clear hc hb
      go_wp2
      go_loopw [6, 7] (fun c k wr => ∃ q m' : Nat, q ≤ n ∧ k = .int .i64 q ∧ c = .int .i64 (cntF zs way i q) ∧ wr = w.drewN m') (fun _ k _ => n - (intOf k).toNat)
      case atStart => exact ⟨0, m, by omega, rfl, rfl, rfl⟩
      case round =>
        obtain ⟨q, m', hq, rfl, rfl, hw2⟩ := hrel
        have hcl := cntF_le zs way i q
        have hci : wr.cell? ⟨b, off + i, none⟩ = some (.float .f64 (zs i)) := by rw [hw2]; exact (unhide HC) i hlt
        have HW2 := hide hw2
        by_cases hql : q < n
        · have hcq : wr.cell? ⟨b, off + q, none⟩ = some (.float .f64 (zs q)) := by rw [hw2]; exact (unhide HC) q hql
          have hzq := hide ((unhide HZ) q hql)
          have hzi := hide ((unhide HZ) i hlt)
          have hnn := ne_nan_f (zs q)
          clear hw2
          cases hnan : FM.nan (zs q)
          · rw [hnan, Bool.not_false] at hnn
            cases hwy : (ord (zs q) (zs i) == way)
            · cases hz0 : (ord (zs q) (zs i) == 0)
              · have F := hide (cntF_no (zs := zs) (way := way) (i := i) (k := q) (by unfold frb; rw [hnan, hwy, hz0]; rfl))
                go_wp2
                go_quiet ((go_at_call 15; exact Calls.quiet_of_same (reforder_any _ _ _ (unhide hzq) (unhide hzi))))
                go_wp2
                go_quiet (fail)
                go_wp2
                go_roundw
                case rel => exact ⟨q + 1, m' + _, by omega, by go_num, by rw [unhide F] <;> go_num, drewN_sum (unhide HW2) _⟩
                case measure => simp [intOf]; omega
              · by_cases hqi : q < i
                · have F := hide (cntF_yes (zs := zs) (way := way) (i := i) (k := q) (by unfold frb; rw [hnan, hwy, hz0, decide_eq_true hqi]; rfl))
                  go_wp2
                  go_quiet ((go_at_call 15; exact Calls.quiet_of_same (reforder_any _ _ _ (unhide hzq) (unhide hzi))))
                  go_wp2
                  go_quiet (fail)
                  go_wp2
                  go_roundw
                  case rel => exact ⟨q + 1, m' + _, by omega, by go_num, by rw [unhide F] <;> go_num, drewN_sum (unhide HW2) _⟩
                  case measure => simp [intOf]; omega
                · have F := hide (cntF_no (zs := zs) (way := way) (i := i) (k := q) (by unfold frb; rw [hnan, hwy, hz0, decide_eq_false hqi]; rfl))
                  go_wp2
                  go_quiet ((go_at_call 15; exact Calls.quiet_of_same (reforder_any _ _ _ (unhide hzq) (unhide hzi))))
                  go_wp2
                  go_quiet (fail)
                  go_wp2
                  go_roundw
                  case rel => exact ⟨q + 1, m' + _, by omega, by go_num, by rw [unhide F] <;> go_num, drewN_sum (unhide HW2) _⟩
                  case measure => simp [intOf]; omega
            · have F := hide (cntF_yes (zs := zs) (way := way) (i := i) (k := q) (by unfold frb; rw [hnan, hwy]; rfl))
              go_wp2
              go_quiet ((go_at_call 15; exact Calls.quiet_of_same (reforder_any _ _ _ (unhide hzq) (unhide hzi))))
              go_wp2
              go_quiet (fail)
              go_wp2
              go_roundw
              case rel => exact ⟨q + 1, m' + _, by omega, by go_num, by rw [unhide F] <;> go_num, drewN_sum (unhide HW2) _⟩
              case measure => simp [intOf]; omega
          · rw [hnan, Bool.not_true] at hnn
            have F := hide (cntF_no (zs := zs) (way := way) (i := i) (k := q) (by unfold frb; rw [hnan]; rfl))
            go_wp2
            go_quiet ((go_at_call 15; exact Calls.quiet_of_same (reforder_any _ _ _ (unhide hzq) (unhide hzi))))
            go_wp2
            go_quiet (fail)
            go_wp2
            go_roundw
            case rel => exact ⟨q + 1, m' + _, by omega, by go_num, by rw [unhide F] <;> go_num, drewN_sum (unhide HW2) _⟩
            case measure => simp [intOf]; omega
        · have e : q = n := by omega
          subst e
          have hnn := ne_nan_f (zs i)
          clear hw2
          cases hnan : FM.nan (zs i)
          · rw [hnan, Bool.not_false] at hnn
            cases hq0 : ((cntF zs way i q : Int) == 0)
            · have F : Hid (okf zs way q i = false) := by
                show okf zs way q i = false
                have : ¬ cntF zs way i q = 0 := by intro h; rw [h] at hq0; simp at hq0
                unfold okf; rw [hnan]; simpa using this
              go_wp2
              go_quiet (fail)
              go_wp2
              go_roundw
              case rel => exact ⟨i + 1, m' + _, by omega, by go_num, drewN_sum (unhide HW2) _, fun j hj => by
                by_cases e : j = i
                · rw [e]; exact unhide F
                · exact (unhide NO) j (by omega)⟩
              case measure => simp [intOf]; omega
            · have F : Hid (okf zs way q i = true) := by
                show okf zs way q i = true
                have : cntF zs way i q = 0 := by have := eq_of_beq hq0; omega
                unfold okf; rw [hnan, this]; rfl
              go_wp2
              go_quiet (fail)
              go_wp2
              go_ret
              exact ⟨(i : Int), rfl, Or.inr ⟨i, hlt, rfl, unhide F, unhide NO⟩, m' + _, drewN_sum (unhide HW2) _⟩
          · rw [hnan, Bool.not_true] at hnn
            have F : Hid (okf zs way q i = false) := by
              show okf zs way q i = false
              unfold okf; rw [hnan]; rfl
            go_wp2
            go_quiet (fail)
            go_wp2
            go_roundw
            case rel => exact ⟨i + 1, m' + _, by omega, by go_num, drewN_sum (unhide HW2) _, fun j hj => by
              by_cases e : j = i
              · rw [e]; exact unhide F
              · exact (unhide NO) j (by omega)⟩
            case measure => simp [intOf]; omega
    · have e : i = n := by omega
      subst e
      go_wp2
      go_ret
      exact ⟨-1, rfl, Or.inl ⟨rfl, unhide NO⟩, m, rfl⟩

/-- Least's and Most's answer, of what first answers -/
def endv (zs : Nat → Nat) (r : Int) : Nat := if r < 0 then 9221120237041090561 else zs r.toNat

theorem ret_end {zs : Nat → Nat} {r : Int} {v : Nat} (h : v = endv zs r) : Ending.returned (.tuple #[.float .f64 v, .int .i64 r]) = .returned (.tuple #[.float .f64 (endv zs r), .int .i64 r]) := by rw [h]

set_option maxHeartbeats 1000000 in
theorem refleast_any {w : World} {a : Option Addr} {n cap : Nat} {zs : Nat → Nat} (hR : Row w a n zs) (hz : ∀ i, i < n → zs i < 18446744073709551616) (hn : n ≤ 17592186044416) :
    Calls Try.prog 21 #[.slice a n cap] w fun e w' => ∃ r : Int, e = .returned (.tuple #[.float .f64 (endv zs r), .int .i64 r]) ∧ IsFirst zs (-1) n r ∧ ∃ m, w' = w.drewN m := by
  have HR := hide hR
  have HZ := hide hz
  clear hR hz
  go_enter Try.func21, Try.ntmps21
  go_wp2_with fail
  refine (first_any (unhide HR) (unhide HZ) hn).mono ?_
  rintro e w1 ⟨r, rfl, hF, m, rfl⟩
  rcases hF with ⟨rfl, hno⟩ | ⟨i, hi, rfl, hyes, hno⟩
  · have F := hide hno
    clear hno
    go_wp2_with (go_at_call 44; refine (none_any _).mono ?_; rintro e w' ⟨rfl, rfl⟩)
    go_ret2
    exact ⟨-1, ret_end (by unfold endv; rfl), Or.inl ⟨rfl, unhide F⟩, m, rfl⟩
  · have F := hide hno
    have Y := hide hyes
    obtain ⟨b, off, rfl, hb, hc⟩ := (unhide HR).at (by omega)
    have hck := hc i hi
    clear hno hyes hc hb
    go_wp2
    go_ret2
    exact ⟨(i : Int), ret_end (by unfold endv; rw [if_neg (by omega), Int.toNat_natCast]), Or.inr ⟨i, hi, rfl, unhide Y, unhide F⟩, m, rfl⟩

set_option maxHeartbeats 1000000 in
theorem refmost_any {w : World} {a : Option Addr} {n cap : Nat} {zs : Nat → Nat} (hR : Row w a n zs) (hz : ∀ i, i < n → zs i < 18446744073709551616) (hn : n ≤ 17592186044416) :
    Calls Try.prog 22 #[.slice a n cap] w fun e w' => ∃ r : Int, e = .returned (.tuple #[.float .f64 (endv zs r), .int .i64 r]) ∧ IsFirst zs 1 n r ∧ ∃ m, w' = w.drewN m := by
  have HR := hide hR
  have HZ := hide hz
  clear hR hz
  go_enter Try.func22, Try.ntmps22
  go_wp2_with fail
  refine (first_any (unhide HR) (unhide HZ) hn).mono ?_
  rintro e w1 ⟨r, rfl, hF, m, rfl⟩
  rcases hF with ⟨rfl, hno⟩ | ⟨i, hi, rfl, hyes, hno⟩
  · have F := hide hno
    clear hno
    go_wp2_with (go_at_call 44; refine (none_any _).mono ?_; rintro e w' ⟨rfl, rfl⟩)
    go_ret2
    exact ⟨-1, ret_end (by unfold endv; rfl), Or.inl ⟨rfl, unhide F⟩, m, rfl⟩
  · have F := hide hno
    have Y := hide hyes
    obtain ⟨b, off, rfl, hb, hc⟩ := (unhide HR).at (by omega)
    have hck := hc i hi
    clear hno hyes hc hb
    go_wp2
    go_ret2
    exact ⟨(i : Int), ret_end (by unfold endv; rw [if_neg (by omega), Int.toNat_natCast]), Or.inr ⟨i, hi, rfl, unhide Y, unhide F⟩, m, rfl⟩

end Go.Proofs.Ytifmkphdmfechaa
