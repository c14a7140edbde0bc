/- Sum, Mean: of the program and of the document. -/
import Derived.Test.YtifmkphdmfechabRatio
import Derived.Test.YtifmkphdmfechabLists
import Derived.Test.YtifmkphdmfechabFa
namespace Go.Proofs.Ytifmkphdmfechab
open Go.RowKit

theorem run_add_some (t : TypeId) (x y r : Nat) (w : World) (h : Ieee.double.add x y = some r) :
    (binOp .add t (.float .f64 x) (.float .f64 y)).run Try.prog w = .ok (.float .f64 r) w := run_float_arith w .add t .f64 x y r h

theorem run_add_none (t : TypeId) (x y : Nat) (w : World) (h : Ieee.double.add x y = none) :
    (binOp .add t (.float .f64 x) (.float .f64 y)).run Try.prog w = .ok (.float .f64 (nd x y w)) w.drew := by
  have h' : FloatKind.f64.format.add x y = none := h
  simp [binOp, Op.floatArith, h', Question.forced, nd]

theorem run_mul_some (t : TypeId) (x y r : Nat) (w : World) (h : Ieee.double.mul x y = some r) :
    (binOp .mul t (.float .f64 x) (.float .f64 y)).run Try.prog w = .ok (.float .f64 r) w := run_float_arith w .mul t .f64 x y r h

theorem run_mul_none (t : TypeId) (x y : Nat) (w : World) (h : Ieee.double.mul x y = none) :
    (binOp .mul t (.float .f64 x) (.float .f64 y)).run Try.prog w = .ok (.float .f64 (nd x y w)) w.drew := by
  have h' : FloatKind.f64.format.mul x y = none := h
  simp [binOp, Op.floatArith, h', Question.forced, nd]

theorem one_nd (x y : Nat) (w : World) : FM.one (nd x y w) = 9221120237041090561 := FM.one_nan (nd_nan x y w)

/-- the running sum's step -/
theorem sum_some {zs : Nat → Nat} {k s r : Nat} (hs : FM.one s = FM.sumk zs k) (h : Ieee.double.add s (zs (k + 1)) = some r) : FM.one r = FM.sumk zs (k + 1) := by
  show FM.one r = FM.can (Ieee.double.add (FM.sumk zs k) (zs (k + 1)))
  rw [FM.blind_add.same (x' := s) (y' := zs (k + 1)) ((FM.one_sumk zs k).trans hs.symm) rfl, h]
  rfl

theorem sum_none {zs : Nat → Nat} {k s : Nat} (w : World) (hs : FM.one s = FM.sumk zs k) (h : Ieee.double.add s (zs (k + 1)) = none) : FM.one (nd s (zs (k + 1)) w) = FM.sumk zs (k + 1) := by
  show _ = FM.can (Ieee.double.add (FM.sumk zs k) (zs (k + 1)))
  rw [FM.blind_add.same (x' := s) (y' := zs (k + 1)) ((FM.one_sumk zs k).trans hs.symm) rfl, h, one_nd]
  rfl

set_option maxHeartbeats 1000000 in
theorem sum_any {a : Option Addr} {n cap : Nat} {zs : Nat → Nat} {w : World} (hR : Row w a n zs) (hn : n ≤ 17592186044416) :
    Calls Try.prog 22 #[.slice a n cap] w fun e w' => e = .returned (.float .f64 (FM.fsum zs n)) ∧ ∃ m, w' = w.drewN m := by
  have HR := hide hR
  clear hR
  by_cases h0 : n = 0
  · subst h0
    go_enter Try.func22, Try.ntmps22
    go_wp2
    go_ret
    exact ⟨rfl, 0, rfl⟩
  · have e0 : ((n : Int) == 0) = false := by simp; omega
    obtain ⟨b, off, rfl, hb, hc⟩ := (unhide HR).at (by omega)
    have hc0 : w.cell? ⟨b, off, none⟩ = some (.float .f64 (zs 0)) := hc 0 (by omega)
    have HC := hide hc
    have hpos : 1 ≤ n := by omega
    clear hc hb
    go_enter Try.func22, Try.ntmps22
    go_wp2
    go_loopw [3, 14] (fun t i wr => ∃ k s m : Nat, k + 1 ≤ n ∧ i = .int .i64 k ∧ t = .float .f64 s ∧ FM.one s = FM.sumk zs k ∧ wr = w.drewN m) (fun _ i _ => n - (intOf i).toNat)
    case atStart => exact ⟨0, zs 0, 0, by omega, rfl, rfl, rfl, rfl⟩
    case round =>
      obtain ⟨k, s, m, hk, rfl, rfl, hs, rfl⟩ := hrel
      by_cases hlt : k + 1 < n
      · have hck : w.cell? ⟨b, off + (k + 1), none⟩ = some (.float .f64 (zs (k + 1))) := (unhide HC) (k + 1) hlt
        cases h : Ieee.double.add s (zs (k + 1)) with
        | some r =>
          have hq := fun t w => run_add_some t _ _ _ w h
          have E := hide (sum_some hs h)
          clear h hs hc0
          go_wp2
          go_roundw
          case rel => exact ⟨k + 1, r, m, by omega, by go_num, rfl, unhide E, rfl⟩
          case measure => simp [intOf]; omega
        | none =>
          have hq := fun t w => run_add_none t _ _ w h
          have E := hide fun w => sum_none w hs h
          clear h hs hc0
          go_wp2
          go_roundw
          case rel => exact ⟨k + 1, _, m + 1, by omega, by go_num, rfl, unhide E _, rfl⟩
          case measure => simp [intOf]; omega
      · have e : n = k + 1 := by omega
        have E := hide (show FM.one s = FM.fsum zs n by rw [hs, e]; rfl)
        have hnk : ¬ (k : Int) < (n : Int) - 1 := by omega
        clear hc0 hs e
        go_wp2_with (go_at_call 23; refine (one_any _ _).mono ?_; rintro e w' ⟨rfl, rfl⟩)
        go_ret
        exact ⟨ret_float (unhide E), m, rfl⟩

end Go.Proofs.Ytifmkphdmfechab
