/- Numbers as bytes: the writer's. -/
import Derived.Test.YtgheaieghoekhaaDoorEa
import Derived.Laws.BitsLemmas
namespace Go.Proofs.YtgheaieghoekhaaDoor
open Go.RowKit

/-- the byte number s of n, from the lowest one on -/
def nb (n : Int) (s : Nat) : UInt8 := UInt8.ofNat (n / 2 ^ (8 * s) % 256).toNat
/-- the lowest m bytes, the highest one first -/
def beb (n : Int) : Nat → List UInt8
  | 0 => []
  | s + 1 => nb n s :: beb n s

theorem nb_val (n : Int) (s : Nat) : ((nb n s).toNat : Int) = n / 2 ^ (8 * s) % 256 := by
  unfold nb
  have h0 : 0 ≤ n / 2 ^ (8 * s) % 256 := Int.emod_nonneg _ (by decide)
  have h1 : n / 2 ^ (8 * s) % 256 < 256 := Int.emod_lt_of_pos _ (by decide)
  rw [UInt8.toNat_ofNat']
  omega

theorem beb_len (n : Int) : ∀ m, (beb n m).length = m
  | 0 => rfl
  | m + 1 => by simp [beb, beb_len n m]

theorem wbyte_eq {N W : Nat} {acc : List UInt8} {w : World} {c : UInt8} {x : Int} (hx : x = (c.toNat : Int)) (h : Wr N W acc w) (hlen : acc.length + 1 ≤ 140737488355328) :
    Calls Tryd.prog 75 #[.pointer (some ⟨W, 0, none⟩), .int .u8 x] w fun e w' => e = .returned .nilIface ∧ Fx N W w w' ∧ Wr N W (acc ++ [c]) w' := by
  subst hx
  exact wbyte_is c h hlen

/-- a function that writes x -/
def Wrote (N W : Nat) (acc x : List UInt8) (w : World) (e : Ending) (w' : World) : Prop := e = .returned (.tuple #[]) ∧ Fx N W w w' ∧ Wr N W (acc ++ x) w'

set_option maxHeartbeats 4000000 in
theorem wnum_is {N W : Nat} {acc : List UInt8} {w : World} (n : Int) (m : Nat) (hm : m ≤ 8) (h : Wr N W acc w) (hlen : acc.length + m ≤ 140737488355328) :
    Calls Tryd.prog 52 #[.pointer (some ⟨W, 0, none⟩), .int .i64 n, .int .i64 (m : Int)] w fun e w' => Wrote N W acc (beb n m) w e w' := by
  have H := hide h
  clear h
  go_enter Tryd.func52, Tryd.ntmps52
  go_wp2
  go_loopw [2] (fun i wr => ∃ (k : Nat) (pre : List UInt8), k ≤ m ∧ i = .int .i64 k ∧ pre.length + k = m ∧ pre ++ beb n k = beb n m ∧ Fx N W w wr ∧ Wr N W (acc ++ pre) wr) (fun i _ => (intOf i).toNat)
  case atStart => exact ⟨m, [], Nat.le_refl _, rfl, by simp, by simp, Fx.refl _ _ _, by rw [List.append_nil]; exact unhide H⟩
  case round =>
    obtain ⟨k, pre, hk, rfl, hpl, hpe, hF, hW⟩ := hrel
    have HPE := hide hpe
    have HF := hide hF
    have HW := hide hW
    clear hpe hF hW H
    by_cases h0 : k = 0
    · subst h0
      go_wp2
      go_end0
      refine ⟨rfl, unhide HF, ?_⟩
      have := unhide HPE
      simp only [beb, List.append_nil] at this
      rw [← this]
      exact unhide HW
    · obtain ⟨j, rfl⟩ : ∃ j, k = j + 1 := ⟨k - 1, by omega⟩
      obtain ⟨-, p, v, -, hbk, -, -⟩ := unhide HW
      have c0 : wr.drew.cell? ⟨W, 0, none⟩ = some p := by rw [Lib.cell_of_heap (show wr.drew.heap[W]? = _ from hbk)]; rfl
      have e1 : IntKind.i64.wrap (8 * (j : Int)) = 8 * j := by rw [IntKind.wrap_i64]; omega
      have e2 : (8 * (j : Int)).toNat = 8 * j := by omega
      have e3 : 0 ≤ 8 * (j : Int) := by omega
      have e4 : 8 * (j : Int) ≤ 64 := by omega
      clear hbk
      go_wp2
      go_region_with (first | (go_at_call 75; refine (wbyte_eq (c := nb n j) (by rw [nb_val, IntKind.wrap_u8]) ((unhide HW).below (Below.refl _ _).drew) (by rw [List.length_append]; omega)).mono ?_; rintro e w5 ⟨rfl, hF5, hW5⟩; have HF5 := hide hF5; have HW5 := hide hW5; clear hF5 hW5))
      all_goals
        go_wp2
        go_roundw
        case rel => exact ⟨j, pre ++ [nb n j], by omega, by go_num, by simp; omega, by rw [List.append_assoc]; exact unhide HPE, (unhide HF).trans ((Fx.of_below (Below.refl _ _).drew (unhide HW).nle).trans (unhide HF5)), by rw [← List.append_assoc]; exact unhide HW5⟩
        case measure => simp [intOf]

end Go.Proofs.YtgheaieghoekhaaDoor
