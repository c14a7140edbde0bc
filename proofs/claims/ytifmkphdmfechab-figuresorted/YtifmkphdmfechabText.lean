/- Text of any number: the sixteen digits of its bits. -/
import Derived.Test.YtifmkphdmfechabBasic2
import Derived.Test.YtifmkphdmfechabTxm
namespace Go.Proofs.Ytifmkphdmfechab
open Go.RowKit
attribute [local go_sem] run_fb run_ff unary_neg_f

theorem Try.info5 : (Try.prog.info? 5).map (fun i => (i.zero, i.size, i.bytes)) = some (some (.int .u8 0), 1, 1) := by kernel_rfl

def z16 : Array Value := madeCells (Value.int .u8 0).cells 16

theorem mk_bytes16 (w : World) : (Instr.makeSlice 46 (.int .i64 16) (.int .i64 16)).run Try.prog w = .ok (.slice (some ⟨w.heap.size, 0, none⟩) 16 16) (w.alloc (.cells z16 5)) := by
  obtain ⟨i, hi, hz0, hz1, hz2⟩ := info_parts Try.info5
  have h := run_make (P := Try.prog) w 46 5 i (.int .u8 0) Try.underlying46 hi hz0 .i64 .i64 16 16 (by decide) (by decide) (by rw [hz2]; decide) (by decide)
  rw [hz1] at h
  exact h

theorem hexd_at (n : Nat) (h : n < ({ data := #[48, 49, 50, 51, 52, 53, 54, 55, 56, 57, 97, 98, 99, 100, 101, 102] } : ByteArray).size) :
    ((({ data := #[48, 49, 50, 51, 52, 53, 54, 55, 56, 57, 97, 98, 99, 100, 101, 102] } : ByteArray)[n]'h).toNat : Int) = hexd n := by
  have key : ∀ m : Fin 16, ((({ data := #[48, 49, 50, 51, 52, 53, 54, 55, 56, 57, 97, 98, 99, 100, 101, 102] } : ByteArray)[m.val]'m.isLt).toNat : Int) = hexd m.val := by decide
  exact key ⟨n, h⟩

/-- what stands at place j behind k rounds -/
def dg (y k j : Nat) : Int := if 16 ≤ k + j then hexd (y / 16 ^ (15 - j) % 16) else 0

theorem z16_cell (w : World) (y j : Nat) (h : j < 16) : (w.alloc (.cells z16 5)).cell? ⟨w.heap.size, j, none⟩ = some (.int .u8 (dg y 0 j)) := by
  rw [World.cell?_alloc_new]
  have e : dg y 0 j = 0 := by unfold dg; rw [if_neg (by omega)]
  rw [e]
  simp [z16, madeCells, Value.cells, h, Nat.mod_one]

theorem text_step {wr : World} {B y k : Nat} (hk : k < 16) (hc : ∀ j, j < 16 → wr.cell? ⟨B, j, none⟩ = some (.int .u8 (dg y k j))) :
    ∀ j, j < 16 → (wr.setCell ⟨B, 15 - k, none⟩ (.int .u8 (hexd (y / 16 ^ k % 16)))).cell? ⟨B, j, none⟩ = some (.int .u8 (dg y (k + 1) j)) := by
  intro j hj
  by_cases e : j = 15 - k
  · subst e
    rw [World.cell?_setCell_same _ _ _ (hc _ hj)]
    unfold dg
    rw [if_pos (by omega), show 15 - (15 - k) = k from by omega]
  · rw [World.cell?_setCell_other _ _ _ _ (by intro h; injection h with _ h _; omega), hc j hj]
    unfold dg
    by_cases h : 16 ≤ k + j
    · rw [if_pos h, if_pos (by omega)]
    · rw [if_neg h, if_neg (by omega)]

theorem text_conv {wr : World} {B y : Nat} (hc : ∀ j, j < 16 → wr.cell? ⟨B, j, none⟩ = some (.int .u8 (dg y 16 j))) :
    (convert 46 9 (.slice (some ⟨B, 0, none⟩) 16 16)).run Try.prog wr = .ok (.string (strOfNums (textL y))) wr := by
  refine run_convert_bytes_arg wr 46 5 Try.underlying46 Try.underlying5 B 0 16 16 (textL y) (by simp [textL]) ?_ 9 Try.underlying9
  intro i hi
  rw [Nat.zero_add, hc i hi]
  unfold dg textL
  rw [if_pos (by omega)]
  simp [hi]

set_option maxHeartbeats 1000000 in
theorem text_any (x : Nat) (w : World) (hx : FM.one x < 18446744073709551616) :
    Calls Try.prog 14 #[.float .f64 x] w fun e w' => e = .returned (.string (strOfNums (textL (FM.one x)))) ∧ Below w.heap.size w w' := by
  have hmk := mk_bytes16
  go_enter Try.func14, Try.ntmps14
  go_wp2_with (go_at_call 23; refine (one_any _ _).mono ?_; rintro e w' ⟨rfl, rfl⟩)
  clear hmk
  go_loopw [3, 10] (fun t i wr => ∃ k : Nat, k ≤ 16 ∧ i = .int .i64 k ∧ t = .int .u64 ((FM.one x / 16 ^ k : Nat) : Int) ∧
     (∀ j, j < 16 → wr.cell? ⟨w'.heap.size, j, none⟩ = some (.int .u8 (dg (FM.one x) k j))) ∧ (∀ j, wr.frozen? ⟨w'.heap.size, j, none⟩ = false) ∧ Below w'.heap.size w' wr) (fun _ i _ => 16 - (intOf i).toNat)
  case atStart => exact ⟨0, by omega, rfl, by simp, fun j hj => z16_cell _ _ j hj, fun j => World.frozen?_alloc_new _ _ _ _, (Below.refl _ _).alloc (Nat.le_refl _) _⟩
  case round =>
    obtain ⟨k, hk, rfl, rfl, hc, hf, hb⟩ := hrel
    by_cases hlt : k < 16
    · have hck := hc (15 - k) (by omega)
      have hfk := hf (15 - k)
      have hst := hide (text_step hlt hc)
      have HF := hide hf
      have hy : FM.one x / 16 ^ k ≤ FM.one x := Nat.div_le_self _ _
      have HY := hide (show FM.one x / 16 ^ (k + 1) = FM.one x / 16 ^ k / 16 by rw [Nat.pow_succ, Nat.div_div_eq_div_mul])
      clear hc hf
      generalize FM.one x / 16 ^ k = y at *
      go_wp2
      go_roundw
      case rel => exact ⟨k + 1, by omega, by go_num, by rw [unhide HY]; go_num, by rw [hexd_at]; exact unhide hst, fun j => (World.frozen?_setCell ..).trans (unhide HF j), hb.setCell (Nat.le_refl _) _⟩
      case measure => simp [intOf]; omega
    · have e : k = 16 := by omega
      subst e
      have hcv := text_conv hc
      clear hc
      go_wp2
      go_ret
      exact ⟨rfl, hb⟩

end Go.Proofs.Ytifmkphdmfechab
