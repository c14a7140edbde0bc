/- The document's Rank; are two lists alike? -/
import Derived.Test.YtifmkphdmfechabRankM
import Derived.Test.YtifmkphdmfechabInts
import Derived.Test.YtifmkphdmfechabKeep
namespace Go.Proofs.Ytifmkphdmfechab
open Go.RowKit

theorem Try.infoI : (Try.prog.info? 3).map (fun i => (i.zero, i.size, i.bytes)) = some (some (.int .i64 0), 1, 8) := by kernel_rfl

/-- n new cells of 0 -/
def mcI (n : Nat) : Array Value := madeCells (Value.int .i64 0).cells n

theorem mk_ints (n : Nat) (w : World) (hn : n ≤ 35184372088832) : (Instr.makeSlice 27 (.int .i64 (n : Int)) (.int .i64 (n : Int))).run Try.prog w = .ok (.slice (some ⟨w.heap.size, 0, none⟩) n n) (w.alloc (.cells (mcI n) 3)) := by
  obtain ⟨i, hi, hz0, hz1, hz2⟩ := info_parts Try.infoI
  have h := run_make (P := Try.prog) w 27 3 i (.int .i64 0) Try.underlying27 hi hz0 .i64 .i64 (n : Int) (n : Int) (by omega) (by omega) (by rw [hz2]; omega) (by omega)
  rw [hz1, Nat.mul_one, Int.toNat_natCast] at h
  exact h

theorem mcI_size (n : Nat) : (mcI n).size = n := size_madeCells _ _

theorem blk_ints (w : World) (n : Nat) : Blk (w.alloc (.cells (mcI n) 3)) w.heap.size n 3 := by
  have h := Blk.new w (mcI n) 3
  rw [mcI_size] at h
  exact h

theorem drewN_add {wr w : World} {m : Nat} (h : wr = w.drewN m) (k : Nat) : wr.drewN k = w.drewN (m + k) := by rw [h, World.drewN_drewN]

theorem blk_drewN {w : World} {C n : Nat} {e : TypeId} (h : Blk w C n e) (m : Nat) : Blk (w.drewN m) C n e := h
theorem below_dn2 {B : Nat} {a w : World} (h : Below B a w) (n : Nat) : Below B a (w.drewN n) := ⟨h.os, h.tape, h.output, h.size, h.block⟩

theorem ranked_step {w : World} {C n i : Nat} {zs : Nat → Nat} (hB : Blk w C n 3) (hi : i < n) (h : ∀ j, j < i → w.cell? ⟨C, cntR zs j n, none⟩ = some (.int .i64 j)) :
    ∀ j, j < i + 1 → (w.setCell ⟨C, cntR zs i n, none⟩ (.int .i64 i)).cell? ⟨C, cntR zs j n, none⟩ = some (.int .i64 j) := by
  intro j hj
  by_cases e : j = i
  · subst e
    obtain ⟨u, hu⟩ := hB.cell (cntR zs j n) (cntR_lt zs hi)
    exact World.cell?_setCell_same _ _ _ hu
  · rw [World.cell?_setCell_other _ _ _ _ (by
      intro h1
      injection h1 with _ h1 _
      exact e (cntR_inj (by omega) hi h1.symm))]
    exact h j (by omega)

end Go.Proofs.Ytifmkphdmfechab
