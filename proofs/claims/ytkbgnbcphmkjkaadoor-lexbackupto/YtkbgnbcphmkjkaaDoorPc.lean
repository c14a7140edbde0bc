/- The program's lexer: what it keeps in memory as it goes; comments passed by; a token put in. -/
import Derived.Test.YtkbgnbcphmkjkaaDoorPn
import Derived.Test.YtkbgnbcphmkjkaaDoorLxF
namespace Go.Proofs.YtkbgnbcphmkjkaaDoor
open Go.RowKit

/-- the reader's block -/
structure ScAt (w : World) (B : Nat) (s : ByteArray) (k ln : Nat) (sg tv : Value) (op : Bool) : Prop where
  blk : w.heap[B]? = some (.cells #[.string s, .int .i64 (k : Int), .int .i64 (ln : Int), sg, tv, .bool op] 44 (0, 0))

section
variable {w w' : World} {B : Nat} {s : ByteArray} {k ln : Nat} {sg tv : Value} {op : Bool}

theorem ScAt.cell (h : ScAt w B s k ln sg tv op) : w.cell? ⟨B, 0, none⟩ = some (.string s) ∧ w.cell? ⟨B, 1, none⟩ = some (.int .i64 (k : Int)) ∧ w.cell? ⟨B, 2, none⟩ = some (.int .i64 (ln : Int)) ∧ w.cell? ⟨B, 3, none⟩ = some sg ∧ w.cell? ⟨B, 4, none⟩ = some tv ∧ w.cell? ⟨B, 5, none⟩ = some (.bool op) := by
  have h := h.blk
  exact ⟨by simp [World.cell?, h], by simp [World.cell?, h], by simp [World.cell?, h], by simp [World.cell?, h], by simp [World.cell?, h], by simp [World.cell?, h]⟩
theorem ScAt.froz (h : ScAt w B s k ln sg tv op) (i : Nat) : w.frozen? ⟨B, i, none⟩ = false := by
  have h := h.blk
  simp [World.frozen?, h]
theorem ScAt.lt (h : ScAt w B s k ln sg tv op) : B < w.heap.size := (Array.getElem?_eq_some_iff.1 h.blk).1
theorem ScAt.same (h : ScAt w B s k ln sg tv op) (hb : w'.heap[B]? = w.heap[B]?) : ScAt w' B s k ln sg tv op := ⟨hb.trans h.blk⟩
theorem ScAt.below {C : Nat} (h : ScAt w B s k ln sg tv op) (hb : Below C w w') (hB : B < C) : ScAt w' B s k ln sg tv op := h.same (hb.block B hB)
theorem ScAt.grown {v : Value} (h : ScAt w B s k ln sg tv op) (hg : w.grownBy w' v.ownBlock) (hv : ∀ j, v.ownBlock = some j → B + 1 ≤ j) : ScAt w' B s k ln sg tv op :=
  h.same (hg.block B h.lt (fun e => by have := hv B e.symm; omega))
theorem ScAt.setAt (h : ScAt w B s k ln sg tv op) {z : Int} (k' : Nat) (hz : z = (k' : Int)) : ScAt (w.setCell ⟨B, 1, none⟩ (.int .i64 z)) B s k' ln sg tv op := by
  subst hz
  have h := h.blk
  exact ⟨by simp [World.setCell, Array.getElem?_modify, h]⟩
theorem ScAt.setLine (h : ScAt w B s k ln sg tv op) {z : Int} (ln' : Nat) (hz : z = (ln' : Int)) : ScAt (w.setCell ⟨B, 2, none⟩ (.int .i64 z)) B s k ln' sg tv op := by
  subst hz
  have h := h.blk
  exact ⟨by simp [World.setCell, Array.getElem?_modify, h]⟩
theorem ScAt.setToks (h : ScAt w B s k ln sg tv op) (v : Value) : ScAt (w.setCell ⟨B, 4, none⟩ v) B s k ln sg v op := by
  have h := h.blk
  exact ⟨by simp [World.setCell, Array.getElem?_modify, h]⟩
theorem ScAt.setOpen (h : ScAt w B s k ln sg tv op) (b : Bool) : ScAt (w.setCell ⟨B, 5, none⟩ (.bool b)) B s k ln sg tv b := by
  have h := h.blk
  exact ⟨by simp [World.setCell, Array.getElem?_modify, h]⟩

theorem ScAt.drew (h : ScAt w B s k ln sg tv op) (m : Nat) : ScAt (w.drewN m) B s k ln sg tv op := ⟨h.blk⟩
theorem ScAt.toK {k' : Nat} (h : ScAt w B s k ln sg tv op) (e : k' = k) : ScAt w B s k' ln sg tv op := e ▸ h

end

/-- where a reader stands, by its block -/
def atOf (w : World) (B : Nat) : Nat := match w.cell? ⟨B, 1, none⟩ with | some (.int _ z) => z.toNat | _ => 0
theorem ScAt.at_ {w : World} {B : Nat} {s : ByteArray} {k ln : Nat} {sg tv : Value} {op : Bool} (h : ScAt w B s k ln sg tv op) : atOf w B = k := by
  unfold atOf
  rw [h.cell.2.1]
  rfl

/-- nothing but one block has changed -/
structure Only (B : Nat) (w w' : World) : Prop where
  below : Below B w w'
  other : ∀ i, i ≠ B → w'.heap[i]? = w.heap[i]?

theorem Only.refl (B : Nat) (w : World) (h : B ≤ w.heap.size) : Only B w w := ⟨(Below.refl w.heap.size w).mono h, fun _ _ => rfl⟩
theorem Only.setCell {B : Nat} {a w : World} (h : Only B a w) (i : Nat) (v : Value) : Only B a (w.setCell ⟨B, i, none⟩ v) :=
  ⟨h.below.setCell (Nat.le_refl _) v, fun j hj => by rw [← h.other j hj]; simp [World.setCell, Array.getElem?_modify, Ne.symm hj]⟩
theorem Only.drew {B : Nat} {a w : World} (h : Only B a w) (m : Nat) : Only B a (w.drewN m) := ⟨below_dn h.below m, h.other⟩
theorem OwnT.only {w w' : World} {B : Nat} {v : Value} {l : List Tok} (h : OwnT w (B + 1) v l) (ho : Only B w w') : OwnT w' (B + 1) v l := by
  obtain ⟨h1, h2⟩ := h
  refine ⟨h1, ?_⟩
  rcases h2 with h2 | ⟨g, cap, cur, rfl, hB, hg, hr⟩
  · exact Or.inl h2
  · exact Or.inr ⟨g, cap, cur, rfl, hB, (ho.other g (by omega)).trans hg, hr⟩

set_option maxHeartbeats 2000000 in
theorem passcomment_any {w : World} {B : Nat} {s : ByteArray} {k ln : Nat} {sg tv : Value} {op : Bool} (hs : s.size ≤ 70368744177000) (hk : k ≤ s.size) (h : ScAt w B s k ln sg tv op) :
    Calls Tryd.prog 26 #[.pointer (some ⟨B, 0, none⟩)] w fun e w' => e = .returned (.tuple #[]) ∧ ScAt w' B s (k + upTo10 (s.data.toList.drop k)) ln sg tv op ∧ Only B w w' := by
  have HS := hide h
  have HO := hide (Only.refl B w (Nat.le_of_lt h.lt))
  clear h
  go_enter Tryd.func26, Tryd.ntmps26
  go_wp2
  go_loopw [2] (fun _ wr => ∃ j : Nat, j ≤ s.size ∧ ScAt wr B s j ln sg tv op ∧ Only B w wr ∧ k + upTo10 (s.data.toList.drop k) = j + upTo10 (s.data.toList.drop j)) (fun _ wr => s.size - atOf wr B)
  case atStart => exact ⟨k, hk, unhide HS, unhide HO, rfl⟩
  case round =>
    obtain ⟨j, hj, hS, hO, hu⟩ := hrel
    have HS := hide hS
    have HO := hide hO
    have HM := hide hS.at_
    obtain ⟨c0, c1, c2, c3, c4, c5⟩ := hS.cell
    have f := fun i => hS.froz i
    clear hS hO
    by_cases hlt : j < s.size
    · have hb := by_at s j hlt
      by_cases h10 : (by_ s j).toNat = 10
      · have q : (((by_ s j).toNat : Int) != 10) = false := by simp; omega
        have E := hide (show k + upTo10 (s.data.toList.drop k) = j by rw [hu, up_stop hlt h10]; rfl)
        clear hu h10
        go_wp2
        go_quiet (fail)
        go_wp2
        go_end0
        exact ⟨rfl, (unhide HS).drew nq |>.toK (unhide E), (unhide HO).drew nq⟩
      · have q : (((by_ s j).toNat : Int) != 10) = true := by simp; omega
        have HN := hide (show k + upTo10 (s.data.toList.drop k) = j + 1 + upTo10 (s.data.toList.drop (j + 1)) by rw [hu, up_step hlt h10]; omega)
        clear hu h10
        go_wp2
        go_quiet (fail)
        go_wp2
        go_roundw
        case rel => exact ⟨j + 1, by omega, ((unhide HS).drew nq).setAt (j + 1) (by go_num), ((unhide HO).drew nq).setCell 1 _, unhide HN⟩
        case measure =>
          rw [(((unhide HS).drew nq).setAt (j + 1) (by go_num)).at_, unhide HM]
          omega
    · have q : decide ((j : Int) < (s.size : Int)) = false := decide_eq_false (by omega)
      have E := hide (show k + upTo10 (s.data.toList.drop k) = j by rw [hu, up_end hlt]; rfl)
      clear hu
      go_wp2
      go_quiet (fail)
      go_wp2
      go_end0
      exact ⟨rfl, (unhide HS).drew nq |>.toK (unhide E), (unhide HO).drew nq⟩

end Go.Proofs.YtkbgnbcphmkjkaaDoor
