/- A list of bytes that is appended to. -/
import Derived.Test.YtkbgnbcphmkjkaaDoorQuom
import Derived.OwnWalk
namespace Go.Proofs.YtkbgnbcphmkjkaaDoor
open Go.RowKit

/-- the list holds these bytes, in a block of its own from B on -/
def Own (w : World) (B : Nat) (v : Value) (acc : List UInt8) : Prop := w.ownsRow B 5 1 v acc.length (Lib.byteCells acc)

theorem Tryd.infoB : (Tryd.prog.info? 5).map (fun i => (i.zero, i.size, i.bytes)) = some (some (.int .u8 0), 1, 1) := by kernel_rfl

theorem own_conv {w : World} {B : Nat} {v : Value} {acc : List UInt8} (h : Own w B v acc) : (convert 55 9 v).run Tryd.prog w = .ok (.string ⟨acc.toArray⟩) w := by
  have h0 := h
  obtain ⟨hl, h⟩ := h
  rcases h with ⟨rfl, hn⟩ | ⟨g, cap, cur, rfl, hB, hg, hn, hm, hsz, ht⟩
  · have e : acc = [] := List.length_eq_zero_iff.1 hn
    subst e
    exact run_convert_bytes_nil w 55 5 Tryd.underlying55 Tryd.underlying5 0 0 9 Tryd.underlying9
  · refine run_convert_bytes_back w 55 9 5 ⟨g, 0, none⟩ cap acc Tryd.underlying55 Tryd.underlying5 Tryd.underlying9 ?_
    intro j hj
    have h2 := World.ownsRow.cells h0 (g := g) rfl j (.int .u8 (acc[j].toNat : Int)) (by
      unfold Lib.byteCells
      rw [List.getElem?_map, List.getElem?_eq_getElem hj]
      rfl)
    exact h2

theorem one_new (w : World) (v : Value) (t : TypeId) : ∀ (j : Nat) (u : Value), [v][j]? = some u → (w.alloc (.cells #[v] t)).cell? ((⟨w.heap.size, 0, none⟩ : Addr).add j) = some u := by
  intro j u hj
  match j, hj with
  | 0, hj => simp at hj; subst hj; simp [Addr.add]

theorem two_new (w : World) (v v' : Value) (t : TypeId) : ∀ (j : Nat) (u : Value), [v, v'][j]? = some u → (w.alloc (.cells #[v, v'] t)).cell? ((⟨w.heap.size, 0, none⟩ : Addr).add j) = some u := by
  intro j u hj
  match j, hj with
  | 0, hj => simp at hj; subst hj; simp [Addr.add]
  | 1, hj => simp at hj; subst hj; simp [Addr.add]

theorem Own.nil (w : World) (B : Nat) : Own w B (.slice none 0 0) [] := World.ownsRow_nil _ _ _ _

theorem Own.drewN {w : World} {B : Nat} {v : Value} {acc : List UInt8} (h : Own w B v acc) (m : Nat) : Own (w.drewN m) B v acc := h

theorem Own.one {w : World} {B : Nat} {v : Value} {acc : List UInt8} {c : UInt8} (h : w.ownsRow B 5 1 v (acc.length + 1) (Lib.byteCells acc ++ [.int .u8 (c.toNat : Int)])) : Own w B v (acc ++ [c]) := by
  unfold Own
  rw [← cells_snoc, List.length_append]
  exact h

theorem Own.two {w : World} {B : Nat} {v : Value} {acc : List UInt8} {c d : UInt8} (h : w.ownsRow B 5 1 v (acc.length + 2) (Lib.byteCells acc ++ [.int .u8 (c.toNat : Int), .int .u8 (d.toNat : Int)])) : Own w B v (acc ++ [c, d]) := by
  unfold Own
  rw [List.length_append, Lib.byteCells_append]
  exact h

theorem own_block {w : World} {B n : Nat} {e : TypeId} {v : Value} {xs : List Value} (h : w.ownsRow B e 1 v n xs) : ∀ k, v.ownBlock = some k → B ≤ k := by
  rcases h with ⟨_, ⟨rfl, rfl⟩ | ⟨g, cap, cur, rfl, hB, _⟩⟩
  · intro k hk; cases hk
  · intro k hk; cases hk; exact hB

theorem own_start (w : World) : Own (w.alloc (.cells #[.int .u8 34] 5)) w.heap.size (.slice (some ⟨w.heap.size, 0, none⟩) 1 1) [34] :=
  ⟨rfl, Or.inr ⟨w.heap.size, 1, #[.int .u8 34], rfl, Nat.le_refl _, (MapKept.heap_alloc w _).1, Nat.le_refl _, by decide, rfl, rfl⟩⟩

end Go.Proofs.YtkbgnbcphmkjkaaDoor
