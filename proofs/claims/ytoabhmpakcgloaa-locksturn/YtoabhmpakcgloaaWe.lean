/- Layer 11: the document's book: the lists. -/
import Derived.Test.YtoabhmpakcgloaaWd
import Derived.Deep.RegionHeld3
namespace Go.Proofs.Ytoabhmpakcgloaa
open Go.RowKit

theorem nfRc : (Try.prog.info? 114).map (fun i => (i.zero, i.size, i.bytes)) = some (some (rcV zRc), 11, 56) := by kernel_rfl
theorem nf_open {P : Program} {T : TypeId} {z : Value} {k b : Nat} (h : (P.info? T).map (fun i => (i.zero, i.size, i.bytes)) = some (some z, k, b)) : ∃ i, P.info? T = some i ∧ i.zero = some z ∧ i.size = k ∧ i.bytes = b := by
  cases hi : P.info? T with
  | none => rw [hi] at h; cases h
  | some i =>
    rw [hi] at h
    simp only [Option.map_some, Option.some.injEq, Prod.mk.injEq] at h
    exact ⟨i, rfl, h.1, h.2.1, h.2.2⟩
/-- a new block's cells, one by one -/
theorem row_new (V : World) (cs : List Value) (T : TypeId) {n : Nat} (hn : V.heap.size = n) : ∀ (j : Nat) (u : Value), cs[j]? = some u → (V.alloc (.cells cs.toArray T)).cell? ((⟨n, 0, none⟩ : Addr).add j) = some u := by
  intro j u hu
  subst hn
  rw [Addr.add_lit, Nat.zero_add, Lib.cell_of_heap (heap_new V (.cells cs.toArray T))]
  simpa using hu
theorem rcF_one (r : Rc) : ∀ u ∈ rcF r, u.oneCell' = true := by
  intro u hu
  simp only [rcF, List.mem_cons, List.not_mem_nil, or_false] at hu
  rcases hu with rfl | rfl | rfl | rfl | rfl | rfl | rfl | rfl | rfl | rfl | rfl <;> rfl

end Go.Proofs.Ytoabhmpakcgloaa
