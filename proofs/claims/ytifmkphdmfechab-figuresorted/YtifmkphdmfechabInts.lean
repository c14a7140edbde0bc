/- A list of integers in memory. -/
import Derived.Test.YtifmkphdmfechabLift
namespace Go.Proofs.Ytifmkphdmfechab
open Go.ChangeShapes Go.WideShapes Go.ChangeAt Go.RowKit Go.Deep

/-- the first n places of a slice hold the integers vs -/
def IRow (w : World) (a : Option Addr) (n : Nat) (vs : Nat → Int) : Prop :=
  n = 0 ∨ ∃ b off, a = some ⟨b, off, none⟩ ∧ b < w.heap.size ∧ ∀ i, i < n → w.cell? ⟨b, off + i, none⟩ = some (.int .i64 (vs i))

theorem IRow.at {w : World} {a : Option Addr} {n : Nat} {vs : Nat → Int} (h : IRow w a n vs) (hn : 0 < n) :
    ∃ b off, a = some ⟨b, off, none⟩ ∧ b < w.heap.size ∧ ∀ i, i < n → w.cell? ⟨b, off + i, none⟩ = some (.int .i64 (vs i)) := by
  rcases h with h | h
  · omega
  · exact h

theorem IRow.below {w w' : World} {a : Option Addr} {n : Nat} {vs : Nat → Int} (h : IRow w a n vs) (hb : Below w.heap.size w w') : IRow w' a n vs := by
  rcases h with h | ⟨b, off, h1, h2, h3⟩
  · exact Or.inl h
  · exact Or.inr ⟨b, off, h1, Nat.lt_of_lt_of_le h2 hb.size, fun i hi => (hb.cell (p := ⟨b, off + i, none⟩) h2).trans (h3 i hi)⟩

theorem IRow.drewN {w : World} {a : Option Addr} {n : Nat} {vs : Nat → Int} (h : IRow w a n vs) (m : Nat) : IRow (w.drewN m) a n vs := h

/-- a list that came in -/
theorem ints_of_trod {H : Type} {enc : TypeId × Value → H} {W : World} {a : Option Addr} {len cap : Nat} {d : DataW H} {p : List MemPlace}
    (h : DataW.Trod enc Try.prog W 0 (fun _ => true) true 27 (.slice a len cap) d p) :
    ∃ vs : Nat → Int, IRow W a len vs ∧ (∀ i, i < len → -9223372036854775808 ≤ vs i ∧ vs i ≤ 9223372036854775807) ∧ (len = 0 ∨ ∃ elems spare, d = .slice elems spare ∧ len ≤ elems.length + spare.length) := by
  obtain ⟨fuel, hf⟩ := h
  rcases open_slice1 Try.underlying27 (by kernel_rfl) hf with ⟨hcs, _⟩ | ⟨x, l, c, m, n, V, D, Pl, hcs, _, hl, hm, hmm, hx, hcell⟩
  · simp [Value.cells] at hcs
    obtain ⟨rfl, rfl, rfl⟩ := hcs
    exact ⟨fun _ => 0, Or.inl rfl, fun i hi => by omega, Or.inl rfl⟩
  · simp [Value.cells] at hcs
    obtain ⟨rfl, rfl, rfl⟩ := hcs
    simp only [if_true] at hmm
    subst hmm
    by_cases h0 : len = 0
    · subst h0
      exact ⟨fun _ => 0, Or.inl rfl, fun i hi => by omega, Or.inl rfl⟩
    · obtain ⟨vs, hvs⟩ := choose_lt (α := Int) (n := m) (p := fun i z => V i = .int .i64 z ∧ -9223372036854775808 ≤ z ∧ z ≤ 9223372036854775807) (fun i hi => by
        obtain ⟨z, h1, _, h3⟩ := DataW.trod_int Try.underlying3 (hcell i hi).2
        refine ⟨z, by simpa using h1, ?_⟩
        exact bounds_i64 h3)
      obtain ⟨b, off, spot⟩ := x
      have hspot : spot = none := by simpa [Addr.add] using World.cell?_spot (hcell 0 (by omega)).1
      subst hspot
      have hplain : ∀ i, (⟨b, off, none⟩ : Addr).add i = ⟨b, off + i, none⟩ := by intro i; unfold Addr.add; split <;> simp_all
      have hc : ∀ i, i < len → W.cell? ⟨b, off + i, none⟩ = some (.int .i64 (vs i)) := by
        intro i hi
        rw [← hplain i, (hcell i (by omega)).1, (hvs i (by omega)).1]
      refine ⟨vs, Or.inr ⟨b, off, rfl, cell_lt (hc 0 (by omega)), hc⟩, fun i hi => (hvs i (by omega)).2, Or.inr ⟨_, _, (Prod.mk.inj hx).1, by simp⟩⟩

theorem Try.bytesI : Try.prog.bytesOf 3 = 8 := by kernel_rfl

end Go.Proofs.Ytifmkphdmfechab
