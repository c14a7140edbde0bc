/- A list of tokens in memory, read. -/
import Derived.Test.YtjkogjmbmkopiaaDoorPg
import Derived.Test.YtjkogjmbmkopiaaDoorLz
namespace Go.Proofs.YtjkogjmbmkopiaaDoor
open Go.RowKit

/-- tokens in a block -/
structure RowAt (w : World) (g : Nat) (l : List Tok) : Prop where
  lt : g < w.heap.size
  cell : ∀ i (h : i < l.length), w.cell? ⟨g, i * 5, none⟩ = some (.int .i64 l[i].k) ∧ w.cell? ⟨g, i * 5 + 1, none⟩ = some (.string ⟨l[i].t.toArray⟩) ∧ w.cell? ⟨g, i * 5 + 2, none⟩ = some (.int .i64 l[i].n) ∧ w.cell? ⟨g, i * 5 + 3, none⟩ = some (.int .i64 (l[i].at_ : Int)) ∧ w.cell? ⟨g, i * 5 + 4, none⟩ = some (.int .i64 (l[i].line : Int))

theorem toksC_get : ∀ (l : List Tok) (i c : Nat) (h : i < l.length) (_ : c < 5), (toksC l)[i * 5 + c]? = (tokC l[i])[c]? := by
  intro l
  induction l with
  | nil => intro i c h; cases h
  | cons t r ih =>
    intro i c h hc
    unfold toksC
    cases i with
    | zero =>
      rw [Nat.zero_mul, Nat.zero_add, List.getElem?_append_left (by simp [tokC]; exact hc)]
      rfl
    | succ i =>
      rw [List.getElem?_append_right (by simp [tokC]; omega)]
      have e : (i + 1) * 5 + c - (tokC t).length = i * 5 + c := by simp [tokC]; omega
      rw [e, ih i c (by rw [List.length_cons] at h; omega) hc]
      rfl

theorem OwnT.row {w : World} {B : Nat} {v : Value} {l : List Tok} (h : OwnT w B v l) (hp : 0 < l.length) : ∃ g cap, v = .slice (some ⟨g, 0, none⟩) l.length cap ∧ B ≤ g ∧ RowAt w g l := by
  have h0 := h
  rcases h with ⟨_, ⟨_, hn⟩ | ⟨g, cap, cur, rfl, hB, hg, hr⟩⟩
  · omega
  · refine ⟨g, cap, rfl, hB, (Array.getElem?_eq_some_iff.1 hg).1, fun i hi => ?_⟩
    have key : ∀ c u, c < 5 → (tokC l[i])[c]? = some u → w.cell? ⟨g, i * 5 + c, none⟩ = some u := fun c u hc e => by
      have h1 := World.ownsRow.cells h0 (g := g) rfl (i * 5 + c) u ((toksC_get l i c hi hc).trans e)
      rwa [show (⟨g, 0, none⟩ : Addr).add (i * 5 + c) = ⟨g, i * 5 + c, none⟩ by simp [Addr.add]; intros; omega] at h1
    exact ⟨key 0 _ (by decide) rfl, key 1 _ (by decide) rfl, key 2 _ (by decide) rfl, key 3 _ (by decide) rfl, key 4 _ (by decide) rfl⟩

theorem RowAt.below {w w' : World} {g C : Nat} {l : List Tok} (h : RowAt w g l) (hb : Below C w w') (hg : g < C) (hC : C ≤ w.heap.size) : RowAt w' g l :=
  ⟨Nat.lt_of_lt_of_le hg (Nat.le_trans hC (Nat.le_trans (by have := hb.size; omega) (Nat.le_refl _))), fun i hi => by
    have := h.cell i hi
    have e := hb.block g hg
    unfold World.cell? at this ⊢
    simp only [e]
    exact this⟩
theorem RowAt.dn {w : World} {g : Nat} {l : List Tok} (h : RowAt w g l) (m : Nat) : RowAt (w.drewN m) g l := ⟨h.lt, h.cell⟩

end Go.Proofs.YtjkogjmbmkopiaaDoor
