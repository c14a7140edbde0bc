/- Lists in memory of their own. -/
import Derived.Test.YtgheaieghoekhaaDoorDc
import Derived.Deep.RegionWith
namespace Go.Proofs.YtgheaieghoekhaaDoor
open Go.RowKit

/-- a list in a block from B on, below M -/
def LstR {α : Type} (B M K : Nat) (A : Nat → Nat → α → Prop) (v : Value) (l : List α) : Prop :=
  ∃ b o, (∃ a c, v = .slice a l.length c ∧ l.length ≤ c ∧ l.length ≤ 140737488355328 ∧ (0 < l.length → a = some ⟨b, o, none⟩ ∧ B ≤ b ∧ b < M)) ∧ ∀ i (h : i < l.length), A b (o + i * K) l[i]

theorem LstR.imp {α : Type} {B B' M M' K : Nat} {A A' : Nat → Nat → α → Prop} {v : Value} {l : List α} (h : LstR B M K A v l) (hB : B' ≤ B) (hM : M ≤ M') (hA : ∀ b o x, B ≤ b → b < M → A b o x → A' b o x) : LstR B' M' K A' v l := by
  obtain ⟨b, o, ⟨a, c, h1, h2, h3, h4⟩, h5⟩ := h
  exact ⟨b, o, ⟨a, c, h1, h2, h3, fun h0 => ⟨(h4 h0).1, Nat.le_trans hB (h4 h0).2.1, Nat.lt_of_lt_of_le (h4 h0).2.2 hM⟩⟩, fun i hi => hA _ _ _ (h4 (by omega)).2.1 (h4 (by omega)).2.2 (h5 i hi)⟩

theorem LstR.toL {α : Type} {B M K : Nat} {A A' : Nat → Nat → α → Prop} {v : Value} {l : List α} (h : LstR B M K A v l) (hA : ∀ b o x, B ≤ b → b < M → A b o x → A' b o x) : Lst M K A' v l := by
  obtain ⟨b, o, ⟨a, c, h1, h2, h3, h4⟩, h5⟩ := h
  exact ⟨b, o, ⟨a, c, h1, h2, Nat.le_trans h3 (by decide), fun h0 => ⟨(h4 h0).1, (h4 h0).2.2⟩⟩, fun i hi => hA _ _ _ (h4 (by omega)).2.1 (h4 (by omega)).2.2 (h5 i hi)⟩

def FuR (B M : Nat) (w : World) (b o : Nat) (f : Fu) : Prop := ∃ v, w.cell? ⟨b, o, none⟩ = some (.string f.nm) ∧ w.cell? ⟨b, o + 1, none⟩ = some (.int .i64 f.pa) ∧ w.cell? ⟨b, o + 2, none⟩ = some (.int .i64 f.sl) ∧ w.cell? ⟨b, o + 3, none⟩ = some (.bool f.rs) ∧ w.cell? ⟨b, o + 4, none⟩ = some v ∧ LstR B M 4 (InAt w) v f.cd
def PrR (B M : Nat) (w : World) (b o : Nat) (l : List It) : Prop := ∃ v, w.cell? ⟨b, o, none⟩ = some v ∧ LstR B M 2 (ItAt w) v l
def ArR (B M : Nat) (w : World) (b o : Nat) (l : List Bool) : Prop := ∃ v, w.cell? ⟨b, o, none⟩ = some v ∧ LstR B M 1 (BoAt w) v l

section
variable {w w' : World} {B M : Nat} (hc : ∀ b o, B ≤ b → b < M → w'.cell? ⟨b, o, none⟩ = w.cell? ⟨b, o, none⟩)
include hc
theorem InAt.same {b o : Nat} {x : In} (h1 : B ≤ b) (h2 : b < M) (h : InAt w b o x) : InAt w' b o x := by
  unfold InAt at *
  simp only [hc b _ h1 h2]
  exact h
theorem ItAt.same {b o : Nat} {x : It} (h1 : B ≤ b) (h2 : b < M) (h : ItAt w b o x) : ItAt w' b o x := by
  unfold ItAt at *
  simp only [hc b _ h1 h2]
  exact h
theorem BoAt.same {b o : Nat} {x : Bool} (h1 : B ≤ b) (h2 : b < M) (h : BoAt w b o x) : BoAt w' b o x := by
  unfold BoAt at *
  simp only [hc b _ h1 h2]
  exact h
end

/-- the cells from o on, k of them, are alike -/
def Alk (w w' : World) (b o k : Nat) : Prop := ∀ j, j < k → w'.cell? ⟨b, o + j, none⟩ = w.cell? ⟨b, o + j, none⟩

theorem InAt.alk {w w' : World} {b o : Nat} {x : In} (h : InAt w b o x) (ha : Alk w w' b o 4) : InAt w' b o x := by
  obtain ⟨h1, h2, h3, h4⟩ := h
  exact ⟨(ha 0 (by omega)).trans h1, (ha 1 (by omega)).trans h2, (ha 2 (by omega)).trans h3, (ha 3 (by omega)).trans h4⟩
theorem ItAt.alk {w w' : World} {b o : Nat} {x : It} (h : ItAt w b o x) (ha : Alk w w' b o 2) : ItAt w' b o x := by
  obtain ⟨h1, h2⟩ := h
  exact ⟨(ha 0 (by omega)).trans h1, (ha 1 (by omega)).trans h2⟩
theorem BoAt.alk {w w' : World} {b o : Nat} {x : Bool} (h : BoAt w b o x) (ha : Alk w w' b o 1) : BoAt w' b o x := (ha 0 (by omega)).trans h
theorem FuR.alk {w w' : World} {B M M' b o : Nat} {x : Fu} (h : FuR B M w b o x) (ha : Alk w w' b o 5) (hc : ∀ b o, B ≤ b → b < M → w'.cell? ⟨b, o, none⟩ = w.cell? ⟨b, o, none⟩) (hM : M ≤ M') : FuR B M' w' b o x := by
  obtain ⟨v, h1, h2, h3, h4, h5, h6⟩ := h
  exact ⟨v, (ha 0 (by omega)).trans h1, (ha 1 (by omega)).trans h2, (ha 2 (by omega)).trans h3, (ha 3 (by omega)).trans h4, (ha 4 (by omega)).trans h5, h6.imp (Nat.le_refl _) hM fun _ _ _ g1 g2 => InAt.same hc g1 g2⟩
theorem PrR.alk {w w' : World} {B M M' b o : Nat} {x : List It} (h : PrR B M w b o x) (ha : Alk w w' b o 1) (hc : ∀ b o, B ≤ b → b < M → w'.cell? ⟨b, o, none⟩ = w.cell? ⟨b, o, none⟩) (hM : M ≤ M') : PrR B M' w' b o x := by
  obtain ⟨v, h1, h6⟩ := h
  exact ⟨v, (ha 0 (by omega)).trans h1, h6.imp (Nat.le_refl _) hM fun _ _ _ g1 g2 => ItAt.same hc g1 g2⟩
theorem ArR.alk {w w' : World} {B M M' b o : Nat} {x : List Bool} (h : ArR B M w b o x) (ha : Alk w w' b o 1) (hc : ∀ b o, B ≤ b → b < M → w'.cell? ⟨b, o, none⟩ = w.cell? ⟨b, o, none⟩) (hM : M ≤ M') : ArR B M' w' b o x := by
  obtain ⟨v, h1, h6⟩ := h
  exact ⟨v, (ha 0 (by omega)).trans h1, h6.imp (Nat.le_refl _) hM fun _ _ _ g1 g2 => BoAt.same hc g1 g2⟩

theorem Keep.same {R B : Nat} {w w' : World} (h : Keep R w w') (hB : R < B) : ∀ b o, B ≤ b → b < w.heap.size → w'.cell? ⟨b, o, none⟩ = w.cell? ⟨b, o, none⟩ := fun _ _ h1 h2 => h.cellO h2 (by omega)
theorem Keep.alk {R : Nat} {w w' : World} (h : Keep R w w') {b : Nat} (hb : b < w.heap.size) (hne : b ≠ R) (o k : Nat) : Alk w w' b o k := fun _ _ => h.cellO hb hne
theorem set_cellB (w : World) (D i : Nat) (v : Value) {b : Nat} (hb : b ≠ D) (o : Nat) : (w.setCell ⟨D, i, none⟩ v).cell? ⟨b, o, none⟩ = w.cell? ⟨b, o, none⟩ := World.cell?_of_block (w := w) (Below.heap_setCell _ _ _ _ hb)
theorem set_cellO (w : World) (D i : Nat) (v : Value) {o : Nat} (ho : o ≠ i) : (w.setCell ⟨D, i, none⟩ v).cell? ⟨D, o, none⟩ = w.cell? ⟨D, o, none⟩ := World.cell?_setCell_other _ _ _ _ (by
  intro h
  injection h with _ h _
  exact ho h.symm)
/-- cells set behind -/
theorem set_alk (w : World) (D i : Nat) (v : Value) {o k : Nat} (h : o + k ≤ i) : Alk w (w.setCell ⟨D, i, none⟩ v) D o k := fun j hj => set_cellO w D i v (by omega)
theorem Alk.trans {a b c : World} {B o k : Nat} (h : Alk a b B o k) (h' : Alk b c B o k) : Alk a c B o k := fun j hj => (h' j hj).trans (h j hj)

theorem need_eq (v : Value) {b : Bool} (hb : b = true) (w : World) : Calls Tryd.prog 23 #[v, .bool b] w fun e w' => e = .returned (.tuple #[]) ∧ w' = w := by
  subst hb
  exact need_ok v w

theorem gMany_zero {α : Type} {one : List UInt8 → Option (α × List UInt8)} {l r : List UInt8} {xs : List α} (h : gMany one 0 l = some (xs, r)) : xs = [] ∧ r = l := by
  injection h with h
  injection h with h1 h2
  exact ⟨h1.symm, h2.symm⟩
theorem gMany_succ {α : Type} {one : List UInt8 → Option (α × List UInt8)} {n : Nat} {l r : List UInt8} {xs : List α} (h : gMany one (n + 1) l = some (xs, r)) : ∃ x ys r1, xs = x :: ys ∧ one l = some (x, r1) ∧ gMany one n r1 = some (ys, r) := by
  obtain ⟨⟨x, r1⟩, g1, h⟩ := bind_some h
  obtain ⟨⟨ys, r2⟩, g2, h⟩ := bind_some h
  injection h with h
  injection h with h1 h2
  subst h1 h2
  exact ⟨x, ys, r1, rfl, g1, g2⟩
theorem gMany_len {α : Type} {one : List UInt8 → Option (α × List UInt8)} : ∀ {n : Nat} {l r : List UInt8} {xs : List α}, gMany one n l = some (xs, r) → xs.length = n
  | 0, _, _, _, h => by rw [(gMany_zero h).1]; rfl
  | n + 1, _, _, _, h => by
    obtain ⟨x, ys, r1, rfl, _, g⟩ := gMany_succ h
    rw [List.length_cons, gMany_len g]

theorem gNum_len {k : Nat} {l r : List UInt8} {x : Int} (h : gNum k l = some (x, r)) : r.length ≤ l.length := by rw [(gNum_some h).2.2, List.length_drop]; omega
theorem gTake_rest {n : Int} {l r : List UInt8} {t : ByteArray} (h : gTake n l = some (t, r)) : r.length ≤ l.length := by
  unfold gTake at h
  split at h
  · injection h with h
    injection h with h1 h2
    subst h2
    rw [List.length_drop]
    omega
  · cases h
theorem len_text {l r : List UInt8} {x : ByteArray} (h : gText l = some (x, r)) : r.length ≤ l.length := by
  obtain ⟨⟨n, r1⟩, g1, h⟩ := bind_some h
  exact Nat.le_trans (gTake_rest h) (gNum_len g1)
theorem len_bools {l r : List UInt8} {x : Bool} (h : gFlag l = some (x, r)) : r.length ≤ l.length := by
  obtain ⟨⟨n, r1⟩, g1, h⟩ := bind_some h
  simp only at h
  split at h
  · injection h with h
    injection h with h1 h2
    subst h2
    exact gNum_len g1
  · cases h
theorem len_inss {l r : List UInt8} {x : In} (h : gIns l = some (x, r)) : r.length ≤ l.length := by
  obtain ⟨⟨x1, r1⟩, g1, h⟩ := bind_some h
  obtain ⟨⟨x2, r2⟩, g2, h⟩ := bind_some h
  obtain ⟨⟨x3, r3⟩, g3, h⟩ := bind_some h
  obtain ⟨⟨x4, r4⟩, g4, h⟩ := bind_some h
  injection h with h
  injection h with e1 e2
  subst e2
  have := gNum_len g1
  have := gNum_len g2
  have := gNum_len g3
  have := gNum_len g4
  simp only at *
  omega
theorem len_items {l r : List UInt8} {x : It} (h : gItem l = some (x, r)) : r.length ≤ l.length := by
  obtain ⟨⟨k, r1⟩, g1, h⟩ := bind_some h
  simp only at h
  split at h
  · obtain ⟨⟨t, r2⟩, g2, h⟩ := bind_some h
    injection h with h
    injection h with e1 e2
    subst e2
    exact Nat.le_trans (len_text g2) (gNum_len g1)
  · injection h with h
    injection h with e1 e2
    subst e2
    exact gNum_len g1
theorem len_many {α : Type} {one : List UInt8 → Option (α × List UInt8)} (ho : ∀ {l r x}, one l = some (x, r) → r.length ≤ l.length) : ∀ {n : Nat} {l r : List UInt8} {xs : List α}, gMany one n l = some (xs, r) → r.length ≤ l.length
  | 0, _, _, _, h => by rw [(gMany_zero h).2]; exact Nat.le_refl _
  | n + 1, _, _, _, h => by
    obtain ⟨x, ys, r1, rfl, g1, g⟩ := gMany_succ h
    exact Nat.le_trans (len_many ho g) (ho g1)
theorem len_list {α : Type} {one : List UInt8 → Option (α × List UInt8)} (ho : ∀ {l r x}, one l = some (x, r) → r.length ≤ l.length) {size least : Nat} {most : Int} {l r : List UInt8} {xs : List α} (h : gList one size most least l = some (xs, r)) : r.length ≤ l.length := by
  obtain ⟨⟨c, r1⟩, g1, h⟩ := bind_some h
  simp only at h
  split at h
  · exact Nat.le_trans (len_many ho h) (gNum_len g1)
  · cases h
theorem len_prints {l r : List UInt8} {x : List It} (h : gPrint l = some (x, r)) : r.length ≤ l.length := len_list len_items h
theorem len_armss {l r : List UInt8} {x : List Bool} (h : gArm l = some (x, r)) : r.length ≤ l.length := len_list len_bools h
theorem len_funs {l r : List UInt8} {x : Fu} (h : gFun l = some (x, r)) : r.length ≤ l.length := by
  obtain ⟨⟨x1, r1⟩, g1, h⟩ := bind_some h
  obtain ⟨⟨x2, r2⟩, g2, h⟩ := bind_some h
  obtain ⟨⟨x3, r3⟩, g3, h⟩ := bind_some h
  obtain ⟨⟨x4, r4⟩, g4, h⟩ := bind_some h
  obtain ⟨⟨x5, r5⟩, g5, h⟩ := bind_some h
  injection h with h
  injection h with e1 e2
  subst e2
  have := len_text g1
  have := gNum_len g2
  have := gNum_len g3
  have := len_bools g4
  have := len_list len_inss g5
  simp only at *
  omega

theorem gList_some {α : Type} {one : List UInt8 → Option (α × List UInt8)} {size least : Nat} {most : Int} {l r : List UInt8} {xs : List α} (h : gList one size most least l = some (xs, r)) (hs : size ≤ 7) :
    ∃ (n : Nat) (r1 : List UInt8), gNum size l = some ((n : Int), r1) ∧ (n : Int) ≤ most ∧ n ≤ r1.length / least ∧ gMany one n r1 = some (xs, r) := by
  obtain ⟨⟨c, r1⟩, g1, h⟩ := bind_some h
  simp only at h
  split at h
  · rename_i hc
    obtain ⟨n, rfl, _⟩ := gNum_small g1 hs
    exact ⟨n, r1, g1, hc.1, by omega, by simpa using h⟩
  · cases h

end Go.Proofs.YtgheaieghoekhaaDoor
