/- Programs of layer 8, and how they lie in memory. -/
import Derived.Test.YtgheaieghoekhaaDoorBase
namespace Go.Proofs.YtgheaieghoekhaaDoor
open Go.RowKit

/-- an instruction -/
structure In where
  op : Int
  a : Int
  b : Int
  l : Int

/-- an item of a print -/
structure It where
  k : Int
  t : ByteArray

/-- a function -/
structure Fu where
  nm : ByteArray
  pa : Int
  sl : Int
  rs : Bool
  cd : List In

/-- a program -/
structure Pg where
  fs : List Fu
  ps : List (List It)
  ar : List (List Bool)
  mn : Int

/-! ### The table -/

def tA (k : Nat) : Nat := [0, 0, 1, 0, 2, 2, 2, 0, 0, 0, 0, 0, 0, 0, 0, 0, 0, 0, 0, 0, 0, 3, 3, 3, 4, 4, 0, 0, 0, 0, 0, 0, 0, 0, 0, 0, 0, 0, 0, 0, 0, 5, 0, 6].getD k 0
def tT (k : Nat) : Nat := [0, 0, 0, 0, 0, 1, 0, 1, 2, 2, 2, 2, 2, 1, 1, 2, 2, 2, 2, 2, 2, 0, 1, 1, 0, 0, 0, 1, 0, 0, 1, 2, 1, 1, 1, 1, 1, 1, 1, 2, 1, 0, 0, 0].getD k 0
def tG (k : Nat) : Nat := [0, 0, 1, 1, 1, 0, 0, 0, 1, 1, 1, 1, 1, 1, 1, 1, 1, 1, 1, 1, 1, 0, 0, 0, 0, 0, 0, 0, 1, 1, 1, 0, 1, 2, 0, 1, 1, 0, 0, 0, 0, 3, 0, 0].getD k 0
def tS (k : Nat) : Bool := decide (k = 21) || decide (k = 26) || decide (k = 27)

theorem tA_other {k : Nat} (h : k < 44) (h1 : ¬ k = 24) (h2 : ¬ k = 25) (h3 : ¬ k = 41) (h4 : ¬ k = 43) : tA k < 4 := by
  have : ∀ k : Fin 44, k.1 ≠ 24 → k.1 ≠ 25 → k.1 ≠ 41 → k.1 ≠ 43 → tA k.1 < 4 := by decide
  exact this ⟨k, h⟩ h1 h2 h3 h4

theorem tT_le {k : Nat} (h : k < 44) : tT k ≤ 2 := by
  have : ∀ k : Fin 44, tT k.1 ≤ 2 := by decide
  exact this ⟨k, h⟩
theorem tG_le {k : Nat} (h : k < 44) : tG k ≤ 3 := by
  have : ∀ k : Fin 44, tG k.1 ≤ 3 := by decide
  exact this ⟨k, h⟩

/-- the table in memory -/
def Tb (w : World) : Prop := ∀ k, k < 44 → w.cell? ⟨0, k * 4, none⟩ = some (.int .u8 (tA k : Int)) ∧ w.cell? ⟨0, k * 4 + 1, none⟩ = some (.int .u8 (tT k : Int)) ∧
  w.cell? ⟨0, k * 4 + 2, none⟩ = some (.int .u8 (tG k : Int)) ∧ w.cell? ⟨0, k * 4 + 3, none⟩ = some (.bool (tS k))

/-! ### In memory -/

/-- a slice of n, from here on, in a block below N -/
def Sl (N : Nat) (v : Value) (n b o : Nat) : Prop := ∃ a c, v = .slice a n c ∧ n ≤ c ∧ n ≤ 9223372036854775807 ∧ (0 < n → a = some ⟨b, o, none⟩ ∧ b < N)

/-- a list of elements of k cells each -/
def Lst {α : Type} (N k : Nat) (A : Nat → Nat → α → Prop) (v : Value) (l : List α) : Prop := ∃ b o, Sl N v l.length b o ∧ ∀ i (h : i < l.length), A b (o + i * k) l[i]

def InAt (w : World) (b o : Nat) (x : In) : Prop := w.cell? ⟨b, o, none⟩ = some (.int .i64 x.op) ∧ w.cell? ⟨b, o + 1, none⟩ = some (.int .i64 x.a) ∧ w.cell? ⟨b, o + 2, none⟩ = some (.int .i64 x.b) ∧ w.cell? ⟨b, o + 3, none⟩ = some (.int .i64 x.l)
def ItAt (w : World) (b o : Nat) (x : It) : Prop := w.cell? ⟨b, o, none⟩ = some (.int .i64 x.k) ∧ w.cell? ⟨b, o + 1, none⟩ = some (.string x.t)
def BoAt (w : World) (b o : Nat) (x : Bool) : Prop := w.cell? ⟨b, o, none⟩ = some (.bool x)
def FuAt (N : Nat) (w : World) (b o : Nat) (f : Fu) : Prop := ∃ v, w.cell? ⟨b, o, none⟩ = some (.string f.nm) ∧ w.cell? ⟨b, o + 1, none⟩ = some (.int .i64 f.pa) ∧ w.cell? ⟨b, o + 2, none⟩ = some (.int .i64 f.sl) ∧ w.cell? ⟨b, o + 3, none⟩ = some (.bool f.rs) ∧ w.cell? ⟨b, o + 4, none⟩ = some v ∧ Lst N 4 (InAt w) v f.cd
def PrAt (N : Nat) (w : World) (b o : Nat) (l : List It) : Prop := ∃ v, w.cell? ⟨b, o, none⟩ = some v ∧ Lst N 2 (ItAt w) v l
def ArAt (N : Nat) (w : World) (b o : Nat) (l : List Bool) : Prop := ∃ v, w.cell? ⟨b, o, none⟩ = some v ∧ Lst N 1 (BoAt w) v l

theorem Lst.imp {α : Type} {N N' k : Nat} {A B : Nat → Nat → α → Prop} {v : Value} {l : List α} (h : Lst N k A v l) (hN : N ≤ N') (hA : ∀ b o x, b < N → A b o x → B b o x) : Lst N' k B v l := by
  obtain ⟨b, o, ⟨a, c, h1, h2, h3, h4⟩, h5⟩ := h
  refine ⟨b, o, ⟨a, c, h1, h2, h3, fun h0 => ⟨(h4 h0).1, Nat.lt_of_lt_of_le (h4 h0).2 hN⟩⟩, fun i hi => hA _ _ _ (h4 (by omega)).2 (h5 i hi)⟩

section
variable {N : Nat} {w w' : World} (hb : Below N w w')
include hb
theorem cell_below {b o : Nat} (h : b < N) : w'.cell? ⟨b, o, none⟩ = w.cell? ⟨b, o, none⟩ := hb.cell (p := ⟨b, o, none⟩) h
theorem InAt.below {b o : Nat} {x : In} (h : b < N) (hx : InAt w b o x) : InAt w' b o x := by
  unfold InAt at *
  simp only [cell_below hb h]
  exact hx
theorem ItAt.below {b o : Nat} {x : It} (h : b < N) (hx : ItAt w b o x) : ItAt w' b o x := by
  unfold ItAt at *
  simp only [cell_below hb h]
  exact hx
theorem BoAt.below {b o : Nat} {x : Bool} (h : b < N) (hx : BoAt w b o x) : BoAt w' b o x := by
  unfold BoAt at *
  simp only [cell_below hb h]
  exact hx
theorem code_below {v : Value} {l : List In} (h : Lst N 4 (InAt w) v l) : Lst N 4 (InAt w') v l := h.imp (Nat.le_refl _) fun _ _ _ h0 => InAt.below hb h0
theorem items_below {v : Value} {l : List It} (h : Lst N 2 (ItAt w) v l) : Lst N 2 (ItAt w') v l := h.imp (Nat.le_refl _) fun _ _ _ h0 => ItAt.below hb h0
theorem bools_below {v : Value} {l : List Bool} (h : Lst N 1 (BoAt w) v l) : Lst N 1 (BoAt w') v l := h.imp (Nat.le_refl _) fun _ _ _ h0 => BoAt.below hb h0
theorem FuAt.below {b o : Nat} {f : Fu} (h : b < N) (hx : FuAt N w b o f) : FuAt N w' b o f := by
  obtain ⟨v, h1, h2, h3, h4, h5, h6⟩ := hx
  refine ⟨v, ?_, ?_, ?_, ?_, ?_, code_below hb h6⟩ <;> rw [cell_below hb h] <;> assumption
theorem PrAt.below {b o : Nat} {l : List It} (h : b < N) (hx : PrAt N w b o l) : PrAt N w' b o l := by
  obtain ⟨v, h1, h6⟩ := hx
  exact ⟨v, (cell_below hb h).trans h1, items_below hb h6⟩
theorem ArAt.below {b o : Nat} {l : List Bool} (h : b < N) (hx : ArAt N w b o l) : ArAt N w' b o l := by
  obtain ⟨v, h1, h6⟩ := hx
  exact ⟨v, (cell_below hb h).trans h1, bools_below hb h6⟩
end

/-- the program p lies in memory, in blocks below N -/
structure PgAt (N : Nat) (w : World) (v1 v2 v3 : Value) (p : Pg) : Prop where
  hf : Lst N 5 (FuAt N w) v1 p.fs
  hp : Lst N 1 (PrAt N w) v2 p.ps
  ha : Lst N 1 (ArAt N w) v3 p.ar

/-- the program, and the table -/
structure Gd (N : Nat) (w : World) (v1 v2 v3 : Value) (p : Pg) : Prop extends PgAt N w v1 v2 v3 p where
  le : N ≤ w.heap.size
  g : 0 < N
  t : Tb w

theorem Tb.below {N : Nat} {w w' : World} (h : Tb w) (hg : 0 < N) (hb : Below N w w') : Tb w' := fun k hk => by
  simp only [cell_below hb hg]
  exact h k hk

theorem PgAt.below {N : Nat} {w w' : World} {v1 v2 v3 : Value} {p : Pg} (h : PgAt N w v1 v2 v3 p) (hb : Below N w w') : PgAt N w' v1 v2 v3 p :=
  ⟨h.hf.imp (Nat.le_refl _) fun _ _ _ h0 => FuAt.below hb h0, h.hp.imp (Nat.le_refl _) fun _ _ _ h0 => PrAt.below hb h0, h.ha.imp (Nat.le_refl _) fun _ _ _ h0 => ArAt.below hb h0⟩

theorem Gd.below {N : Nat} {w w' : World} {v1 v2 v3 : Value} {p : Pg} (h : Gd N w v1 v2 v3 p) (hb : Below N w w') (hl : N ≤ w'.heap.size) : Gd N w' v1 v2 v3 p :=
  { h.toPgAt.below hb with le := hl, g := h.g, t := h.t.below h.g hb }

theorem Gd.alloc {N : Nat} {w : World} {v1 v2 v3 : Value} {p : Pg} (h : Gd N w v1 v2 v3 p) (o : Obj) : Gd N (w.alloc o) v1 v2 v3 p :=
  h.below ((Below.refl N w).alloc h.le o) (by have := h.le; simp; omega)

/-- a program, an instruction, a function as a value -/
abbrev pv (v1 v2 v3 : Value) (m : Int) : Value := .agg #[v1, v2, v3, .int .i64 m]
abbrev iv (i : In) : Value := .agg #[.int .i64 i.op, .int .i64 i.a, .int .i64 i.b, .int .i64 i.l]
abbrev fv (f : Fu) (v : Value) : Value := .agg #[.string f.nm, .int .i64 f.pa, .int .i64 f.sl, .bool f.rs, v]

end Go.Proofs.YtgheaieghoekhaaDoor
