/- Rows of nodes that a call makes and appends to. -/
import Derived.Test.YtnclmlhmmljfgaaGreatDoorTh
import Derived.Maps.AppendAt
import Derived.OwnWalk
namespace Go.Proofs.YtnclmlhmmljfgaaGreatDoor
open Go.RowKit

/-- a node's cells -/
def ncs (p : Nd × Value) : List Value := [.int .i64 p.1.k, .string p.1.t, .int .i64 p.1.n, .string p.1.y, .int .i64 p.1.s, .int .i64 p.1.a, .int .i64 p.1.l, p.2]
def rowC (L : List (Nd × Value)) : List Value := L.flatMap ncs

theorem rowC_len : ∀ (L : List (Nd × Value)), (rowC L).length = L.length * 8
  | [] => rfl
  | p :: r => by
    have := rowC_len r
    unfold rowC at this ⊢
    simp only [List.flatMap_cons, List.length_append, List.length_cons, this]
    simp [ncs]
    omega

theorem rowC_snoc (L : List (Nd × Value)) (p : Nd × Value) : rowC (L ++ [p]) = rowC L ++ ncs p := by simp [rowC]

theorem rowC_get : ∀ (L : List (Nd × Value)) (i : Nat) (h : i < L.length) (j : Nat), j < 8 → (rowC L)[i * 8 + j]? = (ncs L[i])[j]?
  | p :: r, 0, _, j, hj => by
    unfold rowC
    simp only [List.flatMap_cons, Nat.zero_mul, Nat.zero_add, List.getElem_cons_zero]
    rw [List.getElem?_append_left (by simp [ncs]; omega)]
  | p :: r, i + 1, h, j, hj => by
    have := rowC_get r i (by simpa using h) j hj
    unfold rowC at this ⊢
    simp only [List.flatMap_cons, List.getElem_cons_succ]
    rw [List.getElem?_append_right (by simp [ncs]; omega), show (i + 1) * 8 + j - (ncs p).length = i * 8 + j by simp [ncs]; omega]
    exact this

theorem row_of_cells {w : World} {g : Nat} {L : List (Nd × Value)} {ts : List Tr} {m : Md} {S : Nat → Prop} (hc : ∀ j u, (rowC L)[j]? = some u → w.cell? ⟨g, j, none⟩ = some u) (hl : L.length = ts.length)
    (hk : ∀ i (h : i < ts.length) (h' : i < L.length), L[i].1 = ts[i].f ∧ Kids w m S L[i].2 ts[i].ks) : RowAt w m S g 0 ts := by
  refine RowAt.mk fun i hi => ?_
  have hi' : i < L.length := by omega
  obtain ⟨h1, h2⟩ := hk i hi hi'
  have at8 : ∀ j u, j < 8 → (ncs L[i])[j]? = some u → w.cell? ⟨g, 0 + i * 8 + j, none⟩ = some u := fun j u hj hu => by
    rw [show 0 + i * 8 + j = i * 8 + j by omega]
    exact hc _ _ ((rowC_get L i hi' j hj).trans hu)
  exact NodeAt.shut (v := L[i].2) (at8 0 _ (by omega) (by simp [ncs, h1])) (at8 1 _ (by omega) (by simp [ncs, h1])) (at8 2 _ (by omega) (by simp [ncs, h1])) (at8 3 _ (by omega) (by simp [ncs, h1])) (at8 4 _ (by omega) (by simp [ncs, h1])) (at8 5 _ (by omega) (by simp [ncs, h1])) (at8 6 _ (by omega) (by simp [ncs, h1])) (at8 7 _ (by omega) (by simp [ncs])) h2

/-- the call's own row of nodes -/
def OwnN (w : World) (B : Nat) (v : Value) (L : List (Nd × Value)) : Prop := w.ownsRow B 25 8 v L.length (rowC L)

theorem OwnN.nil (w : World) (B : Nat) : OwnN w B (.slice none 0 0) [] := World.ownsRow_nil _ _ _ _

theorem OwnN.same {w w' : World} {B : Nat} {v : Value} {L : List (Nd × Value)} (h : OwnN w B v L) (hs : ∀ g, v.ownBlock = some g → w'.heap[g]? = w.heap[g]?) : OwnN w' B v L := by
  obtain ⟨h1, h2⟩ := h
  refine ⟨h1, ?_⟩
  rcases h2 with h2 | ⟨g, cap, cur, rfl, hB, hg, hr⟩
  · exact Or.inl h2
  · exact Or.inr ⟨g, cap, cur, rfl, hB, (hs g rfl).trans hg, hr⟩

theorem OwnN.blk {w : World} {B : Nat} {v : Value} {L : List (Nd × Value)} (h : OwnN w B v L) : ∀ g, v.ownBlock = some g → B ≤ g ∧ g < w.heap.size := by
  intro g hg
  rcases h.2 with ⟨rfl, _⟩ | ⟨g', cap, cur, rfl, hB, hg', hr⟩
  · cases hg
  · cases hg
    exact ⟨hB, (Array.getElem?_eq_some_iff.1 hg').1⟩

theorem OwnN.form {w : World} {B : Nat} {v : Value} {L : List (Nd × Value)} (h : OwnN w B v L) : ∃ a c, v = .slice a L.length c ∧ ∀ g, v.ownBlock = some g → a = some ⟨g, 0, none⟩ := by
  rcases h.2 with ⟨rfl, h0⟩ | ⟨g, cap, cur, rfl, hB, hg', hr⟩
  · exact ⟨none, 0, by rw [h0], fun g hg => by cases hg⟩
  · exact ⟨_, _, rfl, fun g hg => by cases hg; rfl⟩

/-- the row, as a list of nodes -/
theorem OwnN.kids {w : World} {B : Nat} {v : Value} {L : List (Nd × Value)} {ts : List Tr} {mk : Bool} {S : Nat → Prop} (h : OwnN w B v L) (hl : L.length = ts.length) (hS : ∀ g, v.ownBlock = some g → S g) (hn : ts.length ≤ 65536)
    (hk : ∀ i (h : i < ts.length) (h' : i < L.length), L[i].1 = ts[i].f ∧ Kids w ⟨true, false⟩ S L[i].2 ts[i].ks) (hm : mk = false) : Kids w ⟨true, mk⟩ S v ts := by
  subst hm
  have hc := fun g => World.ownsRow.cells (g := g) h
  rcases h.2 with ⟨rfl, h0⟩ | ⟨g, cap, cur, rfl, hB, hg, hr⟩
  · have : ts = [] := List.eq_nil_of_length_eq_zero (by omega)
    subst this
    exact Kids.nil _ rfl _ _ _
  · have hrow : RowAt w ⟨true, false⟩ S g 0 ts := row_of_cells (fun j u hu => by
      have := hc g rfl j u hu
      rwa [show (⟨g, 0, none⟩ : Addr).add j = ⟨g, j, none⟩ by unfold Addr.add; split <;> simp_all] at this) hl hk
    rw [hl]
    refine ⟨g, 0, ⟨?_, fun e => by cases e⟩, hrow⟩
    by_cases h0 : ts.length = 0
    · exact Or.inl ⟨h0, _, _, by rw [h0]⟩
    · exact Or.inr ⟨by omega, hS g rfl, fun _ => ⟨cur, _, hg⟩, cap, by omega, rfl⟩

/-- the mark -/
def mkNd : Nd := ⟨0, bhd, 0, ⟨#[]⟩, 0, 0, 0⟩

/-- the row with a mark behind it, cut ahead of the mark -/
theorem OwnN.marked {w : World} {B : Nat} {v : Value} {L : List (Nd × Value)} {ts : List Tr} {S : Nat → Prop} (h : OwnN w B v (L ++ [(mkNd, .slice none 0 0)])) (hl : L.length = ts.length) (hS : ∀ g, v.ownBlock = some g → S g) (hn : ts.length ≤ 65536)
    (hk : ∀ i (h : i < ts.length) (h' : i < L.length), L[i].1 = ts[i].f ∧ Kids w ⟨true, true⟩ S L[i].2 ts[i].ks) : ∃ g c, v = .slice (some ⟨g, 0, none⟩) (ts.length + 1) c ∧ ts.length + 1 ≤ c ∧ Kids w ⟨true, true⟩ S (.slice (some ⟨g, 0, none⟩) ts.length c) ts := by
  have hc := fun g => World.ownsRow.cells (g := g) h
  rcases h.2 with ⟨rfl, h0⟩ | ⟨g, cap, cur, rfl, hB, hg, hle, hr⟩
  · simp at h0
  · have hc' : ∀ j u, (rowC L ++ ncs (mkNd, .slice none 0 0))[j]? = some u → w.cell? ⟨g, j, none⟩ = some u := fun j u hu => by
      have := hc g rfl j u (by rw [rowC_snoc]; exact hu)
      rwa [show (⟨g, 0, none⟩ : Addr).add j = ⟨g, j, none⟩ by unfold Addr.add; split <;> simp_all] at this
    have hrow : RowAt w ⟨true, true⟩ S g 0 ts := row_of_cells (fun j u hu => hc' j u (by
      rw [List.getElem?_append_left (List.getElem?_eq_some_iff.1 hu).1]
      exact hu)) hl hk
    have hmark : w.cell? ⟨g, 0 + ts.length * 8 + 1, none⟩ = some (.string bhd) := hc' _ _ (by
      rw [List.getElem?_append_right (by rw [rowC_len]; omega), rowC_len, hl, show 0 + ts.length * 8 + 1 - ts.length * 8 = 1 by omega]
      rfl)
    have hlen : (L ++ [(mkNd, Value.slice none 0 0)]).length = ts.length + 1 := by simp [hl]
    rw [hlen] at hle
    refine ⟨g, cap, by rw [hlen], hle, g, 0, ⟨?_, fun _ => ⟨cap, rfl, hle, hS g rfl, hmark⟩⟩, hrow⟩
    by_cases h0 : ts.length = 0
    · exact Or.inl ⟨h0, _, _, by rw [h0]⟩
    · exact Or.inr ⟨by omega, hS g rfl, fun _ => ⟨cur, _, hg⟩, cap, by omega, rfl⟩

theorem Tryz.infoN : (Tryz.prog.info? 25).map (fun i => (i.zero, i.size, i.bytes)) = some (some (.agg #[.int .i64 0, .string ⟨#[]⟩, .int .i64 0, .string ⟨#[]⟩, .int .i64 0, .int .i64 0, .int .i64 0, .slice none 0 0]), 8, 96) := by kernel_rfl

/-- one node laid for an append -/
theorem node_new (w : World) (f : Nd) (u : Value) : ∀ (j : Nat) (x : Value), (ncs (f, u))[j]? = some x → (w.alloc (.cells #[.int .i64 f.k, .string f.t, .int .i64 f.n, .string f.y, .int .i64 f.s, .int .i64 f.a, .int .i64 f.l, u] 25)).cell? ((⟨w.heap.size, 0, none⟩ : Addr).add j) = some x := by
  intro j x hj
  have hj8 : j < 8 := by
    have := (List.getElem?_eq_some_iff.1 hj).1
    simpa [ncs] using this
  match j, hj8, hj with
  | 0, _, hj => simp [ncs] at hj; subst hj; simp [Addr.add]
  | 1, _, hj => simp [ncs] at hj; subst hj; simp [Addr.add]
  | 2, _, hj => simp [ncs] at hj; subst hj; simp [Addr.add]
  | 3, _, hj => simp [ncs] at hj; subst hj; simp [Addr.add]
  | 4, _, hj => simp [ncs] at hj; subst hj; simp [Addr.add]
  | 5, _, hj => simp [ncs] at hj; subst hj; simp [Addr.add]
  | 6, _, hj => simp [ncs] at hj; subst hj; simp [Addr.add]
  | 7, _, hj => simp [ncs] at hj; subst hj; simp [Addr.add]

theorem node_one (f : Nd) {u : Value} (hu : u.oneCell' = true) : ∀ x ∈ ncs (f, u), x.oneCell' = true := by
  intro x hx
  simp only [ncs, List.mem_cons, List.not_mem_nil, or_false] at hx
  rcases hx with rfl | rfl | rfl | rfl | rfl | rfl | rfl | rfl <;> first | rfl | exact hu

/-- append, as one step of a region that draws its order: where the new slice lies -/
theorem step_append_at {P : Program} {ops : Array Oper} {o : Oper} {a : Act} {w : World} {K : Act → World → Prop} {Q : Exit → Act → World → Prop} {E : Prop}
    (hg : o.guard = none) (s x : Operand) (t : TypeId) (hop : o.op = Op.call { callee := Callee.builtin Builtin.append, args := #[s, x], argTypes := #[t, t] })
    (B : Nat) (e : TypeId) (i : TypeInfo) (z : Value) (size bytes : Nat) (h1 : P.underlying t = some (.slice e)) (h2 : P.info? e = some i) (h3 : i.zero = some z) (h4 : i.size = size) (h5 : i.bytes = bytes) (h6 : z.cells.size = size) (h7 : 0 < size)
    (v : Value) (n : Nat) (xs : List Value) (hs : a.eval s = v) (hown : w.ownsRow B e size v n xs)
    (ad : Addr) (m c : Nat) (news : List Value) (hx : a.eval x = .slice (some ad) m c) (hn : news.length = m * size) (hc : ∀ j u, news[j]? = some u → w.cell? (ad.add j) = some u) (h1c : ∀ u ∈ news, u.oneCell' = true)
    (b1 : n + m ≤ maxLen) (b2 : (n + m) * bytes ≤ 140737488355328) (hB : B ≤ w.heap.size)
    (hK : ∀ v' w', w'.ownsRow B e size v' (n + m) (xs ++ news) → w.grownBy w' v.ownBlock → (v'.ownBlock = v.ownBlock ∨ v'.ownBlock = some w.heap.size) → K (a.put o.dst v') w') :
    if Region.wanted o (yielded ops a.tmps) = true then Oper.wp P o a w K Q else E := by
  have hw : Region.wanted o (yielded ops a.tmps) = true := by simp [Region.wanted, hg]
  rw [if_pos hw]
  obtain ⟨v', w', hrun, r1, r2, _, r3⟩ := run_append_own_at (P := P) w B t o.type e i z size bytes h1 h2 h3 h4 h5 h6 h7 v n xs hown ad m c news hn hc h1c b1 b2 hB
  unfold Oper.wp
  simp [execOp, hop, resolve, invoke, builtin, hs, hx, hrun, Result.andThen]
  exact hK v' w' r1 r2 r3

/-- all but some blocks is as it was; there may be new ones -/
structure Ex (X : Nat → Prop) (w w' : World) : Prop where
  os : w'.os = w.os
  tape : w'.tape = w.tape
  output : w'.output = w.output
  size : w.heap.size ≤ w'.heap.size
  block : ∀ i, i < w.heap.size → ¬ X i → w'.heap[i]? = w.heap[i]?

theorem Ex.refl (X : Nat → Prop) (w : World) : Ex X w w := ⟨rfl, rfl, rfl, Nat.le_refl _, fun _ _ _ => rfl⟩
theorem Ex.drew (X : Nat → Prop) (w : World) : Ex X w w.drew := ⟨rfl, rfl, rfl, Nat.le_refl _, fun _ _ _ => rfl⟩
theorem Ex.trans {X : Nat → Prop} {a b c : World} (h : Ex X a b) (k : Ex X b c) : Ex X a c :=
  ⟨k.os.trans h.os, k.tape.trans h.tape, k.output.trans h.output, Nat.le_trans h.size k.size, fun i hi hx => (k.block i (Nat.lt_of_lt_of_le hi h.size) hx).trans (h.block i hi hx)⟩
theorem Ex.of_below {X : Nat → Prop} {a b : World} (h : Below a.heap.size a b) : Ex X a b := ⟨h.os, h.tape, h.output, h.size, fun i hi _ => h.block i hi⟩
theorem Ex.of_grown {X : Nat → Prop} {a b : World} {r : Option Nat} (h : a.grownBy b r) (hr : ∀ i, r = some i → X i) : Ex X a b := ⟨h.os, h.tape, h.output, h.size, fun i hi hx => h.block i hi fun e => hx (hr i e.symm)⟩
theorem Ex.setCell {X : Nat → Prop} (w : World) (b o : Nat) (v : Value) (hb : X b) : Ex X w (w.setCell ⟨b, o, none⟩ v) :=
  ⟨rfl, rfl, rfl, by simp [World.setCell], fun i _ hx => Below.heap_setCell _ _ _ _ (fun e => hx (by rw [e]; exact hb))⟩
theorem Ex.mono {X Y : Nat → Prop} {a b : World} (h : Ex X a b) (hxy : ∀ i, i < a.heap.size → X i → Y i) : Ex Y a b := ⟨h.os, h.tape, h.output, h.size, fun i hi hy => h.block i hi fun hx => hy (hxy i hi hx)⟩
theorem Ex.below {X : Nat → Prop} {M : Nat} {w a b : World} (h0 : Below M w a) (h : Ex X a b) (hX : ∀ i, i < M → ¬ X i) (hM : M ≤ a.heap.size) : Below M w b :=
  ⟨h.os.trans h0.os, h.tape.trans h0.tape, h.output.trans h0.output, Nat.le_trans h0.size h.size, fun i hi => (h.block i (Nat.lt_of_lt_of_le hi hM) (hX i hi)).trans (h0.block i hi)⟩
theorem Ex.agree {X S : Nat → Prop} {a b : World} (h : Ex X a b) (hS : ∀ i, S i → i < a.heap.size ∧ ¬ X i) : Agree S a b := fun i hi => h.block i (hS i hi).1 (hS i hi).2
theorem Ex.cell {X : Nat → Prop} {a b : World} (h : Ex X a b) {i : Nat} (hi : i < a.heap.size) (hx : ¬ X i) (o : Nat) : b.cell? ⟨i, o, none⟩ = a.cell? ⟨i, o, none⟩ := by
  unfold World.cell?
  simp only [h.block i hi hx]

end Go.Proofs.YtnclmlhmmljfgaaGreatDoor
