/- The document's lexer: a list of tokens that is appended to; the last token. -/
import Derived.Test.YtkbgnbcphmkjkaaDoorLxE
import Derived.Test.YtkbgnbcphmkjkaaDoorLy
import Derived.OwnWalk
namespace Go.Proofs.YtkbgnbcphmkjkaaDoor
open Go.RowKit

/-- a token's cells -/
def tokC (t : Tok) : List Value := [.int .i64 t.k, .string ⟨t.t.toArray⟩, .int .i64 t.n, .int .i64 (t.at_ : Int), .int .i64 (t.line : Int)]

def toksC : List Tok → List Value
  | [] => []
  | t :: r => tokC t ++ toksC r

theorem toksC_append (a b : List Tok) : toksC (a ++ b) = toksC a ++ toksC b := by
  induction a with
  | nil => rfl
  | cons t r ih => rw [List.cons_append, toksC, toksC, ih, List.append_assoc]

theorem toksC_len (a : List Tok) : (toksC a).length = a.length * 5 := by
  induction a with
  | nil => rfl
  | cons t r ih => rw [toksC, List.length_append, ih, List.length_cons]; simp [tokC]; omega

/-- the list holds these tokens, in a block of its own from B on -/
def OwnT (w : World) (B : Nat) (v : Value) (l : List Tok) : Prop := w.ownsRow B 28 5 v l.length (toksC l)

def zeroTok : Value := .agg #[.int .i64 0, .string ByteArray.empty, .int .i64 0, .int .i64 0, .int .i64 0]

theorem Tryd.infoT : (Tryd.prog.info? 28).map (fun i => (i.zero, i.size, i.bytes)) = some (some zeroTok, 5, 48) := by kernel_rfl

theorem OwnT.nil (w : World) (B : Nat) : OwnT w B (.slice none 0 0) [] := World.ownsRow_nil _ _ _ _

theorem OwnT.one {w : World} {B : Nat} {v : Value} {l : List Tok} {t : Tok} (h : w.ownsRow B 28 5 v (l.length + 1) (toksC l ++ tokC t)) : OwnT w B v (l ++ [t]) := by
  unfold OwnT
  rw [toksC_append, List.length_append]
  have e : toksC [t] = tokC t := by rw [toksC, toksC, List.append_nil]
  rw [e]
  exact h

theorem five_new (w : World) (a b c d e : Value) (t : TypeId) : ∀ (j : Nat) (u : Value), [a, b, c, d, e][j]? = some u → (w.alloc (.cells #[a, b, c, d, e] t)).cell? ((⟨w.heap.size, 0, none⟩ : Addr).add j) = some u := by
  intro j u hj
  match j, hj with
  | 0, hj => simp at hj; subst hj; simp [Addr.add]
  | 1, hj => simp at hj; subst hj; simp [Addr.add]
  | 2, hj => simp at hj; subst hj; simp [Addr.add]
  | 3, hj => simp at hj; subst hj; simp [Addr.add]
  | 4, hj => simp at hj; subst hj; simp [Addr.add]

theorem five_one (k n a l : Int) (t : ByteArray) : ∀ u ∈ [Value.int .i64 k, .string t, .int .i64 n, .int .i64 a, .int .i64 l], u.oneCell' = true := by
  intro u hu
  simp at hu
  rcases hu with rfl | rfl | rfl | rfl | rfl <;> rfl

theorem ownB {w : World} {B n m : Nat} {e : TypeId} {v : Value} {xs : List Value} (h : w.ownsRow B e m v n xs) : ∀ k, v.ownBlock = some k → B ≤ k := by
  rcases h with ⟨_, ⟨rfl, rfl⟩ | ⟨g, cap, cur, rfl, hB, _⟩⟩
  · intro k hk; cases hk
  · intro k hk; cases hk; exact hB

/-- the last token of this line -/
structure Last (w : World) (B : Nat) (k : Int) (t : List UInt8) : Prop where
  blk : ∃ n a l : Int, w.heap[B]? = some (.cells #[.int .i64 k, .string ⟨t.toArray⟩, .int .i64 n, .int .i64 a, .int .i64 l] 28 (0, 0))

theorem Last.tok {w : World} {B : Nat} {k : Int} {t : List UInt8} (h : Last w B k t) : TokAt w B := by
  obtain ⟨n, a, l, h⟩ := h.blk
  exact ⟨_, _, _, _, _, h⟩

theorem Last.cell {w : World} {B : Nat} {k : Int} {t : List UInt8} (h : Last w B k t) : ∃ n a l : Int, w.cell? ⟨B, 0, none⟩ = some (.int .i64 k) ∧ w.cell? ⟨B, 1, none⟩ = some (.string ⟨t.toArray⟩) ∧ w.cell? ⟨B, 2, none⟩ = some (.int .i64 n) ∧ w.cell? ⟨B, 3, none⟩ = some (.int .i64 a) ∧ w.cell? ⟨B, 4, none⟩ = some (.int .i64 l) := by
  obtain ⟨n, a, l, h⟩ := h.blk
  exact ⟨n, a, l, by simp [World.cell?, h], by simp [World.cell?, h], by simp [World.cell?, h], by simp [World.cell?, h], by simp [World.cell?, h]⟩

theorem Last.below {w w' : World} {B : Nat} {k : Int} {t : List UInt8} (h : Last w B k t) (hb : Below w.heap.size w w') : Last w' B k t := by
  have hl := h.tok.lt
  obtain ⟨n, a, l, h⟩ := h.blk
  exact ⟨n, a, l, (hb.block B hl).trans h⟩

theorem Last.grown {w w' : World} {B C : Nat} {k : Int} {t : List UInt8} {v : Value} (h : Last w B k t) (hg : w.grownBy w' v.ownBlock) (hv : ∀ j, v.ownBlock = some j → C ≤ j) (hB : B < C) : Last w' B k t := by
  have hl := h.tok.lt
  obtain ⟨n, a, l, h⟩ := h.blk
  exact ⟨n, a, l, (hg.block B hl (fun e => by have := hv B e.symm; omega)).trans h⟩

theorem Last.alloc {w : World} {B : Nat} {k : Int} {t : List UInt8} (h : Last w B k t) (o : Obj) : Last (w.alloc o) B k t := h.below ((Below.refl _ _).alloc (Nat.le_refl _) _)

theorem Last.put {w : World} {B : Nat} (h : TokAt w B) (k n a l : Int) (t : List UInt8) : Last (put5 w B (.int .i64 k) (.string ⟨t.toArray⟩) (.int .i64 n) (.int .i64 a) (.int .i64 l)) B k t := ⟨n, a, l, put5_heap h _ _ _ _ _⟩

theorem OwnT.below {w w' : World} {B : Nat} {v : Value} {l : List Tok} (h : OwnT w B v l) (hb : Below w.heap.size w w') : OwnT w' B v l := by
  obtain ⟨h1, h2⟩ := h
  refine ⟨h1, ?_⟩
  rcases h2 with h2 | ⟨g, cap, cur, rfl, hB, hg, hr⟩
  · exact Or.inl h2
  · exact Or.inr ⟨g, cap, cur, rfl, hB, (hb.block g (Array.getElem?_eq_some_iff.1 hg).1).trans hg, hr⟩

theorem OwnT.put {w : World} {B C : Nat} {v : Value} {l : List Tok} (h : OwnT w B v l) (hC : C < B) (v0 v1 v2 v3 v4 : Value) : OwnT (put5 w C v0 v1 v2 v3 v4) B v l := by
  obtain ⟨h1, h2⟩ := h
  refine ⟨h1, ?_⟩
  rcases h2 with h2 | ⟨g, cap, cur, rfl, hB, hg, hr⟩
  · exact Or.inl h2
  · refine Or.inr ⟨g, cap, cur, rfl, hB, ?_, hr⟩
    have hne : g ≠ C := by omega
    simp [put5, World.setCell, Array.getElem?_modify, hg, Ne.symm hne]

/-- where the reader stands -/
def MidS (s : ByteArray) (k ln : Nat) (lk : Int) (lt : List UInt8) (out : List Tok) : Prop :=
  ∃ f, s.size + 1 ≤ k + f ∧ scan s.data.toList = (scanFrom f (s.data.toList.drop k) k ln lk lt).map fun x => out ++ x

theorem mids_start {s : ByteArray} (h : ¬ 20000 < s.size) : MidS s 0 1 0 [] [] := by
  refine ⟨s.size + 1, by omega, ?_⟩
  unfold scan
  rw [if_neg (by rw [← size_len]; exact h), List.drop_zero, ← size_len]
  cases scanFrom (s.size + 1) s.data.toList 0 1 0 [] <;> rfl

section
variable {s : ByteArray} {k ln : Nat} {lk : Int} {lt : List UInt8} {out : List Tok}

theorem mids_end (h : MidS s k ln lk lt out) (hk : ¬ k < s.size) (hk2 : k ≤ s.size) : scan s.data.toList = .ok (out ++ ((if callsK lk lt then [semiAt k ln] else []) ++ [endAt k ln])) := by
  obtain ⟨f, hf, e⟩ := h
  obtain ⟨f, rfl⟩ : ∃ g, f = g + 1 := ⟨f - 1, by omega⟩
  rw [e, drop_end hk, scanFrom_nil]
  rfl

theorem mids_comment (h : MidS s k ln lk lt out) (hk : k < s.size) (hc : 0 < cmt (s.data.toList.drop k)) : MidS s (k + cmt (s.data.toList.drop k)) ln lk lt out := by
  obtain ⟨f, hf, e⟩ := h
  obtain ⟨f, rfl⟩ : ∃ g, f = g + 1 := ⟨f - 1, by omega⟩
  refine ⟨f, by omega, ?_⟩
  rw [e]
  rw [drop_by s k hk] at hc ⊢
  rw [scanFrom_cons, if_pos hc, ← drop_by s k hk, List.drop_drop]

theorem mids_line (h : MidS s k ln lk lt out) (hk : k < s.size) (hc : ¬ 0 < cmt (s.data.toList.drop k)) (h10 : (by_ s k).toNat = 10) : MidS s (k + 1) (ln + 1) 0 [] (out ++ if callsK lk lt then [semiAt k ln] else []) := by
  obtain ⟨f, hf, e⟩ := h
  obtain ⟨f, rfl⟩ : ∃ g, f = g + 1 := ⟨f - 1, by omega⟩
  refine ⟨f, by omega, ?_⟩
  rw [e]
  rw [drop_by s k hk] at hc ⊢
  rw [scanFrom_cons, if_neg hc, if_pos h10, map_map_ok]
  congr 1
  funext x
  rw [List.append_assoc]

theorem mids_blank (h : MidS s k ln lk lt out) (hk : k < s.size) (hc : ¬ 0 < cmt (s.data.toList.drop k)) (h10 : ¬ (by_ s k).toNat = 10) (hb : (by_ s k).toNat = 32 ∨ (by_ s k).toNat = 9 ∨ (by_ s k).toNat = 13) : MidS s (k + 1) ln lk lt out := by
  obtain ⟨f, hf, e⟩ := h
  obtain ⟨f, rfl⟩ : ∃ g, f = g + 1 := ⟨f - 1, by omega⟩
  refine ⟨f, by omega, ?_⟩
  rw [e]
  rw [drop_by s k hk] at hc ⊢
  rw [scanFrom_cons, if_neg hc, if_neg h10, if_pos hb]

theorem mids_error (h : MidS s k ln lk lt out) (hk : k < s.size) (hc : ¬ 0 < cmt (s.data.toList.drop k)) (h10 : ¬ (by_ s k).toNat = 10) (hb : ¬ ((by_ s k).toNat = 32 ∨ (by_ s k).toNat = 9 ∨ (by_ s k).toNat = 13)) (he : ¬ (tk (s.data.toList.drop k)).e = 0) :
    scan s.data.toList = .error (k, (tk (s.data.toList.drop k)).e) := by
  obtain ⟨f, hf, e⟩ := h
  obtain ⟨f, rfl⟩ : ∃ g, f = g + 1 := ⟨f - 1, by omega⟩
  rw [e]
  rw [drop_by s k hk] at hc he ⊢
  rw [scanFrom_cons, if_neg hc, if_neg h10, if_neg hb, if_neg he]
  rfl

theorem mids_token (h : MidS s k ln lk lt out) (hk : k < s.size) (hc : ¬ 0 < cmt (s.data.toList.drop k)) (h10 : ¬ (by_ s k).toNat = 10) (hb : ¬ ((by_ s k).toNat = 32 ∨ (by_ s k).toNat = 9 ∨ (by_ s k).toNat = 13)) (he : (tk (s.data.toList.drop k)).e = 0) :
    MidS s (k + (tk (s.data.toList.drop k)).len) ln (tk (s.data.toList.drop k)).k (tk (s.data.toList.drop k)).t (out ++ [⟨(tk (s.data.toList.drop k)).k, (tk (s.data.toList.drop k)).t, (tk (s.data.toList.drop k)).n, k, ln⟩]) := by
  have hl := (tk_len he).1
  obtain ⟨f, hf, e⟩ := h
  obtain ⟨f, rfl⟩ : ∃ g, f = g + 1 := ⟨f - 1, by omega⟩
  refine ⟨f, by omega, ?_⟩
  rw [e]
  have hd := drop_by s k hk
  rw [← List.drop_drop]
  generalize s.data.toList.drop k = L at *
  subst hd
  rw [scanFrom_cons, if_neg hc, if_neg h10, if_neg hb, if_pos he, map_map_ok]
  congr 1
  funext x
  rw [List.append_assoc]
  rfl

end

end Go.Proofs.YtkbgnbcphmkjkaaDoor
