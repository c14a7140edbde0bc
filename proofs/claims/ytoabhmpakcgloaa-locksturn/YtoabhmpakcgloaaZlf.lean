/- Layer 16: a slice whose first was cut away, appended to: it begins inside its block. Layer 16: an append to a slice that begins inside its block, as a step of a region that draws. Layer 16: LocksTurn: three mutexes, on lists; their lines in memory. Layer 16: LocksTurn: the region that locks, the one that makes a line longer. -/
import Derived.Test.YtoabhmpakcgloaaZld
import Derived.ArgAppend
namespace Go.Proofs.Ytoabhmpakcgloaa
open Go.RowKit

theorem set_mid {b : Nat} {T : TypeId} : ∀ (vs pre old post : List Value) (w : World), old.length = vs.length → w.heap[b]? = some (.cells (pre ++ (old ++ post)).toArray T (0, 0)) → (w.setCells b pre.length vs).heap[b]? = some (.cells (pre ++ (vs ++ post)).toArray T (0, 0))
  | [], pre, [], post, w, _, h => h
  | [], _, _ :: _, _, _, hl, _ => by simp at hl
  | _ :: _, _, [], _, _, hl, _ => by simp at hl
  | v :: vs, pre, x :: old, post, w, hl, h => by
    have h1 := heap_set h pre.length v
    have e : ((pre ++ (x :: old ++ post)).toArray.setIfInBounds pre.length v) = ((pre ++ [v]) ++ (old ++ post)).toArray := by
      rw [List.setIfInBounds_toArray, List.set_append_right _ _ (Nat.le_refl _)]
      simp
    rw [e] at h1
    have h2 := set_mid vs (pre ++ [v]) old post _ (by simpa using hl) h1
    rw [List.length_append, List.append_assoc] at h2
    exact h2

/-- a row that begins inside its block -/
def OffRow {α : Type} (f : α → List Value) (K : Nat) (e : TypeId) (w : World) (B : Nat) (v : Value) (l : List α) : Prop :=
  (v = .slice none 0 0 ∧ l = []) ∨ ∃ g cap pre post, v = .slice (some ⟨g, pre.length, none⟩) l.length cap ∧ B ≤ g ∧ w.heap[g]? = some (.cells (pre ++ (l.flatMap f ++ post)).toArray e (0, 0)) ∧ l.length ≤ cap ∧ cap ≤ maxLen ∧ (cap - l.length) * K ≤ post.length

section
variable {α : Type} {f : α → List Value} {K : Nat} {e : TypeId} {w : World} {B : Nat} {v : Value} {l : List α}

theorem flat_lenK (hK : ∀ x, (f x).length = K) : ∀ l : List α, (l.flatMap f).length = l.length * K
  | [] => by simp
  | x :: l => by rw [List.flatMap_cons, List.length_append, hK, flat_lenK hK l, List.length_cons, Nat.add_mul]; omega
theorem OffRow.nil (w : World) (B : Nat) : OffRow f K e w B (.slice none 0 0) [] := .inl ⟨rfl, rfl⟩
theorem OffRow.low {B' : Nat} (h : OffRow f K e w B v l) (hB : B' ≤ B) : OffRow f K e w B' v l := by
  rcases h with h | ⟨g, cap, pre, post, h1, h2, h3⟩
  · exact .inl h
  · exact .inr ⟨g, cap, pre, post, h1, Nat.le_trans hB h2, h3⟩
theorem OffRow.of_row (h : Row f K e w B v l) : OffRow f K e w B v l := by
  obtain ⟨h1, ⟨rfl, h0⟩ | ⟨g, cap, cur, rfl, hb, hg, hn, hm, hs, ht⟩⟩ := h
  · exact .inl ⟨rfl, List.eq_nil_of_length_eq_zero h0⟩
  · refine .inr ⟨g, cap, [], cur.toList.drop (l.length * K), rfl, hb, ?_, hn, hm, ?_⟩
    · rw [List.nil_append, ← ht, List.take_append_drop]
      exact hg
    · have e0 : (cur.toList.drop (l.length * K)).length = cur.size - l.length * K := by simp
      rw [e0, hs, Nat.sub_mul]
      exact Nat.le_refl _
theorem OffRow.ch {Q : Nat → Prop} {w' : World} (h : OffRow f K e w B v l) (hc : Ch Q w w') (hq : ∀ g, v.ownBlock = some g → ¬ Q g) : OffRow f K e w' B v l := by
  rcases h with h | ⟨g, cap, pre, post, rfl, h2, h3, h4⟩
  · exact .inl h
  · exact .inr ⟨g, cap, pre, post, rfl, h2, hc.box h3 (hq g rfl), h4⟩
theorem OffRow.lt (h : OffRow f K e w B v l) {g : Nat} (hg : v.ownBlock = some g) : B ≤ g ∧ ∃ cs, w.heap[g]? = some (.cells cs e (0, 0)) := by
  rcases h with ⟨rfl, -⟩ | ⟨g', cap, pre, post, rfl, h2, h3, -⟩
  · cases hg
  · cases hg
    exact ⟨h2, _, h3⟩
theorem OffRow.form (h : OffRow f K e w B v l) : ∃ a c, v = .slice a l.length c ∧ l.length ≤ c ∧ c ≤ maxLen := by
  rcases h with ⟨rfl, rfl⟩ | ⟨g, cap, pre, post, rfl, -, -, h4, h5, -⟩
  · exact ⟨none, 0, rfl, Nat.le_refl _, by unfold maxLen; omega⟩
  · exact ⟨_, cap, rfl, h4, h5⟩
/-- where the elements lie -/
theorem OffRow.at (hK : ∀ x, (f x).length = K) (h : OffRow f K e w B v l) {i : Nat} (hi : i < l.length) : ∃ g o c, v = .slice (some ⟨g, o, none⟩) l.length c ∧ ∀ j u, (f l[i])[j]? = some u → w.cell? ⟨g, o + i * K + j, none⟩ = some u := by
  rcases h with ⟨rfl, rfl⟩ | ⟨g, cap, pre, post, rfl, h2, h3, h4⟩
  · cases hi
  · refine ⟨g, pre.length, cap, rfl, fun j u hj => ?_⟩
    rw [Lib.cell_of_heap h3]
    have hl : l = l.take i ++ l[i] :: l.drop (i + 1) := by rw [← List.drop_eq_getElem_cons hi, List.take_append_drop]
    have e1 : (l.flatMap f) = (l.take i).flatMap f ++ (f l[i] ++ (l.drop (i + 1)).flatMap f) := by
      conv => lhs; rw [hl]
      rw [List.flatMap_append, List.flatMap_cons]
    have hjl : j < (f l[i]).length := by
      rcases Nat.lt_or_ge j (f l[i]).length with a | a
      · exact a
      · rw [List.getElem?_eq_none a] at hj; cases hj
    have e2 : ((l.take i).flatMap f).length = i * K := by rw [flat_lenK hK, List.length_take]; congr 1; omega
    rw [List.getElem?_toArray, List.getElem?_append_right (by omega), e1, List.append_assoc, List.append_assoc, List.getElem?_append_right (by omega), e2, List.getElem?_append_left (by omega)]
    rw [show pre.length + i * K + j - pre.length - i * K = j by omega]
    exact hj
/-- the first is cut away -/
theorem OffRow.rest (hK : ∀ x, (f x).length = K) {x : α} {g o c : Nat} (h : OffRow f K e w B (.slice (some ⟨g, o, none⟩) (x :: l).length c) (x :: l)) : OffRow f K e w B (.slice (some ⟨g, o + K, none⟩) l.length (c - 1)) l := by
  rcases h with ⟨h, -⟩ | ⟨g', cap, pre, post, hv, h2, h3, h4, h5, h6⟩
  · cases h
  · injection hv with hv1 hv2 hv3
    injection hv1 with hv1
    injection hv1 with hv1 hv4 hv5
    subst hv1 hv3 hv4
    rw [List.length_cons] at h4 h6
    refine .inr ⟨g, c - 1, pre ++ f x, post, by rw [List.length_append, hK], h2, ?_, by omega, by omega, by rw [show c - 1 - l.length = c - (l.length + 1) by omega]; exact h6⟩
    rw [List.append_assoc, ← List.append_assoc (f x), ← List.flatMap_cons]
    exact h3
/-- .. where there is room for no other: the slice stays where it began -/
theorem OffRow.rest0 {x : α} {g o : Nat} (h : OffRow f K e w B (.slice (some ⟨g, o, none⟩) ([x] : List α).length 1) [x]) : OffRow f K e w B (.slice (some ⟨g, o, none⟩) 0 0) ([] : List α) := by
  rcases h with ⟨h, -⟩ | ⟨g', cap, pre, post, hv, h2, h3, h4, h5, h6⟩
  · cases h
  · injection hv with hv1 hv2 hv3
    injection hv1 with hv1
    injection hv1 with hv1 hv4 hv5
    subst hv1 hv4
    exact .inr ⟨g, 0, pre, [x].flatMap f ++ post, rfl, h2, h3, Nat.le_refl _, by unfold maxLen; omega, by simp⟩
end

/-- one more -/
theorem wpList_append_off {P : Program} {α : Type} {f : α → List Value} {K : Nat} {e : TypeId} {w : World} {B : Nat} {l : List α} (hK : ∀ x, (f x).length = K) {ops : Array Oper} {rest : List Oper} {o : Oper} {a : Act} {Q : Exit → Act → World → Prop}
    (hg : o.guard = none) (s x : Operand) (t : TypeId) (hop : o.op = Op.call { callee := Callee.builtin Builtin.append, args := #[s, x], argTypes := #[t, t] })
    (i : TypeInfo) (z : Value) (bytes : Nat) (h1 : P.underlying t = some (.slice e)) (h2 : P.info? e = some i) (h3 : i.zero = some z) (h4 : i.size = K) (h5 : i.bytes = bytes) (h6 : z.cells.size = K) (h7 : 0 < K)
    (v : Value) (hs : a.eval s = v) (h : OffRow f K e w B v l) (hB : B ≤ w.heap.size)
    (ad : Addr) (c : Nat) (y : α) (hx : a.eval x = .slice (some ad) 1 c) (hc : ∀ j u, (f y)[j]? = some u → w.cell? (ad.add j) = some u) (h1c : ∀ u ∈ f y, u.oneCell' = true)
    (b1 : l.length + 1 ≤ maxLen) (b2 : (l.length + 1) * bytes ≤ 140737488355328)
    (k : ∀ v' w', OffRow f K e w' B v' (l ++ [y]) → Ch (fun b => v.ownBlock = some b) w w' → (∀ b, v'.ownBlock = some b → v.ownBlock = some b ∨ w.heap.size ≤ b) → wpList P ops Q rest (a.put o.dst v') w') :
    wpList P ops Q (o :: rest) a w := by
  have snoc : ∀ {v' w'}, w'.ownsRow w.heap.size e K v' (l.length + 1) (l.flatMap f ++ f y) → OffRow f K e w' B v' (l ++ [y]) ∧ (∀ b, v'.ownBlock = some b → v.ownBlock = some b ∨ w.heap.size ≤ b) := fun {v' w'} ho =>
    ⟨(OffRow.of_row (Row.snoc ho)).low hB, fun b hb => .inr (ho.lt b hb).1⟩
  rcases h with ⟨rfl, rfl⟩ | ⟨g, cap, pre, post, rfl, k2, k3, k4, k5, k6⟩
  · refine wpList_append_own_at w hg s x t hop w.heap.size e i z K bytes h1 h2 h3 h4 h5 h6 h7 (.slice none 0 0) 0 [] hs (World.ownsRow_nil w _ _ _) ad 1 c (f y) hx (by rw [hK, Nat.one_mul]) hc h1c b1 b2 (Nat.le_refl _) (fun v' w' a1 a2 _ _ => ?_)
    have := snoc (v' := v') (w' := w') a1
    exact k v' w' this.1 (Ch.of_grown a2 (fun b hb => hb)) this.2
  · have hcell : ∀ j, w.cell? ⟨g, j, none⟩ = (pre ++ (l.flatMap f ++ post))[j]? := fun j => by rw [Lib.cell_of_heap k3, List.getElem?_toArray]
    have hfl := flat_lenK hK l
    refine wpList_append_arg w hg s x t hop e i z K bytes h1 h2 h3 h4 h5 h6 h7 g pre.length l.length cap (l.flatMap f) hs hfl (fun j u hj => ?_) ad 1 c (f y) hx (by rw [hK, Nat.one_mul]) hc h1c (fun hr j hj => ?_) b1 b2 (fun hr => ?_) (fun hr v' w' a1 a2 => ?_)
    · rw [hcell, List.getElem?_append_right (by omega), Nat.add_sub_cancel_left]
      have hjl : j < (l.flatMap f).length := by
        rcases Nat.lt_or_ge j (l.flatMap f).length with a | a
        · exact a
        · rw [List.getElem?_eq_none a] at hj; cases hj
      rw [List.getElem?_append_left hjl]
      exact hj
    · have hp : K ≤ post.length := by
        refine Nat.le_trans ?_ k6
        calc K = 1 * K := (Nat.one_mul K).symm
          _ ≤ _ := Nat.mul_le_mul_right K (by omega)
      rw [hK] at hj
      refine ⟨?_, by simp [World.frozen?, k3]⟩
      rw [hcell, List.getElem?_append_right (by omega), List.getElem?_append_right (by omega), List.getElem?_eq_getElem (by omega)]
      rfl
    · have hp : K ≤ post.length := by
        refine Nat.le_trans ?_ k6
        calc K = 1 * K := (Nat.one_mul K).symm
          _ ≤ _ := Nat.mul_le_mul_right K (by omega)
      have hs1 : w.heap[g]? = some (.cells ((pre ++ l.flatMap f) ++ (post.take K ++ post.drop K)).toArray e (0, 0)) := by rw [List.take_append_drop, List.append_assoc]; exact k3
      have hs2 := set_mid (f y) (pre ++ l.flatMap f) (post.take K) (post.drop K) w (by rw [List.length_take, hK]; omega) hs1
      rw [List.length_append, hfl] at hs2
      refine k _ _ (.inr ⟨g, cap, pre, post.drop K, by rw [List.length_append]; rfl, k2, ?_, by rw [List.length_append]; exact hr, k5, ?_⟩) (Ch.setCells (Q := fun b => some g = some b) rfl _ _ _) (fun b hb => .inl hb)
      · rw [hs2, List.flatMap_append, List.flatMap_cons, List.flatMap_nil, List.append_nil, List.append_assoc, List.append_assoc]
      · rw [Nat.sub_mul] at k6
        rw [List.length_drop, List.length_append, List.length_singleton, Nat.sub_mul, Nat.add_mul, Nat.one_mul]
        omega
    · have := snoc (v' := v') (w' := w') a1
      exact k v' w' this.1 (Ch.of_grown a2 (fun b hb => by cases hb)) this.2
end Go.Proofs.Ytoabhmpakcgloaa

namespace Go.Proofs.Ytoabhmpakcgloaa
open Go.RowKit

theorem run_append_off {P : Program} {α : Type} {f : α → List Value} {K : Nat} {e : TypeId} {w : World} {B : Nat} {l : List α} (hK : ∀ x, (f x).length = K) (t ty : TypeId)
    (i : TypeInfo) (z : Value) (bytes : Nat) (h1 : P.underlying t = some (.slice e)) (h2 : P.info? e = some i) (h3 : i.zero = some z) (h4 : i.size = K) (h5 : i.bytes = bytes) (h6 : z.cells.size = K) (h7 : 0 < K)
    (v : Value) (h : OffRow f K e w B v l) (hB : B ≤ w.heap.size)
    (ad : Addr) (c : Nat) (y : α) (hc : ∀ j u, (f y)[j]? = some u → w.cell? (ad.add j) = some u) (h1c : ∀ u ∈ f y, u.oneCell' = true)
    (b1 : l.length + 1 ≤ maxLen) (b2 : (l.length + 1) * bytes ≤ 140737488355328) :
    ∃ v' w', (Builtin.append_ #[t, t] ty #[v, .slice (some ad) 1 c]).run P w = .ok v' w' ∧ OffRow f K e w' B v' (l ++ [y]) ∧ Ch (fun b => v.ownBlock = some b) w w' ∧ ∀ b, v'.ownBlock = some b → v.ownBlock = some b ∨ w.heap.size ≤ b := by
  have snoc : ∀ {v' w'}, w'.ownsRow w.heap.size e K v' (l.length + 1) (l.flatMap f ++ f y) → OffRow f K e w' B v' (l ++ [y]) ∧ (∀ b, v'.ownBlock = some b → v.ownBlock = some b ∨ w.heap.size ≤ b) := fun {v' w'} ho =>
    ⟨(OffRow.of_row (Row.snoc ho)).low hB, fun b hb => .inr (ho.lt b hb).1⟩
  have hyl : (f y).length = 1 * K := by rw [hK, Nat.one_mul]
  rcases h with ⟨rfl, rfl⟩ | ⟨g, cap, pre, post, rfl, k2, k3, k4, k5, k6⟩
  · obtain ⟨v', w', hrun, r1, r2, -, -⟩ := run_append_own_at (P := P) w w.heap.size t ty e i z K bytes h1 h2 h3 h4 h5 h6 h7 (.slice none 0 0) 0 [] (World.ownsRow_nil w _ _ _) ad 1 c (f y) hyl hc h1c b1 b2 (Nat.le_refl _)
    have := snoc (v' := v') (w' := w') r1
    exact ⟨v', w', hrun, this.1, Ch.of_grown r2 (fun b hb => hb), this.2⟩
  · have hcell : ∀ j, w.cell? ⟨g, j, none⟩ = (pre ++ (l.flatMap f ++ post))[j]? := fun j => by rw [Lib.cell_of_heap k3, List.getElem?_toArray]
    have hfl := flat_lenK hK l
    have holds : ∀ j u, (l.flatMap f)[j]? = some u → w.cell? ⟨g, pre.length + j, none⟩ = some u := fun j u hj => by
      rw [hcell, List.getElem?_append_right (by omega), Nat.add_sub_cancel_left]
      have hjl : j < (l.flatMap f).length := by
        rcases Nat.lt_or_ge j (l.flatMap f).length with a | a
        · exact a
        · rw [List.getElem?_eq_none a] at hj; cases hj
      rw [List.getElem?_append_left hjl]
      exact hj
    by_cases hr : l.length + 1 ≤ cap
    · have hp : K ≤ post.length := by
        refine Nat.le_trans ?_ k6
        calc K = 1 * K := (Nat.one_mul K).symm
          _ ≤ _ := Nat.mul_le_mul_right K (by omega)
      subst h4
      have hrun := run_append_room_cells (P := P) w t ty e i h1 h2 g pre.length l.length cap ad 1 c (f y) hyl hc h1c hr
        (fun j hj => by
          rw [hK] at hj
          rw [hcell, List.getElem?_append_right (by omega), List.getElem?_append_right (by omega), List.getElem?_eq_getElem (by omega)]
          rfl)
        (fun j _ => by simp [World.frozen?, k3])
      have hs1 : w.heap[g]? = some (.cells ((pre ++ l.flatMap f) ++ (post.take i.size ++ post.drop i.size)).toArray e (0, 0)) := by rw [List.take_append_drop, List.append_assoc]; exact k3
      have hs2 := set_mid (f y) (pre ++ l.flatMap f) (post.take i.size) (post.drop i.size) w (by rw [List.length_take, hK]; omega) hs1
      rw [List.length_append, hfl] at hs2
      refine ⟨_, _, hrun, .inr ⟨g, cap, pre, post.drop i.size, by rw [List.length_append]; rfl, k2, ?_, by rw [List.length_append]; exact hr, k5, ?_⟩, Ch.setCells (Q := fun b => some g = some b) rfl _ _ _, fun b hb => .inl hb⟩
      · rw [hs2, List.flatMap_append, List.flatMap_cons, List.flatMap_nil, List.append_nil, List.append_assoc, List.append_assoc]
      · rw [Nat.sub_mul] at k6
        rw [List.length_drop, List.length_append, List.length_singleton, Nat.sub_mul, Nat.add_mul, Nat.one_mul]
        omega
    · obtain ⟨v', w', hrun, r1, r2⟩ := run_append_arg_grows (P := P) w t ty e i z K bytes h1 h2 h3 h4 h5 h6 h7 ⟨g, pre.length, none⟩ l.length cap (l.flatMap f) hfl (fun j u hj => by rw [Addr.add_lit]; exact holds j u hj) ad 1 c (f y) hyl hc (by omega) b1 b2
      have := snoc (v' := v') (w' := w') r1
      exact ⟨v', w', hrun, this.1, Ch.of_grown r2 (fun b hb => by cases hb), this.2⟩

theorem step_append_off {P : Program} {α : Type} {f : α → List Value} {K0 : Nat} {e : TypeId} {w : World} {B : Nat} {l : List α} (hK0 : ∀ x, (f x).length = K0) {ops : Array Oper} {o : Oper} {a : Act} {K : Act → World → Prop} {Q : Exit → Act → World → Prop} {E : Prop}
    (hg : o.guard = none) (s x : Operand) (t : TypeId) (hop : o.op = Op.call { callee := Callee.builtin Builtin.append, args := #[s, x], argTypes := #[t, t] })
    (i : TypeInfo) (z : Value) (bytes : Nat) (h1 : P.underlying t = some (.slice e)) (h2 : P.info? e = some i) (h3 : i.zero = some z) (h4 : i.size = K0) (h5 : i.bytes = bytes) (h6 : z.cells.size = K0) (h7 : 0 < K0)
    (v : Value) (hs : a.eval s = v) (h : OffRow f K0 e w B v l) (hB : B ≤ w.heap.size)
    (ad : Addr) (c : Nat) (y : α) (hx : a.eval x = .slice (some ad) 1 c) (hc : ∀ j u, (f y)[j]? = some u → w.cell? (ad.add j) = some u) (h1c : ∀ u ∈ f y, u.oneCell' = true)
    (b1 : l.length + 1 ≤ maxLen) (b2 : (l.length + 1) * bytes ≤ 140737488355328)
    (hK : ∀ v' w', OffRow f K0 e w' B v' (l ++ [y]) → Ch (fun b => v.ownBlock = some b) w w' → (∀ b, v'.ownBlock = some b → v.ownBlock = some b ∨ w.heap.size ≤ b) → K (a.put o.dst v') w') :
    if Region.wanted o (yielded ops a.tmps) = true then Oper.wp P o a w K Q else E := by
  have hw : Region.wanted o (yielded ops a.tmps) = true := by simp [Region.wanted, hg]
  rw [if_pos hw]
  obtain ⟨v', w', hrun, r1, r2, r3⟩ := run_append_off (P := P) hK0 t o.type i z bytes h1 h2 h3 h4 h5 h6 h7 v h hB ad c y hc h1c b1 b2
  unfold Oper.wp
  simp [execOp, hop, resolve, invoke, builtin, hs, hx, hrun, Result.andThen]
  exact hK v' w' r1 r2 r3
end Go.Proofs.Ytoabhmpakcgloaa

namespace Go.Proofs.Ytoabhmpakcgloaa
open Go.RowKit

def hdO (r : List Hnd) : Hnd := r.headD (0, 0)
/-- the three mutexes: who has each stands first in its line -/
def T3 (f : Nat → List Hnd) : List Lk := [⟨(1, 1), true, hdO (f 0), 0⟩, ⟨(2, 1), true, hdO (f 1), 0⟩, ⟨(3, 1), true, hdO (f 2), 0⟩]
def upF (f : Nat → List Hnd) (j : Nat) (r : List Hnd) : Nat → List Hnd := fun i => if i = j then r else f i
theorem upF_self (f : Nat → List Hnd) (j : Nat) (r : List Hnd) : upF f j r j = r := if_pos rfl
theorem upF_ne (f : Nat → List Hnd) {i j : Nat} (h : i ≠ j) (r : List Hnd) : upF f j r i = f i := if_neg h
theorem three {j : Nat} (hj : j < 3) : j = 0 ∨ j = 1 ∨ j = 2 := by omega
theorem T3_find (f : Nat → List Hnd) {j : Nat} (hj : j < 3) : fnl (T3 f) ((j : Int) + 1, 1) = some ⟨((j : Int) + 1, 1), true, hdO (f j), 0⟩ := by
  rcases three hj with rfl | rfl | rfl <;> rfl
theorem T3_set (f : Nat → List Hnd) {j : Nat} (hj : j < 3) {r : List Hnd} {o : Hnd} (ho : hdO r = o) : setl (T3 f) ⟨((j : Int) + 1, 1), true, o, 0⟩ = T3 (upF f j r) := by
  subst ho
  rcases three hj with rfl | rfl | rfl <;> rfl
theorem T3_same (f : Nat → List Hnd) (j : Nat) {r : List Hnd} (ho : hdO r = hdO (f j)) : T3 (upF f j r) = T3 f := by
  have key : ∀ i, hdO (upF f j r i) = hdO (f i) := fun i => by
    by_cases e : i = j
    · subst e; rw [upF_self]; exact ho
    · rw [upF_ne f e]
  unfold T3
  rw [key 0, key 1, key 2]
/-- what is known of the lines and the book -/
structure TI (l : List Wt) (f : Nat → List Hnd) : Prop where
  ji : JI l 3 3 (fun j => (f j).tail)
  nn : ∀ j, j < 3 → ∀ x ∈ f j, nnH x = false
def inT (g : Hnd) (f : Nat → List Hnd) : Nat → Bool
  | 0 => false
  | q + 1 => inT g f q || inL g (f q).tail
theorem inT_iff (g : Hnd) (f : Nat → List Hnd) : ∀ q, inT g f q = true ↔ ∃ i, i < q ∧ g ∈ (f i).tail
  | 0 => by simp [inT]
  | q + 1 => by
    rw [inT, Bool.or_eq_true, inT_iff g f q, inL_iff]
    constructor
    · rintro (⟨i, h1, h2⟩ | h)
      · exact ⟨i, by omega, h2⟩
      · exact ⟨q, by omega, h⟩
    · rintro ⟨i, h1, h2⟩
      by_cases e : i = q
      · subst e; exact .inr h2
      · exact .inl ⟨i, by omega, h2⟩
section
variable {l : List Wt} {f : Nat → List Hnd} {g : Hnd} {j : Nat}
theorem TI.start : TI [] (fun _ => []) := ⟨JI.nil 3 3, fun _ _ _ h => (List.not_mem_nil h).elim⟩
theorem TI.no (h : TI l f) (hm : inT g f 3 = false) : sel (isWho g.1 g.2) l = [] := by
  apply Classical.byContradiction
  intro e
  have := (inT_iff g f 3).2 ((h.ji.waits g).1 e)
  rw [hm] at this
  cases this
theorem tuA (h : TI l f) (ng : nnH g = false) (hm : inT g f 3 = true) : askK l (T3 f) g ((j : Int) + 1, 1) 2 = (0, 163, l, T3 f) := by
  have hw : 0 < (sel (isWho g.1 g.2) l).length := List.length_pos_iff.2 ((h.ji.waits g).2 ((inT_iff g f 3).1 hm))
  unfold askK
  rw [if_neg (by rw [ng]; decide), if_pos hw]
theorem nn_j (j : Nat) : nnH ((j : Int) + 1, 1) = false := by
  unfold nnH
  rw [decide_eq_false (show ¬ ((j : Int) + 1, (1 : Int)).1 = 0 from by show ¬ (j : Int) + 1 = 0; omega)]
  rfl
theorem TI.push (h : TI l f) (ng : nnH g = false) : ∀ i, i < 3 → ∀ x ∈ upF f j (f j ++ [g]) i, nnH x = false := fun i hi x hx => by
  by_cases e : i = j
  · subst e
    rw [upF_self] at hx
    rcases List.mem_append.1 hx with hx | hx
    · exact h.nn i hi x hx
    · rw [List.mem_singleton.1 hx]; exact ng
  · rw [upF_ne f e] at hx
    exact h.nn i hi x hx
theorem tuB (h : TI l f) (ng : nnH g = false) (hm : inT g f 3 = false) (hj : j < 3) (hf : f j = []) : askK l (T3 f) g ((j : Int) + 1, 1) 2 = (0, 0, l, T3 (upF f j (f j ++ [g]))) ∧ TI l (upF f j (f j ++ [g])) := by
  constructor
  · unfold askK
    rw [if_neg (by rw [ng]; decide), h.no hm, if_neg (by decide), if_neg (by rw [nn_j]; decide), T3_find f hj]
    show (if kdK _ ≠ 2 then _ else _) = _
    rw [if_neg (fun e => e rfl), if_pos rfl, if_pos (show nnH (hdO (f j)) = true by rw [hf]; rfl), T3_set f hj (r := f j ++ [g]) (by rw [hf]; rfl)]
  · refine ⟨h.ji.congr (fun i hi => ?_), h.push ng⟩
    by_cases e : i = j
    · subst e; rw [upF_self, hf]; rfl
    · rw [upF_ne f e]
theorem tuC (h : TI l f) (ng : nnH g = false) (u1 : UsW g.1) (u2 : UsW g.2) (hm : inT g f 3 = false) (hj : j < 3) (hf : f j ≠ []) : askK l (T3 f) g ((j : Int) + 1, 1) 2 = (1, 0, putW l ((j : Int) + 1) 1 3 g.1 g.2 0 0 0 0, T3 (upF f j (f j ++ [g]))) ∧ TI (putW l ((j : Int) + 1) 1 3 g.1 g.2 0 0 0 0) (upF f j (f j ++ [g])) := by
  obtain ⟨x, r, hx⟩ := List.exists_cons_of_ne_nil hf
  constructor
  · unfold askK
    rw [if_neg (by rw [ng]; decide), h.no hm, if_neg (by decide), if_neg (by rw [nn_j]; decide), T3_find f hj]
    show (if kdK _ ≠ 2 then _ else _) = _
    rw [if_neg (fun e => e rfl), if_pos rfl, if_neg (show ¬ nnH (hdO (f j)) = true by rw [hx]; rw [show hdO (x :: r) = x from rfl, h.nn j hj x (by rw [hx]; exact List.mem_cons_self ..)]; decide), T3_same f j (r := f j ++ [g]) (by rw [hx]; rfl)]
  · refine ⟨(h.ji.put hj ng u1 u2 (by decide) (by decide) (h.no hm)).congr (fun i hi => ?_), h.push ng⟩
    by_cases e : i = j
    · subst e; rw [if_pos rfl, upF_self, hx]; rfl
    · rw [if_neg e, upF_ne f e]
theorem tuD (hj : j < 3) (hf : f j = []) : unlK l (T3 f) ((j : Int) + 1, 1) = (15, 0, [], l, T3 f) := by
  unfold unlK
  rw [if_neg (by rw [nn_j]; decide), T3_find f hj]
  show (if true = true then _ else _) = _
  rw [if_pos rfl, if_pos (show nnH (hdO (f j)) = true by rw [hf]; rfl)]
theorem tuU (h : TI l f) (hj : j < 3) (hf : f j ≠ []) : ∃ wk l2, unlK l (T3 f) ((j : Int) + 1, 1) = (0, 0, wk, l2, T3 (upF f j (f j).tail)) ∧ TI l2 (upF f j (f j).tail) ∧ l2.length = l.length ∧ wk.map wkWho = (f j).tail.take 1 := by
  obtain ⟨x, r, hx⟩ := List.exists_cons_of_ne_nil hf
  have hnn : ¬ nnH (hdO (f j)) = true := by rw [hx]; rw [show hdO (x :: r) = x from rfl, h.nn j hj x (by rw [hx]; exact List.mem_cons_self ..)]; decide
  have hnt : ∀ i, i < 3 → ∀ y ∈ upF f j (f j).tail i, nnH y = false := fun i hi y hy => by
    by_cases e : i = j
    · subst e
      rw [upF_self] at hy
      exact h.nn i hi y (List.mem_of_mem_tail hy)
    · rw [upF_ne f e] at hy
      exact h.nn i hi y hy
  cases hr : rwl l j 3 with
  | nil =>
    have h0 := (h.ji.none hj).1 hr
    refine ⟨[], l, ?_, ⟨h.ji.congr (fun i hi => ?_), hnt⟩, rfl, by rw [h0]; rfl⟩
    · unfold unlK
      rw [if_neg (by rw [nn_j]; decide), T3_find f hj]
      show (if true = true then _ else _) = _
      rw [if_pos rfl, if_neg hnn]
      rw [show sel (inRow ((j : Int) + 1) 1 3) l = [] from hr]
      show ((0 : Int), (0 : Int), ([] : List Wk), l, _) = _
      rw [T3_set f hj (r := (f j).tail) (by rw [h0]; rfl)]
    · by_cases e : i = j
      · subst e; rw [upF_self, h0]; rfl
      · rw [upF_ne f e]
  | cons rc rest =>
    obtain ⟨e1, h2⟩ := h.ji.wake hj hr
    refine ⟨[⟨rc.ws, rc.wg, rc.ar, zVa, false, 0⟩], leaW l rc.ws rc.wg, ?_, ⟨h2.congr (fun i hi => ?_), hnt⟩, leaW_len .., by rw [e1]; rfl⟩
    · unfold unlK
      rw [if_neg (by rw [nn_j]; decide), T3_find f hj]
      show (if true = true then _ else _) = _
      rw [if_pos rfl, if_neg hnn]
      rw [show sel (inRow ((j : Int) + 1) 1 3) l = rc :: rest from hr]
      show ((0 : Int), (0 : Int), [_], _, _) = _
      rw [T3_set f hj (r := (f j).tail) (o := (rc.ws, rc.wg)) (by rw [e1]; rfl)]
    · by_cases e : i = j
      · subst e; rw [if_pos rfl, upF_self, e1]; rfl
      · rw [if_neg e, upF_ne f e]
end

/-- the three lines in memory, in box A -/
structure Tm (wr : World) (B A : Nat) (v : Nat → Value) (f : Nat → List Hnd) : Prop where
  box : wr.heap[A]? = some (.cells #[v 0, v 1, v 2] 31 (0, 0))
  row : ∀ j, j < 3 → OffRow hkF 2 35 wr B (v j) (f j)
  ap : ∀ i j, i < 3 → j < 3 → i ≠ j → ∀ b, (v i).ownBlock = some b → ¬ (v j).ownBlock = some b
section
variable {w w' : World} {B A : Nat} {v : Nat → Value} {f : Nat → List Hnd}
theorem Tm.ch {Q : Nat → Prop} (h : Tm w B A v f) (hc : Ch Q w w') (hA : ¬ Q A) (hq : ∀ j, j < 3 → ∀ b, (v j).ownBlock = some b → ¬ Q b) : Tm w' B A v f :=
  ⟨hc.box h.box hA, fun j hj => (h.row j hj).ch hc (hq j hj), h.ap⟩
theorem Tm.cell (h : Tm w B A v f) {j : Nat} (hj : j < 3) : w.cell? ⟨A, j, none⟩ = some (v j) := by
  rw [Lib.cell_of_heap h.box]
  rcases three hj with rfl | rfl | rfl <;> rfl
theorem Tm.fz (h : Tm w B A v f) (j : Nat) : w.frozen? ⟨A, j, none⟩ = false := frz h.box j
theorem Tm.own (h : Tm w B A v f) {j : Nat} (hj : j < 3) {b : Nat} (hb : (v j).ownBlock = some b) : B ≤ b ∧ b < w.heap.size ∧ b ≠ A ∧ ∃ cs, w.heap[b]? = some (.cells cs 35 (0, 0)) := by
  obtain ⟨h1, cs, h2⟩ := (h.row j hj).lt hb
  exact ⟨h1, (Array.getElem?_eq_some_iff.1 h2).1, box_ne h2 h.box (by decide), cs, h2⟩
/-- one line has gone on, in world w1; its slice is stored -/
theorem Tm.upd (h : Tm w B A v f) {w1 : World} {j : Nat} (hj : j < 3) {u : Value} {r : List Hnd} (hc : Ch (fun b => (v j).ownBlock = some b) w w1) (hr : OffRow hkF 2 35 w1 B u r) (hu : ∀ b, u.ownBlock = some b → (v j).ownBlock = some b ∨ w.heap.size ≤ b) :
    Tm (w1.setCell ⟨A, j, none⟩ u) B A (fun i => if i = j then u else v i) (upF f j r) := by
  have hb1 := hc.box h.box (fun e => (h.own hj e).2.2.1 rfl)
  have hne : ∀ b, u.ownBlock = some b → b ≠ A := fun b hb e => by
    obtain ⟨-, cs, h2⟩ := hr.lt hb
    exact box_ne h2 hb1 (by decide) e
  have hcs : Ch (fun y => y = A) w1 (w1.setCell ⟨A, j, none⟩ u) := Ch.set (Q := fun y => y = A) _ rfl j u
  refine ⟨?_, fun i hi => ?_, fun i k hi hk hik b hb => ?_⟩
  · have := heap_set hb1 j u
    rw [this]
    rcases three hj with rfl | rfl | rfl <;> rfl
  · by_cases e : i = j
    · subst e
      rw [upF_self, if_pos rfl]
      exact hr.ch hcs hne
    · rw [upF_ne f e, if_neg e]
      exact ((h.row i hi).ch hc (fun b hb hb2 => h.ap i j hi hj e b hb hb2)).ch hcs (fun b hb => (h.own hi hb).2.2.1)
  · by_cases e : i = j
    · subst e
      rw [if_pos rfl] at hb
      rw [if_neg (fun e2 => hik e2.symm)]
      intro hb2
      rcases hu b hb with e3 | e3
      · exact h.ap i k hi hk hik b e3 hb2
      · have := (h.own hk hb2).2.1; omega
    · rw [if_neg e] at hb
      by_cases e2 : k = j
      · subst e2
        rw [if_pos rfl]
        intro hb2
        rcases hu b hb2 with e3 | e3
        · exact h.ap i k hi hk hik b hb e3
        · have := (h.own hi hb).2.1; omega
      · rw [if_neg e2]
        exact h.ap i k hi hk hik b hb
end

/-- LocksTurn's world -/
structure Tw (w wr : World) (N c bp : Nat) (l : List Wt) (ls : List Lk) (G : Nat → Prop) (A : Nat) (v : Nat → Value) (f : Nat → List Hnd) : Prop where
  s1 : LW wr N c bp l ls G
  bl : Below w.heap.size w wr
  lo : w.heap.size ≤ N
  tm : Tm wr w.heap.size A v f
  la : w.heap.size ≤ A
section
variable {w wr w' : World} {N c bp : Nat} {l : List Wt} {ls : List Lk} {G : Nat → Prop} {A : Nat} {v : Nat → Value} {f : Nat → List Hnd}
theorem Tw.quiet (h : Tw w wr N c bp l ls G A v f) (hc : Ch (fun _ => False) wr w') : Tw w w' N c bp l ls G A v f :=
  ⟨h.s1.quiet hc, h.bl.trans (hc.below h.bl.size (fun _ _ h => h)), h.lo, h.tm.ch hc (fun h => h) (fun _ _ _ _ h => h), h.la⟩
theorem Tw.notA (h : Tw w wr N c bp l ls G A v f) : ¬ G A := h.s1.nbox h.tm.box (by decide) (by decide) (by decide) (by decide) (by decide)
theorem Tw.notG (h : Tw w wr N c bp l ls G A v f) {j : Nat} (hj : j < 3) {b : Nat} (hb : (v j).ownBlock = some b) : ¬ G b := by
  obtain ⟨-, -, -, cs, e⟩ := h.tm.own hj hb
  exact h.s1.nbox e (by decide) (by decide) (by decide) (by decide) (by decide)
theorem Tw.call (h : Tw w wr N c bp l ls G A v f) {l2 : List Wt} {ls2 : List Lk} (k : AnsL wr w' N c bp G l2 ls2) : ∃ G', Tw w w' N c bp l2 ls2 G' A v f ∧ Ch G wr w' ∧ ∀ y, G' y → G y ∨ wr.heap.size ≤ y := by
  obtain ⟨G', h1, h2, h3⟩ := k
  exact ⟨G', ⟨h1, h.bl.trans (h2.below h.bl.size (fun y hy e => by have := (h.s1.foot e).1; have := h.lo; omega)), h.lo, h.tm.ch h2 h.notA (fun j hj b hb => h.notG hj hb), h.la⟩, h2, h3⟩
theorem Tw.away (h : Tw w wr N c bp l ls G A v f) {D : Nat} (hD : w.heap.size ≤ D) (hG : ¬ G D) (hA : A ≠ D) (ht : ∀ j, j < 3 → ¬ (v j).ownBlock = some D) (hc : Ch (fun y => y = D) wr w') : Tw w w' N c bp l ls G A v f :=
  ⟨h.s1.frame hc (fun y hy e => hG (e ▸ hy)), h.bl.trans (hc.below h.bl.size (fun y hy e => by omega)), h.lo, h.tm.ch hc hA (fun j hj b hb e => ht j hj (by rw [hb, e])), h.la⟩
theorem Tw.asked (h : Tw w wr N c bp l ls G A v f) {V w6 : World} (cV : Ch (fun _ => False) wr V) {l2 : List Wt} {ls2 : List Lk} (k : AnsL V w6 N c bp G l2 ls2) {D : Nat} (hD : wr.heap.size ≤ D) (hc : Ch (fun z => z = D) w6 w') (hd : D < V.heap.size ∨ D = w6.heap.size) :
    ∃ G', Tw w w' N c bp l2 ls2 G' A v f ∧ Ch (fun y => G y ∨ y = D) wr w' := by
  obtain ⟨G', h1, h2, h3⟩ := (h.quiet cV).call k
  have hg : ¬ G' D := fun e => by
    rcases hd with hd | hd
    · rcases h3 D e with e2 | e2
      · have := (h.s1.foot e2).2; omega
      · omega
    · have := (h1.s1.foot e).2; omega
  have hA := (Array.getElem?_eq_some_iff.1 h.tm.box).1
  exact ⟨G', h1.away (by have := h.bl.size; omega) hg (by omega) (fun j hj e => by have := (h.tm.own hj e).2.1; omega) hc, (((cV.mono (Q' := fun y => G y ∨ y = D) (fun _ _ h => h.elim)).trans h2 (fun y _ e => .inl e)).trans hc (fun y _ e => .inr e))⟩
end

end Go.Proofs.Ytoabhmpakcgloaa

namespace Go.Proofs.Ytoabhmpakcgloaa
open Go.RowKit

abbrev soturn0 : Oper := { dst := some 108, op := Op.move (Operand.tmp 5), type := 26, pos := "law.go:179", after := #[], guard := none }
abbrev soturn1 : Oper := { dst := some 109, op := Op.load 35 (Operand.tmp 11), type := 35, pos := "law.go:179", after := #[], guard := none }
abbrev soturn2 : Oper := { dst := some 110, op := Op.move (Operand.tmp 10), type := 3, pos := "law.go:179", after := #[], guard := none }
abbrev soturn3 : Oper := { dst := some 111, op := Op.binOp BinOp.add 3 (Operand.tmp 110) (Operand.const (Value.int IntKind.i64 1)) 3, type := 3, pos := "law.go:179", after := #[{ on := 2, ground := Ground.data }], guard := none }
abbrev soturn4 : Oper := { dst := some 112, op := Op.call { callee := Callee.value (Operand.func 10), args := #[Operand.tmp 111], argTypes := #[3] }, type := 35, pos := "law.go:179", after := #[{ on := 3, ground := Ground.data }], guard := none }
abbrev soturn5 : Oper := { dst := some 113, op := Op.call { callee := Callee.value (Operand.func 12), args := #[Operand.tmp 108, Operand.tmp 109, Operand.tmp 112], argTypes := #[26, 35, 35] }, type := 47, pos := "law.go:179", after := #[{ on := 0, ground := Ground.data }, { on := 1, ground := Ground.data }, { on := 4, ground := Ground.data }, { on := 4, ground := Ground.chain }], guard := none }
abbrev soturn6 : Oper := { dst := some 107, op := Op.move (Operand.tmp 113), type := 47, pos := "law.go:179", after := #[{ on := 5, ground := Ground.data }], guard := none }
abbrev soturn7 : Oper := { dst := some 114, op := Op.extract (Operand.tmp 107) 0, type := 46, pos := "law.go:179", after := #[{ on := 6, ground := Ground.data }], guard := none }
abbrev soturn8 : Oper := { dst := some 115, op := Op.extract (Operand.tmp 107) 1, type := 27, pos := "law.go:179", after := #[{ on := 6, ground := Ground.data }, { on := 10, ground := Ground.gcOnly Departure.lateStores }], guard := none }
abbrev soturn9 : Oper := { dst := some 15, op := Op.alloc 46, type := 0, pos := "law.go:179", after := #[], guard := none }
abbrev soturn10 : Oper := { dst := none, op := Op.store 46 (Operand.tmp 15) (Operand.tmp 114), type := 0, pos := "law.go:179", after := #[{ on := 9, ground := Ground.data }, { on := 7, ground := Ground.data }, { on := 5, ground := Ground.chain }, { on := 0, ground := Ground.phase }, { on := 1, ground := Ground.phase }, { on := 2, ground := Ground.phase }, { on := 3, ground := Ground.phase }, { on := 4, ground := Ground.phase }, { on := 5, ground := Ground.phase }, { on := 6, ground := Ground.phase }, { on := 7, ground := Ground.phase }, { on := 8, ground := Ground.textOnly Departure.lateStores }, { on := 9, ground := Ground.phase }], guard := none }
abbrev soturn11 : Oper := { dst := some 16, op := Op.assign (Operand.tmp 115), type := 27, pos := "law.go:179", after := #[{ on := 8, ground := Ground.data }, { on := 10, ground := Ground.chain }, { on := 0, ground := Ground.phase }, { on := 1, ground := Ground.phase }, { on := 2, ground := Ground.phase }, { on := 3, ground := Ground.phase }, { on := 4, ground := Ground.phase }, { on := 5, ground := Ground.phase }, { on := 6, ground := Ground.phase }, { on := 7, ground := Ground.phase }, { on := 8, ground := Ground.phase }, { on := 9, ground := Ground.phase }, { on := 10, ground := Ground.phase }], guard := none }

set_option maxRecDepth 100000 in
set_option maxHeartbeats 8000000 in
theorem so_turn {W : World} {c gb j : Nat} {g : Hnd} (hj : j < 3) {Qs : Nat → Prop} (hQ : ∀ z, Qs z → z < W.heap.size) (hX : ∀ wq, Ch (fun z => Qs z ∨ W.heap.size ≤ z) W wq → wq.cell? ⟨gb, 0, none⟩ = some (.int .u32 g.1) ∧ wq.cell? ⟨gb, 1, none⟩ = some (.int .u32 g.2)) {R : Dd → Int → Value → World → World → Prop}
    (hs : ∀ V, Ch (fun _ => False) W V → Calls Try.prog 12 #[.pointer (some ⟨c, 0, none⟩), hkV g, hkV ((j : Int) + 1, 1)] V fun e w' => ∃ dd er sa sn sc, e = .returned (.tuple #[ddV dd (.slice sa sn sc), .int .i64 er]) ∧ R dd er (.slice sa sn sc) V w' ∧ Ch Qs V w')
    {u0 u1 u2 u3 u4 u6 u7 u8 u9 u12 u13 u14 u15 u16 u17 u18 u19 u20 u21 u22 u23 u24 u25 u26 u27 u28 u29 u30 u31 u32 u33 u34 u35 u36 u37 u38 u39 u40 u41 u42 u43 u44 u45 u46 u47 u48 u49 u50 u51 u52 u53 u54 u55 u56 u57 u58 u59 u60 u61 u62 u63 u64 u65 u66 u67 u68 u69 u70 u71 u72 u73 u74 u75 u76 u77 u78 u79 u80 u81 u82 u83 u84 u85 u86 u87 u88 u89 u90 u91 u92 u93 u94 u95 u96 u97 u98 u99 u100 u101 u102 u103 u104 u105 u106 u107 u108 u109 u110 u111 u112 u113 u114 u115 u116 u117 u118 u119 u120 u121 u122 u123 u124 u125 u126 u127 u128 u129 u130 u131 u132 u133 u134 u135 u136 u137 u138 u139 u140 u141 u142 u143 u144 u145 u146 u147 u148 u149 u150 u151 u152 u153 u154 u155 u156 u157 u158 u159 u160 u161 u162 u163 u164 u165 u166 u167 u168 u169 u170 u171 u172 u173 u174 u175 u176 u177 u178 u179 u180 u181 u182 u183 u184 u185 u186 u187 u188 u189 u190 u191 u192 u193 u194 u195 u196 u197 u198 u199 u200 u201 u202 u203 u204 u205 u206 u207 u208 u209 u210 u211 u212 u213 u214 u215 u216 u217 u218 u219 u220 u221 u222 u223 u224 u225 u226 u227 u228 u229 u230 u231 u232 u233 u234 u235 u236 u237 u238 u239 u240 u241 u242 u243 u244 u245 u246 u247 u248 u249 u250 u251 u252 u253 u254 u255 u256 u257 u258 u259 u260 u261 u262 u263 u264 u265 u266 u267 u268 u269 u270 u271 u272 u273 u274 : Value} {K : Act → World → Prop} (hK0 : ∀ (A : Nat) (dd : Dd) (er : Int) (sa : Option Addr) (sn sc : Nat) (V w6 w7 : World) (t107 t108 t109 t110 t111 t112 t113 t114 t115 : Value), Ch (fun _ => False) W V → R dd er (.slice sa sn sc) V w6 → Ch Qs V w6 → W.heap.size ≤ A → w7.heap[A]? = some (.cells #[.int .i64 dd.f, .int .i64 dd.v.n, .int .u32 dd.v.s, .int .u32 dd.v.g, .bool dd.ok, .slice sa sn sc] 46 (0, 0)) → Ch (fun z => z = A) w6 w7 → (A < V.heap.size ∨ A = w6.heap.size) → K { tmps := List.toArray (u0 :: u1 :: u2 :: u3 :: u4 :: (.pointer (some ⟨c, 0, none⟩)) :: u6 :: u7 :: u8 :: u9 :: (.int .i64 (j : Int)) :: (.pointer (some ⟨gb, 0, none⟩)) :: u12 :: u13 :: u14 :: (.pointer (some ⟨A, 0, none⟩)) :: (.int .i64 er) :: u17 :: u18 :: u19 :: u20 :: u21 :: u22 :: u23 :: u24 :: u25 :: u26 :: u27 :: u28 :: u29 :: u30 :: u31 :: u32 :: u33 :: u34 :: u35 :: u36 :: u37 :: u38 :: u39 :: u40 :: u41 :: u42 :: u43 :: u44 :: u45 :: u46 :: u47 :: u48 :: u49 :: u50 :: u51 :: u52 :: u53 :: u54 :: u55 :: u56 :: u57 :: u58 :: u59 :: u60 :: u61 :: u62 :: u63 :: u64 :: u65 :: u66 :: u67 :: u68 :: u69 :: u70 :: u71 :: u72 :: u73 :: u74 :: u75 :: u76 :: u77 :: u78 :: u79 :: u80 :: u81 :: u82 :: u83 :: u84 :: u85 :: u86 :: u87 :: u88 :: u89 :: u90 :: u91 :: u92 :: u93 :: u94 :: u95 :: u96 :: u97 :: u98 :: u99 :: u100 :: u101 :: u102 :: u103 :: u104 :: u105 :: u106 :: (t107) :: (t108) :: (t109) :: (t110) :: (t111) :: (t112) :: (t113) :: (t114) :: (t115) :: u116 :: u117 :: u118 :: u119 :: u120 :: u121 :: u122 :: u123 :: u124 :: u125 :: u126 :: u127 :: u128 :: u129 :: u130 :: u131 :: u132 :: u133 :: u134 :: u135 :: u136 :: u137 :: u138 :: u139 :: u140 :: u141 :: u142 :: u143 :: u144 :: u145 :: u146 :: u147 :: u148 :: u149 :: u150 :: u151 :: u152 :: u153 :: u154 :: u155 :: u156 :: u157 :: u158 :: u159 :: u160 :: u161 :: u162 :: u163 :: u164 :: u165 :: u166 :: u167 :: u168 :: u169 :: u170 :: u171 :: u172 :: u173 :: u174 :: u175 :: u176 :: u177 :: u178 :: u179 :: u180 :: u181 :: u182 :: u183 :: u184 :: u185 :: u186 :: u187 :: u188 :: u189 :: u190 :: u191 :: u192 :: u193 :: u194 :: u195 :: u196 :: u197 :: u198 :: u199 :: u200 :: u201 :: u202 :: u203 :: u204 :: u205 :: u206 :: u207 :: u208 :: u209 :: u210 :: u211 :: u212 :: u213 :: u214 :: u215 :: u216 :: u217 :: u218 :: u219 :: u220 :: u221 :: u222 :: u223 :: u224 :: u225 :: u226 :: u227 :: u228 :: u229 :: u230 :: u231 :: u232 :: u233 :: u234 :: u235 :: u236 :: u237 :: u238 :: u239 :: u240 :: u241 :: u242 :: u243 :: u244 :: u245 :: u246 :: u247 :: u248 :: u249 :: u250 :: u251 :: u252 :: u253 :: u254 :: u255 :: u256 :: u257 :: u258 :: u259 :: u260 :: u261 :: u262 :: u263 :: u264 :: u265 :: u266 :: u267 :: u268 :: u269 :: u270 :: u271 :: u272 :: u273 :: u274 :: []), defers := [] } w7) :
    (Code.region 26 (List.toArray (soturn0 :: soturn1 :: soturn2 :: soturn3 :: soturn4 :: soturn5 :: soturn6 :: soturn7 :: soturn8 :: soturn9 :: soturn10 :: soturn11 :: [])) true).wp Try.prog (Exit.then K (fun _ _ _ => False)) { tmps := List.toArray (u0 :: u1 :: u2 :: u3 :: u4 :: (.pointer (some ⟨c, 0, none⟩)) :: u6 :: u7 :: u8 :: u9 :: (.int .i64 (j : Int)) :: (.pointer (some ⟨gb, 0, none⟩)) :: u12 :: u13 :: u14 :: u15 :: u16 :: u17 :: u18 :: u19 :: u20 :: u21 :: u22 :: u23 :: u24 :: u25 :: u26 :: u27 :: u28 :: u29 :: u30 :: u31 :: u32 :: u33 :: u34 :: u35 :: u36 :: u37 :: u38 :: u39 :: u40 :: u41 :: u42 :: u43 :: u44 :: u45 :: u46 :: u47 :: u48 :: u49 :: u50 :: u51 :: u52 :: u53 :: u54 :: u55 :: u56 :: u57 :: u58 :: u59 :: u60 :: u61 :: u62 :: u63 :: u64 :: u65 :: u66 :: u67 :: u68 :: u69 :: u70 :: u71 :: u72 :: u73 :: u74 :: u75 :: u76 :: u77 :: u78 :: u79 :: u80 :: u81 :: u82 :: u83 :: u84 :: u85 :: u86 :: u87 :: u88 :: u89 :: u90 :: u91 :: u92 :: u93 :: u94 :: u95 :: u96 :: u97 :: u98 :: u99 :: u100 :: u101 :: u102 :: u103 :: u104 :: u105 :: u106 :: u107 :: u108 :: u109 :: u110 :: u111 :: u112 :: u113 :: u114 :: u115 :: u116 :: u117 :: u118 :: u119 :: u120 :: u121 :: u122 :: u123 :: u124 :: u125 :: u126 :: u127 :: u128 :: u129 :: u130 :: u131 :: u132 :: u133 :: u134 :: u135 :: u136 :: u137 :: u138 :: u139 :: u140 :: u141 :: u142 :: u143 :: u144 :: u145 :: u146 :: u147 :: u148 :: u149 :: u150 :: u151 :: u152 :: u153 :: u154 :: u155 :: u156 :: u157 :: u158 :: u159 :: u160 :: u161 :: u162 :: u163 :: u164 :: u165 :: u166 :: u167 :: u168 :: u169 :: u170 :: u171 :: u172 :: u173 :: u174 :: u175 :: u176 :: u177 :: u178 :: u179 :: u180 :: u181 :: u182 :: u183 :: u184 :: u185 :: u186 :: u187 :: u188 :: u189 :: u190 :: u191 :: u192 :: u193 :: u194 :: u195 :: u196 :: u197 :: u198 :: u199 :: u200 :: u201 :: u202 :: u203 :: u204 :: u205 :: u206 :: u207 :: u208 :: u209 :: u210 :: u211 :: u212 :: u213 :: u214 :: u215 :: u216 :: u217 :: u218 :: u219 :: u220 :: u221 :: u222 :: u223 :: u224 :: u225 :: u226 :: u227 :: u228 :: u229 :: u230 :: u231 :: u232 :: u233 :: u234 :: u235 :: u236 :: u237 :: u238 :: u239 :: u240 :: u241 :: u242 :: u243 :: u244 :: u245 :: u246 :: u247 :: u248 :: u249 :: u250 :: u251 :: u252 :: u253 :: u254 :: u255 :: u256 :: u257 :: u258 :: u259 :: u260 :: u261 :: u262 :: u263 :: u264 :: u265 :: u266 :: u267 :: u268 :: u269 :: u270 :: u271 :: u272 :: u273 :: u274 :: []), defers := [] } W := by
  have HK := hide hK0
  have HS0 := hide hs
  have HQ := hide hQ
  have HX0 := hide hX
  clear hK0 hs hQ hX
  have e2 : IntKind.i64.wrap ((j : Int) + 1) = (j : Int) + 1 := by rw [IntKind.wrap_i64]; omega
  refine wp_reg (fun z => Qs z ∨ W.heap.size ≤ z) (R := fun V => Ch (fun _ => False) W V) (by kernel_rfl) (Ch.drew _) (fun V0 cV zk => ?_)
  have CV := hide cV
  clear cV
  have HX := hide (fun wq (kq : Ch (fun z => Qs z ∨ W.heap.size ≤ z) V0 wq) => HX0.out wq ((CV.out.mono (Q' := fun z => Qs z ∨ W.heap.size ≤ z) (fun _ _ h => h.elim)).trans kq (fun _ _ h => h)))
  apply tk 0 soturn0 rfl (by kernel_rfl) (fun _ _ _ h => h) zk
  · intro wq zq
    go_simp
    try rfl
  go_frame
  apply tk 1 soturn1 rfl (by kernel_rfl) (fun _ _ _ h => h) zk
  · intro wq zq
    obtain ⟨s0, s1⟩ := HX.out _ zq
    go_simp
    try rfl
  go_frame
  apply tk 2 soturn2 rfl (by kernel_rfl) (fun _ _ _ h => h) zk
  · intro wq zq
    go_simp
    try rfl
  go_frame
  apply tk 3 soturn3 rfl (by kernel_rfl) (fun _ _ _ h => h) zk
  · intro wq zq
    go_simp
    try rfl
  go_frame
  refine wpAnyH_ready (rs := [4, 9]) (by kernel_rfl) (by simp) ?_
  refine AllReadyH.cons (o := soturn4) rfl (fun K hK => ?_) (AllReadyH.cons (o := soturn9) rfl (fun K hK => ?_) AllReadyH.nil)
  · go_simp
    refine (lhandle_is V0 (n := (j : Int) + 1) (by omega) (by omega)).mono ?_
    rintro e v1 ⟨rfl, hb⟩
    have Cv1 := hide (CV.out.trans (Ch.of_below (Q := fun _ => False) hb) (fun _ _ h => h))
    have Zv1 := hide (zk.trans (Ch.of_below (Q := fun z => Qs z ∨ W.heap.size ≤ z) hb) (fun _ _ h => h))
    clear hb
    go_wp2_with fail
    refine hK.out _ _ ?_ (fun zk => ?_)
    · exact Zv1.out
    clear hK K
    try go_frame
    refine wpAnyH_ready (rs := [5, 9]) (by kernel_rfl) (by simp) ?_
    refine AllReadyH.cons (o := soturn5) rfl (fun K hK => ?_) (AllReadyH.cons (o := soturn9) rfl (fun K hK => ?_) AllReadyH.nil)
    · go_simp
      refine (HS0.out v1 (Cv1.out)).mono ?_
      rintro e v2 ⟨dd, er, sa, sn, sc, rfl, hR, hcc⟩
      have RR := hide (And.intro (Cv1.out) (And.intro hR hcc))
      have Zv2 := hide (zk.trans hcc (fun _ _ h => .inl h))
      clear hR hcc
      go_wp2_with fail
      refine hK.out _ _ ?_ (fun zk => ?_)
      · exact Zv2.out
      clear hK K
      try go_frame
      apply tk 6 soturn6 rfl (by kernel_rfl) (fun _ _ _ h => h) zk
      · intro wq zq
        go_simp
        try rfl
      go_frame
      apply tk 7 soturn7 rfl (by kernel_rfl) (fun _ _ _ h => h) zk
      · intro wq zq
        go_simp
        try rfl
      go_frame
      apply tk 8 soturn8 rfl (by kernel_rfl) (fun _ _ _ h => h) zk
      · intro wq zq
        go_simp
        try rfl
      go_frame
      refine Go.Proofs.Ytoabhmpakcgloaa.rd 9 soturn9 rfl (by kernel_rfl) fun K hK => ?_
      go_simp
      have hn := heap_new v2 (.cells #[.int .i64 0, .int .i64 0, .int .u32 0, .int .u32 0, .bool false, .slice none 0 0] 46)
      have hcA := Ch.alloc (Q := fun _ => False) v2 (.cells #[.int .i64 0, .int .i64 0, .int .u32 0, .int .u32 0, .bool false, .slice none 0 0] 46)
      refine hK.out _ _ ?_ (fun zk => ?_)
      · exact zk.trans (Ch.alloc (Q := fun z => Qs z ∨ W.heap.size ≤ z) _ _) (fun _ _ h => h)
      clear hK K
      try go_frame
      have hsz : W.heap.size ≤ v2.heap.size := (Nat.le_trans RR.out.1.size RR.out.2.2.size)
      have hlt : v2.heap.size < (v2.alloc (.cells #[.int .i64 0, .int .i64 0, .int .u32 0, .int .u32 0, .bool false, .slice none 0 0] 46)).heap.size := by rw [World.size_alloc]; exact Nat.lt_succ_self _
      generalize v2.alloc (.cells #[.int .i64 0, .int .i64 0, .int .u32 0, .int .u32 0, .bool false, .slice none 0 0] 46) = v3 at hn hcA zk hlt ⊢
      have HN := hide hn
      have HA := hide (And.intro hsz hlt)
      have CA := hide hcA
      clear hn hcA hsz hlt
      have n9 := HN.out
      have d0 : v3.cell? ⟨v2.heap.size, 0, none⟩ = some (.int .i64 0) := by simp [Lib.cell_of_heap n9]
      have d1 : v3.cell? ⟨v2.heap.size, 1, none⟩ = some (.int .i64 0) := by simp [Lib.cell_of_heap n9]
      have d2 : v3.cell? ⟨v2.heap.size, 2, none⟩ = some (.int .u32 0) := by simp [Lib.cell_of_heap n9]
      have d3 : v3.cell? ⟨v2.heap.size, 3, none⟩ = some (.int .u32 0) := by simp [Lib.cell_of_heap n9]
      have d4 : v3.cell? ⟨v2.heap.size, 4, none⟩ = some (.bool false) := by simp [Lib.cell_of_heap n9]
      have d5 : v3.cell? ⟨v2.heap.size, 5, none⟩ = some (.slice none 0 0) := by simp [Lib.cell_of_heap n9]
      have df : ∀ o, v3.frozen? ⟨v2.heap.size, o, none⟩ = false := fun o => by simp [World.frozen?, n9]
      have HS := hide (did_set n9 (.int .i64 dd.f) (.int .i64 dd.v.n) (.int .u32 dd.v.s) (.int .u32 dd.v.g) (.bool dd.ok) (.slice sa sn sc))
      clear n9
      refine Go.Proofs.Ytoabhmpakcgloaa.rd 10 soturn10 rfl (by kernel_rfl) fun K hK => ?_
      go_simp
      refine hK.out _ _ ?_ (fun zk => ?_)
      · exact zk.trans HS.out.2 (fun z hz e => .inr (by rw [e]; exact HA.out.1))
      clear hK K
      try go_frame
      apply tk 11 soturn11 rfl (by kernel_rfl) (fun _ _ _ h => h) zk
      · intro wq zq
        go_simp
        try rfl
      go_frame
      refine wpAnyH_done (by kernel_rfl) ?_ _
      exact HK.out (v2.heap.size) dd er sa sn sc _ _ _ _ _ _ _ _ _ _ _ _ RR.out.1 RR.out.2.1 RR.out.2.2 HA.out.1 HS.out.1 ((CA.out.mono (fun _ _ h => h.elim)).trans HS.out.2 (fun _ _ h => h)) (.inr rfl)
    · go_simp
      have hn := heap_new v1 (.cells #[.int .i64 0, .int .i64 0, .int .u32 0, .int .u32 0, .bool false, .slice none 0 0] 46)
      have hcA := Ch.alloc (Q := fun _ => False) v1 (.cells #[.int .i64 0, .int .i64 0, .int .u32 0, .int .u32 0, .bool false, .slice none 0 0] 46)
      refine hK.out _ _ ?_ (fun zk => ?_)
      · exact zk.trans (Ch.alloc (Q := fun z => Qs z ∨ W.heap.size ≤ z) _ _) (fun _ _ h => h)
      clear hK K
      try go_frame
      have hsz : W.heap.size ≤ v1.heap.size := Cv1.out.size
      have hlt : v1.heap.size < (v1.alloc (.cells #[.int .i64 0, .int .i64 0, .int .u32 0, .int .u32 0, .bool false, .slice none 0 0] 46)).heap.size := by rw [World.size_alloc]; exact Nat.lt_succ_self _
      generalize v1.alloc (.cells #[.int .i64 0, .int .i64 0, .int .u32 0, .int .u32 0, .bool false, .slice none 0 0] 46) = v4 at hn hcA zk hlt ⊢
      have HN := hide hn
      have HA := hide (And.intro hsz hlt)
      have Cv4 := hide (Cv1.out.trans hcA (fun _ _ h => h))
      clear hn hcA hsz hlt
      refine Go.Proofs.Ytoabhmpakcgloaa.rd 5 soturn5 rfl (by kernel_rfl) fun K hK => ?_
      go_simp
      refine (HS0.out v4 (Cv4.out)).mono ?_
      rintro e v5 ⟨dd, er, sa, sn, sc, rfl, hR, hcc⟩
      have RR := hide (And.intro (Cv4.out) (And.intro hR hcc))
      have Zv5 := hide (zk.trans hcc (fun _ _ h => .inl h))
      replace HN := hide (hcc.box HN.out (fun e => by have h1 := HQ.out _ e; have h2 := HA.out.1; omega))
      clear hR hcc
      go_wp2_with fail
      refine hK.out _ _ ?_ (fun zk => ?_)
      · exact Zv5.out
      clear hK K
      try go_frame
      apply tk 6 soturn6 rfl (by kernel_rfl) (fun _ _ _ h => h) zk
      · intro wq zq
        go_simp
        try rfl
      go_frame
      apply tk 7 soturn7 rfl (by kernel_rfl) (fun _ _ _ h => h) zk
      · intro wq zq
        go_simp
        try rfl
      go_frame
      apply tk 8 soturn8 rfl (by kernel_rfl) (fun _ _ _ h => h) zk
      · intro wq zq
        go_simp
        try rfl
      go_frame
      have n9 := HN.out
      have d0 : v5.cell? ⟨v1.heap.size, 0, none⟩ = some (.int .i64 0) := by simp [Lib.cell_of_heap n9]
      have d1 : v5.cell? ⟨v1.heap.size, 1, none⟩ = some (.int .i64 0) := by simp [Lib.cell_of_heap n9]
      have d2 : v5.cell? ⟨v1.heap.size, 2, none⟩ = some (.int .u32 0) := by simp [Lib.cell_of_heap n9]
      have d3 : v5.cell? ⟨v1.heap.size, 3, none⟩ = some (.int .u32 0) := by simp [Lib.cell_of_heap n9]
      have d4 : v5.cell? ⟨v1.heap.size, 4, none⟩ = some (.bool false) := by simp [Lib.cell_of_heap n9]
      have d5 : v5.cell? ⟨v1.heap.size, 5, none⟩ = some (.slice none 0 0) := by simp [Lib.cell_of_heap n9]
      have df : ∀ o, v5.frozen? ⟨v1.heap.size, o, none⟩ = false := fun o => by simp [World.frozen?, n9]
      have HS := hide (did_set n9 (.int .i64 dd.f) (.int .i64 dd.v.n) (.int .u32 dd.v.s) (.int .u32 dd.v.g) (.bool dd.ok) (.slice sa sn sc))
      clear n9
      refine Go.Proofs.Ytoabhmpakcgloaa.rd 10 soturn10 rfl (by kernel_rfl) fun K hK => ?_
      go_simp
      refine hK.out _ _ ?_ (fun zk => ?_)
      · exact zk.trans HS.out.2 (fun z hz e => .inr (by rw [e]; exact HA.out.1))
      clear hK K
      try go_frame
      apply tk 11 soturn11 rfl (by kernel_rfl) (fun _ _ _ h => h) zk
      · intro wq zq
        go_simp
        try rfl
      go_frame
      refine wpAnyH_done (by kernel_rfl) ?_ _
      exact HK.out (v1.heap.size) dd er sa sn sc _ _ _ _ _ _ _ _ _ _ _ _ RR.out.1 RR.out.2.1 RR.out.2.2 HA.out.1 HS.out.1 HS.out.2 (.inl (Nat.lt_of_lt_of_le HA.out.2 (Nat.le_refl _)))
  · go_simp
    have hn := heap_new V0 (.cells #[.int .i64 0, .int .i64 0, .int .u32 0, .int .u32 0, .bool false, .slice none 0 0] 46)
    have hcA := Ch.alloc (Q := fun _ => False) V0 (.cells #[.int .i64 0, .int .i64 0, .int .u32 0, .int .u32 0, .bool false, .slice none 0 0] 46)
    refine hK.out _ _ ?_ (fun zk => ?_)
    · exact zk.trans (Ch.alloc (Q := fun z => Qs z ∨ W.heap.size ≤ z) _ _) (fun _ _ h => h)
    clear hK K
    try go_frame
    have hsz : W.heap.size ≤ V0.heap.size := CV.out.size
    have hlt : V0.heap.size < (V0.alloc (.cells #[.int .i64 0, .int .i64 0, .int .u32 0, .int .u32 0, .bool false, .slice none 0 0] 46)).heap.size := by rw [World.size_alloc]; exact Nat.lt_succ_self _
    generalize V0.alloc (.cells #[.int .i64 0, .int .i64 0, .int .u32 0, .int .u32 0, .bool false, .slice none 0 0] 46) = v6 at hn hcA zk hlt ⊢
    have HN := hide hn
    have HA := hide (And.intro hsz hlt)
    have Cv6 := hide (CV.out.trans hcA (fun _ _ h => h))
    clear hn hcA hsz hlt
    refine Go.Proofs.Ytoabhmpakcgloaa.rd 4 soturn4 rfl (by kernel_rfl) fun K hK => ?_
    go_simp
    refine (lhandle_is v6 (n := (j : Int) + 1) (by omega) (by omega)).mono ?_
    rintro e v7 ⟨rfl, hb⟩
    have Cv7 := hide (Cv6.out.trans (Ch.of_below (Q := fun _ => False) hb) (fun _ _ h => h))
    have Zv7 := hide (zk.trans (Ch.of_below (Q := fun z => Qs z ∨ W.heap.size ≤ z) hb) (fun _ _ h => h))
    replace HN := hide ((Ch.of_below (Q := fun _ => False) hb).box HN.out (fun h => h))
    replace HA := hide (And.intro HA.out.1 (Nat.lt_of_lt_of_le HA.out.2 hb.size))
    clear hb
    go_wp2_with fail
    refine hK.out _ _ ?_ (fun zk => ?_)
    · exact Zv7.out
    clear hK K
    try go_frame
    refine Go.Proofs.Ytoabhmpakcgloaa.rd 5 soturn5 rfl (by kernel_rfl) fun K hK => ?_
    go_simp
    refine (HS0.out v7 (Cv7.out)).mono ?_
    rintro e v8 ⟨dd, er, sa, sn, sc, rfl, hR, hcc⟩
    have RR := hide (And.intro (Cv7.out) (And.intro hR hcc))
    have Zv8 := hide (zk.trans hcc (fun _ _ h => .inl h))
    replace HN := hide (hcc.box HN.out (fun e => by have h1 := HQ.out _ e; have h2 := HA.out.1; omega))
    clear hR hcc
    go_wp2_with fail
    refine hK.out _ _ ?_ (fun zk => ?_)
    · exact Zv8.out
    clear hK K
    try go_frame
    apply tk 6 soturn6 rfl (by kernel_rfl) (fun _ _ _ h => h) zk
    · intro wq zq
      go_simp
      try rfl
    go_frame
    apply tk 7 soturn7 rfl (by kernel_rfl) (fun _ _ _ h => h) zk
    · intro wq zq
      go_simp
      try rfl
    go_frame
    apply tk 8 soturn8 rfl (by kernel_rfl) (fun _ _ _ h => h) zk
    · intro wq zq
      go_simp
      try rfl
    go_frame
    have n9 := HN.out
    have d0 : v8.cell? ⟨V0.heap.size, 0, none⟩ = some (.int .i64 0) := by simp [Lib.cell_of_heap n9]
    have d1 : v8.cell? ⟨V0.heap.size, 1, none⟩ = some (.int .i64 0) := by simp [Lib.cell_of_heap n9]
    have d2 : v8.cell? ⟨V0.heap.size, 2, none⟩ = some (.int .u32 0) := by simp [Lib.cell_of_heap n9]
    have d3 : v8.cell? ⟨V0.heap.size, 3, none⟩ = some (.int .u32 0) := by simp [Lib.cell_of_heap n9]
    have d4 : v8.cell? ⟨V0.heap.size, 4, none⟩ = some (.bool false) := by simp [Lib.cell_of_heap n9]
    have d5 : v8.cell? ⟨V0.heap.size, 5, none⟩ = some (.slice none 0 0) := by simp [Lib.cell_of_heap n9]
    have df : ∀ o, v8.frozen? ⟨V0.heap.size, o, none⟩ = false := fun o => by simp [World.frozen?, n9]
    have HS := hide (did_set n9 (.int .i64 dd.f) (.int .i64 dd.v.n) (.int .u32 dd.v.s) (.int .u32 dd.v.g) (.bool dd.ok) (.slice sa sn sc))
    clear n9
    refine Go.Proofs.Ytoabhmpakcgloaa.rd 10 soturn10 rfl (by kernel_rfl) fun K hK => ?_
    go_simp
    refine hK.out _ _ ?_ (fun zk => ?_)
    · exact zk.trans HS.out.2 (fun z hz e => .inr (by rw [e]; exact HA.out.1))
    clear hK K
    try go_frame
    apply tk 11 soturn11 rfl (by kernel_rfl) (fun _ _ _ h => h) zk
    · intro wq zq
      go_simp
      try rfl
    go_frame
    refine wpAnyH_done (by kernel_rfl) ?_ _
    exact HK.out (V0.heap.size) dd er sa sn sc _ _ _ _ _ _ _ _ _ _ _ _ RR.out.1 RR.out.2.1 RR.out.2.2 HA.out.1 HS.out.1 HS.out.2 (.inl (Nat.lt_of_lt_of_le HA.out.2 (Nat.le_refl _)))

abbrev omt0 : Oper := { dst := some 149, op := Op.move (Operand.tmp 10), type := 3, pos := "law.go:189", after := #[], guard := none }
abbrev omt1 : Oper := { dst := some 150, op := Op.move (Operand.tmp 10), type := 3, pos := "law.go:189", after := #[], guard := none }
abbrev omt2 : Oper := { dst := some 151, op := Op.indexAddr 31 (Operand.tmp 7) (Operand.tmp 150), type := 0, pos := "law.go:189", after := #[{ on := 1, ground := Ground.data }], guard := none }
abbrev omt3 : Oper := { dst := some 152, op := Op.load 30 (Operand.tmp 151), type := 30, pos := "law.go:189", after := #[{ on := 2, ground := Ground.data }], guard := none }
abbrev omt4 : Oper := { dst := some 153, op := Op.load 35 (Operand.tmp 11), type := 35, pos := "law.go:189", after := #[], guard := none }
abbrev omt5 : Oper := { dst := some 154, op := Op.buildSlice 30 1 #[(0, Operand.tmp 153)], type := 30, pos := "law.go:189", after := #[{ on := 4, ground := Ground.data }], guard := none }
abbrev omt6 : Oper := { dst := some 155, op := Op.call { callee := Callee.builtin Builtin.append, args := #[Operand.tmp 152, Operand.tmp 154], argTypes := #[30, 30] }, type := 30, pos := "law.go:189", after := #[{ on := 3, ground := Ground.data }, { on := 5, ground := Ground.data }], guard := none }
abbrev omt7 : Oper := { dst := some 156, op := Op.indexAddr 31 (Operand.tmp 7) (Operand.tmp 149), type := 0, pos := "law.go:189", after := #[{ on := 0, ground := Ground.data }, { on := 0, ground := Ground.phase }, { on := 1, ground := Ground.phase }, { on := 2, ground := Ground.phase }, { on := 3, ground := Ground.phase }, { on := 4, ground := Ground.phase }, { on := 5, ground := Ground.phase }, { on := 6, ground := Ground.phase }], guard := none }
abbrev omt8 : Oper := { dst := none, op := Op.store 30 (Operand.tmp 156) (Operand.tmp 155), type := 0, pos := "law.go:189", after := #[{ on := 7, ground := Ground.data }, { on := 6, ground := Ground.data }, { on := 6, ground := Ground.chain }, { on := 0, ground := Ground.phase }, { on := 1, ground := Ground.phase }, { on := 2, ground := Ground.phase }, { on := 3, ground := Ground.phase }, { on := 4, ground := Ground.phase }, { on := 5, ground := Ground.phase }, { on := 6, ground := Ground.phase }], guard := none }

set_option maxRecDepth 100000 in
set_option maxHeartbeats 8000000 in
theorem om_turn {W : World} {B A gb j : Nat} {g : Hnd} {v : Nat → Value} {f : Nat → List Hnd} (hj : j < 3) (hm : Tm W B A v f) (hl : (f j).length ≤ 100000) (hB : B ≤ W.heap.size) (hg : W.heap[gb]? = some (.cells #[.int .u32 g.1, .int .u32 g.2] 35 (0, 0))) (ho : ¬ (v j).ownBlock = some gb) {u0 u1 u2 u3 u4 u5 u6 u8 u9 u12 u13 u14 u15 u16 u17 u18 u19 u20 u21 u22 u23 u24 u25 u26 u27 u28 u29 u30 u31 u32 u33 u34 u35 u36 u37 u38 u39 u40 u41 u42 u43 u44 u45 u46 u47 u48 u49 u50 u51 u52 u53 u54 u55 u56 u57 u58 u59 u60 u61 u62 u63 u64 u65 u66 u67 u68 u69 u70 u71 u72 u73 u74 u75 u76 u77 u78 u79 u80 u81 u82 u83 u84 u85 u86 u87 u88 u89 u90 u91 u92 u93 u94 u95 u96 u97 u98 u99 u100 u101 u102 u103 u104 u105 u106 u107 u108 u109 u110 u111 u112 u113 u114 u115 u116 u117 u118 u119 u120 u121 u122 u123 u124 u125 u126 u127 u128 u129 u130 u131 u132 u133 u134 u135 u136 u137 u138 u139 u140 u141 u142 u143 u144 u145 u146 u147 u148 u149 u150 u151 u152 u153 u154 u155 u156 u157 u158 u159 u160 u161 u162 u163 u164 u165 u166 u167 u168 u169 u170 u171 u172 u173 u174 u175 u176 u177 u178 u179 u180 u181 u182 u183 u184 u185 u186 u187 u188 u189 u190 u191 u192 u193 u194 u195 u196 u197 u198 u199 u200 u201 u202 u203 u204 u205 u206 u207 u208 u209 u210 u211 u212 u213 u214 u215 u216 u217 u218 u219 u220 u221 u222 u223 u224 u225 u226 u227 u228 u229 u230 u231 u232 u233 u234 u235 u236 u237 u238 u239 u240 u241 u242 u243 u244 u245 u246 u247 u248 u249 u250 u251 u252 u253 u254 u255 u256 u257 u258 u259 u260 u261 u262 u263 u264 u265 u266 u267 u268 u269 u270 u271 u272 u273 u274 : Value} {K : Act → World → Prop}
    (hK0 : ∀ (w' : World) (v9 t149 t150 t151 t152 t153 t154 t155 t156 : Value), Tm w' B A (fun i => if i = j then v9 else v i) (upF f j (f j ++ [g])) → Ch (fun b => (v j).ownBlock = some b ∨ b = A) W w' → K { tmps := List.toArray (u0 :: u1 :: u2 :: u3 :: u4 :: u5 :: u6 :: (.pointer (some ⟨A, 0, none⟩)) :: u8 :: u9 :: (.int .i64 (j : Int)) :: (.pointer (some ⟨gb, 0, none⟩)) :: u12 :: u13 :: u14 :: u15 :: u16 :: u17 :: u18 :: u19 :: u20 :: u21 :: u22 :: u23 :: u24 :: u25 :: u26 :: u27 :: u28 :: u29 :: u30 :: u31 :: u32 :: u33 :: u34 :: u35 :: u36 :: u37 :: u38 :: u39 :: u40 :: u41 :: u42 :: u43 :: u44 :: u45 :: u46 :: u47 :: u48 :: u49 :: u50 :: u51 :: u52 :: u53 :: u54 :: u55 :: u56 :: u57 :: u58 :: u59 :: u60 :: u61 :: u62 :: u63 :: u64 :: u65 :: u66 :: u67 :: u68 :: u69 :: u70 :: u71 :: u72 :: u73 :: u74 :: u75 :: u76 :: u77 :: u78 :: u79 :: u80 :: u81 :: u82 :: u83 :: u84 :: u85 :: u86 :: u87 :: u88 :: u89 :: u90 :: u91 :: u92 :: u93 :: u94 :: u95 :: u96 :: u97 :: u98 :: u99 :: u100 :: u101 :: u102 :: u103 :: u104 :: u105 :: u106 :: u107 :: u108 :: u109 :: u110 :: u111 :: u112 :: u113 :: u114 :: u115 :: u116 :: u117 :: u118 :: u119 :: u120 :: u121 :: u122 :: u123 :: u124 :: u125 :: u126 :: u127 :: u128 :: u129 :: u130 :: u131 :: u132 :: u133 :: u134 :: u135 :: u136 :: u137 :: u138 :: u139 :: u140 :: u141 :: u142 :: u143 :: u144 :: u145 :: u146 :: u147 :: u148 :: (t149) :: (t150) :: (t151) :: (t152) :: (t153) :: (t154) :: (t155) :: (t156) :: u157 :: u158 :: u159 :: u160 :: u161 :: u162 :: u163 :: u164 :: u165 :: u166 :: u167 :: u168 :: u169 :: u170 :: u171 :: u172 :: u173 :: u174 :: u175 :: u176 :: u177 :: u178 :: u179 :: u180 :: u181 :: u182 :: u183 :: u184 :: u185 :: u186 :: u187 :: u188 :: u189 :: u190 :: u191 :: u192 :: u193 :: u194 :: u195 :: u196 :: u197 :: u198 :: u199 :: u200 :: u201 :: u202 :: u203 :: u204 :: u205 :: u206 :: u207 :: u208 :: u209 :: u210 :: u211 :: u212 :: u213 :: u214 :: u215 :: u216 :: u217 :: u218 :: u219 :: u220 :: u221 :: u222 :: u223 :: u224 :: u225 :: u226 :: u227 :: u228 :: u229 :: u230 :: u231 :: u232 :: u233 :: u234 :: u235 :: u236 :: u237 :: u238 :: u239 :: u240 :: u241 :: u242 :: u243 :: u244 :: u245 :: u246 :: u247 :: u248 :: u249 :: u250 :: u251 :: u252 :: u253 :: u254 :: u255 :: u256 :: u257 :: u258 :: u259 :: u260 :: u261 :: u262 :: u263 :: u264 :: u265 :: u266 :: u267 :: u268 :: u269 :: u270 :: u271 :: u272 :: u273 :: u274 :: []), defers := [] } w') :
    (Code.region 32 (List.toArray (omt0 :: omt1 :: omt2 :: omt3 :: omt4 :: omt5 :: omt6 :: omt7 :: omt8 :: [])) true).wp Try.prog (Exit.then K (fun _ _ _ => False)) { tmps := List.toArray (u0 :: u1 :: u2 :: u3 :: u4 :: u5 :: u6 :: (.pointer (some ⟨A, 0, none⟩)) :: u8 :: u9 :: (.int .i64 (j : Int)) :: (.pointer (some ⟨gb, 0, none⟩)) :: u12 :: u13 :: u14 :: u15 :: u16 :: u17 :: u18 :: u19 :: u20 :: u21 :: u22 :: u23 :: u24 :: u25 :: u26 :: u27 :: u28 :: u29 :: u30 :: u31 :: u32 :: u33 :: u34 :: u35 :: u36 :: u37 :: u38 :: u39 :: u40 :: u41 :: u42 :: u43 :: u44 :: u45 :: u46 :: u47 :: u48 :: u49 :: u50 :: u51 :: u52 :: u53 :: u54 :: u55 :: u56 :: u57 :: u58 :: u59 :: u60 :: u61 :: u62 :: u63 :: u64 :: u65 :: u66 :: u67 :: u68 :: u69 :: u70 :: u71 :: u72 :: u73 :: u74 :: u75 :: u76 :: u77 :: u78 :: u79 :: u80 :: u81 :: u82 :: u83 :: u84 :: u85 :: u86 :: u87 :: u88 :: u89 :: u90 :: u91 :: u92 :: u93 :: u94 :: u95 :: u96 :: u97 :: u98 :: u99 :: u100 :: u101 :: u102 :: u103 :: u104 :: u105 :: u106 :: u107 :: u108 :: u109 :: u110 :: u111 :: u112 :: u113 :: u114 :: u115 :: u116 :: u117 :: u118 :: u119 :: u120 :: u121 :: u122 :: u123 :: u124 :: u125 :: u126 :: u127 :: u128 :: u129 :: u130 :: u131 :: u132 :: u133 :: u134 :: u135 :: u136 :: u137 :: u138 :: u139 :: u140 :: u141 :: u142 :: u143 :: u144 :: u145 :: u146 :: u147 :: u148 :: u149 :: u150 :: u151 :: u152 :: u153 :: u154 :: u155 :: u156 :: u157 :: u158 :: u159 :: u160 :: u161 :: u162 :: u163 :: u164 :: u165 :: u166 :: u167 :: u168 :: u169 :: u170 :: u171 :: u172 :: u173 :: u174 :: u175 :: u176 :: u177 :: u178 :: u179 :: u180 :: u181 :: u182 :: u183 :: u184 :: u185 :: u186 :: u187 :: u188 :: u189 :: u190 :: u191 :: u192 :: u193 :: u194 :: u195 :: u196 :: u197 :: u198 :: u199 :: u200 :: u201 :: u202 :: u203 :: u204 :: u205 :: u206 :: u207 :: u208 :: u209 :: u210 :: u211 :: u212 :: u213 :: u214 :: u215 :: u216 :: u217 :: u218 :: u219 :: u220 :: u221 :: u222 :: u223 :: u224 :: u225 :: u226 :: u227 :: u228 :: u229 :: u230 :: u231 :: u232 :: u233 :: u234 :: u235 :: u236 :: u237 :: u238 :: u239 :: u240 :: u241 :: u242 :: u243 :: u244 :: u245 :: u246 :: u247 :: u248 :: u249 :: u250 :: u251 :: u252 :: u253 :: u254 :: u255 :: u256 :: u257 :: u258 :: u259 :: u260 :: u261 :: u262 :: u263 :: u264 :: u265 :: u266 :: u267 :: u268 :: u269 :: u270 :: u271 :: u272 :: u273 :: u274 :: []), defers := [] } W := by
  obtain ⟨i0, hi0, hz0, hz1, hz2⟩ := nf_open nfHd
  have HK := hide hK0
  have HM := hide hm
  have HG := hide hg
  have z0 : (0 : Int) ≤ (j : Int) := by omega
  have z1 : (j : Int) < 3 := by omega
  have NGQ := hide (show ¬ ((v j).ownBlock = some gb ∨ gb = A ∨ W.heap.size ≤ gb) from fun e => by rcases e with e | e | e; exact ho e; exact box_ne hg hm.box (by decide) e; have := (Array.getElem?_eq_some_iff.1 hg).1; omega)
  clear hK0 hg ho
  refine wp_reg (fun b => (v j).ownBlock = some b ∨ b = A ∨ W.heap.size ≤ b) (R := fun V => Ch (fun _ => False) W V) (by kernel_rfl) (Ch.drew _) (fun V0 cV zk => ?_)
  have CV := hide cV
  clear cV
  have HX := hide (fun wq (kq : Ch (fun b => (v j).ownBlock = some b ∨ b = A ∨ W.heap.size ≤ b) V0 wq) => show wq.cell? ⟨gb, 0, none⟩ = some (.int .u32 g.1) ∧ wq.cell? ⟨gb, 1, none⟩ = some (.int .u32 g.2) from by
    have e := Lib.cell_of_heap (kq.box (CV.out.box HG.out (fun h => h)) NGQ.out)
    exact ⟨by simp [e], by simp [e]⟩)
  have HV := hide (HM.out.ch CV.out (fun h => h) (fun _ _ _ _ h => h))
  apply tk 0 omt0 rfl (by kernel_rfl) (fun _ _ _ h => h) zk
  · intro wq zq
    go_simp
    try rfl
  go_frame
  apply tk 1 omt1 rfl (by kernel_rfl) (fun _ _ _ h => h) zk
  · intro wq zq
    go_simp
    try rfl
  go_frame
  apply tk 2 omt2 rfl (by kernel_rfl) (fun _ _ _ h => h) zk
  · intro wq zq
    go_simp
    try rfl
  go_frame
  apply tk 4 omt4 rfl (by kernel_rfl) (fun _ _ _ h => h) zk
  · intro wq zq
    obtain ⟨s0, s1⟩ := HX.out _ zq
    go_simp
    try rfl
  go_frame
  refine wpAnyH_ready (rs := [3, 5]) (by kernel_rfl) (by simp) ?_
  refine AllReadyH.cons (o := omt3) rfl (fun K hK => ?_) (AllReadyH.cons (o := omt5) rfl (fun K hK => ?_) AllReadyH.nil)
  · have f1 := HV.out.cell hj
    go_simp
    refine hK.out _ _ ?_ (fun zk => ?_)
    · exact zk
    clear hK K
    try go_frame
    clear f1
    refine Go.Proofs.Ytoabhmpakcgloaa.rd 5 omt5 rfl (by kernel_rfl) fun K hK => ?_
    go_simp
    have hn := heap_new V0 (.cells #[.int .u32 g.1, .int .u32 g.2] 35)
    have hcA := Ch.alloc (Q := fun _ => False) V0 (.cells #[.int .u32 g.1, .int .u32 g.2] 35)
    refine hK.out _ _ ?_ (fun zk => ?_)
    · exact zk.trans (Ch.alloc (Q := fun b => (v j).ownBlock = some b ∨ b = A ∨ W.heap.size ≤ b) _ _) (fun _ _ h => h)
    clear hK K
    try go_frame
    generalize V0.alloc (.cells #[.int .u32 g.1, .int .u32 g.2] 35) = VA at hn hcA zk ⊢
    have HN := hide hn
    have CA := hide hcA
    have HVA := hide (HV.out.ch hcA (fun h => h) (fun _ _ _ _ h => h))
    clear hn hcA
    refine Go.Proofs.Ytoabhmpakcgloaa.rd 6 omt6 rfl (by kernel_rfl) fun K hK => ?_
    refine step_append_off (f := hkF) hkF_len rfl (.tmp 152) (.tmp 154) 30 rfl i0 (hvW 0 0) 8 Try.underlying30 hi0 hz0 hz1 hz2 rfl (by decide) (v j) rfl (HVA.out.row j hj) (Nat.le_trans hB (Nat.le_trans CV.out.size CA.out.size)) ⟨V0.heap.size, 0, none⟩ 1 g rfl (fun q u hq => ?_) (hkF_one g) (by unfold maxLen; omega) (by omega) (fun v9 w9 ho9 hc9 hw9 => ?_)
    · rw [Addr.add_lit, Lib.cell_of_heap HN.out, Nat.zero_add]
      show (hkF g).toArray[q]? = some u
      rw [List.getElem?_toArray]
      exact hq
    · obtain ⟨va, vc, hv9, -, -⟩ := ho9.form
      obtain ⟨n9, hn9⟩ : ∃ z, (f j ++ [g]).length = z := ⟨_, rfl⟩
      rw [hn9] at hv9
      subst hv9
      clear hn9
      have hu := HVA.out.upd hj hc9 ho9 hw9
      have HU := hide hu
      have ff : ∀ o, w9.frozen? ⟨A, o, none⟩ = false := fun o => frz (hc9.box HVA.out.box (fun e => (HVA.out.own hj e).2.2.1 rfl)) o
      have fc : w9.cell? ⟨A, j, none⟩ = some (v j) := by have e := (HVA.out.cell hj); rw [← e]; exact hc9.cell (cell_lt e) (fun e2 => (HVA.out.own hj e2).2.2.1 rfl) _
      clear hu ho9
      refine hK.out _ _ ?_ (fun zk => ?_)
      · exact zk.trans hc9 (fun _ _ e => .inl e)
      clear hK K
      try go_frame
      apply tk 7 omt7 rfl (by kernel_rfl) (fun _ _ _ h => h) zk
      · intro wq zq
        go_simp
        try rfl
      go_frame
      refine Go.Proofs.Ytoabhmpakcgloaa.rd 8 omt8 rfl (by kernel_rfl) fun K hK => ?_
      go_simp
      refine hK.out _ _ ?_ (fun zk => ?_)
      · exact zk.trans (Ch.set (Q := fun b => (v j).ownBlock = some b ∨ b = A ∨ W.heap.size ≤ b) w9 (.inr (.inl rfl)) _ _) (fun _ _ e => e)
      clear hK K
      try go_frame
      refine wpAnyH_done (by kernel_rfl) ?_ _
      exact HK.out _ _ _ _ _ _ _ _ _ _ HU.out (((CV.out.mono (fun _ _ e => e.elim)).trans CA.out (fun _ _ e => e.elim)).trans ((hc9.mono (Q' := fun b => (v j).ownBlock = some b ∨ b = A) (fun _ _ e => .inl e)).trans (Ch.set (Q := fun b => b = A) w9 rfl _ _) (fun _ _ e => .inr e)) (fun _ _ e => e))
  · go_simp
    have hn := heap_new V0 (.cells #[.int .u32 g.1, .int .u32 g.2] 35)
    have hcA := Ch.alloc (Q := fun _ => False) V0 (.cells #[.int .u32 g.1, .int .u32 g.2] 35)
    refine hK.out _ _ ?_ (fun zk => ?_)
    · exact zk.trans (Ch.alloc (Q := fun b => (v j).ownBlock = some b ∨ b = A ∨ W.heap.size ≤ b) _ _) (fun _ _ h => h)
    clear hK K
    try go_frame
    generalize V0.alloc (.cells #[.int .u32 g.1, .int .u32 g.2] 35) = VA at hn hcA zk ⊢
    have HN := hide hn
    have CA := hide hcA
    have HVA := hide (HV.out.ch hcA (fun h => h) (fun _ _ _ _ h => h))
    clear hn hcA
    refine Go.Proofs.Ytoabhmpakcgloaa.rd 3 omt3 rfl (by kernel_rfl) fun K hK => ?_
    have f1 := HVA.out.cell hj
    go_simp
    refine hK.out _ _ ?_ (fun zk => ?_)
    · exact zk
    clear hK K
    try go_frame
    clear f1
    refine Go.Proofs.Ytoabhmpakcgloaa.rd 6 omt6 rfl (by kernel_rfl) fun K hK => ?_
    refine step_append_off (f := hkF) hkF_len rfl (.tmp 152) (.tmp 154) 30 rfl i0 (hvW 0 0) 8 Try.underlying30 hi0 hz0 hz1 hz2 rfl (by decide) (v j) rfl (HVA.out.row j hj) (Nat.le_trans hB (Nat.le_trans CV.out.size CA.out.size)) ⟨V0.heap.size, 0, none⟩ 1 g rfl (fun q u hq => ?_) (hkF_one g) (by unfold maxLen; omega) (by omega) (fun v9 w9 ho9 hc9 hw9 => ?_)
    · rw [Addr.add_lit, Lib.cell_of_heap HN.out, Nat.zero_add]
      show (hkF g).toArray[q]? = some u
      rw [List.getElem?_toArray]
      exact hq
    · obtain ⟨va, vc, hv9, -, -⟩ := ho9.form
      obtain ⟨n9, hn9⟩ : ∃ z, (f j ++ [g]).length = z := ⟨_, rfl⟩
      rw [hn9] at hv9
      subst hv9
      clear hn9
      have hu := HVA.out.upd hj hc9 ho9 hw9
      have HU := hide hu
      have ff : ∀ o, w9.frozen? ⟨A, o, none⟩ = false := fun o => frz (hc9.box HVA.out.box (fun e => (HVA.out.own hj e).2.2.1 rfl)) o
      have fc : w9.cell? ⟨A, j, none⟩ = some (v j) := by have e := (HVA.out.cell hj); rw [← e]; exact hc9.cell (cell_lt e) (fun e2 => (HVA.out.own hj e2).2.2.1 rfl) _
      clear hu ho9
      refine hK.out _ _ ?_ (fun zk => ?_)
      · exact zk.trans hc9 (fun _ _ e => .inl e)
      clear hK K
      try go_frame
      apply tk 7 omt7 rfl (by kernel_rfl) (fun _ _ _ h => h) zk
      · intro wq zq
        go_simp
        try rfl
      go_frame
      refine Go.Proofs.Ytoabhmpakcgloaa.rd 8 omt8 rfl (by kernel_rfl) fun K hK => ?_
      go_simp
      refine hK.out _ _ ?_ (fun zk => ?_)
      · exact zk.trans (Ch.set (Q := fun b => (v j).ownBlock = some b ∨ b = A ∨ W.heap.size ≤ b) w9 (.inr (.inl rfl)) _ _) (fun _ _ e => e)
      clear hK K
      try go_frame
      refine wpAnyH_done (by kernel_rfl) ?_ _
      exact HK.out _ _ _ _ _ _ _ _ _ _ HU.out (((CV.out.mono (fun _ _ e => e.elim)).trans CA.out (fun _ _ e => e.elim)).trans ((hc9.mono (Q' := fun b => (v j).ownBlock = some b ∨ b = A) (fun _ _ e => .inl e)).trans (Ch.set (Q := fun b => b = A) w9 rfl _ _) (fun _ _ e => .inr e)) (fun _ _ e => e))

end Go.Proofs.Ytoabhmpakcgloaa
