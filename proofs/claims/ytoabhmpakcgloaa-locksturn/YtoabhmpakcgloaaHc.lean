/- Layer 11: maps whose keys are structs of numbers. -/
import Derived.Test.YtoabhmpakcgloaaHb
import Derived.Maps.OwnSet
namespace Go.Proofs.Ytoabhmpakcgloaa
open Go.RowKit

theorem map_erase {α β : Type} (f : α → β) : ∀ (l : List α) (i : Nat), (l.map f).eraseIdx i = (l.eraseIdx i).map f
  | [], _ => rfl
  | _ :: _, 0 => rfl
  | a :: l, i + 1 => by simp [map_erase f l i]

/-- who is looked for among the entries -/
def lookE {κ : Type} [DecidableEq κ] (k : κ) : List (κ × Value) → Nat → Option (Nat × Value)
  | [], _ => none
  | e :: es, i => if k = e.1 then some (i, e.2) else lookE k es (i + 1)

theorem run_asking {κ : Type} [DecidableEq κ] {kT : TypeId} {key : κ → Value} {ok : κ → Prop} {w : World} (heq : ∀ x y, ok x → ok y → (Op.equal kT (key x) (key y)).run Try.prog w = .ok (decide (x = y)) w) {x : κ} (hx : ok x) :
    ∀ (es : List MapEntry) (l : List (κ × Value)) (i : Nat), es.map (fun e => (e.key, e.val)) = l.map (fun e => (key e.1, e.2)) → (∀ e ∈ l, ok e.1) → (Instr.findAsking kT (key x) es i).run Try.prog w = .ok (lookE x l i) w
  | [], [], _, _, _ => by simp [Instr.findAsking, lookE]
  | [], _ :: _, _, h, _ => by simp at h
  | _ :: _, [], _, h, _ => by simp at h
  | e :: es, y :: l, i, h, hl => by
    simp only [List.map_cons, List.cons.injEq, Prod.mk.injEq] at h
    have h1 := heq x y.1 hx (hl y (List.mem_cons_self ..))
    rw [Instr.findAsking, h.1.1]
    simp only [Sem.run_bind, h1, Result.andThen_ok, Sem.run_ite, decide_eq_true_eq, Sem.run_pure, lookE, h.1.2]
    rw [run_asking heq hx es l (i + 1) h.2 (fun e he => hl e (List.mem_cons_of_mem _ he))]
    split <;> rfl

/-- the map in block M holds these -/
structure MapIs {κ : Type} (key : κ → Value) (w : World) (M : Nat) (l : List (κ × Value)) : Prop where
  is : ∃ es clock, w.heap[M]? = some (.map es clock) ∧ es.toList.map (fun e => (e.key, e.val)) = l.map (fun e => (key e.1, e.2))

theorem MapIs.lt {κ : Type} {key : κ → Value} {w : World} {M : Nat} {l : List (κ × Value)} (h : MapIs key w M l) : M < w.heap.size := by
  obtain ⟨es, clock, h1, _⟩ := h.is
  exact (Array.getElem?_eq_some_iff.1 h1).1

/-- a key is put in -/
def putE {κ : Type} [DecidableEq κ] (k : κ) (v : Value) : List (κ × Value) → List (κ × Value)
  | [] => [(k, v)]
  | e :: es => if k = e.1 then (k, v) :: es else e :: putE k v es

def getE {κ : Type} [DecidableEq κ] (k : κ) (l : List (κ × Value)) : Option Value := (lookE k l 0).map (·.2)

theorem lookE_shift {κ : Type} [DecidableEq κ] (k : κ) : ∀ (l : List (κ × Value)) (i : Nat), lookE k l i = (lookE k l 0).map (fun p => (p.1 + i, p.2))
  | [], _ => rfl
  | e :: es, i => by
    unfold lookE
    split
    · simp
    · rw [lookE_shift k es (i + 1), lookE_shift k es (0 + 1)]
      simp only [Option.map_map]
      congr 1
      funext p
      simp
      omega

section
variable {κ : Type} [DecidableEq κ] {kT : TypeId} {key : κ → Value} {ok : κ → Prop} {w : World} {T e : TypeId} {M : Nat} {l : List (κ × Value)} {x : κ}

/-- what a type of keys must bring -/
structure KeyT (kT : TypeId) (key : κ → Value) (w : World) (ok : κ → Prop) : Prop where
  eq : ∀ x y, ok x → ok y → (Op.equal kT (key x) (key y)).run Try.prog w = .ok (decide (x = y)) w
  check : ∀ em x, (Instr.checkKey em 10000 kT (key x)).run Try.prog w = .ok () w
  find : ∀ x es, (Instr.findKey kT (key x) es).run Try.prog w = (Instr.findAsking kT (key x) es 0).run Try.prog w
  stays : ∀ x, Instr.sameBits 10000 (key x) (key x) = true

theorem run_look (K : KeyT kT key w ok) (hT : Try.prog.underlying T = some (.map kT e)) {z : Value} (hz : (zeroValue e).run Try.prog w = .ok z w) (hM : MapIs key w M l) (hx : ok x) (hl : ∀ e ∈ l, ok e.1) :
    (Instr.lookup T (.map (some M)) (key x) true).run Try.prog w = .ok (match getE x l with | some v => .tuple #[v, .bool true] | none => .tuple #[z, .bool false]) w := by
  obtain ⟨es, clock, h1, h2⟩ := hM.is
  have h3 := run_asking K.eq hx es.toList l 0 h2 hl
  rw [← K.find] at h3
  unfold getE
  cases hg : lookE x l 0 with
  | none => rw [hg] at h3; simp [Instr.lookup, run_underlying hT, MapKept.run_getObj_map h1, K.check, h3, hz, Result.andThen]
  | some p => rw [hg] at h3; simp [Instr.lookup, run_underlying hT, MapKept.run_getObj_map h1, K.check, h3, Result.andThen]

theorem putE_none : ∀ (l : List (κ × Value)) {i : Nat} (v : Value), lookE x l i = none → putE x v l = l ++ [(x, v)]
  | [], _, _, _ => rfl
  | e :: es, i, v, h => by
    unfold lookE at h
    unfold putE
    split at h
    · cases h
    · rename_i hne
      rw [if_neg hne, putE_none es v h]
      rfl

theorem putE_some : ∀ (l : List (κ × Value)) {i j : Nat} {u : Value} (v : Value), lookE x l i = some (j, u) → i ≤ j ∧ l[j - i]? = some (x, u) ∧ putE x v l = l.set (j - i) (x, v)
  | [], _, _, _, _, h => by cases h
  | e :: es, i, j, u, v, h => by
    unfold lookE at h
    unfold putE
    split at h
    · rename_i he
      cases h
      rw [if_pos he, Nat.sub_self, he]
      exact ⟨Nat.le_refl _, rfl, rfl⟩
    · rename_i hne
      obtain ⟨h1, h2, h3⟩ := putE_some es v h
      rw [if_neg hne, h3]
      have e1 : j - i = (j - (i + 1)) + 1 := by omega
      rw [e1]
      exact ⟨by omega, by simpa using h2, by simp⟩

theorem run_put (K : KeyT kT key w ok) (hT : Try.prog.underlying T = some (.map kT e)) (hM : MapIs key w M l) (hx : ok x) (hl : ∀ e ∈ l, ok e.1) (v : Value) :
    ∃ es clock, (Instr.mapUpdate T (.map (some M)) (key x) v).run Try.prog w = .ok () (ChangeMaps.setBlock w M (.map es clock)) ∧ es.toList.map (fun e => (e.key, e.val)) = (putE x v l).map (fun e => (key e.1, e.2)) := by
  obtain ⟨es, clock, h1, h2⟩ := hM.is
  have h3 := run_asking K.eq hx es.toList l 0 h2 hl
  rw [← K.find] at h3
  cases hg : lookE x l 0 with
  | none =>
    rw [hg] at h3
    refine ⟨es.push ⟨key x, v, clock⟩, clock + 1, by simp [Instr.mapUpdate, run_underlying hT, MapKept.run_getObj_map h1, K.check, h3, MapKept.run_setObj_map _ h1, Result.andThen, ChangeMaps.setBlock], ?_⟩
    rw [putE_none l v hg, Array.toList_push, List.map_append, List.map_append, h2]
    rfl
  | some p =>
    obtain ⟨j, u⟩ := p
    rw [hg] at h3
    obtain ⟨_, g1, g2⟩ := putE_some l v hg
    rw [Nat.sub_zero] at g1 g2
    have g3 : (es.toList.map (fun e => (e.key, e.val)))[j]? = some (key x, u) := by rw [h2, List.getElem?_map, g1]; rfl
    rw [List.getElem?_map] at g3
    obtain ⟨e0, he0, hk⟩ := Option.map_eq_some_iff.1 g3
    have hj : es[j]? = some e0 := by simpa using he0
    have hk1 : e0.key = key x := (Prod.mk.inj hk).1
    refine ⟨es.modify j (fun e' => { e' with key := key x, val := v }), clock, by simp [Instr.mapUpdate, run_underlying hT, MapKept.run_getObj_map h1, K.check, h3, hj, hk1, Instr.keyThatStays, K.stays, MapKept.run_setObj_map _ h1, Result.andThen, ChangeMaps.setBlock], ?_⟩
    rw [g2, List.map_set, ← h2, Array.toList_modify, ChangeMaps.modify_eq_set _ _ _ _ he0, List.map_set]

theorem run_look1 (K : KeyT kT key w ok) (hT : Try.prog.underlying T = some (.map kT e)) {z : Value} (hz : (zeroValue e).run Try.prog w = .ok z w) (hM : MapIs key w M l) (hx : ok x) (hl : ∀ e ∈ l, ok e.1) :
    (Instr.lookup T (.map (some M)) (key x) false).run Try.prog w = .ok ((getE x l).getD z) w := by
  obtain ⟨es, clock, h1, h2⟩ := hM.is
  have h3 := run_asking K.eq hx es.toList l 0 h2 hl
  rw [← K.find] at h3
  unfold getE
  cases hg : lookE x l 0 with
  | none => rw [hg] at h3; simp [Instr.lookup, run_underlying hT, MapKept.run_getObj_map h1, K.check, h3, hz, Result.andThen]
  | some p => rw [hg] at h3; simp [Instr.lookup, run_underlying hT, MapKept.run_getObj_map h1, K.check, h3, Result.andThen]

/-- a key is taken out -/
def delE (k : κ) : List (κ × Value) → List (κ × Value)
  | [] => []
  | e :: es => if k = e.1 then es else e :: delE k es
theorem delE_none : ∀ (l : List (κ × Value)) {i : Nat}, lookE x l i = none → delE x l = l
  | [], _, _ => rfl
  | e :: es, i, h => by
    unfold lookE at h
    unfold delE
    split at h
    · cases h
    · rename_i hne
      rw [if_neg hne, delE_none es h]
theorem delE_some : ∀ (l : List (κ × Value)) {i j : Nat} {u : Value}, lookE x l i = some (j, u) → i ≤ j ∧ j - i < l.length ∧ delE x l = l.eraseIdx (j - i)
  | [], _, _, _, h => by cases h
  | e :: es, i, j, u, h => by
    unfold lookE at h
    unfold delE
    split at h
    · rename_i he
      cases h
      rw [if_pos he, Nat.sub_self]
      exact ⟨Nat.le_refl _, by simp, rfl⟩
    · rename_i hne
      obtain ⟨h1, h2, h3⟩ := delE_some es h
      rw [if_neg hne, h3]
      have e1 : j - i = (j - (i + 1)) + 1 := by omega
      rw [e1]
      exact ⟨by omega, by simpa using h2, by simp⟩

theorem run_del {ty : TypeId} (K : KeyT kT key w ok) (hT : Try.prog.underlying T = some (.map kT e)) (hM : MapIs key w M l) (hx : ok x) (hl : ∀ e ∈ l, ok e.1) :
    ∃ es clock, (Builtin.delete_ #[T, kT] ty #[.map (some M), key x]).run Try.prog w = .ok (.tuple #[]) (ChangeMaps.setBlock w M (.map es clock)) ∧ es.toList.map (fun e => (e.key, e.val)) = (delE x l).map (fun e => (key e.1, e.2)) := by
  obtain ⟨es, clock, h1, h2⟩ := hM.is
  have h3 := run_asking K.eq hx es.toList l 0 h2 hl
  rw [← K.find] at h3
  cases hg : lookE x l 0 with
  | none =>
    rw [hg] at h3
    refine ⟨es, clock, by simp [Builtin.delete_, run_underlying hT, MapKept.run_getObj_map h1, K.check, h3, MapKept.run_setObj_map _ h1, Result.andThen, ChangeMaps.setBlock], ?_⟩
    rw [delE_none l hg, h2]
  | some p =>
    obtain ⟨j, u⟩ := p
    rw [hg] at h3
    obtain ⟨_, g1, g2⟩ := delE_some l hg
    rw [Nat.sub_zero] at g1 g2
    refine ⟨es.eraseIdxIfInBounds j, clock, by simp [Builtin.delete_, run_underlying hT, MapKept.run_getObj_map h1, K.check, h3, MapKept.run_setObj_map _ h1, Result.andThen, ChangeMaps.setBlock], ?_⟩
    have hlen : es.size = l.length := by
      have := congrArg List.length h2
      simpa using this
    rw [g2]
    have : (es.eraseIdxIfInBounds j).toList = es.toList.eraseIdx j := by
      unfold Array.eraseIdxIfInBounds
      rw [dif_pos (by omega), Array.toList_eraseIdx]
    rw [this, ← map_erase, ← map_erase, h2]

omit [DecidableEq κ] in
theorem run_mlen {ty : TypeId} (hT : Try.prog.underlying T = some (.map kT e)) (hM : MapIs key w M l) : (Builtin.len_ #[T] ty #[.map (some M)]).run Try.prog w = .ok (.int .i64 l.length) w := by
  obtain ⟨es, clock, h1, h2⟩ := hM.is
  have hlen : es.size = l.length := by
    have := congrArg List.length h2
    simpa using this
  simp [Builtin.len_, run_underlying hT, MapKept.run_getObj_map h1, goInt, Result.andThen, hlen]

omit [DecidableEq κ] in
theorem MapIs.ch {Q : Nat → Prop} {w' : World} (h : MapIs key w M l) (hc : Ch Q w w') (hn : ¬ Q M) : MapIs key w' M l := by
  obtain ⟨es, clock, h1, h2⟩ := h.is
  exact ⟨es, clock, (hc.blk M (Array.getElem?_eq_some_iff.1 h1).1 hn).trans h1, h2⟩
omit [DecidableEq κ] in
theorem MapIs.set {es : Array MapEntry} {clock : Nat} {l' : List (κ × Value)} (h : MapIs key w M l) (h2 : es.toList.map (fun e => (e.key, e.val)) = l'.map (fun e => (key e.1, e.2))) : MapIs key (ChangeMaps.setBlock w M (.map es clock)) M l' := ⟨es, clock, by simp [ChangeMaps.setBlock, h.lt], h2⟩
theorem ch_setBlock {Q : Nat → Prop} (w : World) {M : Nat} (hQ : Q M) (o : Obj) : Ch Q w (ChangeMaps.setBlock w M o) := by
  refine ⟨rfl, rfl, rfl, by simp [ChangeMaps.setBlock], fun b _ hn => ?_⟩
  have hne : M ≠ b := fun h => hn (h ▸ hQ)
  simp [ChangeMaps.setBlock, hne]

end
theorem getE_none {κ : Type} [DecidableEq κ] {x : κ} : ∀ {l : List (κ × Value)}, getE x l = none ↔ ∀ e ∈ l, e.1 ≠ x
  | [] => by simp [getE, lookE]
  | e :: es => by
    have ih := getE_none (x := x) (l := es)
    unfold getE at ih ⊢
    unfold lookE
    by_cases h : x = e.1
    · rw [if_pos h]
      simp [h]
    · rw [if_neg h, lookE_shift]
      simp only [Option.map_eq_none_iff] at ih ⊢
      rw [ih]
      simp [Ne.symm h]

theorem getE_some {κ : Type} [DecidableEq κ] {x : κ} {v : Value} : ∀ {l : List (κ × Value)}, getE x l = some v → (x, v) ∈ l
  | [], h => by simp [getE, lookE] at h
  | e :: es, h => by
    unfold getE lookE at h
    by_cases hx : x = e.1
    · rw [if_pos hx] at h
      simp at h
      subst hx h
      simp
    · rw [if_neg hx, lookE_shift] at h
      refine List.mem_cons_of_mem _ (getE_some (x := x) ?_)
      unfold getE
      simpa [Option.map_map] using h

theorem mem_putE {κ : Type} [DecidableEq κ] {x : κ} {v : Value} : ∀ {l : List (κ × Value)} {e : κ × Value}, e ∈ putE x v l → e = (x, v) ∨ e ∈ l
  | [], e, h => by unfold putE at h; simpa using h
  | y :: es, e, h => by
    unfold putE at h
    split at h
    · rcases List.mem_cons.1 h with h | h
      · exact Or.inl h
      · exact Or.inr (List.mem_cons_of_mem _ h)
    · rcases List.mem_cons.1 h with h | h
      · exact Or.inr (h ▸ List.mem_cons_self ..)
      · rcases mem_putE h with h | h
        · exact Or.inl h
        · exact Or.inr (List.mem_cons_of_mem _ h)

theorem getE_put {κ : Type} [DecidableEq κ] {x y : κ} {v : Value} : ∀ (l : List (κ × Value)), getE y (putE x v l) = if y = x then some v else getE y l
  | [] => by
    unfold getE putE lookE
    by_cases h : y = x <;> simp [h, lookE]
  | e :: es => by
    have ih := getE_put (x := x) (y := y) (v := v) es
    unfold getE at ih ⊢
    unfold putE
    by_cases h : x = e.1
    · rw [if_pos h]
      unfold lookE
      by_cases hy : y = x
      · simp [hy]
      · rw [if_neg hy, if_neg hy, if_neg (fun h' => hy (h'.trans h.symm))]
    · rw [if_neg h]
      unfold lookE
      by_cases hy : y = e.1
      · rw [if_pos hy, if_pos hy, if_neg (fun h' => h (h'.symm.trans hy))]
      · rw [if_neg hy, if_neg hy, lookE_shift, lookE_shift y es (0 + 1)]
        simp only [Option.map_map]
        have : ((fun p : Nat × Value => p.2) ∘ fun p : Nat × Value => (p.1 + (0 + 1), p.2)) = fun p => p.2 := rfl
        rw [this]
        exact ih
theorem putE_keys {κ : Type} [DecidableEq κ] {x : κ} {v : Value} : ∀ (l : List (κ × Value)), (putE x v l).map (·.1) = if x ∈ l.map (·.1) then l.map (·.1) else l.map (·.1) ++ [x]
  | [] => by simp [putE]
  | e :: es => by
    have ih := putE_keys (x := x) (v := v) es
    unfold putE
    by_cases h : x = e.1
    · rw [if_pos h]; simp [h]
    · rw [if_neg h]
      simp only [List.map_cons, List.mem_cons, h, false_or]
      rw [ih]
      split <;> simp
theorem delE_keys {κ : Type} [DecidableEq κ] {x : κ} : ∀ (l : List (κ × Value)), (delE x l).map (·.1) = (l.map (·.1)).erase x
  | [] => rfl
  | e :: es => by
    have ih := delE_keys (x := x) es
    unfold delE
    by_cases h : x = e.1
    · rw [if_pos h]; simp [h]
    · rw [if_neg h]
      simp only [List.map_cons]
      rw [ih, List.erase_cons_tail (by simpa using Ne.symm h)]
theorem getE_del {κ : Type} [DecidableEq κ] {x y : κ} : ∀ (l : List (κ × Value)), (l.map (·.1)).Nodup → getE y (delE x l) = if y = x then none else getE y l
  | [], _ => by simp [delE, getE, lookE]
  | e :: es, hd => by
    rw [List.map_cons, List.nodup_cons] at hd
    have ih := getE_del (x := x) (y := y) es hd.2
    unfold delE
    by_cases h : x = e.1
    · rw [if_pos h]
      by_cases hy : y = x
      · rw [if_pos hy, getE_none]
        intro a ha hax
        exact hd.1 (by rw [← h, ← hy, ← hax]; exact List.mem_map_of_mem ha)
      · rw [if_neg hy]
        unfold getE
        conv => rhs; unfold lookE
        rw [if_neg (fun h' => hy (h'.trans h.symm)), lookE_shift y es (0 + 1)]
        simp only [Option.map_map]
        rfl
    · rw [if_neg h]
      unfold getE at ih ⊢
      unfold lookE
      by_cases hy : y = e.1
      · rw [if_pos hy, if_pos hy, if_neg (fun h' => h (h'.symm.trans hy))]
      · rw [if_neg hy, if_neg hy, lookE_shift, lookE_shift y es (0 + 1)]
        simp only [Option.map_map]
        have : ((fun p : Nat × Value => p.2) ∘ fun p : Nat × Value => (p.1 + (0 + 1), p.2)) = fun p => p.2 := rfl
        rw [this]
        exact ih

/-- what a map in memory tells -/
structure MapF {κ : Type} [DecidableEq κ] (key : κ → Value) (w : World) (M : Nat) (f : κ → Option Value) (n : Nat) : Prop where
  is : ∃ l : List (κ × Value), MapIs key w M l ∧ (l.map (·.1)).Nodup ∧ (∀ x, getE x l = f x) ∧ l.length = n
section
variable {κ : Type} [DecidableEq κ] {kT : TypeId} {key : κ → Value} {w : World} {T e : TypeId} {M n : Nat} {f : κ → Option Value} {x : κ}
abbrev KT (kT : TypeId) (key : κ → Value) (w : World) : Prop := KeyT kT key w (fun _ => True)
theorem MapF.ch {Q : Nat → Prop} {w' : World} (h : MapF key w M f n) (hc : Ch Q w w') (hn : ¬ Q M) : MapF key w' M f n := by
  obtain ⟨l, h1, h2⟩ := h.is
  exact ⟨l, h1.ch hc hn, h2⟩
theorem MapF.lt (h : MapF key w M f n) : M < w.heap.size := by obtain ⟨l, h1, _⟩ := h.is; exact h1.lt
theorem MapF.look (h : MapF key w M f n) (K : KT kT key w) (hT : Try.prog.underlying T = some (.map kT e)) {z : Value} (hz : (zeroValue e).run Try.prog w = .ok z w) : (Instr.lookup T (.map (some M)) (key x) false).run Try.prog w = .ok ((f x).getD z) w := by
  obtain ⟨l, h1, h2, h3, h4⟩ := h.is
  rw [run_look1 K hT hz h1 trivial (fun _ _ => trivial), h3]
theorem MapF.look2 (h : MapF key w M f n) (K : KT kT key w) (hT : Try.prog.underlying T = some (.map kT e)) {z : Value} (hz : (zeroValue e).run Try.prog w = .ok z w) : (Instr.lookup T (.map (some M)) (key x) true).run Try.prog w = .ok (.tuple #[(f x).getD z, .bool (f x).isSome]) w := by
  obtain ⟨l, h1, h2, h3, h4⟩ := h.is
  rw [run_look K hT hz h1 trivial (fun _ _ => trivial), h3]
  cases f x <;> rfl
theorem MapF.put (h : MapF key w M f n) (K : KT kT key w) (hT : Try.prog.underlying T = some (.map kT e)) (v : Value) : ∃ w', (Instr.mapUpdate T (.map (some M)) (key x) v).run Try.prog w = .ok () w' ∧ MapF key w' M (updW f x (some v)) (if (f x).isSome then n else n + 1) ∧ Ch (fun y => y = M) w w' := by
  obtain ⟨l, h1, h2, h3, h4⟩ := h.is
  obtain ⟨es, clock, h5, h6⟩ := run_put K hT h1 trivial (fun _ _ => trivial) v
  refine ⟨_, h5, ⟨putE x v l, h1.set h6, ?_, fun y => ?_, ?_⟩, ch_setBlock (Q := fun y => y = M) w rfl _⟩
  · rw [putE_keys]
    split
    · exact h2
    · rename_i hx
      rw [List.nodup_append]
      exact ⟨h2, by simp, fun a ha b hb => by rw [List.mem_singleton.1 hb]; exact fun e => hx (e ▸ ha)⟩
  · rw [getE_put]; unfold updW; split
    · rfl
    · exact h3 y
  · have hk := congrArg List.length (putE_keys (x := x) (v := v) l)
    rw [List.length_map] at hk
    have hm : x ∈ l.map (·.1) ↔ (f x).isSome = true := by
      rw [← h3 x]
      constructor
      · intro hx
        cases hg : getE x l with
        | some _ => rfl
        | none =>
          obtain ⟨a, ha, hax⟩ := List.mem_map.1 hx
          exact absurd hax (getE_none.1 hg a ha)
      · intro hx
        obtain ⟨u, hu⟩ := Option.isSome_iff_exists.1 hx
        exact List.mem_map.2 ⟨_, getE_some hu, rfl⟩
    rw [hk]
    by_cases hx : (f x).isSome = true
    · rw [if_pos hx, if_pos (hm.2 hx), List.length_map, h4]
    · rw [if_neg hx, if_neg (fun h' => hx (hm.1 h')), List.length_append, List.length_map, h4]; rfl
theorem MapF.del {ty : TypeId} (h : MapF key w M f n) (K : KT kT key w) (hT : Try.prog.underlying T = some (.map kT e)) : ∃ w', (Builtin.delete_ #[T, kT] ty #[.map (some M), key x]).run Try.prog w = .ok (.tuple #[]) w' ∧ MapF key w' M (updW f x none) (if (f x).isSome then n - 1 else n) ∧ Ch (fun y => y = M) w w' := by
  obtain ⟨l, h1, h2, h3, h4⟩ := h.is
  obtain ⟨es, clock, h5, h6⟩ := run_del (ty := ty) K hT h1 trivial (fun _ _ => trivial)
  refine ⟨_, h5, ⟨delE x l, h1.set h6, ?_, fun y => ?_, ?_⟩, ch_setBlock (Q := fun y => y = M) w rfl _⟩
  · rw [delE_keys]; exact h2.erase x
  · rw [getE_del l h2]; unfold updW; split
    · rfl
    · exact h3 y
  · have hk := congrArg List.length (delE_keys (x := x) l)
    rw [List.length_map] at hk
    rw [hk]
    cases hx : f x with
    | none =>
      rw [← h3 x] at hx
      rw [List.erase_of_not_mem (fun hm => by
        obtain ⟨a, ha, hax⟩ := List.mem_map.1 hm
        exact absurd hax (getE_none.1 hx a ha)), List.length_map, h4]
      rfl
    | some u =>
      rw [← h3 x] at hx
      rw [List.length_erase_of_mem (List.mem_map.2 ⟨_, getE_some hx, rfl⟩), List.length_map, h4]
      rfl
theorem MapF.len {ty : TypeId} (h : MapF key w M f n) (hT : Try.prog.underlying T = some (.map kT e)) : (Builtin.len_ #[T] ty #[.map (some M)]).run Try.prog w = .ok (.int .i64 n) w := by
  obtain ⟨l, h1, h2, h3, h4⟩ := h.is
  rw [run_mlen hT h1, h4]
end

end Go.Proofs.Ytoabhmpakcgloaa
