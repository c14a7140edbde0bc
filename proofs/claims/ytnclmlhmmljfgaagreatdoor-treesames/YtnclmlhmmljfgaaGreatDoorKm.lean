/- Maps keyed by where a list lies. -/
import Derived.Test.YtnclmlhmmljfgaaGreatDoorBase
import Derived.Maps.OwnSet
namespace Go.Proofs.YtnclmlhmmljfgaaGreatDoor
open Go.RowKit

/-- a plain block: none of its memory is barred -/
def PB (w : World) (b : Nat) : Prop := ∃ cs t, w.heap[b]? = some (.cells cs t (0, 0))

theorem run_sameAddr {P : Program} {w : World} {a b : Addr} (ha : PB w a.block) (hb : PB w b.block) : (sameAddr a b).run P w = .ok (decide (a = b)) w := by
  obtain ⟨cs, t, h1⟩ := ha
  obtain ⟨cs', t', h2⟩ := hb
  by_cases e : a.block = b.block
  · have : (a == b) = decide (a = b) := by rw [Bool.eq_iff_iff]; simp
    simp [sameAddr, e, this]
  · have hne : ¬ a = b := fun h => e (by rw [h])
    have f1 : ∀ x y, w.frozen? ⟨a.block, x, y⟩ = false := fun x y => by simp [World.frozen?, h1]
    have f2 : ∀ x y, w.frozen? ⟨b.block, x, y⟩ = false := fun x y => by simp [World.frozen?, h2]
    have f1' : w.frozen? a = false := f1 a.off a.spot
    have f2' : w.frozen? b = false := f2 b.off b.spot
    have s1 : ∃ x y, w.shape? a.block = some (x, y) := by simp [World.shape?, h1]
    have s2 : ∃ x y, w.shape? b.block = some (x, y) := by simp [World.shape?, h2]
    obtain ⟨x1, y1, s1⟩ := s1
    obtain ⟨x2, y2, s2⟩ := s2
    simp [sameAddr, e, hne, frozen, noView, viewAt, mayBeOne, stringish, shape, f1', f2', s1, s2, f1, f2, Sem.run]

structure LK where
  b : Nat
  o : Nat
  n : Nat
  deriving DecidableEq

/-- the key of one list, of two lists -/
def key1 (x : LK) : Value := .agg #[.pointer (some ⟨x.b, x.o, none⟩), .int .i64 (x.n : Int)]
def key2 (x : LK × LK) : Value := .agg #[.pointer (some ⟨x.1.b, x.1.o, none⟩), .int .i64 (x.1.n : Int), .pointer (some ⟨x.2.b, x.2.o, none⟩), .int .i64 (x.2.n : Int)]

theorem run_eqPtr {w : World} {d : Nat} {a b : Addr} (ha : PB w a.block) (hb : PB w b.block) : (Op.equalIn (d + 1) 38 (.pointer (some a)) (.pointer (some b))).run Tryz.prog w = .ok (decide (a = b)) w := by
  have hs : Tryz.prog.underlying 38 = some (.pointer 25) := Tryz.underlying38
  have hz : (sizeOf 25).run Tryz.prog w = .ok 8 w := by kernel_rfl
  simp [Op.equalIn, run_underlying hs, hz, run_sameAddr ha hb]

theorem two_of {l : List Field} {a b : String × TypeId × Nat} (h : l.map (fun f => (f.name, f.type, f.offset)) = [a, b]) : ∃ f g, l = [f, g] ∧ (f.name, f.type, f.offset) = a ∧ (g.name, g.type, g.offset) = b := by
  match l, h with
  | [f, g], h => simp only [List.map_cons, List.map_nil, List.cons.injEq, and_true] at h; exact ⟨f, g, rfl, h.1, h.2⟩

theorem run_eqList {w : World} {d : Nat} {x y : LK} (hx : PB w x.b) (hy : PB w y.b) : (Op.equalIn (d + 2) 66 (key1 x) (key1 y)).run Tryz.prog w = .ok (decide (x = y)) w := by
  unfold key1
  rw [run_equalIn_struct w (d + 1) 66 _ _ (by kernel_rfl) (by kernel_rfl)]
  have hf : (Tryz.prog.fieldsOf 66).toList.map (fun f => (f.name, f.type, f.offset)) = [("first", 38, 0), ("size", 3, 1)] := by kernel_rfl
  obtain ⟨f, g, e, h1, h2⟩ := two_of hf
  rw [e]
  simp only [Prod.mk.injEq] at h1 h2
  have p0 : ∀ (u v : Value), (part 38 #[u, v] 0).run Tryz.prog w = .ok u w := fun u v => by kernel_rfl
  have p1 : ∀ (u v : Value), (part 3 #[u, v] 1).run Tryz.prog w = .ok v w := fun u v => by kernel_rfl
  have q : decide (x = y) = (decide ((⟨x.b, x.o, none⟩ : Addr) = ⟨y.b, y.o, none⟩) && ((x.n : Int) == (y.n : Int))) := by
    rw [Bool.eq_iff_iff]
    obtain ⟨a, b, c⟩ := x
    obtain ⟨a', b', c'⟩ := y
    simp [and_assoc, Int.ofNat_inj]
  simp only [Op.eqFields, h1.1, h1.2.1, h1.2.2, h2.1, h2.2.1, h2.2.2, Sem.run_bind, p0, p1, Result.andThen_ok, run_eqPtr (a := ⟨x.b, x.o, none⟩) (b := ⟨y.b, y.o, none⟩) hx hy, run_equalIn_int w d 3 .i64 .i64 _ _ Tryz.underlying3, q, Sem.run_ite, Sem.run_pure]
  cases decide ((⟨x.b, x.o, none⟩ : Addr) = ⟨y.b, y.o, none⟩) <;> cases ((x.n : Int) == (y.n : Int)) <;> simp

theorem run_eqPair {w : World} {d : Nat} {x y : LK × LK} (hx : PB w x.1.b ∧ PB w x.2.b) (hy : PB w y.1.b ∧ PB w y.2.b) : (Op.equalIn (d + 3) 79 (key2 x) (key2 y)).run Tryz.prog w = .ok (decide (x = y)) w := by
  unfold key2
  have hs : Tryz.prog.underlying 79 = some (.array 2 66) := Tryz.underlying79
  have hz : (sizeOf 66).run Tryz.prog w = .ok 2 w := by kernel_rfl
  have p0 : ∀ (a b c d : Value), (part 66 #[a, b, c, d] (0 * 2)).run Tryz.prog w = .ok (.agg #[a, b]) w := fun a b c d => by kernel_rfl
  have p1 : ∀ (a b c d : Value), (part 66 #[a, b, c, d] (1 * 2)).run Tryz.prog w = .ok (.agg #[c, d]) w := fun a b c d => by kernel_rfl
  have q : decide (x = y) = (decide (x.1 = y.1) && decide (x.2 = y.2)) := by
    rw [Bool.eq_iff_iff]
    obtain ⟨a, b⟩ := x
    obtain ⟨a', b'⟩ := y
    simp
  have e1 := run_eqList (d := d) hx.1 hy.1
  have e2 := run_eqList (d := d) hx.2 hy.2
  unfold key1 at e1 e2
  obtain ⟨D, hD⟩ : ∃ D, d + 2 = D := ⟨_, rfl⟩
  rw [hD] at e1 e2
  rw [show d + 3 = D + 1 by omega, q]
  have hr : List.range' 0 2 = [0, 1] := rfl
  simp only [Op.equalIn, Sem.run_bind, run_underlying hs, Result.andThen_ok, hz, Std.Legacy.Range.forIn_eq_forIn_range', Std.Legacy.Range.size, Nat.sub_zero, Nat.add_sub_cancel, Nat.div_one, hr, List.forIn_cons, List.forIn_nil, p0, e1, Sem.run_pure, Sem.run_ite]
  by_cases h1 : x.1 = y.1
  · rw [decide_eq_true h1]
    by_cases h2 : x.2 = y.2
    · rw [decide_eq_true h2] at e2
      rw [decide_eq_true h2]
      simp [p1, e2]
    · rw [decide_eq_false h2] at e2
      rw [decide_eq_false h2]
      simp [p1, e2]
  · simp [h1]

theorem run_check1 {w : World} (em : Bool) (x : LK) : (Instr.checkKey em 10000 66 (key1 x)).run Tryz.prog w = .ok () w := by kernel_rfl
theorem run_check2 {w : World} (em : Bool) (x : LK × LK) : (Instr.checkKey em 10000 79 (key2 x)).run Tryz.prog w = .ok () w := by kernel_rfl

/-- who is looked for among the entries -/
def lookE {κ : Type} [DecidableEq κ] (k : κ) : List (κ × Value) → Nat → Option (Nat × Value)
  | [], _ => none
  | e :: es, i => if k = e.1 then some (i, e.2) else lookE k es (i + 1)

theorem run_asking {κ : Type} [DecidableEq κ] {kT : TypeId} {key : κ → Value} {ok : κ → Prop} {w : World} (heq : ∀ x y, ok x → ok y → (Op.equal kT (key x) (key y)).run Tryz.prog w = .ok (decide (x = y)) w) {x : κ} (hx : ok x) :
    ∀ (es : List MapEntry) (l : List (κ × Value)) (i : Nat), es.map (fun e => (e.key, e.val)) = l.map (fun e => (key e.1, e.2)) → (∀ e ∈ l, ok e.1) → (Instr.findAsking kT (key x) es i).run Tryz.prog w = .ok (lookE x l i) w
  | [], [], _, _, _ => by simp [Instr.findAsking, lookE]
  | [], _ :: _, _, h, _ => by simp at h
  | _ :: _, [], _, h, _ => by simp at h
  | e :: es, y :: l, i, h, hl => by
    simp only [List.map_cons, List.cons.injEq, Prod.mk.injEq] at h
    have h1 := heq x y.1 hx (hl y (List.mem_cons_self ..))
    rw [Instr.findAsking, h.1.1]
    simp only [Sem.run_bind, h1, Result.andThen_ok, Sem.run_ite, decide_eq_true_eq, Sem.run_pure, lookE, h.1.2]
    rw [run_asking heq hx es l (i + 1) h.2 (fun e he => hl e (List.mem_cons_of_mem _ he))]
    split <;> rfl

/-- the map in block M holds these -/
structure MapIs {κ : Type} (key : κ → Value) (w : World) (M : Nat) (l : List (κ × Value)) : Prop where
  is : ∃ es clock, w.heap[M]? = some (.map es clock) ∧ es.toList.map (fun e => (e.key, e.val)) = l.map (fun e => (key e.1, e.2))

theorem MapIs.lt {κ : Type} {key : κ → Value} {w : World} {M : Nat} {l : List (κ × Value)} (h : MapIs key w M l) : M < w.heap.size := by
  obtain ⟨es, clock, h1, _⟩ := h.is
  exact (Array.getElem?_eq_some_iff.1 h1).1

/-- a key is put in -/
def putE {κ : Type} [DecidableEq κ] (k : κ) (v : Value) : List (κ × Value) → List (κ × Value)
  | [] => [(k, v)]
  | e :: es => if k = e.1 then (k, v) :: es else e :: putE k v es

def getE {κ : Type} [DecidableEq κ] (k : κ) (l : List (κ × Value)) : Option Value := (lookE k l 0).map (·.2)

theorem lookE_shift {κ : Type} [DecidableEq κ] (k : κ) : ∀ (l : List (κ × Value)) (i : Nat), lookE k l i = (lookE k l 0).map (fun p => (p.1 + i, p.2))
  | [], _ => rfl
  | e :: es, i => by
    unfold lookE
    split
    · simp
    · rw [lookE_shift k es (i + 1), lookE_shift k es (0 + 1)]
      simp only [Option.map_map]
      congr 1
      funext p
      simp
      omega

section
variable {κ : Type} [DecidableEq κ] {kT : TypeId} {key : κ → Value} {ok : κ → Prop} {w : World} {T e : TypeId} {M : Nat} {l : List (κ × Value)} {x : κ}

/-- what a type of keys must bring -/
structure KeyT (kT : TypeId) (key : κ → Value) (w : World) (ok : κ → Prop) : Prop where
  eq : ∀ x y, ok x → ok y → (Op.equal kT (key x) (key y)).run Tryz.prog w = .ok (decide (x = y)) w
  check : ∀ em x, (Instr.checkKey em 10000 kT (key x)).run Tryz.prog w = .ok () w
  find : ∀ x es, (Instr.findKey kT (key x) es).run Tryz.prog w = (Instr.findAsking kT (key x) es 0).run Tryz.prog w
  stays : ∀ x, Instr.sameBits 10000 (key x) (key x) = true

theorem run_look (K : KeyT kT key w ok) (hT : Tryz.prog.underlying T = some (.map kT e)) {z : Value} (hz : (zeroValue e).run Tryz.prog w = .ok z w) (hM : MapIs key w M l) (hx : ok x) (hl : ∀ e ∈ l, ok e.1) :
    (Instr.lookup T (.map (some M)) (key x) true).run Tryz.prog w = .ok (match getE x l with | some v => .tuple #[v, .bool true] | none => .tuple #[z, .bool false]) w := by
  obtain ⟨es, clock, h1, h2⟩ := hM.is
  have h3 := run_asking K.eq hx es.toList l 0 h2 hl
  rw [← K.find] at h3
  unfold getE
  cases hg : lookE x l 0 with
  | none => rw [hg] at h3; simp [Instr.lookup, run_underlying hT, MapKept.run_getObj_map h1, K.check, h3, hz, Result.andThen]
  | some p => rw [hg] at h3; simp [Instr.lookup, run_underlying hT, MapKept.run_getObj_map h1, K.check, h3, Result.andThen]

theorem putE_none : ∀ (l : List (κ × Value)) {i : Nat} (v : Value), lookE x l i = none → putE x v l = l ++ [(x, v)]
  | [], _, _, _ => rfl
  | e :: es, i, v, h => by
    unfold lookE at h
    unfold putE
    split at h
    · cases h
    · rename_i hne
      rw [if_neg hne, putE_none es v h]
      rfl

theorem putE_some : ∀ (l : List (κ × Value)) {i j : Nat} {u : Value} (v : Value), lookE x l i = some (j, u) → i ≤ j ∧ l[j - i]? = some (x, u) ∧ putE x v l = l.set (j - i) (x, v)
  | [], _, _, _, _, h => by cases h
  | e :: es, i, j, u, v, h => by
    unfold lookE at h
    unfold putE
    split at h
    · rename_i he
      cases h
      rw [if_pos he, Nat.sub_self, he]
      exact ⟨Nat.le_refl _, rfl, rfl⟩
    · rename_i hne
      obtain ⟨h1, h2, h3⟩ := putE_some es v h
      rw [if_neg hne, h3]
      have e1 : j - i = (j - (i + 1)) + 1 := by omega
      rw [e1]
      exact ⟨by omega, by simpa using h2, by simp⟩

theorem run_put (K : KeyT kT key w ok) (hT : Tryz.prog.underlying T = some (.map kT e)) (hM : MapIs key w M l) (hx : ok x) (hl : ∀ e ∈ l, ok e.1) (v : Value) :
    ∃ es clock, (Instr.mapUpdate T (.map (some M)) (key x) v).run Tryz.prog w = .ok () (ChangeMaps.setBlock w M (.map es clock)) ∧ es.toList.map (fun e => (e.key, e.val)) = (putE x v l).map (fun e => (key e.1, e.2)) := by
  obtain ⟨es, clock, h1, h2⟩ := hM.is
  have h3 := run_asking K.eq hx es.toList l 0 h2 hl
  rw [← K.find] at h3
  cases hg : lookE x l 0 with
  | none =>
    rw [hg] at h3
    refine ⟨es.push ⟨key x, v, clock⟩, clock + 1, by simp [Instr.mapUpdate, run_underlying hT, MapKept.run_getObj_map h1, K.check, h3, MapKept.run_setObj_map _ h1, Result.andThen, ChangeMaps.setBlock], ?_⟩
    rw [putE_none l v hg, Array.toList_push, List.map_append, List.map_append, h2]
    rfl
  | some p =>
    obtain ⟨j, u⟩ := p
    rw [hg] at h3
    obtain ⟨_, g1, g2⟩ := putE_some l v hg
    rw [Nat.sub_zero] at g1 g2
    have g3 : (es.toList.map (fun e => (e.key, e.val)))[j]? = some (key x, u) := by rw [h2, List.getElem?_map, g1]; rfl
    rw [List.getElem?_map] at g3
    obtain ⟨e0, he0, hk⟩ := Option.map_eq_some_iff.1 g3
    have hj : es[j]? = some e0 := by simpa using he0
    have hk1 : e0.key = key x := (Prod.mk.inj hk).1
    refine ⟨es.modify j (fun e' => { e' with key := key x, val := v }), clock, by simp [Instr.mapUpdate, run_underlying hT, MapKept.run_getObj_map h1, K.check, h3, hj, hk1, Instr.keyThatStays, K.stays, MapKept.run_setObj_map _ h1, Result.andThen, ChangeMaps.setBlock], ?_⟩
    rw [g2, List.map_set, ← h2, Array.toList_modify, ChangeMaps.modify_eq_set _ _ _ _ he0, List.map_set]

/-- a look-up at the operation -/
theorem wpList_look {ops : Array Oper} {rest : List Oper} {o : Oper} {a : Act} {Q : Exit → Act → World → Prop} (hg : o.guard = none) (m y : Operand) (hop : o.op = Op.lookup T m y true)
    (K : KeyT kT key w ok) (hT : Tryz.prog.underlying T = some (.map kT e)) {z : Value} (hz : (zeroValue e).run Tryz.prog w = .ok z w) (hm : a.eval m = .map (some M)) (hM : MapIs key w M l) (hy : a.eval y = key x) (hx : ok x) (hl : ∀ e ∈ l, ok e.1) {r : Value} (hr : (match getE x l with | some v => Value.tuple #[v, .bool true] | none => .tuple #[z, .bool false]) = r)
    (hK : wpList Tryz.prog ops Q rest (a.put o.dst r) w) : wpList Tryz.prog ops Q (o :: rest) a w := by
  refine wpList_plain hg fun K' hK' => ?_
  have hrun := run_look K hT hz hM hx hl
  rw [hr] at hrun
  unfold Oper.wp
  simp [execOp, hop, hm, hy, hrun, Result.andThen]
  exact hK' _ _ hK

/-- a store at the operation -/
theorem wpList_put {ops : Array Oper} {rest : List Oper} {o : Oper} {a : Act} {Q : Exit → Act → World → Prop} (hg : o.guard = none) (m y u : Operand) (hop : o.op = Op.mapUpdate T m y u)
    (K : KeyT kT key w ok) (hT : Tryz.prog.underlying T = some (.map kT e)) (hm : a.eval m = .map (some M)) (hM : MapIs key w M l) (hy : a.eval y = key x) (hx : ok x) (hl : ∀ e ∈ l, ok e.1) {v : Value} (hu : a.eval u = v)
    (hK : ∀ w', MapIs key w' M (putE x v l) → w.grownBy w' (some M) → wpList Tryz.prog ops Q rest (a.put o.dst undef) w') : wpList Tryz.prog ops Q (o :: rest) a w := by
  refine wpList_plain hg fun K' hK' => ?_
  obtain ⟨es, clock, hrun, h2⟩ := run_put K hT hM hx hl v
  unfold Oper.wp
  simp [execOp, hop, hm, hy, hu, hrun, Result.andThen]
  refine hK' _ _ (hK _ ⟨es, clock, ?_, h2⟩ ?_)
  · simp [ChangeMaps.setBlock, hM.lt]
  · refine ⟨rfl, rfl, rfl, by simp [ChangeMaps.setBlock], fun i _ hne => ?_⟩
    have hne' : M ≠ i := fun h => hne (by rw [h])
    simp [ChangeMaps.setBlock, hne']

end

/-- keys of plain blocks -/
def ok1 (w : World) (x : LK) : Prop := PB w x.b
def ok2 (w : World) (x : LK × LK) : Prop := PB w x.1.b ∧ PB w x.2.b

theorem keyT1 (w : World) : KeyT 66 key1 w (ok1 w) :=
  ⟨fun x y hx hy => run_eqList (d := 9998) hx hy, fun em x => run_check1 em x, fun x es => run_findKey_eq w (by kernel_rfl) _ _, fun x => by simp [key1, Instr.sameBits]⟩

theorem keyT2 (w : World) : KeyT 79 key2 w (ok2 w) :=
  ⟨fun x y hx hy => run_eqPair (d := 9997) hx hy, fun em x => run_check2 em x, fun x es => run_findKey_eq w (by kernel_rfl) _ _, fun x => by simp [key2, Instr.sameBits]⟩

theorem getE_none {κ : Type} [DecidableEq κ] {x : κ} : ∀ {l : List (κ × Value)}, getE x l = none ↔ ∀ e ∈ l, e.1 ≠ x
  | [] => by simp [getE, lookE]
  | e :: es => by
    have ih := getE_none (x := x) (l := es)
    unfold getE at ih ⊢
    unfold lookE
    by_cases h : x = e.1
    · rw [if_pos h]
      simp [h]
    · rw [if_neg h, lookE_shift]
      simp only [Option.map_eq_none_iff] at ih ⊢
      rw [ih]
      simp [Ne.symm h]

theorem getE_some {κ : Type} [DecidableEq κ] {x : κ} {v : Value} : ∀ {l : List (κ × Value)}, getE x l = some v → (x, v) ∈ l
  | [], h => by simp [getE, lookE] at h
  | e :: es, h => by
    unfold getE lookE at h
    by_cases hx : x = e.1
    · rw [if_pos hx] at h
      simp at h
      subst hx h
      simp
    · rw [if_neg hx, lookE_shift] at h
      refine List.mem_cons_of_mem _ (getE_some (x := x) ?_)
      unfold getE
      simpa [Option.map_map] using h

theorem mem_putE {κ : Type} [DecidableEq κ] {x : κ} {v : Value} : ∀ {l : List (κ × Value)} {e : κ × Value}, e ∈ putE x v l → e = (x, v) ∨ e ∈ l
  | [], e, h => by unfold putE at h; simpa using h
  | y :: es, e, h => by
    unfold putE at h
    split at h
    · rcases List.mem_cons.1 h with h | h
      · exact Or.inl h
      · exact Or.inr (List.mem_cons_of_mem _ h)
    · rcases List.mem_cons.1 h with h | h
      · exact Or.inr (h ▸ List.mem_cons_self ..)
      · rcases mem_putE h with h | h
        · exact Or.inl h
        · exact Or.inr (List.mem_cons_of_mem _ h)

end Go.Proofs.YtnclmlhmmljfgaaGreatDoor
