import Derived.Maps.OwnSet
import Derived.Deep.RegionHeld3
import Derived.Maps.RangeWalk
import Derived.Test.YtmdhjiammcpogaaGreatDoorQ01
namespace Go.Proofs.YtmdhjiammcpogaaGreatDoor
set_option maxRecDepth 100000
set_option maxHeartbeats 16000000
section
open Go.RowKit
variable {d : Nat} {v : Value} {w : World}
def PB (w : World) (b : Nat) : Prop := ∃ cs t, w.heap[b]? = some (.cells cs t (0, 0))
theorem run_sameAddr {P : Program} {a b : Addr} (ha : PB w a.block) (hb : PB w b.block) : (sameAddr a b).run P w = .ok (decide (a = b)) w := by
 obtain ⟨cs, t, h1⟩ := ha
 obtain ⟨cs', t', h2⟩ := hb
 by_cases e : a.block = b.block
 ·have : (a == b) = decide (a = b) := by rw [Bool.eq_iff_iff]; simp
  simp [sameAddr, e, this]
 ·have hne : ¬ a = b := fun h => e (by rw [h])
  have f1 : ∀ x y, w.frozen? ⟨a.block, x, y⟩ = false := fun x y => by simp [World.frozen?, h1]
  have f2 : ∀ x y, w.frozen? ⟨b.block, x, y⟩ = false := fun x y => by simp [World.frozen?, h2]
  have f1' : w.frozen? a = false := f1 a.off a.spot
  have f2' : w.frozen? b = false := f2 b.off b.spot
  have s1 : ∃ x y, w.shape? a.block = some (x, y) := by simp [World.shape?, h1]
  have s2 : ∃ x y, w.shape? b.block = some (x, y) := by simp [World.shape?, h2]
  obtain ⟨x1, y1, s1⟩ := s1
  obtain ⟨x2, y2, s2⟩ := s2
  simp [sameAddr, e, hne, frozen, noView, viewAt, mayBeOne, stringish, shape, f1', f2', s1, s2, f1, f2, Sem.run]
structure LK where
 b : Nat
 o : Nat
 n : Nat
 deriving DecidableEq
def key1 (x : LK) : Value := .agg #[.pointer (some ⟨x.b, x.o, none⟩), .int .i64 (x.n : Int)]
theorem run_eqPtr {a b : Addr} (ha : PB w a.block) (hb : PB w b.block) : (Op.equalIn (d + 1) 57 (.pointer (some a)) (.pointer (some b))).run Tryz.prog w = .ok (decide (a = b)) w := by
 have hs : Tryz.prog.underlying 57 = some (.pointer 25) := Tryz.underlying57
 have hz : (sizeOf 25).run Tryz.prog w = .ok 8 w := by kernel_rfl
 simp [Op.equalIn, run_underlying hs, hz, run_sameAddr ha hb]
theorem two_of {l : List Field} {a b : String × TypeId × Nat} (h : l.map (fun f => (f.name, f.type, f.offset)) = [a, b]) : ∃ f g, l = [f, g] /\ (f.name, f.type, f.offset) = a /\ (g.name, g.type, g.offset) = b := by
 match l, h with
 | [f, g], h => simp only [List.map_cons, List.map_nil, List.cons.injEq, and_true] at h; exact ⟨f, g, rfl, h.1, h.2⟩
theorem run_eqList {x y : LK} (hx : PB w x.b) (hy : PB w y.b) : (Op.equalIn (d + 2) 59 (key1 x) (key1 y)).run Tryz.prog w = .ok (decide (x = y)) w := by
 unfold key1
 rw [run_equalIn_struct w (d + 1) 59 _ _ (by kernel_rfl) (by kernel_rfl)]
 have hf : (Tryz.prog.fieldsOf 59).toList.map (fun f => (f.name, f.type, f.offset)) = [("first", 57, 0), ("size", 3, 1)] := by kernel_rfl
 obtain ⟨f, g, e, h1, h2⟩ := two_of hf
 rw [e]
 simp only [Prod.mk.injEq] at h1 h2
 have p0 : ∀ (u v : Value), (part 57 #[u, v] 0).run Tryz.prog w = .ok u w := fun u v => by kernel_rfl
 have p1 : ∀ (u v : Value), (part 3 #[u, v] 1).run Tryz.prog w = .ok v w := fun u v => by kernel_rfl
 have q : decide (x = y) = (decide ((⟨x.b, x.o, none⟩ : Addr) = ⟨y.b, y.o, none⟩) && ((x.n : Int) == (y.n : Int))) := by
  rw [Bool.eq_iff_iff]
  obtain ⟨a, b, c⟩ := x
  obtain ⟨a', b', c'⟩ := y
  simp [and_assoc, Int.ofNat_inj]
 simp only [Op.eqFields, h1.1, h1.2.1, h1.2.2, h2.1, h2.2.1, h2.2.2, Sem.run_bind, p0, p1, Result.andThen_ok, run_eqPtr (a := ⟨x.b, x.o, none⟩) (b := ⟨y.b, y.o, none⟩) hx hy, run_equalIn_int w d 3 .i64 .i64 _ _ Tryz.underlying3, q, Sem.run_ite, Sem.run_pure]
 cases decide ((⟨x.b, x.o, none⟩ : Addr) = ⟨y.b, y.o, none⟩) <;> cases ((x.n : Int) == (y.n : Int)) <;> simp
theorem run_check1 (em : Bool) (x : LK) : (Instr.checkKey em 10000 59 (key1 x)).run Tryz.prog w = .ok () w := by kernel_rfl
def lookE {κ : Type} [DecidableEq κ] (k : κ) : List (κ × Value) -> Nat -> Option (Nat × Value)
 | [], _ => none
 | e :: es, i => if k = e.1 then some (i, e.2) else lookE k es (i + 1)
theorem run_asking {κ : Type} [DecidableEq κ] {kT : TypeId} {key : κ -> Value} {ok : κ -> Prop} {w : World} (heq : ∀ x y, ok x -> ok y -> (Op.equal kT (key x) (key y)).run Tryz.prog w = .ok (decide (x = y)) w) {x : κ} (hx : ok x) :
 ∀ (es : List MapEntry) (l : List (κ × Value)) (i : Nat), es.map (fun e => (e.key, e.val)) = l.map (fun e => (key e.1, e.2)) -> (∀ e ∈ l, ok e.1) -> (Instr.findAsking kT (key x) es i).run Tryz.prog w = .ok (lookE x l i) w
 | [], [], _, _, _ => by simp [Instr.findAsking, lookE]
 | [], _ :: _, _, h, _ => by simp at h
 | _ :: _, [], _, h, _ => by simp at h
 | e :: es, y :: l, i, h, hl => by
  simp only [List.map_cons, List.cons.injEq, Prod.mk.injEq] at h
  have h1 := heq x y.1 hx (hl y (List.mem_cons_self ..))
  rw [Instr.findAsking, h.1.1]
  simp only [Sem.run_bind, h1, Result.andThen_ok, Sem.run_ite, decide_eq_true_eq, Sem.run_pure, lookE, h.1.2]
  rw [run_asking heq hx es l (i + 1) h.2 (fun e he => hl e (List.mem_cons_of_mem _ he))]
  split <;> rfl
structure MapIs {κ : Type} (key : κ -> Value) (w : World) (M : Nat) (l : List (κ × Value)) : Prop where
 is : ∃ es clock, w.heap[M]? = some (.map es clock) /\ es.toList.map (fun e => (e.key, e.val)) = l.map (fun e => (key e.1, e.2))
theorem MapIs.lt {κ : Type} {key : κ -> Value} {M : Nat} {l : List (κ × Value)} (h : MapIs key w M l) : M < w.heap.size := by
 obtain ⟨es, clock, h1, _⟩ := h.is
 exact (Array.getElem?_eq_some_iff.1 h1).1
def putE {κ : Type} [DecidableEq κ] (k : κ) (v : Value) : List (κ × Value) -> List (κ × Value)
 | [] => [(k, v)]
 | e :: es => if k = e.1 then (k, v) :: es else e :: putE k v es
def getE {κ : Type} [DecidableEq κ] (k : κ) (l : List (κ × Value)) : Option Value := (lookE k l 0).map (·.2)
theorem lookE_shift {κ : Type} [DecidableEq κ] (k : κ) : ∀ (l : List (κ × Value)) (i : Nat), lookE k l i = (lookE k l 0).map (fun p => (p.1 + i, p.2))
 | [], _ => rfl
 | e :: es, i => by
  unfold lookE
  split
  ·simp
  ·rw [lookE_shift k es (i + 1), lookE_shift k es (0 + 1)]
   simp only [Option.map_map]
   congr 1
   funext p
   simp
   omega
section
variable {κ : Type} [DecidableEq κ] {kT : TypeId} {key : κ -> Value} {ok : κ -> Prop} {w : World} {T e : TypeId} {M : Nat} {l : List (κ × Value)} {x : κ}
structure KeyT (kT : TypeId) (key : κ -> Value) (w : World) (ok : κ -> Prop) : Prop where
 eq : ∀ x y, ok x -> ok y -> (Op.equal kT (key x) (key y)).run Tryz.prog w = .ok (decide (x = y)) w
 check : ∀ em x, (Instr.checkKey em 10000 kT (key x)).run Tryz.prog w = .ok () w
 find : ∀ x es, (Instr.findKey kT (key x) es).run Tryz.prog w = (Instr.findAsking kT (key x) es 0).run Tryz.prog w
 stays : ∀ x, Instr.sameBits 10000 (key x) (key x) = true
theorem run_look (K : KeyT kT key w ok) (hT : Tryz.prog.underlying T = some (.map kT e)) {z : Value} (hz : (zeroValue e).run Tryz.prog w = .ok z w) (hM : MapIs key w M l) (hx : ok x) (hl : ∀ e ∈ l, ok e.1) :
 (Instr.lookup T (.map (some M)) (key x) true).run Tryz.prog w = .ok (match getE x l with | some v => .tuple #[v, .bool true] | none => .tuple #[z, .bool false]) w := by
 obtain ⟨es, clock, h1, h2⟩ := hM.is
 have h3 := run_asking K.eq hx es.toList l 0 h2 hl
 rw [<- K.find] at h3
 unfold getE
 cases hg : lookE x l 0 with
 | none => rw [hg] at h3; simp [Instr.lookup, run_underlying hT, MapKept.run_getObj_map h1, K.check, h3, hz, Result.andThen]
 | some p => rw [hg] at h3; simp [Instr.lookup, run_underlying hT, MapKept.run_getObj_map h1, K.check, h3, Result.andThen]
theorem putE_none : ∀ (l : List (κ × Value)) {i : Nat} (v : Value), lookE x l i = none -> putE x v l = l ++ [(x, v)]
 | [], _, _, _ => rfl
 | e :: es, i, v, h => by
  unfold lookE at h
  unfold putE
  split at h
  ·cases h
  ·rename_i hne
   rw [if_neg hne, putE_none es v h]
   rfl
theorem putE_some : ∀ (l : List (κ × Value)) {i j : Nat} {u : Value} (v : Value), lookE x l i = some (j, u) -> i <= j /\ l[j - i]? = some (x, u) /\ putE x v l = l.set (j - i) (x, v)
 | [], _, _, _, _, h => by cases h
 | e :: es, i, j, u, v, h => by
  unfold lookE at h
  unfold putE
  split at h
  ·rename_i he
   cases h
   rw [if_pos he, Nat.sub_self, he]
   exact ⟨Nat.le_refl _, rfl, rfl⟩
  ·rename_i hne
   obtain ⟨h1, h2, h3⟩ := putE_some es v h
   rw [if_neg hne, h3]
   have e1 : j - i = (j - (i + 1)) + 1 := by omega
   rw [e1]
   exact ⟨by omega, by simpa using h2, by simp⟩
theorem run_put (K : KeyT kT key w ok) (hT : Tryz.prog.underlying T = some (.map kT e)) (hM : MapIs key w M l) (hx : ok x) (hl : ∀ e ∈ l, ok e.1) (v : Value) :
 ∃ es clock, (Instr.mapUpdate T (.map (some M)) (key x) v).run Tryz.prog w = .ok () (ChangeMaps.setBlock w M (.map es clock)) /\ es.toList.map (fun e => (e.key, e.val)) = (putE x v l).map (fun e => (key e.1, e.2)) := by
 obtain ⟨es, clock, h1, h2⟩ := hM.is
 have h3 := run_asking K.eq hx es.toList l 0 h2 hl
 rw [<- K.find] at h3
 cases hg : lookE x l 0 with
 | none =>
  rw [hg] at h3
  refine ⟨es.push ⟨key x, v, clock⟩, clock + 1, by simp [Instr.mapUpdate, run_underlying hT, MapKept.run_getObj_map h1, K.check, h3, MapKept.run_setObj_map _ h1, Result.andThen, ChangeMaps.setBlock], ?_⟩
  rw [putE_none l v hg, Array.toList_push, List.map_append, List.map_append, h2]
  rfl
 | some p =>
  obtain ⟨j, u⟩ := p
  rw [hg] at h3
  obtain ⟨_, g1, g2⟩ := putE_some l v hg
  rw [Nat.sub_zero] at g1 g2
  have g3 : (es.toList.map (fun e => (e.key, e.val)))[j]? = some (key x, u) := by rw [h2, List.getElem?_map, g1]; rfl
  rw [List.getElem?_map] at g3
  obtain ⟨e0, he0, hk⟩ := Option.map_eq_some_iff.1 g3
  have hj : es[j]? = some e0 := by simpa using he0
  have hk1 : e0.key = key x := (Prod.mk.inj hk).1
  refine ⟨es.modify j (fun e' => { e' with key := key x, val := v }), clock, by simp [Instr.mapUpdate, run_underlying hT, MapKept.run_getObj_map h1, K.check, h3, hj, hk1, Instr.keyThatStays, K.stays, MapKept.run_setObj_map _ h1, Result.andThen, ChangeMaps.setBlock], ?_⟩
  rw [g2, List.map_set, <- h2, Array.toList_modify, ChangeMaps.modify_eq_set _ _ _ _ he0, List.map_set]
theorem wpList_look {ops : Array Oper} {rest : List Oper} {o : Oper} {a : Act} {Q : Exit -> Act -> World -> Prop} (hg : o.guard = none) (m y : Operand) (hop : o.op = Op.lookup T m y true) (K : KeyT kT key w ok) (hT : Tryz.prog.underlying T = some (.map kT e)) {z : Value} (hz : (zeroValue e).run Tryz.prog w = .ok z w) (hm : a.eval m = .map (some M)) (hM : MapIs key w M l) (hy : a.eval y = key x) (hx : ok x) (hl : ∀ e ∈ l, ok e.1) {r : Value} (hr : (match getE x l with | some v => Value.tuple #[v, .bool true] | none => .tuple #[z, .bool false]) = r) (hK : wpList Tryz.prog ops Q rest (a.put o.dst r) w) : wpList Tryz.prog ops Q (o :: rest) a w := by
 refine wpList_plain hg fun K' hK' => ?_
 have hrun := run_look K hT hz hM hx hl
 rw [hr] at hrun
 unfold Oper.wp
 simp [execOp, hop, hm, hy, hrun, Result.andThen]
 exact hK' _ _ hK
theorem wpList_put {ops : Array Oper} {rest : List Oper} {o : Oper} {a : Act} {Q : Exit -> Act -> World -> Prop} (hg : o.guard = none) (m y u : Operand) (hop : o.op = Op.mapUpdate T m y u) (K : KeyT kT key w ok) (hT : Tryz.prog.underlying T = some (.map kT e)) (hm : a.eval m = .map (some M)) (hM : MapIs key w M l) (hy : a.eval y = key x) (hx : ok x) (hl : ∀ e ∈ l, ok e.1) (hu : a.eval u = v) (hK : ∀ w', MapIs key w' M (putE x v l) -> w.grownBy w' (some M) -> wpList Tryz.prog ops Q rest (a.put o.dst undef) w') : wpList Tryz.prog ops Q (o :: rest) a w := by
 refine wpList_plain hg fun K' hK' => ?_
 obtain ⟨es, clock, hrun, h2⟩ := run_put K hT hM hx hl v
 unfold Oper.wp
 simp [execOp, hop, hm, hy, hu, hrun, Result.andThen]
 refine hK' _ _ (hK _ ⟨es, clock, ?_, h2⟩ ?_)
 ·simp [ChangeMaps.setBlock, hM.lt]
 ·refine ⟨rfl, rfl, rfl, by simp [ChangeMaps.setBlock], fun i _ hne => ?_⟩
  have hne' : M ≠ i := fun h => hne (by rw [h])
  simp [ChangeMaps.setBlock, hne']
end
def ok1 (w : World) (x : LK) : Prop := PB w x.b
def ok2 (w : World) (x : LK × LK) : Prop := PB w x.1.b /\ PB w x.2.b
theorem keyT1 (w : World) : KeyT 59 key1 w (ok1 w) :=
 ⟨fun x y hx hy => run_eqList (d := 9998) hx hy, fun em x => run_check1 em x, fun x es => run_findKey_eq w (by kernel_rfl) _ _, fun x => by simp [key1, Instr.sameBits]⟩
theorem getE_some {κ : Type} [DecidableEq κ] {x : κ} {v : Value} : ∀ {l : List (κ × Value)}, getE x l = some v -> (x, v) ∈ l
 | [], h => by simp [getE, lookE] at h
 | e :: es, h => by
  unfold getE lookE at h
  by_cases hx : x = e.1
  ·rw [if_pos hx] at h
   simp at h
   subst hx h
   simp
  ·rw [if_neg hx, lookE_shift] at h
   refine List.mem_cons_of_mem _ (getE_some (x := x) ?_)
   unfold getE
   simpa [Option.map_map] using h
theorem mem_putE {κ : Type} [DecidableEq κ] {x : κ} {v : Value} : ∀ {l : List (κ × Value)} {e : κ × Value}, e ∈ putE x v l -> e = (x, v) ∨ e ∈ l
 | [], e, h => by unfold putE at h; simpa using h
 | y :: es, e, h => by
  unfold putE at h
  split at h
  ·rcases List.mem_cons.1 h with h | h
   ·exact Or.inl h
   ·exact Or.inr (List.mem_cons_of_mem _ h)
  ·rcases List.mem_cons.1 h with h | h
   ·exact Or.inr (h ▸ List.mem_cons_self ..)
   ·rcases mem_putE h with h | h
    ·exact Or.inl h
    ·exact Or.inr (List.mem_cons_of_mem _ h)
end
section
open Go.RowKit
structure Nd where
 k : Int
 t : ByteArray
 n : Int
 y : ByteArray
 s : Int
 a : Int
 l : Int
inductive Tr where
 | mk (f : Nd) (ks : List Tr)
def Tr.f : Tr -> Nd
 | .mk f _ => f
def Tr.ks : Tr -> List Tr
 | .mk _ ks => ks
mutual
def cnt : Tr -> Nat
 | .mk _ ks => 1 + cnts ks
def cnts : List Tr -> Nat
 | [] => 0
 | t :: r => cnt t + cnts r
end
mutual
def dep : Tr -> Nat
 | .mk _ ks => 1 + deps ks
def deps : List Tr -> Nat
 | [] => 0
 | t :: r => max (dep t) (deps r)
end
def mrk (k : Int) : Bool := decide (k = 21) || decide (k = 22) || decide (k = 23) || decide (k = 24) || decide (k = 26) || decide (k = 27) || decide (k = 28) || decide (k = 30)
def sameF (a b : Nd) : Bool := decide (a.k = b.k) && decide (a.t = b.t) && decide (a.n = b.n) && (mrk a.k || decide (a.y = b.y))
mutual
def same : Tr -> Tr -> Bool
 | .mk f ks, .mk g ls => sameF f g && sames ks ls
def sames : List Tr -> List Tr -> Bool
 | [], [] => true
 | a :: r, b :: q => same a b && sames r q
 | _, _ => false
end
theorem cnt_pos (t : Tr) : 1 <= cnt t := by
 obtain ⟨f, ks⟩ := t
 unfold cnt
 omega
theorem cnts_app : ∀ (l m : List Tr), cnts (l ++ m) = cnts l + cnts m
 | [], m => by simp [cnts]
 | t :: r, m => by simp only [List.cons_append, cnts, cnts_app r m]; omega
theorem cnts_mem : ∀ {l : List Tr} {t : Tr}, t ∈ l -> cnt t <= cnts l
 | x :: r, t, h => by
  unfold cnts
  rcases List.mem_cons.1 h with rfl | h
  ·omega
  ·have := cnts_mem h; omega
theorem len_le_cnts : ∀ (l : List Tr), l.length <= cnts l
 | [] => Nat.zero_le _
 | t :: r => by
  have := len_le_cnts r
  have := cnt_pos t
  simp only [List.length_cons, cnts]
  omega
structure Md where
 plain : Bool
 mark : Bool
def bhd : ByteArray := ⟨#[98, 101, 104, 105, 110, 100]⟩
def Mkd (w : World) (S : Nat -> Prop) (v : Value) (n b o : Nat) : Prop := ∃ c, v = .slice (some ⟨b, o, none⟩) n c /\ n + 1 <= c /\ S b /\ w.cell? ⟨b, o + n * 8 + 1, none⟩ = some (.string bhd)
def Hd (w : World) (m : Md) (S : Nat -> Prop) (v : Value) (n b o : Nat) : Prop :=
 ((n = 0 /\ ∃ a c, v = .slice a 0 c) ∨ (0 < n /\ S b /\ (m.plain = true -> PB w b) /\ ∃ c, (n <= 9223372036854775807 /\ n <= c) /\ v = .slice (some ⟨b, o, none⟩) n c)) /\ (m.mark = true -> Mkd w S v n b o)
mutual
def NodeAt (w : World) (m : Md) (S : Nat -> Prop) (b o : Nat) : Tr -> Prop
 | .mk f ks => ∃ v b' o', w.cell? ⟨b, o, none⟩ = some (.int .i64 f.k) /\ w.cell? ⟨b, o + 1, none⟩ = some (.string f.t) /\ w.cell? ⟨b, o + 2, none⟩ = some (.int .i64 f.n) /\ w.cell? ⟨b, o + 3, none⟩ = some (.string f.y) /\
  w.cell? ⟨b, o + 4, none⟩ = some (.int .i64 f.s) /\ w.cell? ⟨b, o + 5, none⟩ = some (.int .i64 f.a) /\ w.cell? ⟨b, o + 6, none⟩ = some (.int .i64 f.l) /\ w.cell? ⟨b, o + 7, none⟩ = some v /\
  Hd w m S v ks.length b' o' /\ RowAt w m S b' o' ks
def RowAt (w : World) (m : Md) (S : Nat -> Prop) (b o : Nat) : List Tr -> Prop
 | [] => True
 | t :: r => NodeAt w m S b o t /\ RowAt w m S b (o + 8) r
end
def Kids (w : World) (m : Md) (S : Nat -> Prop) (v : Value) (ts : List Tr) : Prop := ∃ b o, Hd w m S v ts.length b o /\ RowAt w m S b o ts
abbrev nv (f : Nd) (v : Value) : Value := .agg #[.int .i64 f.k, .string f.t, .int .i64 f.n, .string f.y, .int .i64 f.s, .int .i64 f.a, .int .i64 f.l, v]
theorem RowAt.get {w : World} {m : Md} {S : Nat -> Prop} {b : Nat} : ∀ {ts : List Tr} {o : Nat}, RowAt w m S b o ts -> ∀ i (h : i < ts.length), NodeAt w m S b (o + i * 8) ts[i]
 | t :: r, o, h, 0, _ => by
  have := h.1
  rw [Nat.zero_mul, Nat.add_zero]
  exact this
 | t :: r, o, h, i + 1, hi => by
  have := RowAt.get (o := o + 8) h.2 i (by simpa using hi)
  rw [show o + (i + 1) * 8 = o + 8 + i * 8 by omega]
  simpa using this
theorem RowAt.mk {w : World} {m : Md} {S : Nat -> Prop} {b : Nat} : ∀ {ts : List Tr} {o : Nat}, (∀ i (h : i < ts.length), NodeAt w m S b (o + i * 8) ts[i]) -> RowAt w m S b o ts
 | [], _, _ => trivial
 | t :: r, o, h => ⟨by
  have := h 0 (by simp)
  rw [Nat.zero_mul, Nat.add_zero] at this
  exact this, RowAt.mk fun i hi => by
  have := h (i + 1) (by simpa using hi)
  rw [show o + (i + 1) * 8 = o + 8 + i * 8 by omega] at this
  simpa using this⟩
def Agree (S : Nat -> Prop) (w w' : World) : Prop := ∀ i, S i -> w'.heap[i]? = w.heap[i]?
theorem Agree.refl (S : Nat -> Prop) (w : World) : Agree S w w := fun _ _ => rfl
theorem Agree.trans {S : Nat -> Prop} {a b c : World} (h : Agree S a b) (k : Agree S b c) : Agree S a c := fun i hi => (k i hi).trans (h i hi)
theorem Agree.mono {S S' : Nat -> Prop} {a b : World} (h : Agree S' a b) (hn : ∀ i, S i -> S' i) : Agree S a b := fun i hi => h i (hn i hi)
theorem Agree.of_below {S : Nat -> Prop} {M : Nat} {w w' : World} (h : Below M w w') (hn : ∀ i, S i -> i < M) : Agree S w w' := fun i hi => h.block i (hn i hi)
theorem Agree.cell {S : Nat -> Prop} {w w' : World} (h : Agree S w w') {b : Nat} (hb : S b) (o : Nat) : w'.cell? ⟨b, o, none⟩ = w.cell? ⟨b, o, none⟩ := by
 unfold World.cell?
 simp only [h b hb]
theorem PB.agree {S : Nat -> Prop} {w w' : World} {b : Nat} (h : Agree S w w') (hb : S b) (hp : PB w b) : PB w' b := by
 obtain ⟨cs, t, h1⟩ := hp
 exact ⟨cs, t, (h b hb).trans h1⟩
theorem Hd.agree {w w' : World} {m : Md} {S : Nat -> Prop} {n b o : Nat} {v : Value} (ha : Agree S w w') (h : Hd w m S v n b o) : Hd w' m S v n b o := by
 obtain ⟨h, hm⟩ := h
 refine ⟨?_, fun e => ?_⟩
 ·rcases h with h | ⟨h1, h2, h3, h4⟩
  ·exact Or.inl h
  ·exact Or.inr ⟨h1, h2, fun hp => (h3 hp).agree ha h2, h4⟩
 ·obtain ⟨c, h1, h2, h3, h4⟩ := hm e
  exact ⟨c, h1, h2, h3, by rw [ha.cell h3]; exact h4⟩
theorem Hd.nil_or {w : World} {m : Md} {S : Nat -> Prop} {b o : Nat} {v : Value} {ks : List Tr} (h : Hd w m S v ks.length b o) : ks = [] ∨ S b := by
 rcases h.1 with ⟨h, _⟩ | ⟨_, h, _⟩
 ·exact Or.inl (List.eq_nil_of_length_eq_zero h)
 ·exact Or.inr h
mutual
theorem NodeAt.agree {w w' : World} {m : Md} {S : Nat -> Prop} (ha : Agree S w w') : ∀ {t : Tr} {b o : Nat}, S b -> NodeAt w m S b o t -> NodeAt w' m S b o t
 | .mk f ks, b, o, hb, h => by
  obtain ⟨v, b', o', h0, h1, h2, h3, h4, h5, h6, h7, hh, hr⟩ := h
  refine ⟨v, b', o', ?_, ?_, ?_, ?_, ?_, ?_, ?_, ?_, hh.agree ha, ?_⟩
  ·rw [ha.cell hb]; exact h0
  ·rw [ha.cell hb]; exact h1
  ·rw [ha.cell hb]; exact h2
  ·rw [ha.cell hb]; exact h3
  ·rw [ha.cell hb]; exact h4
  ·rw [ha.cell hb]; exact h5
  ·rw [ha.cell hb]; exact h6
  ·rw [ha.cell hb]; exact h7
  ·rcases hh.nil_or with h | hb'
   ·subst h
    trivial
   ·exact RowAt.agree ha hb' hr
theorem RowAt.agree {w w' : World} {m : Md} {S : Nat -> Prop} (ha : Agree S w w') : ∀ {ts : List Tr} {b o : Nat}, S b -> RowAt w m S b o ts -> RowAt w' m S b o ts
 | [], _, _, _, _ => trivial
 | _ :: _, _, _, hb, h => ⟨NodeAt.agree ha hb h.1, RowAt.agree ha hb h.2⟩
end
theorem Kids.agree {w w' : World} {m : Md} {S : Nat -> Prop} {v : Value} {ts : List Tr} (ha : Agree S w w') (h : Kids w m S v ts) : Kids w' m S v ts := by
 obtain ⟨b, o, hh, hr⟩ := h
 refine ⟨b, o, hh.agree ha, ?_⟩
 rcases hh.nil_or with h | hb'
 ·subst h
  trivial
 ·exact hr.agree ha hb'
theorem Kids.below {w w' : World} {m : Md} {S : Nat -> Prop} {M : Nat} {v : Value} {ts : List Tr} (h : Kids w m S v ts) (hb : Below M w w') (hn : ∀ i, S i -> i < M) : Kids w' m S v ts := h.agree (Agree.of_below hb hn)
theorem Hd.mono {w : World} {m : Md} {S S' : Nat -> Prop} {n b o : Nat} {v : Value} (h : Hd w m S v n b o) (hn : ∀ i, S i -> S' i) : Hd w m S' v n b o := by
 obtain ⟨h, hm⟩ := h
 refine ⟨?_, fun e => ?_⟩
 ·rcases h with h | ⟨h1, h2, h3, h4⟩
  ·exact Or.inl h
  ·exact Or.inr ⟨h1, hn _ h2, h3, h4⟩
 ·obtain ⟨c, h1, h2, h3, h4⟩ := hm e
  exact ⟨c, h1, h2, hn _ h3, h4⟩
mutual
theorem NodeAt.mono {w : World} {m : Md} {S S' : Nat -> Prop} (hn : ∀ i, S i -> S' i) : ∀ {t : Tr} {b o : Nat}, NodeAt w m S b o t -> NodeAt w m S' b o t
 | .mk f ks, b, o, h => by
  obtain ⟨v, b', o', h0, h1, h2, h3, h4, h5, h6, h7, hh, hr⟩ := h
  exact ⟨v, b', o', h0, h1, h2, h3, h4, h5, h6, h7, hh.mono hn, RowAt.mono hn hr⟩
theorem RowAt.mono {w : World} {m : Md} {S S' : Nat -> Prop} (hn : ∀ i, S i -> S' i) : ∀ {ts : List Tr} {b o : Nat}, RowAt w m S b o ts -> RowAt w m S' b o ts
 | [], _, _, _ => trivial
 | _ :: _, _, _, h => ⟨NodeAt.mono hn h.1, RowAt.mono hn h.2⟩
end
theorem Kids.mono {w : World} {m : Md} {S S' : Nat -> Prop} {v : Value} {ts : List Tr} (h : Kids w m S v ts) (hn : ∀ i, S i -> S' i) : Kids w m S' v ts := by
 obtain ⟨b, o, hh, hr⟩ := h
 exact ⟨b, o, hh.mono hn, hr.mono hn⟩
theorem NodeAt.open {w : World} {m : Md} {S : Nat -> Prop} {b o : Nat} {t : Tr} (h : NodeAt w m S b o t) : ∃ v, w.cell? ⟨b, o, none⟩ = some (.int .i64 t.f.k) /\ w.cell? ⟨b, o + 1, none⟩ = some (.string t.f.t) /\ w.cell? ⟨b, o + 2, none⟩ = some (.int .i64 t.f.n) /\ w.cell? ⟨b, o + 3, none⟩ = some (.string t.f.y) /\
 w.cell? ⟨b, o + 4, none⟩ = some (.int .i64 t.f.s) /\ w.cell? ⟨b, o + 5, none⟩ = some (.int .i64 t.f.a) /\ w.cell? ⟨b, o + 6, none⟩ = some (.int .i64 t.f.l) /\ w.cell? ⟨b, o + 7, none⟩ = some v /\ Kids w m S v t.ks := by
 obtain ⟨f, ks⟩ := t
 obtain ⟨v, b', o', h0, h1, h2, h3, h4, h5, h6, h7, hh, hr⟩ := h
 exact ⟨v, h0, h1, h2, h3, h4, h5, h6, h7, b', o', hh, hr⟩
theorem NodeAt.shut {w : World} {m : Md} {S : Nat -> Prop} {b o : Nat} {t : Tr} {v : Value} (h0 : w.cell? ⟨b, o, none⟩ = some (.int .i64 t.f.k)) (h1 : w.cell? ⟨b, o + 1, none⟩ = some (.string t.f.t)) (h2 : w.cell? ⟨b, o + 2, none⟩ = some (.int .i64 t.f.n)) (h3 : w.cell? ⟨b, o + 3, none⟩ = some (.string t.f.y))
 (h4 : w.cell? ⟨b, o + 4, none⟩ = some (.int .i64 t.f.s)) (h5 : w.cell? ⟨b, o + 5, none⟩ = some (.int .i64 t.f.a)) (h6 : w.cell? ⟨b, o + 6, none⟩ = some (.int .i64 t.f.l)) (h7 : w.cell? ⟨b, o + 7, none⟩ = some v) (hk : Kids w m S v t.ks) : NodeAt w m S b o t := by
 obtain ⟨f, ks⟩ := t
 obtain ⟨b', o', hh, hr⟩ := hk
 exact ⟨v, b', o', h0, h1, h2, h3, h4, h5, h6, h7, hh, hr⟩
theorem Kids.form {w : World} {m : Md} {S : Nat -> Prop} {v : Value} {ts : List Tr} (h : Kids w m S v ts) : ∃ A c b o, v = .slice A ts.length c /\ ts.length <= 9223372036854775807 /\ (0 < ts.length -> A = some ⟨b, o, none⟩ /\ S b /\ (m.plain = true -> PB w b)) /\ RowAt w m S b o ts := by
 obtain ⟨b, o, ⟨hh, _⟩, hr⟩ := h
 rcases hh with ⟨h, a, c, e⟩ | ⟨h1, h2, h3, c, hn, e⟩
 ·exact ⟨a, c, b, o, by rw [e, h], by omega, fun h' => by omega, hr⟩
 ·exact ⟨_, c, b, o, e, hn.1, fun _ => ⟨rfl, h2, h3⟩, hr⟩
theorem Kids.marked {w : World} {m : Md} {S : Nat -> Prop} {v : Value} {ts : List Tr} (h : Kids w m S v ts) (hm : m.mark = true) : ∃ c b o, v = .slice (some ⟨b, o, none⟩) ts.length c /\ ts.length + 1 <= c /\ ts.length <= 9223372036854775807 /\ S b /\ w.cell? ⟨b, o + ts.length * 8 + 1, none⟩ = some (.string bhd) /\ RowAt w m S b o ts := by
 obtain ⟨b, o, ⟨hh, hk⟩, hr⟩ := h
 obtain ⟨c, h1, h2, h3, h4⟩ := hk hm
 refine ⟨c, b, o, h1, h2, ?_, h3, h4, hr⟩
 rcases hh with ⟨h, _⟩ | ⟨_, _, _, _, hn, _⟩
 ·omega
 ·exact hn.1
theorem Kids.nil (w : World) {m : Md} (hm : m.mark = false) (S : Nat -> Prop) (a : Option Addr) (c : Nat) : Kids w m S (.slice a 0 c) [] := ⟨0, 0, ⟨Or.inl ⟨rfl, a, c, rfl⟩, fun e => by rw [hm] at e; cases e⟩, trivial⟩
mutual
theorem NodeAt.one {w : World} {m m' : Md} {S S' : Nat -> Prop} : ∀ {t t' : Tr} {b o : Nat}, NodeAt w m S b o t -> NodeAt w m' S' b o t' -> t = t'
 | .mk f ks, .mk f' ks', b, o, h, h' => by
  obtain ⟨v, b', o', h0, h1, h2, h3, h4, h5, h6, h7, ⟨hh, _⟩, hr⟩ := h
  obtain ⟨v', b'', o'', g0, g1, g2, g3, g4, g5, g6, g7, ⟨gh, _⟩, gr⟩ := h'
  rw [h0] at g0; rw [h1] at g1; rw [h2] at g2; rw [h3] at g3; rw [h4] at g4; rw [h5] at g5; rw [h6] at g6; rw [h7] at g7
  simp only [Option.some.injEq, Value.int.injEq, true_and, Value.string.injEq] at g0 g1 g2 g3 g4 g5 g6 g7
  subst g7
  have hf : f = f' := by
   obtain ⟨_, _, _, _, _, _, _⟩ := f
   obtain ⟨_, _, _, _, _, _, _⟩ := f'
   simp only at g0 g1 g2 g3 g4 g5 g6
   subst g0 g1 g2 g3 g4 g5 g6
   rfl
  subst hf
  have hk : ks = ks' := by
   rcases hh with ⟨h, a, c, e⟩ | ⟨h1, h2, h3, c, hn, e⟩
   ·rcases gh with ⟨g, _⟩ | ⟨g1, _, _, c', _, e'⟩
    ·rw [List.eq_nil_of_length_eq_zero h, List.eq_nil_of_length_eq_zero g]
    ·rw [e] at e'
     injection e' with _ e2 _
     omega
   ·rcases gh with ⟨g, a', c', e'⟩ | ⟨g1, _, _, c', _, e'⟩
    ·rw [e] at e'
     injection e' with _ e2 _
     omega
    ·rw [e] at e'
     injection e' with e1 e2 _
     injection e1 with e1
     injection e1 with e1 e3 _
     subst e1 e3
     exact RowAt.one e2 hr gr
  rw [hk]
theorem RowAt.one {w : World} {m m' : Md} {S S' : Nat -> Prop} : ∀ {ts ts' : List Tr} {b o : Nat}, ts.length = ts'.length -> RowAt w m S b o ts -> RowAt w m' S' b o ts' -> ts = ts'
 | [], [], _, _, _, _, _ => rfl
 | [], _ :: _, _, _, hl, _, _ => by simp at hl
 | _ :: _, [], _, _, hl, _, _ => by simp at hl
 | t :: r, t' :: r', b, o, hl, h, h' => by
  rw [NodeAt.one h.1 h'.1, RowAt.one (by simpa using hl) h.2 h'.2]
end
structure Cs (w : World) (b o : Nat) (f : Nd) (v : Value) : Prop where
 c0 : w.cell? ⟨b, o, none⟩ = some (.int .i64 f.k)
 c1 : w.cell? ⟨b, o + 1, none⟩ = some (.string f.t)
 c2 : w.cell? ⟨b, o + 2, none⟩ = some (.int .i64 f.n)
 c3 : w.cell? ⟨b, o + 3, none⟩ = some (.string f.y)
 c4 : w.cell? ⟨b, o + 4, none⟩ = some (.int .i64 f.s)
 c5 : w.cell? ⟨b, o + 5, none⟩ = some (.int .i64 f.a)
 c6 : w.cell? ⟨b, o + 6, none⟩ = some (.int .i64 f.l)
 c7 : w.cell? ⟨b, o + 7, none⟩ = some v
theorem Cs.agree {S : Nat -> Prop} {w w' : World} {b o : Nat} {f : Nd} {v : Value} (h : Cs w b o f v) (ha : Agree S w w') (hb : S b) : Cs w' b o f v :=
 ⟨(ha.cell hb _).trans h.c0, (ha.cell hb _).trans h.c1, (ha.cell hb _).trans h.c2, (ha.cell hb _).trans h.c3, (ha.cell hb _).trans h.c4, (ha.cell hb _).trans h.c5, (ha.cell hb _).trans h.c6, (ha.cell hb _).trans h.c7⟩
theorem Cs.below {w w' : World} {M b o : Nat} {f : Nd} {v : Value} (h : Cs w b o f v) (hb : Below M w w') (hl : b < M) : Cs w' b o f v := h.agree (S := fun i => i < M) (Agree.of_below hb fun _ h => h) hl
theorem NodeAt.cs {w : World} {m : Md} {S : Nat -> Prop} {b o : Nat} {t : Tr} (h : NodeAt w m S b o t) : ∃ v, Hid (Cs w b o t.f v) /\ Hid (Kids w m S v t.ks) := by
 obtain ⟨v, h0, h1, h2, h3, h4, h5, h6, h7, hk⟩ := h.open
 exact ⟨v, zz ⟨h0, h1, h2, h3, h4, h5, h6, h7⟩, zz hk⟩
theorem zd (w : World) : Below w.heap.size w w.drew := ⟨rfl, rfl, rfl, Nat.le_refl _, fun _ _ => rfl⟩
structure Box (w : World) (B : Nat) (f : Nd) (v : Value) : Prop where
 blk : w.heap[B]? = some (.cells #[.int .i64 f.k, .string f.t, .int .i64 f.n, .string f.y, .int .i64 f.s, .int .i64 f.a, .int .i64 f.l, v] 25 (0, 0))
theorem Box.lt {w : World} {B : Nat} {f : Nd} {v : Value} (h : Box w B f v) : B < w.heap.size := (Array.getElem?_eq_some_iff.1 h.blk).1
theorem Box.cell {w : World} {B : Nat} {f : Nd} {v : Value} (h : Box w B f v) : w.cell? ⟨B, 0, none⟩ = some (.int .i64 f.k) /\ w.cell? ⟨B, 1, none⟩ = some (.string f.t) /\ w.cell? ⟨B, 2, none⟩ = some (.int .i64 f.n) /\ w.cell? ⟨B, 3, none⟩ = some (.string f.y) /\
 w.cell? ⟨B, 4, none⟩ = some (.int .i64 f.s) /\ w.cell? ⟨B, 5, none⟩ = some (.int .i64 f.a) /\ w.cell? ⟨B, 6, none⟩ = some (.int .i64 f.l) /\ w.cell? ⟨B, 7, none⟩ = some v := by
 refine ⟨?_, ?_, ?_, ?_, ?_, ?_, ?_, ?_⟩ <;> simp [World.cell?, h.blk]
theorem Box.froz {w : World} {B : Nat} {f : Nd} {v : Value} (h : Box w B f v) (i : Nat) : w.frozen? ⟨B, i, none⟩ = false := by simp [World.frozen?, h.blk]
theorem Box.below {w w' : World} {B M : Nat} {f : Nd} {v : Value} (h : Box w B f v) (ha : Below M w w') (hB : B < M) : Box w' B f v := ⟨(ha.block B hB).trans h.blk⟩
theorem jb (w : World) (f : Nd) (v : Value) : ∃ w1, w.alloc (.cells #[.int .i64 f.k, .string f.t, .int .i64 f.n, .string f.y, .int .i64 f.s, .int .i64 f.a, .int .i64 f.l, v] 25) = w1 /\ Hid (Below w.heap.size w w1) /\ Hid (Box w1 w.heap.size f v) /\ w1.heap.size = w.heap.size + 1 :=
 ⟨_, rfl, zz ((Below.refl _ _).alloc (Nat.le_refl _) _), zz ⟨(MapKept.heap_alloc w _).1⟩, World.size_alloc _ _⟩
theorem Cs.cell {w : World} {b o : Nat} {f : Nd} {v : Value} (c : Cs w b o f v) : w.cell? ⟨b, o, none⟩ = some (.int .i64 f.k) /\ w.cell? ⟨b, o + 1, none⟩ = some (.string f.t) /\ w.cell? ⟨b, o + 2, none⟩ = some (.int .i64 f.n) /\ w.cell? ⟨b, o + 3, none⟩ = some (.string f.y) /\ w.cell? ⟨b, o + 4, none⟩ = some (.int .i64 f.s) /\ w.cell? ⟨b, o + 5, none⟩ = some (.int .i64 f.a) /\ w.cell? ⟨b, o + 6, none⟩ = some (.int .i64 f.l) /\ w.cell? ⟨b, o + 7, none⟩ = some v := ⟨c.c0, c.c1, c.c2, c.c3, c.c4, c.c5, c.c6, c.c7⟩
theorem al8 {w : World} {b o : Nat} {f : Nd} {v : Value} (h : b < w.heap.size) (c : Hid (Cs w b o f v)) : (∀ p, (w.alloc p).cell? ⟨b, o, none⟩ = some (.int .i64 f.k)) /\ (∀ p, (w.alloc p).cell? ⟨b, o + 1, none⟩ = some (.string f.t)) /\ (∀ p, (w.alloc p).cell? ⟨b, o + 2, none⟩ = some (.int .i64 f.n)) /\ (∀ p, (w.alloc p).cell? ⟨b, o + 3, none⟩ = some (.string f.y)) /\ (∀ p, (w.alloc p).cell? ⟨b, o + 4, none⟩ = some (.int .i64 f.s)) /\ (∀ p, (w.alloc p).cell? ⟨b, o + 5, none⟩ = some (.int .i64 f.a)) /\ (∀ p, (w.alloc p).cell? ⟨b, o + 6, none⟩ = some (.int .i64 f.l)) /\ (∀ p, (w.alloc p).cell? ⟨b, o + 7, none⟩ = some v) :=
 ⟨fun p => (World.cell?_alloc_lt w p _ h).trans c.out.c0, fun p => (World.cell?_alloc_lt w p _ h).trans c.out.c1, fun p => (World.cell?_alloc_lt w p _ h).trans c.out.c2, fun p => (World.cell?_alloc_lt w p _ h).trans c.out.c3, fun p => (World.cell?_alloc_lt w p _ h).trans c.out.c4, fun p => (World.cell?_alloc_lt w p _ h).trans c.out.c5, fun p => (World.cell?_alloc_lt w p _ h).trans c.out.c6, fun p => (World.cell?_alloc_lt w p _ h).trans c.out.c7⟩
theorem bx {w w' : World} {B : Nat} {f : Nd} {v : Value} (h : Hid (Box w B f v)) (b : Below w.heap.size w w') : Hid (Box w' B f v) := zz (h.out.below b h.out.lt)
end
section
open Go.RowKit
variable {b : Bool} {c n : Nat}
theorem ismarked_is {k : Int} (h : mrk k = b) (w : World) :
 Calls Tryz.prog 49 #[.int .i64 k] w fun e w' => e = .returned (.bool b) /\ w' = w := by
 by_cases c0 : k = 21
 ·subst c0
  have E := zz (show true = b by rw [<- h]; rfl)
  clear h
  go_enter Tryz.func49, Tryz.ntmps49
  go_wp2
  go_ret
  exact ⟨zb E.out, rfl⟩
 have q0 := beq_false_of_ne c0
 by_cases c1 : k = 22
 ·subst c1
  have E := zz (show true = b by rw [<- h]; rfl)
  clear h c0 q0
  go_enter Tryz.func49, Tryz.ntmps49
  go_wp2
  go_ret
  exact ⟨zb E.out, rfl⟩
 have q1 := beq_false_of_ne c1
 by_cases c2 : k = 23
 ·subst c2
  have E := zz (show true = b by rw [<- h]; rfl)
  clear h c0 q0 c1 q1
  go_enter Tryz.func49, Tryz.ntmps49
  go_wp2
  go_ret
  exact ⟨zb E.out, rfl⟩
 have q2 := beq_false_of_ne c2
 by_cases c3 : k = 24
 ·subst c3
  have E := zz (show true = b by rw [<- h]; rfl)
  clear h c0 q0 c1 q1 c2 q2
  go_enter Tryz.func49, Tryz.ntmps49
  go_wp2
  go_ret
  exact ⟨zb E.out, rfl⟩
 have q3 := beq_false_of_ne c3
 by_cases c4 : k = 26
 ·subst c4
  have E := zz (show true = b by rw [<- h]; rfl)
  clear h c0 q0 c1 q1 c2 q2 c3 q3
  go_enter Tryz.func49, Tryz.ntmps49
  go_wp2
  go_ret
  exact ⟨zb E.out, rfl⟩
 have q4 := beq_false_of_ne c4
 by_cases c5 : k = 27
 ·subst c5
  have E := zz (show true = b by rw [<- h]; rfl)
  clear h c0 q0 c1 q1 c2 q2 c3 q3 c4 q4
  go_enter Tryz.func49, Tryz.ntmps49
  go_wp2
  go_ret
  exact ⟨zb E.out, rfl⟩
 have q5 := beq_false_of_ne c5
 by_cases c6 : k = 28
 ·subst c6
  have E := zz (show true = b by rw [<- h]; rfl)
  clear h c0 q0 c1 q1 c2 q2 c3 q3 c4 q4 c5 q5
  go_enter Tryz.func49, Tryz.ntmps49
  go_wp2
  go_ret
  exact ⟨zb E.out, rfl⟩
 have q6 := beq_false_of_ne c6
 by_cases c7 : k = 30
 ·subst c7
  have E := zz (show true = b by rw [<- h]; rfl)
  clear h c0 q0 c1 q1 c2 q2 c3 q3 c4 q4 c5 q5 c6 q6
  go_enter Tryz.func49, Tryz.ntmps49
  go_wp2
  go_ret
  exact ⟨zb E.out, rfl⟩
 have q7 := beq_false_of_ne c7
 have E := zz (show false = b by rw [<- h]; unfold mrk; rw [decide_eq_false c0, decide_eq_false c1, decide_eq_false c2, decide_eq_false c3, decide_eq_false c4, decide_eq_false c5, decide_eq_false c6, decide_eq_false c7]; rfl)
 clear h c0 c1 c2 c3 c4 c5 c6 c7
 go_enter Tryz.func49, Tryz.ntmps49
 go_wp2
 go_ret
 exact ⟨zb E.out, rfl⟩
theorem rmarked_is {k : Int} (h : mrk k = b) (w : World) :
 Calls Tryz.prog 38 #[.int .i64 k] w fun e w' => e = .returned (.bool b) /\ w' = w := by
 by_cases c0 : k = 21
 ·subst c0
  have E := zz (show true = b by rw [<- h]; rfl)
  clear h
  go_enter Tryz.func38, Tryz.ntmps38
  go_wp2
  go_ret
  exact ⟨zb E.out, rfl⟩
 have q0 := beq_false_of_ne c0
 by_cases c1 : k = 22
 ·subst c1
  have E := zz (show true = b by rw [<- h]; rfl)
  clear h c0 q0
  go_enter Tryz.func38, Tryz.ntmps38
  go_wp2
  go_ret
  exact ⟨zb E.out, rfl⟩
 have q1 := beq_false_of_ne c1
 by_cases c2 : k = 23
 ·subst c2
  have E := zz (show true = b by rw [<- h]; rfl)
  clear h c0 q0 c1 q1
  go_enter Tryz.func38, Tryz.ntmps38
  go_wp2
  go_ret
  exact ⟨zb E.out, rfl⟩
 have q2 := beq_false_of_ne c2
 by_cases c3 : k = 24
 ·subst c3
  have E := zz (show true = b by rw [<- h]; rfl)
  clear h c0 q0 c1 q1 c2 q2
  go_enter Tryz.func38, Tryz.ntmps38
  go_wp2
  go_ret
  exact ⟨zb E.out, rfl⟩
 have q3 := beq_false_of_ne c3
 by_cases c4 : k = 26
 ·subst c4
  have E := zz (show true = b by rw [<- h]; rfl)
  clear h c0 q0 c1 q1 c2 q2 c3 q3
  go_enter Tryz.func38, Tryz.ntmps38
  go_wp2
  go_ret
  exact ⟨zb E.out, rfl⟩
 have q4 := beq_false_of_ne c4
 by_cases c5 : k = 27
 ·subst c5
  have E := zz (show true = b by rw [<- h]; rfl)
  clear h c0 q0 c1 q1 c2 q2 c3 q3 c4 q4
  go_enter Tryz.func38, Tryz.ntmps38
  go_wp2
  go_ret
  exact ⟨zb E.out, rfl⟩
 have q5 := beq_false_of_ne c5
 by_cases c6 : k = 28
 ·subst c6
  have E := zz (show true = b by rw [<- h]; rfl)
  clear h c0 q0 c1 q1 c2 q2 c3 q3 c4 q4 c5 q5
  go_enter Tryz.func38, Tryz.ntmps38
  go_wp2
  go_ret
  exact ⟨zb E.out, rfl⟩
 have q6 := beq_false_of_ne c6
 by_cases c7 : k = 30
 ·subst c7
  have E := zz (show true = b by rw [<- h]; rfl)
  clear h c0 q0 c1 q1 c2 q2 c3 q3 c4 q4 c5 q5 c6 q6
  go_enter Tryz.func38, Tryz.ntmps38
  go_wp2
  go_ret
  exact ⟨zb E.out, rfl⟩
 have q7 := beq_false_of_ne c7
 have E := zz (show false = b by rw [<- h]; unfold mrk; rw [decide_eq_false c0, decide_eq_false c1, decide_eq_false c2, decide_eq_false c3, decide_eq_false c4, decide_eq_false c5, decide_eq_false c6, decide_eq_false c7]; rfl)
 clear h c0 c1 c2 c3 c4 c5 c6 c7
 go_enter Tryz.func38, Tryz.ntmps38
 go_wp2
 go_ret
 exact ⟨zb E.out, rfl⟩
theorem listof_is {b o : Nat} (hn : 0 < n) (w : World) :
 Calls Tryz.prog 29 #[.slice (some ⟨b, o, none⟩) n c] w fun e w' => e = .returned (.agg #[.pointer (some ⟨b, o, none⟩), .int .i64 (n : Int)]) /\ Below w.heap.size w w' := by
 have hn' : (0 : Int) < (n : Int) := by omega
 go_enter Tryz.func29, Tryz.ntmps29
 go_wp2
 exact bodyPost_ret (v := .agg #[.pointer (some ⟨b, o, none⟩), .int .i64 (n : Int)]) (by simp [results, Tryz.results29, go_sem]) rfl ⟨rfl, (Below.refl _ _).alloc (Nat.le_refl _) _⟩
end
section
open Go.RowKit
variable {n : Nat} {w w' : World}
def Blk (w : World) (C n : Nat) (e : TypeId) : Prop := ∃ cur : Array Value, w.heap[C]? = some (.cells cur e (0, 0)) /\ cur.size = n
theorem Blk.cell {w : World} {C n : Nat} {e : TypeId} (h : Blk w C n e) (i : Nat) (hi : i < n) : ∃ v, w.cell? ⟨C, i, none⟩ = some v := by
 obtain ⟨cur, h1, h2⟩ := h
 refine ⟨cur[i], ?_⟩
 simp only [World.cell?, h1]
 simp [h2, hi]
theorem Blk.froz {C : Nat} {e : TypeId} (h : Blk w C n e) (i : Nat) : w.frozen? ⟨C, i, none⟩ = false := by
 obtain ⟨cur, h1, h2⟩ := h
 simp [World.frozen?, h1]
theorem Blk.lt {C : Nat} {e : TypeId} (h : Blk w C n e) : C < w.heap.size := by
 obtain ⟨cur, h1, h2⟩ := h
 exact (Array.getElem?_eq_some_iff.1 h1).1
theorem Blk.set {C : Nat} {e : TypeId} (h : Blk w C n e) (i : Nat) (v : Value) : Blk (w.setCell ⟨C, i, none⟩ v) C n e := by
 obtain ⟨cur, h1, h2⟩ := h
 refine ⟨cur.setIfInBounds i v, ?_, by simpa using h2⟩
 simp [World.setCell, Array.getElem?_modify, h1]
theorem Blk.own {C base : Nat} {e : TypeId} (h : Blk w C n e) (hb : base <= C) (hn : n <= maxLen) : ∃ xs, w.ownsRow base e 1 (.slice (some ⟨C, 0, none⟩) n n) n xs := by
 obtain ⟨cur, h1, h2⟩ := h
 refine ⟨cur.toList, by simp [h2], Or.inr ⟨C, n, cur, rfl, hb, h1, Nat.le_refl _, hn, by simp [h2], ?_⟩⟩
 rw [Nat.mul_one, <- h2, <- Array.length_toList, List.take_length]
theorem Blk.new (w : World) (cs : Array Value) (e : TypeId) : Blk (w.alloc (.cells cs e)) w.heap.size cs.size e := ⟨cs, (MapKept.heap_alloc w _).1, rfl⟩
theorem Blk.of_below {C : Nat} {e : TypeId} (h : Blk w C n e) (hb : Below w.heap.size w w') : Blk w' C n e := by
 have hl := h.lt
 obtain ⟨cur, h1, h2⟩ := h
 exact ⟨cur, (hb.block C hl).trans h1, h2⟩
def Keep (C : Nat) (w w' : World) : Prop := w.grownBy w' (some C)
theorem Keep.refl (C : Nat) (w : World) : Keep C w w := World.grownBy.refl _ _
theorem Keep.trans {C : Nat} {a b c : World} (h : Keep C a b) (k : Keep C b c) : Keep C a c :=
 ⟨k.os.trans h.os, k.tape.trans h.tape, k.output.trans h.output, Nat.le_trans h.size k.size, fun i hi hne => (k.block i (Nat.lt_of_lt_of_le hi h.size) hne).trans (h.block i hi hne)⟩
theorem Keep.of_below {C : Nat} (h : Below w.heap.size w w') : Keep C w w' := ⟨h.os, h.tape, h.output, h.size, fun i hi _ => h.block i hi⟩
theorem Keep.drewN {C : Nat} {a : World} (h : Keep C a w) (m : Nat) : Keep C a (w.drewN m) := ⟨h.os, h.tape, h.output, h.size, h.block⟩
theorem Keep.set {C : Nat} {a : World} (h : Keep C a w) (i : Nat) (v : Value) : Keep C a (w.setCell ⟨C, i, none⟩ v) :=
 h.trans ⟨rfl, rfl, rfl, by simp [World.setCell], fun k _ hne => Below.heap_setCell _ _ _ _ (fun e => hne (by rw [e]))⟩
theorem Keep.alloc {C : Nat} {a : World} (h : Keep C a w) (o : Obj) : Keep C a (w.alloc o) := h.trans (World.grownBy_alloc _ _ _)
theorem Keep.below {C : Nat} {w0 : World} (h0 : Below w0.heap.size w0 w) (hC : w0.heap.size <= C) (h : Keep C w w') : Below w0.heap.size w0 w' :=
 h0.grown h h0.size (fun k e => by cases e; exact hC)
end
section
open Go.RowKit
variable {N n : Nat} {S : Nat -> Prop} {f : Nd} {m : Md} {v : Value} {w w' : World}
structure KeyAt (w : World) (m : Md) (S : Nat -> Prop) (x : LK) (ts : List Tr) : Prop where
 pos : 0 < ts.length
 len : ts.length = x.n
 blk : S x.b
 pb : PB w x.b
 row : RowAt w m S x.b x.o ts
theorem KeyAt.agree {w w' : World} {m : Md} {S : Nat -> Prop} {x : LK} {ts : List Tr} (ha : Agree S w w') (h : KeyAt w m S x ts) : KeyAt w' m S x ts :=
 ⟨h.pos, h.len, h.blk, h.pb.agree ha h.blk, h.row.agree ha h.blk⟩
theorem KeyAt.one {w : World} {m m' : Md} {S S' : Nat -> Prop} {x : LK} {ts ts' : List Tr} (h : KeyAt w m S x ts) (h' : KeyAt w m' S' x ts') : ts = ts' := RowAt.one (h.len.trans h'.len.symm) h.row h'.row
def Good (w : World) (m : Md) (S : Nat -> Prop) (x : LK × LK) : Prop := ∃ ta tb, KeyAt w m S x.1 ta /\ KeyAt w m S x.2 tb /\ sames ta tb = true
def Wide (w : World) (m : Md) (S : Nat -> Prop) (n : Nat) (x : LK × LK) : Prop := ∃ ta tb, KeyAt w m S x.1 ta /\ KeyAt w m S x.2 tb /\ n < cnts ta
theorem Good.agree {w w' : World} {m : Md} {S : Nat -> Prop} {x : LK × LK} (ha : Agree S w w') (h : Good w m S x) : Good w' m S x := by
 obtain ⟨ta, tb, h1, h2, h3⟩ := h
 exact ⟨ta, tb, h1.agree ha, h2.agree ha, h3⟩
theorem Wide.agree {w w' : World} {m : Md} {S : Nat -> Prop} {n : Nat} {x : LK × LK} (ha : Agree S w w') (h : Wide w m S n x) : Wide w' m S n x := by
 obtain ⟨ta, tb, h1, h2, h3⟩ := h
 exact ⟨ta, tb, h1.agree ha, h2.agree ha, h3⟩
def Tws (w : World) (m : Md) (S : Nat -> Prop) (n : Nat) (l : List ((LK × LK) × Value)) : Prop := ∀ e ∈ l, e.2 = .agg #[] /\ (Good w m S e.1 ∨ Wide w m S n e.1)
theorem Tws.agree {w w' : World} {m : Md} {S : Nat -> Prop} {n : Nat} {l : List ((LK × LK) × Value)} (ha : Agree S w w') (h : Tws w m S n l) : Tws w' m S n l :=
 fun e he => ⟨(h e he).1, (h e he).2.imp (Good.agree ha) (Wide.agree ha)⟩
theorem Tws.ok {l : List ((LK × LK) × Value)} (h : Tws w m S n l) : ∀ e ∈ l, ok2 w e.1 := fun e he => by
 rcases (h e he).2 with ⟨ta, tb, h1, h2, _⟩ | ⟨ta, tb, h1, h2, _⟩ <;> exact ⟨h1.pb, h2.pb⟩
theorem Tws.found {l : List ((LK × LK) × Value)} {x : LK × LK} {ta tb : List Tr} (h : Tws w m S n l) (hg : getE x l = some v) (ha : KeyAt w m S x.1 ta) (hb : KeyAt w m S x.2 tb) (hn : cnts ta <= n) : v = .agg #[] /\ sames ta tb = true := by
 refine ⟨(h _ (getE_some hg)).1, ?_⟩
 rcases (h _ (getE_some hg)).2 with ⟨ta', tb', h1, h2, h3⟩ | ⟨ta', tb', h1, h2, h3⟩
 ·rw [ha.one h1, hb.one h2]; exact h3
 ·rw [ha.one h1] at hn; omega
theorem Tws.put {n' : Nat} {l : List ((LK × LK) × Value)} {x : LK × LK} {ta tb : List Tr} (h : Tws w m S n l) (ha : KeyAt w m S x.1 ta) (hb : KeyAt w m S x.2 tb) (hn : n' <= n) (hc : n' < cnts ta) : Tws w m S n' (putE x (.agg #[]) l) := by
 intro e he
 rcases mem_putE he with rfl | he
 ·exact ⟨rfl, Or.inr ⟨ta, tb, ha, hb, hc⟩⟩
 ·rcases h e he with ⟨h0, h | ⟨ta', tb', h1, h2, h3⟩⟩
  ·exact ⟨h0, Or.inl h⟩
  ·exact ⟨h0, Or.inr ⟨ta', tb', h1, h2, by omega⟩⟩
def More (w : World) (m : Md) (S : Nat -> Prop) (l l' : List ((LK × LK) × Value)) : Prop := ∀ e ∈ l', e.2 = .agg #[] /\ ((∃ v, (e.1, v) ∈ l) ∨ Good w m S e.1)
theorem More.refl {l : List ((LK × LK) × Value)} (h : Tws w m S n l) : More w m S l l := fun e he => ⟨(h e he).1, Or.inl ⟨e.2, he⟩⟩
theorem More.agree {w w' : World} {m : Md} {S : Nat -> Prop} {l l' : List ((LK × LK) × Value)} (ha : Agree S w w') (h : More w m S l l') : More w' m S l l' := fun e he => ⟨(h e he).1, (h e he).2.imp id (Good.agree ha)⟩
theorem More.trans {l l' l'' : List ((LK × LK) × Value)} (h : More w m S l l') (k : More w m S l' l'') : More w m S l l'' := fun e he => by
 refine ⟨(k e he).1, ?_⟩
 rcases (k e he).2 with ⟨v, hv⟩ | hg
 ·exact (h (e.1, v) hv).2
 ·exact Or.inr hg
theorem More.closed {l l' : List ((LK × LK) × Value)} {x : LK × LK} (h : More w m S (putE x v l) l') (hg : Good w m S x) : More w m S l l' := fun e he => by
 refine ⟨(h e he).1, ?_⟩
 rcases (h e he).2 with ⟨u, hu⟩ | hg'
 ·rcases mem_putE hu with h' | h'
  ·rw [(Prod.mk.inj h').1]; exact Or.inr hg
  ·exact Or.inl ⟨u, h'⟩
 ·exact Or.inr hg'
theorem MapIs.below {κ : Type} {key : κ -> Value} {M : Nat} {l : List (κ × Value)} (h : MapIs key w M l) (hb : Below N w w') (hM : M < N) : MapIs key w' M l := by
 obtain ⟨es, clock, h1, h2⟩ := h.is
 exact ⟨es, clock, (hb.block M hM).trans h1, h2⟩
theorem Keep.agree {M : Nat} (h : Keep M w w') (hS : ∀ i, S i -> i < w.heap.size /\ i ≠ M) : Agree S w w' := fun i hi => h.block i (hS i hi).1 (fun e => by cases e; exact (hS _ hi).2 rfl)
theorem Cs.keep {M b o : Nat} (h : Cs w b o f v) (hk : Keep M w w') (hb : b < w.heap.size) (hne : b ≠ M) : Cs w' b o f v := h.agree (S := fun i => i = b) (hk.agree fun i e => by subst e; exact ⟨hb, hne⟩) rfl
theorem below_undrew {M : Nat} (h : Below M w.drew w') : Below M w w' := ⟨h.os, h.tape, h.output, h.size, h.block⟩
theorem zeroUnit (w : World) : (zeroValue 55).run Tryz.prog w = .ok (.agg #[]) w := by kernel_rfl
end
section
open Go.RowKit
variable {S : Nat -> Prop} {m : Md} {n : Nat} {ts : List Tr} {v : Value} {w : World}
mutual
theorem dep_le_cnt : ∀ (t : Tr), dep t <= cnt t
 | .mk f ks => by
  have := deps_le_cnts ks
  unfold dep cnt
  omega
theorem deps_le_cnts : ∀ (l : List Tr), deps l <= cnts l
 | [] => Nat.le_refl _
 | t :: r => by
  have h1 := dep_le_cnt t
  have h2 := deps_le_cnts r
  unfold deps cnts
  omega
end
theorem dep_eq (t : Tr) : dep t = 1 + deps t.ks := by cases t; rfl
theorem deps_mem : ∀ {l : List Tr} {t : Tr}, t ∈ l -> dep t <= deps l
 | a :: r, t, h => by
  unfold deps
  rcases List.mem_cons.1 h with rfl | h
  ·omega
  ·have := deps_mem h; omega
theorem deps_append : ∀ (l m : List Tr), deps (l ++ m) = max (deps l) (deps m)
 | [], m => by simp [deps]
 | a :: r, m => by
  show max (dep a) (deps (r ++ m)) = max (max (dep a) (deps r)) (deps m)
  rw [deps_append r m]
  omega
theorem deps_succ {l : List Tr} {k : Nat} (h : k < l.length) : deps (l.take (k + 1)) = max (deps (l.take k)) (deps l[k].ks + 1) := by
 rw [List.take_succ_eq_append_getElem h, deps_append]
 congr 1
 show max (dep l[k]) (deps []) = _
 rw [dep_eq]
 show max _ 0 = _
 omega
theorem deps_take_le (l : List Tr) (k : Nat) : deps (l.take k) <= deps l := by
 have := deps_append (l.take k) (l.drop k)
 rw [List.take_append_drop] at this
 omega
section
variable {κ : Type} [DecidableEq κ]
theorem putE_mem {x : κ} {v : Value} : ∀ {l : List (κ × Value)}, (l.map (·.1)).Nodup -> ∀ {e : κ × Value}, e ∈ putE x v l -> e = (x, v) ∨ (e ∈ l /\ e.1 ≠ x)
 | [], _, e, h => Or.inl (by simpa [putE] using h)
 | a :: r, nd, e, h => by
  unfold putE at h
  rw [List.map_cons, List.nodup_cons] at nd
  split at h
  ·rename_i hx
   rcases List.mem_cons.1 h with rfl | h
   ·exact Or.inl rfl
   ·exact Or.inr ⟨List.mem_cons_of_mem _ h, fun e1 => nd.1 (by rw [<- hx, <- e1]; exact List.mem_map_of_mem h)⟩
  ·rename_i hx
   rcases List.mem_cons.1 h with rfl | h
   ·exact Or.inr ⟨List.mem_cons_self, fun e1 => hx e1.symm⟩
   ·rcases putE_mem nd.2 h with h | ⟨h1, h2⟩
    ·exact Or.inl h
    ·exact Or.inr ⟨List.mem_cons_of_mem _ h1, h2⟩
theorem putE_nd {x : κ} {v : Value} : ∀ {l : List (κ × Value)}, (l.map (·.1)).Nodup -> ((putE x v l).map (·.1)).Nodup
 | [], _ => by simp [putE]
 | a :: r, nd => by
  rw [List.map_cons, List.nodup_cons] at nd
  unfold putE
  split
  ·rename_i hx
   rw [List.map_cons, List.nodup_cons]
   exact ⟨by show x ∉ _; rw [hx]; exact nd.1, nd.2⟩
  ·rename_i hx
   rw [List.map_cons, List.nodup_cons]
   refine ⟨fun h => ?_, putE_nd nd.2⟩
   obtain ⟨e, he, e1⟩ := List.mem_map.1 h
   rcases putE_mem nd.2 he with rfl | ⟨h1, _⟩
   ·exact hx e1
   ·exact nd.1 (by rw [<- e1]; exact List.mem_map_of_mem h1)
end
def GoodN (f : List Tr -> Int) (w : World) (m : Md) (S : Nat -> Prop) (e : LK × Value) : Prop := ∃ ts, KeyAt w m S e.1 ts /\ e.2 = .int .i64 (f ts)
def WideN (w : World) (m : Md) (S : Nat -> Prop) (n : Nat) (e : LK × Value) : Prop := ∃ ts, KeyAt w m S e.1 ts /\ n < cnts ts
theorem GoodN.agree {f : List Tr -> Int} {w w' : World} {m : Md} {S : Nat -> Prop} {e : LK × Value} (ha : Agree S w w') (h : GoodN f w m S e) : GoodN f w' m S e := by
 obtain ⟨ts, h1, h2⟩ := h
 exact ⟨ts, h1.agree ha, h2⟩
theorem WideN.agree {w w' : World} {m : Md} {S : Nat -> Prop} {n : Nat} {e : LK × Value} (ha : Agree S w w') (h : WideN w m S n e) : WideN w' m S n e := by
 obtain ⟨ts, h1, h2⟩ := h
 exact ⟨ts, h1.agree ha, h2⟩
structure Kept (f : List Tr -> Int) (w : World) (m : Md) (S : Nat -> Prop) (n : Nat) (l : List (LK × Value)) : Prop where
 nd : (l.map (·.1)).Nodup
 all : ∀ e ∈ l, GoodN f w m S e ∨ WideN w m S n e
theorem Kept.none {f : List Tr -> Int} : Kept f w m S n [] := ⟨List.nodup_nil, fun _ h => by cases h⟩
theorem Kept.agree {f : List Tr -> Int} {w w' : World} {m : Md} {S : Nat -> Prop} {n : Nat} {l : List (LK × Value)} (ha : Agree S w w') (h : Kept f w m S n l) : Kept f w' m S n l :=
 ⟨h.nd, fun e he => (h.all e he).imp (GoodN.agree ha) (WideN.agree ha)⟩
theorem Kept.ok {f : List Tr -> Int} {l : List (LK × Value)} (h : Kept f w m S n l) : ∀ e ∈ l, ok1 w e.1 := fun e he => by
 rcases h.all e he with ⟨ts, h1, _⟩ | ⟨ts, h1, _⟩ <;> exact h1.pb
theorem Kept.found {f : List Tr -> Int} {l : List (LK × Value)} {x : LK} (h : Kept f w m S n l) (hg : getE x l = some v) (ha : KeyAt w m S x ts) (hn : cnts ts <= n) : v = .int .i64 (f ts) := by
 rcases h.all _ (getE_some hg) with ⟨ts', h1, h2⟩ | ⟨ts', h1, h2⟩
 ·rw [ha.one h1]; exact h2
 ·rw [ha.one h1] at hn; omega
theorem Kept.put {f : List Tr -> Int} {n' : Nat} {l : List (LK × Value)} {x : LK} (h : Kept f w m S n l) (ha : KeyAt w m S x ts) (hn : n' <= n) (hc : n' < cnts ts) : Kept f w m S n' (putE x v l) := by
 refine ⟨putE_nd h.nd, fun e he => ?_⟩
 rcases mem_putE he with rfl | he
 ·exact Or.inr ⟨ts, ha, hc⟩
 ·rcases h.all e he with h | ⟨ts', h1, h2⟩
  ·exact Or.inl h
  ·exact Or.inr ⟨ts', h1, by omega⟩
structure MoreN (f : List Tr -> Int) (w : World) (m : Md) (S : Nat -> Prop) (l l' : List (LK × Value)) : Prop where
 nd : (l'.map (·.1)).Nodup
 all : ∀ e ∈ l', e ∈ l ∨ GoodN f w m S e
theorem MoreN.refl {f : List Tr -> Int} {l : List (LK × Value)} (h : Kept f w m S n l) : MoreN f w m S l l := ⟨h.nd, fun _ he => Or.inl he⟩
theorem MoreN.agree {f : List Tr -> Int} {w w' : World} {m : Md} {S : Nat -> Prop} {l l' : List (LK × Value)} (ha : Agree S w w') (h : MoreN f w m S l l') : MoreN f w' m S l l' := ⟨h.nd, fun e he => (h.all e he).imp id (GoodN.agree ha)⟩
theorem MoreN.trans {f : List Tr -> Int} {l l' l'' : List (LK × Value)} (h : MoreN f w m S l l') (k : MoreN f w m S l' l'') : MoreN f w m S l l'' := ⟨k.nd, fun e he => by
 rcases k.all e he with h1 | h1
 ·exact h.all e h1
 ·exact Or.inr h1⟩
theorem MoreN.kept {f : List Tr -> Int} {l l' : List (LK × Value)} (h : MoreN f w m S l l') (k : Kept f w m S n l) : Kept f w m S n l' := ⟨h.nd, fun e he => by
 rcases h.all e he with h1 | h1
 ·exact k.all e h1
 ·exact Or.inl h1⟩
theorem MoreN.closed {f : List Tr -> Int} {l l' : List (LK × Value)} {x : LK} (h : MoreN f w m S (putE x v l) l') (ha : KeyAt w m S x ts) : MoreN f w m S l (putE x (.int .i64 (f ts)) l') :=
 ⟨putE_nd h.nd, fun e he => by
  rcases putE_mem h.nd he with rfl | ⟨h1, h2⟩
  ·exact Or.inr ⟨ts, ha, rfl⟩
  ·rcases h.all e h1 with h3 | h3
   ·rcases mem_putE h3 with rfl | h4
    ·exact absurd rfl h2
    ·exact Or.inl h4
   ·exact Or.inr h3⟩
theorem zeroInt (w : World) : (zeroValue 3).run Tryz.prog w = .ok (.int .i64 0) w := by kernel_rfl
end
end Go.Proofs.YtmdhjiammcpogaaGreatDoor
