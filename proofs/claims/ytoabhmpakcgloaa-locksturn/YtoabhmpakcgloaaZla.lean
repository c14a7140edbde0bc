/- Layer 16: who is woken, answers, and mutexes and wait groups in memory. Layer 16: none, at, kinds. Layer 16: why nothing is done, the rows of who waits, what the two kinds answer. Layer 16: what the two kinds answer. Layer 16: Lock and Wait: who asks. -/
import Derived.Test.YtoabhmpakcgloaaHzc
import Derived.Test.YtoabhmpakcgloaaHu
import Derived.Test.YtoabhmpakcgloaaTk
namespace Go.Proofs.Ytoabhmpakcgloaa
open Go.RowKit

structure Va where
  n : Int
  s : Int
  g : Int
def zVa : Va := ⟨0, 0, 0⟩
abbrev vaV (x : Va) : Value := .agg #[.int .i64 x.n, .int .u32 x.s, .int .u32 x.g]
theorem flat_len {α : Type} (f : α → List Value) (K : Nat) (hK : ∀ x, (f x).length = K) (l : List α) : (l.flatMap f).length = l.length * K := by
  induction l with
  | nil => simp
  | cons x l ih => rw [List.flatMap_cons, List.length_append, ih, hK, List.length_cons, Nat.add_mul]; omega
abbrev Hnd := Int × Int
abbrev hkV (x : Hnd) : Value := hvW x.1 x.2
set_option maxRecDepth 100000 in
theorem ktH (w : World) : KT 35 hkV w :=
  ⟨fun x y _ _ => by
    refine (eq_hand w 9998 x.1 x.2 y.1 y.2).trans ?_
    congr 1
    rw [Bool.eq_iff_iff]
    obtain ⟨a, b⟩ := x
    obtain ⟨a', b'⟩ := y
    simp, fun em x => by unfold hkV; kernel_rfl, fun x es => run_findKey_eq w (by kernel_rfl) _ _, fun x => by simp [Instr.sameBits]⟩
def nnH (x : Hnd) : Bool := decide (x.1 = 0) && decide (x.2 = 0)
abbrev didV (fate : Int) (v : Va) (ok : Bool) (wk : Value) : Value := .agg #[.int .i64 fate, .int .i64 v.n, .int .u32 v.s, .int .u32 v.g, .bool ok, wk]
theorem did_set {w : World} {A : Nat} {a0 a1 a2 a3 a4 a5 : Value} (hn : w.heap[A]? = some (.cells #[a0, a1, a2, a3, a4, a5] 46 (0, 0))) (v0 v1 v2 v3 v4 v5 : Value) : ((((((w.setCell ⟨A, 0, none⟩ v0).setCell ⟨A, 1, none⟩ v1).setCell ⟨A, 2, none⟩ v2).setCell ⟨A, 3, none⟩ v3).setCell ⟨A, 4, none⟩ v4).setCell ⟨A, 5, none⟩ v5).heap[A]? = some (.cells #[v0, v1, v2, v3, v4, v5] 46 (0, 0)) ∧ Ch (fun y => y = A) w ((((((w.setCell ⟨A, 0, none⟩ v0).setCell ⟨A, 1, none⟩ v1).setCell ⟨A, 2, none⟩ v2).setCell ⟨A, 3, none⟩ v3).setCell ⟨A, 4, none⟩ v4).setCell ⟨A, 5, none⟩ v5) :=
  ⟨by rw [heap_set (heap_set (heap_set (heap_set (heap_set (heap_set hn 0 _) 1 _) 2 _) 3 _) 4 _) 5 _]; rfl, (((((Ch.set (Q := fun y => y = A) w rfl 0 _).trans (Ch.set (Q := fun y => y = A) _ rfl 1 _) (fun _ _ h => h)).trans (Ch.set (Q := fun y => y = A) _ rfl 2 _) (fun _ _ h => h)).trans (Ch.set (Q := fun y => y = A) _ rfl 3 _) (fun _ _ h => h)).trans (Ch.set (Q := fun y => y = A) _ rfl 4 _) (fun _ _ h => h)).trans (Ch.set (Q := fun y => y = A) _ rfl 5 _) (fun _ _ h => h)⟩
abbrev gotV (a : Int) (v : Va) (ok : Bool) (f : Int) : Value := .agg #[.int .i64 a, .int .i64 v.n, .int .u32 v.s, .int .u32 v.g, .bool ok, .int .i64 f]
def wkF (s g a : Int) (v : Va) (ok : Bool) (f : Int) : List Value := [.int .u32 s, .int .u32 g, .int .i64 a, .int .i64 v.n, .int .u32 v.s, .int .u32 v.g, .bool ok, .int .i64 f]
abbrev wkV (s g a : Int) (v : Va) (ok : Bool) (f : Int) : Value := .agg #[.int .u32 s, .int .u32 g, .int .i64 a, .int .i64 v.n, .int .u32 v.s, .int .u32 v.g, .bool ok, .int .i64 f]
theorem PTb.nbk {w : World} {B : Nat} {F : Nat → Prop} {p b : Nat} {l : List Wt} {cs : Array Value} {T : TypeId} (h : PTb w B F p l) (hb : w.heap[b]? = some (.cells cs T (0, 0))) (h1 : 78 ≠ T) (h2 : 124 ≠ T) : ¬ F b := by
  obtain ⟨wv, M, C, sl, full, en, cl, n, hk, hi, rfl, hs⟩ := h
  obtain ⟨_, hm⟩ := hk.mp
  rintro (e | e | e | e)
  · subst e
    rw [hk.box] at hb
    injection hb with hb
    injection hb with _ hb _
    exact h1 hb
  · exact hm.ne_cells hb e
  · exact hk.cm.ne_cells hb e
  · exact own_box hk.row hb h2 e
structure Wk where
  s : Int
  g : Int
  a : Int
  v : Va
  ok : Bool
  f : Int
def wkL (k : Wk) : List Value := wkF k.s k.g k.a k.v k.ok k.f
theorem wkL_len (k : Wk) : (wkL k).length = 8 := rfl
theorem wkL_one (k : Wk) : ∀ v ∈ wkL k, v.oneCell' = true := by
  intro u hu
  simp only [wkL, wkF, List.mem_cons, List.not_mem_nil, or_false] at hu
  rcases hu with rfl | rfl | rfl | rfl | rfl | rfl | rfl | rfl <;> rfl
abbrev WkRow (w : World) (B : Nat) (v : Value) (l : List Wk) : Prop := Row wkL 8 53 w B v l
structure Dd where
  f : Int
  v : Va
  ok : Bool
  wk : List Wk
abbrev ddV (d : Dd) (sv : Value) : Value := didV d.f d.v d.ok sv
theorem wk_one {w : World} {B nb : Nat} {k : Wk} (hB : B ≤ nb) (h : w.heap[nb]? = some (.cells (wkL k).toArray 53 (0, 0))) : WkRow w B (.slice (some ⟨nb, 0, none⟩) 1 1) [k] :=
  ⟨rfl, .inr ⟨nb, 1, (wkL k).toArray, rfl, hB, h, Nat.le_refl _, by unfold maxLen; decide, rfl, by simp [wkL, wkF]⟩⟩
structure RcOk (r : Rc) : Prop where
  w1 : UsW r.ws
  w2 : UsW r.wg
  ar : I64 r.ar
  v0 : I64 r.vn
  v1 : UsW r.vs
  v2 : UsW r.vg
def WtOk (l : List Wt) : Prop := ∀ t ∈ l, RcOk t.r
theorem WtOk.sel {l : List Wt} (h : WtOk l) (q : Wt → Bool) {r : Rc} (hr : r ∈ sel q l) : RcOk r := by
  unfold Go.Proofs.Ytoabhmpakcgloaa.sel at hr
  obtain ⟨t, ht, rfl⟩ := List.mem_map.1 hr
  exact h t (List.mem_filter.1 ht).1
theorem over_r (t : Wt) : (over t).r = t.r := rfl
theorem WtOk.lea {l : List Wt} (h : WtOk l) (s g : Int) : WtOk (leaW l s g) := by
  intro t ht
  unfold leaW at ht
  obtain ⟨u, hu, rfl⟩ := List.mem_map.1 ht
  split
  · rw [over_r]; exact h u hu
  · exact h u hu
theorem WtOk.put {l : List Wt} (h : WtOk l) {rs rg rd ws wg ar vn vs vg : Int} (h1 : UsW ws) (h2 : UsW wg) (h3 : I64 ar) (h4 : I64 vn) (h5 : UsW vs) (h6 : UsW vg) : WtOk (putW l rs rg rd ws wg ar vn vs vg) := by
  unfold putW
  split
  · intro t ht
    rcases List.mem_append.1 ht with ht | ht
    · exact h t ht
    · rw [List.mem_singleton.1 ht]; exact ⟨h1, h2, h3, h4, h5, h6⟩
  · exact h
theorem set_all {b : Nat} {T : TypeId} : ∀ (vs pre old : List Value) (w : World), old.length = vs.length → w.heap[b]? = some (.cells (pre ++ old).toArray T (0, 0)) → (w.setCells b pre.length vs).heap[b]? = some (.cells (pre ++ vs).toArray T (0, 0))
  | [], pre, [], w, _, h => h
  | [], _, _ :: _, _, hl, _ => by simp at hl
  | _ :: _, _, [], _, hl, _ => by simp at hl
  | v :: vs, pre, x :: old, w, hl, h => by
    have h1 := heap_set h pre.length v
    have e : ((pre ++ x :: old).toArray.setIfInBounds pre.length v) = ((pre ++ [v]) ++ old).toArray := by
      rw [List.setIfInBounds_toArray, List.set_append_right _ _ (Nat.le_refl _)]
      simp
    rw [e] at h1
    have h2 := set_all vs (pre ++ [v]) old _ (by simpa using hl) h1
    rw [List.length_append, List.append_assoc] at h2
    exact h2
theorem set11 {w : World} {b : Nat} (h : w.heap[b]? = some (.cells #[.int .u32 0, .int .u32 0, .int .u32 0, .int .u32 0, .int .u32 0, .int .u32 0, .int .i64 0, .int .i64 0, .int .i64 0, .int .u32 0, .int .u32 0] 114 (0, 0))) (r : Rc) : (w.setCells b 0 (rcF r)).heap[b]? = some (.cells #[.int .u32 r.ms, .int .u32 r.mg, .int .u32 r.ws, .int .u32 r.wg, .int .u32 r.rs, .int .u32 r.rg, .int .i64 r.rd, .int .i64 r.ar, .int .i64 r.vn, .int .u32 r.vs, .int .u32 r.vg] 114 (0, 0)) := set_all (rcF r) [] [.int .u32 0, .int .u32 0, .int .u32 0, .int .u32 0, .int .u32 0, .int .u32 0, .int .i64 0, .int .i64 0, .int .i64 0, .int .u32 0, .int .u32 0] w rfl h
theorem there11 {w : World} {b : Nat} (h : w.heap[b]? = some (.cells #[.int .u32 0, .int .u32 0, .int .u32 0, .int .u32 0, .int .u32 0, .int .u32 0, .int .i64 0, .int .i64 0, .int .i64 0, .int .u32 0, .int .u32 0] 114 (0, 0))) : w.there b 0 11 := fun j hj => by
  have k := Lib.cell_of_heap h (0 + j)
  refine ⟨?_, frz h _⟩
  rw [k]
  match j, hj with
  | 0, _ => rfl
  | 1, _ => rfl
  | 2, _ => rfl
  | 3, _ => rfl
  | 4, _ => rfl
  | 5, _ => rfl
  | 6, _ => rfl
  | 7, _ => rfl
  | 8, _ => rfl
  | 9, _ => rfl
  | 10, _ => rfl
theorem step_store11 {ops : Array Oper} {o : Oper} {a : Act} {w : World} {b : Nat} {r : Rc} {K : Act → World → Prop} {Q : Exit → Act → World → Prop} {Z : Prop} (hg : o.guard = none) (x y : Operand) (hop : o.op = .store 114 x y) (hx : a.eval x = .pointer (some ⟨b, 0, none⟩)) (hy : a.eval y = rcV r)
    (hb : w.heap[b]? = some (.cells #[.int .u32 0, .int .u32 0, .int .u32 0, .int .u32 0, .int .u32 0, .int .u32 0, .int .i64 0, .int .i64 0, .int .i64 0, .int .u32 0, .int .u32 0] 114 (0, 0))) (hK : K (a.put o.dst undef) (w.setCells b 0 (rcF r))) : if Region.wanted o (yielded ops a.tmps) = true then Oper.wp Try.prog o a w K Q else Z := by
  have hw : Region.wanted o (yielded ops a.tmps) = true := by simp [Region.wanted, hg]
  rw [if_pos hw]
  exact wp_store_mid 114 x y hop b 0 #[.int .u32 r.ms, .int .u32 r.mg, .int .u32 r.ws, .int .u32 r.wg, .int .u32 r.rs, .int .u32 r.rg, .int .i64 r.rd, .int .i64 r.ar, .int .i64 r.vn, .int .u32 r.vs, .int .u32 r.vg] hx hy (there11 hb) (by kernel_rfl) (lay_one r) hK
theorem Ch.setCells {Q : Nat → Prop} {C : Nat} (hC : Q C) : ∀ (vs : List Value) (o : Nat) (w : World), Ch Q w (w.setCells C o vs)
  | [], _, _ => Ch.refl _ _
  | v :: vs, o, w => (Ch.set w hC o v).trans (Ch.setCells hC vs (o + 1) _) (fun _ _ h => h)
inductive WA (q : Wt → Bool) (v : Va) (ok : Bool) (f : Int) : List Wt → List Wk → List Wt → Prop
  | nil {l : List Wt} : sel q l = [] → WA q v ok f l [] l
  | cons {l : List Wt} {r : Rc} {rest : List Rc} {ws : List Wk} {l' : List Wt} : sel q l = r :: rest → WA q v ok f (leaW l r.ws r.wg) ws l' → WA q v ok f l (⟨r.ws, r.wg, r.ar, v, ok, f⟩ :: ws) l'
theorem WA.unique {q : Wt → Bool} {v : Va} {ok : Bool} {f : Int} {l : List Wt} {ws : List Wk} {l' : List Wt} (h : WA q v ok f l ws l') : ∀ {ws2 : List Wk} {l2 : List Wt}, WA q v ok f l ws2 l2 → ws2 = ws ∧ l2 = l' := by
  induction h with
  | nil h =>
    intro ws2 l2 h2
    cases h2 with
    | nil _ => exact ⟨rfl, rfl⟩
    | cons h3 _ => rw [h] at h3; cases h3
  | cons h _ ih =>
    intro ws2 l2 h2
    cases h2 with
    | nil h3 => rw [h] at h3; cases h3
    | cons h3 h4 =>
      rw [h] at h3
      injection h3 with e1 e2
      subst e1
      obtain ⟨e3, e4⟩ := ih h4
      exact ⟨by rw [e3], e4⟩
theorem WA.left {q : Wt → Bool} {v : Va} {ok : Bool} {f : Int} {l : List Wt} {ws : List Wk} {l' : List Wt} (h : WA q v ok f l ws l') : sel q l' = [] ∧ l'.length = l.length ∧ (WtOk l → WtOk l') := by
  induction h with
  | nil h => exact ⟨h, rfl, id⟩
  | cons _ _ ih => exact ⟨ih.1, by rw [ih.2.1, leaW_len], fun h => ih.2.2 (h.lea _ _)⟩
theorem filter_map_over {l : List Wt} {q : Wt → Bool} (ho : ∀ t, q (over t) = false) (p : Wt → Bool) : ((l.map fun t => if p t then over t else t).filter q).length = (l.filter fun t => q t && !p t).length := by
  induction l with
  | nil => rfl
  | cons t l ih =>
    rw [List.map_cons, List.filter_cons, List.filter_cons]
    by_cases hp : p t = true
    · rw [if_pos hp, ho, hp]
      simpa using ih
    · have hp : p t = false := by simpa using hp
      rw [hp]
      simp only [Bool.false_eq_true, if_false, Bool.not_false, Bool.and_true]
      split
      · rw [List.length_cons, List.length_cons, ih]
      · rw [ih]
theorem sel_lea_lt {l : List Wt} {s g d : Int} {r : Rc} {rest : List Rc} (h : sel (inRow s g d) l = r :: rest) : (sel (inRow s g d) (leaW l r.ws r.wg)).length < (sel (inRow s g d) l).length := by
  unfold sel leaW
  rw [List.length_map, List.length_map, filter_map_over (fun t => by simp [inRow, over])]
  have hm : r ∈ sel (inRow s g d) l := by rw [h]; exact List.mem_cons_self ..
  unfold sel at hm
  obtain ⟨t, ht, rfl⟩ := List.mem_map.1 hm
  obtain ⟨ht, hq⟩ := List.mem_filter.1 ht
  have hw : isWho t.r.ws t.r.wg t = true := by
    have : t.o = false := by
      unfold inRow at hq
      simp only [Bool.and_eq_true, Bool.not_eq_true'] at hq
      exact hq.1
    simp [isWho, this]
  rw [show (l.filter fun u => inRow s g d u && !isWho t.r.ws t.r.wg u) = (l.filter (inRow s g d)).filter (fun u => !isWho t.r.ws t.r.wg u) by rw [List.filter_filter]; apply List.filter_congr; intro u _; rw [Bool.and_comm]]
  exact List.length_filter_lt_length_iff_exists.2 ⟨t, List.mem_filter.2 ⟨ht, hq⟩, by simp [hw]⟩
theorem nfWk : (Try.prog.info? 53).map (fun i => (i.zero, i.size, i.bytes)) = some (some (wkV 0 0 0 zVa false 0), 8, 48) := by kernel_rfl
theorem rc_set {w : World} {A : Nat} {x : Rc} (hn : w.heap[A]? = some (.cells #[.int .u32 x.ms, .int .u32 x.mg, .int .u32 x.ws, .int .u32 x.wg, .int .u32 x.rs, .int .u32 x.rg, .int .i64 x.rd, .int .i64 x.ar, .int .i64 x.vn, .int .u32 x.vs, .int .u32 x.vg] 114 (0, 0))) (r : Rc) : ((((((((((((w.setCell ⟨A, 0, none⟩ (.int .u32 r.ms)).setCell ⟨A, 1, none⟩ (.int .u32 r.mg)).setCell ⟨A, 2, none⟩ (.int .u32 r.ws)).setCell ⟨A, 3, none⟩ (.int .u32 r.wg)).setCell ⟨A, 4, none⟩ (.int .u32 r.rs)).setCell ⟨A, 5, none⟩ (.int .u32 r.rg)).setCell ⟨A, 6, none⟩ (.int .i64 r.rd)).setCell ⟨A, 7, none⟩ (.int .i64 r.ar)).setCell ⟨A, 8, none⟩ (.int .i64 r.vn)).setCell ⟨A, 9, none⟩ (.int .u32 r.vs)).setCell ⟨A, 10, none⟩ (.int .u32 r.vg))).heap[A]? = some (.cells #[.int .u32 r.ms, .int .u32 r.mg, .int .u32 r.ws, .int .u32 r.wg, .int .u32 r.rs, .int .u32 r.rg, .int .i64 r.rd, .int .i64 r.ar, .int .i64 r.vn, .int .u32 r.vs, .int .u32 r.vg] 114 (0, 0)) ∧ Ch (fun y => y = A) w (((((((((((w.setCell ⟨A, 0, none⟩ (.int .u32 r.ms)).setCell ⟨A, 1, none⟩ (.int .u32 r.mg)).setCell ⟨A, 2, none⟩ (.int .u32 r.ws)).setCell ⟨A, 3, none⟩ (.int .u32 r.wg)).setCell ⟨A, 4, none⟩ (.int .u32 r.rs)).setCell ⟨A, 5, none⟩ (.int .u32 r.rg)).setCell ⟨A, 6, none⟩ (.int .i64 r.rd)).setCell ⟨A, 7, none⟩ (.int .i64 r.ar)).setCell ⟨A, 8, none⟩ (.int .i64 r.vn)).setCell ⟨A, 9, none⟩ (.int .u32 r.vs)).setCell ⟨A, 10, none⟩ (.int .u32 r.vg)) :=
  ⟨set_all [.int .u32 r.ms, .int .u32 r.mg, .int .u32 r.ws, .int .u32 r.wg, .int .u32 r.rs, .int .u32 r.rg, .int .i64 r.rd, .int .i64 r.ar, .int .i64 r.vn, .int .u32 r.vs, .int .u32 r.vg] [] [.int .u32 x.ms, .int .u32 x.mg, .int .u32 x.ws, .int .u32 x.wg, .int .u32 x.rs, .int .u32 x.rg, .int .i64 x.rd, .int .i64 x.ar, .int .i64 x.vn, .int .u32 x.vs, .int .u32 x.vg] w rfl hn, wrsA w A [.int .u32 r.ms, .int .u32 r.mg, .int .u32 r.ws, .int .u32 r.wg, .int .u32 r.rs, .int .u32 r.rg, .int .i64 r.rd, .int .i64 r.ar, .int .i64 r.vn, .int .u32 r.vs, .int .u32 r.vg]⟩
theorem WA_len {s g d : Int} {v : Va} {ok : Bool} {f : Int} {l : List Wt} {ws : List Wk} {l' : List Wt} (h : WA (inRow s g d) v ok f l ws l') : ws.length ≤ (sel (inRow s g d) l).length := by
  induction h with
  | nil _ => simp
  | cons h1 _ ih =>
    have := sel_lea_lt h1
    rw [List.length_cons]
    omega

/-- a mutex or a wait group, as it is told: its handle, is it a mutex, who holds it, its counter -/
structure Lk where
  h : Hnd
  mu : Bool
  o : Hnd
  n : Int
/-- and its block -/
structure Th where
  h : Hnd
  b : Nat
  mu : Bool
  o : Hnd
  n : Int
def Th.ab (t : Th) : Lk := ⟨t.h, t.mu, t.o, t.n⟩
def thV (t : Th) : Value := .iface (if t.mu then 90 else 101) (.pointer (some ⟨t.b, 0, none⟩))
def thC (t : Th) : Array Value := if t.mu then #[.int .u32 t.o.1, .int .u32 t.o.2] else #[.int .i64 t.n]
def thT (t : Th) : TypeId := if t.mu then 94 else 106
def ThAt (w : World) (t : Th) : Prop := w.heap[t.b]? = some (.cells (thC t) (thT t) (0, 0))
def fnt (ts : List Th) (h : Hnd) : Option Th := ts.find? fun c => decide (c.h = h)
theorem fnt_some {ts : List Th} {h : Hnd} {c : Th} (e : fnt ts h = some c) : c ∈ ts ∧ c.h = h := ⟨List.mem_of_find?_eq_some e, by have := List.find?_some e; simpa using this⟩
theorem fnt_at {ts : List Th} {h : Hnd} {y : Th} (e : fnt ts h = some y) : ∃ i, ∃ hi : i < ts.length, ts[i] = y ∧ y.h = h := by
  obtain ⟨h1, h2⟩ := fnt_some e
  obtain ⟨i, hi, e⟩ := List.getElem_of_mem h1
  exact ⟨i, hi, e, h2⟩
def fnl (ls : List Lk) (h : Hnd) : Option Lk := ls.find? fun c => decide (c.h = h)
theorem fnl_some {ls : List Lk} {h : Hnd} {c : Lk} (e : fnl ls h = some c) : c ∈ ls ∧ c.h = h := ⟨List.mem_of_find?_eq_some e, by have := List.find?_some e; simpa using this⟩
theorem fnl_ab (ts : List Th) (h : Hnd) : fnl (ts.map Th.ab) h = (fnt ts h).map Th.ab := by
  unfold fnl fnt
  rw [List.find?_map]
  rfl
def setl (ls : List Lk) (x : Lk) : List Lk := ls.map fun y => if y.h = x.h then x else y
theorem set_abt {cs : List Th} (hp : cs.Pairwise fun a b => a.h ≠ b.h) {i : Nat} (hi : i < cs.length) {x : Th} (e : x.h = cs[i].h) : (cs.set i x).map Th.ab = setl (cs.map Th.ab) x.ab := by
  apply List.ext_getElem
  · simp [setl]
  · intro j h1 h2
    have hjl : j < cs.length := by simpa using h1
    simp only [setl, List.getElem_map, List.getElem_set]
    by_cases hj : i = j
    · subst hj
      rw [if_pos rfl, if_pos (show cs[i].ab.h = x.ab.h from e.symm)]
    · rw [if_neg hj]
      have hne : cs[j].h ≠ cs[i].h := by
        rcases Nat.lt_or_gt_of_ne hj with hlt | hlt
        · exact fun e => List.pairwise_iff_getElem.1 hp i j hi hjl hlt e.symm
        · exact List.pairwise_iff_getElem.1 hp j i hjl hi hlt
      rw [if_neg (show ¬ cs[j].ab.h = x.ab.h from fun e2 => hne (e2.trans e))]
theorem setl_find (ks : List Lk) (x : Lk) (h : Hnd) : fnl (setl ks x) h = (fnl ks h).map fun y => if y.h = x.h then x else y := by
  unfold fnl setl
  rw [List.find?_map]
  congr 1
  apply congrArg (fun p => List.find? p ks)
  funext y
  simp only [Function.comp]
  split
  · rename_i e; rw [e]
  · rfl
theorem setl_len (ks : List Lk) (x : Lk) : (setl ks x).length = ks.length := by simp [setl]

/-- they lie in block c, their map in block M; the book in the blocks of F -/
structure LI (w : World) (B c bp M : Nat) (F : Nat → Prop) (l : List Wt) (ts : List Th) : Prop where
  box : w.heap[c]? = some (.cells #[.pointer (some ⟨bp, 0, none⟩), .map (some M)] 81 (0, 0))
  mp : MapF hkV w M (fun h => (fnt ts h).map thV) ts.length
  bk : PTb w B F bp l
  th : ∀ x ∈ ts, ThAt w x
  ap : ts.Pairwise fun a b => a.b ≠ b.b
  nd : ts.Pairwise fun a b => a.h ≠ b.h
  far : ∀ y, F y → y ≠ c ∧ y ≠ M ∧ ∀ x ∈ ts, y ≠ x.b
  lo : B ≤ c ∧ B ≤ M ∧ ∀ x ∈ ts, B ≤ x.b
  low : B ≤ w.heap.size

section
variable {w w' : World} {B c bp M : Nat} {F F' : Nat → Prop} {l l' : List Wt} {ts : List Th}
theorem ThAt.lt {t : Th} (h : ThAt w t) : t.b < w.heap.size := (Array.getElem?_eq_some_iff.1 h).1
theorem LI.cells (h : LI w B c bp M F l ts) : w.cell? ⟨c, 0, none⟩ = some (.pointer (some ⟨bp, 0, none⟩)) ∧ w.cell? ⟨c, 1, none⟩ = some (.map (some M)) := by simp [Lib.cell_of_heap h.box]
theorem LI.ne (h : LI w B c bp M F l ts) : c ≠ M := MapF.ne_cells h.mp h.box
theorem thT_ne (t : Th) {T : TypeId} (h1 : 94 ≠ T) (h2 : 106 ≠ T) : thT t ≠ T := by
  unfold thT
  split
  · exact h1
  · exact h2
theorem box_ne {b b' : Nat} {a a' : Array Value} {T T' : TypeId} {r r' : Nat × Nat} (h : w.heap[b]? = some (.cells a T r)) (h' : w.heap[b']? = some (.cells a' T' r')) (hT : T ≠ T') : b ≠ b' := fun e => by
  rw [e, h'] at h
  injection h with h
  injection h with _ h _
  exact hT h.symm
theorem LI.sep (h : LI w B c bp M F l ts) : ∀ x ∈ ts, x.b ≠ c ∧ x.b ≠ M := fun x hx =>
  ⟨box_ne (h.th x hx) h.box (thT_ne x (by decide) (by decide)), MapF.ne_cells h.mp (h.th x hx)⟩
theorem LI.frame {Q : Nat → Prop} (h : LI w B c bp M F l ts) (hc : Ch Q w w') (hq : ∀ y, (y = c ∨ y = M ∨ F y ∨ ∃ x ∈ ts, y = x.b) → ¬ Q y) : LI w' B c bp M F l ts :=
  ⟨hc.box h.box (hq _ (.inl rfl)), h.mp.ch hc (hq _ (.inr (.inl rfl))), face.ch h.bk hc (fun y hy => hq y (.inr (.inr (.inl hy)))), fun x hx => hc.box (h.th x hx) (hq _ (.inr (.inr (.inr ⟨x, hx, rfl⟩)))), h.ap, h.nd, h.far, h.lo, Nat.le_trans h.low hc.size⟩
theorem LI.quiet (h : LI w B c bp M F l ts) (hc : Ch (fun _ => False) w w') : LI w' B c bp M F l ts := h.frame hc (fun _ _ h => h)
theorem LI.feet (h : LI w B c bp M F l ts) {y : Nat} (hy : y = c ∨ y = M ∨ F y ∨ ∃ x ∈ ts, y = x.b) : B ≤ y ∧ y < w.heap.size := by
  rcases hy with rfl | rfl | hy | ⟨x, hx, rfl⟩
  · exact ⟨h.lo.1, (Array.getElem?_eq_some_iff.1 h.box).1⟩
  · exact ⟨h.lo.2.1, h.mp.lt⟩
  · exact face.foot h.bk y hy
  · exact ⟨h.lo.2.2 x hx, (h.th x hx).lt⟩
/-- the book has gone on -/
theorem LI.book (h : LI w B c bp M F l ts) (hb : PTb w' B F' bp l') (hc : Ch F w w') (hd : ∀ y, F' y → F y ∨ w.heap.size ≤ y) : LI w' B c bp M F' l' ts := by
  refine ⟨hc.box h.box (fun e => (h.far _ e).1 rfl), h.mp.ch hc (fun e => (h.far _ e).2.1 rfl), hb, fun x hx => hc.box (h.th x hx) (fun e => (h.far _ e).2.2 x hx rfl), h.ap, h.nd, fun y hy => ?_, h.lo, Nat.le_trans h.low hc.size⟩
  rcases hd y hy with e | e
  · exact h.far y e
  · refine ⟨fun e2 => ?_, fun e2 => ?_, fun x hx e2 => ?_⟩
    · have := (Array.getElem?_eq_some_iff.1 h.box).1
      omega
    · have := h.mp.lt
      omega
    · have := (h.th x hx).lt
      omega
theorem fnt_set {i : Nat} (hi : i < ts.length) {x : Th} (e : x.h = ts[i].h ∧ x.b = ts[i].b ∧ x.mu = ts[i].mu) (k : Hnd) : (fnt (ts.set i x) k).map thV = (fnt ts k).map thV := by
  unfold fnt
  induction ts generalizing i with
  | nil => exact absurd hi (Nat.not_lt_zero _)
  | cons a cs ih =>
    cases i with
    | zero =>
      rw [List.set_cons_zero, List.find?_cons, List.find?_cons, e.1, List.getElem_cons_zero]
      cases decide (a.h = k) with
      | true =>
        simp only [Option.map_some]
        unfold thV
        rw [e.2.1, e.2.2]
        rfl
      | false => rfl
    | succ i =>
      rw [List.set_cons_succ, List.find?_cons, List.find?_cons]
      cases decide (a.h = k) with
      | true => rfl
      | false => exact ih (by simpa using hi) e
/-- one of them has gone on -/
theorem LI.upd (h : LI w B c bp M F l ts) {i : Nat} (hi : i < ts.length) {x : Th} (hx : ThAt w' x) (e : x.h = ts[i].h ∧ x.b = ts[i].b ∧ x.mu = ts[i].mu) (hc : Ch (fun y => y = x.b) w w') : LI w' B c bp M F l (ts.set i x) := by
  have hin : ts[i] ∈ ts := List.getElem_mem hi
  have hsep := h.sep _ hin
  have hmem : ∀ z ∈ ts.set i x, z = x ∨ ∃ j, ∃ hj : j < ts.length, j ≠ i ∧ z = ts[j] := fun z hz => by
    obtain ⟨j, hj, rfl⟩ := List.getElem_of_mem hz
    rw [List.length_set] at hj
    by_cases hji : j = i
    · subst hji
      exact .inl (by rw [List.getElem_set_self])
    · exact .inr ⟨j, hj, hji, by rw [List.getElem_set_ne (fun e => hji e.symm)]⟩
  refine ⟨hc.box h.box (fun e3 => hsep.1 (e.2.1 ▸ e3.symm)), ?_, face.ch h.bk hc (fun y hy e3 => (h.far y hy).2.2 _ hin (e3.trans e.2.1)), fun z hz => ?_, ?_, ?_, fun y hy => ⟨(h.far y hy).1, (h.far y hy).2.1, fun z hz => ?_⟩, ⟨h.lo.1, h.lo.2.1, fun z hz => ?_⟩, Nat.le_trans h.low hc.size⟩
  · have := h.mp.ch hc (fun e3 => hsep.2 (e.2.1 ▸ e3.symm))
    rw [List.length_set, show (fun k => (fnt (ts.set i x) k).map thV) = fun k => (fnt ts k).map thV from funext (fnt_set hi e)]
    exact this
  · rcases hmem z hz with rfl | ⟨j, hj, hji, rfl⟩
    · exact hx
    · refine hc.box (h.th _ (List.getElem_mem hj)) (fun e3 => ?_)
      rw [e.2.1] at e3
      rcases Nat.lt_or_gt_of_ne hji with hlt | hlt
      · exact List.pairwise_iff_getElem.1 h.ap j i hj hi hlt e3
      · exact List.pairwise_iff_getElem.1 h.ap i j hi hj hlt e3.symm
  · rw [List.pairwise_iff_getElem]
    intro a b ha hb hab
    rw [List.length_set] at ha hb
    rw [List.getElem_set, List.getElem_set]
    have key := List.pairwise_iff_getElem.1 h.ap a b ha hb hab
    split <;> split
    · omega
    · subst_vars; rw [e.2.1]; exact key
    · subst_vars; rw [e.2.1]; exact key
    · exact key
  · rw [List.pairwise_iff_getElem]
    intro a b ha hb hab
    rw [List.length_set] at ha hb
    rw [List.getElem_set, List.getElem_set]
    have key := List.pairwise_iff_getElem.1 h.nd a b ha hb hab
    split <;> split
    · omega
    · subst_vars; rw [e.1]; exact key
    · subst_vars; rw [e.1]; exact key
    · exact key
  · rcases hmem z hz with rfl | ⟨j, hj, hji, rfl⟩
    · rw [e.2.1]; exact (h.far y hy).2.2 _ hin
    · exact (h.far y hy).2.2 _ (List.getElem_mem hj)
  · rcases hmem z hz with rfl | ⟨j, hj, hji, rfl⟩
    · rw [e.2.1]; exact h.lo.2.2 _ hin
    · exact h.lo.2.2 _ (List.getElem_mem hj)
end

end Go.Proofs.Ytoabhmpakcgloaa

namespace Go.Proofs.Ytoabhmpakcgloaa
open Go.RowKit

abbrev kla0 : Oper := { dst := some 7, op := Op.move (Operand.tmp 0), type := 26, pos := "locks.go:138", after := #[], guard := none }
abbrev kla1 : Oper := { dst := some 8, op := Op.nilCheck (Operand.tmp 7), type := 0, pos := "locks.go:138", after := #[{ on := 0, ground := Ground.data }], guard := none }
abbrev kla2 : Oper := { dst := some 9, op := Op.fieldAddr 81 (Operand.tmp 8) 1, type := 0, pos := "locks.go:138", after := #[{ on := 1, ground := Ground.data }], guard := none }
abbrev kla3 : Oper := { dst := some 10, op := Op.load 79 (Operand.tmp 9), type := 79, pos := "locks.go:138", after := #[{ on := 2, ground := Ground.data }], guard := none }
abbrev kla4 : Oper := { dst := some 11, op := Op.load 35 (Operand.tmp 3), type := 35, pos := "locks.go:138", after := #[], guard := none }
abbrev kla5 : Oper := { dst := some 12, op := Op.lookup 79 (Operand.tmp 10) (Operand.tmp 11) false, type := 83, pos := "locks.go:138", after := #[{ on := 3, ground := Ground.data }, { on := 4, ground := Ground.data }], guard := none }
abbrev kla6 : Oper := { dst := some 4, op := Op.assign (Operand.tmp 12), type := 83, pos := "locks.go:138", after := #[{ on := 5, ground := Ground.data }, { on := 0, ground := Ground.phase }, { on := 1, ground := Ground.phase }, { on := 2, ground := Ground.phase }, { on := 3, ground := Ground.phase }, { on := 4, ground := Ground.phase }, { on := 5, ground := Ground.phase }], guard := none }

theorem isNone_is (w : World) (s g : Int) : Calls Try.prog 25 #[hvW s g] w fun e w' => e = .returned (.bool (decide (s = 0) && decide (g = 0))) ∧ Below w.heap.size w w' := by
  by_cases es : s = 0
  · have qs : (s == 0) = true := by simpa using es
    rw [decide_eq_true es]
    by_cases eg : g = 0
    · have qg : (g == 0) = true := by simpa using eg
      rw [decide_eq_true eg]
      clear es eg
      go_enter Try.func25, Try.ntmps25
      go_wp2
      go_ret
      exact ⟨rfl, below1 _ _⟩
    · have qg : (g == 0) = false := by simpa using eg
      rw [decide_eq_false eg]
      clear es eg
      go_enter Try.func25, Try.ntmps25
      go_wp2
      go_ret
      exact ⟨rfl, below1 _ _⟩
  · have qs : (s == 0) = false := by simpa using es
    rw [decide_eq_false es, Bool.false_and]
    clear es
    go_enter Try.func25, Try.ntmps25
    go_wp2
    go_ret
    exact ⟨rfl, below1 _ _⟩
theorem isNone_nn (w : World) (x : Hnd) : Calls Try.prog 25 #[hkV x] w fun e w' => e = .returned (.bool (nnH x)) ∧ Below w.heap.size w w' := isNone_is w x.1 x.2

theorem zeroTh (w : World) : (zeroValue 83).run Try.prog w = .ok .nilIface w := by kernel_rfl
theorem val_lookT {o : Oper} {a : Act} {w : World} {M n : Nat} {f : Hnd → Option Value} {x : Hnd} (m y : Operand) (hop : o.op = Op.lookup 79 m y false) (hm : a.eval m = .map (some M)) (hy : a.eval y = hkV x) (h : MapF hkV w M f n) : (execOp a.eval o).run Try.prog w = .ok (.value ((f x).getD .nilIface)) w := by
  have := h.look (x := x) (ktH w) Try.underlying79 (zeroTh w)
  simp [execOp, hop, hm, hy, this, Result.andThen]
/-- the value of what may be there -/
def tpV (o : Option Th) : Value := (o.map thV).getD .nilIface
set_option maxRecDepth 100000 in
theorem at_lis {w : World} {B c bp M : Nat} {F : Nat → Prop} {l : List Wt} {ts : List Th} (h : LI w B c bp M F l ts) (x : Hnd) : Calls Try.prog 26 #[.pointer (some ⟨c, 0, none⟩), hkV x] w fun e w' => e = .returned (tpV (fnt ts x)) ∧ Below w.heap.size w w' := by
  obtain ⟨w1, hw1⟩ : ∃ w1, w.alloc (.cells #[.int .u32 x.1, .int .u32 x.2] 35) = w1 := ⟨_, rfl⟩
  have hb1 : Below w.heap.size w w1 := by rw [← hw1]; exact below1 _ _
  have hn : w1.heap[w.heap.size]? = some (.cells #[.int .u32 x.1, .int .u32 x.2] 35 (0, 0)) := by rw [← hw1]; exact heap_new _ _
  have h1 := h.quiet (Ch.of_below hb1)
  obtain ⟨c0, c1⟩ := h1.cells
  have n0 : w1.cell? ⟨w.heap.size, 0, none⟩ = some (.int .u32 x.1) := by simp [Lib.cell_of_heap hn]
  have n1 : w1.cell? ⟨w.heap.size, 1, none⟩ = some (.int .u32 x.2) := by simp [Lib.cell_of_heap hn]
  have HMP := hide h1.mp
  have HN := hide (And.intro h1.box hn)
  have HB := hide hb1
  clear h h1 hn hb1
  go_enter Try.func26, Try.ntmps26
  go_wp2
  clear c0 c1 n0 n1 hw1
  refine wp_reg (fun _ => False) (R := fun V => Ch (fun _ => False) w1 V) (by kernel_rfl) (Ch.drew _) (fun V cV zk => ?_)
  have CV := hide cV
  clear cV
  have HX := hide (fun wq (kq : Ch (fun _ => False) V wq) => show wq.cell? ⟨c, 1, none⟩ = some (.map (some M)) ∧ wq.cell? ⟨w.heap.size, 0, none⟩ = some (.int .u32 x.1) ∧ wq.cell? ⟨w.heap.size, 1, none⟩ = some (.int .u32 x.2) from by
    have e1 := Lib.cell_of_heap ((CV.out.trans kq (fun _ _ h => h)).box HN.out.1 (fun h => h))
    have e2 := Lib.cell_of_heap ((CV.out.trans kq (fun _ _ h => h)).box HN.out.2 (fun h => h))
    exact ⟨by simp [e1], by simp [e2], by simp [e2]⟩)
  apply tk 0 kla0 rfl (by kernel_rfl) (fun _ _ _ h => h) zk
  · intro wq zq
    go_simp
    try rfl
  go_frame
  apply tk 1 kla1 rfl (by kernel_rfl) (fun _ _ _ h => h) zk
  · intro wq zq
    go_simp
    try rfl
  go_frame
  apply tk 2 kla2 rfl (by kernel_rfl) (fun _ _ _ h => h) zk
  · intro wq zq
    go_simp
    try rfl
  go_frame
  apply tk 3 kla3 rfl (by kernel_rfl) (fun _ _ _ h => h) zk
  · intro wq zq
    obtain ⟨s1, s2, s3⟩ := HX.out _ zq
    go_simp
    try rfl
  go_frame
  apply tk 4 kla4 rfl (by kernel_rfl) (fun _ _ _ h => h) zk
  · intro wq zq
    obtain ⟨s1, s2, s3⟩ := HX.out _ zq
    go_simp
    try rfl
  go_frame
  apply tk 5 kla5 rfl (by kernel_rfl) (fun _ _ _ h => h) zk
  · intro wq zq
    exact val_lookT (x := x) (.tmp 10) (.tmp 11) rfl rfl rfl (HMP.out.ch (CV.out.trans zq (fun _ _ h => h)) (fun h => h))
  go_frame
  apply tk 6 kla6 rfl (by kernel_rfl) (fun _ _ _ h => h) zk
  · intro wq zq
    go_simp
    try rfl
  go_frame
  refine wpAnyH_done (by kernel_rfl) ?_ _
  go_wp2
  go_ret
  exact ⟨rfl, HB.out.trans (CV.out.below HB.out.size (fun _ _ h => h))⟩
theorem at_none (w : World) (x : Hnd) : Calls Try.prog 26 #[.pointer none, hkV x] w fun e w' => e = .returned .nilIface ∧ Below w.heap.size w w' := by
  go_enter Try.func26, Try.ntmps26
  go_wp2
  go_ret
  exact ⟨rfl, below1 _ _⟩

/-- what kind there is -/
def kdT (o : Option Th) : Int := match o with | none => 0 | some t => if t.mu then 2 else 3
theorem as_m (w : World) (p : Value) : (Instr.typeAssert (.iface 90 p) 83 90 true).run Try.prog w = .ok (.tuple #[p, .bool true]) w := by kernel_rfl
theorem as_mg (w : World) (p : Value) : (Instr.typeAssert (.iface 101 p) 83 90 true).run Try.prog w = .ok (.tuple #[.pointer none, .bool false]) w := by kernel_rfl
theorem as_g (w : World) (p : Value) : (Instr.typeAssert (.iface 101 p) 83 101 true).run Try.prog w = .ok (.tuple #[p, .bool true]) w := by kernel_rfl
theorem as_gm (w : World) (p : Value) : (Instr.typeAssert (.iface 90 p) 83 101 true).run Try.prog w = .ok (.tuple #[.pointer none, .bool false]) w := by kernel_rfl
theorem as_n (w : World) : (Instr.typeAssert .nilIface 83 90 true).run Try.prog w = .ok (.tuple #[.pointer none, .bool false]) w := by kernel_rfl
theorem as_n2 (w : World) : (Instr.typeAssert .nilIface 83 101 true).run Try.prog w = .ok (.tuple #[.pointer none, .bool false]) w := by kernel_rfl
theorem kindOf_is (w : World) (o : Option Th) : Calls Try.prog 38 #[tpV o] w fun e w' => e = .returned (.int .i64 (kdT o)) ∧ Below w.heap.size w w' := by
  cases o with
  | none =>
    have e1 := as_n
    have e2 := as_n2
    show Calls Try.prog 38 #[.nilIface] w fun e w' => e = .returned (.int .i64 0) ∧ Below w.heap.size w w'
    go_enter Try.func38, Try.ntmps38
    go_wp2
    go_ret
    exact ⟨rfl, Below.refl _ _⟩
  | some t =>
    obtain ⟨h, b, mu, o, n⟩ := t
    cases mu with
    | true =>
      have e1 := as_m
      show Calls Try.prog 38 #[.iface 90 (.pointer (some ⟨b, 0, none⟩))] w fun e w' => e = .returned (.int .i64 2) ∧ Below w.heap.size w w'
      go_enter Try.func38, Try.ntmps38
      go_wp2
      go_ret
      exact ⟨rfl, Below.refl _ _⟩
    | false =>
      have e1 := as_mg
      have e2 := as_g
      show Calls Try.prog 38 #[.iface 101 (.pointer (some ⟨b, 0, none⟩))] w fun e w' => e = .returned (.int .i64 3) ∧ Below w.heap.size w w'
      go_enter Try.func38, Try.ntmps38
      go_wp2
      go_ret
      exact ⟨rfl, Below.refl _ _⟩

section
variable {w : World} {B c bp M : Nat} {F : Nat → Prop} {l : List Wt} {ts : List Th}
/-- a call on a handle: its box, at, what is done with the answer -/
theorem kind_lis (h : LI w B c bp M F l ts) (x : Hnd) : Calls Try.prog 22 #[.pointer (some ⟨c, 0, none⟩), hkV x] w fun e w' => e = .returned (.int .i64 (kdT (fnt ts x))) ∧ Below w.heap.size w w' := by
  obtain ⟨w1, hw1⟩ : ∃ w1, w.alloc (.cells #[.int .u32 x.1, .int .u32 x.2] 35) = w1 := ⟨_, rfl⟩
  have hb1 : Below w.heap.size w w1 := by rw [← hw1]; exact below1 _ _
  have hn : w1.heap[w.heap.size]? = some (.cells #[.int .u32 x.1, .int .u32 x.2] 35 (0, 0)) := by rw [← hw1]; exact heap_new _ _
  have n0 : w1.cell? ⟨w.heap.size, 0, none⟩ = some (.int .u32 x.1) := by simp [Lib.cell_of_heap hn]
  have n1 : w1.cell? ⟨w.heap.size, 1, none⟩ = some (.int .u32 x.2) := by simp [Lib.cell_of_heap hn]
  have HA := hide (at_lis (h.quiet (Ch.of_below hb1)) x)
  have HB := hide hb1
  clear h hn hb1
  go_enter Try.func22, Try.ntmps22
  go_wp2_with fail
  refine HA.out.mono ?_
  rintro e w2 ⟨rfl, hb2⟩
  have HB2 := hide (HB.out.trans (hb2.mono HB.out.size))
  clear hw1 n0 n1 hb2
  go_wp2_with fail
  refine (kindOf_is w2 (fnt ts x)).mono ?_
  rintro e w3 ⟨rfl, hb3⟩
  have HB3 := hide (HB2.out.trans (hb3.mono HB2.out.size))
  clear hb3
  go_wp2
  go_ret
  exact ⟨rfl, HB3.out⟩

/-- the mutex, the group of what may be there -/
def muV (o : Option Th) : Value := match o with | none => .pointer none | some t => if t.mu then .pointer (some ⟨t.b, 0, none⟩) else .pointer none
def grV (o : Option Th) : Value := match o with | none => .pointer none | some t => if t.mu then .pointer none else .pointer (some ⟨t.b, 0, none⟩)
def isMu (o : Option Th) : Bool := match o with | none => false | some t => t.mu
def isGr (o : Option Th) : Bool := match o with | none => false | some t => !t.mu
theorem as_mu (o : Option Th) (w : World) : (Instr.typeAssert (tpV o) 83 90 true).run Try.prog w = .ok (.tuple #[muV o, .bool (isMu o)]) w := by
  cases o with
  | none => exact as_n w
  | some t =>
    obtain ⟨h, b, mu, o, n⟩ := t
    cases mu with
    | true => exact as_m w _
    | false => exact as_mg w _
theorem as_gr (o : Option Th) (w : World) : (Instr.typeAssert (tpV o) 83 101 true).run Try.prog w = .ok (.tuple #[grV o, .bool (isGr o)]) w := by
  cases o with
  | none => exact as_n2 w
  | some t =>
    obtain ⟨h, b, mu, o, n⟩ := t
    cases mu with
    | true => exact as_gm w _
    | false => exact as_g w _
theorem mutex_lis (h : LI w B c bp M F l ts) (x : Hnd) : Calls Try.prog 29 #[.pointer (some ⟨c, 0, none⟩), hkV x] w fun e w' => e = .returned (.tuple #[muV (fnt ts x), .bool (isMu (fnt ts x))]) ∧ Below w.heap.size w w' := by
  obtain ⟨w1, hw1⟩ : ∃ w1, w.alloc (.cells #[.int .u32 x.1, .int .u32 x.2] 35) = w1 := ⟨_, rfl⟩
  have hb1 : Below w.heap.size w w1 := by rw [← hw1]; exact below1 _ _
  have hn : w1.heap[w.heap.size]? = some (.cells #[.int .u32 x.1, .int .u32 x.2] 35 (0, 0)) := by rw [← hw1]; exact heap_new _ _
  have n0 : w1.cell? ⟨w.heap.size, 0, none⟩ = some (.int .u32 x.1) := by simp [Lib.cell_of_heap hn]
  have n1 : w1.cell? ⟨w.heap.size, 1, none⟩ = some (.int .u32 x.2) := by simp [Lib.cell_of_heap hn]
  have HA := hide (at_lis (h.quiet (Ch.of_below hb1)) x)
  have HB := hide hb1
  have hs := as_mu (fnt ts x)
  obtain ⟨u, hu⟩ : ∃ u, muV (fnt ts x) = u := ⟨_, rfl⟩
  obtain ⟨q, hq⟩ : ∃ q, isMu (fnt ts x) = q := ⟨_, rfl⟩
  obtain ⟨t, ht⟩ : ∃ t, tpV (fnt ts x) = t := ⟨_, rfl⟩
  rw [hu, hq, ht] at hs
  rw [hu, hq]
  rw [ht] at HA
  clear h hn hb1 hu hq ht
  go_enter Try.func29, Try.ntmps29
  go_wp2_with fail
  refine HA.out.mono ?_
  rintro e w2 ⟨rfl, hb2⟩
  have HB2 := hide (HB.out.trans (hb2.mono HB.out.size))
  clear hw1 n0 n1 hb2
  go_wp2
  go_ret2
  exact ⟨rfl, HB2.out⟩
theorem group_lis (h : LI w B c bp M F l ts) (x : Hnd) : Calls Try.prog 33 #[.pointer (some ⟨c, 0, none⟩), hkV x] w fun e w' => e = .returned (.tuple #[grV (fnt ts x), .bool (isGr (fnt ts x))]) ∧ Below w.heap.size w w' := by
  obtain ⟨w1, hw1⟩ : ∃ w1, w.alloc (.cells #[.int .u32 x.1, .int .u32 x.2] 35) = w1 := ⟨_, rfl⟩
  have hb1 : Below w.heap.size w w1 := by rw [← hw1]; exact below1 _ _
  have hn : w1.heap[w.heap.size]? = some (.cells #[.int .u32 x.1, .int .u32 x.2] 35 (0, 0)) := by rw [← hw1]; exact heap_new _ _
  have n0 : w1.cell? ⟨w.heap.size, 0, none⟩ = some (.int .u32 x.1) := by simp [Lib.cell_of_heap hn]
  have n1 : w1.cell? ⟨w.heap.size, 1, none⟩ = some (.int .u32 x.2) := by simp [Lib.cell_of_heap hn]
  have HA := hide (at_lis (h.quiet (Ch.of_below hb1)) x)
  have HB := hide hb1
  have hs := as_gr (fnt ts x)
  obtain ⟨u, hu⟩ : ∃ u, grV (fnt ts x) = u := ⟨_, rfl⟩
  obtain ⟨q, hq⟩ : ∃ q, isGr (fnt ts x) = q := ⟨_, rfl⟩
  obtain ⟨t, ht⟩ : ∃ t, tpV (fnt ts x) = t := ⟨_, rfl⟩
  rw [hu, hq, ht] at hs
  rw [hu, hq]
  rw [ht] at HA
  clear h hn hb1 hu hq ht
  go_enter Try.func33, Try.ntmps33
  go_wp2_with fail
  refine HA.out.mono ?_
  rintro e w2 ⟨rfl, hb2⟩
  have HB2 := hide (HB.out.trans (hb2.mono HB.out.size))
  clear hw1 n0 n1 hb2
  go_wp2
  go_ret2
  exact ⟨rfl, HB2.out⟩
end

end Go.Proofs.Ytoabhmpakcgloaa

namespace Go.Proofs.Ytoabhmpakcgloaa
open Go.RowKit

def fnF (k : Int) : Int := if k = 2 then 16 else 17
theorem fate_is (w : World) {k : Int} (hk : k = 2 ∨ k = 3) : Calls Try.prog 41 #[.int .i64 k] w fun e w' => e = .returned (.int .i64 (fnF k)) ∧ Below w.heap.size w w' := by
  rcases hk with rfl | rfl
  · show Calls Try.prog 41 #[.int .i64 2] w fun e w' => e = .returned (.int .i64 16) ∧ Below w.heap.size w w'
    go_enter Try.func41, Try.ntmps41
    go_wp2
    go_ret
    exact ⟨rfl, Below.refl _ _⟩
  · show Calls Try.prog 41 #[.int .i64 3] w fun e w' => e = .returned (.int .i64 17) ∧ Below w.heap.size w w'
    go_enter Try.func41, Try.ntmps41
    go_wp2
    go_ret
    exact ⟨rfl, Below.refl _ _⟩

/-- why nothing of kind k is done at x: a fate, an error -/
def rfT (ts : List Th) (x : Hnd) (k : Int) : Int × Int := if nnH x = true then (fnF k, 0) else if kdT (fnt ts x) = k then (0, 0) else (0, 161)
theorem refuse_lis {w : World} {B c bp M : Nat} {F : Nat → Prop} {l : List Wt} {ts : List Th} (h : LI w B c bp M F l ts) (x : Hnd) {k : Int} (hk : k = 2 ∨ k = 3) : Calls Try.prog 28 #[.pointer (some ⟨c, 0, none⟩), hkV x, .int .i64 k] w fun e w' => e = .returned (.tuple #[.int .i64 (rfT ts x k).1, .int .i64 (rfT ts x k).2]) ∧ Below w.heap.size w w' := by
  obtain ⟨w1, hw1⟩ : ∃ z, w.alloc (.cells #[.int .u32 x.1, .int .u32 x.2] 35) = z := ⟨_, rfl⟩
  have hc1 : Ch (fun _ => False) w w1 := by rw [← hw1]; exact Ch.alloc _ _
  have hz1 : w1.heap.size = w.heap.size + 1 := by rw [← hw1, World.size_alloc]
  have hn1 : w1.heap[w.heap.size]? = some (.cells #[.int .u32 x.1, .int .u32 x.2] 35 (0, 0)) := by rw [← hw1]; exact heap_new _ _
  have n0 : w1.cell? ⟨w.heap.size, 0, none⟩ = some (.int .u32 x.1) := by simp [Lib.cell_of_heap hn1]
  have n1 : w1.cell? ⟨w.heap.size, 1, none⟩ = some (.int .u32 x.2) := by simp [Lib.cell_of_heap hn1]
  have H := hide h
  have HC := hide hc1
  have HN := hide hn1
  have HI := hide (isNone_nn w1 x)
  cases hnn : nnH x with
  | true =>
    have er : rfT ts x k = (fnF k, 0) := by unfold rfT; rw [if_pos hnn]
    rw [er]
    rw [hnn] at HI
    clear h hc1 hz1 hn1 hnn er
    go_enter Try.func28, Try.ntmps28
    go_wp2_with fail
    refine HI.out.mono ?_
    rintro e w2 ⟨rfl, hb2⟩
    have HC2 := hide (HC.out.trans (Ch.of_below (Q := fun _ => False) hb2) (fun _ _ h => h))
    clear hb2 n0 n1 hw1
    go_wp2_with fail
    refine (fate_is w2 hk).mono ?_
    rintro e w3 ⟨rfl, hb3⟩
    have HC3 := hide (HC2.out.trans (Ch.of_below (Q := fun _ => False) hb3) (fun _ _ h => h))
    clear hb3
    go_wp2
    go_ret2
    exact ⟨rfl, HC3.out.below (Nat.le_refl _) (fun _ _ h => h)⟩
  | false =>
    rw [hnn] at HI
    obtain ⟨j, hj⟩ : ∃ j, kdT (fnt ts x) = j := ⟨_, rfl⟩
    have er : rfT ts x k = if j = k then (0, 0) else (0, 161) := by unfold rfT; rw [if_neg (by rw [hnn]; decide), hj]
    rw [er]
    have HK := hide hj
    clear h hc1 hz1 hn1 hnn er hj
    by_cases ejk : j = k
    · have q : (j == k) = true := by simpa using ejk
      rw [if_pos ejk]
      clear ejk
      go_enter Try.func28, Try.ntmps28
      go_wp2_with fail
      refine HI.out.mono ?_
      rintro e w2 ⟨rfl, hb2⟩
      have HC2 := hide (HC.out.trans (Ch.of_below (Q := fun _ => False) hb2) (fun _ _ h => h))
      have HN2 := hide ((Ch.of_below (Q := fun _ => False) hb2).box HN.out (fun h => h))
      clear hb2 n0 n1 hw1
      have n0 : w2.cell? ⟨w.heap.size, 0, none⟩ = some (.int .u32 x.1) := by simp [Lib.cell_of_heap HN2.out]
      have n1 : w2.cell? ⟨w.heap.size, 1, none⟩ = some (.int .u32 x.2) := by simp [Lib.cell_of_heap HN2.out]
      have HKI := hide (kind_lis (H.out.quiet HC2.out) x)
      rw [HK.out] at HKI
      go_wp2_with fail
      refine HKI.out.mono ?_
      rintro e w3 ⟨rfl, hb3⟩
      have HC3 := hide (HC2.out.trans (Ch.of_below (Q := fun _ => False) hb3) (fun _ _ h => h))
      clear hb3 n0 n1
      go_wp2
      go_ret2
      exact ⟨rfl, HC3.out.below (Nat.le_refl _) (fun _ _ h => h)⟩
    · have q : (j == k) = false := by simpa using ejk
      rw [if_neg ejk]
      clear ejk
      go_enter Try.func28, Try.ntmps28
      go_wp2_with fail
      refine HI.out.mono ?_
      rintro e w2 ⟨rfl, hb2⟩
      have HC2 := hide (HC.out.trans (Ch.of_below (Q := fun _ => False) hb2) (fun _ _ h => h))
      have HN2 := hide ((Ch.of_below (Q := fun _ => False) hb2).box HN.out (fun h => h))
      clear hb2 n0 n1 hw1
      have n0 : w2.cell? ⟨w.heap.size, 0, none⟩ = some (.int .u32 x.1) := by simp [Lib.cell_of_heap HN2.out]
      have n1 : w2.cell? ⟨w.heap.size, 1, none⟩ = some (.int .u32 x.2) := by simp [Lib.cell_of_heap HN2.out]
      have HKI := hide (kind_lis (H.out.quiet HC2.out) x)
      rw [HK.out] at HKI
      go_wp2_with fail
      refine HKI.out.mono ?_
      rintro e w3 ⟨rfl, hb3⟩
      have HC3 := hide (HC2.out.trans (Ch.of_below (Q := fun _ => False) hb3) (fun _ _ h => h))
      clear hb3 n0 n1
      go_wp2
      go_ret2
      exact ⟨rfl, HC3.out.below (Nat.le_refl _) (fun _ _ h => h)⟩
theorem refuse_none (w : World) (x : Hnd) (k : Int) : Calls Try.prog 28 #[.pointer none, hkV x, .int .i64 k] w fun e w' => e = .returned (.tuple #[.int .i64 0, .int .i64 1]) ∧ Below w.heap.size w w' := by
  go_enter Try.func28, Try.ntmps28
  go_wp2
  go_ret2
  exact ⟨rfl, below1 _ _⟩

/-- the rows of who waits -/
theorem res_lockers (tm : Array Value) (A : Nat) (Z : World) (s g d : Int) (h2 : tm[2]?.getD undef = .pointer (some ⟨A, 0, none⟩)) (hb : Z.heap[A]? = some (.cells #[.int .u32 s, .int .u32 g, .int .i64 d] 60 (0, 0))) :
    (results Try.f31 tm).run Try.prog Z = .ok (rvW s g d) Z := by
  have e := Lib.cell_of_heap hb
  simp [results, Try.f31, h2, go_sem, e]
theorem lockers_is (w : World) (x : Hnd) : Calls Try.prog 31 #[hkV x] w fun e w' => e = .returned (rvW x.1 x.2 3) ∧ Below w.heap.size w w' := by
  obtain ⟨w1, hw1⟩ : ∃ z, w.alloc (.cells #[.int .u32 x.1, .int .u32 x.2] 35) = z := ⟨_, rfl⟩
  have hc1 : Ch (fun _ => False) w w1 := by rw [← hw1]; exact Ch.alloc _ _
  have hz1 : w1.heap.size = w.heap.size + 1 := by rw [← hw1, World.size_alloc]
  have hn1 : w1.heap[w.heap.size]? = some (.cells #[.int .u32 x.1, .int .u32 x.2] 35 (0, 0)) := by rw [← hw1]; exact heap_new _ _
  obtain ⟨w2, hw2⟩ : ∃ z, w1.alloc (.cells #[.int .u32 0, .int .u32 0, .int .i64 0] 60) = z := ⟨_, rfl⟩
  have hc2 : Ch (fun _ => False) w1 w2 := by rw [← hw2]; exact Ch.alloc _ _
  have hz2 : w2.heap.size = w1.heap.size + 1 := by rw [← hw2, World.size_alloc]
  have hn2 : w2.heap[w1.heap.size]? = some (.cells #[.int .u32 0, .int .u32 0, .int .i64 0] 60 (0, 0)) := by rw [← hw2]; exact heap_new _ _
  replace hn1 := hc2.box hn1 (fun h => h)
  have n0 : w2.cell? ⟨w.heap.size, 0, none⟩ = some (.int .u32 x.1) := by simp [Lib.cell_of_heap hn1]
  have n1 : w2.cell? ⟨w.heap.size, 1, none⟩ = some (.int .u32 x.2) := by simp [Lib.cell_of_heap hn1]
  have e0 : w2.frozen? ⟨w1.heap.size, 0, none⟩ = false := frz hn2 _
  have e1 : w2.frozen? ⟨w1.heap.size, 1, none⟩ = false := frz hn2 _
  have e2 : w2.frozen? ⟨w1.heap.size, 2, none⟩ = false := frz hn2 _
  have r0 : w2.cell? ⟨w1.heap.size, 0, none⟩ = some (.int .u32 0) := by simp [Lib.cell_of_heap hn2]
  have r1 : w2.cell? ⟨w1.heap.size, 1, none⟩ = some (.int .u32 0) := by simp [Lib.cell_of_heap hn2]
  have r2 : w2.cell? ⟨w1.heap.size, 2, none⟩ = some (.int .i64 0) := by simp [Lib.cell_of_heap hn2]
  have HN := hide (And.intro hn1 hn2)
  have HC := hide (hc1.trans hc2 (fun _ _ h => h))
  have HZ := hide hz1
  clear hc1 hz1 hn1 hc2 hz2 hn2
  go_enter Try.func31, Try.ntmps31
  go_wp2_with fail

  have hb : (((w2.setCell ⟨w1.heap.size, 0, none⟩ (.int .u32 x.1)).setCell ⟨w1.heap.size, 1, none⟩ (.int .u32 x.2)).setCell ⟨w1.heap.size, 2, none⟩ (.int .i64 3)).heap[w1.heap.size]? = some (.cells #[.int .u32 x.1, .int .u32 x.2, .int .i64 3] 60 (0, 0)) := heap_set (heap_set (heap_set HN.out.2 0 _) 1 _) 2 _
  refine bodyPost_ret (v := rvW x.1 x.2 3) (res_lockers _ w1.heap.size _ _ _ _ rfl hb) rfl ⟨rfl, ?_⟩
  exact (((HC.out.set_new (by have := HZ.out; omega) 0 _).set_new (by have := HZ.out; omega) 1 _).set_new (by have := HZ.out; omega) 2 _).below (Nat.le_refl _) (fun _ _ h => h)

theorem res_joiners (tm : Array Value) (A : Nat) (Z : World) (s g d : Int) (h2 : tm[2]?.getD undef = .pointer (some ⟨A, 0, none⟩)) (hb : Z.heap[A]? = some (.cells #[.int .u32 s, .int .u32 g, .int .i64 d] 60 (0, 0))) :
    (results Try.f36 tm).run Try.prog Z = .ok (rvW s g d) Z := by
  have e := Lib.cell_of_heap hb
  simp [results, Try.f36, h2, go_sem, e]
theorem joiners_is (w : World) (x : Hnd) : Calls Try.prog 36 #[hkV x] w fun e w' => e = .returned (rvW x.1 x.2 4) ∧ Below w.heap.size w w' := by
  obtain ⟨w1, hw1⟩ : ∃ z, w.alloc (.cells #[.int .u32 x.1, .int .u32 x.2] 35) = z := ⟨_, rfl⟩
  have hc1 : Ch (fun _ => False) w w1 := by rw [← hw1]; exact Ch.alloc _ _
  have hz1 : w1.heap.size = w.heap.size + 1 := by rw [← hw1, World.size_alloc]
  have hn1 : w1.heap[w.heap.size]? = some (.cells #[.int .u32 x.1, .int .u32 x.2] 35 (0, 0)) := by rw [← hw1]; exact heap_new _ _
  obtain ⟨w2, hw2⟩ : ∃ z, w1.alloc (.cells #[.int .u32 0, .int .u32 0, .int .i64 0] 60) = z := ⟨_, rfl⟩
  have hc2 : Ch (fun _ => False) w1 w2 := by rw [← hw2]; exact Ch.alloc _ _
  have hz2 : w2.heap.size = w1.heap.size + 1 := by rw [← hw2, World.size_alloc]
  have hn2 : w2.heap[w1.heap.size]? = some (.cells #[.int .u32 0, .int .u32 0, .int .i64 0] 60 (0, 0)) := by rw [← hw2]; exact heap_new _ _
  replace hn1 := hc2.box hn1 (fun h => h)
  have n0 : w2.cell? ⟨w.heap.size, 0, none⟩ = some (.int .u32 x.1) := by simp [Lib.cell_of_heap hn1]
  have n1 : w2.cell? ⟨w.heap.size, 1, none⟩ = some (.int .u32 x.2) := by simp [Lib.cell_of_heap hn1]
  have e0 : w2.frozen? ⟨w1.heap.size, 0, none⟩ = false := frz hn2 _
  have e1 : w2.frozen? ⟨w1.heap.size, 1, none⟩ = false := frz hn2 _
  have e2 : w2.frozen? ⟨w1.heap.size, 2, none⟩ = false := frz hn2 _
  have r0 : w2.cell? ⟨w1.heap.size, 0, none⟩ = some (.int .u32 0) := by simp [Lib.cell_of_heap hn2]
  have r1 : w2.cell? ⟨w1.heap.size, 1, none⟩ = some (.int .u32 0) := by simp [Lib.cell_of_heap hn2]
  have r2 : w2.cell? ⟨w1.heap.size, 2, none⟩ = some (.int .i64 0) := by simp [Lib.cell_of_heap hn2]
  have HN := hide (And.intro hn1 hn2)
  have HC := hide (hc1.trans hc2 (fun _ _ h => h))
  have HZ := hide hz1
  clear hc1 hz1 hn1 hc2 hz2 hn2
  go_enter Try.func36, Try.ntmps36
  go_wp2_with fail

  have hb : (((w2.setCell ⟨w1.heap.size, 0, none⟩ (.int .u32 x.1)).setCell ⟨w1.heap.size, 1, none⟩ (.int .u32 x.2)).setCell ⟨w1.heap.size, 2, none⟩ (.int .i64 4)).heap[w1.heap.size]? = some (.cells #[.int .u32 x.1, .int .u32 x.2, .int .i64 4] 60 (0, 0)) := heap_set (heap_set (heap_set HN.out.2 0 _) 1 _) 2 _
  refine bodyPost_ret (v := rvW x.1 x.2 4) (res_joiners _ w1.heap.size _ _ _ _ rfl hb) rfl ⟨rfl, ?_⟩
  exact (((HC.out.set_new (by have := HZ.out; omega) 0 _).set_new (by have := HZ.out; omega) 1 _).set_new (by have := HZ.out; omega) 2 _).below (Nat.le_refl _) (fun _ _ h => h)

end Go.Proofs.Ytoabhmpakcgloaa

namespace Go.Proofs.Ytoabhmpakcgloaa
open Go.RowKit

theorem enter_held {w : World} {b : Nat} {o : Hnd} (hb : w.heap[b]? = some (.cells #[.int .u32 o.1, .int .u32 o.2] 94 (0, 0))) (hn : nnH o = false) (g : Hnd) : Calls Try.prog 67 #[.pointer (some ⟨b, 0, none⟩), hkV g] w fun e w' => e = .returned (.bool false) ∧ Below w.heap.size w w' := by
  obtain ⟨w1, hw1⟩ : ∃ z, w.alloc (.cells #[.int .u32 g.1, .int .u32 g.2] 35) = z := ⟨_, rfl⟩
  have hc1 : Ch (fun _ => False) w w1 := by rw [← hw1]; exact Ch.alloc _ _
  have hz1 : w1.heap.size = w.heap.size + 1 := by rw [← hw1, World.size_alloc]
  have hn1 : w1.heap[w.heap.size]? = some (.cells #[.int .u32 g.1, .int .u32 g.2] 35 (0, 0)) := by rw [← hw1]; exact heap_new _ _
  have hb1 := hc1.box hb (fun h => h)
  have n0 : w1.cell? ⟨b, 0, none⟩ = some (.int .u32 o.1) := by simp [Lib.cell_of_heap hb1]
  have n1 : w1.cell? ⟨b, 1, none⟩ = some (.int .u32 o.2) := by simp [Lib.cell_of_heap hb1]
  have HC := hide hc1
  have HI := hide (isNone_nn w1 o)
  rw [hn] at HI
  clear hb hb1 hn hc1 hz1 hn1
  go_enter Try.func67, Try.ntmps67
  go_wp2_with fail
  refine HI.out.mono ?_
  rintro e w2 ⟨rfl, hb2⟩
  have HC2 := hide (HC.out.trans (Ch.of_below (Q := fun _ => False) hb2) (fun _ _ h => h))
  clear hb2 n0 n1 hw1
  go_wp2
  go_ret
  exact ⟨rfl, HC2.out.below (Nat.le_refl _) (fun _ _ h => h)⟩

theorem enter_free {w : World} {b : Nat} {o : Hnd} (hb : w.heap[b]? = some (.cells #[.int .u32 o.1, .int .u32 o.2] 94 (0, 0))) (hn : nnH o = true) (g : Hnd) : Calls Try.prog 67 #[.pointer (some ⟨b, 0, none⟩), hkV g] w fun e w' => e = .returned (.bool true) ∧ w'.heap[b]? = some (.cells #[.int .u32 g.1, .int .u32 g.2] 94 (0, 0)) ∧ Ch (fun y => y = b) w w' := by
  obtain ⟨w1, hw1⟩ : ∃ z, w.alloc (.cells #[.int .u32 g.1, .int .u32 g.2] 35) = z := ⟨_, rfl⟩
  have hc1 : Ch (fun _ => False) w w1 := by rw [← hw1]; exact Ch.alloc _ _
  have hz1 : w1.heap.size = w.heap.size + 1 := by rw [← hw1, World.size_alloc]
  have hn1 : w1.heap[w.heap.size]? = some (.cells #[.int .u32 g.1, .int .u32 g.2] 35 (0, 0)) := by rw [← hw1]; exact heap_new _ _
  have hb1 := hc1.box hb (fun h => h)
  have n0 : w1.cell? ⟨b, 0, none⟩ = some (.int .u32 o.1) := by simp [Lib.cell_of_heap hb1]
  have n1 : w1.cell? ⟨b, 1, none⟩ = some (.int .u32 o.2) := by simp [Lib.cell_of_heap hb1]
  have HC := hide hc1
  have HN := hide (And.intro hn1 hb1)
  have HI := hide (isNone_nn w1 o)
  rw [hn] at HI
  clear hb hb1 hn hc1 hz1 hn1
  go_enter Try.func67, Try.ntmps67
  go_wp2_with fail
  refine HI.out.mono ?_
  rintro e w2 ⟨rfl, hb2⟩
  have HC2 := hide (HC.out.trans (Ch.of_below (Q := fun _ => False) hb2) (fun _ _ h => h))
  have hcn := Ch.of_below (Q := fun _ => False) hb2
  have HN2 := hide (And.intro (hcn.box HN.out.1 (fun h => h)) (hcn.box HN.out.2 (fun h => h)))
  clear hb2 n0 n1 hw1 hcn
  have n0 : w2.cell? ⟨w.heap.size, 0, none⟩ = some (.int .u32 g.1) := by simp [Lib.cell_of_heap HN2.out.1]
  have n1 : w2.cell? ⟨w.heap.size, 1, none⟩ = some (.int .u32 g.2) := by simp [Lib.cell_of_heap HN2.out.1]
  have e0 : w2.frozen? ⟨b, 0, none⟩ = false := frz HN2.out.2 _
  have e1 : w2.frozen? ⟨b, 1, none⟩ = false := frz HN2.out.2 _
  have r0 : w2.cell? ⟨b, 0, none⟩ = some (.int .u32 o.1) := by simp [Lib.cell_of_heap HN2.out.2]
  have r1 : w2.cell? ⟨b, 1, none⟩ = some (.int .u32 o.2) := by simp [Lib.cell_of_heap HN2.out.2]
  go_wp2
  go_ret
  exact ⟨rfl, heap_set (heap_set HN2.out.2 0 _) 1 _, ((HC2.out.mono (Q' := fun y => y = b) (fun _ _ h => h.elim)).trans (Ch.set (Q := fun y => y = b) _ rfl 0 _) (fun _ _ h => h)).trans (Ch.set (Q := fun y => y = b) _ rfl 1 _) (fun _ _ h => h)⟩

theorem enter_group {w : World} {b : Nat} {n : Int} (hb : w.heap[b]? = some (.cells #[.int .i64 n] 106 (0, 0))) (g : Hnd) : Calls Try.prog 69 #[.pointer (some ⟨b, 0, none⟩), hkV g] w fun e w' => e = .returned (.bool (decide (n = 0))) ∧ Below w.heap.size w w' := by
  obtain ⟨w1, hw1⟩ : ∃ z, w.alloc (.cells #[.int .u32 g.1, .int .u32 g.2] 35) = z := ⟨_, rfl⟩
  have hc1 : Ch (fun _ => False) w w1 := by rw [← hw1]; exact Ch.alloc _ _
  have hz1 : w1.heap.size = w.heap.size + 1 := by rw [← hw1, World.size_alloc]
  have hn1 : w1.heap[w.heap.size]? = some (.cells #[.int .u32 g.1, .int .u32 g.2] 35 (0, 0)) := by rw [← hw1]; exact heap_new _ _
  have hb1 := hc1.box hb (fun h => h)
  have n0 : w1.cell? ⟨b, 0, none⟩ = some (.int .i64 n) := by simp [Lib.cell_of_heap hb1]
  have q : (n == 0) = decide (n = 0) := by rw [Bool.eq_iff_iff]; simp
  have HC := hide hc1
  obtain ⟨j, hj⟩ : ∃ j, decide (n = 0) = j := ⟨_, rfl⟩
  rw [hj] at q
  rw [hj]
  clear hb hb1 hc1 hz1 hn1 hj
  go_enter Try.func69, Try.ntmps69
  go_wp2
  go_ret
  exact ⟨rfl, HC.out.below (Nat.le_refl _) (fun _ _ h => h)⟩

theorem res_queue_m (tm : Array Value) (A : Nat) (Z : World) (s g d : Int) (h2 : tm[4]?.getD undef = .pointer (some ⟨A, 0, none⟩)) (hb : Z.heap[A]? = some (.cells #[.int .u32 s, .int .u32 g, .int .i64 d] 60 (0, 0))) :
    (results Try.f68 tm).run Try.prog Z = .ok (rvW s g d) Z := by
  have e := Lib.cell_of_heap hb
  simp [results, Try.f68, h2, go_sem, e]
theorem queue_m (w : World) (p : Value) (x : Hnd) : Calls Try.prog 68 #[p, hkV x] w fun e w' => e = .returned (rvW x.1 x.2 3) ∧ Below w.heap.size w w' := by
  obtain ⟨w1, hw1⟩ : ∃ z, w.alloc (.cells #[.int .u32 x.1, .int .u32 x.2] 35) = z := ⟨_, rfl⟩
  have hc1 : Ch (fun _ => False) w w1 := by rw [← hw1]; exact Ch.alloc _ _
  have hz1 : w1.heap.size = w.heap.size + 1 := by rw [← hw1, World.size_alloc]
  have hn1 : w1.heap[w.heap.size]? = some (.cells #[.int .u32 x.1, .int .u32 x.2] 35 (0, 0)) := by rw [← hw1]; exact heap_new _ _
  obtain ⟨w2, hw2⟩ : ∃ z, w1.alloc (.cells #[.int .u32 0, .int .u32 0, .int .i64 0] 60) = z := ⟨_, rfl⟩
  have hc2 : Ch (fun _ => False) w1 w2 := by rw [← hw2]; exact Ch.alloc _ _
  have hz2 : w2.heap.size = w1.heap.size + 1 := by rw [← hw2, World.size_alloc]
  have hn2 : w2.heap[w1.heap.size]? = some (.cells #[.int .u32 0, .int .u32 0, .int .i64 0] 60 (0, 0)) := by rw [← hw2]; exact heap_new _ _
  replace hn1 := hc2.box hn1 (fun h => h)
  have n0 : w2.cell? ⟨w.heap.size, 0, none⟩ = some (.int .u32 x.1) := by simp [Lib.cell_of_heap hn1]
  have n1 : w2.cell? ⟨w.heap.size, 1, none⟩ = some (.int .u32 x.2) := by simp [Lib.cell_of_heap hn1]
  have HN := hide hn2
  have HC := hide (hc1.trans hc2 (fun _ _ h => h))
  have HZ := hide hz1
  have HR := hide (lockers_is w2 x)
  clear hc1 hz1 hn1 hc2 hz2 hn2
  go_enter Try.func68, Try.ntmps68
  go_wp2_with fail
  refine HR.out.mono ?_
  rintro e w3 ⟨rfl, hb3⟩
  have HC3 := hide (HC.out.trans (Ch.of_below (Q := fun _ => False) hb3) (fun _ _ h => h))
  have HN3 := hide ((Ch.of_below (Q := fun _ => False) hb3).box HN.out (fun h => h))
  clear hb3 n0 n1 hw1 hw2
  have e0 : w3.frozen? ⟨w1.heap.size, 0, none⟩ = false := frz HN3.out _
  have e1 : w3.frozen? ⟨w1.heap.size, 1, none⟩ = false := frz HN3.out _
  have e2 : w3.frozen? ⟨w1.heap.size, 2, none⟩ = false := frz HN3.out _
  have r0 : w3.cell? ⟨w1.heap.size, 0, none⟩ = some (.int .u32 0) := by simp [Lib.cell_of_heap HN3.out]
  have r1 : w3.cell? ⟨w1.heap.size, 1, none⟩ = some (.int .u32 0) := by simp [Lib.cell_of_heap HN3.out]
  have r2 : w3.cell? ⟨w1.heap.size, 2, none⟩ = some (.int .i64 0) := by simp [Lib.cell_of_heap HN3.out]
  go_wp2_with fail
  have hb : (((w3.setCell ⟨w1.heap.size, 0, none⟩ (.int .u32 x.1)).setCell ⟨w1.heap.size, 1, none⟩ (.int .u32 x.2)).setCell ⟨w1.heap.size, 2, none⟩ (.int .i64 3)).heap[w1.heap.size]? = some (.cells #[.int .u32 x.1, .int .u32 x.2, .int .i64 3] 60 (0, 0)) := heap_set (heap_set (heap_set HN3.out 0 _) 1 _) 2 _
  refine bodyPost_ret (v := rvW x.1 x.2 3) (res_queue_m _ w1.heap.size _ _ _ _ rfl hb) rfl ⟨rfl, ?_⟩
  exact (((HC3.out.set_new (by have := HZ.out; omega) 0 _).set_new (by have := HZ.out; omega) 1 _).set_new (by have := HZ.out; omega) 2 _).below (Nat.le_refl _) (fun _ _ h => h)

theorem res_queue_g (tm : Array Value) (A : Nat) (Z : World) (s g d : Int) (h2 : tm[4]?.getD undef = .pointer (some ⟨A, 0, none⟩)) (hb : Z.heap[A]? = some (.cells #[.int .u32 s, .int .u32 g, .int .i64 d] 60 (0, 0))) :
    (results Try.f70 tm).run Try.prog Z = .ok (rvW s g d) Z := by
  have e := Lib.cell_of_heap hb
  simp [results, Try.f70, h2, go_sem, e]
theorem queue_g (w : World) (p : Value) (x : Hnd) : Calls Try.prog 70 #[p, hkV x] w fun e w' => e = .returned (rvW x.1 x.2 4) ∧ Below w.heap.size w w' := by
  obtain ⟨w1, hw1⟩ : ∃ z, w.alloc (.cells #[.int .u32 x.1, .int .u32 x.2] 35) = z := ⟨_, rfl⟩
  have hc1 : Ch (fun _ => False) w w1 := by rw [← hw1]; exact Ch.alloc _ _
  have hz1 : w1.heap.size = w.heap.size + 1 := by rw [← hw1, World.size_alloc]
  have hn1 : w1.heap[w.heap.size]? = some (.cells #[.int .u32 x.1, .int .u32 x.2] 35 (0, 0)) := by rw [← hw1]; exact heap_new _ _
  obtain ⟨w2, hw2⟩ : ∃ z, w1.alloc (.cells #[.int .u32 0, .int .u32 0, .int .i64 0] 60) = z := ⟨_, rfl⟩
  have hc2 : Ch (fun _ => False) w1 w2 := by rw [← hw2]; exact Ch.alloc _ _
  have hz2 : w2.heap.size = w1.heap.size + 1 := by rw [← hw2, World.size_alloc]
  have hn2 : w2.heap[w1.heap.size]? = some (.cells #[.int .u32 0, .int .u32 0, .int .i64 0] 60 (0, 0)) := by rw [← hw2]; exact heap_new _ _
  replace hn1 := hc2.box hn1 (fun h => h)
  have n0 : w2.cell? ⟨w.heap.size, 0, none⟩ = some (.int .u32 x.1) := by simp [Lib.cell_of_heap hn1]
  have n1 : w2.cell? ⟨w.heap.size, 1, none⟩ = some (.int .u32 x.2) := by simp [Lib.cell_of_heap hn1]
  have HN := hide hn2
  have HC := hide (hc1.trans hc2 (fun _ _ h => h))
  have HZ := hide hz1
  have HR := hide (joiners_is w2 x)
  clear hc1 hz1 hn1 hc2 hz2 hn2
  go_enter Try.func70, Try.ntmps70
  go_wp2_with fail
  refine HR.out.mono ?_
  rintro e w3 ⟨rfl, hb3⟩
  have HC3 := hide (HC.out.trans (Ch.of_below (Q := fun _ => False) hb3) (fun _ _ h => h))
  have HN3 := hide ((Ch.of_below (Q := fun _ => False) hb3).box HN.out (fun h => h))
  clear hb3 n0 n1 hw1 hw2
  have e0 : w3.frozen? ⟨w1.heap.size, 0, none⟩ = false := frz HN3.out _
  have e1 : w3.frozen? ⟨w1.heap.size, 1, none⟩ = false := frz HN3.out _
  have e2 : w3.frozen? ⟨w1.heap.size, 2, none⟩ = false := frz HN3.out _
  have r0 : w3.cell? ⟨w1.heap.size, 0, none⟩ = some (.int .u32 0) := by simp [Lib.cell_of_heap HN3.out]
  have r1 : w3.cell? ⟨w1.heap.size, 1, none⟩ = some (.int .u32 0) := by simp [Lib.cell_of_heap HN3.out]
  have r2 : w3.cell? ⟨w1.heap.size, 2, none⟩ = some (.int .i64 0) := by simp [Lib.cell_of_heap HN3.out]
  go_wp2_with fail
  have hb : (((w3.setCell ⟨w1.heap.size, 0, none⟩ (.int .u32 x.1)).setCell ⟨w1.heap.size, 1, none⟩ (.int .u32 x.2)).setCell ⟨w1.heap.size, 2, none⟩ (.int .i64 4)).heap[w1.heap.size]? = some (.cells #[.int .u32 x.1, .int .u32 x.2, .int .i64 4] 60 (0, 0)) := heap_set (heap_set (heap_set HN3.out 0 _) 1 _) 2 _
  refine bodyPost_ret (v := rvW x.1 x.2 4) (res_queue_g _ w1.heap.size _ _ _ _ rfl hb) rfl ⟨rfl, ?_⟩
  exact (((HC3.out.set_new (by have := HZ.out; omega) 0 _).set_new (by have := HZ.out; omega) 1 _).set_new (by have := HZ.out; omega) 2 _).below (Nat.le_refl _) (fun _ _ h => h)

/-- a counter is 0 to 2^31 - 1 -/
def CtOk (n : Int) : Prop := 0 ≤ n ∧ n ≤ 2147483647
theorem room_is {w : World} {b : Nat} {n m : Int} (hb : w.heap[b]? = some (.cells #[.int .i64 n] 106 (0, 0))) (hn : CtOk n) : Calls Try.prog 34 #[.pointer (some ⟨b, 0, none⟩), .int .i64 m] w fun e w' => e = .returned (.bool (decide (0 ≤ n + m) && decide (n + m ≤ 2147483647))) ∧ Below w.heap.size w w' := by
  have n0 : w.cell? ⟨b, 0, none⟩ = some (.int .i64 n) := by simp [Lib.cell_of_heap hb]
  have h1 : IntKind.i64.wrap (-n) = -n := by have h3 := hn.1; have h4 := hn.2; rw [IntKind.wrap_i64]; omega
  have h2 : IntKind.i64.wrap (2147483647 - n) = 2147483647 - n := by have h3 := hn.1; have h4 := hn.2; rw [IntKind.wrap_i64]; omega
  by_cases q1 : 0 ≤ n + m
  · rw [decide_eq_true q1, Bool.true_and]
    have k1 : decide (m ≥ -n) = true := decide_eq_true (by omega)
    obtain ⟨j, hj⟩ : ∃ j, decide (n + m ≤ 2147483647) = j := ⟨_, rfl⟩
    have k2 : decide (m ≤ 2147483647 - n) = j := by rw [← hj]; congr 1; apply propext; constructor <;> intro h <;> omega
    rw [hj]
    clear hb hn q1 hj
    go_enter Try.func34, Try.ntmps34
    go_wp2
    go_ret
    exact ⟨rfl, Below.refl _ _⟩
  · rw [decide_eq_false q1, Bool.false_and]
    have k1 : decide (m ≥ -n) = false := decide_eq_false (by omega)
    clear hb hn q1
    go_enter Try.func34, Try.ntmps34
    go_wp2
    go_ret
    exact ⟨rfl, Below.refl _ _⟩

end Go.Proofs.Ytoabhmpakcgloaa

namespace Go.Proofs.Ytoabhmpakcgloaa
open Go.RowKit

abbrev kas0 : Oper := { dst := some 20, op := Op.move (Operand.tmp 0), type := 26, pos := "locks.go:172", after := #[], guard := none }
abbrev kas1 : Oper := { dst := some 21, op := Op.nilCheck (Operand.tmp 20), type := 0, pos := "locks.go:172", after := #[{ on := 0, ground := Ground.data }], guard := none }
abbrev kas2 : Oper := { dst := some 22, op := Op.fieldAddr 81 (Operand.tmp 21) 0, type := 0, pos := "locks.go:172", after := #[{ on := 1, ground := Ground.data }], guard := none }
abbrev kas3 : Oper := { dst := some 23, op := Op.load 24 (Operand.tmp 22), type := 24, pos := "locks.go:172", after := #[{ on := 2, ground := Ground.data }], guard := none }
abbrev kas4 : Oper := { dst := some 24, op := Op.load 35 (Operand.tmp 5), type := 35, pos := "locks.go:172", after := #[], guard := none }
abbrev kas5 : Oper := { dst := some 25, op := Op.call { callee := Callee.value (Operand.func 39), args := #[Operand.tmp 23, Operand.tmp 24], argTypes := #[24, 35] }, type := 56, pos := "locks.go:172", after := #[{ on := 3, ground := Ground.data }, { on := 4, ground := Ground.data }], guard := none }
abbrev kas6 : Oper := { dst := some 26, op := Op.call { callee := Callee.builtin Builtin.len, args := #[Operand.tmp 25], argTypes := #[56] }, type := 3, pos := "locks.go:172", after := #[{ on := 5, ground := Ground.data }], guard := none }
abbrev kas7 : Oper := { dst := some 27, op := Op.binOp BinOp.gtr 3 (Operand.tmp 26) (Operand.const (Value.int IntKind.i64 0)) 3, type := 4, pos := "locks.go:172", after := #[{ on := 6, ground := Ground.data }], guard := none }
abbrev kap0 : Oper := { dst := some 52, op := Op.move (Operand.tmp 0), type := 26, pos := "locks.go:182", after := #[], guard := none }
abbrev kap1 : Oper := { dst := some 53, op := Op.nilCheck (Operand.tmp 52), type := 0, pos := "locks.go:182", after := #[{ on := 0, ground := Ground.data }], guard := none }
abbrev kap2 : Oper := { dst := some 54, op := Op.fieldAddr 81 (Operand.tmp 53) 0, type := 0, pos := "locks.go:182", after := #[{ on := 1, ground := Ground.data }], guard := none }
abbrev kap3 : Oper := { dst := some 55, op := Op.load 24 (Operand.tmp 54), type := 24, pos := "locks.go:182", after := #[{ on := 2, ground := Ground.data }], guard := none }
abbrev kap4 : Oper := { dst := some 56, op := Op.move (Operand.tmp 12), type := 83, pos := "locks.go:182", after := #[], guard := none }
abbrev kap5 : Oper := { dst := some 57, op := Op.load 35 (Operand.tmp 6), type := 35, pos := "locks.go:182", after := #[], guard := none }
abbrev kap6 : Oper := { dst := some 58, op := Op.call { callee := Callee.invoke (Operand.tmp 56) "drowse/locks.queue", args := #[Operand.tmp 57], argTypes := #[35] }, type := 60, pos := "locks.go:182", after := #[{ on := 4, ground := Ground.data }, { on := 5, ground := Ground.data }], guard := none }
abbrev kap7 : Oper := { dst := some 59, op := Op.load 35 (Operand.tmp 5), type := 35, pos := "locks.go:182", after := #[], guard := none }
abbrev kap8 : Oper := { dst := some 60, op := Op.build 43 #[], type := 43, pos := "locks.go:182", after := #[], guard := none }
abbrev kap9 : Oper := { dst := some 61, op := Op.call { callee := Callee.value (Operand.func 40), args := #[Operand.tmp 55, Operand.tmp 58, Operand.tmp 59, Operand.const (Value.int IntKind.i64 0), Operand.tmp 60], argTypes := #[24, 60, 35, 3, 43] }, type := 54, pos := "locks.go:182", after := #[{ on := 3, ground := Ground.data }, { on := 6, ground := Ground.data }, { on := 7, ground := Ground.data }, { on := 8, ground := Ground.data }, { on := 6, ground := Ground.chain }], guard := none }

def kdK (x : Lk) : Int := if x.mu then 2 else 3
/-- g asks for what is of kind k at h: a fate, an error, the records and all behind it -/
def askK (l : List Wt) (ls : List Lk) (g h : Hnd) (k : Int) : Int × Int × List Wt × List Lk :=
  if nnH g = true then (0, 1, l, ls)
  else if 0 < (sel (isWho g.1 g.2) l).length then (0, 163, l, ls)
  else if nnH h = true then (fnF k, 0, l, ls)
  else match fnl ls h with
    | none => (0, 161, l, ls)
    | some x => if kdK x ≠ k then (0, 161, l, ls)
      else if x.mu then (if nnH x.o = true then (0, 0, l, setl ls { x with o := g }) else (1, 0, putW l h.1 h.2 3 g.1 g.2 0 0 0 0, ls))
      else if x.n = 0 then (0, 0, l, ls) else (1, 0, putW l h.1 h.2 4 g.1 g.2 0 0 0 0, ls)
theorem kdT_ab (t : Th) : kdT (some t) = kdK t.ab := rfl
theorem kd_ne {k : Int} (hk : k = 2 ∨ k = 3) : ¬ (0 : Int) = k := by omega

theorem me_m (p : Value) (n : Nat) (w : World) : (method (n + 1) 90 p "drowse/locks.enter").run Try.prog w = .ok (67, p) w := by kernel_rfl
theorem me_g (p : Value) (n : Nat) (w : World) : (method (n + 1) 101 p "drowse/locks.enter").run Try.prog w = .ok (69, p) w := by kernel_rfl
theorem mq_m (p : Value) (n : Nat) (w : World) : (method (n + 1) 90 p "drowse/locks.queue").run Try.prog w = .ok (68, p) w := by kernel_rfl
theorem mq_g (p : Value) (n : Nat) (w : World) : (method (n + 1) 101 p "drowse/locks.queue").run Try.prog w = .ok (70, p) w := by kernel_rfl
theorem LI.apart {w : World} {B c bp M : Nat} {F F' : Nat → Prop} {l : List Wt} {ts ts2 : List Th} (h : LI w B c bp M F l ts) {N A : Nat} (hN : ∀ y, F' y → F y ∨ N ≤ y) (hb : ∀ z ∈ ts2, ∃ u ∈ ts, z.b = u.b) (h1 : w.heap.size ≤ A) (h2 : A < N) : ∀ y, (y = c ∨ y = M ∨ F' y ∨ ∃ x ∈ ts2, y = x.b) → ¬ y = A := by
  intro y hy e
  have key : y = c ∨ y = M ∨ F y ∨ ∃ x ∈ ts, y = x.b := by
    rcases hy with hy | hy | hy | ⟨z, hz, hy⟩
    · exact .inl hy
    · exact .inr (.inl hy)
    · rcases hN y hy with e2 | e2
      · exact .inr (.inr (.inl e2))
      · omega
    · obtain ⟨u, hu, e2⟩ := hb z hz
      exact .inr (.inr (.inr ⟨u, hu, hy.trans e2⟩))
  have := (h.feet key).2
  omega

theorem res_ask (tm : Array Value) (A : Nat) (Z : World) (fate n a b : Int) (ok : Bool) (wk : Value) (q : Int) (h2 : tm[8]?.getD undef = .pointer (some ⟨A, 0, none⟩)) (h3 : tm[9]?.getD undef = .int .i64 q) (hb : Z.heap[A]? = some (.cells #[.int .i64 fate, .int .i64 n, .int .u32 a, .int .u32 b, .bool ok, wk] 46 (0, 0))) :
    (results Try.f27 tm).run Try.prog Z = .ok (.tuple #[didV fate ⟨n, a, b⟩ ok wk, .int .i64 q]) Z := by
  have e := Lib.cell_of_heap hb
  simp [results, Try.f27, h2, h3, go_sem, e]

/-- what is left of them behind a call: their blocks are the same, the book's may be more -/
structure LL (w w' : World) (B c bp M : Nat) (F : Nat → Prop) (ts : List Th) (l2 : List Wt) (ls2 : List Lk) : Prop where
  st : ∃ F' ts', LI w' B c bp M F' l2 ts' ∧ ts'.map Th.ab = ls2 ∧ (∀ y, F' y → F y ∨ w.heap.size ≤ y) ∧ ∀ z ∈ ts', ∃ u ∈ ts, z.b = u.b
  ch : Ch (fun y => F y ∨ ∃ u ∈ ts, y = u.b) w w'

set_option maxRecDepth 100000 in
set_option maxHeartbeats 16000000 in
theorem ask_lis {w : World} {B c bp M : Nat} {F : Nat → Prop} {l : List Wt} {ts : List Th} (h : LI w B c bp M F l ts) (hl : l.length ≤ 100000) {g x : Hnd} (ug : UsW g.1) (ug2 : UsW g.2) (ux : UsW x.1) (ux2 : UsW x.2) {k : Int} (hk : k = 2 ∨ k = 3) :
    Calls Try.prog 27 #[.pointer (some ⟨c, 0, none⟩), hkV g, hkV x, .int .i64 k] w fun e w' => e = .returned (.tuple #[didV (askK l (ts.map Th.ab) g x k).1 zVa false (.slice none 0 0), .int .i64 (askK l (ts.map Th.ab) g x k).2.1]) ∧ LL w w' B c bp M F ts (askK l (ts.map Th.ab) g x k).2.2.1 (askK l (ts.map Th.ab) g x k).2.2.2 := by
  obtain ⟨w1, hw1⟩ : ∃ z, w.alloc (.cells #[.int .u32 g.1, .int .u32 g.2] 35) = z := ⟨_, rfl⟩
  have hc1 : Ch (fun _ => False) w w1 := by rw [← hw1]; exact Ch.alloc _ _
  have hz1 : w1.heap.size = w.heap.size + 1 := by rw [← hw1, World.size_alloc]
  have hn1 : w1.heap[w.heap.size]? = some (.cells #[.int .u32 g.1, .int .u32 g.2] 35 (0, 0)) := by rw [← hw1]; exact heap_new _ _
  obtain ⟨w2, hw2⟩ : ∃ z, w1.alloc (.cells #[.int .u32 x.1, .int .u32 x.2] 35) = z := ⟨_, rfl⟩
  have hc2 : Ch (fun _ => False) w1 w2 := by rw [← hw2]; exact Ch.alloc _ _
  have hz2 : w2.heap.size = w1.heap.size + 1 := by rw [← hw2, World.size_alloc]
  have hn2 : w2.heap[w1.heap.size]? = some (.cells #[.int .u32 x.1, .int .u32 x.2] 35 (0, 0)) := by rw [← hw2]; exact heap_new _ _
  replace hn1 := hc2.box hn1 (fun h => h)
  obtain ⟨w3, hw3⟩ : ∃ z, w2.alloc (.cells #[.int .i64 0, .int .i64 0, .int .u32 0, .int .u32 0, .bool false, .slice none 0 0] 46) = z := ⟨_, rfl⟩
  have hc3 : Ch (fun _ => False) w2 w3 := by rw [← hw3]; exact Ch.alloc _ _
  have hz3 : w3.heap.size = w2.heap.size + 1 := by rw [← hw3, World.size_alloc]
  have hn3 : w3.heap[w2.heap.size]? = some (.cells #[.int .i64 0, .int .i64 0, .int .u32 0, .int .u32 0, .bool false, .slice none 0 0] 46 (0, 0)) := by rw [← hw3]; exact heap_new _ _
  replace hn1 := hc3.box hn1 (fun h => h)
  replace hn2 := hc3.box hn2 (fun h => h)
  have CB := hide ((hc1.trans hc2 (fun _ _ h => h)).trans hc3 (fun _ _ h => h))
  have HZ := hide (And.intro hz1 hz2)
  have HNS := hide (And.intro hn1 (And.intro hn2 hn3))
  have H0 := hide h
  have H := hide (h.quiet CB.out)
  have HX := hide (fun V (cV : Ch (fun _ => False) w3 V) => show (V.cell? ⟨w.heap.size, 0, none⟩ = some (.int .u32 g.1) ∧ V.cell? ⟨w.heap.size, 1, none⟩ = some (.int .u32 g.2)) ∧ (V.cell? ⟨w1.heap.size, 0, none⟩ = some (.int .u32 x.1) ∧ V.cell? ⟨w1.heap.size, 1, none⟩ = some (.int .u32 x.2)) ∧ V.cell? ⟨c, 0, none⟩ = some (.pointer (some ⟨bp, 0, none⟩)) from by
    have e1 := Lib.cell_of_heap (cV.box HNS.out.1 (fun h => h))
    have e2 := Lib.cell_of_heap (cV.box HNS.out.2.1 (fun h => h))
    exact ⟨⟨by simp [e1], by simp [e1]⟩, ⟨by simp [e2], by simp [e2]⟩, (H.out.quiet cV).cells.1⟩)
  have HFIN := hide (fun V (cV : Ch (fun _ => False) w3 V) w' (c' : Ch (fun y => y = w2.heap.size) V w') => show LL w w' B c bp M F ts l (ts.map Th.ab) from by
    have hs := HZ.out
    have cw := CB.out.trans cV (fun _ _ h => h)
    have cq : Ch (fun _ => False) w w' := cw.trans c' (fun y hy e => by omega)
    exact ⟨⟨F, ts, H0.out.quiet cq, rfl, fun y hy => .inl hy, fun z hz => ⟨z, hz, rfl⟩⟩, cq.mono (fun _ _ h => h.elim)⟩)
  obtain ⟨⟨f, er, l2, ls2⟩, hrs⟩ : ∃ rs, askK l (ts.map Th.ab) g x k = rs := ⟨_, rfl⟩
  have HRS := hide hrs
  rw [hrs]
  obtain ⟨⟨s0, s1⟩, -, -⟩ := HX.out w3 (Ch.refl _ _)
  clear h hc1 hz1 hn1 hc2 hz2 hn2 hc3 hz3 hn3 hrs
  go_enter Try.func27, Try.ntmps27
  go_wp2_with fail
  clear hw1 hw2 hw3 s0 s1
  refine (isNone_nn w3 g).mono ?_
  rintro e w4 ⟨rfl, hb4⟩
  have C4 := hide (Ch.of_below (Q := fun _ => False) hb4)
  clear hb4
  cases hg : nnH g with
  | true =>
    have HG := hide hg
    clear hg
    have hz : (f, er, l2, ls2) = (0, 1, l, ts.map Th.ab) := by
      rw [← HRS.out]
      unfold askK
      rw [if_pos HG.out]
    simp only [Prod.mk.injEq] at hz
    obtain ⟨rfl, rfl, rfl, rfl⟩ := hz
    have nV := (C4.out).box HNS.out.2.2 (fun h => h)
    have d0 : w4.cell? ⟨w2.heap.size, 0, none⟩ = some (.int .i64 0) := by simp [Lib.cell_of_heap nV]
    have d1 : w4.cell? ⟨w2.heap.size, 1, none⟩ = some (.int .i64 0) := by simp [Lib.cell_of_heap nV]
    have d2 : w4.cell? ⟨w2.heap.size, 2, none⟩ = some (.int .u32 0) := by simp [Lib.cell_of_heap nV]
    have d3 : w4.cell? ⟨w2.heap.size, 3, none⟩ = some (.int .u32 0) := by simp [Lib.cell_of_heap nV]
    have d4 : w4.cell? ⟨w2.heap.size, 4, none⟩ = some (.bool false) := by simp [Lib.cell_of_heap nV]
    have d5 : w4.cell? ⟨w2.heap.size, 5, none⟩ = some (.slice none 0 0) := by simp [Lib.cell_of_heap nV]
    have df : ∀ j, w4.frozen? ⟨w2.heap.size, j, none⟩ = false := frz nV
    have HS := hide (did_set nV (.int .i64 (0)) (.int .i64 0) (.int .u32 0) (.int .u32 0) (.bool false) (.slice none 0 0))
    clear nV 
    go_wp2_with fail
    refine bodyPost_ret (v := .tuple #[didV (0) zVa false (.slice none 0 0), .int .i64 (1)]) (res_ask _ w2.heap.size _ (0) 0 0 0 false _ (1) rfl rfl HS.out.1) rfl ?_
    exact ⟨rfl, HFIN.out w4 C4.out _ HS.out.2⟩
  | false =>
    have HG := hide hg
    clear hg
    go_wp2
    refine wp_reg (fun _ => False) (R := fun V => Ch (fun _ => False) w4 V) (by kernel_rfl) (Ch.drew _) (fun V cV zk => ?_)
    have CV := hide (C4.out.trans cV (fun _ _ h => h))
    clear cV
    apply tk 0 kas0 rfl (by kernel_rfl) (fun _ _ _ h => h) zk
    · intro wq zq
      go_simp
      try rfl
    go_frame
    apply tk 1 kas1 rfl (by kernel_rfl) (fun _ _ _ h => h) zk
    · intro wq zq
      go_simp
      try rfl
    go_frame
    apply tk 2 kas2 rfl (by kernel_rfl) (fun _ _ _ h => h) zk
    · intro wq zq
      go_simp
      try rfl
    go_frame
    apply tk 3 kas3 rfl (by kernel_rfl) (fun _ _ _ h => h) zk
    · intro wq zq
      obtain ⟨⟨s1, s2⟩, -, s3⟩ := HX.out _ (CV.out.trans zq (fun _ _ h => h))
      go_simp
      try rfl
    go_frame
    apply tk 4 kas4 rfl (by kernel_rfl) (fun _ _ _ h => h) zk
    · intro wq zq
      obtain ⟨⟨s1, s2⟩, -, s3⟩ := HX.out _ (CV.out.trans zq (fun _ _ h => h))
      go_simp
      try rfl
    go_frame
    refine Go.Proofs.Ytoabhmpakcgloaa.rd 5 kas5 rfl (by kernel_rfl) fun K hK => ?_
    go_simp
    refine (face.of g.1 g.2 ug ug2 (H.out.quiet CV.out).bk hl).mono ?_
    rintro e w5 ⟨v5, rfl, hr5, hb5⟩
    have C5 := hide (CV.out.trans (Ch.of_below hb5) (fun _ _ h => h))
    have Z5 := hide (zk.trans (Ch.of_below (Q := fun _ => False) hb5) (fun _ _ h => h))
    obtain ⟨a5, k5, rfl, -, hm5⟩ := hr5.form
    have hm6 : (sel (isWho g.1 g.2) l).length ≤ 9223372036854775807 := by unfold maxLen at hm5; omega
    clear hr5 hb5 hm5
    go_wp2_with fail
    refine hK.out _ _ ?_ (fun zk => ?_)
    · exact Z5.out
    clear hK K
    try go_frame
    apply tk 6 kas6 rfl (by kernel_rfl) (fun _ _ _ h => h) zk
    · intro wq zq
      go_simp
      try rfl
    go_frame
    apply tk 7 kas7 rfl (by kernel_rfl) (fun _ _ _ h => h) zk
    · intro wq zq
      go_simp
      try rfl
    go_frame
    refine wpAnyH_done (by kernel_rfl) ?_ _
    obtain ⟨n, hn⟩ : ∃ n, (sel (isWho g.1 g.2) l).length = n := ⟨_, rfl⟩
    have HN := hide hn
    rw [hn] at hm6
    rw [hn]
    clear hn
    by_cases h0 : 0 < n
    · have q0 : decide (0 < n) = true := decide_eq_true h0
      have H0n := hide h0
      rw [q0]
      clear h0
      have hz : (f, er, l2, ls2) = (0, 163, l, ts.map Th.ab) := by
        rw [← HRS.out]
        unfold askK
        rw [if_neg (by rw [HG.out]; decide), HN.out, if_pos H0n.out]
      simp only [Prod.mk.injEq] at hz
      obtain ⟨rfl, rfl, rfl, rfl⟩ := hz
      have nV := (C5.out).box HNS.out.2.2 (fun h => h)
      have d0 : w5.cell? ⟨w2.heap.size, 0, none⟩ = some (.int .i64 0) := by simp [Lib.cell_of_heap nV]
      have d1 : w5.cell? ⟨w2.heap.size, 1, none⟩ = some (.int .i64 0) := by simp [Lib.cell_of_heap nV]
      have d2 : w5.cell? ⟨w2.heap.size, 2, none⟩ = some (.int .u32 0) := by simp [Lib.cell_of_heap nV]
      have d3 : w5.cell? ⟨w2.heap.size, 3, none⟩ = some (.int .u32 0) := by simp [Lib.cell_of_heap nV]
      have d4 : w5.cell? ⟨w2.heap.size, 4, none⟩ = some (.bool false) := by simp [Lib.cell_of_heap nV]
      have d5 : w5.cell? ⟨w2.heap.size, 5, none⟩ = some (.slice none 0 0) := by simp [Lib.cell_of_heap nV]
      have df : ∀ j, w5.frozen? ⟨w2.heap.size, j, none⟩ = false := frz nV
      have HS := hide (did_set nV (.int .i64 (0)) (.int .i64 0) (.int .u32 0) (.int .u32 0) (.bool false) (.slice none 0 0))
      clear nV 
      go_wp2_with fail
      refine bodyPost_ret (v := .tuple #[didV (0) zVa false (.slice none 0 0), .int .i64 (163)]) (res_ask _ w2.heap.size _ (0) 0 0 0 false _ (163) rfl rfl HS.out.1) rfl ?_
      exact ⟨rfl, HFIN.out w5 C5.out _ HS.out.2⟩
    · have q0 : decide (0 < n) = false := decide_eq_false h0
      have HA1 := hide (show ∀ z, (if nnH g = true then ((0 : Int), (1 : Int), l, ts.map Th.ab) else if 0 < (sel (isWho g.1 g.2) l).length then (0, 163, l, ts.map Th.ab) else z) = z from fun z => by rw [if_neg (by rw [HG.out]; decide), HN.out, if_neg h0])
      rw [q0]
      clear h0 hm6
      obtain ⟨-, ⟨s0, s1⟩, -⟩ := HX.out w5 C5.out
      go_wp2_with fail
      refine (refuse_lis (H.out.quiet C5.out) x hk).mono ?_
      rintro e w6 ⟨rfl, hb6⟩
      have C6 := hide (C5.out.trans (Ch.of_below (Q := fun _ => False) hb6) (fun _ _ h => h))
      clear hb6 s0 s1 q0
      cases hx : nnH x with
      | true =>
        have HHX := hide hx
        have er1 : rfT ts x k = (fnF k, 0) := by unfold rfT; rw [if_pos hx]
        rw [er1]
        have q1 : (fnF k == 0) = false := by unfold fnF; split <;> rfl
        obtain ⟨fk, hfk⟩ : ∃ z, fnF k = z := ⟨_, rfl⟩
        have HFK := hide hfk
        rw [hfk] at q1
        rw [hfk]
        clear hx er1 hfk
        have hz : (f, er, l2, ls2) = (fk, 0, l, ts.map Th.ab) := by
          rw [← HRS.out]
          unfold askK
          rw [HA1.out, if_pos HHX.out, HFK.out]
        simp only [Prod.mk.injEq] at hz
        obtain ⟨rfl, rfl, rfl, rfl⟩ := hz
        have q2 : ¬ f = 0 := by simpa using q1
        have q3 : (f != 0) = true := by simp [q2]
        have nV := (C6.out).box HNS.out.2.2 (fun h => h)
        have d0 : w6.cell? ⟨w2.heap.size, 0, none⟩ = some (.int .i64 0) := by simp [Lib.cell_of_heap nV]
        have d1 : w6.cell? ⟨w2.heap.size, 1, none⟩ = some (.int .i64 0) := by simp [Lib.cell_of_heap nV]
        have d2 : w6.cell? ⟨w2.heap.size, 2, none⟩ = some (.int .u32 0) := by simp [Lib.cell_of_heap nV]
        have d3 : w6.cell? ⟨w2.heap.size, 3, none⟩ = some (.int .u32 0) := by simp [Lib.cell_of_heap nV]
        have d4 : w6.cell? ⟨w2.heap.size, 4, none⟩ = some (.bool false) := by simp [Lib.cell_of_heap nV]
        have d5 : w6.cell? ⟨w2.heap.size, 5, none⟩ = some (.slice none 0 0) := by simp [Lib.cell_of_heap nV]
        have df : ∀ j, w6.frozen? ⟨w2.heap.size, j, none⟩ = false := frz nV
        have HS := hide (did_set nV (.int .i64 (f)) (.int .i64 0) (.int .u32 0) (.int .u32 0) (.bool false) (.slice none 0 0))
        clear nV 
        go_wp2_with fail
        refine bodyPost_ret (v := .tuple #[didV (f) zVa false (.slice none 0 0), .int .i64 (0)]) (res_ask _ w2.heap.size _ (f) 0 0 0 false _ (0) rfl rfl HS.out.1) rfl ?_
        exact ⟨rfl, HFIN.out w6 C6.out _ HS.out.2⟩
      | false =>
        have HHX := hide hx
        by_cases hkd : kdT (fnt ts x) = k
        · have er1 : rfT ts x k = (0, 0) := by unfold rfT; rw [if_neg (by rw [hx]; decide), if_pos hkd]
          rw [er1]
          have HKD := hide hkd
          clear hx er1 hkd
          obtain ⟨-, ⟨s0, s1⟩, -⟩ := HX.out w6 C6.out
          go_wp2_with fail
          refine (at_lis (H.out.quiet C6.out) x).mono ?_
          rintro e w7 ⟨rfl, hb7⟩
          have C7 := hide (C6.out.trans (Ch.of_below (Q := fun _ => False) hb7) (fun _ _ h => h))
          clear hb7 s0 s1
          cases ht : fnt ts x with
          | none =>
            exact absurd (by rw [ht] at HKD; exact HKD.out) (kd_ne hk)
          | some t =>
            obtain ⟨i, hi, hti, hth⟩ := fnt_at ht
            have HT := hide ht
            have hin : t ∈ ts := by rw [← hti]; exact List.getElem_mem hi
            have hbx := (H.out.quiet C7.out).th t hin
            have HA2 := hide (show askK l (ts.map Th.ab) g x k = if t.mu then (if nnH t.o = true then (0, 0, l, setl (ts.map Th.ab) { t.ab with o := g }) else (1, 0, putW l x.1 x.2 3 g.1 g.2 0 0 0 0, ts.map Th.ab)) else if t.n = 0 then (0, 0, l, ts.map Th.ab) else (1, 0, putW l x.1 x.2 4 g.1 g.2 0 0 0 0, ts.map Th.ab) from by
              unfold askK
              rw [HA1.out, if_neg (by rw [HHX.out]; decide), fnl_ab, HT.out]
              have e2 : kdK t.ab = k := by have := HKD.out; rw [HT.out] at this; exact this
              show (if kdK t.ab ≠ k then _ else _) = _
              rw [if_neg (by rw [e2]; simp)]
              rfl)
            have HIN := hide (And.intro hin hti)
            have HTH := hide hth
            clear ht hin hti hth
            obtain ⟨th, tb, tmu, tto, tn⟩ := t
            cases tmu with
            | true =>
              have hbx : w7.heap[tb]? = some (.cells #[.int .u32 tto.1, .int .u32 tto.2] 94 (0, 0)) := hbx
              rw [show tpV (some ⟨th, tb, true, tto, tn⟩) = .iface 90 (.pointer (some ⟨tb, 0, none⟩)) from rfl]
              have hm := me_m (.pointer (some ⟨tb, 0, none⟩))
              obtain ⟨⟨s0, s1⟩, -, -⟩ := HX.out w7 C7.out
              have HBX := hide hbx
              clear hbx
              cases ho : nnH tto with
              | true =>
                have HO := hide ho
                clear ho
                go_wp2_with fail
                refine (enter_free HBX.out HO.out g).mono ?_
                rintro e w8 ⟨rfl, hb8, hc8⟩
                have C8 := hide hc8
                have B8 := hide hb8
                clear hb8 hc8 s0 s1 hm
                have NE := hide (show tb < w.heap.size from (H0.out.th _ HIN.out.1).lt)
                have hz : (f, er, l2, ls2) = (0, 0, l, setl (ts.map Th.ab) ⟨th, true, g, tn⟩) := by
                  rw [← HRS.out]
                  rw [HA2.out]
                  exact (if_pos trivial).trans ((if_pos HO.out).trans rfl)
                simp only [Prod.mk.injEq] at hz
                obtain ⟨rfl, rfl, rfl, rfl⟩ := hz
                have nV := C8.out.box (C7.out.box HNS.out.2.2 (fun h => h)) (fun e => by have := NE.out; have := HZ.out; omega)
                have d0 : w8.cell? ⟨w2.heap.size, 0, none⟩ = some (.int .i64 0) := by simp [Lib.cell_of_heap nV]
                have d1 : w8.cell? ⟨w2.heap.size, 1, none⟩ = some (.int .i64 0) := by simp [Lib.cell_of_heap nV]
                have d2 : w8.cell? ⟨w2.heap.size, 2, none⟩ = some (.int .u32 0) := by simp [Lib.cell_of_heap nV]
                have d3 : w8.cell? ⟨w2.heap.size, 3, none⟩ = some (.int .u32 0) := by simp [Lib.cell_of_heap nV]
                have d4 : w8.cell? ⟨w2.heap.size, 4, none⟩ = some (.bool false) := by simp [Lib.cell_of_heap nV]
                have d5 : w8.cell? ⟨w2.heap.size, 5, none⟩ = some (.slice none 0 0) := by simp [Lib.cell_of_heap nV]
                have df : ∀ j, w8.frozen? ⟨w2.heap.size, j, none⟩ = false := frz nV
                have HS := hide (did_set nV (.int .i64 (0)) (.int .i64 0) (.int .u32 0) (.int .u32 0) (.bool false) (.slice none 0 0))
                clear nV 
                go_wp2_with fail
                refine bodyPost_ret (v := .tuple #[didV (0) zVa false (.slice none 0 0), .int .i64 (0)]) (res_ask _ w2.heap.size _ (0) 0 0 0 false _ (0) rfl rfl HS.out.1) rfl ?_
                obtain ⟨hin, hti⟩ := HIN.out
                have hs := HZ.out
                have h7 := C7.out.size
                have h3 := (Array.getElem?_eq_some_iff.1 HNS.out.2.2).1
                have hne := NE.out
                have li := ((H.out.quiet C7.out).upd hi (x := ⟨th, tb, true, g, tn⟩) B8.out (by rw [hti]; exact ⟨rfl, rfl, rfl⟩) C8.out).frame HS.out.2 (H0.out.apart (N := w7.heap.size) (fun y hy => .inl hy) (fun z hz => by rcases List.mem_or_eq_of_mem_set hz with e | e; exact ⟨z, e, rfl⟩; exact ⟨⟨th, tb, true, tto, tn⟩, hin, by rw [e]⟩) (A := w2.heap.size) (by omega) (by omega))
                exact ⟨rfl, ⟨⟨F, ts.set i ⟨th, tb, true, g, tn⟩, li, set_abt H0.out.nd hi (by rw [hti]), fun y hy => .inl hy, fun z hz => by rcases List.mem_or_eq_of_mem_set hz with e | e; exact ⟨z, e, rfl⟩; exact ⟨⟨th, tb, true, tto, tn⟩, hin, by rw [e]⟩⟩, (((CB.out.trans C7.out (fun _ _ h => h)).mono (Q' := fun y => F y ∨ ∃ u ∈ ts, y = u.b) (fun _ _ h => h.elim)).trans C8.out (fun y _ e => .inr ⟨⟨th, tb, true, tto, tn⟩, hin, e⟩)).trans HS.out.2 (fun y hy e => by omega)⟩⟩
              | false =>
                have HO := hide ho
                clear ho
                go_wp2_with fail
                refine (enter_held HBX.out HO.out g).mono ?_
                rintro e w8 ⟨rfl, hb8⟩
                have C8 := hide (C7.out.trans (Ch.of_below (Q := fun _ => False) hb8) (fun _ _ h => h))
                clear hb8 s0 s1 hm
                go_wp2
                refine wp_reg F (R := fun V => Ch (fun _ => False) w8 V) (by kernel_rfl) (Ch.drew _) (fun V cV zk => ?_)
                have CV := hide (C8.out.trans cV (fun _ _ h => h))
                clear cV
                have HXP := hide (fun wq (kq : Ch F V wq) => show (wq.cell? ⟨w.heap.size, 0, none⟩ = some (.int .u32 g.1) ∧ wq.cell? ⟨w.heap.size, 1, none⟩ = some (.int .u32 g.2)) ∧ (wq.cell? ⟨w1.heap.size, 0, none⟩ = some (.int .u32 x.1) ∧ wq.cell? ⟨w1.heap.size, 1, none⟩ = some (.int .u32 x.2)) ∧ wq.cell? ⟨c, 0, none⟩ = some (.pointer (some ⟨bp, 0, none⟩)) from by
                  have hs := HZ.out
                  have e1 := Lib.cell_of_heap (kq.box (CV.out.box HNS.out.1 (fun h => h)) (fun e => by have := (face.foot H0.out.bk _ e).2; omega))
                  have e2 := Lib.cell_of_heap (kq.box (CV.out.box HNS.out.2.1 (fun h => h)) (fun e => by have := (face.foot H0.out.bk _ e).2; omega))
                  have e3 := Lib.cell_of_heap (kq.box (CV.out.box H.out.box (fun h => h)) (fun e => (H.out.far _ e).1 rfl))
                  exact ⟨⟨by simp [e1], by simp [e1]⟩, ⟨by simp [e2], by simp [e2]⟩, by simp [e3]⟩)
                apply tk 0 kap0 rfl (by kernel_rfl) (fun _ _ _ h => h) zk
                · intro wq zq
                  go_simp
                  try rfl
                go_frame
                apply tk 1 kap1 rfl (by kernel_rfl) (fun _ _ _ h => h) zk
                · intro wq zq
                  go_simp
                  try rfl
                go_frame
                apply tk 2 kap2 rfl (by kernel_rfl) (fun _ _ _ h => h) zk
                · intro wq zq
                  go_simp
                  try rfl
                go_frame
                apply tk 3 kap3 rfl (by kernel_rfl) (fun _ _ _ h => h) zk
                · intro wq zq
                  obtain ⟨⟨s1, s2⟩, ⟨s3, s4⟩, s5⟩ := HXP.out _ zq
                  go_simp
                  try rfl
                go_frame
                apply tk 4 kap4 rfl (by kernel_rfl) (fun _ _ _ h => h) zk
                · intro wq zq
                  go_simp
                  try rfl
                go_frame
                apply tk 5 kap5 rfl (by kernel_rfl) (fun _ _ _ h => h) zk
                · intro wq zq
                  obtain ⟨⟨s1, s2⟩, ⟨s3, s4⟩, s5⟩ := HXP.out _ zq
                  go_simp
                  try rfl
                go_frame
                apply tk 7 kap7 rfl (by kernel_rfl) (fun _ _ _ h => h) zk
                · intro wq zq
                  obtain ⟨⟨s1, s2⟩, ⟨s3, s4⟩, s5⟩ := HXP.out _ zq
                  go_simp
                  try rfl
                go_frame
                apply tk 8 kap8 rfl (by kernel_rfl) (fun _ _ _ h => h) zk
                · intro wq zq
                  go_simp
                  try rfl
                go_frame
                refine Go.Proofs.Ytoabhmpakcgloaa.rd 6 kap6 rfl (by kernel_rfl) fun K hK => ?_
                have hm := mq_m (.pointer (some ⟨tb, 0, none⟩))
                go_simp
                refine (queue_m V _ x).mono ?_
                rintro e w9 ⟨rfl, hb9⟩
                have C9 := hide (CV.out.trans (Ch.of_below (Q := fun _ => False) hb9) (fun _ _ h => h))
                have Z9 := hide (zk.trans (Ch.of_below (Q := F) hb9) (fun _ _ h => h))
                clear hb9 hm
                go_wp2_with fail
                refine hK.out _ _ ?_ (fun zk => ?_)
                · exact Z9.out
                clear hK K
                try go_frame
                refine Go.Proofs.Ytoabhmpakcgloaa.rd 9 kap9 rfl (by kernel_rfl) fun K hK => ?_
                go_simp
                have hlow := (H.out.quiet C9.out).low
                refine (face.put x.1 x.2 3 g.1 g.2 0 0 0 0 ux ux2 (by constructor <;> decide) ug ug2 (by constructor <;> decide) (by constructor <;> decide) (by constructor <;> decide) (by constructor <;> decide) (H.out.quiet C9.out).bk hl hlow).mono ?_
                rintro e w10 ⟨F2, rfl, hp2, hc2, hd2⟩
                have P2 := hide (And.intro hp2 hd2)
                have C2 := hide hc2
                have Z2 := hide (zk.trans hc2 (fun _ _ h => h))
                clear hp2 hd2 hc2 hlow
                go_wp2_with fail
                refine hK.out _ _ ?_ (fun zk => ?_)
                · exact Z2.out
                clear hK K zk Z2 Z9 HXP
                try go_frame
                refine wpAnyH_done (by kernel_rfl) ?_ _
                have hz : (f, er, l2, ls2) = (1, 0, putW l x.1 x.2 3 g.1 g.2 0 0 0 0, ts.map Th.ab) := by
                  rw [← HRS.out]
                  rw [HA2.out]
                  exact (if_pos trivial).trans (if_neg (show ¬ nnH tto = true by rw [HO.out]; decide))
                simp only [Prod.mk.injEq] at hz
                obtain ⟨rfl, rfl, rfl, rfl⟩ := hz
                have nV := C2.out.box (C9.out.box HNS.out.2.2 (fun h => h)) (fun e => by have := (face.foot H0.out.bk _ e).2; have := HZ.out; omega)
                have d0 : w10.cell? ⟨w2.heap.size, 0, none⟩ = some (.int .i64 0) := by simp [Lib.cell_of_heap nV]
                have d1 : w10.cell? ⟨w2.heap.size, 1, none⟩ = some (.int .i64 0) := by simp [Lib.cell_of_heap nV]
                have d2 : w10.cell? ⟨w2.heap.size, 2, none⟩ = some (.int .u32 0) := by simp [Lib.cell_of_heap nV]
                have d3 : w10.cell? ⟨w2.heap.size, 3, none⟩ = some (.int .u32 0) := by simp [Lib.cell_of_heap nV]
                have d4 : w10.cell? ⟨w2.heap.size, 4, none⟩ = some (.bool false) := by simp [Lib.cell_of_heap nV]
                have d5 : w10.cell? ⟨w2.heap.size, 5, none⟩ = some (.slice none 0 0) := by simp [Lib.cell_of_heap nV]
                have df : ∀ j, w10.frozen? ⟨w2.heap.size, j, none⟩ = false := frz nV
                have HS := hide (did_set nV (.int .i64 (1)) (.int .i64 0) (.int .u32 0) (.int .u32 0) (.bool false) (.slice none 0 0))
                clear nV 
                go_wp2_with fail
                refine bodyPost_ret (v := .tuple #[didV (1) zVa false (.slice none 0 0), .int .i64 (0)]) (res_ask _ w2.heap.size _ (1) 0 0 0 false _ (0) rfl rfl HS.out.1) rfl ?_
                have hs := HZ.out
                have h9 := C9.out.size
                have h3 := (Array.getElem?_eq_some_iff.1 HNS.out.2.2).1
                have li := ((H.out.quiet C9.out).book P2.out.1 C2.out P2.out.2).frame HS.out.2 (H0.out.apart (N := w9.heap.size) P2.out.2 (fun z hz => ⟨z, hz, rfl⟩) (A := w2.heap.size) (by omega) (by omega))
                exact ⟨rfl, ⟨⟨F2, ts, li, rfl, fun y hy => (P2.out.2 y hy).imp_right (fun e => by have := CB.out.size; omega), fun z hz => ⟨z, hz, rfl⟩⟩, (((CB.out.trans C9.out (fun _ _ h => h)).mono (Q' := fun y => F y ∨ ∃ u ∈ ts, y = u.b) (fun _ _ h => h.elim)).trans C2.out (fun y _ e => .inl e)).trans HS.out.2 (fun y hy e => by omega)⟩⟩
            | false =>
              have hbx : w7.heap[tb]? = some (.cells #[.int .i64 tn] 106 (0, 0)) := hbx
              rw [show tpV (some ⟨th, tb, false, tto, tn⟩) = .iface 101 (.pointer (some ⟨tb, 0, none⟩)) from rfl]
              have hm := me_g (.pointer (some ⟨tb, 0, none⟩))
              obtain ⟨⟨s0, s1⟩, -, -⟩ := HX.out w7 C7.out
              have HBX := hide hbx
              clear hbx
              go_wp2_with fail
              refine (enter_group HBX.out g).mono ?_
              rintro e w8 ⟨rfl, hb8⟩
              have C8 := hide (C7.out.trans (Ch.of_below (Q := fun _ => False) hb8) (fun _ _ h => h))
              clear hb8 s0 s1 hm
              by_cases ho : tn = 0
              · have HO := hide ho
                rw [decide_eq_true ho]
                clear ho
                have hz : (f, er, l2, ls2) = (0, 0, l, ts.map Th.ab) := by
                  rw [← HRS.out]
                  rw [HA2.out]
                  exact (if_neg (show ¬ false = true by decide)).trans (if_pos HO.out)
                simp only [Prod.mk.injEq] at hz
                obtain ⟨rfl, rfl, rfl, rfl⟩ := hz
                have nV := (C8.out).box HNS.out.2.2 (fun h => h)
                have d0 : w8.cell? ⟨w2.heap.size, 0, none⟩ = some (.int .i64 0) := by simp [Lib.cell_of_heap nV]
                have d1 : w8.cell? ⟨w2.heap.size, 1, none⟩ = some (.int .i64 0) := by simp [Lib.cell_of_heap nV]
                have d2 : w8.cell? ⟨w2.heap.size, 2, none⟩ = some (.int .u32 0) := by simp [Lib.cell_of_heap nV]
                have d3 : w8.cell? ⟨w2.heap.size, 3, none⟩ = some (.int .u32 0) := by simp [Lib.cell_of_heap nV]
                have d4 : w8.cell? ⟨w2.heap.size, 4, none⟩ = some (.bool false) := by simp [Lib.cell_of_heap nV]
                have d5 : w8.cell? ⟨w2.heap.size, 5, none⟩ = some (.slice none 0 0) := by simp [Lib.cell_of_heap nV]
                have df : ∀ j, w8.frozen? ⟨w2.heap.size, j, none⟩ = false := frz nV
                have HS := hide (did_set nV (.int .i64 (0)) (.int .i64 0) (.int .u32 0) (.int .u32 0) (.bool false) (.slice none 0 0))
                clear nV 
                go_wp2_with fail
                refine bodyPost_ret (v := .tuple #[didV (0) zVa false (.slice none 0 0), .int .i64 (0)]) (res_ask _ w2.heap.size _ (0) 0 0 0 false _ (0) rfl rfl HS.out.1) rfl ?_
                exact ⟨rfl, HFIN.out w8 C8.out _ HS.out.2⟩
              · have HO := hide ho
                rw [decide_eq_false ho]
                clear ho
                go_wp2
                refine wp_reg F (R := fun V => Ch (fun _ => False) w8 V) (by kernel_rfl) (Ch.drew _) (fun V cV zk => ?_)
                have CV := hide (C8.out.trans cV (fun _ _ h => h))
                clear cV
                have HXP := hide (fun wq (kq : Ch F V wq) => show (wq.cell? ⟨w.heap.size, 0, none⟩ = some (.int .u32 g.1) ∧ wq.cell? ⟨w.heap.size, 1, none⟩ = some (.int .u32 g.2)) ∧ (wq.cell? ⟨w1.heap.size, 0, none⟩ = some (.int .u32 x.1) ∧ wq.cell? ⟨w1.heap.size, 1, none⟩ = some (.int .u32 x.2)) ∧ wq.cell? ⟨c, 0, none⟩ = some (.pointer (some ⟨bp, 0, none⟩)) from by
                  have hs := HZ.out
                  have e1 := Lib.cell_of_heap (kq.box (CV.out.box HNS.out.1 (fun h => h)) (fun e => by have := (face.foot H0.out.bk _ e).2; omega))
                  have e2 := Lib.cell_of_heap (kq.box (CV.out.box HNS.out.2.1 (fun h => h)) (fun e => by have := (face.foot H0.out.bk _ e).2; omega))
                  have e3 := Lib.cell_of_heap (kq.box (CV.out.box H.out.box (fun h => h)) (fun e => (H.out.far _ e).1 rfl))
                  exact ⟨⟨by simp [e1], by simp [e1]⟩, ⟨by simp [e2], by simp [e2]⟩, by simp [e3]⟩)
                apply tk 0 kap0 rfl (by kernel_rfl) (fun _ _ _ h => h) zk
                · intro wq zq
                  go_simp
                  try rfl
                go_frame
                apply tk 1 kap1 rfl (by kernel_rfl) (fun _ _ _ h => h) zk
                · intro wq zq
                  go_simp
                  try rfl
                go_frame
                apply tk 2 kap2 rfl (by kernel_rfl) (fun _ _ _ h => h) zk
                · intro wq zq
                  go_simp
                  try rfl
                go_frame
                apply tk 3 kap3 rfl (by kernel_rfl) (fun _ _ _ h => h) zk
                · intro wq zq
                  obtain ⟨⟨s1, s2⟩, ⟨s3, s4⟩, s5⟩ := HXP.out _ zq
                  go_simp
                  try rfl
                go_frame
                apply tk 4 kap4 rfl (by kernel_rfl) (fun _ _ _ h => h) zk
                · intro wq zq
                  go_simp
                  try rfl
                go_frame
                apply tk 5 kap5 rfl (by kernel_rfl) (fun _ _ _ h => h) zk
                · intro wq zq
                  obtain ⟨⟨s1, s2⟩, ⟨s3, s4⟩, s5⟩ := HXP.out _ zq
                  go_simp
                  try rfl
                go_frame
                apply tk 7 kap7 rfl (by kernel_rfl) (fun _ _ _ h => h) zk
                · intro wq zq
                  obtain ⟨⟨s1, s2⟩, ⟨s3, s4⟩, s5⟩ := HXP.out _ zq
                  go_simp
                  try rfl
                go_frame
                apply tk 8 kap8 rfl (by kernel_rfl) (fun _ _ _ h => h) zk
                · intro wq zq
                  go_simp
                  try rfl
                go_frame
                refine Go.Proofs.Ytoabhmpakcgloaa.rd 6 kap6 rfl (by kernel_rfl) fun K hK => ?_
                have hm := mq_g (.pointer (some ⟨tb, 0, none⟩))
                go_simp
                refine (queue_g V _ x).mono ?_
                rintro e w9 ⟨rfl, hb9⟩
                have C9 := hide (CV.out.trans (Ch.of_below (Q := fun _ => False) hb9) (fun _ _ h => h))
                have Z9 := hide (zk.trans (Ch.of_below (Q := F) hb9) (fun _ _ h => h))
                clear hb9 hm
                go_wp2_with fail
                refine hK.out _ _ ?_ (fun zk => ?_)
                · exact Z9.out
                clear hK K
                try go_frame
                refine Go.Proofs.Ytoabhmpakcgloaa.rd 9 kap9 rfl (by kernel_rfl) fun K hK => ?_
                go_simp
                have hlow := (H.out.quiet C9.out).low
                refine (face.put x.1 x.2 4 g.1 g.2 0 0 0 0 ux ux2 (by constructor <;> decide) ug ug2 (by constructor <;> decide) (by constructor <;> decide) (by constructor <;> decide) (by constructor <;> decide) (H.out.quiet C9.out).bk hl hlow).mono ?_
                rintro e w10 ⟨F2, rfl, hp2, hc2, hd2⟩
                have P2 := hide (And.intro hp2 hd2)
                have C2 := hide hc2
                have Z2 := hide (zk.trans hc2 (fun _ _ h => h))
                clear hp2 hd2 hc2 hlow
                go_wp2_with fail
                refine hK.out _ _ ?_ (fun zk => ?_)
                · exact Z2.out
                clear hK K zk Z2 Z9 HXP
                try go_frame
                refine wpAnyH_done (by kernel_rfl) ?_ _
                have hz : (f, er, l2, ls2) = (1, 0, putW l x.1 x.2 4 g.1 g.2 0 0 0 0, ts.map Th.ab) := by
                  rw [← HRS.out]
                  rw [HA2.out]
                  exact (if_neg (show ¬ false = true by decide)).trans (if_neg HO.out)
                simp only [Prod.mk.injEq] at hz
                obtain ⟨rfl, rfl, rfl, rfl⟩ := hz
                have nV := C2.out.box (C9.out.box HNS.out.2.2 (fun h => h)) (fun e => by have := (face.foot H0.out.bk _ e).2; have := HZ.out; omega)
                have d0 : w10.cell? ⟨w2.heap.size, 0, none⟩ = some (.int .i64 0) := by simp [Lib.cell_of_heap nV]
                have d1 : w10.cell? ⟨w2.heap.size, 1, none⟩ = some (.int .i64 0) := by simp [Lib.cell_of_heap nV]
                have d2 : w10.cell? ⟨w2.heap.size, 2, none⟩ = some (.int .u32 0) := by simp [Lib.cell_of_heap nV]
                have d3 : w10.cell? ⟨w2.heap.size, 3, none⟩ = some (.int .u32 0) := by simp [Lib.cell_of_heap nV]
                have d4 : w10.cell? ⟨w2.heap.size, 4, none⟩ = some (.bool false) := by simp [Lib.cell_of_heap nV]
                have d5 : w10.cell? ⟨w2.heap.size, 5, none⟩ = some (.slice none 0 0) := by simp [Lib.cell_of_heap nV]
                have df : ∀ j, w10.frozen? ⟨w2.heap.size, j, none⟩ = false := frz nV
                have HS := hide (did_set nV (.int .i64 (1)) (.int .i64 0) (.int .u32 0) (.int .u32 0) (.bool false) (.slice none 0 0))
                clear nV 
                go_wp2_with fail
                refine bodyPost_ret (v := .tuple #[didV (1) zVa false (.slice none 0 0), .int .i64 (0)]) (res_ask _ w2.heap.size _ (1) 0 0 0 false _ (0) rfl rfl HS.out.1) rfl ?_
                have hs := HZ.out
                have h9 := C9.out.size
                have h3 := (Array.getElem?_eq_some_iff.1 HNS.out.2.2).1
                have li := ((H.out.quiet C9.out).book P2.out.1 C2.out P2.out.2).frame HS.out.2 (H0.out.apart (N := w9.heap.size) P2.out.2 (fun z hz => ⟨z, hz, rfl⟩) (A := w2.heap.size) (by omega) (by omega))
                exact ⟨rfl, ⟨⟨F2, ts, li, rfl, fun y hy => (P2.out.2 y hy).imp_right (fun e => by have := CB.out.size; omega), fun z hz => ⟨z, hz, rfl⟩⟩, (((CB.out.trans C9.out (fun _ _ h => h)).mono (Q' := fun y => F y ∨ ∃ u ∈ ts, y = u.b) (fun _ _ h => h.elim)).trans C2.out (fun y _ e => .inl e)).trans HS.out.2 (fun y hy e => by omega)⟩⟩
        · have er1 : rfT ts x k = (0, 161) := by unfold rfT; rw [if_neg (by rw [hx]; decide), if_neg hkd]
          rw [er1]
          have HKD := hide hkd
          clear hx er1 hkd
          have hz : (f, er, l2, ls2) = (0, 161, l, ts.map Th.ab) := by
            rw [← HRS.out]
            unfold askK
            rw [HA1.out, if_neg (by rw [HHX.out]; decide), fnl_ab]
            cases ht : fnt ts x with
            | none => rfl
            | some t =>
              have e2 : ¬ kdK t.ab = k := by have := HKD.out; rw [ht] at this; exact this
              show (if kdK t.ab ≠ k then _ else _) = _
              rw [if_pos e2]
          simp only [Prod.mk.injEq] at hz
          obtain ⟨rfl, rfl, rfl, rfl⟩ := hz
          have nV := (C6.out).box HNS.out.2.2 (fun h => h)
          have d0 : w6.cell? ⟨w2.heap.size, 0, none⟩ = some (.int .i64 0) := by simp [Lib.cell_of_heap nV]
          have d1 : w6.cell? ⟨w2.heap.size, 1, none⟩ = some (.int .i64 0) := by simp [Lib.cell_of_heap nV]
          have d2 : w6.cell? ⟨w2.heap.size, 2, none⟩ = some (.int .u32 0) := by simp [Lib.cell_of_heap nV]
          have d3 : w6.cell? ⟨w2.heap.size, 3, none⟩ = some (.int .u32 0) := by simp [Lib.cell_of_heap nV]
          have d4 : w6.cell? ⟨w2.heap.size, 4, none⟩ = some (.bool false) := by simp [Lib.cell_of_heap nV]
          have d5 : w6.cell? ⟨w2.heap.size, 5, none⟩ = some (.slice none 0 0) := by simp [Lib.cell_of_heap nV]
          have df : ∀ j, w6.frozen? ⟨w2.heap.size, j, none⟩ = false := frz nV
          have HS := hide (did_set nV (.int .i64 (0)) (.int .i64 0) (.int .u32 0) (.int .u32 0) (.bool false) (.slice none 0 0))
          clear nV 
          go_wp2_with fail
          refine bodyPost_ret (v := .tuple #[didV (0) zVa false (.slice none 0 0), .int .i64 (161)]) (res_ask _ w2.heap.size _ (0) 0 0 0 false _ (161) rfl rfl HS.out.1) rfl ?_
          exact ⟨rfl, HFIN.out w6 C6.out _ HS.out.2⟩

end Go.Proofs.Ytoabhmpakcgloaa
