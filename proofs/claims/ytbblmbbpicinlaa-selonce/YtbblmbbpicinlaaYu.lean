/- Layer 14: the landed channels and their book, told by what they hold; what a send, a receive come to. Layer 14: somebody who waits is woken by a send, by a receive; a receive waits. Layer 14: could somebody send, receive? Layer 14: New, Make, Send, Receive, told in one word. -/
import Derived.Test.YtbblmbbpicinlaaYs
namespace Go.Proofs.Ytbblmbbpicinlaa
open Go.RowKit

theorem PTb.nbk {w : World} {B : Nat} {F : Nat → Prop} {p b : Nat} {l : List Wt} {cs : Array Value} {T : TypeId} (h : PTb w B F p l) (hb : w.heap[b]? = some (.cells cs T (0, 0))) (h1 : 124 ≠ T) (h2 : 195 ≠ T) : ¬ F b := by
  obtain ⟨wv, M, C, sl, full, en, cl, n, hk, hi, rfl, hs⟩ := h
  obtain ⟨_, hm⟩ := hk.mp
  rintro (e | e | e | e)
  · subst e
    rw [hk.box] at hb
    injection hb with hb
    injection hb with _ hb _
    exact h1 hb
  · exact hm.ne_cells hb e
  · exact hk.cm.ne_cells hb e
  · exact own_box hk.row hb h2 e

/-- a channel, as it is told -/
structure Kn where
  h : Hnd
  n : Nat
  xs : List Va
  cl : Bool
def Cn.ab (c : Cn) : Kn := ⟨c.h, c.n, c.xs, c.cl⟩
def fnk (ks : List Kn) (h : Hnd) : Option Kn := ks.find? fun c => decide (c.h = h)
theorem fnk_ab (cs : List Cn) (h : Hnd) : fnk (cs.map Cn.ab) h = (fnc cs h).map Cn.ab := by
  unfold fnk fnc
  rw [List.find?_map]
  rfl
theorem fnk_some {ks : List Kn} {h : Hnd} {c : Kn} (e : fnk ks h = some c) : c ∈ ks ∧ c.h = h := ⟨List.mem_of_find?_eq_some e, by have := List.find?_some e; simpa using this⟩
theorem fnc_ab {cs : List Cn} {h : Hnd} {x : Kn} (e : fnk (cs.map Cn.ab) h = some x) : ∃ y, fnc cs h = some y ∧ y.ab = x := by
  rw [fnk_ab] at e
  cases hy : fnc cs h with
  | none => rw [hy] at e; cases e
  | some y => rw [hy] at e; exact ⟨y, rfl, by injection e⟩
def setk (ks : List Kn) (x : Kn) : List Kn := ks.map fun y => if y.h = x.h then x else y
theorem set_ab {cs : List Cn} (hp : cs.Pairwise fun a b => a.h ≠ b.h) {i : Nat} (hi : i < cs.length) {x : Cn} (e : x.h = cs[i].h) : (cs.set i x).map Cn.ab = setk (cs.map Cn.ab) x.ab := by
  apply List.ext_getElem
  · simp [setk]
  · intro j h1 h2
    have hjl : j < cs.length := by simpa using h1
    simp only [setk, List.getElem_map, List.getElem_set]
    by_cases hj : i = j
    · subst hj
      rw [if_pos rfl, if_pos (show cs[i].ab.h = x.ab.h from e.symm)]
    · rw [if_neg hj]
      have hne : cs[j].h ≠ cs[i].h := by
        rcases Nat.lt_or_gt_of_ne hj with hlt | hlt
        · exact fun e => List.pairwise_iff_getElem.1 hp i j hi hjl hlt e.symm
        · exact List.pairwise_iff_getElem.1 hp j i hjl hi hlt
      rw [if_neg (show ¬ cs[j].ab.h = x.ab.h from fun e2 => hne (e2.trans e))]
theorem setk_self {ks : List Kn} (hp : ks.Pairwise fun a b => a.h ≠ b.h) {x : Kn} (hx : x ∈ ks) : setk ks x = ks := by
  unfold setk
  conv => rhs; rw [← List.map_id ks]
  apply List.map_congr_left
  intro y hy
  by_cases e : y.h = x.h
  · rw [if_pos e]
    obtain ⟨i, hi, rfl⟩ := List.getElem_of_mem hx
    obtain ⟨j, hj, rfl⟩ := List.getElem_of_mem hy
    by_cases hij : i = j
    · subst hij; rfl
    · rcases Nat.lt_or_gt_of_ne hij with hlt | hlt
      · exact absurd e.symm (List.pairwise_iff_getElem.1 hp i j hi hj hlt)
      · exact absurd e (List.pairwise_iff_getElem.1 hp j i hj hi hlt)
  · rw [if_neg e]; rfl
theorem setk_len (ks : List Kn) (x : Kn) : (setk ks x).length = ks.length := by simp [setk]
theorem setk_h (ks : List Kn) (x : Kn) : (setk ks x).map Kn.h = ks.map Kn.h := by
  unfold setk
  rw [List.map_map]
  apply List.map_congr_left
  intro y _
  simp only [Function.comp]
  split
  · rename_i h; exact h.symm
  · rfl
theorem setk_find (ks : List Kn) (x : Kn) (h : Hnd) : fnk (setk ks x) h = (fnk ks h).map fun y => if y.h = x.h then x else y := by
  unfold fnk setk
  rw [List.find?_map]
  congr 1
  apply congrArg (fun p => List.find? p ks)
  funext y
  simp only [Function.comp]
  split
  · rename_i e; rw [e]
  · rfl
theorem fnc_at {cs : List Cn} {h : Hnd} {y : Cn} (e : fnc cs h = some y) : ∃ i, ∃ hi : i < cs.length, cs[i] = y ∧ y.h = h := by
  obtain ⟨h1, h2⟩ := fnc_some e
  obtain ⟨i, hi, e⟩ := List.getElem_of_mem h1
  exact ⟨i, hi, e, h2⟩

/-- who is woken, for which arm, with what; and an answer -/
structure Wk where
  s : Int
  g : Int
  a : Int
  v : Va
  ok : Bool
  f : Int
def wkL (k : Wk) : List Value := wkF k.s k.g k.a k.v k.ok k.f
theorem wkL_len (k : Wk) : (wkL k).length = 8 := rfl
theorem wkL_one (k : Wk) : ∀ v ∈ wkL k, v.oneCell' = true := by
  intro u hu
  simp only [wkL, wkF, List.mem_cons, List.not_mem_nil, or_false] at hu
  rcases hu with rfl | rfl | rfl | rfl | rfl | rfl | rfl | rfl <;> rfl
abbrev WkRow (w : World) (B : Nat) (v : Value) (l : List Wk) : Prop := Row wkL 8 119 w B v l
structure Dd where
  f : Int
  v : Va
  ok : Bool
  wk : List Wk
abbrev ddV (d : Dd) (sv : Value) : Value := didV d.f d.v d.ok sv
/-- a list of one that is woken -/
theorem wk_one {w : World} {B nb : Nat} {k : Wk} (hB : B ≤ nb) (h : w.heap[nb]? = some (.cells (wkL k).toArray 119 (0, 0))) : WkRow w B (.slice (some ⟨nb, 0, none⟩) 1 1) [k] :=
  ⟨rfl, .inr ⟨nb, 1, (wkL k).toArray, rfl, hB, h, Nat.le_refl _, by unfold maxLen; decide, rfl, by simp [wkL, wkF]⟩⟩

/-- a send; the records, the channel behind it -/
def sndK (l : List Wt) (x : Kn) (g : Hnd) (v : Va) : Dd × List Wt × Kn :=
  if x.cl then (⟨12, zVa, false, []⟩, l, x)
  else match sel (inRow x.h.1 x.h.2 2) l with
    | r :: _ => (⟨0, zVa, false, [⟨r.ws, r.wg, r.ar, v, true, 0⟩]⟩, leaW l r.ws r.wg, x)
    | [] => if x.xs.length < x.n then (⟨0, zVa, false, []⟩, l, { x with xs := x.xs ++ [v] })
      else (⟨1, zVa, false, []⟩, putW l x.h.1 x.h.2 1 g.1 g.2 0 v.n v.s v.g, x)
/-- a receive -/
def rcvK (l : List Wt) (x : Kn) (g : Hnd) : Dd × List Wt × Kn :=
  match x.xs with
  | v :: rest => match sel (inRow x.h.1 x.h.2 1) l with
    | [] => (⟨0, v, true, []⟩, l, { x with xs := rest })
    | r :: _ => (⟨0, v, true, [⟨r.ws, r.wg, r.ar, zVa, false, 0⟩]⟩, leaW l r.ws r.wg, { x with xs := rest ++ [⟨r.vn, r.vs, r.vg⟩] })
  | [] => match sel (inRow x.h.1 x.h.2 1) l with
    | r :: _ => (⟨0, ⟨r.vn, r.vs, r.vg⟩, true, [⟨r.ws, r.wg, r.ar, zVa, false, 0⟩]⟩, leaW l r.ws r.wg, x)
    | [] => if x.cl then (⟨0, zVa, false, []⟩, l, x) else (⟨1, zVa, false, []⟩, putW l x.h.1 x.h.2 2 g.1 g.2 0 0 0 0, x)
/-- could somebody send, receive? -/
def cnS (l : List Wt) (x : Kn) : Bool := x.cl || (!(sel (inRow x.h.1 x.h.2 2) l).isEmpty || decide (x.xs.length < x.n))
def cnR (l : List Wt) (x : Kn) : Bool := decide (0 < x.xs.length) || (!(sel (inRow x.h.1 x.h.2 1) l).isEmpty || x.cl)

/-- what is known of the records -/
structure RcOk (r : Rc) : Prop where
  w1 : UsW r.ws
  w2 : UsW r.wg
  ar : I64 r.ar
  v0 : I64 r.vn
  v1 : UsW r.vs
  v2 : UsW r.vg
def WtOk (l : List Wt) : Prop := ∀ t ∈ l, RcOk t.r
theorem WtOk.sel {l : List Wt} (h : WtOk l) (q : Wt → Bool) {r : Rc} (hr : r ∈ sel q l) : RcOk r := by
  unfold Go.Proofs.Ytbblmbbpicinlaa.sel at hr
  obtain ⟨t, ht, rfl⟩ := List.mem_map.1 hr
  exact h t (List.mem_filter.1 ht).1
theorem over_r (t : Wt) : (over t).r = t.r := rfl
theorem WtOk.lea {l : List Wt} (h : WtOk l) (s g : Int) : WtOk (leaW l s g) := by
  intro t ht
  unfold leaW at ht
  obtain ⟨u, hu, rfl⟩ := List.mem_map.1 ht
  split
  · rw [over_r]; exact h u hu
  · exact h u hu
theorem WtOk.put {l : List Wt} (h : WtOk l) {rs rg rd ws wg ar vn vs vg : Int} (h1 : UsW ws) (h2 : UsW wg) (h3 : I64 ar) (h4 : I64 vn) (h5 : UsW vs) (h6 : UsW vg) : WtOk (putW l rs rg rd ws wg ar vn vs vg) := by
  unfold putW
  split
  · intro t ht
    rcases List.mem_append.1 ht with ht | ht
    · exact h t ht
    · rw [List.mem_singleton.1 ht]; exact ⟨h1, h2, h3, h4, h5, h6⟩
  · exact h

/-- the channels and their book; G: their blocks -/
def SW (w : World) (B c bp : Nat) (l : List Wt) (ks : List Kn) (G : Nat → Prop) : Prop :=
  ∃ M F cs, CI w B c bp M F l cs ∧ cs.map Cn.ab = ks ∧ ∀ y, G y ↔ (y = c ∨ y = M ∨ F y ∨ ∃ x ∈ cs, x.mine y)

section
variable {w w' : World} {B c bp M : Nat} {F : Nat → Prop} {l : List Wt} {cs : List Cn} {ks : List Kn} {G : Nat → Prop}
theorem CI.frame {Q : Nat → Prop} (h : CI w B c bp M F l cs) (hc : Ch Q w w') (hq : ∀ y, (y = c ∨ y = M ∨ F y ∨ ∃ x ∈ cs, x.mine y) → ¬ Q y) : CI w' B c bp M F l cs :=
  ⟨hc.box h.box (hq _ (.inl rfl)), h.mp.ch hc (hq _ (.inr (.inl rfl))), face.ch h.bk hc (fun y hy => hq y (.inr (.inr (.inl hy)))), fun x hx => (h.ch x hx).ch hc (fun y hy => hq y (.inr (.inr (.inr ⟨x, hx, hy⟩)))), h.ap, h.nd, h.far, h.lo, Nat.le_trans h.low hc.size⟩
theorem SW.frame {Q : Nat → Prop} (h : SW w B c bp l ks G) (hc : Ch Q w w') (hq : ∀ y, G y → ¬ Q y) : SW w' B c bp l ks G := by
  obtain ⟨M, F, cs, h1, h2, h3⟩ := h
  exact ⟨M, F, cs, h1.frame hc (fun y hy => hq y ((h3 y).2 hy)), h2, h3⟩
theorem SW.quiet (h : SW w B c bp l ks G) (hc : Ch (fun _ => False) w w') : SW w' B c bp l ks G := h.frame hc (fun _ _ h => h)
theorem SW.below (h : SW w B c bp l ks G) (hb : Below w.heap.size w w') : SW w' B c bp l ks G := h.quiet (Ch.of_below hb)
theorem CI.feet (h : CI w B c bp M F l cs) {y : Nat} (hy : y = c ∨ y = M ∨ F y ∨ ∃ x ∈ cs, x.mine y) : B ≤ y ∧ y < w.heap.size := by
  rcases hy with rfl | rfl | hy | ⟨x, hx, hy⟩
  · exact ⟨h.lo.1, (Array.getElem?_eq_some_iff.1 h.box).1⟩
  · exact ⟨h.lo.2.1, h.mp.lt⟩
  · exact face.foot h.bk y hy
  · exact ⟨h.lo.2.2 x hx y hy, (h.ch x hx).lt y hy⟩
theorem SW.foot (h : SW w B c bp l ks G) {y : Nat} (hy : G y) : B ≤ y ∧ y < w.heap.size := by
  obtain ⟨M, F, cs, h1, h2, h3⟩ := h
  exact h1.feet ((h3 y).1 hy)
theorem SW.low (h : SW w B c bp l ks G) : B ≤ w.heap.size := by
  obtain ⟨M, F, cs, h1, h2, h3⟩ := h
  exact h1.low
/-- a box of another kind is none of theirs -/
theorem SW.nbox (h : SW w B c bp l ks G) {b : Nat} {a : Array Value} {T : TypeId} (hb : w.heap[b]? = some (.cells a T (0, 0))) (h1 : 124 ≠ T) (h2 : 195 ≠ T) (h3 : 127 ≠ T) (h4 : 147 ≠ T) (h5 : 204 ≠ T) (h6 : 46 ≠ T) : ¬ G b := by
  obtain ⟨M, F, cs, h, -, hG⟩ := h
  rw [hG]
  have ne : ∀ {b' : Nat} {cs' : Array Value} {T' : TypeId} {r' : Nat × Nat}, w.heap[b']? = some (.cells cs' T' r') → T' ≠ T → ¬ b = b' := fun {b' cs' T' r'} hb' hT e => by
    rw [e, hb'] at hb
    injection hb with hb
    injection hb with _ hT2 _
    exact hT hT2
  rintro (e | e | e | ⟨x, hx, e | e | e⟩)
  · exact ne h.box h3 e
  · exact MapF.ne_cells h.mp hb e
  · exact h.bk.nbk hb h1 h2 e
  · exact ne (h.ch x hx).box h4 e
  · exact ne (h.ch x hx).ring.box h5 e
  · exact ne (h.ch x hx).ring.row h6 e
theorem SW.nd (h : SW w B c bp l ks G) : ks.Pairwise fun a b => a.h ≠ b.h := by
  obtain ⟨M, F, cs, h1, rfl, h3⟩ := h
  rw [List.pairwise_map]
  exact h1.nd
theorem SW.room (h : SW w B c bp l ks G) {x : Kn} (hx : x ∈ ks) : x.xs.length ≤ x.n ∧ x.n ≤ 100 := by
  obtain ⟨M, F, cs, h1, rfl, h3⟩ := h
  obtain ⟨y, hy, rfl⟩ := List.mem_map.1 hx
  exact ⟨(h1.ch y hy).ring.lies.cnt, (h1.ch y hy).ring.n1⟩
end

end Go.Proofs.Ytbblmbbpicinlaa

namespace Go.Proofs.Ytbblmbbpicinlaa
open Go.RowKit

abbrev ksw0 : Oper := { dst := some 23, op := Op.move (Operand.tmp 0), type := 143, pos := "channel.go:21", after := #[], guard := none }
abbrev ksw1 : Oper := { dst := some 24, op := Op.nilCheck (Operand.tmp 23), type := 0, pos := "channel.go:21", after := #[{ on := 0, ground := Ground.data }], guard := none }
abbrev ksw2 : Oper := { dst := some 25, op := Op.fieldAddr 147 (Operand.tmp 24) 0, type := 0, pos := "channel.go:21", after := #[{ on := 1, ground := Ground.data }], guard := none }
abbrev ksw3 : Oper := { dst := some 26, op := Op.load 145 (Operand.tmp 25), type := 145, pos := "channel.go:21", after := #[{ on := 2, ground := Ground.data }], guard := none }
abbrev ksw4 : Oper := { dst := some 27, op := Op.load 136 (Operand.tmp 7), type := 136, pos := "channel.go:21", after := #[], guard := none }
abbrev ksw5 : Oper := { dst := some 28, op := Op.load 46 (Operand.tmp 5), type := 46, pos := "channel.go:21", after := #[], guard := none }
abbrev ksw6 : Oper := { dst := some 29, op := Op.build 117 #[(1, Operand.tmp 28), (2, Operand.const (Value.bool true))], type := 117, pos := "channel.go:21", after := #[{ on := 5, ground := Ground.data }], guard := none }
abbrev ksw7 : Oper := { dst := some 30, op := Op.call { callee := Callee.value (Operand.func 104), args := #[Operand.tmp 26, Operand.tmp 27, Operand.tmp 29], argTypes := #[145, 136, 117] }, type := 119, pos := "channel.go:21", after := #[{ on := 3, ground := Ground.data }, { on := 4, ground := Ground.data }, { on := 6, ground := Ground.data }], guard := none }
abbrev ksw8 : Oper := { dst := some 31, op := Op.buildSlice 70 1 #[(0, Operand.tmp 30)], type := 70, pos := "channel.go:21", after := #[{ on := 7, ground := Ground.data }], guard := none }
abbrev ksw9 : Oper := { dst := some 32, op := Op.build 72 #[(3, Operand.tmp 31)], type := 72, pos := "channel.go:21", after := #[{ on := 8, ground := Ground.data }], guard := none }
abbrev ksw10 : Oper := { dst := none, op := Op.store 72 (Operand.tmp 6) (Operand.tmp 32), type := 0, pos := "channel.go:21", after := #[{ on := 9, ground := Ground.data }, { on := 7, ground := Ground.chain }, { on := 0, ground := Ground.phase }, { on := 1, ground := Ground.phase }, { on := 2, ground := Ground.phase }, { on := 3, ground := Ground.phase }, { on := 4, ground := Ground.phase }, { on := 5, ground := Ground.phase }, { on := 6, ground := Ground.phase }, { on := 7, ground := Ground.phase }, { on := 8, ground := Ground.phase }, { on := 9, ground := Ground.phase }], guard := none }
abbrev krw0 : Oper := { dst := some 32, op := Op.fieldAddr 136 (Operand.tmp 7) 4, type := 0, pos := "channel.go:35", after := #[], guard := none }
abbrev krw1 : Oper := { dst := some 33, op := Op.load 46 (Operand.tmp 32), type := 46, pos := "channel.go:35", after := #[{ on := 0, ground := Ground.data }], guard := none }
abbrev krw2 : Oper := { dst := some 34, op := Op.move (Operand.tmp 0), type := 143, pos := "channel.go:35", after := #[], guard := none }
abbrev krw3 : Oper := { dst := some 35, op := Op.nilCheck (Operand.tmp 34), type := 0, pos := "channel.go:35", after := #[{ on := 2, ground := Ground.data }], guard := none }
abbrev krw4 : Oper := { dst := some 36, op := Op.fieldAddr 147 (Operand.tmp 35) 0, type := 0, pos := "channel.go:35", after := #[{ on := 3, ground := Ground.data }], guard := none }
abbrev krw5 : Oper := { dst := some 37, op := Op.load 145 (Operand.tmp 36), type := 145, pos := "channel.go:35", after := #[{ on := 4, ground := Ground.data }], guard := none }
abbrev krw6 : Oper := { dst := some 38, op := Op.load 136 (Operand.tmp 7), type := 136, pos := "channel.go:35", after := #[], guard := none }
abbrev krw7 : Oper := { dst := some 39, op := Op.build 117 #[], type := 117, pos := "channel.go:35", after := #[], guard := none }
abbrev krw8 : Oper := { dst := some 40, op := Op.call { callee := Callee.value (Operand.func 104), args := #[Operand.tmp 37, Operand.tmp 38, Operand.tmp 39], argTypes := #[145, 136, 117] }, type := 119, pos := "channel.go:35", after := #[{ on := 5, ground := Ground.data }, { on := 6, ground := Ground.data }, { on := 7, ground := Ground.data }], guard := none }
abbrev krw9 : Oper := { dst := some 41, op := Op.buildSlice 70 1 #[(0, Operand.tmp 40)], type := 70, pos := "channel.go:35", after := #[{ on := 8, ground := Ground.data }], guard := none }
abbrev krw10 : Oper := { dst := some 42, op := Op.build 72 #[(1, Operand.tmp 33), (2, Operand.const (Value.bool true)), (3, Operand.tmp 41)], type := 72, pos := "channel.go:35", after := #[{ on := 1, ground := Ground.data }, { on := 9, ground := Ground.data }], guard := none }
abbrev krw11 : Oper := { dst := none, op := Op.store 72 (Operand.tmp 4) (Operand.tmp 42), type := 0, pos := "channel.go:35", after := #[{ on := 10, ground := Ground.data }, { on := 8, ground := Ground.chain }, { on := 0, ground := Ground.phase }, { on := 1, ground := Ground.phase }, { on := 2, ground := Ground.phase }, { on := 3, ground := Ground.phase }, { on := 4, ground := Ground.phase }, { on := 5, ground := Ground.phase }, { on := 6, ground := Ground.phase }, { on := 7, ground := Ground.phase }, { on := 8, ground := Ground.phase }, { on := 9, ground := Ground.phase }, { on := 10, ground := Ground.phase }], guard := none }
abbrev krp0 : Oper := { dst := some 48, op := Op.move (Operand.tmp 0), type := 143, pos := "channel.go:40", after := #[], guard := none }
abbrev krp1 : Oper := { dst := some 49, op := Op.nilCheck (Operand.tmp 48), type := 0, pos := "channel.go:40", after := #[{ on := 0, ground := Ground.data }], guard := none }
abbrev krp2 : Oper := { dst := some 50, op := Op.fieldAddr 147 (Operand.tmp 49) 0, type := 0, pos := "channel.go:40", after := #[{ on := 1, ground := Ground.data }], guard := none }
abbrev krp3 : Oper := { dst := some 51, op := Op.load 145 (Operand.tmp 50), type := 145, pos := "channel.go:40", after := #[{ on := 2, ground := Ground.data }], guard := none }
abbrev krp4 : Oper := { dst := some 52, op := Op.load 43 (Operand.tmp 3), type := 43, pos := "channel.go:40", after := #[], guard := none }
abbrev krp5 : Oper := { dst := some 53, op := Op.build 46 #[], type := 46, pos := "channel.go:40", after := #[], guard := none }
abbrev krp6 : Oper := { dst := some 54, op := Op.call { callee := Callee.value (Operand.func 64), args := #[Operand.tmp 51, Operand.const (Value.int IntKind.i64 2), Operand.tmp 52, Operand.tmp 53], argTypes := #[145, 44, 43, 46] }, type := 72, pos := "channel.go:40", after := #[{ on := 3, ground := Ground.data }, { on := 4, ground := Ground.data }, { on := 5, ground := Ground.data }], guard := none }
abbrev krp7 : Oper := { dst := none, op := Op.store 72 (Operand.tmp 4) (Operand.tmp 54), type := 0, pos := "channel.go:40", after := #[{ on := 6, ground := Ground.data }, { on := 6, ground := Ground.chain }, { on := 0, ground := Ground.phase }, { on := 1, ground := Ground.phase }, { on := 2, ground := Ground.phase }, { on := 3, ground := Ground.phase }, { on := 4, ground := Ground.phase }, { on := 5, ground := Ground.phase }, { on := 6, ground := Ground.phase }], guard := none }

set_option maxRecDepth 100000 in
set_option maxHeartbeats 8000000 in
theorem send_wake {w : World} {B c bp M : Nat} {F : Nat → Prop} {l : List Wt} {cs : List Cn} (h : CI w B c bp M F l cs) (hl : l.length ≤ 100000) {x : Cn} (hin : x ∈ cs) {g : Hnd} {v : Va} (sb : SnB x g v) (hcl : x.cl = false) {r : Rc} {rest : List Rc} (hq : sel (inRow x.h.1 x.h.2 2) l = r :: rest) (ur1 : UsW r.ws) (ur2 : UsW r.wg) :
    Calls Try.prog 69 #[.pointer (some ⟨x.cb, 0, none⟩), hkV g, vaV v] w fun e w' => ∃ nb F', e = .returned (didV 0 zVa false (.slice (some ⟨nb, 0, none⟩) 1 1)) ∧ w.heap.size ≤ nb ∧ w'.heap[nb]? = some (.cells (wkF r.ws r.wg r.ar v true 0).toArray 119 (0, 0)) ∧ CI w' B c bp M F' (leaW l r.ws r.wg) cs ∧ Ch F w w' ∧ ∀ y, F' y → F y ∨ w.heap.size ≤ y := by
  obtain ⟨w1, hw1⟩ : ∃ w1, w.alloc (.cells #[.int .u32 g.1, .int .u32 g.2] 43) = w1 := ⟨_, rfl⟩
  have hc1 : Ch (fun _ => False) w w1 := by rw [← hw1]; exact Ch.alloc _ _
  have hz1 : w1.heap.size = w.heap.size + 1 := by rw [← hw1, World.size_alloc]
  have hn1 : w1.heap[w.heap.size]? = some (.cells #[.int .u32 g.1, .int .u32 g.2] 43 (0, 0)) := by rw [← hw1]; exact heap_new _ _
  obtain ⟨w2, hw2⟩ : ∃ w2, w1.alloc (.cells #[.int .i64 v.n, .int .u32 v.s, .int .u32 v.g] 46) = w2 := ⟨_, rfl⟩
  have hc2 : Ch (fun _ => False) w1 w2 := by rw [← hw2]; exact Ch.alloc _ _
  have hz2 : w2.heap.size = w1.heap.size + 1 := by rw [← hw2, World.size_alloc]
  have hn2 : w2.heap[w1.heap.size]? = some (.cells #[.int .i64 v.n, .int .u32 v.s, .int .u32 v.g] 46 (0, 0)) := by rw [← hw2]; exact heap_new _ _
  replace hn1 := hc2.box hn1 (fun h => h)
  obtain ⟨w3, hw3⟩ : ∃ w3, w2.alloc (.cells #[.int .i64 0, .int .i64 0, .int .u32 0, .int .u32 0, .bool false, .slice none 0 0] 72) = w3 := ⟨_, rfl⟩
  have hc3 : Ch (fun _ => False) w2 w3 := by rw [← hw3]; exact Ch.alloc _ _
  have hz3 : w3.heap.size = w2.heap.size + 1 := by rw [← hw3, World.size_alloc]
  have hn3 : w3.heap[w2.heap.size]? = some (.cells #[.int .i64 0, .int .i64 0, .int .u32 0, .int .u32 0, .bool false, .slice none 0 0] 72 (0, 0)) := by rw [← hw3]; exact heap_new _ _
  replace hn1 := hc3.box hn1 (fun h => h)
  replace hn2 := hc3.box hn2 (fun h => h)
  have C3 := hide ((hc1.trans hc2 (fun _ _ h => h)).trans hc3 (fun _ _ h => h))
  have HN := hide (And.intro hn1 (And.intro hn2 hn3))
  have HZ := hide (And.intro hz1 (And.intro hz2 hz3))
  have HLT := hide (show (∀ y, x.mine y → y < w.heap.size) ∧ ∀ y, F y → y < w.heap.size from ⟨(h.ch x hin).lt, fun y hy => (face.foot h.bk y hy).2⟩)
  have H0 := hide h
  have H := hide (h.quiet C3.out)
  have HIN := hide hin
  have SB := hide sb
  have HFI := hide (show Calls Try.prog 103 #[plV bp x.h.1 x.h.2, .int .i64 2] w3 fun e w' => e = .returned (.tuple #[rcV r, .bool true]) ∧ Below w3.heap.size w3 w' from by
    have := pfirst_is H.out.bk hl sb.h1 sb.h2 (show I64 2 by constructor <;> decide)
    rw [hq] at this
    exact this)
  obtain ⟨x0, x1, x2, x3, x4⟩ := (H.out.ch x hin).cells
  rw [hcl] at x4
  clear h hc1 hc2 hc3 hz1 hz2 hz3 hn1 hn2 hn3 hin sb hq hcl
  go_enter Try.func69, Try.ntmps69
  go_wp2_with fail
  refine HFI.out.mono ?_
  rintro e w4 ⟨rfl, hb4⟩
  have hc4 := Ch.of_below (Q := fun _ => False) hb4
  clear hb4 x0 x1 x2 x3 x4 hw1 hw2 hw3 HFI
  go_wp2
  obtain ⟨w5, hw5⟩ : ∃ w5, w4.alloc (.cells #[.int .u32 r.ms, .int .u32 r.mg, .int .u32 r.ws, .int .u32 r.wg, .int .u32 r.rs, .int .u32 r.rg, .int .i64 r.rd, .int .i64 r.ar, .int .i64 r.vn, .int .u32 r.vs, .int .u32 r.vg] 136) = w5 := ⟨_, rfl⟩
  rw [hw5]
  have hc5 : Ch (fun _ => False) w4 w5 := by rw [← hw5]; exact Ch.alloc _ _
  have hn5 : w5.heap[w4.heap.size]? = some (.cells #[.int .u32 r.ms, .int .u32 r.mg, .int .u32 r.ws, .int .u32 r.wg, .int .u32 r.rs, .int .u32 r.rg, .int .i64 r.rd, .int .i64 r.ar, .int .i64 r.vn, .int .u32 r.vs, .int .u32 r.vg] 136 (0, 0)) := by rw [← hw5]; exact heap_new _ _
  have N5 := hide hn5
  have S4 := hide hc4.size
  have C5 := hide (hc4.trans hc5 (fun _ _ h => h))
  have H5 := hide (H.out.quiet C5.out)
  clear hc4 hc5 hw5 hn5
  have hzz := HZ.out
  have NCB : ¬ (F x.cb ∨ x.cb = w2.heap.size) := fun e => e.elim (fun e => (H5.out.far _ e).2.2 x HIN.out (.inl rfl)) (fun e => by have := HLT.out.1 x.cb (.inl rfl); omega)
  have s3 := C3.out.size
  have s4 := S4.out
  have NBX : ¬ (F w1.heap.size ∨ w1.heap.size = w2.heap.size) := fun e => e.elim (fun e => by have := HLT.out.2 _ e; omega) (fun e => by omega)
  have NBR : ¬ (F w4.heap.size ∨ w4.heap.size = w2.heap.size) := fun e => e.elim (fun e => by have := HLT.out.2 _ e; omega) (fun e => by omega)
  clear hzz s3 s4
  refine wp_reg (fun y => F y ∨ y = w2.heap.size) (R := fun V => Ch (fun _ => False) w5 V) (by kernel_rfl) (Ch.drew _) (fun V cV zk => ?_)
  have CV := hide (C5.out.trans cV (fun _ _ h => h))
  have NV := hide (cV.box N5.out (fun h => h))
  have HV := hide (H5.out.quiet cV)
  clear cV
  have HXX := hide (fun wq (kq : Ch (fun y => F y ∨ y = w2.heap.size) V wq) => show (wq.cell? ⟨x.cb, 0, none⟩ = some (.pointer (some ⟨bp, 0, none⟩)) ∧ wq.cell? ⟨x.cb, 1, none⟩ = some (.int .u32 x.h.1) ∧ wq.cell? ⟨x.cb, 2, none⟩ = some (.int .u32 x.h.2)) ∧ (wq.cell? ⟨w1.heap.size, 0, none⟩ = some (.int .i64 v.n) ∧ wq.cell? ⟨w1.heap.size, 1, none⟩ = some (.int .u32 v.s) ∧ wq.cell? ⟨w1.heap.size, 2, none⟩ = some (.int .u32 v.g)) ∧ wq.cell? ⟨w4.heap.size, 0, none⟩ = some (.int .u32 r.ms) ∧ wq.cell? ⟨w4.heap.size, 1, none⟩ = some (.int .u32 r.mg) ∧ wq.cell? ⟨w4.heap.size, 2, none⟩ = some (.int .u32 r.ws) ∧ wq.cell? ⟨w4.heap.size, 3, none⟩ = some (.int .u32 r.wg) ∧ wq.cell? ⟨w4.heap.size, 4, none⟩ = some (.int .u32 r.rs) ∧ wq.cell? ⟨w4.heap.size, 5, none⟩ = some (.int .u32 r.rg) ∧ wq.cell? ⟨w4.heap.size, 6, none⟩ = some (.int .i64 r.rd) ∧ wq.cell? ⟨w4.heap.size, 7, none⟩ = some (.int .i64 r.ar) ∧ wq.cell? ⟨w4.heap.size, 8, none⟩ = some (.int .i64 r.vn) ∧ wq.cell? ⟨w4.heap.size, 9, none⟩ = some (.int .u32 r.vs) ∧ wq.cell? ⟨w4.heap.size, 10, none⟩ = some (.int .u32 r.vg) from by
    have e0 := Lib.cell_of_heap (kq.box (HV.out.ch x HIN.out).box NCB)
    have e1 := Lib.cell_of_heap (kq.box (CV.out.box HN.out.2.1 (fun h => h)) NBX)
    have e2 := Lib.cell_of_heap (kq.box NV.out NBR)
    exact ⟨⟨by simp [e0], by simp [e0], by simp [e0]⟩, ⟨by simp [e1], by simp [e1], by simp [e1]⟩, by simp [e2], by simp [e2], by simp [e2], by simp [e2], by simp [e2], by simp [e2], by simp [e2], by simp [e2], by simp [e2], by simp [e2], by simp [e2]⟩)
  apply tk 0 ksw0 rfl (by kernel_rfl) (fun _ _ _ h => h) zk
  · intro wq zq
    go_simp
    try rfl
  go_frame
  apply tk 1 ksw1 rfl (by kernel_rfl) (fun _ _ _ h => h) zk
  · intro wq zq
    go_simp
    try rfl
  go_frame
  apply tk 2 ksw2 rfl (by kernel_rfl) (fun _ _ _ h => h) zk
  · intro wq zq
    go_simp
    try rfl
  go_frame
  apply tk 3 ksw3 rfl (by kernel_rfl) (fun _ _ _ h => h) zk
  · intro wq zq
    obtain ⟨⟨s0, s1, s2⟩, ⟨s3, s4, s5⟩, t0, t1, t2, t3, t4, t5, t6, t7, t8, t9, t10⟩ := HXX.out _ zq
    go_simp
    try rfl
  go_frame
  apply tk 4 ksw4 rfl (by kernel_rfl) (fun _ _ _ h => h) zk
  · intro wq zq
    obtain ⟨⟨s0, s1, s2⟩, ⟨s3, s4, s5⟩, t0, t1, t2, t3, t4, t5, t6, t7, t8, t9, t10⟩ := HXX.out _ zq
    go_simp
    try rfl
  go_frame
  apply tk 5 ksw5 rfl (by kernel_rfl) (fun _ _ _ h => h) zk
  · intro wq zq
    obtain ⟨⟨s0, s1, s2⟩, ⟨s3, s4, s5⟩, t0, t1, t2, t3, t4, t5, t6, t7, t8, t9, t10⟩ := HXX.out _ zq
    go_simp
    try rfl
  go_frame
  apply tk 6 ksw6 rfl (by kernel_rfl) (fun _ _ _ h => h) zk
  · intro wq zq
    go_simp
    try rfl
  go_frame
  refine Go.Proofs.Ytbblmbbpicinlaa.rd 7 ksw7 rfl (by kernel_rfl) fun K hK => ?_
  go_simp
  refine (wake_is (s := x.h.1) (g := x.h.2) (r := r) (ga := 0) (fa := 0) (v := v) (ok := true) HV.out.bk hl ur1 ur2).mono ?_
  rintro e w6 ⟨rfl, F6, hp6, hc6, hd6⟩
  have P6 := hide (And.intro hp6 hd6)
  have C6 := hide hc6
  have Z6 := hide (zk.trans hc6 (fun _ _ h => .inl h))
  clear hp6 hc6 hd6
  go_wp2_with fail
  refine hK.out _ _ ?_ (fun zk => ?_)
  · exact Z6.out
  clear hK K
  try go_frame
  refine Go.Proofs.Ytbblmbbpicinlaa.rd 8 ksw8 rfl (by kernel_rfl) fun K hK => ?_
  go_simp
  refine hK.out _ _ ?_ (fun zk => ?_)
  · exact zk.trans (Ch.alloc (Q := fun y => F y ∨ y = w2.heap.size) _ _) (fun _ _ h => h)
  clear hK K
  try go_frame
  apply tk 9 ksw9 rfl (by kernel_rfl) (fun _ _ _ h => h) zk
  · intro wq zq
    go_simp
    try rfl
  go_frame
  obtain ⟨w7, hw7⟩ : ∃ w7, w6.alloc (.cells #[.int .u32 r.ws, .int .u32 r.wg, .int .i64 r.ar, .int .i64 v.n, .int .u32 v.s, .int .u32 v.g, .bool true, .int .i64 0] 119) = w7 := ⟨_, rfl⟩
  have hc7 : Ch (fun _ => False) w6 w7 := by rw [← hw7]; exact Ch.alloc _ _
  have hn7 : w7.heap[w6.heap.size]? = some (.cells #[.int .u32 r.ws, .int .u32 r.wg, .int .i64 r.ar, .int .i64 v.n, .int .u32 v.s, .int .u32 v.g, .bool true, .int .i64 0] 119 (0, 0)) := by rw [← hw7]; exact heap_new _ _
  have hz := HZ.out
  have n3 := hc7.box (C6.out.box (CV.out.box HN.out.2.2 (fun h => h)) (fun e => by have := HLT.out.2 _ e; omega)) (fun h => h)
  have d0 : w7.cell? ⟨w2.heap.size, 0, none⟩ = some (.int .i64 0) := by simp [Lib.cell_of_heap n3]
  have d1 : w7.cell? ⟨w2.heap.size, 1, none⟩ = some (.int .i64 0) := by simp [Lib.cell_of_heap n3]
  have d2 : w7.cell? ⟨w2.heap.size, 2, none⟩ = some (.int .u32 0) := by simp [Lib.cell_of_heap n3]
  have d3 : w7.cell? ⟨w2.heap.size, 3, none⟩ = some (.int .u32 0) := by simp [Lib.cell_of_heap n3]
  have d4 : w7.cell? ⟨w2.heap.size, 4, none⟩ = some (.bool false) := by simp [Lib.cell_of_heap n3]
  have d5 : w7.cell? ⟨w2.heap.size, 5, none⟩ = some (.slice none 0 0) := by simp [Lib.cell_of_heap n3]
  have df : ∀ o, w7.frozen? ⟨w2.heap.size, o, none⟩ = false := fun o => by simp [World.frozen?, n3]
  have HS := hide (did_set n3 (.int .i64 0) (.int .i64 0) (.int .u32 0) (.int .u32 0) (.bool false) (.slice (some ⟨w6.heap.size, 0, none⟩) 1 1))
  have E7 := hide (And.intro hc7 hn7)
  clear n3 hz hc7 hn7
  refine Go.Proofs.Ytbblmbbpicinlaa.rd 10 ksw10 rfl (by kernel_rfl) fun K hK => ?_
  have HW7 := hide hw7
  try rw [hw7]
  rw [hw7] at zk
  clear hw7
  go_simp
  refine hK.out _ _ ?_ (fun zk => ?_)
  · exact zk.trans HS.out.2 (fun y hy e => .inr e)
  clear hK K
  try go_frame
  refine wpAnyH_done (by kernel_rfl) ?_ _
  go_wp2
  have hz := HZ.out
  have cF := ((((C3.out.trans CV.out (fun _ _ h => h)).mono (Q' := F) (fun _ _ h => h.elim)).trans C6.out (fun _ _ h => h)).trans E7.out.1 (fun _ _ h => h.elim)).trans HS.out.2 (fun y hy e => by omega)
  have zV := (C3.out.trans CV.out (fun _ _ h => h)).size
  have z6 := C6.out.size
  have hd : ∀ y, F6 y → F y ∨ w.heap.size ≤ y := fun y hy => (P6.out.2 y hy).imp_right fun e => by omega
  have nF : ∀ y, F6 y → ¬ y = w2.heap.size := fun y hy e => by
    have z2 := CV.out.size
    rcases P6.out.2 y hy with h | h
    · have := HLT.out.2 y h; omega
    · omega
  have z5 := CV.out.size
  refine bodyPost_ret (v := didV 0 zVa false (.slice (some ⟨w6.heap.size, 0, none⟩) 1 1)) (res_send _ w2.heap.size _ 0 0 0 0 false _ rfl HS.out.1) rfl ⟨w6.heap.size, F6, rfl, by omega, HS.out.2.box E7.out.2 (fun e => by omega), H0.out.book (face.ch (face.ch P6.out.1 E7.out.1 (fun _ _ h => h)) HS.out.2 nF) cF hd, cF, hd⟩

set_option maxRecDepth 100000 in
set_option maxHeartbeats 8000000 in
theorem recv_wake {w : World} {B c bp M : Nat} {F : Nat → Prop} {l : List Wt} {cs : List Cn} (h : CI w B c bp M F l cs) (hl : l.length ≤ 100000) {x : Cn} (hin : x ∈ cs) {g : Hnd} (sb : SnB x g zVa) (hxs : x.xs = []) {r : Rc} {rest : List Rc} (hq : sel (inRow x.h.1 x.h.2 1) l = r :: rest) (ur1 : UsW r.ws) (ur2 : UsW r.wg) :
    Calls Try.prog 66 #[.pointer (some ⟨x.cb, 0, none⟩), hkV g] w fun e w' => ∃ nb F', e = .returned (didV 0 (vaR r) true (.slice (some ⟨nb, 0, none⟩) 1 1)) ∧ w.heap.size ≤ nb ∧ w'.heap[nb]? = some (.cells (wkF r.ws r.wg r.ar zVa false 0).toArray 119 (0, 0)) ∧ CI w' B c bp M F' (leaW l r.ws r.wg) cs ∧ Ch F w w' ∧ ∀ y, F' y → F y ∨ w.heap.size ≤ y := by
  obtain ⟨w1, hw1⟩ : ∃ w1, w.alloc (.cells #[.int .u32 g.1, .int .u32 g.2] 43) = w1 := ⟨_, rfl⟩
  have hc1 : Ch (fun _ => False) w w1 := by rw [← hw1]; exact Ch.alloc _ _
  have hz1 : w1.heap.size = w.heap.size + 1 := by rw [← hw1, World.size_alloc]
  have hn1 : w1.heap[w.heap.size]? = some (.cells #[.int .u32 g.1, .int .u32 g.2] 43 (0, 0)) := by rw [← hw1]; exact heap_new _ _
  obtain ⟨w2, hw2⟩ : ∃ w2, w1.alloc (.cells #[.int .i64 0, .int .i64 0, .int .u32 0, .int .u32 0, .bool false, .slice none 0 0] 72) = w2 := ⟨_, rfl⟩
  have hc2 : Ch (fun _ => False) w1 w2 := by rw [← hw2]; exact Ch.alloc _ _
  have hz2 : w2.heap.size = w1.heap.size + 1 := by rw [← hw2, World.size_alloc]
  have hn2 : w2.heap[w1.heap.size]? = some (.cells #[.int .i64 0, .int .i64 0, .int .u32 0, .int .u32 0, .bool false, .slice none 0 0] 72 (0, 0)) := by rw [← hw2]; exact heap_new _ _
  replace hn1 := hc2.box hn1 (fun h => h)
  have C2 := hide (hc1.trans hc2 (fun _ _ h => h))
  have HN := hide (And.intro hn1 hn2)
  have HZ := hide (And.intro hz1 hz2)
  have HLT := hide (show (∀ y, x.mine y → y < w.heap.size) ∧ ∀ y, F y → y < w.heap.size from ⟨(h.ch x hin).lt, fun y hy => (face.foot h.bk y hy).2⟩)
  have H0 := hide h
  have H := hide (h.quiet C2.out)
  have HIN := hide hin
  have SB := hide sb
  have HR := hide (show RgV w2 x.rp x.rg [] x.n x.f x.pl by have := (H.out.ch x hin).ring; rwa [hxs] at this)
  have HFI := hide (fun V (cV : Ch (fun _ => False) w2 V) => show Calls Try.prog 103 #[plV bp x.h.1 x.h.2, .int .i64 1] V fun e w' => e = .returned (.tuple #[rcV r, .bool true]) ∧ Below V.heap.size V w' from by
    have := pfirst_is (H.out.quiet cV).bk hl sb.h1 sb.h2 (show I64 1 by constructor <;> decide)
    rw [hq] at this
    exact this)
  have HX := hide (fun V (cV : Ch (fun _ => False) w2 V) => show V.cell? ⟨x.cb, 0, none⟩ = some (.pointer (some ⟨bp, 0, none⟩)) ∧ V.cell? ⟨x.cb, 1, none⟩ = some (.int .u32 x.h.1) ∧ V.cell? ⟨x.cb, 2, none⟩ = some (.int .u32 x.h.2) ∧ V.cell? ⟨x.cb, 3, none⟩ = some (.pointer (some ⟨x.rp, 0, none⟩)) ∧ V.cell? ⟨x.cb, 4, none⟩ = some (.bool x.cl) from by
    have := ((H.out.quiet cV).ch x hin).cells
    exact this)
  obtain ⟨k0, k1, k2, k3, k4⟩ := HX.out w2 (Ch.refl _ _)
  clear h hc1 hc2 hz1 hz2 hn1 hn2 hin sb hq hxs
  go_enter Try.func66, Try.ntmps66
  go_wp2_with fail
  refine (takeV_no HR.out).mono ?_
  rintro e w3 ⟨rfl, hb⟩
  have C3 := hide (C2.out.trans (Ch.of_below hb) (fun _ _ h => h))
  have D3 := hide (Ch.of_below (Q := fun _ => False) hb)
  clear hb k0 k1 k2 k3 k4 hw1 hw2
  obtain ⟨w4, hw4⟩ : ∃ x, w3.alloc (.cells #[.int .i64 zVa.n, .int .u32 zVa.s, .int .u32 zVa.g] 46) = x := ⟨_, rfl⟩
  have D4 := hide (D3.out.trans (show Ch (fun _ => False) w3 w4 by rw [← hw4]; exact Ch.alloc _ _) (fun _ _ h => h))
  have k0 : (w3.alloc (.cells #[.int .i64 zVa.n, .int .u32 zVa.s, .int .u32 zVa.g] 46)).cell? ⟨x.cb, 0, none⟩ = some (.pointer (some ⟨bp, 0, none⟩)) := by rw [hw4]; exact (HX.out _ D4.out).1
  have k1 : (w3.alloc (.cells #[.int .i64 zVa.n, .int .u32 zVa.s, .int .u32 zVa.g] 46)).cell? ⟨x.cb, 1, none⟩ = some (.int .u32 x.h.1) := by rw [hw4]; exact (HX.out _ D4.out).2.1
  have k2 : (w3.alloc (.cells #[.int .i64 zVa.n, .int .u32 zVa.s, .int .u32 zVa.g] 46)).cell? ⟨x.cb, 2, none⟩ = some (.int .u32 x.h.2) := by rw [hw4]; exact (HX.out _ D4.out).2.2.1
  have H4 := hide hw4
  clear hw4
  go_wp2_with fail
  rw [H4.out]
  clear k0 k1 k2
  refine (HFI.out w4 D4.out).mono ?_
  rintro e w5 ⟨rfl, hb⟩
  have D5 := hide (D4.out.trans (Ch.of_below (Q := fun _ => False) hb) (fun _ _ h => h))
  clear hb
  obtain ⟨w6, hw6⟩ : ∃ x, w5.alloc (.cells #[.int .u32 r.ms, .int .u32 r.mg, .int .u32 r.ws, .int .u32 r.wg, .int .u32 r.rs, .int .u32 r.rg, .int .i64 r.rd, .int .i64 r.ar, .int .i64 r.vn, .int .u32 r.vs, .int .u32 r.vg] 136) = x := ⟨_, rfl⟩
  have D6 := hide (D5.out.trans (show Ch (fun _ => False) w5 w6 by rw [← hw6]; exact Ch.alloc _ _) (fun _ _ h => h))
  have N6 := hide (show w6.heap[w5.heap.size]? = some (.cells #[.int .u32 r.ms, .int .u32 r.mg, .int .u32 r.ws, .int .u32 r.wg, .int .u32 r.rs, .int .u32 r.rg, .int .i64 r.rd, .int .i64 r.ar, .int .i64 r.vn, .int .u32 r.vs, .int .u32 r.vg] 136 (0, 0)) by rw [← hw6]; exact heap_new _ _)
  go_wp2
  clear hw6
  have H6 := hide (H.out.quiet D6.out)
  have hzz := HZ.out
  have s5 := D5.out.size
  have NCB : ¬ (F x.cb ∨ x.cb = w1.heap.size) := fun e => e.elim (fun e => (H6.out.far _ e).2.2 x HIN.out (.inl rfl)) (fun e => by have := HLT.out.1 x.cb (.inl rfl); omega)
  have NBR : ¬ (F w5.heap.size ∨ w5.heap.size = w1.heap.size) := fun e => e.elim (fun e => by have := HLT.out.2 _ e; omega) (fun e => by omega)
  clear hzz s5
  refine wp_reg (fun y => F y ∨ y = w1.heap.size) (R := fun V => Ch (fun _ => False) w6 V) (by kernel_rfl) (Ch.drew _) (fun V cV zk => ?_)
  have CV := hide (D6.out.trans cV (fun _ _ h => h))
  have NV := hide (cV.box N6.out (fun h => h))
  have HV := hide (H6.out.quiet cV)
  clear cV
  have HXX := hide (fun wq (kq : Ch (fun y => F y ∨ y = w1.heap.size) V wq) => show (wq.cell? ⟨x.cb, 0, none⟩ = some (.pointer (some ⟨bp, 0, none⟩)) ∧ wq.cell? ⟨x.cb, 1, none⟩ = some (.int .u32 x.h.1) ∧ wq.cell? ⟨x.cb, 2, none⟩ = some (.int .u32 x.h.2)) ∧ wq.cell? ⟨w5.heap.size, 0, none⟩ = some (.int .u32 r.ms) ∧ wq.cell? ⟨w5.heap.size, 1, none⟩ = some (.int .u32 r.mg) ∧ wq.cell? ⟨w5.heap.size, 2, none⟩ = some (.int .u32 r.ws) ∧ wq.cell? ⟨w5.heap.size, 3, none⟩ = some (.int .u32 r.wg) ∧ wq.cell? ⟨w5.heap.size, 4, none⟩ = some (.int .u32 r.rs) ∧ wq.cell? ⟨w5.heap.size, 5, none⟩ = some (.int .u32 r.rg) ∧ wq.cell? ⟨w5.heap.size, 6, none⟩ = some (.int .i64 r.rd) ∧ wq.cell? ⟨w5.heap.size, 7, none⟩ = some (.int .i64 r.ar) ∧ wq.cell? ⟨w5.heap.size, 8, none⟩ = some (.int .i64 r.vn) ∧ wq.cell? ⟨w5.heap.size, 9, none⟩ = some (.int .u32 r.vs) ∧ wq.cell? ⟨w5.heap.size, 10, none⟩ = some (.int .u32 r.vg) from by
    have e0 := Lib.cell_of_heap (kq.box (HV.out.ch x HIN.out).box NCB)
    have e2 := Lib.cell_of_heap (kq.box NV.out NBR)
    exact ⟨⟨by simp [e0], by simp [e0], by simp [e0]⟩, by simp [e2], by simp [e2], by simp [e2], by simp [e2], by simp [e2], by simp [e2], by simp [e2], by simp [e2], by simp [e2], by simp [e2], by simp [e2]⟩)
  apply tk 0 krw0 rfl (by kernel_rfl) (fun _ _ _ h => h) zk
  · intro wq zq
    go_simp
    try rfl
  go_frame
  apply tk 1 krw1 rfl (by kernel_rfl) (fun _ _ _ h => h) zk
  · intro wq zq
    obtain ⟨⟨s0, s1, s2⟩, t0, t1, t2, t3, t4, t5, t6, t7, t8, t9, t10⟩ := HXX.out _ zq
    go_simp
    try rfl
  go_frame
  apply tk 2 krw2 rfl (by kernel_rfl) (fun _ _ _ h => h) zk
  · intro wq zq
    go_simp
    try rfl
  go_frame
  apply tk 3 krw3 rfl (by kernel_rfl) (fun _ _ _ h => h) zk
  · intro wq zq
    go_simp
    try rfl
  go_frame
  apply tk 4 krw4 rfl (by kernel_rfl) (fun _ _ _ h => h) zk
  · intro wq zq
    go_simp
    try rfl
  go_frame
  apply tk 5 krw5 rfl (by kernel_rfl) (fun _ _ _ h => h) zk
  · intro wq zq
    obtain ⟨⟨s0, s1, s2⟩, t0, t1, t2, t3, t4, t5, t6, t7, t8, t9, t10⟩ := HXX.out _ zq
    go_simp
    try rfl
  go_frame
  apply tk 6 krw6 rfl (by kernel_rfl) (fun _ _ _ h => h) zk
  · intro wq zq
    obtain ⟨⟨s0, s1, s2⟩, t0, t1, t2, t3, t4, t5, t6, t7, t8, t9, t10⟩ := HXX.out _ zq
    go_simp
    try rfl
  go_frame
  apply tk 7 krw7 rfl (by kernel_rfl) (fun _ _ _ h => h) zk
  · intro wq zq
    go_simp
    try rfl
  go_frame
  refine Go.Proofs.Ytbblmbbpicinlaa.rd 8 krw8 rfl (by kernel_rfl) fun K hK => ?_
  go_simp
  refine (wake_is (s := x.h.1) (g := x.h.2) (r := r) (ga := 0) (fa := 0) (v := zVa) (ok := false) HV.out.bk hl ur1 ur2).mono ?_
  rintro e w7x ⟨rfl, F6, hp6, hc6, hd6⟩
  have P6 := hide (And.intro hp6 hd6)
  have C6 := hide hc6
  have Z6 := hide (zk.trans hc6 (fun _ _ h => .inl h))
  clear hp6 hc6 hd6
  go_wp2_with fail
  refine hK.out _ _ ?_ (fun zk => ?_)
  · exact Z6.out
  clear hK K
  try go_frame
  refine Go.Proofs.Ytbblmbbpicinlaa.rd 9 krw9 rfl (by kernel_rfl) fun K hK => ?_
  go_simp
  refine hK.out _ _ ?_ (fun zk => ?_)
  · exact zk.trans (Ch.alloc (Q := fun y => F y ∨ y = w1.heap.size) _ _) (fun _ _ h => h)
  clear hK K
  try go_frame
  apply tk 10 krw10 rfl (by kernel_rfl) (fun _ _ _ h => h) zk
  · intro wq zq
    go_simp
    try rfl
  go_frame
  obtain ⟨w7, hw7⟩ : ∃ w7, w7x.alloc (.cells #[.int .u32 r.ws, .int .u32 r.wg, .int .i64 r.ar, .int .i64 zVa.n, .int .u32 zVa.s, .int .u32 zVa.g, .bool false, .int .i64 0] 119) = w7 := ⟨_, rfl⟩
  have hc7 : Ch (fun _ => False) w7x w7 := by rw [← hw7]; exact Ch.alloc _ _
  have hn7 : w7.heap[w7x.heap.size]? = some (.cells #[.int .u32 r.ws, .int .u32 r.wg, .int .i64 r.ar, .int .i64 zVa.n, .int .u32 zVa.s, .int .u32 zVa.g, .bool false, .int .i64 0] 119 (0, 0)) := by rw [← hw7]; exact heap_new _ _
  have hz := HZ.out
  have n3 := hc7.box (C6.out.box (CV.out.box HN.out.2 (fun h => h)) (fun e => by have := HLT.out.2 _ e; omega)) (fun h => h)
  have d0 : w7.cell? ⟨w1.heap.size, 0, none⟩ = some (.int .i64 0) := by simp [Lib.cell_of_heap n3]
  have d1 : w7.cell? ⟨w1.heap.size, 1, none⟩ = some (.int .i64 0) := by simp [Lib.cell_of_heap n3]
  have d2 : w7.cell? ⟨w1.heap.size, 2, none⟩ = some (.int .u32 0) := by simp [Lib.cell_of_heap n3]
  have d3 : w7.cell? ⟨w1.heap.size, 3, none⟩ = some (.int .u32 0) := by simp [Lib.cell_of_heap n3]
  have d4 : w7.cell? ⟨w1.heap.size, 4, none⟩ = some (.bool false) := by simp [Lib.cell_of_heap n3]
  have d5 : w7.cell? ⟨w1.heap.size, 5, none⟩ = some (.slice none 0 0) := by simp [Lib.cell_of_heap n3]
  have df : ∀ o, w7.frozen? ⟨w1.heap.size, o, none⟩ = false := fun o => by simp [World.frozen?, n3]
  have HS := hide (did_set n3 (.int .i64 0) (.int .i64 r.vn) (.int .u32 r.vs) (.int .u32 r.vg) (.bool true) (.slice (some ⟨w7x.heap.size, 0, none⟩) 1 1))
  have E7 := hide (And.intro hc7 hn7)
  clear n3 hz hc7 hn7
  refine Go.Proofs.Ytbblmbbpicinlaa.rd 11 krw11 rfl (by kernel_rfl) fun K hK => ?_
  have HW7 := hide hw7
  try rw [hw7]
  rw [hw7] at zk
  clear hw7
  go_simp
  refine hK.out _ _ ?_ (fun zk => ?_)
  · exact zk.trans HS.out.2 (fun y hy e => .inr e)
  clear hK K
  try go_frame
  refine wpAnyH_done (by kernel_rfl) ?_ _
  go_wp2
  have hz := HZ.out
  have cF := ((((C2.out.trans CV.out (fun _ _ h => h)).mono (Q' := F) (fun _ _ h => h.elim)).trans C6.out (fun _ _ h => h)).trans E7.out.1 (fun _ _ h => h.elim)).trans HS.out.2 (fun y hy e => by omega)
  have zV := (C2.out.trans CV.out (fun _ _ h => h)).size
  have z6 := C6.out.size
  have hd : ∀ y, F6 y → F y ∨ w.heap.size ≤ y := fun y hy => (P6.out.2 y hy).imp_right fun e => by omega
  have z5 := CV.out.size
  have nF : ∀ y, F6 y → ¬ y = w1.heap.size := fun y hy e => by
    rcases P6.out.2 y hy with h | h
    · have := HLT.out.2 y h; omega
    · omega
  refine bodyPost_ret (v := didV 0 (vaR r) true (.slice (some ⟨w7x.heap.size, 0, none⟩) 1 1)) (res_recv _ w1.heap.size _ 0 r.vn r.vs r.vg true _ rfl HS.out.1) rfl ⟨w7x.heap.size, F6, rfl, by omega, HS.out.2.box E7.out.2 (fun e => by omega), H0.out.book (face.ch (face.ch P6.out.1 E7.out.1 (fun _ _ h => h)) HS.out.2 nF) cF hd, cF, hd⟩

set_option maxRecDepth 100000 in
set_option maxHeartbeats 8000000 in
theorem recv_park {w : World} {B c bp M : Nat} {F : Nat → Prop} {l : List Wt} {cs : List Cn} (h : CI w B c bp M F l cs) (hl : l.length ≤ 100000) {x : Cn} (hin : x ∈ cs) {g : Hnd} (sb : SnB x g zVa) (hxs : x.xs = []) (hcl : x.cl = false) (hq : sel (inRow x.h.1 x.h.2 1) l = []) :
    Calls Try.prog 66 #[.pointer (some ⟨x.cb, 0, none⟩), hkV g] w fun e w' => e = .returned (didV 1 zVa false (.slice none 0 0)) ∧ ∃ F', CI w' B c bp M F' (putW l x.h.1 x.h.2 2 g.1 g.2 0 0 0 0) cs ∧ Ch F w w' ∧ ∀ y, F' y → F y ∨ w.heap.size ≤ y := by
  obtain ⟨w1, hw1⟩ : ∃ w1, w.alloc (.cells #[.int .u32 g.1, .int .u32 g.2] 43) = w1 := ⟨_, rfl⟩
  have hc1 : Ch (fun _ => False) w w1 := by rw [← hw1]; exact Ch.alloc _ _
  have hz1 : w1.heap.size = w.heap.size + 1 := by rw [← hw1, World.size_alloc]
  have hn1 : w1.heap[w.heap.size]? = some (.cells #[.int .u32 g.1, .int .u32 g.2] 43 (0, 0)) := by rw [← hw1]; exact heap_new _ _
  obtain ⟨w2, hw2⟩ : ∃ w2, w1.alloc (.cells #[.int .i64 0, .int .i64 0, .int .u32 0, .int .u32 0, .bool false, .slice none 0 0] 72) = w2 := ⟨_, rfl⟩
  have hc2 : Ch (fun _ => False) w1 w2 := by rw [← hw2]; exact Ch.alloc _ _
  have hz2 : w2.heap.size = w1.heap.size + 1 := by rw [← hw2, World.size_alloc]
  have hn2 : w2.heap[w1.heap.size]? = some (.cells #[.int .i64 0, .int .i64 0, .int .u32 0, .int .u32 0, .bool false, .slice none 0 0] 72 (0, 0)) := by rw [← hw2]; exact heap_new _ _
  replace hn1 := hc2.box hn1 (fun h => h)
  have C2 := hide (hc1.trans hc2 (fun _ _ h => h))
  have HN := hide (And.intro hn1 hn2)
  have HZ := hide (And.intro hz1 hz2)
  have HLT := hide (show (∀ y, x.mine y → y < w.heap.size) ∧ ∀ y, F y → y < w.heap.size from ⟨(h.ch x hin).lt, fun y hy => (face.foot h.bk y hy).2⟩)
  have H0 := hide h
  have H := hide (h.quiet C2.out)
  have HIN := hide hin
  have SB := hide sb
  have HR := hide (show RgV w2 x.rp x.rg [] x.n x.f x.pl by have := (H.out.ch x hin).ring; rwa [hxs] at this)
  have HFI := hide (fun V (cV : Ch (fun _ => False) w2 V) => show Calls Try.prog 103 #[plV bp x.h.1 x.h.2, .int .i64 1] V fun e w' => e = .returned (.tuple #[rcV zRc, .bool false]) ∧ Below V.heap.size V w' from by
    have := pfirst_is (H.out.quiet cV).bk hl sb.h1 sb.h2 (show I64 1 by constructor <;> decide)
    rw [hq] at this
    exact this)
  have HX := hide (fun V (cV : Ch (fun _ => False) w2 V) => show V.cell? ⟨x.cb, 0, none⟩ = some (.pointer (some ⟨bp, 0, none⟩)) ∧ V.cell? ⟨x.cb, 1, none⟩ = some (.int .u32 x.h.1) ∧ V.cell? ⟨x.cb, 2, none⟩ = some (.int .u32 x.h.2) ∧ V.cell? ⟨x.cb, 3, none⟩ = some (.pointer (some ⟨x.rp, 0, none⟩)) ∧ V.cell? ⟨x.cb, 4, none⟩ = some (.bool false) from by
    have := ((H.out.quiet cV).ch x hin).cells
    rwa [hcl] at this)
  obtain ⟨k0, k1, k2, k3, k4⟩ := HX.out w2 (Ch.refl _ _)
  clear h hc1 hc2 hz1 hz2 hn1 hn2 hin sb hq hxs hcl
  go_enter Try.func66, Try.ntmps66
  go_wp2_with fail
  refine (takeV_no HR.out).mono ?_
  rintro e w3 ⟨rfl, hb⟩
  have C3 := hide (C2.out.trans (Ch.of_below hb) (fun _ _ h => h))
  have D3 := hide (Ch.of_below (Q := fun _ => False) hb)
  clear hb k0 k1 k2 k3 k4 hw1 hw2
  obtain ⟨w4, hw4⟩ : ∃ x, w3.alloc (.cells #[.int .i64 zVa.n, .int .u32 zVa.s, .int .u32 zVa.g] 46) = x := ⟨_, rfl⟩
  have D4 := hide (D3.out.trans (show Ch (fun _ => False) w3 w4 by rw [← hw4]; exact Ch.alloc _ _) (fun _ _ h => h))
  have k0 : (w3.alloc (.cells #[.int .i64 zVa.n, .int .u32 zVa.s, .int .u32 zVa.g] 46)).cell? ⟨x.cb, 0, none⟩ = some (.pointer (some ⟨bp, 0, none⟩)) := by rw [hw4]; exact (HX.out _ D4.out).1
  have k1 : (w3.alloc (.cells #[.int .i64 zVa.n, .int .u32 zVa.s, .int .u32 zVa.g] 46)).cell? ⟨x.cb, 1, none⟩ = some (.int .u32 x.h.1) := by rw [hw4]; exact (HX.out _ D4.out).2.1
  have k2 : (w3.alloc (.cells #[.int .i64 zVa.n, .int .u32 zVa.s, .int .u32 zVa.g] 46)).cell? ⟨x.cb, 2, none⟩ = some (.int .u32 x.h.2) := by rw [hw4]; exact (HX.out _ D4.out).2.2.1
  have H4 := hide hw4
  clear hw4
  go_wp2_with fail
  rw [H4.out]
  clear k0 k1 k2
  refine (HFI.out w4 D4.out).mono ?_
  rintro e w5 ⟨rfl, hb⟩
  have D5 := hide (D4.out.trans (Ch.of_below (Q := fun _ => False) hb) (fun _ _ h => h))
  clear hb
  obtain ⟨w6, hw6⟩ : ∃ x, w5.alloc (.cells #[.int .u32 zRc.ms, .int .u32 zRc.mg, .int .u32 zRc.ws, .int .u32 zRc.wg, .int .u32 zRc.rs, .int .u32 zRc.rg, .int .i64 zRc.rd, .int .i64 zRc.ar, .int .i64 zRc.vn, .int .u32 zRc.vs, .int .u32 zRc.vg] 136) = x := ⟨_, rfl⟩
  have D6 := hide (D5.out.trans (show Ch (fun _ => False) w5 w6 by rw [← hw6]; exact Ch.alloc _ _) (fun _ _ h => h))
  have N6 := hide (show w6.heap[w5.heap.size]? = some (.cells #[.int .u32 zRc.ms, .int .u32 zRc.mg, .int .u32 zRc.ws, .int .u32 zRc.wg, .int .u32 zRc.rs, .int .u32 zRc.rg, .int .i64 zRc.rd, .int .i64 zRc.ar, .int .i64 zRc.vn, .int .u32 zRc.vs, .int .u32 zRc.vg] 136 (0, 0)) by rw [← hw6]; exact heap_new _ _)
  have k4 : (w5.alloc (.cells #[.int .u32 zRc.ms, .int .u32 zRc.mg, .int .u32 zRc.ws, .int .u32 zRc.wg, .int .u32 zRc.rs, .int .u32 zRc.rg, .int .i64 zRc.rd, .int .i64 zRc.ar, .int .i64 zRc.vn, .int .u32 zRc.vs, .int .u32 zRc.vg] 136)).cell? ⟨x.cb, 4, none⟩ = some (.bool false) := by rw [hw6]; exact (HX.out _ D6.out).2.2.2.2
  have HW6 := hide hw6
  clear hw6
  go_wp2
  rw [HW6.out]
  clear k4
  have H6 := hide (H.out.quiet D6.out)
  have hzz := HZ.out
  have s5 := D5.out.size
  have NCB : ¬ (F x.cb ∨ x.cb = w1.heap.size) := fun e => e.elim (fun e => (H6.out.far _ e).2.2 x HIN.out (.inl rfl)) (fun e => by have := HLT.out.1 x.cb (.inl rfl); omega)
  have NBG : ¬ (F w.heap.size ∨ w.heap.size = w1.heap.size) := fun e => e.elim (fun e => by have := HLT.out.2 _ e; omega) (fun e => by omega)
  clear hzz s5
  refine wp_reg (fun y => F y ∨ y = w1.heap.size) (R := fun V => Ch (fun _ => False) w6 V) (by kernel_rfl) (Ch.drew _) (fun V cV zk => ?_)
  have CV := hide (D6.out.trans cV (fun _ _ h => h))
  have HV := hide (H6.out.quiet cV)
  clear cV
  have HXX := hide (fun wq (kq : Ch (fun y => F y ∨ y = w1.heap.size) V wq) => show (wq.cell? ⟨x.cb, 0, none⟩ = some (.pointer (some ⟨bp, 0, none⟩)) ∧ wq.cell? ⟨x.cb, 1, none⟩ = some (.int .u32 x.h.1) ∧ wq.cell? ⟨x.cb, 2, none⟩ = some (.int .u32 x.h.2)) ∧ wq.cell? ⟨w.heap.size, 0, none⟩ = some (.int .u32 g.1) ∧ wq.cell? ⟨w.heap.size, 1, none⟩ = some (.int .u32 g.2) from by
    have e0 := Lib.cell_of_heap (kq.box (HV.out.ch x HIN.out).box NCB)
    have e2 := Lib.cell_of_heap (kq.box (CV.out.box HN.out.1 (fun h => h)) NBG)
    exact ⟨⟨by simp [e0], by simp [e0], by simp [e0]⟩, by simp [e2], by simp [e2]⟩)
  apply tk 0 krp0 rfl (by kernel_rfl) (fun _ _ _ h => h) zk
  · intro wq zq
    go_simp
    try rfl
  go_frame
  apply tk 1 krp1 rfl (by kernel_rfl) (fun _ _ _ h => h) zk
  · intro wq zq
    go_simp
    try rfl
  go_frame
  apply tk 2 krp2 rfl (by kernel_rfl) (fun _ _ _ h => h) zk
  · intro wq zq
    go_simp
    try rfl
  go_frame
  apply tk 3 krp3 rfl (by kernel_rfl) (fun _ _ _ h => h) zk
  · intro wq zq
    obtain ⟨⟨s0, s1, s2⟩, s3, s4⟩ := HXX.out _ zq
    go_simp
    try rfl
  go_frame
  apply tk 4 krp4 rfl (by kernel_rfl) (fun _ _ _ h => h) zk
  · intro wq zq
    obtain ⟨⟨s0, s1, s2⟩, s3, s4⟩ := HXX.out _ zq
    go_simp
    try rfl
  go_frame
  apply tk 5 krp5 rfl (by kernel_rfl) (fun _ _ _ h => h) zk
  · intro wq zq
    go_simp
    try rfl
  go_frame
  refine Go.Proofs.Ytbblmbbpicinlaa.rd 6 krp6 rfl (by kernel_rfl) fun K hK => ?_
  go_simp
  refine (park_is HV.out.bk hl HV.out.low SB.out.h1 SB.out.h2 (show I64 2 by constructor <;> decide) SB.out.g1 SB.out.g2 (v := zVa) SB.out.v0 SB.out.v1 SB.out.v2).mono ?_
  rintro e w7 ⟨rfl, F7, hp7, hc7, hd7⟩
  have P7 := hide (And.intro hp7 hd7)
  have C7 := hide hc7
  have Z7 := hide (zk.trans hc7 (fun _ _ h => .inl h))
  clear hp7 hc7 hd7
  go_wp2_with fail
  refine hK.out _ _ ?_ (fun zk => ?_)
  · exact Z7.out
  clear hK K
  try go_frame
  have hz := HZ.out
  have n3 := C7.out.box (CV.out.box HN.out.2 (fun h => h)) (fun e => by have := HLT.out.2 _ e; omega)
  have d0 : w7.cell? ⟨w1.heap.size, 0, none⟩ = some (.int .i64 0) := by simp [Lib.cell_of_heap n3]
  have d1 : w7.cell? ⟨w1.heap.size, 1, none⟩ = some (.int .i64 0) := by simp [Lib.cell_of_heap n3]
  have d2 : w7.cell? ⟨w1.heap.size, 2, none⟩ = some (.int .u32 0) := by simp [Lib.cell_of_heap n3]
  have d3 : w7.cell? ⟨w1.heap.size, 3, none⟩ = some (.int .u32 0) := by simp [Lib.cell_of_heap n3]
  have d4 : w7.cell? ⟨w1.heap.size, 4, none⟩ = some (.bool false) := by simp [Lib.cell_of_heap n3]
  have d5 : w7.cell? ⟨w1.heap.size, 5, none⟩ = some (.slice none 0 0) := by simp [Lib.cell_of_heap n3]
  have df : ∀ o, w7.frozen? ⟨w1.heap.size, o, none⟩ = false := fun o => by simp [World.frozen?, n3]
  have HS := hide (did_set n3 (.int .i64 1) (.int .i64 0) (.int .u32 0) (.int .u32 0) (.bool false) (.slice none 0 0))
  clear n3 hz
  refine Go.Proofs.Ytbblmbbpicinlaa.rd 7 krp7 rfl (by kernel_rfl) fun K hK => ?_
  go_simp
  refine hK.out _ _ ?_ (fun zk => ?_)
  · exact zk.trans HS.out.2 (fun y hy e => .inr e)
  clear hK K
  try go_frame
  refine wpAnyH_done (by kernel_rfl) ?_ _
  go_wp2
  have hz := HZ.out
  have cF := (((C2.out.trans CV.out (fun _ _ h => h)).mono (Q' := F) (fun _ _ h => h.elim)).trans C7.out (fun _ _ h => h)).trans HS.out.2 (fun y hy e => by omega)
  have zV := (C2.out.trans CV.out (fun _ _ h => h)).size
  have z2 := CV.out.size
  have hd : ∀ y, F7 y → F y ∨ w.heap.size ≤ y := fun y hy => (P7.out.2 y hy).imp_right fun e => by omega
  have nF : ∀ y, F7 y → ¬ y = w1.heap.size := fun y hy e => by
    rcases P7.out.2 y hy with h | h
    · have := HLT.out.2 y h; omega
    · omega
  refine bodyPost_ret (v := didV 1 zVa false (.slice none 0 0)) (res_recv _ w1.heap.size _ 1 0 0 0 false _ rfl HS.out.1) rfl ⟨rfl, F7, H0.out.book (face.ch P7.out.1 HS.out.2 nF) cF hd, cF, hd⟩

end Go.Proofs.Ytbblmbbpicinlaa

namespace Go.Proofs.Ytbblmbbpicinlaa
open Go.RowKit

abbrev kcq0 : Oper := { dst := some 9, op := Op.move (Operand.tmp 5), type := 143, pos := "chans.go:99", after := #[], guard := none }
abbrev kcq1 : Oper := { dst := some 10, op := Op.binOp BinOp.neq 143 (Operand.tmp 9) (Operand.const (Value.pointer none)) 143, type := 4, pos := "chans.go:99", after := #[{ on := 0, ground := Ground.data }], guard := none }
abbrev kcq2 : Oper := { dst := some 11, op := Op.move (Operand.tmp 10), type := 4, pos := "chans.go:99", after := #[{ on := 1, ground := Ground.data }], guard := none }
abbrev kcq3 : Oper := { dst := some 12, op := Op.move (Operand.tmp 5), type := 143, pos := "chans.go:99", after := #[{ on := 2, ground := Ground.guard }], guard := some (2, true) }
abbrev kcq4 : Oper := { dst := some 13, op := Op.nilCheck (Operand.tmp 12), type := 0, pos := "chans.go:99", after := #[{ on := 3, ground := Ground.data }, { on := 2, ground := Ground.guard }], guard := some (2, true) }
abbrev kcq5 : Oper := { dst := some 14, op := Op.fieldAddr 147 (Operand.tmp 13) 2, type := 0, pos := "chans.go:99", after := #[{ on := 4, ground := Ground.data }, { on := 2, ground := Ground.guard }], guard := some (2, true) }
abbrev kcq6 : Oper := { dst := some 15, op := Op.load 4 (Operand.tmp 14), type := 4, pos := "chans.go:99", after := #[{ on := 5, ground := Ground.data }, { on := 2, ground := Ground.guard }], guard := some (2, true) }
abbrev kcq7 : Oper := { dst := some 16, op := Op.move (Operand.tmp 15), type := 4, pos := "chans.go:99", after := #[{ on := 6, ground := Ground.data }, { on := 2, ground := Ground.chain }, { on := 2, ground := Ground.guard }], guard := some (2, true) }
abbrev kcq8 : Oper := { dst := some 17, op := Op.move (Operand.tmp 5), type := 143, pos := "chans.go:99", after := #[{ on := 7, ground := Ground.guard }], guard := some (7, false) }
abbrev kcq9 : Oper := { dst := some 18, op := Op.nilCheck (Operand.tmp 17), type := 0, pos := "chans.go:99", after := #[{ on := 8, ground := Ground.data }, { on := 7, ground := Ground.guard }], guard := some (7, false) }
abbrev kcq10 : Oper := { dst := some 19, op := Op.fieldAddr 147 (Operand.tmp 18) 0, type := 0, pos := "chans.go:99", after := #[{ on := 9, ground := Ground.data }, { on := 7, ground := Ground.guard }], guard := some (7, false) }
abbrev kcq11 : Oper := { dst := some 20, op := Op.load 145 (Operand.tmp 19), type := 145, pos := "chans.go:99", after := #[{ on := 10, ground := Ground.data }, { on := 7, ground := Ground.guard }], guard := some (7, false) }
abbrev kcq12 : Oper := { dst := some 21, op := Op.call { callee := Callee.value (Operand.func 74), args := #[Operand.tmp 20, Operand.const (Value.int IntKind.i64 2)], argTypes := #[145, 44] }, type := 4, pos := "chans.go:99", after := #[{ on := 11, ground := Ground.data }, { on := 7, ground := Ground.chain }, { on := 7, ground := Ground.guard }], guard := some (7, false) }
abbrev kcq13 : Oper := { dst := some 22, op := Op.pick (Operand.tmp 16) (Operand.const (Value.bool true)) (Operand.tmp 21), type := 4, pos := "chans.go:99", after := #[{ on := 7, ground := Ground.data }, { on := 12, ground := Ground.data }, { on := 2, ground := Ground.guard }], guard := some (2, true) }
abbrev kcq14 : Oper := { dst := some 23, op := Op.move (Operand.tmp 22), type := 4, pos := "chans.go:99", after := #[{ on := 13, ground := Ground.data }, { on := 12, ground := Ground.chain }, { on := 2, ground := Ground.guard }], guard := some (2, true) }
abbrev kcq15 : Oper := { dst := some 24, op := Op.move (Operand.tmp 5), type := 143, pos := "chans.go:99", after := #[{ on := 14, ground := Ground.guard }], guard := some (14, false) }
abbrev kcq16 : Oper := { dst := some 25, op := Op.nilCheck (Operand.tmp 24), type := 0, pos := "chans.go:99", after := #[{ on := 15, ground := Ground.data }, { on := 14, ground := Ground.guard }], guard := some (14, false) }
abbrev kcq17 : Oper := { dst := some 26, op := Op.fieldAddr 147 (Operand.tmp 25) 1, type := 0, pos := "chans.go:99", after := #[{ on := 16, ground := Ground.data }, { on := 14, ground := Ground.guard }], guard := some (14, false) }
abbrev kcq18 : Oper := { dst := some 27, op := Op.load 140 (Operand.tmp 26), type := 140, pos := "chans.go:99", after := #[{ on := 17, ground := Ground.data }, { on := 14, ground := Ground.guard }], guard := some (14, false) }
abbrev kcq19 : Oper := { dst := some 28, op := Op.call { callee := Callee.value (Operand.func 72), args := #[Operand.tmp 27], argTypes := #[140] }, type := 3, pos := "chans.go:99", after := #[{ on := 18, ground := Ground.data }, { on := 14, ground := Ground.chain }, { on := 14, ground := Ground.guard }], guard := some (14, false) }
abbrev kcq20 : Oper := { dst := some 29, op := Op.move (Operand.tmp 5), type := 143, pos := "chans.go:99", after := #[{ on := 14, ground := Ground.guard }], guard := some (14, false) }
abbrev kcq21 : Oper := { dst := some 30, op := Op.nilCheck (Operand.tmp 29), type := 0, pos := "chans.go:99", after := #[{ on := 20, ground := Ground.data }, { on := 14, ground := Ground.guard }], guard := some (14, false) }
abbrev kcq22 : Oper := { dst := some 31, op := Op.fieldAddr 147 (Operand.tmp 30) 1, type := 0, pos := "chans.go:99", after := #[{ on := 21, ground := Ground.data }, { on := 14, ground := Ground.guard }], guard := some (14, false) }
abbrev kcq23 : Oper := { dst := some 32, op := Op.load 140 (Operand.tmp 31), type := 140, pos := "chans.go:99", after := #[{ on := 22, ground := Ground.data }, { on := 14, ground := Ground.guard }], guard := some (14, false) }
abbrev kcq24 : Oper := { dst := some 33, op := Op.call { callee := Callee.value (Operand.func 73), args := #[Operand.tmp 32], argTypes := #[140] }, type := 3, pos := "chans.go:99", after := #[{ on := 23, ground := Ground.data }, { on := 19, ground := Ground.chain }, { on := 14, ground := Ground.guard }], guard := some (14, false) }
abbrev kcq25 : Oper := { dst := some 34, op := Op.binOp BinOp.lss 3 (Operand.tmp 28) (Operand.tmp 33) 3, type := 4, pos := "chans.go:99", after := #[{ on := 19, ground := Ground.data }, { on := 24, ground := Ground.data }, { on := 14, ground := Ground.guard }], guard := some (14, false) }
abbrev kcq26 : Oper := { dst := some 35, op := Op.pick (Operand.tmp 23) (Operand.const (Value.bool true)) (Operand.tmp 34), type := 4, pos := "chans.go:99", after := #[{ on := 14, ground := Ground.data }, { on := 25, ground := Ground.data }, { on := 2, ground := Ground.guard }], guard := some (2, true) }
abbrev kcq27 : Oper := { dst := some 36, op := Op.pick (Operand.tmp 11) (Operand.tmp 35) (Operand.const (Value.bool false)), type := 4, pos := "chans.go:99", after := #[{ on := 2, ground := Ground.data }, { on := 26, ground := Ground.data }], guard := none }
abbrev kcq28 : Oper := { dst := some 4, op := Op.assign (Operand.tmp 36), type := 4, pos := "chans.go:99", after := #[{ on := 27, ground := Ground.data }, { on := 24, ground := Ground.chain }, { on := 0, ground := Ground.phase }, { on := 1, ground := Ground.phase }, { on := 2, ground := Ground.phase }, { on := 3, ground := Ground.phase }, { on := 4, ground := Ground.phase }, { on := 5, ground := Ground.phase }, { on := 6, ground := Ground.phase }, { on := 7, ground := Ground.phase }, { on := 8, ground := Ground.phase }, { on := 9, ground := Ground.phase }, { on := 10, ground := Ground.phase }, { on := 11, ground := Ground.phase }, { on := 12, ground := Ground.phase }, { on := 13, ground := Ground.phase }, { on := 14, ground := Ground.phase }, { on := 15, ground := Ground.phase }, { on := 16, ground := Ground.phase }, { on := 17, ground := Ground.phase }, { on := 18, ground := Ground.phase }, { on := 19, ground := Ground.phase }, { on := 20, ground := Ground.phase }, { on := 21, ground := Ground.phase }, { on := 22, ground := Ground.phase }, { on := 23, ground := Ground.phase }, { on := 24, ground := Ground.phase }, { on := 25, ground := Ground.phase }, { on := 26, ground := Ground.phase }, { on := 27, ground := Ground.phase }], guard := none }

def fkS (l : List Wt) (ks : List Kn) (h : Hnd) : Bool := match fnk ks h with | none => false | some k => cnS l k
def fkR (l : List Wt) (ks : List Kn) (h : Hnd) : Bool := match fnk ks h with | none => false | some k => cnR l k

set_option maxRecDepth 100000 in
set_option maxHeartbeats 8000000 in
theorem canSend_ci {w : World} {B c bp M : Nat} {F : Nat → Prop} {l : List Wt} {cs : List Cn} (h : CI w B c bp M F l cs) (hl : l.length ≤ 100000) {h0 : Hnd} (u1 : UsW h0.1) (u2 : UsW h0.2) : Calls Try.prog 32 #[.pointer (some ⟨c, 0, none⟩), hkV h0] w fun e w' => e = .returned (.bool (fkS l (cs.map Cn.ab) h0)) ∧ Below w.heap.size w w' := by
  obtain ⟨w1, hw1⟩ : ∃ w1, w.alloc (.cells #[.int .u32 h0.1, .int .u32 h0.2] 43) = w1 := ⟨_, rfl⟩
  have hB1 : Below w.heap.size w w1 := by rw [← hw1]; exact below1 _ _
  have hn : w1.heap[w.heap.size]? = some (.cells #[.int .u32 h0.1, .int .u32 h0.2] 43 (0, 0)) := by rw [← hw1]; exact heap_new _ _
  have hx0 : w1.cell? ⟨w.heap.size, 0, none⟩ = some (.int .u32 h0.1) := by simp [Lib.cell_of_heap hn]
  have hx1 : w1.cell? ⟨w.heap.size, 1, none⟩ = some (.int .u32 h0.2) := by simp [Lib.cell_of_heap hn]
  have H := hide (h.quiet (Ch.of_below hB1))
  have HB := hide hB1
  clear h hB1 hn
  go_enter Try.func32, Try.ntmps32
  go_wp2_with fail
  clear hw1
  refine (at_cis H.out h0).mono ?_
  rintro e w2 ⟨rfl, hb⟩
  have H2 := hide (H.out.quiet (Ch.of_below hb))
  have HB2 := hide (HB.out.trans (hb.mono HB.out.size))
  clear hb hx0 hx1
  cases hf : fnc cs h0 with
  | none =>
    have HF := hide hf
    clear hf
    rw [cp_none]
    go_wp2
    refine wp_reg (fun _ => False) (R := fun V => Ch (fun _ => False) w2 V) (by kernel_rfl) (Ch.drew _) (fun V cV zk => ?_)
    apply tk 0 kcq0 rfl (by kernel_rfl) (fun _ _ _ h => h) zk
    · intro wq zq
      go_simp
      try rfl
    go_frame
    apply tk 1 kcq1 rfl (by kernel_rfl) (fun _ _ _ h => h) zk
    · intro wq zq
      go_simp
      try rfl
    go_frame
    apply tk 2 kcq2 rfl (by kernel_rfl) (fun _ _ _ h => h) zk
    · intro wq zq
      go_simp
      try rfl
    go_frame
    apply sk 3 kcq3 rfl (by kernel_rfl) (fun _ _ _ h => h) zk
    go_frame
    apply sk 4 kcq4 rfl (by kernel_rfl) (fun _ _ _ h => h) zk
    go_frame
    apply sk 5 kcq5 rfl (by kernel_rfl) (fun _ _ _ h => h) zk
    go_frame
    apply sk 6 kcq6 rfl (by kernel_rfl) (fun _ _ _ h => h) zk
    go_frame
    apply sk 7 kcq7 rfl (by kernel_rfl) (fun _ _ _ h => h) zk
    go_frame
    apply sk 8 kcq8 rfl (by kernel_rfl) (fun _ _ _ h => h) zk
    go_frame
    apply sk 9 kcq9 rfl (by kernel_rfl) (fun _ _ _ h => h) zk
    go_frame
    apply sk 10 kcq10 rfl (by kernel_rfl) (fun _ _ _ h => h) zk
    go_frame
    apply sk 11 kcq11 rfl (by kernel_rfl) (fun _ _ _ h => h) zk
    go_frame
    apply sk 12 kcq12 rfl (by kernel_rfl) (fun _ _ _ h => h) zk
    go_frame
    apply sk 13 kcq13 rfl (by kernel_rfl) (fun _ _ _ h => h) zk
    go_frame
    apply sk 14 kcq14 rfl (by kernel_rfl) (fun _ _ _ h => h) zk
    go_frame
    apply sk 15 kcq15 rfl (by kernel_rfl) (fun _ _ _ h => h) zk
    go_frame
    apply sk 16 kcq16 rfl (by kernel_rfl) (fun _ _ _ h => h) zk
    go_frame
    apply sk 17 kcq17 rfl (by kernel_rfl) (fun _ _ _ h => h) zk
    go_frame
    apply sk 18 kcq18 rfl (by kernel_rfl) (fun _ _ _ h => h) zk
    go_frame
    apply sk 19 kcq19 rfl (by kernel_rfl) (fun _ _ _ h => h) zk
    go_frame
    apply sk 20 kcq20 rfl (by kernel_rfl) (fun _ _ _ h => h) zk
    go_frame
    apply sk 21 kcq21 rfl (by kernel_rfl) (fun _ _ _ h => h) zk
    go_frame
    apply sk 22 kcq22 rfl (by kernel_rfl) (fun _ _ _ h => h) zk
    go_frame
    apply sk 23 kcq23 rfl (by kernel_rfl) (fun _ _ _ h => h) zk
    go_frame
    apply sk 24 kcq24 rfl (by kernel_rfl) (fun _ _ _ h => h) zk
    go_frame
    apply sk 25 kcq25 rfl (by kernel_rfl) (fun _ _ _ h => h) zk
    go_frame
    apply sk 26 kcq26 rfl (by kernel_rfl) (fun _ _ _ h => h) zk
    go_frame
    apply tk 27 kcq27 rfl (by kernel_rfl) (fun _ _ _ h => h) zk
    · intro wq zq
      go_simp
      try rfl
    go_frame
    apply tk 28 kcq28 rfl (by kernel_rfl) (fun _ _ _ h => h) zk
    · intro wq zq
      go_simp
      try rfl
    go_frame
    refine wpAnyH_done (by kernel_rfl) ?_ _
    go_wp2
    refine bodyPost_ret (results_tmp Try.results32 _ _ _) rfl ?_
    exact ⟨by rw [show fkS l (cs.map Cn.ab) h0 = false from by unfold fkS; rw [fnk_ab, HF.out]; rfl]; rfl, HB2.out.trans ((cV.trans zk (fun _ _ h => h)).below HB2.out.size (fun _ _ h => h))⟩
  | some y =>
    obtain ⟨hin, hyh⟩ := fnc_some hf
    have HF := hide hf
    have HIN := hide hin
    have uy1 : UsW y.h.1 := by rw [hyh]; exact u1
    have uy2 : UsW y.h.2 := by rw [hyh]; exact u2
    clear hf hin hyh
    rw [cp_some]
    have HH := hide (fun V (cV : Ch (fun _ => False) w2 V) => phas_is (H2.out.quiet cV).bk hl uy1 uy2 (show I64 2 by constructor <;> decide))
    have HLN := hide (fun V (cV : Ch (fun _ => False) w2 V) => lenV_is ((H2.out.quiet cV).ch y HIN.out).ring)
    have HCP := hide (fun V (cV : Ch (fun _ => False) w2 V) => capV_is ((H2.out.quiet cV).ch y HIN.out).ring)
    have HV := hide (show fkS l (cs.map Cn.ab) h0 = cnS l y.ab from by unfold fkS; rw [fnk_ab, HF.out]; rfl)
    have HX := hide (fun V (cV : Ch (fun _ => False) w2 V) => ((H2.out.quiet cV).ch y HIN.out).cells)
    cases hcl : y.cl with
    | true =>
      have HCL := hide hcl
      clear hcl
      go_wp2
      refine wp_reg (fun _ => False) (R := fun V => Ch (fun _ => False) w2 V) (by kernel_rfl) (Ch.drew _) (fun V cV zk => ?_)
      have CV := hide cV
      clear cV
      apply tk 0 kcq0 rfl (by kernel_rfl) (fun _ _ _ h => h) zk
      · intro wq zq
        go_simp
        try rfl
      go_frame
      apply tk 1 kcq1 rfl (by kernel_rfl) (fun _ _ _ h => h) zk
      · intro wq zq
        go_simp
        try rfl
      go_frame
      apply tk 2 kcq2 rfl (by kernel_rfl) (fun _ _ _ h => h) zk
      · intro wq zq
        go_simp
        try rfl
      go_frame
      apply tk 3 kcq3 rfl (by kernel_rfl) (fun _ _ _ h => h) zk
      · intro wq zq
        go_simp
        try rfl
      go_frame
      apply tk 4 kcq4 rfl (by kernel_rfl) (fun _ _ _ h => h) zk
      · intro wq zq
        go_simp
        try rfl
      go_frame
      apply tk 5 kcq5 rfl (by kernel_rfl) (fun _ _ _ h => h) zk
      · intro wq zq
        go_simp
        try rfl
      go_frame
      apply tk 6 kcq6 rfl (by kernel_rfl) (fun _ _ _ h => h) zk
      · intro wq zq
        obtain ⟨s0, s1, s2, s3, s4⟩ := HX.out _ (CV.out.trans zq (fun _ _ h => h))
        rw [HCL.out] at s4
        go_simp
        try rfl
      go_frame
      apply tk 7 kcq7 rfl (by kernel_rfl) (fun _ _ _ h => h) zk
      · intro wq zq
        go_simp
        try rfl
      go_frame
      apply sk 8 kcq8 rfl (by kernel_rfl) (fun _ _ _ h => h) zk
      go_frame
      apply sk 9 kcq9 rfl (by kernel_rfl) (fun _ _ _ h => h) zk
      go_frame
      apply sk 10 kcq10 rfl (by kernel_rfl) (fun _ _ _ h => h) zk
      go_frame
      apply sk 11 kcq11 rfl (by kernel_rfl) (fun _ _ _ h => h) zk
      go_frame
      apply sk 12 kcq12 rfl (by kernel_rfl) (fun _ _ _ h => h) zk
      go_frame
      apply tk 13 kcq13 rfl (by kernel_rfl) (fun _ _ _ h => h) zk
      · intro wq zq
        go_simp
        try rfl
      go_frame
      apply tk 14 kcq14 rfl (by kernel_rfl) (fun _ _ _ h => h) zk
      · intro wq zq
        go_simp
        try rfl
      go_frame
      apply sk 15 kcq15 rfl (by kernel_rfl) (fun _ _ _ h => h) zk
      go_frame
      apply sk 16 kcq16 rfl (by kernel_rfl) (fun _ _ _ h => h) zk
      go_frame
      apply sk 17 kcq17 rfl (by kernel_rfl) (fun _ _ _ h => h) zk
      go_frame
      apply sk 18 kcq18 rfl (by kernel_rfl) (fun _ _ _ h => h) zk
      go_frame
      apply sk 19 kcq19 rfl (by kernel_rfl) (fun _ _ _ h => h) zk
      go_frame
      apply sk 20 kcq20 rfl (by kernel_rfl) (fun _ _ _ h => h) zk
      go_frame
      apply sk 21 kcq21 rfl (by kernel_rfl) (fun _ _ _ h => h) zk
      go_frame
      apply sk 22 kcq22 rfl (by kernel_rfl) (fun _ _ _ h => h) zk
      go_frame
      apply sk 23 kcq23 rfl (by kernel_rfl) (fun _ _ _ h => h) zk
      go_frame
      apply sk 24 kcq24 rfl (by kernel_rfl) (fun _ _ _ h => h) zk
      go_frame
      apply sk 25 kcq25 rfl (by kernel_rfl) (fun _ _ _ h => h) zk
      go_frame
      apply tk 26 kcq26 rfl (by kernel_rfl) (fun _ _ _ h => h) zk
      · intro wq zq
        go_simp
        try rfl
      go_frame
      apply tk 27 kcq27 rfl (by kernel_rfl) (fun _ _ _ h => h) zk
      · intro wq zq
        go_simp
        try rfl
      go_frame
      apply tk 28 kcq28 rfl (by kernel_rfl) (fun _ _ _ h => h) zk
      · intro wq zq
        go_simp
        try rfl
      go_frame
      refine wpAnyH_done (by kernel_rfl) ?_ _
      go_wp2
      refine bodyPost_ret (results_tmp Try.results32 _ _ _) rfl ?_
      refine ⟨?_, HB2.out.trans ((CV.out.trans zk (fun _ _ h => h)).below HB2.out.size (fun _ _ h => h))⟩
      rw [HV.out]
      unfold cnS
      simp [Cn.ab, HCL.out]
    | false =>
      have HCL := hide hcl
      clear hcl
      cases hq : sel (inRow y.h.1 y.h.2 2) l with
      | nil =>
        have HE := hide hq
        have HQ := hide (show (!(sel (inRow y.h.1 y.h.2 2) l).isEmpty) = false from by rw [hq]; rfl)
        clear hq
        go_wp2
        refine wp_reg (fun _ => False) (R := fun V => Ch (fun _ => False) w2 V) (by kernel_rfl) (Ch.drew _) (fun V cV zk => ?_)
        have CV := hide cV
        clear cV
        apply tk 0 kcq0 rfl (by kernel_rfl) (fun _ _ _ h => h) zk
        · intro wq zq
          go_simp
          try rfl
        go_frame
        apply tk 1 kcq1 rfl (by kernel_rfl) (fun _ _ _ h => h) zk
        · intro wq zq
          go_simp
          try rfl
        go_frame
        apply tk 2 kcq2 rfl (by kernel_rfl) (fun _ _ _ h => h) zk
        · intro wq zq
          go_simp
          try rfl
        go_frame
        apply tk 3 kcq3 rfl (by kernel_rfl) (fun _ _ _ h => h) zk
        · intro wq zq
          go_simp
          try rfl
        go_frame
        apply tk 4 kcq4 rfl (by kernel_rfl) (fun _ _ _ h => h) zk
        · intro wq zq
          go_simp
          try rfl
        go_frame
        apply tk 5 kcq5 rfl (by kernel_rfl) (fun _ _ _ h => h) zk
        · intro wq zq
          go_simp
          try rfl
        go_frame
        apply tk 6 kcq6 rfl (by kernel_rfl) (fun _ _ _ h => h) zk
        · intro wq zq
          obtain ⟨s0, s1, s2, s3, s4⟩ := HX.out _ (CV.out.trans zq (fun _ _ h => h))
          rw [HCL.out] at s4
          go_simp
          try rfl
        go_frame
        apply tk 7 kcq7 rfl (by kernel_rfl) (fun _ _ _ h => h) zk
        · intro wq zq
          go_simp
          try rfl
        go_frame
        apply tk 8 kcq8 rfl (by kernel_rfl) (fun _ _ _ h => h) zk
        · intro wq zq
          go_simp
          try rfl
        go_frame
        apply tk 9 kcq9 rfl (by kernel_rfl) (fun _ _ _ h => h) zk
        · intro wq zq
          go_simp
          try rfl
        go_frame
        apply tk 10 kcq10 rfl (by kernel_rfl) (fun _ _ _ h => h) zk
        · intro wq zq
          go_simp
          try rfl
        go_frame
        apply tk 11 kcq11 rfl (by kernel_rfl) (fun _ _ _ h => h) zk
        · intro wq zq
          obtain ⟨s0, s1, s2, s3, s4⟩ := HX.out _ (CV.out.trans zq (fun _ _ h => h))
          rw [HCL.out] at s4
          go_simp
          try rfl
        go_frame
        refine Go.Proofs.Ytbblmbbpicinlaa.rd 12 kcq12 rfl (by kernel_rfl) fun K hK => ?_
        go_simp
        refine (HH.out _ (CV.out.trans zk (fun _ _ h => h))).mono ?_
        rintro e w3 ⟨rfl, hb3⟩
        have Z3 := hide (zk.trans (Ch.of_below (Q := fun _ => False) hb3) (fun _ _ h => h))
        clear hb3
        rw [HQ.out]
        go_wp2_with fail
        refine hK.out _ _ ?_ (fun zk => ?_)
        · exact Z3.out
        clear hK K
        try go_frame
        apply tk 13 kcq13 rfl (by kernel_rfl) (fun _ _ _ h => h) zk
        · intro wq zq
          go_simp
          try rfl
        go_frame
        apply tk 14 kcq14 rfl (by kernel_rfl) (fun _ _ _ h => h) zk
        · intro wq zq
          go_simp
          try rfl
        go_frame
        apply tk 15 kcq15 rfl (by kernel_rfl) (fun _ _ _ h => h) zk
        · intro wq zq
          go_simp
          try rfl
        go_frame
        apply tk 16 kcq16 rfl (by kernel_rfl) (fun _ _ _ h => h) zk
        · intro wq zq
          go_simp
          try rfl
        go_frame
        apply tk 17 kcq17 rfl (by kernel_rfl) (fun _ _ _ h => h) zk
        · intro wq zq
          go_simp
          try rfl
        go_frame
        apply tk 18 kcq18 rfl (by kernel_rfl) (fun _ _ _ h => h) zk
        · intro wq zq
          obtain ⟨s0, s1, s2, s3, s4⟩ := HX.out _ (CV.out.trans zq (fun _ _ h => h))
          rw [HCL.out] at s4
          go_simp
          try rfl
        go_frame
        apply tk 20 kcq20 rfl (by kernel_rfl) (fun _ _ _ h => h) zk
        · intro wq zq
          go_simp
          try rfl
        go_frame
        apply tk 21 kcq21 rfl (by kernel_rfl) (fun _ _ _ h => h) zk
        · intro wq zq
          go_simp
          try rfl
        go_frame
        apply tk 22 kcq22 rfl (by kernel_rfl) (fun _ _ _ h => h) zk
        · intro wq zq
          go_simp
          try rfl
        go_frame
        apply tk 23 kcq23 rfl (by kernel_rfl) (fun _ _ _ h => h) zk
        · intro wq zq
          obtain ⟨s0, s1, s2, s3, s4⟩ := HX.out _ (CV.out.trans zq (fun _ _ h => h))
          rw [HCL.out] at s4
          go_simp
          try rfl
        go_frame
        refine Go.Proofs.Ytbblmbbpicinlaa.rd 19 kcq19 rfl (by kernel_rfl) fun K hK => ?_
        go_simp
        refine (HLN.out _ (CV.out.trans zk (fun _ _ h => h))).mono ?_
        rintro e wz ⟨rfl, rfl⟩
        have ZZ := hide zk
        go_wp2_with fail
        refine hK.out _ _ ?_ (fun zk => ?_)
        · exact ZZ.out
        clear hK K
        try go_frame
        refine Go.Proofs.Ytbblmbbpicinlaa.rd 24 kcq24 rfl (by kernel_rfl) fun K hK => ?_
        go_simp
        refine (HCP.out _ (CV.out.trans zk (fun _ _ h => h))).mono ?_
        rintro e wz ⟨rfl, rfl⟩
        have ZZ := hide zk
        go_wp2_with fail
        refine hK.out _ _ ?_ (fun zk => ?_)
        · exact ZZ.out
        clear hK K
        try go_frame
        apply tk 25 kcq25 rfl (by kernel_rfl) (fun _ _ _ h => h) zk
        · intro wq zq
          go_simp
          try rfl
        go_frame
        apply tk 26 kcq26 rfl (by kernel_rfl) (fun _ _ _ h => h) zk
        · intro wq zq
          go_simp
          try rfl
        go_frame
        apply tk 27 kcq27 rfl (by kernel_rfl) (fun _ _ _ h => h) zk
        · intro wq zq
          go_simp
          try rfl
        go_frame
        apply tk 28 kcq28 rfl (by kernel_rfl) (fun _ _ _ h => h) zk
        · intro wq zq
          go_simp
          try rfl
        go_frame
        refine wpAnyH_done (by kernel_rfl) ?_ _
        go_wp2
        refine bodyPost_ret (results_tmp Try.results32 _ _ _) rfl ?_
        refine ⟨?_, HB2.out.trans ((CV.out.trans zk (fun _ _ h => h)).below HB2.out.size (fun _ _ h => h))⟩
        rw [HV.out]
        unfold cnS
        simp [Cn.ab, HCL.out, HE.out]
      | cons r rest =>
        have HE := hide hq
        have HQ := hide (show (!(sel (inRow y.h.1 y.h.2 2) l).isEmpty) = true from by rw [hq]; rfl)
        clear hq
        go_wp2
        refine wp_reg (fun _ => False) (R := fun V => Ch (fun _ => False) w2 V) (by kernel_rfl) (Ch.drew _) (fun V cV zk => ?_)
        have CV := hide cV
        clear cV
        apply tk 0 kcq0 rfl (by kernel_rfl) (fun _ _ _ h => h) zk
        · intro wq zq
          go_simp
          try rfl
        go_frame
        apply tk 1 kcq1 rfl (by kernel_rfl) (fun _ _ _ h => h) zk
        · intro wq zq
          go_simp
          try rfl
        go_frame
        apply tk 2 kcq2 rfl (by kernel_rfl) (fun _ _ _ h => h) zk
        · intro wq zq
          go_simp
          try rfl
        go_frame
        apply tk 3 kcq3 rfl (by kernel_rfl) (fun _ _ _ h => h) zk
        · intro wq zq
          go_simp
          try rfl
        go_frame
        apply tk 4 kcq4 rfl (by kernel_rfl) (fun _ _ _ h => h) zk
        · intro wq zq
          go_simp
          try rfl
        go_frame
        apply tk 5 kcq5 rfl (by kernel_rfl) (fun _ _ _ h => h) zk
        · intro wq zq
          go_simp
          try rfl
        go_frame
        apply tk 6 kcq6 rfl (by kernel_rfl) (fun _ _ _ h => h) zk
        · intro wq zq
          obtain ⟨s0, s1, s2, s3, s4⟩ := HX.out _ (CV.out.trans zq (fun _ _ h => h))
          rw [HCL.out] at s4
          go_simp
          try rfl
        go_frame
        apply tk 7 kcq7 rfl (by kernel_rfl) (fun _ _ _ h => h) zk
        · intro wq zq
          go_simp
          try rfl
        go_frame
        apply tk 8 kcq8 rfl (by kernel_rfl) (fun _ _ _ h => h) zk
        · intro wq zq
          go_simp
          try rfl
        go_frame
        apply tk 9 kcq9 rfl (by kernel_rfl) (fun _ _ _ h => h) zk
        · intro wq zq
          go_simp
          try rfl
        go_frame
        apply tk 10 kcq10 rfl (by kernel_rfl) (fun _ _ _ h => h) zk
        · intro wq zq
          go_simp
          try rfl
        go_frame
        apply tk 11 kcq11 rfl (by kernel_rfl) (fun _ _ _ h => h) zk
        · intro wq zq
          obtain ⟨s0, s1, s2, s3, s4⟩ := HX.out _ (CV.out.trans zq (fun _ _ h => h))
          rw [HCL.out] at s4
          go_simp
          try rfl
        go_frame
        refine Go.Proofs.Ytbblmbbpicinlaa.rd 12 kcq12 rfl (by kernel_rfl) fun K hK => ?_
        go_simp
        refine (HH.out _ (CV.out.trans zk (fun _ _ h => h))).mono ?_
        rintro e w3 ⟨rfl, hb3⟩
        have Z3 := hide (zk.trans (Ch.of_below (Q := fun _ => False) hb3) (fun _ _ h => h))
        clear hb3
        rw [HQ.out]
        go_wp2_with fail
        refine hK.out _ _ ?_ (fun zk => ?_)
        · exact Z3.out
        clear hK K
        try go_frame
        apply tk 13 kcq13 rfl (by kernel_rfl) (fun _ _ _ h => h) zk
        · intro wq zq
          go_simp
          try rfl
        go_frame
        apply tk 14 kcq14 rfl (by kernel_rfl) (fun _ _ _ h => h) zk
        · intro wq zq
          go_simp
          try rfl
        go_frame
        apply sk 15 kcq15 rfl (by kernel_rfl) (fun _ _ _ h => h) zk
        go_frame
        apply sk 16 kcq16 rfl (by kernel_rfl) (fun _ _ _ h => h) zk
        go_frame
        apply sk 17 kcq17 rfl (by kernel_rfl) (fun _ _ _ h => h) zk
        go_frame
        apply sk 18 kcq18 rfl (by kernel_rfl) (fun _ _ _ h => h) zk
        go_frame
        apply sk 19 kcq19 rfl (by kernel_rfl) (fun _ _ _ h => h) zk
        go_frame
        apply sk 20 kcq20 rfl (by kernel_rfl) (fun _ _ _ h => h) zk
        go_frame
        apply sk 21 kcq21 rfl (by kernel_rfl) (fun _ _ _ h => h) zk
        go_frame
        apply sk 22 kcq22 rfl (by kernel_rfl) (fun _ _ _ h => h) zk
        go_frame
        apply sk 23 kcq23 rfl (by kernel_rfl) (fun _ _ _ h => h) zk
        go_frame
        apply sk 24 kcq24 rfl (by kernel_rfl) (fun _ _ _ h => h) zk
        go_frame
        apply sk 25 kcq25 rfl (by kernel_rfl) (fun _ _ _ h => h) zk
        go_frame
        apply tk 26 kcq26 rfl (by kernel_rfl) (fun _ _ _ h => h) zk
        · intro wq zq
          go_simp
          try rfl
        go_frame
        apply tk 27 kcq27 rfl (by kernel_rfl) (fun _ _ _ h => h) zk
        · intro wq zq
          go_simp
          try rfl
        go_frame
        apply tk 28 kcq28 rfl (by kernel_rfl) (fun _ _ _ h => h) zk
        · intro wq zq
          go_simp
          try rfl
        go_frame
        refine wpAnyH_done (by kernel_rfl) ?_ _
        go_wp2
        refine bodyPost_ret (results_tmp Try.results32 _ _ _) rfl ?_
        refine ⟨?_, HB2.out.trans ((CV.out.trans zk (fun _ _ h => h)).below HB2.out.size (fun _ _ h => h))⟩
        rw [HV.out]
        unfold cnS
        simp [Cn.ab, HCL.out, HE.out]

set_option maxRecDepth 100000 in
set_option maxHeartbeats 8000000 in
theorem canRecv_ci {w : World} {B c bp M : Nat} {F : Nat → Prop} {l : List Wt} {cs : List Cn} (h : CI w B c bp M F l cs) (hl : l.length ≤ 100000) {h0 : Hnd} (u1 : UsW h0.1) (u2 : UsW h0.2) : Calls Try.prog 33 #[.pointer (some ⟨c, 0, none⟩), hkV h0] w fun e w' => e = .returned (.bool (fkR l (cs.map Cn.ab) h0)) ∧ Below w.heap.size w w' := by
  obtain ⟨w1, hw1⟩ : ∃ w1, w.alloc (.cells #[.int .u32 h0.1, .int .u32 h0.2] 43) = w1 := ⟨_, rfl⟩
  have hB1 : Below w.heap.size w w1 := by rw [← hw1]; exact below1 _ _
  have hn : w1.heap[w.heap.size]? = some (.cells #[.int .u32 h0.1, .int .u32 h0.2] 43 (0, 0)) := by rw [← hw1]; exact heap_new _ _
  have hx0 : w1.cell? ⟨w.heap.size, 0, none⟩ = some (.int .u32 h0.1) := by simp [Lib.cell_of_heap hn]
  have hx1 : w1.cell? ⟨w.heap.size, 1, none⟩ = some (.int .u32 h0.2) := by simp [Lib.cell_of_heap hn]
  have H := hide (h.quiet (Ch.of_below hB1))
  have HB := hide hB1
  clear h hB1 hn
  go_enter Try.func33, Try.ntmps33
  go_wp2_with fail
  clear hw1
  refine (at_cis H.out h0).mono ?_
  rintro e w2 ⟨rfl, hb⟩
  have H2 := hide (H.out.quiet (Ch.of_below hb))
  have HB2 := hide (HB.out.trans (hb.mono HB.out.size))
  clear hb hx0 hx1
  cases hf : fnc cs h0 with
  | none =>
    have HF := hide hf
    clear hf
    rw [cp_none]
    go_wp2_with fail
    refine bodyPost_ret (results_tmp Try.results33 _ _ _) rfl ?_
    exact ⟨by rw [show fkR l (cs.map Cn.ab) h0 = false from by unfold fkR; rw [fnk_ab, HF.out]; rfl]; rfl, HB2.out⟩
  | some y =>
    obtain ⟨hin, hyh⟩ := fnc_some hf
    have HF := hide hf
    have HIN := hide hin
    have uy1 : UsW y.h.1 := by rw [hyh]; exact u1
    have uy2 : UsW y.h.2 := by rw [hyh]; exact u2
    clear hf hin hyh
    rw [cp_some]
    have HV := hide (show fkR l (cs.map Cn.ab) h0 = cnR l y.ab from by unfold fkR; rw [fnk_ab, HF.out]; rfl)
    obtain ⟨k0, k1, k2, k3, k4⟩ := (H2.out.ch y HIN.out).cells
    have KX := hide (And.intro k0 (And.intro k1 (And.intro k2 (And.intro k3 k4))))
    clear k0 k1 k2 k4
    go_wp2_with fail
    refine (lenV_is (H2.out.ch y HIN.out).ring).mono ?_
    rintro e wz ⟨rfl, rfl⟩
    cases hxs : y.xs with
    | cons v vs =>
      have HXS := hide hxs
      rw [List.length_cons]
      have hp : (((vs.length + 1 : Nat) : Int) > 0) := by omega
      have hp2 : decide ((0 : Int) < ((vs.length + 1 : Nat) : Int)) = true := decide_eq_true hp
      clear hxs
      go_wp2_with fail
      refine bodyPost_ret (results_tmp Try.results33 _ _ _) rfl ?_
      refine ⟨?_, HB2.out⟩
      rw [HV.out]
      unfold cnR
      simp [Cn.ab, HXS.out]
    | nil =>
      have HXS := hide hxs
      clear hxs
      rw [List.length_nil]
      obtain ⟨k0, k1, k2, -, -⟩ := KX.out
      go_wp2_with fail
      refine (phas_is H2.out.bk hl uy1 uy2 (show I64 1 by constructor <;> decide)).mono ?_
      rintro e w3 ⟨rfl, hb3⟩
      have HB3 := hide (HB2.out.trans (hb3.mono HB2.out.size))
      obtain ⟨-, -, -, -, j4⟩ := ((H2.out.quiet (Ch.of_below hb3)).ch y HIN.out).cells
      clear hb3 k0 k1 k2 k3
      cases hq : sel (inRow y.h.1 y.h.2 1) l with
      | cons r rest =>
        have HE := hide hq
        rw [show (!(r :: rest).isEmpty) = true from rfl]
        clear hq j4
        go_wp2_with fail
        refine bodyPost_ret (results_tmp Try.results33 _ _ _) rfl ?_
        refine ⟨?_, HB3.out⟩
        rw [HV.out]
        unfold cnR
        simp [Cn.ab, HXS.out, HE.out]
      | nil =>
        have HE := hide hq
        rw [show (!([] : List Rc).isEmpty) = false from rfl]
        clear hq
        go_wp2_with fail
        refine bodyPost_ret (results_tmp Try.results33 _ _ _) rfl ?_
        refine ⟨?_, HB3.out⟩
        rw [HV.out]
        unfold cnR
        simp [Cn.ab, HXS.out, HE.out]

end Go.Proofs.Ytbblmbbpicinlaa

namespace Go.Proofs.Ytbblmbbpicinlaa
open Go.RowKit

/-- what a channel's own call leaves -/
structure AnsC (w w' : World) (B c bp M : Nat) (F : Nat → Prop) (cs : List Cn) (l' : List Wt) (ks' : List Kn) (wk : List Wk) (sv : Value) : Prop where
  st : ∃ F' cs', CI w' B c bp M F' l' cs' ∧ cs'.map Cn.ab = ks' ∧ (∀ y, F' y → F y ∨ w.heap.size ≤ y) ∧ ∀ z ∈ cs', ∀ y, z.mine y → ∃ u ∈ cs, u.mine y
  row : WkRow w' w.heap.size sv wk
theorem mine_set {cs : List Cn} {i : Nat} (hi : i < cs.length) {x : Cn} (e : x.cb = cs[i].cb ∧ x.rp = cs[i].rp ∧ x.rg = cs[i].rg) : ∀ z ∈ cs.set i x, ∀ y, z.mine y → ∃ u ∈ cs, u.mine y := by
  intro z hz y hy
  rcases List.mem_or_eq_of_mem_set hz with h | h
  · exact ⟨z, h, hy⟩
  · subst h
    refine ⟨cs[i], List.getElem_mem hi, ?_⟩
    unfold Cn.mine at hy ⊢
    rw [e.1, e.2.1, e.2.2] at hy
    exact hy

section
variable {w : World} {B c bp M : Nat} {F : Nat → Prop} {l : List Wt} {cs : List Cn}
theorem CI.ndk (h : CI w B c bp M F l cs) : (cs.map Cn.ab).Pairwise fun a b => a.h ≠ b.h := by
  rw [List.pairwise_map]
  exact h.nd
theorem CI.self (h : CI w B c bp M F l cs) {x : Cn} (hx : x ∈ cs) : setk (cs.map Cn.ab) x.ab = cs.map Cn.ab := setk_self h.ndk (List.mem_map_of_mem hx)

theorem csend_ci (h : CI w B c bp M F l cs) (hl : l.length ≤ 100000) (wo : WtOk l) {x : Cn} (hx : x ∈ cs) {g : Hnd} {v : Va} (sb : SnB x g v) :
    Calls Try.prog 69 #[.pointer (some ⟨x.cb, 0, none⟩), hkV g, vaV v] w fun e w' => ∃ sv, e = .returned (ddV (sndK l x.ab g v).1 sv) ∧ AnsC w w' B c bp M F cs (sndK l x.ab g v).2.1 (setk (cs.map Cn.ab) (sndK l x.ab g v).2.2) (sndK l x.ab g v).1.wk sv ∧ Ch (fun y => x.mine y ∨ F y) w w' := by
  obtain ⟨i, hi, hxi⟩ := List.getElem_of_mem hx
  by_cases hcl : x.cl = true
  · have hk : sndK l x.ab g v = (⟨12, zVa, false, []⟩, l, x.ab) := by unfold sndK; rw [if_pos (show x.ab.cl = true from hcl)]
    rw [hk]
    refine (send_closed h hx hcl g v).mono ?_
    rintro e w' ⟨rfl, hb⟩
    exact ⟨_, rfl, ⟨⟨F, cs, h.quiet (Ch.of_below hb), by rw [h.self hx], fun y hy => .inl hy, fun z hz y hy => ⟨z, hz, hy⟩⟩, Row.nil _ _⟩, Ch.of_below hb⟩
  · have hcl : x.cl = false := by simpa using hcl
    cases hq : sel (inRow x.h.1 x.h.2 2) l with
    | cons r rest =>
      have hk : sndK l x.ab g v = (⟨0, zVa, false, [⟨r.ws, r.wg, r.ar, v, true, 0⟩]⟩, leaW l r.ws r.wg, x.ab) := by
        unfold sndK
        rw [if_neg (show ¬ x.ab.cl = true by rw [show x.ab.cl = x.cl from rfl, hcl]; decide), show sel (inRow x.ab.h.1 x.ab.h.2 2) l = r :: rest from hq]
      have ok := wo.sel (inRow x.h.1 x.h.2 2) (r := r) (by rw [hq]; exact List.mem_cons_self ..)
      rw [hk]
      refine (send_wake h hl hx sb hcl hq ok.w1 ok.w2).mono ?_
      rintro e w' ⟨nb, F', rfl, hnb, hbl, hi', hc, hd⟩
      exact ⟨_, rfl, ⟨⟨F', cs, hi', by rw [h.self hx], hd, fun z hz y hy => ⟨z, hz, hy⟩⟩, wk_one (k := ⟨r.ws, r.wg, r.ar, v, true, 0⟩) hnb hbl⟩, hc.mono (fun _ _ e => .inr e)⟩
    | nil =>
      have hcnt := (h.ch x hx).ring.lies.cnt
      by_cases hn : x.xs.length < x.n
      · have hk : sndK l x.ab g v = (⟨0, zVa, false, []⟩, l, (x.put v).ab) := by
          unfold sndK
          rw [if_neg (show ¬ x.ab.cl = true by rw [show x.ab.cl = x.cl from rfl, hcl]; decide), show sel (inRow x.ab.h.1 x.ab.h.2 2) l = [] from hq]
          show (if x.xs.length < x.n then _ else _) = _
          rw [if_pos hn]
          rfl
        rw [hk]
        refine (send_put h hl hi hxi sb hcl hq hn).mono ?_
        rintro e w' ⟨rfl, hi', hc⟩
        exact ⟨_, rfl, ⟨⟨F, _, hi', set_ab h.nd hi (by rw [hxi]; rfl), fun y hy => .inl hy, mine_set hi (by rw [hxi]; exact ⟨rfl, rfl, rfl⟩)⟩, Row.nil _ _⟩, hc.mono (fun _ _ e => .inl e)⟩
      · have hk : sndK l x.ab g v = (⟨1, zVa, false, []⟩, putW l x.h.1 x.h.2 1 g.1 g.2 0 v.n v.s v.g, x.ab) := by
          unfold sndK
          rw [if_neg (show ¬ x.ab.cl = true by rw [show x.ab.cl = x.cl from rfl, hcl]; decide), show sel (inRow x.ab.h.1 x.ab.h.2 2) l = [] from hq]
          show (if x.xs.length < x.n then _ else _) = _
          rw [if_neg hn]
          rfl
        rw [hk]
        refine (send_park h hl hi hxi sb hcl hq (by omega)).mono ?_
        rintro e w' ⟨rfl, F', hi', hc, hd⟩
        exact ⟨_, rfl, ⟨⟨F', cs, hi', by rw [h.self hx], hd, fun z hz y hy => ⟨z, hz, hy⟩⟩, Row.nil _ _⟩, hc.mono (fun _ _ e => .inr e)⟩

theorem crecv_ci (h : CI w B c bp M F l cs) (hl : l.length ≤ 100000) (wo : WtOk l) {x : Cn} (hx : x ∈ cs) {g : Hnd} (sb : SnB x g zVa) :
    Calls Try.prog 66 #[.pointer (some ⟨x.cb, 0, none⟩), hkV g] w fun e w' => ∃ sv, e = .returned (ddV (rcvK l x.ab g).1 sv) ∧ AnsC w w' B c bp M F cs (rcvK l x.ab g).2.1 (setk (cs.map Cn.ab) (rcvK l x.ab g).2.2) (rcvK l x.ab g).1.wk sv ∧ Ch (fun y => x.mine y ∨ F y) w w' := by
  obtain ⟨i, hi, hxi⟩ := List.getElem_of_mem hx
  cases hxs : x.xs with
  | cons v more =>
    cases hq : sel (inRow x.h.1 x.h.2 1) l with
    | nil =>
      have hk : rcvK l x.ab g = (⟨0, v, true, []⟩, l, x.take.ab) := by
        unfold rcvK
        rw [show x.ab.xs = v :: more from hxs]
        simp only [show sel (inRow x.ab.h.1 x.ab.h.2 1) l = [] from hq]
        have : x.take.ab = { x.ab with xs := more } := by unfold Cn.take Cn.ab; rw [hxs]; rfl
        rw [this]
      rw [hk]
      refine (recv_take0 h hl hi hxi sb.h1 sb.h2 hxs hq).mono ?_
      rintro e w' ⟨rfl, hi', hc⟩
      exact ⟨_, rfl, ⟨⟨F, _, hi', set_ab h.nd hi (by rw [hxi]; rfl), fun y hy => .inl hy, mine_set hi (by rw [hxi]; exact ⟨rfl, rfl, rfl⟩)⟩, Row.nil _ _⟩, hc⟩
    | cons r rest =>
      have hk : rcvK l x.ab g = (⟨0, v, true, [⟨r.ws, r.wg, r.ar, zVa, false, 0⟩]⟩, leaW l r.ws r.wg, (x.take.put (vaR r)).ab) := by
        unfold rcvK
        rw [show x.ab.xs = v :: more from hxs]
        simp only [show sel (inRow x.ab.h.1 x.ab.h.2 1) l = r :: rest from hq]
        have : (x.take.put (vaR r)).ab = { x.ab with xs := more ++ [⟨r.vn, r.vs, r.vg⟩] } := by unfold Cn.put Cn.take Cn.ab; rw [hxs]; rfl
        rw [this]
      have ok := wo.sel (inRow x.h.1 x.h.2 1) (r := r) (by rw [hq]; exact List.mem_cons_self ..)
      rw [hk]
      refine (recv_take1 h hl hi hxi sb.h1 sb.h2 hxs hq ok.w1 ok.w2).mono ?_
      rintro e w' ⟨nb, F', rfl, hnb, hbl, hi', hc, hd⟩
      exact ⟨_, rfl, ⟨⟨F', _, hi', set_ab h.nd hi (by rw [hxi]; rfl), hd, mine_set hi (by rw [hxi]; exact ⟨rfl, rfl, rfl⟩)⟩, wk_one (k := ⟨r.ws, r.wg, r.ar, zVa, false, 0⟩) hnb hbl⟩, hc⟩
  | nil =>
    cases hq : sel (inRow x.h.1 x.h.2 1) l with
    | cons r rest =>
      have hk : rcvK l x.ab g = (⟨0, vaR r, true, [⟨r.ws, r.wg, r.ar, zVa, false, 0⟩]⟩, leaW l r.ws r.wg, x.ab) := by
        unfold rcvK
        rw [show x.ab.xs = [] from hxs]
        simp only [show sel (inRow x.ab.h.1 x.ab.h.2 1) l = r :: rest from hq]
      have ok := wo.sel (inRow x.h.1 x.h.2 1) (r := r) (by rw [hq]; exact List.mem_cons_self ..)
      rw [hk]
      refine (recv_wake h hl hx sb hxs hq ok.w1 ok.w2).mono ?_
      rintro e w' ⟨nb, F', rfl, hnb, hbl, hi', hc, hd⟩
      exact ⟨_, rfl, ⟨⟨F', cs, hi', by rw [h.self hx], hd, fun z hz y hy => ⟨z, hz, hy⟩⟩, wk_one (k := ⟨r.ws, r.wg, r.ar, zVa, false, 0⟩) hnb hbl⟩, hc.mono (fun _ _ e => .inr e)⟩
    | nil =>
      by_cases hcl : x.cl = true
      · have hk : rcvK l x.ab g = (⟨0, zVa, false, []⟩, l, x.ab) := by
          unfold rcvK
          rw [show x.ab.xs = [] from hxs]
          simp only [show sel (inRow x.ab.h.1 x.ab.h.2 1) l = [] from hq]
          rw [if_pos (show x.ab.cl = true from hcl)]
        rw [hk]
        refine (recv_done h hl hx sb.h1 sb.h2 hxs hcl hq g).mono ?_
        rintro e w' ⟨rfl, hb⟩
        exact ⟨_, rfl, ⟨⟨F, cs, h.quiet (Ch.of_below hb), by rw [h.self hx], fun y hy => .inl hy, fun z hz y hy => ⟨z, hz, hy⟩⟩, Row.nil _ _⟩, Ch.of_below hb⟩
      · have hcl : x.cl = false := by simpa using hcl
        have hk : rcvK l x.ab g = (⟨1, zVa, false, []⟩, putW l x.h.1 x.h.2 2 g.1 g.2 0 0 0 0, x.ab) := by
          unfold rcvK
          rw [show x.ab.xs = [] from hxs]
          simp only [show sel (inRow x.ab.h.1 x.ab.h.2 1) l = [] from hq]
          rw [if_neg (show ¬ x.ab.cl = true by rw [show x.ab.cl = x.cl from rfl, hcl]; decide)]
          rfl
        rw [hk]
        refine (recv_park h hl hx sb hxs hcl hq).mono ?_
        rintro e w' ⟨rfl, F', hi', hc, hd⟩
        exact ⟨_, rfl, ⟨⟨F', cs, hi', by rw [h.self hx], hd, fun z hz y hy => ⟨z, hz, hy⟩⟩, Row.nil _ _⟩, hc.mono (fun _ _ e => .inr e)⟩
end

/-- what a call leaves: the channels and their book, whom it woke -/
structure AnsK (w w' : World) (B c bp : Nat) (G : Nat → Prop) (l' : List Wt) (ks' : List Kn) (wk : List Wk) (sv : Value) : Prop where
  st : ∃ G', SW w' B c bp l' ks' G' ∧ ∀ y, G' y → G y ∨ w.heap.size ≤ y
  row : WkRow w' w.heap.size sv wk
  ch : Ch G w w'

section
variable {w : World} {B c bp : Nat} {l : List Wt} {ks : List Kn} {G : Nat → Prop}

theorem AnsC.up {w V w6 w' : World} {M A : Nat} {F : Nat → Prop} {cs : List Cn} {l l' : List Wt} {ks' : List Kn} {wk : List Wk} {sv : Value} {x : Cn} (h : CI w B c bp M F l cs) (hG : ∀ y, G y ↔ (y = c ∨ y = M ∨ F y ∨ ∃ x ∈ cs, x.mine y)) (hx : x ∈ cs) (ha : AnsC V w6 B c bp M F cs l' ks' wk sv) (cV : Ch (fun _ => False) w V) (hA : w.heap.size ≤ A) (hA2 : A < V.heap.size) (cA : Ch (fun y => y = A) w6 w') (cQ : Ch (fun y => x.mine y ∨ F y) w w') : AnsK w w' B c bp G l' ks' wk sv := by
  obtain ⟨⟨F', cs', hi, hab, hd, hm⟩, hr⟩ := ha
  have nG : ∀ y, (y = c ∨ y = M ∨ F y ∨ ∃ u ∈ cs, u.mine y) → ¬ y = A := fun y hy e => by
    have := (h.feet hy).2
    omega
  refine ⟨⟨fun y => y = c ∨ y = M ∨ F' y ∨ ∃ u ∈ cs', u.mine y, ⟨M, F', cs', hi.frame cA (fun y hy e => ?_), hab, fun _ => Iff.rfl⟩, fun y hy => ?_⟩, ?_, ?_⟩
  · rcases hy with hy | hy | hy | ⟨u, hu, hy⟩
    · exact nG y (.inl hy) e
    · exact nG y (.inr (.inl hy)) e
    · rcases hd y hy with hy | hy
      · exact nG y (.inr (.inr (.inl hy))) e
      · omega
    · obtain ⟨z, hz, hzy⟩ := hm u hu y hy
      exact nG y (.inr (.inr (.inr ⟨z, hz, hzy⟩))) e
  · rw [hG]
    have := cV.size
    rcases hy with hy | hy | hy | ⟨u, hu, hy⟩
    · exact .inl (.inl hy)
    · exact .inl (.inr (.inl hy))
    · rcases hd y hy with hy | hy
      · exact .inl (.inr (.inr (.inl hy)))
      · exact .inr (by omega)
    · obtain ⟨z, hz, hzy⟩ := hm u hu y hy
      exact .inl (.inr (.inr (.inr ⟨z, hz, hzy⟩)))
  · have hr2 := rowLow hr cV.size
    exact Row.ch hr2 cA (fun g hg e => by have := (own_in hr hg).1; omega)
  · exact cQ.mono (fun y _ hy => (hG y).2 (hy.elim (fun hy => .inr (.inr (.inr ⟨x, hx, hy⟩))) (fun hy => .inr (.inr (.inl hy)))))

theorem ks_rf {l : List Wt} {cs : List Cn} {g h0 : Hnd} {y : Cn} (ng : nnH g = false) (nw : sel (isWho g.1 g.2) l = []) (hy : fnc cs h0 = some y) : rfE l cs g h0 = 0 := by
  unfold rfE
  rw [ng, nw, hy]
  simp

/-- Send of a channel that there is, by somebody who doesn't wait -/
theorem sw_send (h : SW w B c bp l ks G) (hl : l.length ≤ 100000) (wo : WtOk l) {g h0 : Hnd} {v : Va} {x : Kn} (hx : fnk ks h0 = some x) (nn : nnH h0 = false) (ng : nnH g = false) (nw : sel (isWho g.1 g.2) l = []) (u1 : UsW h0.1) (u2 : UsW h0.2) (g1 : UsW g.1) (g2 : UsW g.2) (v0 : I64 v.n) (v1 : UsW v.s) (v2 : UsW v.g) :
    Calls Try.prog 25 #[.pointer (some ⟨c, 0, none⟩), hkV g, hkV h0, vaV v] w fun e w' => ∃ sv, e = .returned (.tuple #[ddV (sndK l x g v).1 sv, .int .i64 0]) ∧ AnsK w w' B c bp G (sndK l x g v).2.1 (setk ks (sndK l x g v).2.2) (sndK l x g v).1.wk sv := by
  obtain ⟨M, F, cs, hi, rfl, hG⟩ := h
  obtain ⟨y, hy, rfl⟩ := fnc_ab hx
  obtain ⟨hin, hyh⟩ := fnc_some hy
  have sb : SnB y g v := ⟨by rw [hyh]; exact u1, by rw [hyh]; exact u2, g1, g2, v0, v1, v2⟩
  refine (send_via hi hl (v := v) g1 g2 (ks_rf ng nw hy) nn hy (Qs := fun z => y.mine z ∨ F z) (fun z hz => hz.elim ((hi.ch y hin).lt z) (fun hz => (face.foot hi.bk z hz).2))
    (R := fun f u ok sa sn sc V w' => (f = (sndK l y.ab g v).1.f ∧ u = (sndK l y.ab g v).1.v ∧ ok = (sndK l y.ab g v).1.ok) ∧ AnsC V w' B c bp M F cs (sndK l y.ab g v).2.1 (setk (cs.map Cn.ab) (sndK l y.ab g v).2.2) (sndK l y.ab g v).1.wk (.slice sa sn sc)) (fun V cV => ?_)).mono ?_
  · refine (csend_ci (hi.quiet cV) hl wo hin sb).mono ?_
    rintro e w' ⟨sv, rfl, ha, hc⟩
    obtain ⟨a, k, rfl, -⟩ := ha.row.form
    exact ⟨_, _, _, a, _, k, rfl, ⟨⟨rfl, rfl, rfl⟩, ha⟩, hc⟩
  · rintro e w' ⟨f, u, ok, sa, sn, sc, V, w6, A, rfl, ⟨⟨rfl, rfl, rfl⟩, ha⟩, cV, hA, hA2, cA, cQ⟩
    exact ⟨_, rfl, ha.up hi hG hin cV hA hA2 cA cQ⟩

/-- Recv of a channel that there is, by somebody who doesn't wait -/
theorem sw_recv (h : SW w B c bp l ks G) (hl : l.length ≤ 100000) (wo : WtOk l) {g h0 : Hnd} {x : Kn} (hx : fnk ks h0 = some x) (nn : nnH h0 = false) (ng : nnH g = false) (nw : sel (isWho g.1 g.2) l = []) (u1 : UsW h0.1) (u2 : UsW h0.2) (g1 : UsW g.1) (g2 : UsW g.2) :
    Calls Try.prog 21 #[.pointer (some ⟨c, 0, none⟩), hkV g, hkV h0] w fun e w' => ∃ sv, e = .returned (.tuple #[ddV (rcvK l x g).1 sv, .int .i64 0]) ∧ AnsK w w' B c bp G (rcvK l x g).2.1 (setk ks (rcvK l x g).2.2) (rcvK l x g).1.wk sv := by
  obtain ⟨M, F, cs, hi, rfl, hG⟩ := h
  obtain ⟨y, hy, rfl⟩ := fnc_ab hx
  obtain ⟨hin, hyh⟩ := fnc_some hy
  have sb : SnB y g zVa := ⟨by rw [hyh]; exact u1, by rw [hyh]; exact u2, g1, g2, by constructor <;> decide, by constructor <;> decide, by constructor <;> decide⟩
  refine (recv_via hi hl g1 g2 (ks_rf ng nw hy) nn hy (Qs := fun z => y.mine z ∨ F z) (fun z hz => hz.elim ((hi.ch y hin).lt z) (fun hz => (face.foot hi.bk z hz).2))
    (R := fun f u ok sa sn sc V w' => (f = (rcvK l y.ab g).1.f ∧ u = (rcvK l y.ab g).1.v ∧ ok = (rcvK l y.ab g).1.ok) ∧ AnsC V w' B c bp M F cs (rcvK l y.ab g).2.1 (setk (cs.map Cn.ab) (rcvK l y.ab g).2.2) (rcvK l y.ab g).1.wk (.slice sa sn sc)) (fun V cV => ?_)).mono ?_
  · refine (crecv_ci (hi.quiet cV) hl wo hin sb).mono ?_
    rintro e w' ⟨sv, rfl, ha, hc⟩
    obtain ⟨a, k, rfl, -⟩ := ha.row.form
    exact ⟨_, _, _, a, _, k, rfl, ⟨⟨rfl, rfl, rfl⟩, ha⟩, hc⟩
  · rintro e w' ⟨f, u, ok, sa, sn, sc, V, w6, A, rfl, ⟨⟨rfl, rfl, rfl⟩, ha⟩, cV, hA, hA2, cA, cQ⟩
    exact ⟨_, rfl, ha.up hi hG hin cV hA hA2 cA cQ⟩

theorem sw_new {F : Nat → Prop} (h : PTb w B F bp []) (hB : B ≤ w.heap.size) : Calls Try.prog 11 #[.pointer (some ⟨bp, 0, none⟩)] w fun e w' => ∃ c G, e = .returned (.tuple #[.pointer (some ⟨c, 0, none⟩), .int .i64 0]) ∧ SW w' B c bp [] [] G ∧ Below w.heap.size w w' := by
  refine (new_cis h hB).mono ?_
  rintro e w' ⟨c, M, rfl, hi, hb⟩
  exact ⟨c, _, rfl, ⟨M, F, [], hi, rfl, fun _ => Iff.rfl⟩, hb⟩
theorem sw_make (h : SW w B c bp l ks G) {x : Hnd} (hnn : nnH x = false) {m : Int} {n : Nat} (hm : m = n) (hn : n ≤ 100) (hf : fnk ks x = none) :
    Calls Try.prog 17 #[.pointer (some ⟨c, 0, none⟩), hkV x, .int .i64 m] w fun e w' => ∃ G', e = .returned (.int .i64 0) ∧ SW w' B c bp l (ks ++ [⟨x, n, [], false⟩]) G' ∧ Ch G w w' := by
  obtain ⟨M, F, cs, hi, rfl, hG⟩ := h
  have hf' : fnc cs x = none := by
    rw [fnk_ab] at hf
    cases h : fnc cs x with
    | none => rfl
    | some y => rw [h] at hf; cases hf
  refine (make_ok hi hnn hm hn hf').mono ?_
  rintro e w' ⟨z, rfl, hi', ⟨z1, z2, z3, z4⟩, hc⟩
  refine ⟨_, rfl, ⟨M, F, cs ++ [z], hi', ?_, fun _ => Iff.rfl⟩, hc.mono (fun y _ e => (hG y).2 (.inr (.inl e)))⟩
  rw [List.map_append, List.map_cons, List.map_nil]
  unfold Cn.ab
  rw [z1, z2, z3, z4]
theorem sw_canSend (h : SW w B c bp l ks G) (hl : l.length ≤ 100000) {h0 : Hnd} (u1 : UsW h0.1) (u2 : UsW h0.2) : Calls Try.prog 32 #[.pointer (some ⟨c, 0, none⟩), hkV h0] w fun e w' => e = .returned (.bool (fkS l ks h0)) ∧ Below w.heap.size w w' := by
  obtain ⟨M, F, cs, hi, rfl, hG⟩ := h
  exact canSend_ci hi hl u1 u2
theorem sw_canRecv (h : SW w B c bp l ks G) (hl : l.length ≤ 100000) {h0 : Hnd} (u1 : UsW h0.1) (u2 : UsW h0.2) : Calls Try.prog 33 #[.pointer (some ⟨c, 0, none⟩), hkV h0] w fun e w' => e = .returned (.bool (fkR l ks h0)) ∧ Below w.heap.size w w' := by
  obtain ⟨M, F, cs, hi, rfl, hG⟩ := h
  exact canRecv_ci hi hl u1 u2
theorem sw_has (h : SW w B c bp l ks G) (x : Hnd) : Calls Try.prog 31 #[.pointer (some ⟨c, 0, none⟩), hkV x] w fun e w' => e = .returned (.bool (fnk ks x).isSome) ∧ Below w.heap.size w w' := by
  obtain ⟨M, F, cs, hi, rfl, hG⟩ := h
  rw [fnk_ab, Option.isSome_map]
  exact has_cis hi x
/-- the book behind them -/
theorem SW.book (h : SW w B c bp l ks G) : ∃ F, PTb w B F bp l ∧ (∀ y, F y → G y) ∧ ∀ {w' : World} {F' : Nat → Prop} {l' : List Wt}, PTb w' B F' bp l' → Ch F w w' → (∀ y, F' y → F y ∨ w.heap.size ≤ y) → ∃ G', SW w' B c bp l' ks G' ∧ ∀ y, G' y → G y ∨ w.heap.size ≤ y := by
  obtain ⟨M, F, cs, hi, rfl, hG⟩ := h
  refine ⟨F, hi.bk, fun y hy => (hG y).2 (.inr (.inr (.inl hy))), fun {w' F' l'} hp hc hd => ⟨_, ⟨M, F', cs, hi.book hp hc hd, rfl, fun _ => Iff.rfl⟩, fun y hy => ?_⟩⟩
  rw [hG]
  rcases hy with hy | hy | hy | hy
  · exact .inl (.inl hy)
  · exact .inl (.inr (.inl hy))
  · exact (hd y hy).imp_left fun hy => .inr (.inr (.inl hy))
  · exact .inl (.inr (.inr (.inr hy)))
end

end Go.Proofs.Ytbblmbbpicinlaa
