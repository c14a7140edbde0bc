/- Layer 10: what SlotsSeen asks of the program's table of pairs. -/
import Derived.Test.YtjilnmeegolpkaaIg
import Derived.Test.YtjilnmeegolpkaaSp
namespace Go.Proofs.Ytjilnmeegolpkaa
open Go.RowKit Go.Shelf

/-- a thing: a text and a list's value -/
structure Pa where
  A : ByteArray
  a : Option Addr
  n : Nat
  c : Nat
abbrev paV (x : Pa) : Value := .agg #[.string x.A, .slice x.a x.n x.c]
def paZ : Pa := ⟨⟨#[]⟩, none, 0, 0⟩
/-- those that live -/
def lvp (l : List (ThG Pa)) : List (ThG Pa) := l.filter fun t => !t.d
/-- what Get tells -/
def gtP (l : List (ThG Pa)) (s g : Int) : Pa := match fnd l s g with
  | none => paZ
  | some i => (l[i]?.map ThG.x).getD paZ

structure FaceP (PT : World → Nat → (Nat → Prop) → Nat → List (ThG Pa) → Nat → Prop) (Sq : World → Nat → (Nat → Prop) → Nat → Array Value → Nat → Prop) : Prop where
  ch : ∀ {Q : Nat → Prop} {w w' : World} {B : Nat} {F : Nat → Prop} {p : Nat} {l : List (ThG Pa)} {M : Nat}, PT w B F p l M → Ch Q w w' → (∀ x, F x → ¬ Q x) → PT w' B F p l M
  foot : ∀ {w : World} {B : Nat} {F : Nat → Prop} {p : Nat} {l : List (ThG Pa)} {M : Nat}, PT w B F p l M → ∀ x, F x → B ≤ x ∧ ∃ cs T r, w.heap[x]? = some (.cells cs T r)
  sch : ∀ {Q : Nat → Prop} {w w' : World} {B : Nat} {G : Nat → Prop} {gf : Nat} {lb : Array Value} {p : Nat}, Sq w B G gf lb p → Ch Q w w' → (∀ x, G x → ¬ Q x) → Sq w' B G gf lb p
  sfoot : ∀ {w : World} {B : Nat} {G : Nat → Prop} {gf : Nat} {lb : Array Value} {p : Nat}, Sq w B G gf lb p → ∀ x, G x → B ≤ x ∧ ∃ cs T r, w.heap[x]? = some (.cells cs T r)
  enters : ∀ {w : World} {B : Nat} {G : Nat → Prop} {gf : Nat} {lb : Array Value} {p : Nat}, Sq w B G gf lb p → ∀ args w, (callFunc gf args).run Try.prog w = .ok (.enter gf args) w
  all : ∀ {w : World} {B : Nat} {F : Nat → Prop} {p : Nat} {l : List (ThG Pa)} {M : Nat}, PT w B F p l M →
    Calls Try.prog 24 #[.pointer (some ⟨p, 0, none⟩)] w fun e w' => ∃ gf lb G, e = .returned (.func (.func gf) #[] lb) ∧ Sq w' w.heap.size G gf lb p ∧ Below w.heap.size w w'
  stops : ∀ {w : World} {B : Nat} {F : Nat → Prop} {p : Nat} {l : List (ThG Pa)} {M : Nat} {B' : Nat} {G : Nat → Prop} {gf : Nat} {lb : Array Value} (n : Nat), 3 ≤ n → PT w B F p l M → Sq w B' G gf lb p →
    SeqIs n Try.prog gf lb ((lvp l).map fun t => #[.agg #[.int .u32 t.s, .int .u32 t.g], paV t.x]) (Kc w.heap.size) w
  new : ∀ (w : World) (m : Int) (M : Nat), m = M → 1 ≤ M → M ≤ 500 → Calls Try.prog 22 #[.int .i64 m] w fun e w' => ∃ p F, e = .returned (.tuple #[.pointer (some ⟨p, 0, none⟩), .int .i64 0]) ∧ PT w' w.heap.size F p [] M ∧ Below w.heap.size w w'
  take : ∀ {w : World} {B : Nat} {F : Nat → Prop} {p : Nat} {l : List (ThG Pa)} {M : Nat} (x : Pa), PT w B F p l M → l.length ≤ 100000 → Calls Try.prog 23 #[.pointer (some ⟨p, 0, none⟩), paV x] w fun e w' => ∃ F', e = .returned (.tuple #[.agg #[.int .u32 (tkS l M), .int .u32 (tkG l M)], .int .i64 (ec (tkB l M) 101)]) ∧ PT w' B F' p (tkd l M x) M ∧ Ch F w w' ∧ ∀ y, F' y → F y ∨ w.heap.size ≤ y
  free : ∀ {w : World} {B : Nat} {F : Nat → Prop} {p : Nat} {l : List (ThG Pa)} {M : Nat} (s g : Int), Us s → PT w B F p l M → Calls Try.prog 25 #[.pointer (some ⟨p, 0, none⟩), .agg #[.int .u32 s, .int .u32 g]] w fun e w' => ∃ F', e = .returned (.int .i64 (ec (fnB l s g) 102)) ∧ PT w' B F' p (frd l s g) M ∧ Ch F w w' ∧ ∀ y, F' y → F y ∨ w.heap.size ≤ y
  set : ∀ {w : World} {B : Nat} {F : Nat → Prop} {p : Nat} {l : List (ThG Pa)} {M : Nat} (s g : Int) (x : Pa), Us s → PT w B F p l M → Calls Try.prog 26 #[.pointer (some ⟨p, 0, none⟩), .agg #[.int .u32 s, .int .u32 g], paV x] w fun e w' => ∃ F', e = .returned (.int .i64 (ec (fnB l s g) 102)) ∧ PT w' B F' p (std l s g x) M ∧ Ch F w w' ∧ ∀ y, F' y → F y ∨ w.heap.size ≤ y
  get : ∀ {w : World} {B : Nat} {F : Nat → Prop} {p : Nat} {l : List (ThG Pa)} {M : Nat} (s g : Int), Us s → PT w B F p l M → Calls Try.prog 27 #[.pointer (some ⟨p, 0, none⟩), .agg #[.int .u32 s, .int .u32 g]] w fun e w' => e = .returned (.tuple #[paV (gtP l s g), .int .i64 (ec (fnB l s g) 102)]) ∧ Below w.heap.size w w'
  count : ∀ {w : World} {B : Nat} {F : Nat → Prop} {p : Nat} {l : List (ThG Pa)} {M : Nat}, PT w B F p l M → Calls Try.prog 28 #[.pointer (some ⟨p, 0, none⟩)] w fun e w' => e = .returned (.int .i64 (cnt l : Int)) ∧ Below w.heap.size w w'

section
variable {PT : World → Nat → (Nat → Prop) → Nat → List (ThG Pa) → Nat → Prop} {Sq : World → Nat → (Nat → Prop) → Nat → Array Value → Nat → Prop} (I : FaceP PT Sq)
include I
theorem FaceP.lt {w : World} {B : Nat} {F : Nat → Prop} {p : Nat} {l : List (ThG Pa)} {M : Nat} (h : PT w B F p l M) (x : Nat) (hx : F x) : x < w.heap.size := by
  obtain ⟨_, cs, T, r, e⟩ := I.foot h x hx
  exact (Array.getElem?_eq_some_iff.1 e).1
/-- the table bears a turn of blocks that are no cells, and new blocks -/
theorem FaceP.own {β : Type} (B' : Nat) {B : Nat} {F : Nat → Prop} {p : Nat} {l : List (ThG Pa)} {M : Nat} : OwnFrom B' (fun (_ : β) W => PT W B F p l M) := fun _ W W' row hs hg hr =>
  I.ch hs (Ch.of_grown (Q := fun x => row = some x) hg (fun _ e => e)) fun x hx e => by
    obtain ⟨_, cs, T, r, e1⟩ := I.foot hs x hx
    obtain ⟨_, o, e2, e3⟩ := hr x e
    rw [e1] at e2
    cases e2
    cases e3
end

theorem lvp_len (l : List (ThG Pa)) : (lvp l).length = cnt l := lvG_len l
theorem gtP_live {l : List (ThG Pa)} {M : Nat} (h : Wf l M) {t : ThG Pa} (ht : t ∈ lvp l) : gtP l t.s t.g = t.x ∧ fnB l t.s t.g = true := by
  obtain ⟨i, hi, e, hf⟩ := lvG_fnd h ht
  unfold gtP fnB
  rw [hf]
  constructor
  · simp [hi, e]
  · rfl

end Go.Proofs.Ytjilnmeegolpkaa
