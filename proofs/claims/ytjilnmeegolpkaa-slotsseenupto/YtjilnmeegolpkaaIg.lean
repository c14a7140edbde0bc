/- Layer 10: what the laws ask of the program's table. -/
import Derived.Test.YtjilnmeegolpkaaRl
import Derived.Test.YtjilnmeegolpkaaSi
namespace Go.Proofs.Ytjilnmeegolpkaa
open Go.RowKit Go.Shelf

/-- a slot's number as a uint32 -/
def Us (a : Int) : Prop := 0 ≤ a ∧ a ≤ 4294967295

/-- what the program's table is held to: PT: it lies so, in the blocks of F; Sq: this value goes over it -/
structure Face (PT : World → Nat → (Nat → Prop) → Nat → List Th → Nat → Prop) (Sq : World → Nat → (Nat → Prop) → Nat → Array Value → Nat → Prop) : Prop where
  ch : ∀ {Q : Nat → Prop} {w w' : World} {B : Nat} {F : Nat → Prop} {p : Nat} {l : List Th} {M : Nat}, PT w B F p l M → Ch Q w w' → (∀ x, F x → ¬ Q x) → PT w' B F p l M
  foot : ∀ {w : World} {B : Nat} {F : Nat → Prop} {p : Nat} {l : List Th} {M : Nat}, PT w B F p l M → ∀ x, F x → B ≤ x ∧ x < w.heap.size
  sch : ∀ {Q : Nat → Prop} {w w' : World} {B : Nat} {G : Nat → Prop} {gf : Nat} {lb : Array Value} {p : Nat}, Sq w B G gf lb p → Ch Q w w' → (∀ x, G x → ¬ Q x) → Sq w' B G gf lb p
  sfoot : ∀ {w : World} {B : Nat} {G : Nat → Prop} {gf : Nat} {lb : Array Value} {p : Nat}, Sq w B G gf lb p → ∀ x, G x → B ≤ x ∧ x < w.heap.size
  enters : ∀ {w : World} {B : Nat} {G : Nat → Prop} {gf : Nat} {lb : Array Value} {p : Nat}, Sq w B G gf lb p → ∀ args w, (callFunc gf args).run Try.prog w = .ok (.enter gf args) w
  all : ∀ {w : World} {B : Nat} {F : Nat → Prop} {p : Nat} {l : List Th} {M : Nat}, PT w B F p l M →
    Calls Try.prog 30 #[.pointer (some ⟨p, 0, none⟩)] w fun e w' => ∃ gf lb G, e = .returned (.func (.func gf) #[] lb) ∧ Sq w' w.heap.size G gf lb p ∧ Below w.heap.size w w'
  stops : ∀ {w : World} {B : Nat} {F : Nat → Prop} {p : Nat} {l : List Th} {M : Nat} {B' : Nat} {G : Nat → Prop} {gf : Nat} {lb : Array Value} (n : Nat), 3 ≤ n → PT w B F p l M → Sq w B' G gf lb p →
    SeqIs n Try.prog gf lb ((lvs l).map fun t : Th => #[hv t.s t.g, .int .i64 t.x]) (Kc w.heap.size) w
  new : ∀ (w : World) (m : Int) (M : Nat), m = M → 1 ≤ M → M ≤ 500 → Calls Try.prog 8 #[.int .i64 m] w fun e w' => ∃ p F, e = .returned (.tuple #[.pointer (some ⟨p, 0, none⟩), .int .i64 0]) ∧ PT w' w.heap.size F p [] M ∧ Below w.heap.size w w'
  newNo : ∀ (w : World) (m : Int), (decide (1 ≤ m) && decide (m ≤ 500)) = false → Calls Try.prog 8 #[.int .i64 m] w fun e w' => e = .returned (.tuple #[.pointer none, .int .i64 1]) ∧ Below w.heap.size w w'
  take : ∀ {w : World} {B : Nat} {F : Nat → Prop} {p : Nat} {l : List Th} {M : Nat} (x : Int), PT w B F p l M → l.length ≤ 100000 → Calls Try.prog 17 #[.pointer (some ⟨p, 0, none⟩), .int .i64 x] w fun e w' => ∃ F', e = .returned (.tuple #[hv (tkS l M) (tkG l M), .int .i64 (ec (tkB l M) 101)]) ∧ PT w' B F' p (tkd l M x) M ∧ Ch F w w' ∧ ∀ y, F' y → F y ∨ w.heap.size ≤ y
  free : ∀ {w : World} {B : Nat} {F : Nat → Prop} {p : Nat} {l : List Th} {M : Nat} (s g : Int), Us s → PT w B F p l M → Calls Try.prog 20 #[.pointer (some ⟨p, 0, none⟩), hv s g] w fun e w' => ∃ F', e = .returned (.int .i64 (ec (fnB l s g) 102)) ∧ PT w' B F' p (frd l s g) M ∧ Ch F w w' ∧ ∀ y, F' y → F y ∨ w.heap.size ≤ y
  set : ∀ {w : World} {B : Nat} {F : Nat → Prop} {p : Nat} {l : List Th} {M : Nat} (s g x : Int), Us s → PT w B F p l M → Calls Try.prog 21 #[.pointer (some ⟨p, 0, none⟩), hv s g, .int .i64 x] w fun e w' => ∃ F', e = .returned (.int .i64 (ec (fnB l s g) 102)) ∧ PT w' B F' p (std l s g x) M ∧ Ch F w w' ∧ ∀ y, F' y → F y ∨ w.heap.size ≤ y
  get : ∀ {w : World} {B : Nat} {F : Nat → Prop} {p : Nat} {l : List Th} {M : Nat} (s g : Int), Us s → PT w B F p l M → Calls Try.prog 18 #[.pointer (some ⟨p, 0, none⟩), hv s g] w fun e w' => e = .returned (.tuple #[.int .i64 (gtX l s g), .int .i64 (ec (fnB l s g) 102)]) ∧ Below w.heap.size w w'
  serial : ∀ {w : World} {B : Nat} {F : Nat → Prop} {p : Nat} {l : List Th} {M : Nat} (s g : Int), Us s → PT w B F p l M → Calls Try.prog 29 #[.pointer (some ⟨p, 0, none⟩), hv s g] w fun e w' => e = .returned (.tuple #[.int .i64 (srX l s g), .int .i64 (ec (fnB l s g) 102)]) ∧ Below w.heap.size w w'
  lives : ∀ {w : World} {B : Nat} {F : Nat → Prop} {p : Nat} {l : List Th} {M : Nat} (s g : Int), Us s → PT w B F p l M → Calls Try.prog 19 #[.pointer (some ⟨p, 0, none⟩), hv s g] w fun e w' => e = .returned (.bool (fnB l s g)) ∧ Below w.heap.size w w'
  count : ∀ {w : World} {B : Nat} {F : Nat → Prop} {p : Nat} {l : List Th} {M : Nat}, PT w B F p l M → Calls Try.prog 12 #[.pointer (some ⟨p, 0, none⟩)] w fun e w' => e = .returned (.int .i64 (cnt l : Int)) ∧ Below w.heap.size w w'
  born : ∀ {w : World} {B : Nat} {F : Nat → Prop} {p : Nat} {l : List Th} {M : Nat}, PT w B F p l M → Calls Try.prog 14 #[.pointer (some ⟨p, 0, none⟩)] w fun e w' => e = .returned (.int .i64 (l.length : Int)) ∧ Below w.heap.size w w'

end Go.Proofs.Ytjilnmeegolpkaa
