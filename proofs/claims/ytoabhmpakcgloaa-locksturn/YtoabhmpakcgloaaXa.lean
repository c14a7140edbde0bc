/- Layer 11: what the laws ask of the program's book. -/
import Derived.Test.YtoabhmpakcgloaaWr
namespace Go.Proofs.Ytoabhmpakcgloaa
open Go.RowKit

def UsW (a : Int) : Prop := 0 ≤ a ∧ a ≤ 4294967295
def I64 (a : Int) : Prop := -9223372036854775808 ≤ a ∧ a ≤ 9223372036854775807
def ecB (b : Bool) (e : Int) : Int := if b then 0 else e
/-- how many wait now -/
def cntW (l : List Wt) : Nat := (sel isNow l).length

/-- what the program's book is held to: PT: it lies so, in the blocks of F -/
structure FaceW (PT : World → Nat → (Nat → Prop) → Nat → List Wt → Prop) : Prop where
  ch : ∀ {Q : Nat → Prop} {w w' : World} {B : Nat} {F : Nat → Prop} {p : Nat} {l : List Wt}, PT w B F p l → Ch Q w w' → (∀ x, F x → ¬ Q x) → PT w' B F p l
  foot : ∀ {w : World} {B : Nat} {F : Nat → Prop} {p : Nat} {l : List Wt}, PT w B F p l → ∀ x, F x → B ≤ x ∧ x < w.heap.size
  new : ∀ (w : World), Calls Try.prog 7 #[] w fun e w' => ∃ p F, e = .returned (.pointer (some ⟨p, 0, none⟩)) ∧ PT w' w.heap.size F p [] ∧ Below w.heap.size w w'
  put : ∀ {w : World} {B : Nat} {F : Nat → Prop} {p : Nat} {l : List Wt} (rs rg rd ws wg ar vn vs vg : Int), UsW rs → UsW rg → I64 rd → UsW ws → UsW wg → I64 ar → I64 vn → UsW vs → UsW vg → PT w B F p l → l.length ≤ 100000 → B ≤ w.heap.size →
    Calls Try.prog 40 #[.pointer (some ⟨p, 0, none⟩), rvW rs rg rd, hvW ws wg, .int .i64 ar, .agg #[.int .i64 vn, .int .u32 vs, .int .u32 vg]] w fun e w' => ∃ F', e = .returned (.tuple #[hvW (psW l ws wg rd ar) (pgW l ws wg rd ar), .int .i64 (ecW l ws wg rd ar)]) ∧ PT w' B F' p (putW l rs rg rd ws wg ar vn vs vg) ∧ Ch F w w' ∧ ∀ y, F' y → F y ∨ w.heap.size ≤ y
  leave : ∀ {w : World} {B : Nat} {F : Nat → Prop} {p : Nat} {l : List Wt} (s g : Int), UsW s → UsW g → PT w B F p l → l.length ≤ 100000 → Calls Try.prog 43 #[.pointer (some ⟨p, 0, none⟩), hvW s g] w fun e w' => ∃ F', e = .returned (.int .i64 (leaN l s g : Int)) ∧ PT w' B F' p (leaW l s g) ∧ Ch F w w' ∧ ∀ y, F' y → F y ∨ w.heap.size ≤ y
  first : ∀ {w : World} {B : Nat} {F : Nat → Prop} {p : Nat} {l : List Wt} (s g d : Int), UsW s → UsW g → I64 d → PT w B F p l → l.length ≤ 100000 → Calls Try.prog 42 #[.pointer (some ⟨p, 0, none⟩), rvW s g d] w fun e w' => e = .returned (.tuple #[rcV ((sel (inRow s g d) l).headD zRc), .bool (!(sel (inRow s g d) l).isEmpty)]) ∧ Below w.heap.size w w'
  row : ∀ {w : World} {B : Nat} {F : Nat → Prop} {p : Nat} {l : List Wt} (s g d : Int), UsW s → UsW g → I64 d → PT w B F p l → l.length ≤ 100000 → Calls Try.prog 15 #[.pointer (some ⟨p, 0, none⟩), rvW s g d] w fun e w' => ∃ v', e = .returned v' ∧ RcRow w' w.heap.size v' (sel (inRow s g d) l) ∧ Below w.heap.size w w'
  of : ∀ {w : World} {B : Nat} {F : Nat → Prop} {p : Nat} {l : List Wt} (s g : Int), UsW s → UsW g → PT w B F p l → l.length ≤ 100000 → Calls Try.prog 39 #[.pointer (some ⟨p, 0, none⟩), hvW s g] w fun e w' => ∃ v', e = .returned v' ∧ RcRow w' w.heap.size v' (sel (isWho s g) l) ∧ Below w.heap.size w w'
  count : ∀ {w : World} {B : Nat} {F : Nat → Prop} {p : Nat} {l : List Wt}, PT w B F p l → l.length ≤ 100000 → Calls Try.prog 19 #[.pointer (some ⟨p, 0, none⟩)] w fun e w' => e = .returned (.int .i64 (cntW l : Int)) ∧ Below w.heap.size w w'

end Go.Proofs.Ytoabhmpakcgloaa
