/-
  No cell of these rows narrows 'for every input' (looked for: loops, veiled, ifaces, maps, wideKeys, modest, calm, conditions, laid).
  DERIVED. THE GIVEN ROWS OF THIS SEAT. 6 by the template 'for every input the law returns true; each argument reads behind the call as it read before'; 0 by the template 'total and deterministic' (their statements: YtbblmbbpicinlaaTotals.lean).
  GIVEN WITH THE SEED: the statements are not yours to turn. If you find one false, say at which input.
  Laid BY PROGRAM, IN A SANDBOX (cutbox-rows.mjs): the forced cells as the released guide's own fill.sh prints them over the translation 3f013cd86fdb349b… (all of the seat's roots in one cut). By AI agents, Wed Nov 11 2026. No macro, syntax, notation, axiom, sorry.
-/
import Derived.Test.YtbblmbbpicinlaaChecked
import GoSem.Claim
import GoSem.ClaimJoined
import GoSem.ClaimMapViews
import Derived.JoinedTies
import Derived.KernelRfl
namespace Go.Proofs.Ytbblmbbpicinlaa
/- THE CELL 'sum', in the pinned program and in every row, IS THE sha256 OF THE DUMP (.gsa) THAT YtbblmbbpicinlaaProg.lean LOADS. Nothing in Lean hashes anything: it is a label: what it is worth is what the hold of that sum in a sandbox is worth. -/
noncomputable def Try.pinned : Pinned := { name := "ytbblmbbpicinlaa", sum := "3f013cd86fdb349bdb54cffb2b9688bc44d3918e9f2f793e6976d6c2377196d8", checked := Try.checked }
namespace Rows
def none {H : Type} : Left H := { results := [], args := [] }

/-- 'drowselaw14.ChansPlays': WHATEVER THE INPUT: true; the input reads as it did. -/
def chansPlaysSpec : ChangeSpec := { name := "chansPlays", fn := fun _ => fun
  | [d] => { results := [.lit (.bool true)], args := [d] }
  | _ => none }
def chansPlaysRow : OpenClaim := { program := "ytbblmbbpicinlaa", sum := "3f013cd86fdb349bdb54cffb2b9688bc44d3918e9f2f793e6976d6c2377196d8", func := "drowse/drowselaw14.ChansPlays", spec := "chansPlays", unfollowed := true, recurses := true, plainKeys := false, apart := false }
def ChansPlaysSaid : Prop := chansPlaysRow.holds Try.pinned (OpenSpec.ofChange chansPlaysSpec)

/-- ITS FALSE NEIGHBOUR: 'it returns false'. Refute it at one input. -/
def chansPlaysWrong : ChangeSpec := { name := "chansPlays", fn := fun _ => fun
  | [d] => { results := [.lit (.bool false)], args := [d] }
  | _ => none }
def ChansPlaysWrongFalsely : Prop := chansPlaysRow.holds Try.pinned (OpenSpec.ofChange chansPlaysWrong)

/-- 'drowselaw14.ChansOrder': WHATEVER THE INPUT: true; the input reads as it did. -/
def chansOrderSpec : ChangeSpec := { name := "chansOrder", fn := fun _ => fun
  | [d1, d2] => { results := [.lit (.bool true)], args := [d1, d2] }
  | _ => none }
def chansOrderRow : OpenClaim := { program := "ytbblmbbpicinlaa", sum := "3f013cd86fdb349bdb54cffb2b9688bc44d3918e9f2f793e6976d6c2377196d8", func := "drowse/drowselaw14.ChansOrder", spec := "chansOrder", plainKeys := false, apart := false }
def ChansOrderSaid : Prop := chansOrderRow.holds Try.pinned (OpenSpec.ofChange chansOrderSpec)

/-- ITS FALSE NEIGHBOUR: 'it returns false'. Refute it at one input. -/
def chansOrderWrong : ChangeSpec := { name := "chansOrder", fn := fun _ => fun
  | [d1, d2] => { results := [.lit (.bool false)], args := [d1, d2] }
  | _ => none }
def ChansOrderWrongFalsely : Prop := chansOrderRow.holds Try.pinned (OpenSpec.ofChange chansOrderWrong)

/-- 'drowselaw14.ChansNil': WHATEVER THE INPUT: true; the input reads as it did. -/
def chansNilSpec : ChangeSpec := { name := "chansNil", fn := fun _ => fun
  | [d1, d2, d3] => { results := [.lit (.bool true)], args := [d1, d2, d3] }
  | _ => none }
def chansNilRow : OpenClaim := { program := "ytbblmbbpicinlaa", sum := "3f013cd86fdb349bdb54cffb2b9688bc44d3918e9f2f793e6976d6c2377196d8", func := "drowse/drowselaw14.ChansNil", spec := "chansNil", unfollowed := true, recurses := true, plainKeys := false, apart := false }
def ChansNilSaid : Prop := chansNilRow.holds Try.pinned (OpenSpec.ofChange chansNilSpec)

/-- ITS FALSE NEIGHBOUR: 'it returns false'. Refute it at one input. -/
def chansNilWrong : ChangeSpec := { name := "chansNil", fn := fun _ => fun
  | [d1, d2, d3] => { results := [.lit (.bool false)], args := [d1, d2, d3] }
  | _ => none }
def ChansNilWrongFalsely : Prop := chansNilRow.holds Try.pinned (OpenSpec.ofChange chansNilWrong)

/-- 'drowselaw15.SelPlays': WHATEVER THE INPUT: true; the input reads as it did. -/
def selPlaysSpec : ChangeSpec := { name := "selPlays", fn := fun _ => fun
  | [d1, d2] => { results := [.lit (.bool true)], args := [d1, d2] }
  | _ => none }
def selPlaysRow : OpenClaim := { program := "ytbblmbbpicinlaa", sum := "3f013cd86fdb349bdb54cffb2b9688bc44d3918e9f2f793e6976d6c2377196d8", func := "drowse/drowselaw15.SelPlays", spec := "selPlays", unfollowed := true, recurses := true, plainKeys := false, apart := false }
def SelPlaysSaid : Prop := selPlaysRow.holds Try.pinned (OpenSpec.ofChange selPlaysSpec)

/-- ITS FALSE NEIGHBOUR: 'it returns false'. Refute it at one input. -/
def selPlaysWrong : ChangeSpec := { name := "selPlays", fn := fun _ => fun
  | [d1, d2] => { results := [.lit (.bool false)], args := [d1, d2] }
  | _ => none }
def SelPlaysWrongFalsely : Prop := selPlaysRow.holds Try.pinned (OpenSpec.ofChange selPlaysWrong)

/-- 'drowselaw15.SelOnce': WHATEVER THE INPUT: true; the input reads as it did. -/
def selOnceSpec : ChangeSpec := { name := "selOnce", fn := fun _ => fun
  | [d1, d2] => { results := [.lit (.bool true)], args := [d1, d2] }
  | _ => none }
def selOnceRow : OpenClaim := { program := "ytbblmbbpicinlaa", sum := "3f013cd86fdb349bdb54cffb2b9688bc44d3918e9f2f793e6976d6c2377196d8", func := "drowse/drowselaw15.SelOnce", spec := "selOnce", unfollowed := true, recurses := true, plainKeys := false, apart := false }
def SelOnceSaid : Prop := selOnceRow.holds Try.pinned (OpenSpec.ofChange selOnceSpec)

/-- ITS FALSE NEIGHBOUR: 'it returns false'. Refute it at one input. -/
def selOnceWrong : ChangeSpec := { name := "selOnce", fn := fun _ => fun
  | [d1, d2] => { results := [.lit (.bool false)], args := [d1, d2] }
  | _ => none }
def SelOnceWrongFalsely : Prop := selOnceRow.holds Try.pinned (OpenSpec.ofChange selOnceWrong)

/-- 'drowselaw15.SelAlone': WHATEVER THE INPUT: true; the input reads as it did. -/
def selAloneSpec : ChangeSpec := { name := "selAlone", fn := fun _ => fun
  | [d1, d2] => { results := [.lit (.bool true)], args := [d1, d2] }
  | _ => none }
def selAloneRow : OpenClaim := { program := "ytbblmbbpicinlaa", sum := "3f013cd86fdb349bdb54cffb2b9688bc44d3918e9f2f793e6976d6c2377196d8", func := "drowse/drowselaw15.SelAlone", spec := "selAlone", unfollowed := true, recurses := true, plainKeys := false, apart := false }
def SelAloneSaid : Prop := selAloneRow.holds Try.pinned (OpenSpec.ofChange selAloneSpec)

/-- ITS FALSE NEIGHBOUR: 'it returns false'. Refute it at one input. -/
def selAloneWrong : ChangeSpec := { name := "selAlone", fn := fun _ => fun
  | [d1, d2] => { results := [.lit (.bool false)], args := [d1, d2] }
  | _ => none }
def SelAloneWrongFalsely : Prop := selAloneRow.holds Try.pinned (OpenSpec.ofChange selAloneWrong)

/- THE SECOND FORM. 'bulk': how many values and letters a reading holds, each counted each time it is reached (what is shared counts as often as it is met; a slice's spare places count too). A statement '..UptoSaid' is the law's where the arguments, and the package variables that the reading takes, are together of bulk at most 1048576: NARROWER than '..Said'. Prove '..Said' where nothing that the law and all that it calls make is longer than what came in: it says more and counts as full. Else prove '..UptoSaid'. A law counts once. -/
mutual
def uptoBulk {H : Type} : DataW H → Nat
  | .lit (.string bytes) => bytes.length + 1
  | .lit _ => 1
  | .nil => 1
  | .ptr d => uptoBulk d + 1
  | .slice elems spare => uptoBulkAll elems + uptoBulkAll spare + 1
  | .agg parts => uptoBulkAll parts + 1
  | .iface _ d => uptoBulk d + 1
  | .map entries => uptoBulkEntries entries + 1
  | .held _ => 1
def uptoBulkAll {H : Type} : List (DataW H) → Nat
  | [] => 0
  | d :: r => uptoBulk d + uptoBulkAll r
def uptoBulkEntries {H : Type} : List (Lit × DataW H) → Nat
  | [] => 0
  | x :: r => uptoBulkEntry x + uptoBulkEntries r
def uptoBulkEntry {H : Type} : Lit × DataW H → Nat
  | (.string bytes, d) => bytes.length + uptoBulk d + 1
  | (_, d) => uptoBulk d + 1
 end
def uptoSmall : (H : Type) → List (DataW H) → Bool := fun _ ds => decide (uptoBulkAll ds ≤ 1048576)
def OpenSpec.upto (s : _root_.Go.ChangeSpec) : _root_.Go.OpenSpec := { _root_.Go.OpenSpec.ofChange s with cond := some uptoSmall }

/-- 'drowselaw14.ChansPlays', WHERE WHAT IT READS IS OF BULK AT MOST 1048576: true; the input reads as it did. -/
def chansPlaysUptoRow : OpenClaim := { program := "ytbblmbbpicinlaa", sum := "3f013cd86fdb349bdb54cffb2b9688bc44d3918e9f2f793e6976d6c2377196d8", func := "drowse/drowselaw14.ChansPlays", spec := "chansPlays", unfollowed := true, recurses := true, plainKeys := false, apart := false, narrowed := true }
def ChansPlaysUptoSaid : Prop := chansPlaysUptoRow.holds Try.pinned (OpenSpec.upto chansPlaysSpec)

/-- 'drowselaw14.ChansOrder', WHERE WHAT IT READS IS OF BULK AT MOST 1048576: true; the input reads as it did. -/
def chansOrderUptoRow : OpenClaim := { program := "ytbblmbbpicinlaa", sum := "3f013cd86fdb349bdb54cffb2b9688bc44d3918e9f2f793e6976d6c2377196d8", func := "drowse/drowselaw14.ChansOrder", spec := "chansOrder", plainKeys := false, apart := false, narrowed := true }
def ChansOrderUptoSaid : Prop := chansOrderUptoRow.holds Try.pinned (OpenSpec.upto chansOrderSpec)

/-- 'drowselaw14.ChansNil', WHERE WHAT IT READS IS OF BULK AT MOST 1048576: true; the input reads as it did. -/
def chansNilUptoRow : OpenClaim := { program := "ytbblmbbpicinlaa", sum := "3f013cd86fdb349bdb54cffb2b9688bc44d3918e9f2f793e6976d6c2377196d8", func := "drowse/drowselaw14.ChansNil", spec := "chansNil", unfollowed := true, recurses := true, plainKeys := false, apart := false, narrowed := true }
def ChansNilUptoSaid : Prop := chansNilUptoRow.holds Try.pinned (OpenSpec.upto chansNilSpec)

/-- 'drowselaw15.SelPlays', WHERE WHAT IT READS IS OF BULK AT MOST 1048576: true; the input reads as it did. -/
def selPlaysUptoRow : OpenClaim := { program := "ytbblmbbpicinlaa", sum := "3f013cd86fdb349bdb54cffb2b9688bc44d3918e9f2f793e6976d6c2377196d8", func := "drowse/drowselaw15.SelPlays", spec := "selPlays", unfollowed := true, recurses := true, plainKeys := false, apart := false, narrowed := true }
def SelPlaysUptoSaid : Prop := selPlaysUptoRow.holds Try.pinned (OpenSpec.upto selPlaysSpec)

/-- 'drowselaw15.SelOnce', WHERE WHAT IT READS IS OF BULK AT MOST 1048576: true; the input reads as it did. -/
def selOnceUptoRow : OpenClaim := { program := "ytbblmbbpicinlaa", sum := "3f013cd86fdb349bdb54cffb2b9688bc44d3918e9f2f793e6976d6c2377196d8", func := "drowse/drowselaw15.SelOnce", spec := "selOnce", unfollowed := true, recurses := true, plainKeys := false, apart := false, narrowed := true }
def SelOnceUptoSaid : Prop := selOnceUptoRow.holds Try.pinned (OpenSpec.upto selOnceSpec)

/-- 'drowselaw15.SelAlone', WHERE WHAT IT READS IS OF BULK AT MOST 1048576: true; the input reads as it did. -/
def selAloneUptoRow : OpenClaim := { program := "ytbblmbbpicinlaa", sum := "3f013cd86fdb349bdb54cffb2b9688bc44d3918e9f2f793e6976d6c2377196d8", func := "drowse/drowselaw15.SelAlone", spec := "selAlone", unfollowed := true, recurses := true, plainKeys := false, apart := false, narrowed := true }
def SelAloneUptoSaid : Prop := selAloneUptoRow.holds Try.pinned (OpenSpec.upto selAloneSpec)

end Rows
end Go.Proofs.Ytbblmbbpicinlaa
