/-
  No cell of these rows narrows 'for every input' (looked for: loops, veiled, ifaces, maps, wideKeys, modest, calm, conditions, laid).
  DERIVED. THE GIVEN ROWS OF THIS SEAT. 6 by the template 'for every input the law returns true; each argument reads behind the call as it read before'; 0 by the template 'total and deterministic' (their statements: YtifmkphdmfechaaTotals.lean).
  GIVEN WITH THE SEED: the statements are not yours to turn. If you find one false, say at which input.
  Laid BY PROGRAM, IN A SANDBOX (cutbox-rows.mjs): the forced cells as the released guide's own fill.sh prints them over the translation f065d5df8a08ac48… (all of the seat's roots in one cut). By AI agents, Wed Nov 11 2026. No macro, syntax, notation, axiom, sorry.
-/
import Derived.Test.YtifmkphdmfechaaChecked
import GoSem.Claim
import GoSem.ClaimJoined
import GoSem.ClaimMapViews
import Derived.JoinedTies
import Derived.KernelRfl
namespace Go.Proofs.Ytifmkphdmfechaa
/- THE CELL 'sum', in the pinned program and in every row, IS THE sha256 OF THE DUMP (.gsa) THAT YtifmkphdmfechaaProg.lean LOADS. Nothing in Lean hashes anything: it is a label: what it is worth is what the hold of that sum in a sandbox is worth. -/
noncomputable def Try.pinned : Pinned := { name := "ytifmkphdmfechaa", sum := "f065d5df8a08ac486d360ff947d5c34962d01b88c1fdbbe7ff40ad2797d19cfe", checked := Try.checked }
namespace Rows
def none {H : Type} : Left H := { results := [], args := [] }

/-- 'drowselaw01.FigureClasses': WHATEVER THE INPUT: true; the input reads as it did. -/
def figureClassesSpec : ChangeSpec := { name := "figureClasses", fn := fun _ => fun
  | [d1, d2] => { results := [.lit (.bool true)], args := [d1, d2] }
  | _ => none }
def figureClassesRow : OpenClaim := { program := "ytifmkphdmfechaa", sum := "f065d5df8a08ac486d360ff947d5c34962d01b88c1fdbbe7ff40ad2797d19cfe", func := "drowse/drowselaw01.FigureClasses", spec := "figureClasses", inPlace := ["math.Float64frombits", "math.Float64bits"], apart := false }
def FigureClassesSaid : Prop := figureClassesRow.holds Try.pinned (OpenSpec.ofChange figureClassesSpec)

/-- ITS FALSE NEIGHBOUR: 'it returns false'. Refute it at one input. -/
def figureClassesWrong : ChangeSpec := { name := "figureClasses", fn := fun _ => fun
  | [d1, d2] => { results := [.lit (.bool false)], args := [d1, d2] }
  | _ => none }
def FigureClassesWrongFalsely : Prop := figureClassesRow.holds Try.pinned (OpenSpec.ofChange figureClassesWrong)

/-- 'drowselaw01.FigureEnds': WHATEVER THE INPUT: true; the input reads as it did. -/
def figureEndsSpec : ChangeSpec := { name := "figureEnds", fn := fun _ => fun
  | [d] => { results := [.lit (.bool true)], args := [d] }
  | _ => none }
def figureEndsRow : OpenClaim := { program := "ytifmkphdmfechaa", sum := "f065d5df8a08ac486d360ff947d5c34962d01b88c1fdbbe7ff40ad2797d19cfe", func := "drowse/drowselaw01.FigureEnds", spec := "figureEnds", inPlace := ["math.Float64frombits", "math.Float64bits"], apart := false }
def FigureEndsSaid : Prop := figureEndsRow.holds Try.pinned (OpenSpec.ofChange figureEndsSpec)

/-- ITS FALSE NEIGHBOUR: 'it returns false'. Refute it at one input. -/
def figureEndsWrong : ChangeSpec := { name := "figureEnds", fn := fun _ => fun
  | [d] => { results := [.lit (.bool false)], args := [d] }
  | _ => none }
def FigureEndsWrongFalsely : Prop := figureEndsRow.holds Try.pinned (OpenSpec.ofChange figureEndsWrong)

/-- 'drowselaw01.FigureRanks': WHATEVER THE INPUT: true; the input reads as it did. -/
def figureRanksSpec : ChangeSpec := { name := "figureRanks", fn := fun _ => fun
  | [d] => { results := [.lit (.bool true)], args := [d] }
  | _ => none }
def figureRanksRow : OpenClaim := { program := "ytifmkphdmfechaa", sum := "f065d5df8a08ac486d360ff947d5c34962d01b88c1fdbbe7ff40ad2797d19cfe", func := "drowse/drowselaw01.FigureRanks", spec := "figureRanks", inPlace := ["math.Float64frombits", "math.Float64bits"], unfollowed := true, recurses := true, apart := false }
def FigureRanksSaid : Prop := figureRanksRow.holds Try.pinned (OpenSpec.ofChange figureRanksSpec)

/-- ITS FALSE NEIGHBOUR: 'it returns false'. Refute it at one input. -/
def figureRanksWrong : ChangeSpec := { name := "figureRanks", fn := fun _ => fun
  | [d] => { results := [.lit (.bool false)], args := [d] }
  | _ => none }
def FigureRanksWrongFalsely : Prop := figureRanksRow.holds Try.pinned (OpenSpec.ofChange figureRanksWrong)

/-- 'drowselaw01.FigureRatios': WHATEVER THE INPUT: true; the input reads as it did. -/
def figureRatiosSpec : ChangeSpec := { name := "figureRatios", fn := fun _ => fun
  | [d1, d2] => { results := [.lit (.bool true)], args := [d1, d2] }
  | _ => none }
def figureRatiosRow : OpenClaim := { program := "ytifmkphdmfechaa", sum := "f065d5df8a08ac486d360ff947d5c34962d01b88c1fdbbe7ff40ad2797d19cfe", func := "drowse/drowselaw01.FigureRatios", spec := "figureRatios", inPlace := ["math.Float64frombits", "math.Float64bits"], apart := false }
def FigureRatiosSaid : Prop := figureRatiosRow.holds Try.pinned (OpenSpec.ofChange figureRatiosSpec)

/-- ITS FALSE NEIGHBOUR: 'it returns false'. Refute it at one input. -/
def figureRatiosWrong : ChangeSpec := { name := "figureRatios", fn := fun _ => fun
  | [d1, d2] => { results := [.lit (.bool false)], args := [d1, d2] }
  | _ => none }
def FigureRatiosWrongFalsely : Prop := figureRatiosRow.holds Try.pinned (OpenSpec.ofChange figureRatiosWrong)

/-- 'drowselaw01.FigureSums': WHATEVER THE INPUT: true; the input reads as it did. -/
def figureSumsSpec : ChangeSpec := { name := "figureSums", fn := fun _ => fun
  | [d] => { results := [.lit (.bool true)], args := [d] }
  | _ => none }
def figureSumsRow : OpenClaim := { program := "ytifmkphdmfechaa", sum := "f065d5df8a08ac486d360ff947d5c34962d01b88c1fdbbe7ff40ad2797d19cfe", func := "drowse/drowselaw01.FigureSums", spec := "figureSums", inPlace := ["math.Float64frombits", "math.Float64bits"], apart := false }
def FigureSumsSaid : Prop := figureSumsRow.holds Try.pinned (OpenSpec.ofChange figureSumsSpec)

/-- ITS FALSE NEIGHBOUR: 'it returns false'. Refute it at one input. -/
def figureSumsWrong : ChangeSpec := { name := "figureSums", fn := fun _ => fun
  | [d] => { results := [.lit (.bool false)], args := [d] }
  | _ => none }
def FigureSumsWrongFalsely : Prop := figureSumsRow.holds Try.pinned (OpenSpec.ofChange figureSumsWrong)

/-- 'drowselaw01.FigureTexts': WHATEVER THE INPUT: true; the input reads as it did. -/
def figureTextsSpec : ChangeSpec := { name := "figureTexts", fn := fun _ => fun
  | [d1, d2] => { results := [.lit (.bool true)], args := [d1, d2] }
  | _ => none }
def figureTextsRow : OpenClaim := { program := "ytifmkphdmfechaa", sum := "f065d5df8a08ac486d360ff947d5c34962d01b88c1fdbbe7ff40ad2797d19cfe", func := "drowse/drowselaw01.FigureTexts", spec := "figureTexts", inPlace := ["math.Float64frombits", "math.Float64bits", "internal/bytealg.IndexByteString"], apart := false }
def FigureTextsSaid : Prop := figureTextsRow.holds Try.pinned (OpenSpec.ofChange figureTextsSpec)

/-- ITS FALSE NEIGHBOUR: 'it returns false'. Refute it at one input. -/
def figureTextsWrong : ChangeSpec := { name := "figureTexts", fn := fun _ => fun
  | [d1, d2] => { results := [.lit (.bool false)], args := [d1, d2] }
  | _ => none }
def FigureTextsWrongFalsely : Prop := figureTextsRow.holds Try.pinned (OpenSpec.ofChange figureTextsWrong)

/- THE SECOND FORM. 'bulk': how many values and letters a reading holds, each counted each time it is reached (what is shared counts as often as it is met; a slice's spare places count too). A statement '..UptoSaid' is the law's where the arguments, and the package variables that the reading takes, are together of bulk at most 1048576: NARROWER than '..Said'. Prove '..Said' where nothing that the law and all that it calls make is longer than what came in: it says more and counts as full. Else prove '..UptoSaid'. A law counts once. -/
mutual
def uptoBulk {H : Type} : DataW H → Nat
  | .lit (.string bytes) => bytes.length + 1
  | .lit _ => 1
  | .nil => 1
  | .ptr d => uptoBulk d + 1
  | .slice elems spare => uptoBulkAll elems + uptoBulkAll spare + 1
  | .agg parts => uptoBulkAll parts + 1
  | .iface _ d => uptoBulk d + 1
  | .map entries => uptoBulkEntries entries + 1
  | .held _ => 1
def uptoBulkAll {H : Type} : List (DataW H) → Nat
  | [] => 0
  | d :: r => uptoBulk d + uptoBulkAll r
def uptoBulkEntries {H : Type} : List (Lit × DataW H) → Nat
  | [] => 0
  | x :: r => uptoBulkEntry x + uptoBulkEntries r
def uptoBulkEntry {H : Type} : Lit × DataW H → Nat
  | (.string bytes, d) => bytes.length + uptoBulk d + 1
  | (_, d) => uptoBulk d + 1
 end
def uptoSmall : (H : Type) → List (DataW H) → Bool := fun _ ds => decide (uptoBulkAll ds ≤ 1048576)
def OpenSpec.upto (s : _root_.Go.ChangeSpec) : _root_.Go.OpenSpec := { _root_.Go.OpenSpec.ofChange s with cond := some uptoSmall }

/-- 'drowselaw01.FigureClasses', WHERE WHAT IT READS IS OF BULK AT MOST 1048576: true; the input reads as it did. -/
def figureClassesUptoRow : OpenClaim := { program := "ytifmkphdmfechaa", sum := "f065d5df8a08ac486d360ff947d5c34962d01b88c1fdbbe7ff40ad2797d19cfe", func := "drowse/drowselaw01.FigureClasses", spec := "figureClasses", inPlace := ["math.Float64frombits", "math.Float64bits"], apart := false, narrowed := true }
def FigureClassesUptoSaid : Prop := figureClassesUptoRow.holds Try.pinned (OpenSpec.upto figureClassesSpec)

/-- 'drowselaw01.FigureEnds', WHERE WHAT IT READS IS OF BULK AT MOST 1048576: true; the input reads as it did. -/
def figureEndsUptoRow : OpenClaim := { program := "ytifmkphdmfechaa", sum := "f065d5df8a08ac486d360ff947d5c34962d01b88c1fdbbe7ff40ad2797d19cfe", func := "drowse/drowselaw01.FigureEnds", spec := "figureEnds", inPlace := ["math.Float64frombits", "math.Float64bits"], apart := false, narrowed := true }
def FigureEndsUptoSaid : Prop := figureEndsUptoRow.holds Try.pinned (OpenSpec.upto figureEndsSpec)

/-- 'drowselaw01.FigureRanks', WHERE WHAT IT READS IS OF BULK AT MOST 1048576: true; the input reads as it did. -/
def figureRanksUptoRow : OpenClaim := { program := "ytifmkphdmfechaa", sum := "f065d5df8a08ac486d360ff947d5c34962d01b88c1fdbbe7ff40ad2797d19cfe", func := "drowse/drowselaw01.FigureRanks", spec := "figureRanks", inPlace := ["math.Float64frombits", "math.Float64bits"], unfollowed := true, recurses := true, apart := false, narrowed := true }
def FigureRanksUptoSaid : Prop := figureRanksUptoRow.holds Try.pinned (OpenSpec.upto figureRanksSpec)

/-- 'drowselaw01.FigureRatios', WHERE WHAT IT READS IS OF BULK AT MOST 1048576: true; the input reads as it did. -/
def figureRatiosUptoRow : OpenClaim := { program := "ytifmkphdmfechaa", sum := "f065d5df8a08ac486d360ff947d5c34962d01b88c1fdbbe7ff40ad2797d19cfe", func := "drowse/drowselaw01.FigureRatios", spec := "figureRatios", inPlace := ["math.Float64frombits", "math.Float64bits"], apart := false, narrowed := true }
def FigureRatiosUptoSaid : Prop := figureRatiosUptoRow.holds Try.pinned (OpenSpec.upto figureRatiosSpec)

/-- 'drowselaw01.FigureSums', WHERE WHAT IT READS IS OF BULK AT MOST 1048576: true; the input reads as it did. -/
def figureSumsUptoRow : OpenClaim := { program := "ytifmkphdmfechaa", sum := "f065d5df8a08ac486d360ff947d5c34962d01b88c1fdbbe7ff40ad2797d19cfe", func := "drowse/drowselaw01.FigureSums", spec := "figureSums", inPlace := ["math.Float64frombits", "math.Float64bits"], apart := false, narrowed := true }
def FigureSumsUptoSaid : Prop := figureSumsUptoRow.holds Try.pinned (OpenSpec.upto figureSumsSpec)

/-- 'drowselaw01.FigureTexts', WHERE WHAT IT READS IS OF BULK AT MOST 1048576: true; the input reads as it did. -/
def figureTextsUptoRow : OpenClaim := { program := "ytifmkphdmfechaa", sum := "f065d5df8a08ac486d360ff947d5c34962d01b88c1fdbbe7ff40ad2797d19cfe", func := "drowse/drowselaw01.FigureTexts", spec := "figureTexts", inPlace := ["math.Float64frombits", "math.Float64bits", "internal/bytealg.IndexByteString"], apart := false, narrowed := true }
def FigureTextsUptoSaid : Prop := figureTextsUptoRow.holds Try.pinned (OpenSpec.upto figureTextsSpec)

end Rows
end Go.Proofs.Ytifmkphdmfechaa
