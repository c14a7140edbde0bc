/-
  NARROWER THAN 'FOR EVERY INPUT', by the rows' own cells (each row's printed sentence says how): CodeEffects: laid · CodeOpens: laid · CodeSafe: laid.
  DERIVED. THE GIVEN ROWS OF THIS SEAT. 3 by the template 'for every input the law returns true; each argument reads behind the call as it read before'; 0 by the template 'total and deterministic' (their statements: YtgheaieghoekhaaDoorTotals.lean).
  GIVEN WITH THE SEED: the statements are not yours to turn. If you find one false, say at which input.
  Laid BY PROGRAM, IN A SANDBOX (cutbox-rows.mjs): the forced cells as the released guide's own fill.sh prints them over the translation 649f7f0a41cff68f… (all of the seat's roots in one cut). By AI agents, Wed Nov 11 2026. No macro, syntax, notation, axiom, sorry.
-/
import Derived.Test.YtgheaieghoekhaaDoorChecked
import GoSem.Claim
import GoSem.ClaimJoined
import GoSem.ClaimMapViews
import Derived.JoinedTies
import Derived.KernelRfl
namespace Go.Proofs.YtgheaieghoekhaaDoor
/- THE CELL 'sum', in the pinned program and in every row, IS THE sha256 OF THE DUMP (.gsa) THAT YtgheaieghoekhaaDoorProg.lean LOADS. Nothing in Lean hashes anything: it is a label: what it is worth is what the hold of that sum in a sandbox is worth. -/
noncomputable def Tryd.pinned : Pinned := { name := "ytgheaieghoekhaadoor", sum := "649f7f0a41cff68f40a61fa5bd9ee0d4c347f56ea92533f1d5036c304c74fdda", checked := Tryd.checked }
namespace Rows
def none {H : Type} : Left H := { results := [], args := [] }

/- WHAT THE LISTED PACKAGE-LEVEL VARIABLES READ AS WHEN THE CALL BEGINS. Each datum BY PROGRAM (the guide's laid-datum.mjs) off the statement by which the dump's own 'gosem.cut.vars' lays the variable. In a bare row this is a premise. The card (YtgheaieghoekhaaDoorCards.lean) ties it to the program's text. -/
def laid_drowse_code_table {H : Type} : DataW H := .agg [.agg [.lit (.int .u8 0), .lit (.int .u8 0), .lit (.int .u8 0), .lit (.bool false)], .agg [.lit (.int .u8 0), .lit (.int .u8 0), .lit (.int .u8 0), .lit (.bool false)], .agg [.lit (.int .u8 1), .lit (.int .u8 0), .lit (.int .u8 1), .lit (.bool false)], .agg [.lit (.int .u8 0), .lit (.int .u8 0), .lit (.int .u8 1), .lit (.bool false)], .agg [.lit (.int .u8 2), .lit (.int .u8 0), .lit (.int .u8 1), .lit (.bool false)], .agg [.lit (.int .u8 2), .lit (.int .u8 1), .lit (.int .u8 0), .lit (.bool false)], .agg [.lit (.int .u8 2), .lit (.int .u8 0), .lit (.int .u8 0), .lit (.bool false)], .agg [.lit (.int .u8 0), .lit (.int .u8 1), .lit (.int .u8 0), .lit (.bool false)], .agg [.lit (.int .u8 0), .lit (.int .u8 2), .lit (.int .u8 1), .lit (.bool false)], .agg [.lit (.int .u8 0), .lit (.int .u8 2), .lit (.int .u8 1), .lit (.bool false)], .agg [.lit (.int .u8 0), .lit (.int .u8 2), .lit (.int .u8 1), .lit (.bool false)], .agg [.lit (.int .u8 0), .lit (.int .u8 2), .lit (.int .u8 1), .lit (.bool false)], .agg [.lit (.int .u8 0), .lit (.int .u8 2), .lit (.int .u8 1), .lit (.bool false)], .agg [.lit (.int .u8 0), .lit (.int .u8 1), .lit (.int .u8 1), .lit (.bool false)], .agg [.lit (.int .u8 0), .lit (.int .u8 1), .lit (.int .u8 1), .lit (.bool false)], .agg [.lit (.int .u8 0), .lit (.int .u8 2), .lit (.int .u8 1), .lit (.bool false)], .agg [.lit (.int .u8 0), .lit (.int .u8 2), .lit (.int .u8 1), .lit (.bool false)], .agg [.lit (.int .u8 0), .lit (.int .u8 2), .lit (.int .u8 1), .lit (.bool false)], .agg [.lit (.int .u8 0), .lit (.int .u8 2), .lit (.int .u8 1), .lit (.bool false)], .agg [.lit (.int .u8 0), .lit (.int .u8 2), .lit (.int .u8 1), .lit (.bool false)], .agg [.lit (.int .u8 0), .lit (.int .u8 2), .lit (.int .u8 1), .lit (.bool false)], .agg [.lit (.int .u8 3), .lit (.int .u8 0), .lit (.int .u8 0), .lit (.bool true)], .agg [.lit (.int .u8 3), .lit (.int .u8 1), .lit (.int .u8 0), .lit (.bool false)], .agg [.lit (.int .u8 3), .lit (.int .u8 1), .lit (.int .u8 0), .lit (.bool false)], .agg [.lit (.int .u8 4), .lit (.int .u8 0), .lit (.int .u8 0), .lit (.bool false)], .agg [.lit (.int .u8 4), .lit (.int .u8 0), .lit (.int .u8 0), .lit (.bool false)], .agg [.lit (.int .u8 0), .lit (.int .u8 0), .lit (.int .u8 0), .lit (.bool true)], .agg [.lit (.int .u8 0), .lit (.int .u8 1), .lit (.int .u8 0), .lit (.bool true)], .agg [.lit (.int .u8 0), .lit (.int .u8 0), .lit (.int .u8 1), .lit (.bool false)], .agg [.lit (.int .u8 0), .lit (.int .u8 0), .lit (.int .u8 1), .lit (.bool false)], .agg [.lit (.int .u8 0), .lit (.int .u8 1), .lit (.int .u8 1), .lit (.bool false)], .agg [.lit (.int .u8 0), .lit (.int .u8 2), .lit (.int .u8 0), .lit (.bool false)], .agg [.lit (.int .u8 0), .lit (.int .u8 1), .lit (.int .u8 1), .lit (.bool false)], .agg [.lit (.int .u8 0), .lit (.int .u8 1), .lit (.int .u8 2), .lit (.bool false)], .agg [.lit (.int .u8 0), .lit (.int .u8 1), .lit (.int .u8 0), .lit (.bool false)], .agg [.lit (.int .u8 0), .lit (.int .u8 1), .lit (.int .u8 1), .lit (.bool false)], .agg [.lit (.int .u8 0), .lit (.int .u8 1), .lit (.int .u8 1), .lit (.bool false)], .agg [.lit (.int .u8 0), .lit (.int .u8 1), .lit (.int .u8 0), .lit (.bool false)], .agg [.lit (.int .u8 0), .lit (.int .u8 1), .lit (.int .u8 0), .lit (.bool false)], .agg [.lit (.int .u8 0), .lit (.int .u8 2), .lit (.int .u8 0), .lit (.bool false)], .agg [.lit (.int .u8 0), .lit (.int .u8 1), .lit (.int .u8 0), .lit (.bool false)], .agg [.lit (.int .u8 5), .lit (.int .u8 0), .lit (.int .u8 3), .lit (.bool false)], .agg [.lit (.int .u8 0), .lit (.int .u8 0), .lit (.int .u8 0), .lit (.bool false)], .agg [.lit (.int .u8 6), .lit (.int .u8 0), .lit (.int .u8 0), .lit (.bool false)]]

/-- 'drowselaw08.CodeEffects': WHATEVER THE INPUT: true; the input reads as it did. -/
def codeEffectsSpec : ChangeSpec := { name := "codeEffects", fn := fun _ => fun
  | [d1, d2] => { results := [.lit (.bool true)], args := [d1, d2] }
  | _ => none }
def codeEffectsRow : OpenClaim := { program := "ytgheaieghoekhaadoor", sum := "649f7f0a41cff68f40a61fa5bd9ee0d4c347f56ea92533f1d5036c304c74fdda", func := "drowse/drowselaw08.CodeEffects", spec := "codeEffects", inPlace := ["internal/abi.NoEscape"], unfollowed := true, recurses := true, named := ["drowse/code.table"], apart := false, laid := [("drowse/code.table", laid_drowse_code_table)] }
def CodeEffectsSaid : Prop := codeEffectsRow.holds Tryd.pinned (OpenSpec.ofChange codeEffectsSpec)

/-- ITS FALSE NEIGHBOUR: 'it returns false'. Refute it at one input. -/
def codeEffectsWrong : ChangeSpec := { name := "codeEffects", fn := fun _ => fun
  | [d1, d2] => { results := [.lit (.bool false)], args := [d1, d2] }
  | _ => none }
def CodeEffectsWrongFalsely : Prop := codeEffectsRow.holds Tryd.pinned (OpenSpec.ofChange codeEffectsWrong)

/-- 'drowselaw08.CodeOpens': WHATEVER THE INPUT: true; the input reads as it did. -/
def codeOpensSpec : ChangeSpec := { name := "codeOpens", fn := fun _ => fun
  | [d] => { results := [.lit (.bool true)], args := [d] }
  | _ => none }
def codeOpensRow : OpenClaim := { program := "ytgheaieghoekhaadoor", sum := "649f7f0a41cff68f40a61fa5bd9ee0d4c347f56ea92533f1d5036c304c74fdda", func := "drowse/drowselaw08.CodeOpens", spec := "codeOpens", inPlace := ["internal/abi.NoEscape"], unfollowed := true, recurses := true, named := ["drowse/code.table"], apart := false, laid := [("drowse/code.table", laid_drowse_code_table)] }
def CodeOpensSaid : Prop := codeOpensRow.holds Tryd.pinned (OpenSpec.ofChange codeOpensSpec)

/-- ITS FALSE NEIGHBOUR: 'it returns false'. Refute it at one input. -/
def codeOpensWrong : ChangeSpec := { name := "codeOpens", fn := fun _ => fun
  | [d] => { results := [.lit (.bool false)], args := [d] }
  | _ => none }
def CodeOpensWrongFalsely : Prop := codeOpensRow.holds Tryd.pinned (OpenSpec.ofChange codeOpensWrong)

/-- 'drowselaw08.CodeSafe': WHATEVER THE INPUT: true; the input reads as it did. -/
def codeSafeSpec : ChangeSpec := { name := "codeSafe", fn := fun _ => fun
  | [d1, d2] => { results := [.lit (.bool true)], args := [d1, d2] }
  | _ => none }
def codeSafeRow : OpenClaim := { program := "ytgheaieghoekhaadoor", sum := "649f7f0a41cff68f40a61fa5bd9ee0d4c347f56ea92533f1d5036c304c74fdda", func := "drowse/drowselaw08.CodeSafe", spec := "codeSafe", inPlace := ["internal/abi.NoEscape"], unfollowed := true, recurses := true, named := ["drowse/code.table"], apart := false, laid := [("drowse/code.table", laid_drowse_code_table)] }
def CodeSafeSaid : Prop := codeSafeRow.holds Tryd.pinned (OpenSpec.ofChange codeSafeSpec)

/-- ITS FALSE NEIGHBOUR: 'it returns false'. Refute it at one input. -/
def codeSafeWrong : ChangeSpec := { name := "codeSafe", fn := fun _ => fun
  | [d1, d2] => { results := [.lit (.bool false)], args := [d1, d2] }
  | _ => none }
def CodeSafeWrongFalsely : Prop := codeSafeRow.holds Tryd.pinned (OpenSpec.ofChange codeSafeWrong)

/- THE SECOND FORM. 'bulk': how many values and letters a reading holds, each counted each time it is reached (what is shared counts as often as it is met; a slice's spare places count too). A statement '..UptoSaid' is the law's where the arguments, and the package variables that the reading takes, are together of bulk at most 1048576: NARROWER than '..Said'. Prove '..Said' where nothing that the law and all that it calls make is longer than what came in: it says more and counts as full. Else prove '..UptoSaid'. A law counts once. -/
mutual
def uptoBulk {H : Type} : DataW H → Nat
  | .lit (.string bytes) => bytes.length + 1
  | .lit _ => 1
  | .nil => 1
  | .ptr d => uptoBulk d + 1
  | .slice elems spare => uptoBulkAll elems + uptoBulkAll spare + 1
  | .agg parts => uptoBulkAll parts + 1
  | .iface _ d => uptoBulk d + 1
  | .map entries => uptoBulkEntries entries + 1
  | .held _ => 1
def uptoBulkAll {H : Type} : List (DataW H) → Nat
  | [] => 0
  | d :: r => uptoBulk d + uptoBulkAll r
def uptoBulkEntries {H : Type} : List (Lit × DataW H) → Nat
  | [] => 0
  | x :: r => uptoBulkEntry x + uptoBulkEntries r
def uptoBulkEntry {H : Type} : Lit × DataW H → Nat
  | (.string bytes, d) => bytes.length + uptoBulk d + 1
  | (_, d) => uptoBulk d + 1
 end
def uptoSmall : (H : Type) → List (DataW H) → Bool := fun _ ds => decide (uptoBulkAll ds ≤ 1048576)
def OpenSpec.upto (s : _root_.Go.ChangeSpec) : _root_.Go.OpenSpec := { _root_.Go.OpenSpec.ofChange s with cond := some uptoSmall }

/-- 'drowselaw08.CodeEffects', WHERE WHAT IT READS IS OF BULK AT MOST 1048576: true; the input reads as it did. -/
def codeEffectsUptoRow : OpenClaim := { program := "ytgheaieghoekhaadoor", sum := "649f7f0a41cff68f40a61fa5bd9ee0d4c347f56ea92533f1d5036c304c74fdda", func := "drowse/drowselaw08.CodeEffects", spec := "codeEffects", inPlace := ["internal/abi.NoEscape"], unfollowed := true, recurses := true, named := ["drowse/code.table"], apart := false, laid := [("drowse/code.table", laid_drowse_code_table)], narrowed := true }
def CodeEffectsUptoSaid : Prop := codeEffectsUptoRow.holds Tryd.pinned (OpenSpec.upto codeEffectsSpec)

/-- 'drowselaw08.CodeOpens', WHERE WHAT IT READS IS OF BULK AT MOST 1048576: true; the input reads as it did. -/
def codeOpensUptoRow : OpenClaim := { program := "ytgheaieghoekhaadoor", sum := "649f7f0a41cff68f40a61fa5bd9ee0d4c347f56ea92533f1d5036c304c74fdda", func := "drowse/drowselaw08.CodeOpens", spec := "codeOpens", inPlace := ["internal/abi.NoEscape"], unfollowed := true, recurses := true, named := ["drowse/code.table"], apart := false, laid := [("drowse/code.table", laid_drowse_code_table)], narrowed := true }
def CodeOpensUptoSaid : Prop := codeOpensUptoRow.holds Tryd.pinned (OpenSpec.upto codeOpensSpec)

/-- 'drowselaw08.CodeSafe', WHERE WHAT IT READS IS OF BULK AT MOST 1048576: true; the input reads as it did. -/
def codeSafeUptoRow : OpenClaim := { program := "ytgheaieghoekhaadoor", sum := "649f7f0a41cff68f40a61fa5bd9ee0d4c347f56ea92533f1d5036c304c74fdda", func := "drowse/drowselaw08.CodeSafe", spec := "codeSafe", inPlace := ["internal/abi.NoEscape"], unfollowed := true, recurses := true, named := ["drowse/code.table"], apart := false, laid := [("drowse/code.table", laid_drowse_code_table)], narrowed := true }
def CodeSafeUptoSaid : Prop := codeSafeUptoRow.holds Tryd.pinned (OpenSpec.upto codeSafeSpec)

end Rows
end Go.Proofs.YtgheaieghoekhaaDoor
