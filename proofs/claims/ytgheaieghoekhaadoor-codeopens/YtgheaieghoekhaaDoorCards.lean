/-
  DERIVED. GIVEN WITH THE SEED: THE CARDS: each row of YtgheaieghoekhaaDoorRows.lean that lists a variable, with what it lists TIED to the program's text (the seventh form; the later family's looks); each row that meets fmt, with fmt's text TOLD by the authors' own Lean function (tested against real Go, not proved from fmt's source: count such statements apart). THE CARD IS WHAT COUNTS. Prove the row's statement (the work); the ties are given (YtgheaieghoekhaaDoorTie.lean); close each card by the builder's one call (the guide's Derived/Test/ToyasCard.lean, 'card_holds'). Laid BY PROGRAM, IN A SANDBOX (cutbox-door.mjs). By AI agents, Wed Nov 11 2026. No macro, syntax, notation, axiom, sorry.
-/
import Derived.Test.YtgheaieghoekhaaDoorRows
import GoSem.ClaimSeven
namespace Go.Proofs.YtgheaieghoekhaaDoor
namespace Rows

/-- THE TIED CARD OF 'drowselaw08.CodeEffects'. -/
def codeEffectsCard : Claim7 := { stood := { row := codeEffectsRow, standIns := [], harness := (true, "5852fa267a16f3cd94954fcce33cea31e2cb6724660a091e6aa904c02e46ce66"), looks := true }, kinds := [], alts := [], laidByText := true, laidKinds := [.data], laidTests := true, laidLooks := .later }
def CodeEffectsCardSaid : Prop := Claim7.holds Tryd.pinned (.plain (OpenSpec.ofChange codeEffectsSpec)) codeEffectsCard

/-- THE TIED CARD OF 'drowselaw08.CodeOpens'. -/
def codeOpensCard : Claim7 := { stood := { row := codeOpensRow, standIns := [], harness := (true, "5852fa267a16f3cd94954fcce33cea31e2cb6724660a091e6aa904c02e46ce66"), looks := true }, kinds := [], alts := [], laidByText := true, laidKinds := [.data], laidTests := true, laidLooks := .later }
def CodeOpensCardSaid : Prop := Claim7.holds Tryd.pinned (.plain (OpenSpec.ofChange codeOpensSpec)) codeOpensCard

/-- THE TIED CARD OF 'drowselaw08.CodeSafe'. -/
def codeSafeCard : Claim7 := { stood := { row := codeSafeRow, standIns := [], harness := (true, "5852fa267a16f3cd94954fcce33cea31e2cb6724660a091e6aa904c02e46ce66"), looks := true }, kinds := [], alts := [], laidByText := true, laidKinds := [.data], laidTests := true, laidLooks := .later }
def CodeSafeCardSaid : Prop := Claim7.holds Tryd.pinned (.plain (OpenSpec.ofChange codeSafeSpec)) codeSafeCard

/-- THE SECOND FORM's CARD OF 'drowselaw08.CodeEffects'. -/
def codeEffectsUptoCard : Claim7 := { stood := { row := codeEffectsUptoRow, standIns := [], harness := (true, "5852fa267a16f3cd94954fcce33cea31e2cb6724660a091e6aa904c02e46ce66"), looks := true }, kinds := [], alts := [], laidByText := true, laidKinds := [.data], laidTests := true, laidLooks := .later }
def CodeEffectsUptoCardSaid : Prop := Claim7.holds Tryd.pinned (.plain (OpenSpec.upto codeEffectsSpec)) codeEffectsUptoCard

/-- THE SECOND FORM's CARD OF 'drowselaw08.CodeOpens'. -/
def codeOpensUptoCard : Claim7 := { stood := { row := codeOpensUptoRow, standIns := [], harness := (true, "5852fa267a16f3cd94954fcce33cea31e2cb6724660a091e6aa904c02e46ce66"), looks := true }, kinds := [], alts := [], laidByText := true, laidKinds := [.data], laidTests := true, laidLooks := .later }
def CodeOpensUptoCardSaid : Prop := Claim7.holds Tryd.pinned (.plain (OpenSpec.upto codeOpensSpec)) codeOpensUptoCard

/-- THE SECOND FORM's CARD OF 'drowselaw08.CodeSafe'. -/
def codeSafeUptoCard : Claim7 := { stood := { row := codeSafeUptoRow, standIns := [], harness := (true, "5852fa267a16f3cd94954fcce33cea31e2cb6724660a091e6aa904c02e46ce66"), looks := true }, kinds := [], alts := [], laidByText := true, laidKinds := [.data], laidTests := true, laidLooks := .later }
def CodeSafeUptoCardSaid : Prop := Claim7.holds Tryd.pinned (.plain (OpenSpec.upto codeSafeSpec)) codeSafeUptoCard
end Rows
end Go.Proofs.YtgheaieghoekhaaDoor
