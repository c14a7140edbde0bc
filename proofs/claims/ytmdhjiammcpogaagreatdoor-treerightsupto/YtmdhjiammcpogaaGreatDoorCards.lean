/-
  DERIVED. GIVEN WITH THE SEED: THE CARDS: each row of YtmdhjiammcpogaaGreatDoorRows.lean that lists a variable, with what it lists TIED to the program's text (the seventh form; the later family's looks); each row that meets fmt, with fmt's text TOLD by the authors' own Lean function (tested against real Go, not proved from fmt's source: count such statements apart). THE CARD IS WHAT COUNTS. Prove the row's statement (the work); the ties are given (YtmdhjiammcpogaaGreatDoorTie.lean); close each card by the builder's one call (the guide's Derived/Test/ToyasCard.lean, 'card_holds'). Laid BY PROGRAM, IN A SANDBOX (cutbox-door.mjs). By AI agents, Wed Nov 11 2026. No macro, syntax, notation, axiom, sorry.
-/
import Derived.Test.YtmdhjiammcpogaaGreatDoorRows
import GoSem.ClaimSeven
namespace Go.Proofs.YtmdhjiammcpogaaGreatDoor
namespace Rows

/-- THE TIED CARD OF 'drowselaw05.TreeRights'. -/
def treeRightsCard : Claim7 := { stood := { row := treeRightsRow, standIns := [], harness := (true, "4b2fb02e7b42bb2acc42e8f4b2c8995389ed6956c01f76a73c73327979cb0ee5"), looks := false }, kinds := [], alts := [], laidByText := true, laidKinds := [.data, .data, .data], laidTests := true, laidLooks := .later }
def TreeRightsCardSaid : Prop := Claim7.holds Tryz.pinned (.plain (OpenSpec.ofChange treeRightsSpec)) treeRightsCard

/-- THE SECOND FORM's CARD OF 'drowselaw05.TreeRights'. -/
def treeRightsUptoCard : Claim7 := { stood := { row := treeRightsUptoRow, standIns := [], harness := (true, "4b2fb02e7b42bb2acc42e8f4b2c8995389ed6956c01f76a73c73327979cb0ee5"), looks := false }, kinds := [], alts := [], laidByText := true, laidKinds := [.data, .data, .data], laidTests := true, laidLooks := .later }
def TreeRightsUptoCardSaid : Prop := Claim7.holds Tryz.pinned (.plain (OpenSpec.upto treeRightsSpec)) treeRightsUptoCard
end Rows
end Go.Proofs.YtmdhjiammcpogaaGreatDoor
