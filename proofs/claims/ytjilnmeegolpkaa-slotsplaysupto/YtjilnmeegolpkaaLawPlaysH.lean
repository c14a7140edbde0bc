/- SlotsPlays for every table's size and every script up to the bulk that the row names: the program's table answers as the document's, step by step. There are no other conditions. -/
import Derived.Test.YtjilnmeegolpkaaLawPlays
import Derived.Test.YtjilnmeegolpkaaHk
namespace Go.Proofs.Ytjilnmeegolpkaa

theorem slotsPlays_holds : Rows.SlotsPlaysUptoSaid := slotsPlays_of face

#print axioms slotsPlays_holds
end Go.Proofs.Ytjilnmeegolpkaa
