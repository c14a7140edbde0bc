/- SlotsNever for every input: no handle comes twice; one lives just from its Take to its Free; what lives tells what was put there last; the table is full just if so many live. There are no conditions. -/
import Derived.Test.YtjilnmeegolpkaaLawNever
import Derived.Test.YtjilnmeegolpkaaHk
namespace Go.Proofs.Ytjilnmeegolpkaa

theorem slotsNever_holds : Rows.SlotsNeverSaid := slotsNever_of face

#print axioms slotsNever_holds
end Go.Proofs.Ytjilnmeegolpkaa
