/- Plans that are the same: slices.Equal of triggers, and the document's SamePlan. -/
import Derived.Test.YtddabkmppobcdaaGreatDoorPsTak
import Derived.Test.YtddabkmppobcdaaGreatDoorPsCronMatch
import Derived.Deep.RegionHeld
set_option maxRecDepth 8000
namespace Go.Proofs.YtddabkmppobcdaaGreatDoor
namespace Pln
open Go.RowKit Lai Civ Crn
set_option linter.unusedSimpArgs false

def EqR (n:Nat) (w:World) (i:Value) (wr:World):Prop:= ∃k:Nat,k≤n∧i=.int .i64 k∧Below w.heap.size w wr
end Pln
end Go.Proofs.YtddabkmppobcdaaGreatDoor
