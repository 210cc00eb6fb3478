/-
  DERIVED. GIVEN WITH THE SEED: THE CARDS: each row of YtdigiomaggnjoabDoorRows.lean that lists a variable, with what it lists TIED to the program's text (the seventh form; the later family's looks); each row that meets fmt, with fmt's text TOLD by the authors' own Lean function (tested against real Go, not proved from fmt's source: count such statements apart). THE CARD IS WHAT COUNTS. Prove the row's statement (the work); the ties are given (YtdigiomaggnjoabDoorTie.lean); close each card by the builder's one call (the guide's Derived/Test/ToyasCard.lean, 'card_holds'). Laid BY PROGRAM, IN A SANDBOX (cutbox-door.mjs). By AI agents, Wed Nov 11 2026. No macro, syntax, notation, axiom, sorry.
-/
import Derived.Test.YtdigiomaggnjoabDoorRows
import GoSem.ClaimSeven
namespace Go.Proofs.YtdigiomaggnjoabDoor
namespace Rows

/-- THE TIED CARD OF 'tidelaw.SpanSays'. -/
def spanSaysCard : Claim7 := { stood := { row := spanSaysRow, standIns := [], harness := (true, "b3c10023be8663a8510e14f5f42b1770a23f40bdb1eb9fc5de4af8c4c41e300c"), looks := false }, kinds := [], alts := [], laidByText := true, laidKinds := [.data, .wider], laidTests := true, laidLooks := .later }
def SpanSaysCardSaid : Prop := Claim7.holds Tryd.pinned (.plain (OpenSpec.ofChange spanSaysSpec)) spanSaysCard

/-- THE SECOND FORM's CARD OF 'tidelaw.SpanSays'. -/
def spanSaysUptoCard : Claim7 := { stood := { row := spanSaysUptoRow, standIns := [], harness := (true, "b3c10023be8663a8510e14f5f42b1770a23f40bdb1eb9fc5de4af8c4c41e300c"), looks := false }, kinds := [], alts := [], laidByText := true, laidKinds := [.data, .wider], laidTests := true, laidLooks := .later }
def SpanSaysUptoCardSaid : Prop := Claim7.holds Tryd.pinned (.plain (OpenSpec.upto spanSaysSpec)) spanSaysUptoCard
end Rows
end Go.Proofs.YtdigiomaggnjoabDoor
