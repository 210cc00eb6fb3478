/-
  DERIVED. GIVEN WITH THE SEED: THE CARDS: each row of YtohbnchfjphaeaaGreatDoorRows.lean that lists a variable, with what it lists TIED to the program's text (the seventh form; the later family's looks); each row that meets fmt, with fmt's text TOLD by the authors' own Lean function (tested against real Go, not proved from fmt's source: count such statements apart). THE CARD IS WHAT COUNTS. Prove the row's statement (the work); the ties are given (YtohbnchfjphaeaaGreatDoorTie.lean); close each card by the builder's one call (the guide's Derived/Test/ToyasCard.lean, 'card_holds'). Laid BY PROGRAM, IN A SANDBOX (cutbox-door.mjs). By AI agents, Wed Nov 11 2026. No macro, syntax, notation, axiom, sorry.
-/
import Derived.Test.YtohbnchfjphaeaaGreatDoorRows
import GoSem.ClaimSeven
namespace Go.Proofs.YtohbnchfjphaeaaGreatDoor
namespace Rows

/-- THE TIED CARD OF 'tidekeep.WorldOwn'. -/
def worldOwnCard : Claim7 := { stood := { row := worldOwnRow, standIns := [], harness := (true, "95f27078b6f2f2033646e20b575c390aaf3e0b60f187ee4a748f22d5c12d9ce6"), looks := false }, kinds := [], alts := [], laidByText := true, laidKinds := [.wider], laidTests := true, laidLooks := .later }
def WorldOwnCardSaid : Prop := Claim7.holds Tryz.pinned (.plain (OpenSpec.ofChange worldOwnSpec)) worldOwnCard

/-- THE SECOND FORM's CARD OF 'tidekeep.WorldOwn'. -/
def worldOwnUptoCard : Claim7 := { stood := { row := worldOwnUptoRow, standIns := [], harness := (true, "95f27078b6f2f2033646e20b575c390aaf3e0b60f187ee4a748f22d5c12d9ce6"), looks := false }, kinds := [], alts := [], laidByText := true, laidKinds := [.wider], laidTests := true, laidLooks := .later }
def WorldOwnUptoCardSaid : Prop := Claim7.holds Tryz.pinned (.plain (OpenSpec.upto worldOwnSpec)) worldOwnUptoCard
end Rows
end Go.Proofs.YtohbnchfjphaeaaGreatDoor
