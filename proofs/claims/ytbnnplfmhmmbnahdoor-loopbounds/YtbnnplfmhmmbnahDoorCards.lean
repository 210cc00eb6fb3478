/-
  DERIVED. GIVEN WITH THE SEED: THE CARDS: each row of YtbnnplfmhmmbnahDoorRows.lean that lists a variable, with what it lists TIED to the program's text (the seventh form; the later family's looks); each row that meets fmt, with fmt's text TOLD by the authors' own Lean function (tested against real Go, not proved from fmt's source: count such statements apart). THE CARD IS WHAT COUNTS. Prove the row's statement (the work); the ties are given (YtbnnplfmhmmbnahDoorTie.lean); close each card by the builder's one call (the guide's Derived/Test/ToyasCard.lean, 'card_holds'). Laid BY PROGRAM, IN A SANDBOX (cutbox-door.mjs). By AI agents, Wed Nov 11 2026. No macro, syntax, notation, axiom, sorry.
-/
import Derived.Test.YtbnnplfmhmmbnahDoorRows
import GoSem.ClaimSeven
namespace Go.Proofs.YtbnnplfmhmmbnahDoor
namespace Rows

/-- THE TIED CARD OF 'tidekeep.LoopBounds'. -/
def loopBoundsCard : Claim7 := { stood := { row := loopBoundsRow, standIns := [], harness := (true, "e2f07df39994fdaa44ce9fcf45e1b1c9a82fb006938770ad1b31770a82c24660"), looks := false }, kinds := [], alts := [], laidByText := true, laidKinds := [.wider], laidTests := true, laidLooks := .later }
def LoopBoundsCardSaid : Prop := Claim7.holds Tryd.pinned (.plain (OpenSpec.ofChange loopBoundsSpec)) loopBoundsCard

/-- THE TIED CARD OF 'tidekeep.LoopCools'. -/
def loopCoolsCard : Claim7 := { stood := { row := loopCoolsRow, standIns := [], harness := (true, "e2f07df39994fdaa44ce9fcf45e1b1c9a82fb006938770ad1b31770a82c24660"), looks := false }, kinds := [], alts := [], laidByText := true, laidKinds := [.wider], laidTests := true, laidLooks := .later }
def LoopCoolsCardSaid : Prop := Claim7.holds Tryd.pinned (.plain (OpenSpec.ofChange loopCoolsSpec)) loopCoolsCard

/-- THE TIED CARD OF 'tidekeep.LoopFails'. -/
def loopFailsCard : Claim7 := { stood := { row := loopFailsRow, standIns := [], harness := (true, "e2f07df39994fdaa44ce9fcf45e1b1c9a82fb006938770ad1b31770a82c24660"), looks := false }, kinds := [], alts := [], laidByText := true, laidKinds := [.wider], laidTests := true, laidLooks := .later }
def LoopFailsCardSaid : Prop := Claim7.holds Tryd.pinned (.plain (OpenSpec.ofChange loopFailsSpec)) loopFailsCard

/-- THE SECOND FORM's CARD OF 'tidekeep.LoopBounds'. -/
def loopBoundsUptoCard : Claim7 := { stood := { row := loopBoundsUptoRow, standIns := [], harness := (true, "e2f07df39994fdaa44ce9fcf45e1b1c9a82fb006938770ad1b31770a82c24660"), looks := false }, kinds := [], alts := [], laidByText := true, laidKinds := [.wider], laidTests := true, laidLooks := .later }
def LoopBoundsUptoCardSaid : Prop := Claim7.holds Tryd.pinned (.plain (OpenSpec.upto loopBoundsSpec)) loopBoundsUptoCard

/-- THE SECOND FORM's CARD OF 'tidekeep.LoopCools'. -/
def loopCoolsUptoCard : Claim7 := { stood := { row := loopCoolsUptoRow, standIns := [], harness := (true, "e2f07df39994fdaa44ce9fcf45e1b1c9a82fb006938770ad1b31770a82c24660"), looks := false }, kinds := [], alts := [], laidByText := true, laidKinds := [.wider], laidTests := true, laidLooks := .later }
def LoopCoolsUptoCardSaid : Prop := Claim7.holds Tryd.pinned (.plain (OpenSpec.upto loopCoolsSpec)) loopCoolsUptoCard

/-- THE SECOND FORM's CARD OF 'tidekeep.LoopFails'. -/
def loopFailsUptoCard : Claim7 := { stood := { row := loopFailsUptoRow, standIns := [], harness := (true, "e2f07df39994fdaa44ce9fcf45e1b1c9a82fb006938770ad1b31770a82c24660"), looks := false }, kinds := [], alts := [], laidByText := true, laidKinds := [.wider], laidTests := true, laidLooks := .later }
def LoopFailsUptoCardSaid : Prop := Claim7.holds Tryd.pinned (.plain (OpenSpec.upto loopFailsSpec)) loopFailsUptoCard
end Rows
end Go.Proofs.YtbnnplfmhmmbnahDoor
