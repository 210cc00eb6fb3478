/-
  DERIVED. GIVEN WITH THE SEED: THE CARDS: each row of YtcaobnmfgnbolafDoorRows.lean that lists a variable, with what it lists TIED to the program's text (the seventh form; the later family's looks); each row that meets fmt, with fmt's text TOLD by the authors' own Lean function (tested against real Go, not proved from fmt's source: count such statements apart). THE CARD IS WHAT COUNTS. Prove the row's statement (the work); the ties are given (YtcaobnmfgnbolafDoorTie.lean); close each card by the builder's one call (the guide's Derived/Test/ToyasCard.lean, 'card_holds'). Laid BY PROGRAM, IN A SANDBOX (cutbox-door.mjs). By AI agents, Wed Nov 11 2026. No macro, syntax, notation, axiom, sorry.
-/
import Derived.Test.YtcaobnmfgnbolafDoorRows
import GoSem.ClaimSeven
namespace Go.Proofs.YtcaobnmfgnbolafDoor
namespace Rows

/-- THE TIED CARD OF 'tidekeep.PlanBack'. -/
def planBackCard : Claim7 := { stood := { row := planBackRow, standIns := [], harness := (true, "c696c0458415dc5308f0a49072a0452e19772fa7f65f6867b263e1cb2932515f"), looks := false }, kinds := [], alts := [], laidByText := true, laidKinds := [.data, .data, .data, .data, .wider, .pinned], laidTests := true, laidLooks := .later }
def PlanBackCardSaid : Prop := Claim7.holds Tryd.pinned (.plain (OpenSpec.ofChange planBackSpec)) planBackCard

/-- THE TIED CARD OF 'tidekeep.NeedGrows'. -/
def needGrowsCard : Claim7 := { stood := { row := needGrowsRow, standIns := [], harness := (true, "c696c0458415dc5308f0a49072a0452e19772fa7f65f6867b263e1cb2932515f"), looks := false }, kinds := [], alts := [], laidByText := true, laidKinds := [.wider], laidTests := true, laidLooks := .later }
def NeedGrowsCardSaid : Prop := Claim7.holds Tryd.pinned (.plain (OpenSpec.ofChange needGrowsSpec)) needGrowsCard

/-- THE TIED CARD OF 'tidekeep.NeedStays'. -/
def needStaysCard : Claim7 := { stood := { row := needStaysRow, standIns := [], harness := (true, "c696c0458415dc5308f0a49072a0452e19772fa7f65f6867b263e1cb2932515f"), looks := false }, kinds := [], alts := [], laidByText := true, laidKinds := [.wider], laidTests := true, laidLooks := .later }
def NeedStaysCardSaid : Prop := Claim7.holds Tryd.pinned (.plain (OpenSpec.ofChange needStaysSpec)) needStaysCard

/-- THE SECOND FORM's CARD OF 'tidekeep.PlanBack'. -/
def planBackUptoCard : Claim7 := { stood := { row := planBackUptoRow, standIns := [], harness := (true, "c696c0458415dc5308f0a49072a0452e19772fa7f65f6867b263e1cb2932515f"), looks := false }, kinds := [], alts := [], laidByText := true, laidKinds := [.data, .data, .data, .data, .wider, .pinned], laidTests := true, laidLooks := .later }
def PlanBackUptoCardSaid : Prop := Claim7.holds Tryd.pinned (.plain (OpenSpec.upto planBackSpec)) planBackUptoCard

/-- THE SECOND FORM's CARD OF 'tidekeep.NeedGrows'. -/
def needGrowsUptoCard : Claim7 := { stood := { row := needGrowsUptoRow, standIns := [], harness := (true, "c696c0458415dc5308f0a49072a0452e19772fa7f65f6867b263e1cb2932515f"), looks := false }, kinds := [], alts := [], laidByText := true, laidKinds := [.wider], laidTests := true, laidLooks := .later }
def NeedGrowsUptoCardSaid : Prop := Claim7.holds Tryd.pinned (.plain (OpenSpec.upto needGrowsSpec)) needGrowsUptoCard

/-- THE SECOND FORM's CARD OF 'tidekeep.NeedStays'. -/
def needStaysUptoCard : Claim7 := { stood := { row := needStaysUptoRow, standIns := [], harness := (true, "c696c0458415dc5308f0a49072a0452e19772fa7f65f6867b263e1cb2932515f"), looks := false }, kinds := [], alts := [], laidByText := true, laidKinds := [.wider], laidTests := true, laidLooks := .later }
def NeedStaysUptoCardSaid : Prop := Claim7.holds Tryd.pinned (.plain (OpenSpec.upto needStaysSpec)) needStaysUptoCard
end Rows
end Go.Proofs.YtcaobnmfgnbolafDoor
