/-
  DERIVED. GIVEN WITH THE SEED: THE CARDS: each row of YtkmdndhjobckiahGreatDoorRows.lean that lists a variable, with what it lists TIED to the program's text (the seventh form; the later family's looks); each row that meets fmt, with fmt's text TOLD by the authors' own Lean function (tested against real Go, not proved from fmt's source: count such statements apart). THE CARD IS WHAT COUNTS. Prove the row's statement (the work); the ties are given (YtkmdndhjobckiahGreatDoorTie.lean); close each card by the builder's one call (the guide's Derived/Test/ToyasCard.lean, 'card_holds'). Laid BY PROGRAM, IN A SANDBOX (cutbox-door.mjs). By AI agents, Wed Nov 11 2026. No macro, syntax, notation, axiom, sorry.
-/
import Derived.Test.YtkmdndhjobckiahGreatDoorRows
import GoSem.ClaimSeven
namespace Go.Proofs.YtkmdndhjobckiahGreatDoor
namespace Rows

/-- THE TIED CARD OF 'tidekeep.WorldTicks'. -/
def worldTicksCard : Claim7 := { stood := { row := worldTicksRow, standIns := [], harness := (true, "0c022f1b134f2b2b3b6c307ced8275c6c5f18ecda76ce85684914e8c7876c7a2"), looks := false }, kinds := [], alts := [], laidByText := true, laidKinds := [.wider], laidTests := true, laidLooks := .later }
def WorldTicksCardSaid : Prop := Claim7.holds Tryz.pinned (.plain (OpenSpec.ofChange worldTicksSpec)) worldTicksCard

/-- THE TIED CARD OF 'tidekeep.WorldLoads'. -/
def worldLoadsCard : Claim7 := { stood := { row := worldLoadsRow, standIns := [], harness := (true, "0c022f1b134f2b2b3b6c307ced8275c6c5f18ecda76ce85684914e8c7876c7a2"), looks := false }, kinds := [], alts := [], laidByText := true, laidKinds := [.wider], laidTests := true, laidLooks := .later }
def WorldLoadsCardSaid : Prop := Claim7.holds Tryz.pinned (.plain (OpenSpec.ofChange worldLoadsSpec)) worldLoadsCard

/-- THE SECOND FORM's CARD OF 'tidekeep.WorldTicks'. -/
def worldTicksUptoCard : Claim7 := { stood := { row := worldTicksUptoRow, standIns := [], harness := (true, "0c022f1b134f2b2b3b6c307ced8275c6c5f18ecda76ce85684914e8c7876c7a2"), looks := false }, kinds := [], alts := [], laidByText := true, laidKinds := [.wider], laidTests := true, laidLooks := .later }
def WorldTicksUptoCardSaid : Prop := Claim7.holds Tryz.pinned (.plain (OpenSpec.upto worldTicksSpec)) worldTicksUptoCard

/-- THE SECOND FORM's CARD OF 'tidekeep.WorldLoads'. -/
def worldLoadsUptoCard : Claim7 := { stood := { row := worldLoadsUptoRow, standIns := [], harness := (true, "0c022f1b134f2b2b3b6c307ced8275c6c5f18ecda76ce85684914e8c7876c7a2"), looks := false }, kinds := [], alts := [], laidByText := true, laidKinds := [.wider], laidTests := true, laidLooks := .later }
def WorldLoadsUptoCardSaid : Prop := Claim7.holds Tryz.pinned (.plain (OpenSpec.upto worldLoadsSpec)) worldLoadsUptoCard
end Rows
end Go.Proofs.YtkmdndhjobckiahGreatDoor
