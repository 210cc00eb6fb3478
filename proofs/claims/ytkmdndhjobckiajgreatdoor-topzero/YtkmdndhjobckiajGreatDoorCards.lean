/-
  DERIVED. GIVEN WITH THE SEED: THE CARDS: each row of YtkmdndhjobckiajGreatDoorRows.lean that lists a variable, with what it lists TIED to the program's text (the seventh form; the later family's looks); each row that meets fmt, with fmt's text TOLD by the authors' own Lean function (tested against real Go, not proved from fmt's source: count such statements apart). THE CARD IS WHAT COUNTS. Prove the row's statement (the work); the ties are given (YtkmdndhjobckiajGreatDoorTie.lean); close each card by the builder's one call (the guide's Derived/Test/ToyasCard.lean, 'card_holds'). Laid BY PROGRAM, IN A SANDBOX (cutbox-door.mjs). By AI agents, Wed Nov 11 2026. No macro, syntax, notation, axiom, sorry.
-/
import Derived.Test.YtkmdndhjobckiajGreatDoorRows
import GoSem.ClaimSeven
namespace Go.Proofs.YtkmdndhjobckiajGreatDoor
namespace Rows

/-- THE TIED CARD OF 'tidetop.TopZero'. -/
def topZeroCard : Claim7 := { stood := { row := topZeroRow, standIns := [], harness := (true, "67ae458cfbeabdc5cbad500deebb9d31a265207b6b626694121e677770bf0f5c"), looks := false }, kinds := [], alts := [], laidByText := true, laidKinds := [.wider], laidTests := true, laidLooks := .later }
def TopZeroCardSaid : Prop := Claim7.holds Tryz.pinned (.plain (OpenSpec.ofChange topZeroSpec)) topZeroCard

/-- THE TIED CARD OF 'tidetop.TopServed'. -/
def topServedCard : Claim7 := { stood := { row := topServedRow, standIns := [], harness := (true, "67ae458cfbeabdc5cbad500deebb9d31a265207b6b626694121e677770bf0f5c"), looks := false }, kinds := [], alts := [], laidByText := true, laidKinds := [.wider], laidTests := true, laidLooks := .later }
def TopServedCardSaid : Prop := Claim7.holds Tryz.pinned (.plain (OpenSpec.ofChange topServedSpec)) topServedCard

/-- THE TIED CARD OF 'tidetop.TopNeeds'. -/
def topNeedsCard : Claim7 := { stood := { row := topNeedsRow, standIns := [], harness := (true, "67ae458cfbeabdc5cbad500deebb9d31a265207b6b626694121e677770bf0f5c"), looks := false }, kinds := [], alts := [], laidByText := true, laidKinds := [.wider], laidTests := true, laidLooks := .later }
def TopNeedsCardSaid : Prop := Claim7.holds Tryz.pinned (.plain (OpenSpec.ofChange topNeedsSpec)) topNeedsCard

/-- THE TIED CARD OF 'tidetop.TopTexts'. -/
def topTextsCard : Claim7 := { stood := { row := topTextsRow, standIns := [], harness := (true, "67ae458cfbeabdc5cbad500deebb9d31a265207b6b626694121e677770bf0f5c"), looks := false }, kinds := [], alts := [], laidByText := true, laidKinds := [.data, .data, .data, .data, .wider, .pinned], laidTests := true, laidLooks := .later }
def TopTextsCardSaid : Prop := Claim7.holds Tryz.pinned (.plain (OpenSpec.ofChange topTextsSpec)) topTextsCard

/-- THE SECOND FORM's CARD OF 'tidetop.TopZero'. -/
def topZeroUptoCard : Claim7 := { stood := { row := topZeroUptoRow, standIns := [], harness := (true, "67ae458cfbeabdc5cbad500deebb9d31a265207b6b626694121e677770bf0f5c"), looks := false }, kinds := [], alts := [], laidByText := true, laidKinds := [.wider], laidTests := true, laidLooks := .later }
def TopZeroUptoCardSaid : Prop := Claim7.holds Tryz.pinned (.plain (OpenSpec.upto topZeroSpec)) topZeroUptoCard

/-- THE SECOND FORM's CARD OF 'tidetop.TopServed'. -/
def topServedUptoCard : Claim7 := { stood := { row := topServedUptoRow, standIns := [], harness := (true, "67ae458cfbeabdc5cbad500deebb9d31a265207b6b626694121e677770bf0f5c"), looks := false }, kinds := [], alts := [], laidByText := true, laidKinds := [.wider], laidTests := true, laidLooks := .later }
def TopServedUptoCardSaid : Prop := Claim7.holds Tryz.pinned (.plain (OpenSpec.upto topServedSpec)) topServedUptoCard

/-- THE SECOND FORM's CARD OF 'tidetop.TopNeeds'. -/
def topNeedsUptoCard : Claim7 := { stood := { row := topNeedsUptoRow, standIns := [], harness := (true, "67ae458cfbeabdc5cbad500deebb9d31a265207b6b626694121e677770bf0f5c"), looks := false }, kinds := [], alts := [], laidByText := true, laidKinds := [.wider], laidTests := true, laidLooks := .later }
def TopNeedsUptoCardSaid : Prop := Claim7.holds Tryz.pinned (.plain (OpenSpec.upto topNeedsSpec)) topNeedsUptoCard

/-- THE SECOND FORM's CARD OF 'tidetop.TopTexts'. -/
def topTextsUptoCard : Claim7 := { stood := { row := topTextsUptoRow, standIns := [], harness := (true, "67ae458cfbeabdc5cbad500deebb9d31a265207b6b626694121e677770bf0f5c"), looks := false }, kinds := [], alts := [], laidByText := true, laidKinds := [.data, .data, .data, .data, .wider, .pinned], laidTests := true, laidLooks := .later }
def TopTextsUptoCardSaid : Prop := Claim7.holds Tryz.pinned (.plain (OpenSpec.upto topTextsSpec)) topTextsUptoCard
end Rows
end Go.Proofs.YtkmdndhjobckiajGreatDoor
