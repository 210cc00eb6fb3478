/-
  DERIVED. GIVEN WITH THE SEED: THE CARDS: each row of YtmogbileofpcfaeDoorRows.lean that lists a variable, with what it lists TIED to the program's text (the seventh form; the later family's looks); each row that meets fmt, with fmt's text TOLD by the authors' own Lean function (tested against real Go, not proved from fmt's source: count such statements apart). THE CARD IS WHAT COUNTS. Prove the row's statement (the work); the ties are given (YtmogbileofpcfaeDoorTie.lean); close each card by the builder's one call (the guide's Derived/Test/ToyasCard.lean, 'card_holds'). Laid BY PROGRAM, IN A SANDBOX (cutbox-door.mjs). By AI agents, Wed Nov 11 2026. No macro, syntax, notation, axiom, sorry.
-/
import Derived.Test.YtmogbileofpcfaeDoorRows
import GoSem.ClaimSeven
namespace Go.Proofs.YtmogbileofpcfaeDoor
namespace Rows

/-- THE TIED CARD OF 'tidekeep.CronBack'. -/
def cronBackCard : Claim7 := { stood := { row := cronBackRow, standIns := [], harness := (true, "a3ddd3fb196e677f17190d1f17e9ae56db18a7f359ddb24532c65239c6c560e5"), looks := false }, kinds := [], alts := [], laidByText := true, laidKinds := [.data, .data, .data, .data, .wider, .pinned], laidTests := true, laidLooks := .later }
def CronBackCardSaid : Prop := Claim7.holds Tryd.pinned (.plain (OpenSpec.ofChange cronBackSpec)) cronBackCard

/-- THE TIED CARD OF 'tidekeep.CronNext'. -/
def cronNextCard : Claim7 := { stood := { row := cronNextRow, standIns := [], harness := (true, "a3ddd3fb196e677f17190d1f17e9ae56db18a7f359ddb24532c65239c6c560e5"), looks := false }, kinds := [], alts := [], laidByText := true, laidKinds := [.data, .wider], laidTests := true, laidLooks := .later }
def CronNextCardSaid : Prop := Claim7.holds Tryd.pinned (.plain (OpenSpec.ofChange cronNextSpec)) cronNextCard

/-- THE TIED CARD OF 'tidekeep.CronDaily'. -/
def cronDailyCard : Claim7 := { stood := { row := cronDailyRow, standIns := [], harness := (true, "a3ddd3fb196e677f17190d1f17e9ae56db18a7f359ddb24532c65239c6c560e5"), looks := false }, kinds := [], alts := [], laidByText := true, laidKinds := [.data, .wider], laidTests := true, laidLooks := .later }
def CronDailyCardSaid : Prop := Claim7.holds Tryd.pinned (.plain (OpenSpec.ofChange cronDailySpec)) cronDailyCard

/-- THE TIED CARD OF 'tidekeep.CronOr'. -/
def cronOrCard : Claim7 := { stood := { row := cronOrRow, standIns := [], harness := (true, "a3ddd3fb196e677f17190d1f17e9ae56db18a7f359ddb24532c65239c6c560e5"), looks := false }, kinds := [], alts := [], laidByText := true, laidKinds := [.wider], laidTests := true, laidLooks := .later }
def CronOrCardSaid : Prop := Claim7.holds Tryd.pinned (.plain (OpenSpec.ofChange cronOrSpec)) cronOrCard

/-- THE TIED CARD OF 'tidekeep.SpanEdges'. -/
def spanEdgesCard : Claim7 := { stood := { row := spanEdgesRow, standIns := [], harness := (true, "a3ddd3fb196e677f17190d1f17e9ae56db18a7f359ddb24532c65239c6c560e5"), looks := false }, kinds := [], alts := [], laidByText := true, laidKinds := [.data, .wider], laidTests := true, laidLooks := .later }
def SpanEdgesCardSaid : Prop := Claim7.holds Tryd.pinned (.plain (OpenSpec.ofChange spanEdgesSpec)) spanEdgesCard

/-- THE TIED CARD OF 'tidekeep.SpanSwaps'. -/
def spanSwapsCard : Claim7 := { stood := { row := spanSwapsRow, standIns := [], harness := (true, "a3ddd3fb196e677f17190d1f17e9ae56db18a7f359ddb24532c65239c6c560e5"), looks := false }, kinds := [], alts := [], laidByText := true, laidKinds := [.wider], laidTests := true, laidLooks := .later }
def SpanSwapsCardSaid : Prop := Claim7.holds Tryd.pinned (.plain (OpenSpec.ofChange spanSwapsSpec)) spanSwapsCard

/-- THE SECOND FORM's CARD OF 'tidekeep.CronBack'. -/
def cronBackUptoCard : Claim7 := { stood := { row := cronBackUptoRow, standIns := [], harness := (true, "a3ddd3fb196e677f17190d1f17e9ae56db18a7f359ddb24532c65239c6c560e5"), looks := false }, kinds := [], alts := [], laidByText := true, laidKinds := [.data, .data, .data, .data, .wider, .pinned], laidTests := true, laidLooks := .later }
def CronBackUptoCardSaid : Prop := Claim7.holds Tryd.pinned (.plain (OpenSpec.upto cronBackSpec)) cronBackUptoCard

/-- THE SECOND FORM's CARD OF 'tidekeep.CronNext'. -/
def cronNextUptoCard : Claim7 := { stood := { row := cronNextUptoRow, standIns := [], harness := (true, "a3ddd3fb196e677f17190d1f17e9ae56db18a7f359ddb24532c65239c6c560e5"), looks := false }, kinds := [], alts := [], laidByText := true, laidKinds := [.data, .wider], laidTests := true, laidLooks := .later }
def CronNextUptoCardSaid : Prop := Claim7.holds Tryd.pinned (.plain (OpenSpec.upto cronNextSpec)) cronNextUptoCard

/-- THE SECOND FORM's CARD OF 'tidekeep.CronDaily'. -/
def cronDailyUptoCard : Claim7 := { stood := { row := cronDailyUptoRow, standIns := [], harness := (true, "a3ddd3fb196e677f17190d1f17e9ae56db18a7f359ddb24532c65239c6c560e5"), looks := false }, kinds := [], alts := [], laidByText := true, laidKinds := [.data, .wider], laidTests := true, laidLooks := .later }
def CronDailyUptoCardSaid : Prop := Claim7.holds Tryd.pinned (.plain (OpenSpec.upto cronDailySpec)) cronDailyUptoCard

/-- THE SECOND FORM's CARD OF 'tidekeep.CronOr'. -/
def cronOrUptoCard : Claim7 := { stood := { row := cronOrUptoRow, standIns := [], harness := (true, "a3ddd3fb196e677f17190d1f17e9ae56db18a7f359ddb24532c65239c6c560e5"), looks := false }, kinds := [], alts := [], laidByText := true, laidKinds := [.wider], laidTests := true, laidLooks := .later }
def CronOrUptoCardSaid : Prop := Claim7.holds Tryd.pinned (.plain (OpenSpec.upto cronOrSpec)) cronOrUptoCard

/-- THE SECOND FORM's CARD OF 'tidekeep.SpanEdges'. -/
def spanEdgesUptoCard : Claim7 := { stood := { row := spanEdgesUptoRow, standIns := [], harness := (true, "a3ddd3fb196e677f17190d1f17e9ae56db18a7f359ddb24532c65239c6c560e5"), looks := false }, kinds := [], alts := [], laidByText := true, laidKinds := [.data, .wider], laidTests := true, laidLooks := .later }
def SpanEdgesUptoCardSaid : Prop := Claim7.holds Tryd.pinned (.plain (OpenSpec.upto spanEdgesSpec)) spanEdgesUptoCard

/-- THE SECOND FORM's CARD OF 'tidekeep.SpanSwaps'. -/
def spanSwapsUptoCard : Claim7 := { stood := { row := spanSwapsUptoRow, standIns := [], harness := (true, "a3ddd3fb196e677f17190d1f17e9ae56db18a7f359ddb24532c65239c6c560e5"), looks := false }, kinds := [], alts := [], laidByText := true, laidKinds := [.wider], laidTests := true, laidLooks := .later }
def SpanSwapsUptoCardSaid : Prop := Claim7.holds Tryd.pinned (.plain (OpenSpec.upto spanSwapsSpec)) spanSwapsUptoCard
end Rows
end Go.Proofs.YtmogbileofpcfaeDoor
