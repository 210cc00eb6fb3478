/-
  DERIVED. GIVEN WITH THE SEED: THE CARDS: each row of YtbfnjjdgiihngaaDoorRows.lean that lists a variable, with what it lists TIED to the program's text (the seventh form; the later family's looks); each row that meets fmt, with fmt's text TOLD by the authors' own Lean function (tested against real Go, not proved from fmt's source: count such statements apart). THE CARD IS WHAT COUNTS. Prove the row's statement (the work); the ties are given (YtbfnjjdgiihngaaDoorTie.lean); close each card by the builder's one call (the guide's Derived/Test/ToyasCard.lean, 'card_holds'). Laid BY PROGRAM, IN A SANDBOX (cutbox-door.mjs). By AI agents, Wed Nov 11 2026. No macro, syntax, notation, axiom, sorry.
-/
import Derived.Test.YtbfnjjdgiihngaaDoorRows
import GoSem.ClaimSeven
namespace Go.Proofs.YtbfnjjdgiihngaaDoor
namespace Rows

/-- THE TIED CARD OF 'tidelaw.CronSays'. -/
def cronSaysCard : Claim7 := { stood := { row := cronSaysRow, standIns := [], harness := (true, "ef74ddd3fa761fd6d0b9dbff231a0495e4a9021196d821df37e9b1013d9ec5c9"), looks := false }, kinds := [], alts := [], laidByText := true, laidKinds := [.data, .data, .data, .wider], laidTests := true, laidLooks := .later }
def CronSaysCardSaid : Prop := Claim7.holds Tryd.pinned (.plain (OpenSpec.ofChange cronSaysSpec)) cronSaysCard

/-- THE TIED CARD OF 'tidelaw.CronReads'. -/
def cronReadsCard : Claim7 := { stood := { row := cronReadsRow, standIns := [], harness := (true, "ef74ddd3fa761fd6d0b9dbff231a0495e4a9021196d821df37e9b1013d9ec5c9"), looks := false }, kinds := [], alts := [], laidByText := true, laidKinds := [.data, .wider, .pinned], laidTests := true, laidLooks := .later }
def CronReadsCardSaid : Prop := Claim7.holds Tryd.pinned (.plain (OpenSpec.ofChange cronReadsSpec)) cronReadsCard

/-- THE TIED CARD OF 'tidelaw.CronSeeks'. -/
def cronSeeksCard : Claim7 := { stood := { row := cronSeeksRow, standIns := [], harness := (true, "ef74ddd3fa761fd6d0b9dbff231a0495e4a9021196d821df37e9b1013d9ec5c9"), looks := false }, kinds := [], alts := [], laidByText := true, laidKinds := [.data, .wider], laidTests := true, laidLooks := .later }
def CronSeeksCardSaid : Prop := Claim7.holds Tryd.pinned (.plain (OpenSpec.ofChange cronSeeksSpec)) cronSeeksCard

/-- THE SECOND FORM's CARD OF 'tidelaw.CronSays'. -/
def cronSaysUptoCard : Claim7 := { stood := { row := cronSaysUptoRow, standIns := [], harness := (true, "ef74ddd3fa761fd6d0b9dbff231a0495e4a9021196d821df37e9b1013d9ec5c9"), looks := false }, kinds := [], alts := [], laidByText := true, laidKinds := [.data, .data, .data, .wider], laidTests := true, laidLooks := .later }
def CronSaysUptoCardSaid : Prop := Claim7.holds Tryd.pinned (.plain (OpenSpec.upto cronSaysSpec)) cronSaysUptoCard

/-- THE SECOND FORM's CARD OF 'tidelaw.CronReads'. -/
def cronReadsUptoCard : Claim7 := { stood := { row := cronReadsUptoRow, standIns := [], harness := (true, "ef74ddd3fa761fd6d0b9dbff231a0495e4a9021196d821df37e9b1013d9ec5c9"), looks := false }, kinds := [], alts := [], laidByText := true, laidKinds := [.data, .wider, .pinned], laidTests := true, laidLooks := .later }
def CronReadsUptoCardSaid : Prop := Claim7.holds Tryd.pinned (.plain (OpenSpec.upto cronReadsSpec)) cronReadsUptoCard

/-- THE SECOND FORM's CARD OF 'tidelaw.CronSeeks'. -/
def cronSeeksUptoCard : Claim7 := { stood := { row := cronSeeksUptoRow, standIns := [], harness := (true, "ef74ddd3fa761fd6d0b9dbff231a0495e4a9021196d821df37e9b1013d9ec5c9"), looks := false }, kinds := [], alts := [], laidByText := true, laidKinds := [.data, .wider], laidTests := true, laidLooks := .later }
def CronSeeksUptoCardSaid : Prop := Claim7.holds Tryd.pinned (.plain (OpenSpec.upto cronSeeksSpec)) cronSeeksUptoCard
end Rows
end Go.Proofs.YtbfnjjdgiihngaaDoor
