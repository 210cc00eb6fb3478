/-
  No cell of these rows narrows 'for every input' (looked for: loops, veiled, ifaces, maps, wideKeys, modest, calm, conditions, laid).
  DERIVED. THE GIVEN ROWS OF THIS SEAT. 6 by the template 'for every input the law returns true; each argument reads behind the call as it read before'; 0 by the template 'total and deterministic' (their statements: YtkflelbpiabcpagTotals.lean).
  GIVEN WITH THE SEED: the statements are not yours to turn. If you find one false, say at which input.
  Laid BY PROGRAM, IN A SANDBOX (cutbox-rows.mjs): the forced cells as the released guide's own fill.sh prints them over the translation a9145cd4272207e6… (all of the seat's roots in one cut). By AI agents, Wed Nov 11 2026. No macro, syntax, notation, axiom, sorry.
-/
import Derived.Test.YtkflelbpiabcpagChecked
import GoSem.Claim
import GoSem.ClaimJoined
import GoSem.ClaimMapViews
import Derived.JoinedTies
import Derived.KernelRfl
namespace Go.Proofs.Ytkflelbpiabcpag
/- THE CELL 'sum', in the pinned program and in every row, IS THE sha256 OF THE DUMP (.gsa) THAT YtkflelbpiabcpagProg.lean LOADS. Nothing in Lean hashes anything: it is a label: what it is worth is what the hold of that sum in a sandbox is worth. -/
noncomputable def Try.pinned : Pinned := { name := "ytkflelbpiabcpag", sum := "a9145cd4272207e644c81e53d934db10405610e159f69abaef591f249871aea3", checked := Try.checked }
namespace Rows
def none {H : Type} : Left H := { results := [], args := [] }

/-- 'tidekeep.StableFree': WHATEVER THE INPUT: true; the input reads as it did. -/
def stableFreeSpec : ChangeSpec := { name := "stableFree", fn := fun _ => fun
  | [d] => { results := [.lit (.bool true)], args := [d] }
  | _ => none }
def stableFreeRow : OpenClaim := { program := "ytkflelbpiabcpag", sum := "a9145cd4272207e644c81e53d934db10405610e159f69abaef591f249871aea3", func := "tidewheel/tidekeep.StableFree", spec := "stableFree", unfollowed := true, recurses := true, apart := false }
def StableFreeSaid : Prop := stableFreeRow.holds Try.pinned (OpenSpec.ofChange stableFreeSpec)

/-- ITS FALSE NEIGHBOUR: 'it returns false'. Refute it at one input. -/
def stableFreeWrong : ChangeSpec := { name := "stableFree", fn := fun _ => fun
  | [d] => { results := [.lit (.bool false)], args := [d] }
  | _ => none }
def StableFreeWrongFalsely : Prop := stableFreeRow.holds Try.pinned (OpenSpec.ofChange stableFreeWrong)

/-- 'tidekeep.StableWindow': WHATEVER THE INPUT: true; the input reads as it did. -/
def stableWindowSpec : ChangeSpec := { name := "stableWindow", fn := fun _ => fun
  | [d1, d2] => { results := [.lit (.bool true)], args := [d1, d2] }
  | _ => none }
def stableWindowRow : OpenClaim := { program := "ytkflelbpiabcpag", sum := "a9145cd4272207e644c81e53d934db10405610e159f69abaef591f249871aea3", func := "tidewheel/tidekeep.StableWindow", spec := "stableWindow", unfollowed := true, recurses := true, apart := false }
def StableWindowSaid : Prop := stableWindowRow.holds Try.pinned (OpenSpec.ofChange stableWindowSpec)

/-- ITS FALSE NEIGHBOUR: 'it returns false'. Refute it at one input. -/
def stableWindowWrong : ChangeSpec := { name := "stableWindow", fn := fun _ => fun
  | [d1, d2] => { results := [.lit (.bool false)], args := [d1, d2] }
  | _ => none }
def StableWindowWrongFalsely : Prop := stableWindowRow.holds Try.pinned (OpenSpec.ofChange stableWindowWrong)

/-- 'tidekeep.StablePace': WHATEVER THE INPUT: true; the input reads as it did. -/
def stablePaceSpec : ChangeSpec := { name := "stablePace", fn := fun _ => fun
  | [d1, d2, d3, d4] => { results := [.lit (.bool true)], args := [d1, d2, d3, d4] }
  | _ => none }
def stablePaceRow : OpenClaim := { program := "ytkflelbpiabcpag", sum := "a9145cd4272207e644c81e53d934db10405610e159f69abaef591f249871aea3", func := "tidewheel/tidekeep.StablePace", spec := "stablePace", unfollowed := true, recurses := true, apart := false }
def StablePaceSaid : Prop := stablePaceRow.holds Try.pinned (OpenSpec.ofChange stablePaceSpec)

/-- ITS FALSE NEIGHBOUR: 'it returns false'. Refute it at one input. -/
def stablePaceWrong : ChangeSpec := { name := "stablePace", fn := fun _ => fun
  | [d1, d2, d3, d4] => { results := [.lit (.bool false)], args := [d1, d2, d3, d4] }
  | _ => none }
def StablePaceWrongFalsely : Prop := stablePaceRow.holds Try.pinned (OpenSpec.ofChange stablePaceWrong)

/-- 'tidekeep.FleetCounts': WHATEVER THE INPUT: true; the input reads as it did. -/
def fleetCountsSpec : ChangeSpec := { name := "fleetCounts", fn := fun _ => fun
  | [d1, d2] => { results := [.lit (.bool true)], args := [d1, d2] }
  | _ => none }
def fleetCountsRow : OpenClaim := { program := "ytkflelbpiabcpag", sum := "a9145cd4272207e644c81e53d934db10405610e159f69abaef591f249871aea3", func := "tidewheel/tidekeep.FleetCounts", spec := "fleetCounts", unfollowed := true, recurses := true, apart := false }
def FleetCountsSaid : Prop := fleetCountsRow.holds Try.pinned (OpenSpec.ofChange fleetCountsSpec)

/-- ITS FALSE NEIGHBOUR: 'it returns false'. Refute it at one input. -/
def fleetCountsWrong : ChangeSpec := { name := "fleetCounts", fn := fun _ => fun
  | [d1, d2] => { results := [.lit (.bool false)], args := [d1, d2] }
  | _ => none }
def FleetCountsWrongFalsely : Prop := fleetCountsRow.holds Try.pinned (OpenSpec.ofChange fleetCountsWrong)

/-- 'tidekeep.FleetEven': WHATEVER THE INPUT: true; the input reads as it did. -/
def fleetEvenSpec : ChangeSpec := { name := "fleetEven", fn := fun _ => fun
  | [d1, d2] => { results := [.lit (.bool true)], args := [d1, d2] }
  | _ => none }
def fleetEvenRow : OpenClaim := { program := "ytkflelbpiabcpag", sum := "a9145cd4272207e644c81e53d934db10405610e159f69abaef591f249871aea3", func := "tidewheel/tidekeep.FleetEven", spec := "fleetEven", unfollowed := true, recurses := true, apart := false }
def FleetEvenSaid : Prop := fleetEvenRow.holds Try.pinned (OpenSpec.ofChange fleetEvenSpec)

/-- ITS FALSE NEIGHBOUR: 'it returns false'. Refute it at one input. -/
def fleetEvenWrong : ChangeSpec := { name := "fleetEven", fn := fun _ => fun
  | [d1, d2] => { results := [.lit (.bool false)], args := [d1, d2] }
  | _ => none }
def FleetEvenWrongFalsely : Prop := fleetEvenRow.holds Try.pinned (OpenSpec.ofChange fleetEvenWrong)

/-- 'tidekeep.BufferFates': WHATEVER THE INPUT: true; the input reads as it did. -/
def bufferFatesSpec : ChangeSpec := { name := "bufferFates", fn := fun _ => fun
  | [d] => { results := [.lit (.bool true)], args := [d] }
  | _ => none }
def bufferFatesRow : OpenClaim := { program := "ytkflelbpiabcpag", sum := "a9145cd4272207e644c81e53d934db10405610e159f69abaef591f249871aea3", func := "tidewheel/tidekeep.BufferFates", spec := "bufferFates", unfollowed := true, recurses := true, apart := false }
def BufferFatesSaid : Prop := bufferFatesRow.holds Try.pinned (OpenSpec.ofChange bufferFatesSpec)

/-- ITS FALSE NEIGHBOUR: 'it returns false'. Refute it at one input. -/
def bufferFatesWrong : ChangeSpec := { name := "bufferFates", fn := fun _ => fun
  | [d] => { results := [.lit (.bool false)], args := [d] }
  | _ => none }
def BufferFatesWrongFalsely : Prop := bufferFatesRow.holds Try.pinned (OpenSpec.ofChange bufferFatesWrong)

/- THE SECOND FORM. 'bulk': how many values and letters a reading holds, each counted each time it is reached (what is shared counts as often as it is met; a slice's spare places count too). A statement '..UptoSaid' is the law's where the arguments, and the package variables that the reading takes, are together of bulk at most 1048576: NARROWER than '..Said'. Prove '..Said' where nothing that the law and all that it calls make is longer than what came in: it says more and counts as full. Else prove '..UptoSaid'. A law counts once. -/
mutual
def uptoBulk {H : Type} : DataW H → Nat
  | .lit (.string bytes) => bytes.length + 1
  | .lit _ => 1
  | .nil => 1
  | .ptr d => uptoBulk d + 1
  | .slice elems spare => uptoBulkAll elems + uptoBulkAll spare + 1
  | .agg parts => uptoBulkAll parts + 1
  | .iface _ d => uptoBulk d + 1
  | .map entries => uptoBulkEntries entries + 1
  | .held _ => 1
def uptoBulkAll {H : Type} : List (DataW H) → Nat
  | [] => 0
  | d :: r => uptoBulk d + uptoBulkAll r
def uptoBulkEntries {H : Type} : List (Lit × DataW H) → Nat
  | [] => 0
  | x :: r => uptoBulkEntry x + uptoBulkEntries r
def uptoBulkEntry {H : Type} : Lit × DataW H → Nat
  | (.string bytes, d) => bytes.length + uptoBulk d + 1
  | (_, d) => uptoBulk d + 1
 end
def uptoSmall : (H : Type) → List (DataW H) → Bool := fun _ ds => decide (uptoBulkAll ds ≤ 1048576)
def OpenSpec.upto (s : _root_.Go.ChangeSpec) : _root_.Go.OpenSpec := { _root_.Go.OpenSpec.ofChange s with cond := some uptoSmall }

/-- 'tidekeep.StableFree', WHERE WHAT IT READS IS OF BULK AT MOST 1048576: true; the input reads as it did. -/
def stableFreeUptoRow : OpenClaim := { program := "ytkflelbpiabcpag", sum := "a9145cd4272207e644c81e53d934db10405610e159f69abaef591f249871aea3", func := "tidewheel/tidekeep.StableFree", spec := "stableFree", unfollowed := true, recurses := true, apart := false, narrowed := true }
def StableFreeUptoSaid : Prop := stableFreeUptoRow.holds Try.pinned (OpenSpec.upto stableFreeSpec)

/-- 'tidekeep.StableWindow', WHERE WHAT IT READS IS OF BULK AT MOST 1048576: true; the input reads as it did. -/
def stableWindowUptoRow : OpenClaim := { program := "ytkflelbpiabcpag", sum := "a9145cd4272207e644c81e53d934db10405610e159f69abaef591f249871aea3", func := "tidewheel/tidekeep.StableWindow", spec := "stableWindow", unfollowed := true, recurses := true, apart := false, narrowed := true }
def StableWindowUptoSaid : Prop := stableWindowUptoRow.holds Try.pinned (OpenSpec.upto stableWindowSpec)

/-- 'tidekeep.StablePace', WHERE WHAT IT READS IS OF BULK AT MOST 1048576: true; the input reads as it did. -/
def stablePaceUptoRow : OpenClaim := { program := "ytkflelbpiabcpag", sum := "a9145cd4272207e644c81e53d934db10405610e159f69abaef591f249871aea3", func := "tidewheel/tidekeep.StablePace", spec := "stablePace", unfollowed := true, recurses := true, apart := false, narrowed := true }
def StablePaceUptoSaid : Prop := stablePaceUptoRow.holds Try.pinned (OpenSpec.upto stablePaceSpec)

/-- 'tidekeep.FleetCounts', WHERE WHAT IT READS IS OF BULK AT MOST 1048576: true; the input reads as it did. -/
def fleetCountsUptoRow : OpenClaim := { program := "ytkflelbpiabcpag", sum := "a9145cd4272207e644c81e53d934db10405610e159f69abaef591f249871aea3", func := "tidewheel/tidekeep.FleetCounts", spec := "fleetCounts", unfollowed := true, recurses := true, apart := false, narrowed := true }
def FleetCountsUptoSaid : Prop := fleetCountsUptoRow.holds Try.pinned (OpenSpec.upto fleetCountsSpec)

/-- 'tidekeep.FleetEven', WHERE WHAT IT READS IS OF BULK AT MOST 1048576: true; the input reads as it did. -/
def fleetEvenUptoRow : OpenClaim := { program := "ytkflelbpiabcpag", sum := "a9145cd4272207e644c81e53d934db10405610e159f69abaef591f249871aea3", func := "tidewheel/tidekeep.FleetEven", spec := "fleetEven", unfollowed := true, recurses := true, apart := false, narrowed := true }
def FleetEvenUptoSaid : Prop := fleetEvenUptoRow.holds Try.pinned (OpenSpec.upto fleetEvenSpec)

/-- 'tidekeep.BufferFates', WHERE WHAT IT READS IS OF BULK AT MOST 1048576: true; the input reads as it did. -/
def bufferFatesUptoRow : OpenClaim := { program := "ytkflelbpiabcpag", sum := "a9145cd4272207e644c81e53d934db10405610e159f69abaef591f249871aea3", func := "tidewheel/tidekeep.BufferFates", spec := "bufferFates", unfollowed := true, recurses := true, apart := false, narrowed := true }
def BufferFatesUptoSaid : Prop := bufferFatesUptoRow.holds Try.pinned (OpenSpec.upto bufferFatesSpec)

end Rows
end Go.Proofs.Ytkflelbpiabcpag
