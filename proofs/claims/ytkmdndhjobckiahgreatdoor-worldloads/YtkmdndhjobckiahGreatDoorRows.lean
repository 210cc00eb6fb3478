/-
  NARROWER THAN 'FOR EVERY INPUT', by the rows' own cells (each row's printed sentence says how): WorldTicks: laid · WorldLoads: laid.
  DERIVED. THE GIVEN ROWS OF THIS SEAT. 2 by the template 'for every input the law returns true; each argument reads behind the call as it read before'; 0 by the template 'total and deterministic' (their statements: YtkmdndhjobckiahGreatDoorTotals.lean).
  GIVEN WITH THE SEED: the statements are not yours to turn. If you find one false, say at which input.
  Laid BY PROGRAM, IN A SANDBOX (cutbox-rows.mjs): the forced cells as the released guide's own fill.sh prints them over the translation 2b417da1f56e63d2… (all of the seat's roots in one cut). By AI agents, Wed Nov 11 2026. No macro, syntax, notation, axiom, sorry.
-/
import Derived.Test.YtkmdndhjobckiahGreatDoorChecked
import GoSem.Claim
import GoSem.ClaimJoined
import GoSem.ClaimMapViews
import Derived.JoinedTies
import Derived.KernelRfl
namespace Go.Proofs.YtkmdndhjobckiahGreatDoor
/- THE CELL 'sum', in the pinned program and in every row, IS THE sha256 OF THE DUMP (.gsa) THAT YtkmdndhjobckiahGreatDoorProg.lean LOADS. Nothing in Lean hashes anything: it is a label: what it is worth is what the hold of that sum in a sandbox is worth. -/
noncomputable def Tryz.pinned : Pinned := { name := "ytkmdndhjobckiahgreatdoor", sum := "2b417da1f56e63d25d2f7e732c3f7315a02505f5417e621f8bba8860935d4497", checked := Tryz.checked }
namespace Rows
def none {H : Type} : Left H := { results := [], args := [] }

/- WHAT THE LISTED PACKAGE-LEVEL VARIABLES READ AS WHEN THE CALL BEGINS. Each datum BY PROGRAM (the guide's laid-datum.mjs) off the statement by which the dump's own 'gosem.cut.vars' lays the variable. In a bare row this is a premise. The card (YtkmdndhjobckiahGreatDoorCards.lean) ties it to the program's text. -/
def laid_tidewheel_cron_bounds {H : Type} : DataW H := .agg [.agg [.lit (.int .i64 0), .lit (.int .i64 59)], .agg [.lit (.int .i64 0), .lit (.int .i64 23)], .agg [.lit (.int .i64 1), .lit (.int .i64 31)], .agg [.lit (.int .i64 1), .lit (.int .i64 12)], .agg [.lit (.int .i64 0), .lit (.int .i64 6)]]

/-- 'tidekeep.WorldTicks': WHATEVER THE INPUT: true; the input reads as it did. -/
def worldTicksSpec : ChangeSpec := { name := "worldTicks", fn := fun _ => fun
  | [d1, d2, d3, d4, d5, d6] => { results := [.lit (.bool true)], args := [d1, d2, d3, d4, d5, d6] }
  | _ => none }
def worldTicksRow : OpenClaim := { program := "ytkmdndhjobckiahgreatdoor", sum := "2b417da1f56e63d25d2f7e732c3f7315a02505f5417e621f8bba8860935d4497", func := "tidewheel/tidekeep.WorldTicks", spec := "worldTicks", unfollowed := true, recurses := true, named := ["tidewheel/cron.bounds"], apart := false, laid := [("tidewheel/cron.bounds", laid_tidewheel_cron_bounds)] }
def WorldTicksSaid : Prop := worldTicksRow.holds Tryz.pinned (OpenSpec.ofChange worldTicksSpec)

/-- ITS FALSE NEIGHBOUR: 'it returns false'. Refute it at one input. -/
def worldTicksWrong : ChangeSpec := { name := "worldTicks", fn := fun _ => fun
  | [d1, d2, d3, d4, d5, d6] => { results := [.lit (.bool false)], args := [d1, d2, d3, d4, d5, d6] }
  | _ => none }
def WorldTicksWrongFalsely : Prop := worldTicksRow.holds Tryz.pinned (OpenSpec.ofChange worldTicksWrong)

/-- 'tidekeep.WorldLoads': WHATEVER THE INPUT: true; the input reads as it did. -/
def worldLoadsSpec : ChangeSpec := { name := "worldLoads", fn := fun _ => fun
  | [d1, d2, d3, d4, d5] => { results := [.lit (.bool true)], args := [d1, d2, d3, d4, d5] }
  | _ => none }
def worldLoadsRow : OpenClaim := { program := "ytkmdndhjobckiahgreatdoor", sum := "2b417da1f56e63d25d2f7e732c3f7315a02505f5417e621f8bba8860935d4497", func := "tidewheel/tidekeep.WorldLoads", spec := "worldLoads", unfollowed := true, recurses := true, named := ["tidewheel/cron.bounds"], apart := false, laid := [("tidewheel/cron.bounds", laid_tidewheel_cron_bounds)] }
def WorldLoadsSaid : Prop := worldLoadsRow.holds Tryz.pinned (OpenSpec.ofChange worldLoadsSpec)

/-- ITS FALSE NEIGHBOUR: 'it returns false'. Refute it at one input. -/
def worldLoadsWrong : ChangeSpec := { name := "worldLoads", fn := fun _ => fun
  | [d1, d2, d3, d4, d5] => { results := [.lit (.bool false)], args := [d1, d2, d3, d4, d5] }
  | _ => none }
def WorldLoadsWrongFalsely : Prop := worldLoadsRow.holds Tryz.pinned (OpenSpec.ofChange worldLoadsWrong)

/- THE SECOND FORM. 'bulk': how many values and letters a reading holds, each counted each time it is reached (what is shared counts as often as it is met; a slice's spare places count too). A statement '..UptoSaid' is the law's where the arguments, and the package variables that the reading takes, are together of bulk at most 1048576: NARROWER than '..Said'. Prove '..Said' where nothing that the law and all that it calls make is longer than what came in: it says more and counts as full. Else prove '..UptoSaid'. A law counts once. -/
mutual
def uptoBulk {H : Type} : DataW H → Nat
  | .lit (.string bytes) => bytes.length + 1
  | .lit _ => 1
  | .nil => 1
  | .ptr d => uptoBulk d + 1
  | .slice elems spare => uptoBulkAll elems + uptoBulkAll spare + 1
  | .agg parts => uptoBulkAll parts + 1
  | .iface _ d => uptoBulk d + 1
  | .map entries => uptoBulkEntries entries + 1
  | .held _ => 1
def uptoBulkAll {H : Type} : List (DataW H) → Nat
  | [] => 0
  | d :: r => uptoBulk d + uptoBulkAll r
def uptoBulkEntries {H : Type} : List (Lit × DataW H) → Nat
  | [] => 0
  | x :: r => uptoBulkEntry x + uptoBulkEntries r
def uptoBulkEntry {H : Type} : Lit × DataW H → Nat
  | (.string bytes, d) => bytes.length + uptoBulk d + 1
  | (_, d) => uptoBulk d + 1
 end
def uptoSmall : (H : Type) → List (DataW H) → Bool := fun _ ds => decide (uptoBulkAll ds ≤ 1048576)
def OpenSpec.upto (s : _root_.Go.ChangeSpec) : _root_.Go.OpenSpec := { _root_.Go.OpenSpec.ofChange s with cond := some uptoSmall }

/-- 'tidekeep.WorldTicks', WHERE WHAT IT READS IS OF BULK AT MOST 1048576: true; the input reads as it did. -/
def worldTicksUptoRow : OpenClaim := { program := "ytkmdndhjobckiahgreatdoor", sum := "2b417da1f56e63d25d2f7e732c3f7315a02505f5417e621f8bba8860935d4497", func := "tidewheel/tidekeep.WorldTicks", spec := "worldTicks", unfollowed := true, recurses := true, named := ["tidewheel/cron.bounds"], apart := false, laid := [("tidewheel/cron.bounds", laid_tidewheel_cron_bounds)], narrowed := true }
def WorldTicksUptoSaid : Prop := worldTicksUptoRow.holds Tryz.pinned (OpenSpec.upto worldTicksSpec)

/-- 'tidekeep.WorldLoads', WHERE WHAT IT READS IS OF BULK AT MOST 1048576: true; the input reads as it did. -/
def worldLoadsUptoRow : OpenClaim := { program := "ytkmdndhjobckiahgreatdoor", sum := "2b417da1f56e63d25d2f7e732c3f7315a02505f5417e621f8bba8860935d4497", func := "tidewheel/tidekeep.WorldLoads", spec := "worldLoads", unfollowed := true, recurses := true, named := ["tidewheel/cron.bounds"], apart := false, laid := [("tidewheel/cron.bounds", laid_tidewheel_cron_bounds)], narrowed := true }
def WorldLoadsUptoSaid : Prop := worldLoadsUptoRow.holds Tryz.pinned (OpenSpec.upto worldLoadsSpec)

end Rows
end Go.Proofs.YtkmdndhjobckiahGreatDoor
