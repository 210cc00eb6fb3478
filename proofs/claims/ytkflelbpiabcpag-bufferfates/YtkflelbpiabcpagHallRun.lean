
/- What the document's buffer (tideref.Hall) answers: Run. -/
import Derived.Test.YtkflelbpiabcpagHallTurn
import Derived.BigQuiet
import Derived.Deep.DeepCutAuto
namespace Go.Proofs.Ytkflelbpiabcpag
namespace Buf
open Go.RowKit Rw Rec
set_option maxRecDepth 8000

/-- does it wait ahead of a request of its source? -/
def waitsOf (s : Int) (x : Rq) : Bool := x.src == s && x.fat == 1
def okTo (L : List Rq) (r : Rq) (j : Nat) : Bool := mayRun L r && (L.take j).all (fun x => !(waitsOf r.src x))
theorem okTo_step {L : List Rq} {r x : Rq} {j : Nat} (h : L[j]? = some x) : okTo L r (j + 1) = (okTo L r j && !(waitsOf r.src x)) := by
  unfold okTo
  rw [List.take_add_one, h, List.all_append]
  simp [Bool.and_assoc]
theorem okTo_all (L : List Rq) (r : Rq) (i : Nat) : okTo L r i = runOk L i r := rfl
def RuR (L : List Rq) (r : Rq) (i : Nat) (w : World) (ok n : Value) (wr : World) : Prop := ∃ j q : Nat, j ≤ i ∧ n = .int .i64 j ∧ ok = .bool (okTo L r j) ∧ wr = w.drewN q
end Buf
end Go.Proofs.Ytkflelbpiabcpag
