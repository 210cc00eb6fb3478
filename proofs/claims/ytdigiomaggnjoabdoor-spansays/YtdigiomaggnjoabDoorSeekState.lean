/- The state of the document's way of seeking. -/
import Derived.Test.YtdigiomaggnjoabDoorSeekPlain
namespace Go.Proofs.YtdigiomaggnjoabDoor
namespace RCrn
open Go.RowKit Lai Civ Cal Crn RCiv Rst
set_option maxRecDepth 8000

/-- the cron's cells, those of the time that is looked at, the world's growth -/
def SeekW (mi ho da mn we : Int) (ad aw : Bool) (Bt : Nat) (D h m : Int) (w wr : World) : Prop := w.heap.size < Bt ∧ Bt < wr.heap.size ∧ (∀ o, wr.cell? ⟨w.heap.size, o, none⟩ = (#[Value.int .u64 mi, .int .u64 ho, .int .u64 da, .int .u64 mn, .int .u64 we, .bool ad, .bool aw])[o]?) ∧ (∀ o, wr.cell? ⟨Bt, o, none⟩ = (#[Value.int .i64 (yr D), .int .i64 (Cal.mo D), .int .i64 (dy D), .int .i64 h, .int .i64 m, .int .i64 0, .int .i64 ((D + 6) % 7)])[o]?) ∧ (∀ o, wr.frozen? ⟨Bt, o, none⟩ = false) ∧ Below w.heap.size w wr
theorem set34 {W : World} {B : Nat} {a0 a1 a2 a3 a4 a5 a6 : Value} (x y : Value) (h : ∀ o, W.cell? ⟨B, o, none⟩ = (#[a0, a1, a2, a3, a4, a5, a6])[o]?) : ∀ o, ((W.setCell ⟨B, 3, none⟩ x).setCell ⟨B, 4, none⟩ y).cell? ⟨B, o, none⟩ = (#[a0, a1, a2, x, y, a5, a6])[o]? := by
  intro o
  match o with
  | 0 => simp [go_sem, h]
  | 1 => simp [go_sem, h]
  | 2 => simp [go_sem, h]
  | 3 => simp [go_sem, h]
  | 4 => simp [go_sem, h]
  | 5 => simp [go_sem, h]
  | 6 => simp [go_sem, h]
  | n + 7 => simp [go_sem, h]
section
variable {mi ho da mn we : Int} {ad aw : Bool} {Bt : Nat} {D h m : Int} {w W : World}
theorem seekW_set (hS : SeekW mi ho da mn we ad aw Bt D h m w W) (h' m' : Int) : SeekW mi ho da mn we ad aw Bt D h' m' w ((W.setCell ⟨Bt, 3, none⟩ (.int .i64 h')).setCell ⟨Bt, 4, none⟩ (.int .i64 m')) := by
  obtain ⟨h1, h2, h3, h4, h5, h6⟩ := hS
  have b : Below Bt W ((W.setCell ⟨Bt, 3, none⟩ (.int .i64 h')).setCell ⟨Bt, 4, none⟩ (.int .i64 m')) := ((Below.refl Bt W).setCell (Nat.le_refl _) _).setCell (Nat.le_refl _) _
  refine ⟨h1, Nat.lt_of_lt_of_le h2 b.size, fun o => (b.cell (p := ⟨w.heap.size, o, none⟩) h1).trans (h3 o), set34 _ _ h4, fun o => ?_, (h6.setCell (Nat.le_of_lt h1) _).setCell (Nat.le_of_lt h1) _⟩
  simp [h5]
theorem seekW_call (hS : SeekW mi ho da mn we ad aw Bt D h m w W) {W' : World} (hb : Below W.heap.size W W') : SeekW mi ho da mn we ad aw Bt D h m w W' := by
  obtain ⟨h1, h2, h3, h4, h5, h6⟩ := hS
  exact ⟨h1, Nat.lt_of_lt_of_le h2 hb.size, fun o => (hb.cell (p := ⟨w.heap.size, o, none⟩) (Nat.lt_trans h1 h2)).trans (h3 o), fun o => (hb.cell (p := ⟨Bt, o, none⟩) h2).trans (h4 o), fun o => (hb.frozen (p := ⟨Bt, o, none⟩) h2).trans (h5 o), h6.trans (hb.mono (by omega))⟩
end
end RCrn
end Go.Proofs.YtdigiomaggnjoabDoor
