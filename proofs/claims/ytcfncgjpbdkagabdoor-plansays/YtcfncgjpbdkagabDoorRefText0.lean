/- What the document's answer (tideref) says of a cron's text: CronText. -/
import Derived.Test.YtcfncgjpbdkagabDoorTextRef
import Derived.Test.YtcfncgjpbdkagabDoorRefChk
import Derived.Test.YtcfncgjpbdkagabDoorPrintWalk
namespace Go.Proofs.YtcfncgjpbdkagabDoor
namespace RCrn
open Go.RowKit Lai Civ Cal Crn RCiv
set_option maxRecDepth 8000

theorem laid_below {mi ho da mn we : Int} {ad aw : Bool} {p q r : Nat} {w wr w' : World} (h : Laid3 mi ho da mn we ad aw p q r w wr) (hb : Below wr.heap.size wr w') (hz : w.heap.size ≤ wr.heap.size) : Laid3 mi ho da mn we ad aw p q r w w' := by
  obtain ⟨h1, h2, h3, h4, h5, h6, h7⟩ := h
  have s := hb.size
  exact ⟨by omega, by omega, by omega, fun o => ((bcell hb).1 _ _ h1).trans (h4 o), fun o => ((bcell hb).1 _ _ h2).trans (h5 o), fun o => ((bcell hb).1 _ _ h3).trans (h6 o), h7.trans (hb.mono hz)⟩
/-- the texts so far -/
def OutR (wd : Nat → List UInt8) (mi ho da mn we : Int) (ad aw : Bool) (p q r : Nat) (w : World) (out i : Value) (wr : World) : Prop := ∃ (k : Nat) (ao : Option Addr) (cv : Nat), k ≤ 5 ∧ i = .int .i64 k ∧ out = .slice ao k cv ∧ wr.ownsRow w.heap.size 9 1 out k ((List.range k).map fun j => strV (wd j)) ∧ Laid3 mi ho da mn we ad aw p q r w wr
/-- the rows so far, of one set -/
def MidR (s lo hi : Int) (W : World) (rows all n : Value) (wr : World) : Prop := ∃ (m : Int) (b : Bool) (ao : Option Addr) (cv : Nat), lo ≤ m ∧ m ≤ hi + 1 ∧ n = .int .i64 m ∧ all = .bool b ∧ (b = true ↔ ∀ j, lo ≤ j → j < m → inS s j = true) ∧ rows = .slice ao (rowsT s m.toNat).length cv ∧ wr.ownsRow W.heap.size 9 1 rows (rowsT s m.toNat).length ((rowsT s m.toNat).map strV) ∧ Below W.heap.size W wr
def LastQ (s m hi : Int) (W : World) (l : Value) (wr : World) : Prop := ∃ x : Int, l = .int .i64 x ∧ m ≤ x ∧ x ≤ hi ∧ (∀ j, m ≤ j → j ≤ x → inS s j = true) ∧ wr = W
theorem all_step {s lo m : Int} {b x : Bool} (h : b = true ↔ ∀ j, lo ≤ j → j < m → inS s j = true) (hm : lo ≤ m) (hx : inS s m = x) : (b && x) = true ↔ ∀ j, lo ≤ j → j < m + 1 → inS s j = true := by
  rw [Bool.and_eq_true, h]
  constructor
  · rintro ⟨h1, h2⟩ j g1 g2
    by_cases e : j = m
    · rw [e, hx]; exact h2
    · exact h1 j g1 (by omega)
  · intro g
    exact ⟨fun j g1 g2 => g j g1 (by omega), hx.symm.trans (g m hm (by omega))⟩
theorem rows_same {s m : Int} (hm : 0 ≤ m) (h : isSt s m = false) : rowsT s (m + 1).toNat = rowsT s m.toNat := by
  obtain ⟨M, rfl⟩ := Int.eq_ofNat_of_zero_le hm
  rw [show ((M : Int) + 1).toNat = M + 1 by omega, rowsT_step, h, Int.toNat_natCast]; simp
theorem rows_more {s m : Int} (hm : 0 ≤ m) (h : isSt s m = true) : rowsT s (m + 1).toNat = rowsT s m.toNat ++ [rowT (m, endOf s m)] := by
  obtain ⟨M, rfl⟩ := Int.eq_ofNat_of_zero_le hm
  rw [show ((M : Int) + 1).toNat = M + 1 by omega, rowsT_step, h, Int.toNat_natCast]; simp
theorem rows_zero {s lo : Int} (hlo : 0 ≤ lo) (h : ∀ n, inS s n = true → lo ≤ n) : rowsT s lo.toNat = [] := by
  unfold rowsT
  rw [rows_to (s := s) (n := 0) (by omega) hlo (fun j h1 h2 => by cases g : inS s j; rfl; have := h j g; omega)]; rfl
end RCrn
end Go.Proofs.YtcfncgjpbdkagabDoor
