
/- Does a buffer keep the order of a source? tidekeep.asked, walked. -/
import Derived.Test.YtkflelbpiabcpagBufRun
namespace Go.Proofs.Ytkflelbpiabcpag
namespace Buf
open Go.RowKit Rw Rec
set_option maxRecDepth 8000

def q1 : List Rq := [⟨1, 3, 5, 1, 0⟩]
def q2 : List Rq := [⟨1, 3, 5, 1, 0⟩, ⟨2, 3, 5, 1, 0⟩]
def q3 : List Rq := [⟨1, 3, 5, 2, 7⟩, ⟨2, 3, 5, 1, 0⟩]
theorem q1_ask : askL [] 0 3 5 = q1 ∧ askE [] 0 3 5 = 0 := by simp [askL, askE, many, q1]
theorem q2_ask : askL q1 0 3 5 = q2 ∧ askE q1 0 3 5 = 0 := by simp [askL, askE, many, q1, q2, isOf]
theorem q1_inv : Inv q1 := by rw [← q1_ask.1]; exact ask_inv Inv.nil 0 3 5
theorem q2_inv : Inv q2 := by rw [← q2_ask.1]; exact ask_inv q1_inv 0 3 5
theorem q2_next : nextN q2 = 1 ∧ nextB q2 = true := by simp [nextN, nextB, q2, mayRun, many, isOf, List.findIdx?_cons]
theorem q2_no : runL q2 2 7 = q2 ∧ runE q2 2 = 7 := by simp [runL, runE, reqAt, runOk, mayRun, many, isOf, q2]
theorem q2_run : runL q2 1 7 = q3 ∧ runE q2 1 = 0 := by simp [runL, runE, reqAt, runOk, mayRun, many, isOf, q2, q3]
theorem q3_inv : Inv q3 := by rw [← q2_run.1]; exact run_inv q2_inv 1 7
theorem q3_next : nextB q3 = false := by simp [nextB, q3, mayRun, many, isOf, List.findIdx?_cons]
theorem q3_done : doneN q3 1 = 7 ∧ doneE q3 1 = 0 := by simp [doneN, doneE, reqAt, q3]
/-- k of the two were asked -/
def AkR (w : World) (i : Value) (wr : World) : Prop :=
  ∃ (v : Value), Below w.heap.size w wr ∧ ((i = .int .i64 0 ∧ HAt wr w.heap.size w.heap.size v []) ∨ (i = .int .i64 1 ∧ HAt wr w.heap.size w.heap.size v q1) ∨ (i = .int .i64 2 ∧ HAt wr w.heap.size w.heap.size v q2))
set_option maxHeartbeats 4000000 in
theorem asked_any (w : World) : Calls Try.prog 27 #[] w fun e w' => e = .returned (.bool true) ∧ Below w.heap.size w w' := by
  have c1 := fun w => new_any w
  have cA0 := ask_any [] 0 3 5 Inv.nil
  have cA1 := ask_any q1 0 3 5 q1_inv
  rw [q1_ask.1, q1_ask.2] at cA0
  rw [q2_ask.1, q2_ask.2] at cA1
  have cN := fun B Q v w h => next_any B Q v q2 w h q2_inv
  rw [q2_next.1, q2_next.2] at cN
  have cR2 := run_any q2 2 7 q2_inv
  rw [q2_no.1, q2_no.2] at cR2
  have cR1 := run_any q2 1 7 q2_inv
  rw [q2_run.1, q2_run.2] at cR1
  have cM := fun B Q v w h => next_any B Q v q3 w h q3_inv
  rw [q3_next] at cM
  have cD := done_any q3 1 q3_inv
  rw [q3_done.1, q3_done.2] at cD
  dsimp only [Doth] at cA0 cA1 cR1 cR2 cD
  generalize askN [] 0 3 5 = N0 at *
  generalize askN q1 0 3 5 = N1 at *
  generalize nextN q3 = N3 at *
  generalize doneL q3 1 = q4 at *
  go_enter Try.func27, Try.ntmps27
  go_wp2_with (go_at_call 28; (with_reducible refine (c1 _).mono ?_); rintro e w6 ⟨rfl, hA6, hb6⟩)
  go_loopw [11] (fun i wr => AkR w i wr) (fun i _ => 2 - (intOf i).toNat)
  case atStart => exact ⟨_, hb6, Or.inl ⟨rfl, hA6⟩⟩
  case round =>
    clear hA6 hb6 c1
    obtain ⟨v, hb, hrel⟩ := hrel
    rcases hrel with ⟨rfl, hA⟩ | ⟨rfl, hA⟩ | ⟨rfl, hA⟩
    · go_wp2_with (go_at_call 29; (with_reducible refine (cA0 _ _ _ _ hA).mono ?_); rintro e w8 ⟨rfl, v8, hA8, hT8⟩; have hb8 := hb.trans (RAt.turned hA hT8))
      go_roundw
      case rel => exact ⟨v8, hb8, Or.inr (Or.inl ⟨rfl, hA8⟩)⟩
      case measure => simp [intOf]
    · go_wp2_with (go_at_call 29; (with_reducible refine (cA1 _ _ _ _ hA).mono ?_); rintro e w8 ⟨rfl, v8, hA8, hT8⟩; have hb8 := hb.trans (RAt.turned hA hT8))
      go_roundw
      case rel => exact ⟨v8, hb8, Or.inr (Or.inr ⟨rfl, hA8⟩)⟩
      case measure => simp [intOf]
    · go_wp2_with (first
        | (go_at_call 52; first | ((with_reducible refine (cN _ _ _ _ hA).mono ?_); rintro e w8 ⟨rfl, hb8⟩; have hA8 := hA.below hb8; have hbw8 := hb.trans (hb8.mono hb.size); clear hA cN) | ((with_reducible refine (cM _ _ _ _ hA10).mono ?_); rintro e w11 ⟨rfl, hb11⟩; have hA11 := hA10.below hb11; have hbw11 := hbw10.trans (hb11.mono hbw10.size)))
        | (go_at_call 31; first | ((with_reducible refine (cR2 _ _ _ _ hA8).mono ?_); rintro e w9 ⟨rfl, v9, hA9, hT9⟩; have hbw9 := hbw8.trans (RAt.turned hA8 hT9); clear cR2) | ((with_reducible refine (cR1 _ _ _ _ hA9).mono ?_); rintro e w10 ⟨rfl, v10, hA10, hT10⟩; have hbw10 := hbw9.trans (RAt.turned hA9 hT10); clear cR1))
        | (go_at_call 32; (with_reducible refine (cD _ _ _ _ hA11).mono ?_); rintro e w12 ⟨rfl, v12, hA12, hT12⟩; have hbw12 := hbw11.trans (RAt.turned hA11 hT12)))
      go_ret
      exact ⟨rfl, hbw12⟩
end Buf
end Go.Proofs.Ytkflelbpiabcpag
