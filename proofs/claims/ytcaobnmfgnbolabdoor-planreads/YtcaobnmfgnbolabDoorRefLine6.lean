/- What the document's answer (tideref) says of any line of a plan's text: planLine. -/
import Derived.Test.YtcaobnmfgnbolabDoorRefLine0
import Derived.Test.YtcaobnmfgnbolabDoorPk10
import Derived.Test.YtcaobnmfgnbolabDoorPk22
namespace Go.Proofs.YtcaobnmfgnbolabDoor
namespace Pln
open Go.RowKit Lai Civ Crn Pie
set_option maxRecDepth 8000
set_option linter.unusedVariables false

set_option maxHeartbeats 4000000 in
theorem rl_other (i : Nat) (hi : 4 ≤ i) (hi2 : i ≤ 10000) (x : List UInt8) (L B cv N Q : Nat) (w : World) (cx : w.cell? ⟨B, 0, none⟩ = some (strV x)) (hL : 1 ≤ L) (hNn : N ≤ w.heap.size) (h1 : x ≠ wLag) (h2 : x ≠ wDepth) (h3 : x ≠ wSpan) :
    Calls Tryd.prog 47 #[.pointer (some ⟨Q, 0, none⟩), .int .i64 i, .slice (some ⟨B, 0, none⟩) L cv] w fun e w' => e = .returned (.bool false) ∧ Below N w w' := by
  have n0 : ((i : Int) == 0) = false := by rw [beq_eq_false_iff_ne]; omega
  have n1 : ((i : Int) == 1) = false := by rw [beq_eq_false_iff_ne]; omega
  have n2 : ((i : Int) == 2) = false := by rw [beq_eq_false_iff_ne]; omega
  have n3 : ((i : Int) == 3) = false := by rw [beq_eq_false_iff_ne]; omega
  have e1 : (x == [108, 97, 103]) = false := by rw [beq_eq_false_iff_ne]; exact h1
  have e2 : (x == [100, 101, 112, 116, 104]) = false := by rw [beq_eq_false_iff_ne]; exact h2
  have e3 : (x == [115, 112, 97, 110]) = false := by rw [beq_eq_false_iff_ne]; exact h3
  have hBl := World.block_lt_of_cell? w _ cx
  have hBn : ¬ B = w.heap.size := by have : B < w.heap.size := hBl; omega
  clear h1 h2 h3 hi
  go_enter Tryd.func47, Tryd.ntmps47
  go_wp2
  go_ret
  exact ⟨rfl, (balloc _).mono hNn⟩
/-- the document's planLine -/
theorem rline_any {rd : List UInt8 → Option K} (hrd : RdOk rd) (i : Nat) (hi2 : i ≤ 10000) (ws : List (List UInt8)) (hne : ws ≠ []) (B cv N Q : Nat) (p : Pd) (ts : List Tr) (v : Value) (w : World) (hS : PS w 55 N Q p ts v) (hts : ts.length ≤ 10000) (hW : TxAt w B 0 ws) (hBQ : B ≠ Q) (hcv : ws.length ≤ cv) (hr : ws.length ≤ 3000) (hx : ∀ y ∈ ws, y.length ≤ 3000) :
    Calls Tryd.prog 47 #[.pointer (some ⟨Q, 0, none⟩), .int .i64 i, .slice (some ⟨B, 0, none⟩) ws.length cv] w fun e w' => LineR 55 N Q w (lineS rd i (p, ts) ws) e w' := by
  cases ws with
  | nil => exact absurd rfl hne
  | cons x r =>
    match i with
    | 0 => exact rl0 rd x r B cv N Q p ts v w hS hW hBQ hcv hr hx
    | 1 => exact rl1 rd x r B cv N Q p ts v w hS hW hBQ hcv hr hx
    | 2 => exact rl2 rd x r B cv N Q p ts v w hS hW hBQ hcv hr hx
    | 3 => exact rl3 rd x r B cv N Q p ts v w hS hW hBQ hcv hr hx
    | i + 4 =>
      have hz : lineS rd (i + 4) (p, ts) (x :: r) = (trS rd x r).map fun t => (p, ts ++ [t]) := by
        unfold lineS
        rw [if_neg (by omega), if_neg (by omega), if_neg (by omega), if_neg (by omega)]
        rfl
      rw [hz]
      have hxr : ∀ y ∈ r, y.length ≤ 3000 := fun y hy => hx y (List.mem_cons_of_mem _ hy)
      by_cases h1 : x = wLag
      · subst h1; exact rl4_lag rd (i + 4) (by omega) hi2 r B cv N Q p ts v w hS hts hW hBQ hcv hr hxr
      · by_cases h2 : x = wDepth
        · subst h2; exact rl4_depth rd (i + 4) (by omega) hi2 r B cv N Q p ts v w hS hts hW hBQ hcv hr hxr
        · by_cases h3 : x = wSpan
          · subst h3
            have e : trS rd wSpan r = spanS rd r := by unfold trS; rw [if_neg (by simp), if_neg (by simp), if_pos rfl]
            rw [e]
            rcases idx_cases rd r with ⟨hlt, hn⟩ | ⟨t, xs, ys, hrr, hE, hsp⟩
            · rw [hn]
              exact rl5_no rd hrd (i + 4) (by omega) hi2 B cv N Q p ts v w hS hts hBQ r hW hr _ rfl hlt
            · subst hrr
              have hlen : (wSpan :: t :: (xs ++ [47] :: ys)).length = xs.length + ys.length + 3 := by simp; omega
              rw [hlen] at hcv hr ⊢
              exact rl5_yes rd hrd (i + 4) (by omega) hi2 B cv N Q p ts v w hS hts hBQ t xs ys (2 + xs.length) (xs.length + ys.length + 3) (by omega) (by omega) (by omega) (by omega) hcv hr hW hx (by rw [hE]; push_cast; rfl) hsp
          · have e : trS rd x r = none := by unfold trS; rw [if_neg h1, if_neg h2, if_neg h3]
            rw [e]
            exact rl_other (i + 4) (by omega) hi2 x (r.length + 1) B cv N Q w (hW.2 0 x rfl) (by omega) hS.nN h1 h2 h3
end Pln
end Go.Proofs.YtcaobnmfgnbolabDoor
