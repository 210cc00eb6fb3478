
/- What the functions of package need answer: sums and counts of lags, the METRIC, the tolerance. -/
import Derived.Test.YtcaobnmfgnbolafDoorNumWalks
import Derived.Test.YtcaobnmfgnbolafDoorNeedPlain
import Derived.Test.YtcaobnmfgnbolafDoorNeedTr
namespace Go.Proofs.YtcaobnmfgnbolafDoor
namespace Ned
open Go.RowKit Plain Num Pln Civ Crn Lai
set_option maxRecDepth 8000

/-- a slice of numbers, as it lies -/
def IntsAt (w : World) (a : Option Addr) (len : Nat) (X : Nat → Int) : Prop :=
  ∀ i, i < len → ∃ b off, a = some ⟨b, off, none⟩ ∧ b < w.heap.size ∧ w.cell? ⟨b, off + i, none⟩ = some (.int .i64 (X i)) ∧ -9223372036854775808 ≤ X i ∧ X i ≤ 9223372036854775807
theorem IntsAt.below {w w' : World} {a : Option Addr} {len n : Nat} {X : Nat → Int} (h : IntsAt w a len X) (hb : Below n w w') (hn : w.heap.size ≤ n) : IntsAt w' a len X := by
  intro i hi
  obtain ⟨b, off, rfl, hlt, hc, hx⟩ := h i hi
  refine ⟨b, off, rfl, Nat.lt_of_lt_of_le hlt hb.size, ?_, hx⟩
  rw [← hc]
  exact hb.cell (Nat.lt_of_lt_of_le hlt hn)
theorem max_atz (n : Int) : max n 0 = atz n := by unfold atz; split <;> omega
/-- k lags are summed -/
def SmR (X : Nat → Int) (len : Nat) (w : World) (s i : Value) (wr : World) : Prop := ∃ k : Nat, k ≤ len ∧ s = .int .i64 (sumF X k) ∧ i = .int .i64 k ∧ wr = w
def CnR (X : Nat → Int) (len : Nat) (w : World) (s i : Value) (wr : World) : Prop := ∃ k : Nat, k ≤ len ∧ s = .int .i64 (cntF X k : Int) ∧ i = .int .i64 k ∧ wr = w

set_option maxHeartbeats 2000000 in
theorem sum_any (a : Option Addr) (len cap : Nat) (X : Nat → Int) (w : World) (hm : len ≤ maxLen) (hX : IntsAt w a len X) :
    Calls Tryd.prog 56 #[.slice a len cap] w fun e w' => e = .returned (.int .i64 (sumF X len)) ∧ w' = w := by
  have ca := fun x y w => add_any x y w
  unfold maxLen at hm
  go_enter Tryd.func56, Tryd.ntmps56
  go_wp2
  go_loopw [3, 8] (fun s i wr => SmR X len w s i wr) (fun _ i _ => len - (intOf i).toNat)
  case atStart => exact ⟨0, by omega, rfl, rfl, rfl⟩
  case round =>
    obtain ⟨k, hk, rfl, rfl, hwr⟩ := hrel
    have h8 := hwr.symm
    clear hwr
    subst h8
    by_cases hlt : k < len
    · have hlt' : (k : Int) < len := by omega
      obtain ⟨b, off, rfl, hbl, cX, bX⟩ := hX k hlt
      have ea : max (X k) 0 = atz (X k) := max_atz _
      have es : clip (clip (sumF X k) + clip (atz (X k))) = sumF X (k + 1) := rfl
      go_wp2_with (go_at_call 13; (with_reducible refine (ca _ _ _).mono ?_); rintro e w1 ⟨rfl, h9⟩; have h8 := h9.symm; clear h9; subst h8)
      go_roundw
      case rel => exact ⟨k + 1, by omega, rfl, rfl, rfl⟩
      case measure => simp [intOf]; omega
    · obtain rfl : k = len := by omega
      go_wp2
      go_ret
      exact ⟨rfl, rfl⟩
set_option maxHeartbeats 2000000 in
theorem cnt_any (a : Option Addr) (len cap : Nat) (X : Nat → Int) (w : World) (hm : len ≤ maxLen) (hX : IntsAt w a len X) :
    Calls Tryd.prog 52 #[.slice a len cap] w fun e w' => e = .returned (.int .i64 (cntF X len : Int)) ∧ w' = w := by
  unfold maxLen at hm
  go_enter Tryd.func52, Tryd.ntmps52
  go_wp2
  go_loopw [3, 8] (fun s i wr => CnR X len w s i wr) (fun _ i _ => len - (intOf i).toNat)
  case atStart => exact ⟨0, by omega, rfl, rfl, rfl⟩
  case round =>
    obtain ⟨k, hk, rfl, rfl, hwr⟩ := hrel
    have h8 := hwr.symm
    clear hwr
    subst h8
    by_cases hlt : k < len
    · have hlt' : (k : Int) < len := by omega
      obtain ⟨b, off, rfl, hbl, cX, bX⟩ := hX k hlt
      have hc := cntF_le X k
      have hs : cntF X (k + 1) = if 0 < X k then cntF X k + 1 else cntF X k := rfl
      by_cases hp : 0 < X k
      · rw [if_pos hp] at hs
        have HS : Hid (cntF X (k + 1) = cntF X k + 1) := hs
        clear hs
        go_wp2
        go_roundw
        case rel => exact ⟨k + 1, by omega, by rw [HS.out]; rfl, rfl, rfl⟩
        case measure => simp [intOf]; omega
      · rw [if_neg hp] at hs
        have HS : Hid (cntF X (k + 1) = cntF X k) := hs
        clear hs
        go_wp2
        go_roundw
        case rel => exact ⟨k + 1, by omega, by rw [HS.out], rfl, rfl⟩
        case measure => simp [intOf]; omega
    · obtain rfl : k = len := by omega
      go_wp2
      go_ret
      exact ⟨rfl, rfl⟩
end Ned
end Go.Proofs.YtcaobnmfgnbolafDoor
