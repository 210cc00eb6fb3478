/- What cron.from and cron.upTo answer. -/
import Derived.Test.YtcaobnmfgnbolabDoorShelf
import Derived.Test.YtcaobnmfgnbolabDoorPk2
import Derived.Test.YtcaobnmfgnbolabDoorCronPlain
namespace Go.Proofs.YtcaobnmfgnbolabDoor
namespace Lai
open Go.RowKit
set_option maxRecDepth 100000
/-- the table of math/bits lies in its variable -/
def TabIs64 (w : World) : Prop := TabAt 2 Lib.deBruijn64tab w
theorem TabIs64.below {w w' : World} {n : Nat} (h : TabIs64 w) (hb : Below n w w') (hn : w.heap.size ≤ n) : TabIs64 w' := by
  intro j hj
  have := h j hj
  have hlt := cell_lt this
  rw [← this]
  exact hb.cell (Nat.lt_of_lt_of_le hlt hn)
theorem gnT : Tryd.prog.globalNamed "math/bits.deBruijn64tab" = some 2 := by kernel_rfl
theorem gtT : (Tryd.prog.globals[2]?).map (·.type) = some 177 := by kernel_rfl
theorem ce5 : Tryd.prog.cellsOf 5 = 1 := by kernel_rfl
theorem ctT : Tryd.prog.cellsOf 177 = 64 := by kernel_rfl
theorem tab_eq : Rows.laid_math_bits_deBruijn64tab (H := Unit) = Lib.tabData .u8 (Lib.deBruijn64tab.map fun n : Nat => (n : Int)) := by kernel_rfl
theorem tab_len : Lib.deBruijn64tab.length = 64 := by kernel_rfl
theorem tab64_of {w : World} (h : Lib.VarReads Tryd.prog w "math/bits.deBruijn64tab" Rows.laid_math_bits_deBruijn64tab) : TabIs64 w := by
  rw [tab_eq] at h
  obtain ⟨g, t, cs, fuel, p, hg, hty, hvar, hd⟩ := h
  obtain rfl := Option.some.inj (gnT.symm.trans hg)
  obtain rfl := Option.some.inj (gtT.symm.trans hty)
  have hcs := Lib.cells_of_tab Tryd.underlying177 Tryd.underlying5 ce5 ctT hd
  intro j hj
  rw [World.var?_cell hg hvar j, ← Array.getElem?_toList, hcs]
  simp [hj]
end Lai
namespace Crn
open Go.RowKit Lai Civ

theorem tz_any (x : Int) (w : World) (h : 0 ≤ x ∧ x ≤ 18446744073709551615) (hT : TabIs64 w) :
    Calls Tryd.prog 122 #[.int .u64 x] w fun e w' => e = .returned (.int .i64 (Lib.ctz 64 x.toNat)) ∧ w' = w := by
  obtain ⟨X, rfl⟩ := Int.eq_ofNat_of_zero_le h.1
  exact Any7.bits_TrailingZeros64 Tryd.lays729 X (by omega) w (fun _ => hT)

theorem hi_wrap (s n : Int) (h0 : 0 ≤ s ∧ s ≤ 18446744073709551615) (hn : 0 ≤ n) : IntKind.u64.wrap (s / 2 ^ n.toNat * 2 ^ n.toNat) = hiS s n ∧ (0 ≤ hiS s n ∧ hiS s n ≤ 18446744073709551615) := by
  obtain ⟨S, rfl⟩ := Int.eq_ofNat_of_zero_le h0.1
  obtain ⟨N, rfl⟩ := Int.eq_ofNat_of_zero_le hn
  have e := hiS_nat S N
  have l := hi_lt S N (by omega)
  have e2 : (S : Int) / 2 ^ (N : Int).toNat * 2 ^ (N : Int).toNat = hiS (S : Int) (N : Int) := rfl
  rw [e2, e, IntKind.wrap_u64]
  omega

theorem from_any (s n : Int) (w : World) (h0 : U s) (hn : 0 ≤ n ∧ n ≤ 64) (hT : TabIs64 w) :
    Calls Tryd.prog 102 #[.int .u64 s, .int .i64 n] w fun e w' => e = .returned (.tuple #[.int .i64 (frm s n), .bool (frmB s n)]) ∧ w' = w := by
  obtain ⟨hw, hu⟩ := hi_wrap s n h0 hn.1
  have hmin : min n.toNat 64 = n.toNat := by omega
  go_enter Tryd.func102, Tryd.ntmps102
  go_wp2_with (go_at_call 122; with_reducible refine (tz_any _ _ hu hT).mono ?_; rintro e w1 ⟨rfl, rfl⟩)
  go_ret2
  refine ⟨?_, rfl⟩
  simp only [frm, frmB]
  rw [show (hiS s n != 0) = decide (hiS s n ≠ 0) by rw [Bool.eq_iff_iff]; simp]
  rfl

theorem lo_wrap (s n : Int) (h0 : 0 ≤ s ∧ s ≤ 18446744073709551615) (hn : -1 ≤ n ∧ n ≤ 63) : bits .and .u64 s (IntKind.u64.wrap (IntKind.u64.wrap (2 ^ (n + 1).toNat) - 1)) = loS s n ∧ (0 ≤ loS s n ∧ loS s n ≤ 18446744073709551615) := by
  obtain ⟨S, rfl⟩ := Int.eq_ofNat_of_zero_le h0.1
  obtain ⟨N, hN⟩ := Int.eq_ofNat_of_zero_le (show 0 ≤ n + 1 by omega)
  obtain rfl : n = (N : Int) - 1 := by omega
  have e := loS_nat S N
  have l := lo_lt S N (by omega)
  have hp : 0 < 2 ^ N := Nat.pow_pos (by omega)
  have hq : 2 ^ N ≤ 2 ^ 64 := Nat.pow_le_pow_right (by omega) (by omega)
  have e3 : IntKind.u64.wrap (IntKind.u64.wrap (2 ^ ((N : Int) - 1 + 1).toNat) - 1) = ((2 ^ N - 1 : Nat) : Int) := by
    rw [show ((N : Int) - 1 + 1).toNat = N by omega, IntKind.wrap_u64, IntKind.wrap_u64, show (2 : Int) ^ N = ((2 ^ N : Nat) : Int) by simp]
    omega
  rw [e3, e, u64_and_nat S _ (by omega) (by omega), Nat.and_two_pow_sub_one_eq_mod]
  omega

theorem bl_le (x : Nat) (h : x < 2 ^ 64) : Lib.bitLen x ≤ 64 := by
  by_cases h0 : x = 0
  · subst h0; decide
  · have := (Nat.log2_lt h0).2 h
    rw [bl x h0 h]; omega

theorem len_any (x : Int) (w : World) (h : 0 ≤ x ∧ x ≤ 18446744073709551615) :
    Calls Tryd.prog 120 #[.int .u64 x] w fun e w' => e = .returned (.int .i64 (Lib.bitLen x.toNat)) ∧ w' = w := Any.bits_Len64 Tryd.lays129 x w h.1 h.2

theorem upto_any (s n : Int) (w : World) (h0 : U s) (hn : -1 ≤ n ∧ n ≤ 63) :
    Calls Tryd.prog 98 #[.int .u64 s, .int .i64 n] w fun e w' => e = .returned (.tuple #[.int .i64 (upt s n), .bool (uptB s n)]) ∧ w' = w := by
  obtain ⟨hw, hu⟩ := lo_wrap s n h0 hn
  have hmin : min (n + 1).toNat 64 = (n + 1).toNat := by omega
  have hbl : (Lib.bitLen (loS s n).toNat : Int) ≤ 64 := by have := bl_le (loS s n).toNat (by omega); omega
  go_enter Tryd.func98, Tryd.ntmps98
  go_wp2_with (go_at_call 120; with_reducible refine (len_any _ _ hu).mono ?_; rintro e w1 ⟨rfl, rfl⟩)
  go_ret2
  refine ⟨?_, rfl⟩
  simp only [upt, uptB]
  rw [show (loS s n != 0) = decide (loS s n ≠ 0) by rw [Bool.eq_iff_iff]; simp]
  rfl
end Crn
end Go.Proofs.YtcaobnmfgnbolabDoor
