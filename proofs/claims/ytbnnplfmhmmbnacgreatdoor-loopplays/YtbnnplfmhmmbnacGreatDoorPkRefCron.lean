/- What the document's answer (tideref) says of crons: Has, Match, sets. -/
import Derived.Test.YtbnnplfmhmmbnacGreatDoorPkNumWalks
import Derived.Test.YtbnnplfmhmmbnacGreatDoorPkCronMatch
import Derived.Test.YtbnnplfmhmmbnacGreatDoorPkCronPlain
import Derived.BigQuiet
import Derived.BigRegion
namespace Go.Proofs.YtbnnplfmhmmbnacGreatDoor
namespace RCrn
open Go.RowKit Lai Civ Cal Crn RCiv
set_option maxRecDepth 8000

theorem odd_in (s n : Int) (h0 : 0 ≤ s) (hn : 0 ≤ n ∧ n ≤ 63) : (s / 2 ^ n.toNat % 2 == 1) = inS s n := by
  obtain ⟨S, rfl⟩ := Int.eq_ofNat_of_zero_le h0
  obtain ⟨N, rfl⟩ := Int.eq_ofNat_of_zero_le hn.1
  rw [inS_nat, decide_eq_true (show N ≤ 63 by omega), Bool.true_and, Nat.testBit_eq_decide_div_mod_eq, Int.toNat_natCast]
  rw [show ((S : Int) / 2 ^ N) = ((S / 2 ^ N : Nat) : Int) by simp, Bool.eq_iff_iff]
  simp only [beq_iff_eq, decide_eq_true_eq]
  omega
theorem rhas_any (s n : Int) (w : World) (h0 : 0 ≤ s ∧ s ≤ 18446744073709551615) :
    Calls Tryz.prog 54 #[.int .u64 s, .int .i64 n] w fun e w' => e = .returned (.bool (inS s n)) ∧ w' = w := by
  by_cases g : 0 ≤ n ∧ n ≤ 63
  · have hI : inB n 0 63 = true := (in_iff _ _ _).2 g
    have HO : Hid ((s / 2 ^ n.toNat % 2 == 1) = inS s n) := odd_in s n h0.1 g
    have hq0 : 0 ≤ s / 2 ^ n.toNat := Int.ediv_nonneg h0.1 (by exact Int.le_of_lt (Int.pow_pos (by omega)))
    have c := fun w => in_any n 0 63 w
    rw [hI] at c
    clear hI
    go_enter Tryz.func54, Tryz.ntmps54
    go_wp2_with (go_at_call 9; (with_reducible refine (c _).mono ?_); rintro e w' ⟨rfl, rfl⟩)
    go_ret
    exact ⟨ret_bool HO.out, rfl⟩
  · have hI : inB n 0 63 = false := by cases h : inB n 0 63; rfl; exact absurd ((in_iff _ _ _).1 h) g
    have HO : Hid (inS s n = false) := by
      unfold Hid
      by_cases g2 : n < 0
      · exact inS_neg _ _ g2
      · exact inS_big _ _ (by omega)
    have c := fun w => in_any n 0 63 w
    rw [hI] at c
    clear hI
    go_enter Tryz.func54, Tryz.ntmps54
    go_wp2_with (go_at_call 9; (with_reducible refine (c _).mono ?_); rintro e w' ⟨rfl, rfl⟩)
    go_ret
    exact ⟨ret_bool HO.out.symm, rfl⟩

theorem rm_eq (D W H M N ad aw : Bool) : (N && ((D && W) || ((!ad && !aw) && (D || W))) && (H && M)) = (((if (!ad && !aw) = true then D || W else D && W) && M) && H && N) := by
  revert D W H M N ad aw; decide

set_option maxHeartbeats 8000000 in
theorem rmatch_any (mi ho da mo we : Int) (ad aw : Bool) (y m d h i s k : Int) (w : World) (b0 : U mi) (b1 : U ho) (b2 : U da) (b3 : U mo) (b4 : U we) :
    Calls Tryz.prog 83 #[cronV mi ho da mo we ad aw, civ y m d h i s k] w fun e w' => e = .returned (.bool (mtB mi ho da mo we ad aw m d h i k)) ∧ Below w.heap.size w w' := by
  have c1 := fun w => rhas_any da d w b2
  have c2 := fun w => rhas_any we k w b4
  have c3 := fun w => rhas_any mi i w b0
  have c4 := fun w => rhas_any ho h w b1
  have c5 := fun w => rhas_any mo m w b3
  have HR : Hid (mtB mi ho da mo we ad aw m d h i k = (((if (!ad && !aw) = true then inS da d || inS we k else inS da d && inS we k) && inS mi i) && inS ho h && inS mo m)) := rm_eq _ _ _ _ _ _ _
  generalize mtB mi ho da mo we ad aw m d h i k = R at HR
  generalize inS da d = D at c1 HR
  generalize inS we k = W at c2 HR
  generalize inS mi i = M at c3 HR
  generalize inS ho h = H at c4 HR
  generalize inS mo m = N at c5 HR
  clear b0 b1 b2 b3 b4
  cases D <;> cases W <;> cases ad <;> cases aw
  all_goals
    go_enter Tryz.func83, Tryz.ntmps83
    go_wp2
    go_quiet (first | (go_at_call 54; with_reducible refine Calls.quiet_of_same (c1 _)) | (go_at_call 54; with_reducible refine Calls.quiet_of_same (c2 _)))
    go_wp2_with (first
      | (go_at_call 54; (with_reducible refine (c3 _).mono ?_); rintro e w1 ⟨rfl, rfl⟩; cases M)
      | (go_at_call 54; (with_reducible refine (c4 _).mono ?_); rintro e w1 ⟨rfl, rfl⟩; cases H)
      | (go_at_call 54; (with_reducible refine (c5 _).mono ?_); rintro e w1 ⟨rfl, rfl⟩))
    all_goals
      go_ret
      exact ⟨ret_bool (by have h := HR.out; revert h; cases N <;> cases R <;> simp), bdrewN (((Below.refl _ _).alloc (Nat.le_refl _) _).alloc (by simp) _) _⟩

end RCrn
end Go.Proofs.YtbnnplfmhmmbnacGreatDoor
