/- The document's way of seeking, its calls. -/
import Derived.Test.YtdigiomaggnjoabDoorRefCron
import Derived.Test.YtdigiomaggnjoabDoorRefDate
import Derived.Test.YtdigiomaggnjoabDoorChkPlain
import Derived.Test.YtdigiomaggnjoabDoorCronFaces
namespace Go.Proofs.YtdigiomaggnjoabDoor
namespace RCrn
open Go.RowKit Lai Civ Cal Crn RCiv Rst
set_option maxRecDepth 8000

/-- what seeking starts from: the day, and the clock's time in it -/
theorem seek_start (sec shift : Int) (ht : tmB sec = true) (hs : shB shift = true) : ∃ (y0 m0 d0 H M S k0 dd D0 : Int), (∀ w, Calls Tryd.prog 6 #[.int .i64 sec, .int .i64 shift] w fun e w' => e = .returned (.tuple #[civ y0 m0 d0 H M S k0, .int .i64 0]) ∧ Below w.heap.size w w') ∧
    (0 ≤ H ∧ H ≤ 23) ∧ (0 ≤ M ∧ M ≤ 59) ∧ (0 ≤ S ∧ S ≤ 59) ∧ sec - (H * 60 + M) * 60 - S = dd ∧ dd + shift * 60 = (D0 - 2180498) * 86400 ∧ (1020000 ≤ D0 ∧ D0 ≤ 3340000) ∧ minOf sec shift / 1440 = D0 := by
  have h1 := (tm_iff _).1 ht
  have h2 := (sh_iff _).1 hs
  refine ⟨_, _, _, _, _, _, _, _, _, fun w => rof_yes sec shift w ht hs, ?_, ?_, ?_, rfl, ?_, ?_, rfl⟩
  · unfold sc; omega
  · unfold sc; omega
  · unfold sc; omega
  · unfold minOf sc; omega
  · unfold minOf sc; omega
section
variable (mi ho da mn we : Int) (ad aw : Bool)
theorem seek_match (b0 : U mi) (b1 : U ho) (b2 : U da) (b3 : U mn) (b4 : U we) (D n s y : Int) (w : World) (hn : 0 ≤ n ∧ n < 1440) :
    Calls Tryd.prog 25 #[cronV mi ho da mn we ad aw, civ y (Cal.mo D) (dy D) (n / 60) (n % 60) s ((D + 6) % 7)] w fun e w' => e = .returned (.bool (mtN mi ho da mn we ad aw (D * 1440 + n))) ∧ Below w.heap.size w w' := by
  have := rmatch_any mi ho da mn we ad aw y (Cal.mo D) (dy D) (n / 60) (n % 60) s ((D + 6) % 7) w b0 b1 b2 b3 b4
  rwa [show mtB mi ho da mn we ad aw (Cal.mo D) (dy D) (n / 60) (n % 60) ((D + 6) % 7) = mtN mi ho da mn we ad aw (D * 1440 + n) by
    unfold mtN okM mtB fitN
    rw [show (D * 1440 + n) / 1440 = D by omega, show (D * 1440 + n) % 1440 = n by omega]] at this
theorem seek_full (b2 : U da) (b3 : U mn) (b4 : U we) (D n s y : Int) (w : World) (hn : 0 ≤ n ∧ n < 1440) :
    Calls Tryd.prog 25 #[cronV 1152921504606846975 16777215 da mn we ad aw, civ y (Cal.mo D) (dy D) (n / 60) (n % 60) s ((D + 6) % 7)] w fun e w' => e = .returned (.bool (fitN da mn we ad aw D)) ∧ Below w.heap.size w w' := by
  have := rmatch_any 1152921504606846975 16777215 da mn we ad aw y (Cal.mo D) (dy D) (n / 60) (n % 60) s ((D + 6) % 7) w (by unfold U; decide) (by unfold U; decide) b2 b3 b4
  rwa [show mtB 1152921504606846975 16777215 da mn we ad aw (Cal.mo D) (dy D) (n / 60) (n % 60) ((D + 6) % 7) = fitN da mn we ad aw D by
    unfold mtB fitN
    rw [show inS 16777215 (n / 60) = true by rw [show (16777215 : Int) = fHour from rfl, full_hour, decide_eq_true_eq]; omega, show inS 1152921504606846975 (n % 60) = true by rw [show (1152921504606846975 : Int) = fMin from rfl, full_min, decide_eq_true_eq]; omega]
    simp] at this
end
theorem seek_date (D : Int) (w : World) (h : 1010000 ≤ D ∧ D ≤ 3350000) : Calls Tryd.prog 15 #[.int .i64 (D - 2180498)] w fun e w' => e = .returned (.tuple #[.int .i64 (yr D), .int .i64 (Cal.mo D), .int .i64 (dy D)]) ∧ Below w.heap.size w w' := by
  have := rdate_any (D - 2180498) w (by omega) (by omega)
  rwa [show D - 2180498 + 2180498 = D by omega] at this
theorem seek_rest (D : Int) (w : World) : Calls Tryd.prog 14 #[.int .i64 (D - 2180498 + 4), .int .i64 7] w fun e w' => e = .returned (.int .i64 ((D + 6) % 7)) ∧ w' = w := by
  have := rest_any (D - 2180498 + 4) 7 w (by omega) (by omega)
  rwa [show (D - 2180498 + 4) % 7 = (D + 6) % 7 by omega] at this
theorem tdiv_ex (x q : Int) (h : x = q * 86400) : x.tdiv 86400 = q := by rw [h, Int.mul_tdiv_cancel _ (by decide)]
theorem tmod_ex (x q : Int) (h : x = q * 86400) : x.tmod 86400 = 0 := by rw [h]; exact Int.mul_tmod_left ..
end RCrn
end Go.Proofs.YtdigiomaggnjoabDoor
