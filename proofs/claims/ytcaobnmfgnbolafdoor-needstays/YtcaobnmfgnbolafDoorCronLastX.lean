
/- What cron.Last answers. -/
import Derived.Test.YtcaobnmfgnbolafDoorCronNextX
namespace Go.Proofs.YtcaobnmfgnbolafDoor
namespace Crn
open Go.RowKit Lai Civ Cal
set_option maxRecDepth 8000

set_option maxHeartbeats 8000000 in
theorem last_core (mi ho da mn we : Int) (ad aw : Bool) (sec shift y m d h i s k U0 : Int) (w : World) (hB : BdsAt w) (G : Good mi ho da mn we) (b0 : U mi) (b1 : U ho) (b2 : U da) (b3 : U mn) (b4 : U we)
    (cb : ∀ w, BdsAt w → Calls Tryd.prog 69 #[cronV mi ho da mn we ad aw, .int .i64 sec, .int .i64 shift] w fun e w' => e = .returned (.tuple #[civ y m d h i s k, .int .i64 0]) ∧ Below w.heap.size w w')
    (hy : -3900 ≤ y ∧ y ≤ 7900) (hm : 1 ≤ m ∧ m ≤ 12) (hd : 1 ≤ d ∧ d ≤ dim y m) (hh : 0 ≤ h ∧ h ≤ 23) (hi : 0 ≤ i ∧ i ≤ 59) (hk : k = (U0 / 1440 + 6) % 7) (hU : beg y m + d - 1 = U0 / 1440) (hU2 : U0 % 1440 = h * 60 + i) (hs : shB shift = true) :
    Calls Tryd.prog 54 #[cronV mi ho da mn we ad aw, .int .i64 sec, .int .i64 shift] w fun e w' => ∃ n ok, e = .returned (.tuple #[.int .i64 n, .bool ok, .int .i64 0]) ∧ LastIs mi ho da mn we ad aw U0 shift n ok ∧ Below w.heap.size w w' := by
  have db := dim_bd y m
  have n0 := num_bd y m d (vld_mk ⟨by omega, by omega, hm.1, hm.2, hd.1, hd.2⟩)
  have HN : Hid (num y m d = U0 / 1440 - 2180498) := by rw [num_beg y m d, hU]; rfl
  have HF : Hid (dayB da mn we ad aw m d k = fitN da mn we ad aw (U0 / 1440)) := by
    obtain ⟨_, e2, e3⟩ := date_is (n := U0 / 1440) (y := y) (m := m) (d := d) ⟨hm.1, hm.2, hd.1, hd.2⟩ (by rw [← hU]; unfold beg; omega)
    unfold fitN; rw [e2, e3, ← hk]; rfl
  have HU : Hid (U0 % 1440 = h * 60 + i) := hU2
  have HB : Hid (beg y m + d - 1 = U0 / 1440) := hU
  have kb : I k := by unfold I; omega
  have c1 := fun w => days_yes y m d w (vld_mk ⟨by omega, by omega, hm.1, hm.2, hd.1, hd.2⟩)
  have c2 := fun w => minUpTo_any mi ho da mn we ad aw h i w b0 b1 hh hi
  have c3 := fun w => day_any mi ho da mn we ad aw y m d h i s k w b2 b3 b4 (by unfold I; omega) (by unfold I; omega) kb
  have c4 := fun w => ahead_any mi ho da mn we ad aw y m d h i s k w G hy hm hd
  have c5 := fun w => minUpTo_any mi ho da mn we ad aw 23 59 w b0 b1 (by omega) (by omega)
  have c6 := fun day minute found w hd hm => ans_any day minute shift found w hd hm hs
  have fb := mu_bd mi ho h i b0 b1 hh hi
  have fb0 := mu_bd mi ho 23 59 b0 b1 (by omega) (by omega)
  rw [muB00 G] at c5
  have hh2 := (sh_iff _).1 hs
  clear hU hU2 hk
  cases g1 : muB mi ho h i <;> cases g2 : dayB da mn we ad aw m d k
  all_goals
    rw [g1] at c2; rw [g2] at c3
    have H1 : Hid (muB mi ho h i = _) := g1
    have H2 : Hid (fitN da mn we ad aw (U0 / 1440) = _) := (show _ = _ from HF).symm.trans g2
    clear g1 g2
    go_enter Tryd.func54, Tryd.ntmps54
    go_wp2_with (first
      | (go_at_call 69; (with_reducible refine (cb _ (hB.below (balloc _) (Nat.le_refl _))).mono ?_); rintro e w1 ⟨rfl, hb1⟩; have hw1 : Hid (Below w.heap.size w w1) := (balloc _).trans (hb1.mono (by simp)); obtain ⟨hc1, hf1⟩ := bcell hb1; have hz1 : w.heap.size < w1.heap.size := (by have := hb1.size; simp at this; omega); have hz1' : w.heap.size < w1.heap.size + 1 := (by omega))
      | (go_at_call 70; (with_reducible refine (c1 _).mono ?_); rintro e w9 ⟨rfl, rfl⟩)
      | (go_at_call 71; (with_reducible refine (c2 _).mono ?_); rintro e w2 ⟨rfl, hb2⟩; have hw2 : Hid (Below w.heap.size w w2) := bstep hw1 ((balloc _).trans (hb2.mono (by simp))); obtain ⟨hc2, hf2⟩ := bcell hb2; have hz2 : w.heap.size < w2.heap.size := (by have := hb2.size; simp at this; omega); have hy2 : w1.heap.size < w2.heap.size := (by have := hb2.size; simp at this; omega))
      | (go_at_call 72; (with_reducible refine (c3 _).mono ?_); rintro e w3 ⟨rfl, hb3⟩; have hw3 : Hid (Below w.heap.size w w3) := bstep hw2 hb3; obtain ⟨hc3, hf3⟩ := bcell hb3; have hz3 : w.heap.size < w3.heap.size := (by have := hb3.size; omega); have hy3 : w1.heap.size < w3.heap.size := (by have := hb3.size; omega))
      | (go_at_call 73; (with_reducible refine (c4 _).mono ?_); rintro e w4 ⟨n2, ok2, rfl, hBh, hb4⟩; have hw4 : Hid (Below w.heap.size w w4) := (by first | exact bstep hw3 hb4 | exact bstep hw2 hb4); have nb2 : -5000000 ≤ n2 ∧ n2 ≤ 5000000 := hBh.1; have HBh : Hid (Ahead da mn we ad aw (U0 / 1440) n2 ok2) := (by have hx := hBh; rw [show beg y m + d - 1 = U0 / 1440 from HB] at hx; exact hx); clear hBh; obtain ⟨hc4, hf4⟩ := bcell hb4; have hz4 : w.heap.size < w4.heap.size := (by have := hb4.size; omega))
      | (go_at_call 71; (with_reducible refine (c5 _).mono ?_); rintro e w5 ⟨rfl, hb5⟩; have hw5 : Hid (Below w.heap.size w w5) := bstep hw4 hb5)
      | (go_at_call 74; (with_reducible refine (c6 _ _ _ _ (by omega) (by omega)).mono ?_); rintro e w6 ⟨n6, ok6, rfl, hA, hb6⟩))
    go_ret3
    refine ⟨n6, ok6, rfl, ?_, (by first | exact bstep hw5 hb6 | exact bstep hw3 hb6)⟩
    first
      | exact last_ans ((n2 + 2180498) * 1440 + mu mi ho 23 59) (fun hx => ⟨last_ahead G (none_before G hh hi HU (by first | exact Or.inl H2 | exact Or.inr H1)) (hx ▸ HBh), by unfold at60; omega⟩) (fun hx => last_never (none_before G hh hi HU (by first | exact Or.inl H2 | exact Or.inr H1)) (hx ▸ HBh)) hA
      | exact last_ans (U0 / 1440 * 1440 + mu mi ho h i) (fun _ => ⟨last_today G hh hi HU H2 H1, (by have hx : num y m d = U0 / 1440 - 2180498 := HN; unfold at60; omega)⟩) (fun hx => (by cases hx)) hA
end Crn
end Go.Proofs.YtcaobnmfgnbolafDoor
