/- What cron.Next answers. -/
import Derived.Test.YtdigiomaggnjoabDoorCronNextW
namespace Go.Proofs.YtdigiomaggnjoabDoor
namespace Crn
open Go.RowKit Lai Civ Cal
set_option maxRecDepth 8000

/-- what answer tells -/
def Ans (S : Int) (found : Bool) (n : Int) (ok : Bool) : Prop := (ok = true ∧ found = true ∧ n = S ∧ inT S = true) ∨ (ok = false ∧ n = 0 ∧ (inT S = false ∨ found = false))
theorem ans_any (day minute shift : Int) (found : Bool) (w : World) (hd : -5000000 ≤ day ∧ day ≤ 5000000) (hm : -100 ≤ minute ∧ minute ≤ 10000) (hs : shB shift = true) :
    Calls Tryd.prog 31 #[.int .i64 day, .int .i64 minute, .int .i64 shift, .bool found] w fun e w' => ∃ n ok, e = .returned (.tuple #[.int .i64 n, .bool ok, .int .i64 0]) ∧ Ans (day * 86400 + (minute - shift) * 60) found n ok ∧ Below w.heap.size w w' := by
  cases hi : inT (day * 86400 + (minute - shift) * 60)
  · exact (ans_no day minute shift found w hd hm hs (Or.inl hi)).mono fun e w' ⟨h1, h2⟩ => ⟨_, _, h1, Or.inr ⟨rfl, rfl, Or.inl hi⟩, h2⟩
  · cases found
    · exact (ans_no day minute shift false w hd hm hs (Or.inr rfl)).mono fun e w' ⟨h1, h2⟩ => ⟨_, _, h1, Or.inr ⟨rfl, rfl, Or.inr rfl⟩, h2⟩
    · exact (ans_yes day minute shift w hd hm hs hi).mono fun e w' ⟨h1, h2⟩ => ⟨_, _, h1, Or.inl ⟨rfl, rfl, rfl, hi⟩, h2⟩

theorem next_ans {mi ho da mn we : Int} {ad aw : Bool} {U shift S n : Int} {found ok : Bool} (u : Int) (hS : found = true → FirstN mi ho da mn we ad aw U u ∧ S = at60 u shift) (hN : found = false → NoneN mi ho da mn we ad aw U) (hA : Ans S found n ok) : NextIs mi ho da mn we ad aw U shift n ok := by
  rcases hA with ⟨rfl, hf, rfl, ht⟩ | ⟨rfl, rfl, h⟩
  · obtain ⟨h1, h2⟩ := hS hf
    exact Or.inl ⟨rfl, u, h2, ht, h1⟩
  · refine Or.inr ⟨rfl, rfl, ?_⟩
    cases found
    · exact Or.inl (hN rfl)
    · obtain ⟨h1, h2⟩ := hS rfl
      rcases h with h | h
      · exact Or.inr ⟨u, by rw [← h2]; exact h, h1⟩
      · cases h
theorem last_ans {mi ho da mn we : Int} {ad aw : Bool} {U shift S n : Int} {found ok : Bool} (u : Int) (hS : found = true → LastN mi ho da mn we ad aw U u ∧ S = at60 u shift) (hN : found = false → NoneL mi ho da mn we ad aw U) (hA : Ans S found n ok) : LastIs mi ho da mn we ad aw U shift n ok := by
  rcases hA with ⟨rfl, hf, rfl, ht⟩ | ⟨rfl, rfl, h⟩
  · obtain ⟨h1, h2⟩ := hS hf
    exact Or.inl ⟨rfl, u, h2, ht, h1⟩
  · refine Or.inr ⟨rfl, rfl, ?_⟩
    cases found
    · exact Or.inl (hN rfl)
    · obtain ⟨h1, h2⟩ := hS rfl
      rcases h with h | h
      · exact Or.inr ⟨u, by rw [← h2]; exact h, h1⟩
      · cases h
theorem mf_bd (mi ho h m : Int) (b0 : U mi) (b1 : U ho) (hh : 0 ≤ h ∧ h ≤ 23) (hm : 0 ≤ m ∧ m ≤ 60) : -100 ≤ mf mi ho h m ∧ mf mi ho h m ≤ 10000 := by
  have f1 := frm_bd mi m b0 hm.1
  have f2 := frm_bd ho (h + 1) b1 (by omega)
  have f3 := frm_bd mi 0 b0 (by omega)
  unfold mf; split <;> omega
theorem mu_bd (mi ho h m : Int) (b0 : U mi) (b1 : U ho) (hh : 0 ≤ h ∧ h ≤ 23) (hm : 0 ≤ m ∧ m ≤ 59) : -100 ≤ mu mi ho h m ∧ mu mi ho h m ≤ 10000 := by
  have f1 := upt_bd mi m b0 (by omega)
  have f2 := upt_bd ho (h - 1) b1 (by omega)
  have f3 := upt_bd mi 59 b0 (by omega)
  unfold mu; split <;> omega

set_option maxHeartbeats 8000000 in
theorem next_core (mi ho da mn we : Int) (ad aw : Bool) (sec shift y m d h i s k U0 : Int) (w : World) (hB : BdsAt w) (hT : TabIs64 w) (G : Good mi ho da mn we) (b0 : U mi) (b1 : U ho) (b2 : U da) (b3 : U mn) (b4 : U we)
    (cb : ∀ w, BdsAt w → Calls Tryd.prog 26 #[cronV mi ho da mn we ad aw, .int .i64 sec, .int .i64 shift] w fun e w' => e = .returned (.tuple #[civ y m d h i s k, .int .i64 0]) ∧ Below w.heap.size w w')
    (hy : -3900 ≤ y ∧ y ≤ 7900) (hm : 1 ≤ m ∧ m ≤ 12) (hd : 1 ≤ d ∧ d ≤ dim y m) (hh : 0 ≤ h ∧ h ≤ 23) (hi : 0 ≤ i ∧ i ≤ 59) (hk : k = (U0 / 1440 + 6) % 7) (hU : beg y m + d - 1 = U0 / 1440) (hU2 : U0 % 1440 = h * 60 + i) (hs : shB shift = true) :
    Calls Tryd.prog 18 #[cronV mi ho da mn we ad aw, .int .i64 sec, .int .i64 shift] w fun e w' => ∃ n ok, e = .returned (.tuple #[.int .i64 n, .bool ok, .int .i64 0]) ∧ NextIs mi ho da mn we ad aw U0 shift n ok ∧ Below w.heap.size w w' := by
  have db := dim_bd y m
  have n0 := num_bd y m d (vld_mk ⟨by omega, by omega, hm.1, hm.2, hd.1, hd.2⟩)
  have HN : Hid (num y m d = U0 / 1440 - 2180498) := by rw [num_beg y m d, hU]; rfl
  have HF : Hid (dayB da mn we ad aw m d k = fitN da mn we ad aw (U0 / 1440)) := by
    obtain ⟨_, e2, e3⟩ := date_is (n := U0 / 1440) (y := y) (m := m) (d := d) ⟨hm.1, hm.2, hd.1, hd.2⟩ (by rw [← hU]; unfold beg; omega)
    unfold fitN; rw [e2, e3, ← hk]; rfl
  have HU : Hid (U0 % 1440 = h * 60 + i) := hU2
  have HB : Hid (beg y m + d - 1 = U0 / 1440) := hU
  have kb : I k := by unfold I; omega
  have c1 := fun w => days_yes y m d w (vld_mk ⟨by omega, by omega, hm.1, hm.2, hd.1, hd.2⟩)
  have c2 := fun w hT => minFrom_any mi ho da mn we ad aw h (i + 1) w b0 b1 hh (by omega) hT
  have c3 := fun w => day_any mi ho da mn we ad aw y m d h i s k w b2 b3 b4 (by unfold I; omega) (by unfold I; omega) kb
  have c4 := fun w hT => behind_any mi ho da mn we ad aw y m d h i s k w G hT hy hm hd
  have c5 := fun w hT => minFrom_any mi ho da mn we ad aw 0 0 w b0 b1 (by omega) (by omega) hT
  have c6 := fun day minute found w hd hm => ans_any day minute shift found w hd hm hs
  have fb := mf_bd mi ho h (i + 1) b0 b1 hh (by omega)
  have fb0 := mf_bd mi ho 0 0 b0 b1 (by omega) (by omega)
  rw [mfB00 G] at c5
  have hh2 := (sh_iff _).1 hs
  clear hU hU2 hk
  cases g1 : mfB mi ho h (i + 1) <;> cases g2 : dayB da mn we ad aw m d k
  all_goals
    rw [g1] at c2; rw [g2] at c3
    have H1 : Hid (mfB mi ho h (i + 1) = _) := g1
    have H2 : Hid (fitN da mn we ad aw (U0 / 1440) = _) := (show _ = _ from HF).symm.trans g2
    clear g1 g2
    go_enter Tryd.func18, Tryd.ntmps18
    go_wp2_with (first
      | (go_at_call 26; (with_reducible refine (cb _ (hB.below (balloc _) (Nat.le_refl _))).mono ?_); rintro e w1 ⟨rfl, hb1⟩; have hT1 : TabIs64 w1 := (tabA hT).below hb1 (Nat.le_refl _); have hw1 : Hid (Below w.heap.size w w1) := (balloc _).trans (hb1.mono (by simp)); obtain ⟨hc1, hf1⟩ := bcell hb1; have hz1 : w.heap.size < w1.heap.size := (by have := hb1.size; simp at this; omega); have hz1' : w.heap.size < w1.heap.size + 1 := (by omega))
      | (go_at_call 27; (with_reducible refine (c1 _).mono ?_); rintro e w9 ⟨rfl, rfl⟩)
      | (go_at_call 32; (with_reducible refine (c2 _ (tabA hT1)).mono ?_); rintro e w2 ⟨rfl, hb2⟩; have hT2 : TabIs64 w2 := (tabA hT1).below hb2 (Nat.le_refl _); have hw2 : Hid (Below w.heap.size w w2) := bstep hw1 ((balloc _).trans (hb2.mono (by simp))); obtain ⟨hc2, hf2⟩ := bcell hb2; have hz2 : w.heap.size < w2.heap.size := (by have := hb2.size; simp at this; omega); have hy2 : w1.heap.size < w2.heap.size := (by have := hb2.size; simp at this; omega))
      | (go_at_call 29; (with_reducible refine (c3 _).mono ?_); rintro e w3 ⟨rfl, hb3⟩; have hT3 : TabIs64 w3 := hT2.below hb3 (Nat.le_refl _); have hw3 : Hid (Below w.heap.size w w3) := bstep hw2 hb3; obtain ⟨hc3, hf3⟩ := bcell hb3; have hz3 : w.heap.size < w3.heap.size := (by have := hb3.size; omega); have hy3 : w1.heap.size < w3.heap.size := (by have := hb3.size; omega))
      | (go_at_call 33; (with_reducible refine (c4 _ (by first | exact hT3 | exact hT2)).mono ?_); rintro e w4 ⟨n2, ok2, rfl, hBh, hb4⟩; have hT4 : TabIs64 w4 := (by first | exact hT3.below hb4 (Nat.le_refl _) | exact hT2.below hb4 (Nat.le_refl _)); have hw4 : Hid (Below w.heap.size w w4) := (by first | exact bstep hw3 hb4 | exact bstep hw2 hb4); have nb2 : -5000000 ≤ n2 ∧ n2 ≤ 5000000 := hBh.1; have HBh : Hid (Behind da mn we ad aw (U0 / 1440) n2 ok2) := (by have hx := hBh; rw [show beg y m + d - 1 = U0 / 1440 from HB] at hx; exact hx); clear hBh; obtain ⟨hc4, hf4⟩ := bcell hb4; have hz4 : w.heap.size < w4.heap.size := (by have := hb4.size; omega))
      | (go_at_call 32; (with_reducible refine (c5 _ hT4).mono ?_); rintro e w5 ⟨rfl, hb5⟩; have hw5 : Hid (Below w.heap.size w w5) := bstep hw4 hb5)
      | (go_at_call 31; (with_reducible refine (c6 _ _ _ _ (by omega) (by omega)).mono ?_); rintro e w6 ⟨n6, ok6, rfl, hA, hb6⟩))
    go_ret3
    refine ⟨n6, ok6, rfl, ?_, (by first | exact bstep hw5 hb6 | exact bstep hw3 hb6)⟩
    first
      | exact next_ans ((n2 + 2180498) * 1440 + mf mi ho 0 0) (fun hx => ⟨next_later G (none_today G hh hi HU (by first | exact Or.inl H2 | exact Or.inr H1)) (hx ▸ HBh), by unfold at60; omega⟩) (fun hx => next_never (none_today G hh hi HU (by first | exact Or.inl H2 | exact Or.inr H1)) (hx ▸ HBh)) hA
      | exact next_ans (U0 / 1440 * 1440 + mf mi ho h (i + 1)) (fun _ => ⟨next_today G hh hi HU H2 H1, (by have hx : num y m d = U0 / 1440 - 2180498 := HN; unfold at60; omega)⟩) (fun hx => (by cases hx)) hA
end Crn
end Go.Proofs.YtdigiomaggnjoabDoor
