/- A right cron's text is read back as that cron; what is read is a right cron. -/
import Derived.Test.YtcaobnmfgnbolabDoorParsePlain
import Derived.Test.YtcaobnmfgnbolabDoorPk4
import Derived.Test.YtcaobnmfgnbolabDoorParseCron
namespace Go.Proofs.YtcaobnmfgnbolabDoor
namespace Pie
open Crn Lai

theorem full_int {full lo hi : Int} {P : Nat → Prop} [DecidablePred P] (hlo : 0 ≤ lo) (h : ∀ k : Nat, inS full (k : Int) = decide (P k)) (hP : ∀ k : Nat, P k ↔ lo ≤ (k : Int) ∧ (k : Int) ≤ hi) (n : Int) : inS full n = decide (lo ≤ n ∧ n ≤ hi) := by
  by_cases g : 0 ≤ n
  · obtain ⟨k, rfl⟩ := Int.eq_ofNat_of_zero_le g
    rw [h, decide_eq_decide]; exact hP k
  · rw [inS_neg _ _ (by omega), eq_comm, decide_eq_false_iff_not]; omega
theorem in0 (n : Int) : inS fMin n = decide (0 ≤ n ∧ n ≤ 59) := full_int (P := fun k => k ≤ 59) (by omega) (fun k => (full_in k).1) (fun k => by omega) n
theorem in1 (n : Int) : inS fHour n = decide (0 ≤ n ∧ n ≤ 23) := full_int (P := fun k => k ≤ 23) (by omega) (fun k => (full_in k).2.1) (fun k => by omega) n
theorem in2 (n : Int) : inS fDay n = decide (1 ≤ n ∧ n ≤ 31) := full_int (P := fun k => 1 ≤ k ∧ k ≤ 31) (by omega) (fun k => (full_in k).2.2.1) (fun k => by omega) n
theorem in3 (n : Int) : inS fMon n = decide (1 ≤ n ∧ n ≤ 12) := full_int (P := fun k => 1 ≤ k ∧ k ≤ 12) (by omega) (fun k => (full_in k).2.2.2.1) (fun k => by omega) n
theorem in4 (n : Int) : inS fWeek n = decide (0 ≤ n ∧ n ≤ 6) := full_int (P := fun k => k ≤ 6) (by omega) (fun k => (full_in k).2.2.2.2) (fun k => by omega) n

theorem uF0 : U fMin := ⟨by decide, by decide⟩
theorem uF1 : U fHour := ⟨by decide, by decide⟩
theorem uF2 : U fDay := ⟨by decide, by decide⟩
theorem uF3 : U fMon := ⟨by decide, by decide⟩
theorem uF4 : U fWeek := ⟨by decide, by decide⟩

theorem word_back {s lo hi full : Int} {star m : Bool} (hs : U s) (hF : U full) (hf : ∀ n, inS full n = decide (lo ≤ n ∧ n ≤ hi)) (hl : lo ≤ hi) (h59 : hi ≤ 59) (hok : okB s full m = true) (hst : star = true → s = full) :
    (∃ l, wordS lo hi (pieces 44 (wordT s star)) = some l ∧ SetIs l s) ∧ (32 : UInt8) ∉ wordT s star ∧ (wordT s star == [42]) = star ∧ ((wordT s star).length : Int) ≤ 2 * (hi + 2 - lo) := by
  have hsub : ∀ n, inS s n = true → lo ≤ n ∧ n ≤ hi := fun n h => by
    have := ok_sub hs hF hok n h
    rw [hf, decide_eq_true_eq] at this; exact this
  cases star
  · have e : wordT s false = Lib.join ((rowsU s 64).map rowT) [44] := by unfold wordT; rw [if_neg (by decide)]
    rw [e]
    have hK : (60 : Nat) ≤ 64 := by decide
    generalize (64 : Nat) = K at hK
    obtain ⟨h1, h2, h3, h4, h5⟩ := rows_read hs hsub h59 hK (ok_some hs hok)
    exact ⟨⟨_, by rw [h1]; exact h2, h3⟩, h4, beq_eq_false_iff_ne.2 h5, word_short hs hsub h59 hl K⟩
  · have e : wordT s true = [42] := by unfold wordT; rw [if_pos rfl]
    rw [e]
    exact ⟨⟨_, star_word, (full_one hF hf).2 (hst rfl)⟩, by decide, rfl, by simp; omega⟩

theorem cron_back {mi ho da mn we : Int} {ad aw : Bool} (b0 : U mi) (b1 : U ho) (b2 : U da) (b3 : U mn) (b4 : U we) (hc : chkB mi ho da mn we ad aw = true) :
    Right (pieces 32 (cronT (wds mi ho da mn we ad aw))) (cronV mi ho da mn we ad aw) ∧ (pieces 32 (cronT (wds mi ho da mn we ad aw))).length = 5 ∧ (cronT (wds mi ho da mn we ad aw)).length ≤ 300 := by
  unfold chkB at hc
  simp only [Bool.and_eq_true] at hc
  obtain ⟨h0, h1, h2, h3, h4⟩ := hc
  obtain ⟨⟨l0, p0, q0⟩, r0, s0, t0⟩ := word_back (star := (mi == 1152921504606846975)) b0 uF0 in0 (by decide) (by decide) h0 (fun e => beq_iff_eq.1 e)
  obtain ⟨⟨l1, p1, q1⟩, r1, s1, t1⟩ := word_back (star := (ho == 16777215)) b1 uF1 in1 (by decide) (by decide) h1 (fun e => beq_iff_eq.1 e)
  obtain ⟨⟨l2, p2, q2⟩, r2, s2, t2⟩ := word_back (star := ad) b2 uF2 in2 (by decide) (by decide) h2 (fun e => by rw [e] at h2; exact ok_any h2)
  obtain ⟨⟨l3, p3, q3⟩, r3, s3, t3⟩ := word_back (star := (mn == 8190)) b3 uF3 in3 (by decide) (by decide) h3 (fun e => beq_iff_eq.1 e)
  obtain ⟨⟨l4, p4, q4⟩, r4, s4, t4⟩ := word_back (star := aw) b4 uF4 in4 (by decide) (by decide) h4 (fun e => by rw [e] at h4; exact ok_any h4)
  have w0 : wds mi ho da mn we ad aw 0 = wordT mi (mi == 1152921504606846975) := rfl
  have w1 : wds mi ho da mn we ad aw 1 = wordT ho (ho == 16777215) := rfl
  have w2 : wds mi ho da mn we ad aw 2 = wordT da ad := rfl
  have w3 : wds mi ho da mn we ad aw 3 = wordT mn (mn == 8190) := rfl
  have w4 : wds mi ho da mn we ad aw 4 = wordT we aw := rfl
  unfold cronT
  rw [w0, w1, w2, w3, w4]
  generalize wordT mi (mi == 1152921504606846975) = x0 at *
  generalize wordT ho (ho == 16777215) = x1 at *
  generalize wordT da ad = x2 at *
  generalize wordT mn (mn == 8190) = x3 at *
  generalize wordT we aw = x4 at *
  have hp : pieces 32 (Lib.join [x0, x1, x2, x3, x4] [32]) = [x0, x1, x2, x3, x4] := pieces_join 32 x0 [x1, x2, x3, x4] (fun y hy => by
    simp only [List.mem_cons, List.not_mem_nil, or_false] at hy
    rcases hy with rfl | rfl | rfl | rfl | rfl <;> assumption)
  rw [hp]
  refine ⟨⟨fun i => match i with | 0 => mi | 1 => ho | 2 => da | 3 => mn | _ => we, fun i => match i with | 0 => l0 | 1 => l1 | 2 => l2 | 3 => l3 | _ => l4, fun i hi => ?_, ?_⟩, rfl, ?_⟩
  · have : i = 0 ∨ i = 1 ∨ i = 2 ∨ i = 3 ∨ i = 4 := by omega
    rcases this with rfl | rfl | rfl | rfl | rfl
    · exact ⟨p0, q0⟩
    · exact ⟨p1, q1⟩
    · exact ⟨p2, q2⟩
    · exact ⟨p3, q3⟩
    · exact ⟨p4, q4⟩
  · show cronV mi ho da mn we ad aw = cronV mi ho da mn we (x2 == [42]) (x4 == [42])
    rw [s2, s4]
  · have e : Lib.join [x0, x1, x2, x3, x4] [32] = x0 ++ 32 :: (x1 ++ 32 :: (x2 ++ 32 :: (x3 ++ 32 :: x4))) := by
      rw [Lib.join_cons]; simp [Lib.joinTail]
    rw [e]
    simp only [List.length_append, List.length_cons]
    omega
theorem right_chk {ps : List (List UInt8)} {v : Value} (h : Right ps v) : ∃ (mi ho da mn we : Int) (ad aw : Bool), v = cronV mi ho da mn we ad aw ∧ U mi ∧ U ho ∧ U da ∧ U mn ∧ U we ∧ chkB mi ho da mn we ad aw = true := by
  obtain ⟨u, l, h1, rfl⟩ := h
  refine ⟨u 0, u 1, u 2, u 3, u 4, _, _, rfl, (h1 0 (by decide)).2.1, (h1 1 (by decide)).2.1, (h1 2 (by decide)).2.1, (h1 3 (by decide)).2.1, (h1 4 (by decide)).2.1, ?_⟩
  have nof : ∀ t : List UInt8, (false : Bool) = true → t = [42] := fun t h => by cases h
  unfold chkB
  simp only [Bool.and_eq_true]
  exact ⟨ok_read (lo := 0) (hi := 59) uF0 in0 (by decide) (h1 0 (by decide)).1 (h1 0 (by decide)).2 (nof _), ok_read (lo := 0) (hi := 23) uF1 in1 (by decide) (h1 1 (by decide)).1 (h1 1 (by decide)).2 (nof _), ok_read (lo := 1) (hi := 31) uF2 in2 (by decide) (h1 2 (by decide)).1 (h1 2 (by decide)).2 (fun e => beq_iff_eq.1 e), ok_read (lo := 1) (hi := 12) uF3 in3 (by decide) (h1 3 (by decide)).1 (h1 3 (by decide)).2 (nof _), ok_read (lo := 0) (hi := 6) uF4 in4 (by decide) (h1 4 (by decide)).1 (h1 4 (by decide)).2 (fun e => beq_iff_eq.1 e)⟩
end Pie
end Go.Proofs.YtcaobnmfgnbolabDoor
