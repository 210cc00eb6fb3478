/- What Parse tells of Print's text. -/
import Derived.Test.YtmogbileofpcfaeDoorBackCron
namespace Go.Proofs.YtmogbileofpcfaeDoor
namespace Pie
open Go.RowKit Crn Lai Civ
set_option maxRecDepth 8000

/-- a set of one number -/
theorem word_single {s : Int} {k : Nat} (hs : U s) (hk : k ≤ 59) (h : ∀ n : Int, inS s n = decide (n = (k : Int))) : wordT s false = Lib.decDigits k := by
  have h60 : ∀ n, inS s n = true → n ≤ 59 := fun n g => by rw [h, decide_eq_true_eq] at g; omega
  have hin : inS s (k : Int) = true := by rw [h]; simp
  have hno : ∀ n : Int, n ≠ k → inS s n = false := fun n g => by rw [h, decide_eq_false_iff_not]; exact g
  have r0 : rowsU s k = [] := by
    have := rows_to (s := s) (n := 0) (m := (k : Int)) (by omega) (by omega) (fun j h1 h2 => hno j (by omega))
    rw [Int.toNat_natCast] at this; rw [this]; rfl
  have hst : isSt s (k : Int) = true := by unfold isSt; rw [hin, hno _ (by omega)]; rfl
  obtain ⟨e1, e2, e3, e4, e5⟩ := end_spec hs h60 hin
  have hend : endOf s (k : Int) = k := by
    unfold endOf
    rcases Int.lt_or_le ((k : Int) + 1) (frm (ntS s) (k : Int)) with g | g
    · have := e5 (k + 1) (by omega) g
      rw [hno _ (by omega)] at this; cases this
    · omega
  have r1 : rowsU s (k + 1) = [((k : Int), (k : Int))] := by
    have e : rowsU s (k + 1) = rowsU s k ++ (if isSt s (k : Int) = true then [((k : Int), endOf s k)] else []) := rfl
    rw [e, r0, if_pos hst, hend]; rfl
  have hK : k + 1 ≤ 64 := by omega
  have e : wordT s false = Lib.join ((rowsU s 64).map rowT) [44] := by unfold wordT; rw [if_neg (by decide)]
  rw [e]
  generalize (64 : Nat) = K at hK
  have r2 : rowsU s K = rowsU s (k + 1) := by
    have := rows_to (s := s) (n := ((k + 1 : Nat) : Int)) (m := (K : Int)) (by omega) (by omega) (fun j h1 h2 => hno j (by omega))
    rwa [Int.toNat_natCast, Int.toNat_natCast] at this
  rw [r2, r1]
  rw [List.map_cons, List.map_nil, Lib.join_one]
  unfold rowT
  rw [if_pos rfl, Int.toNat_natCast]
theorem in_30 (n : Int) : inS 1073741824 n = decide (n = ((30 : Nat) : Int)) := by
  by_cases g : 0 ≤ n ∧ n ≤ 63
  · obtain ⟨k, rfl⟩ := Int.eq_ofNat_of_zero_le g.1
    have : ∀ k : Nat, k < 64 → inS 1073741824 (k : Int) = decide ((k : Int) = ((30 : Nat) : Int)) := by decide
    exact this k (by omega)
  · rw [eq_comm, show inS 1073741824 n = false by rcases (show n < 0 ∨ 63 < n by omega) with q | q; exact inS_neg _ _ q; exact inS_big _ _ q, decide_eq_false_iff_not]; omega
theorem in_6 (n : Int) : inS 64 n = decide (n = ((6 : Nat) : Int)) := by
  by_cases g : 0 ≤ n ∧ n ≤ 63
  · obtain ⟨k, rfl⟩ := Int.eq_ofNat_of_zero_le g.1
    have : ∀ k : Nat, k < 64 → inS 64 (k : Int) = decide ((k : Int) = ((6 : Nat) : Int)) := by decide
    exact this k (by omega)
  · rw [eq_comm, show inS 64 n = false by rcases (show n < 0 ∨ 63 < n by omega) with q | q; exact inS_neg _ _ q; exact inS_big _ _ q, decide_eq_false_iff_not]; omega
theorem daily_text : cronT (wds 1073741824 64 4294967294 8190 127 true true) = [51, 48, 32, 54, 32, 42, 32, 42, 32, 42] := by
  have w0 : wds 1073741824 64 4294967294 8190 127 true true 0 = wordT 1073741824 false := rfl
  have w1 : wds 1073741824 64 4294967294 8190 127 true true 1 = wordT 64 false := rfl
  have w2 : wds 1073741824 64 4294967294 8190 127 true true 2 = wordT 4294967294 true := rfl
  have w3 : wds 1073741824 64 4294967294 8190 127 true true 3 = wordT 8190 true := rfl
  have w4 : wds 1073741824 64 4294967294 8190 127 true true 4 = wordT 127 true := rfl
  have st : ∀ s, wordT s true = [42] := fun s => by unfold wordT; rw [if_pos rfl]
  unfold cronT
  rw [w0, w1, w2, w3, w4, st, st, st, word_single (k := 30) ⟨by decide, by decide⟩ (by decide) in_30, word_single (k := 6) ⟨by decide, by decide⟩ (by decide) in_6, Lib.decDigits_two (by decide) (by decide), Lib.decDigits_one (by decide), Lib.join_cons]
  simp [Lib.joinTail]
theorem words_len {mi ho da mn we : Int} {ad aw : Bool} (b0 : U mi) (b1 : U ho) (b2 : U da) (b3 : U mn) (b4 : U we) (hc : chkB mi ho da mn we ad aw = true) : ∀ j, (wds mi ho da mn we ad aw j).length ≤ 1000 := by
  unfold chkB at hc
  simp only [Bool.and_eq_true] at hc
  obtain ⟨h0, h1, h2, h3, h4⟩ := hc
  have t0 := (word_back (star := (mi == 1152921504606846975)) b0 uF0 in0 (by decide) (by decide) h0 (fun e => beq_iff_eq.1 e)).2.2.2
  have t1 := (word_back (star := (ho == 16777215)) b1 uF1 in1 (by decide) (by decide) h1 (fun e => beq_iff_eq.1 e)).2.2.2
  have t2 := (word_back (star := ad) b2 uF2 in2 (by decide) (by decide) h2 (fun e => by rw [e] at h2; exact ok_any h2)).2.2.2
  have t3 := (word_back (star := (mn == 8190)) b3 uF3 in3 (by decide) (by decide) h3 (fun e => beq_iff_eq.1 e)).2.2.2
  have t4 := (word_back (star := aw) b4 uF4 in4 (by decide) (by decide) h4 (fun e => by rw [e] at h4; exact ok_any h4)).2.2.2
  intro j
  match j with
  | 0 => show (wordT mi _).length ≤ 1000; omega
  | 1 => show (wordT ho _).length ≤ 1000; omega
  | 2 => show (wordT da _).length ≤ 1000; omega
  | 3 => show (wordT mn _).length ≤ 1000; omega
  | j + 4 => show (wordT we _).length ≤ 1000; omega
theorem print_no (mi ho da mn we : Int) (ad aw : Bool) (w : World) (hB : BdsAt w) (hc : chkB mi ho da mn we ad aw = false) :
    Calls Tryd.prog 9 #[cronV mi ho da mn we ad aw] w fun e w' => e = .returned (.tuple #[.string ⟨#[]⟩, .int .i64 1]) ∧ Below w.heap.size w w' := by
  have hB2 := fun o => hB.below (balloc o) (Nat.le_refl _)
  go_enter Tryd.func9, Tryd.ntmps9
  go_wp2_with (go_at_call 19; (with_reducible refine (check_no _ _ _ _ _ _ _ _ (hB2 _) hc).mono ?_); rintro e w1 ⟨rfl, hb1⟩)
  go_ret2
  exact ⟨rfl, (balloc _).trans (hb1.mono (by simp))⟩
/-- the text of a right cron is read as that cron -/
theorem read_back {mi ho da mn we : Int} {ad aw : Bool} (b0 : U mi) (b1 : U ho) (b2 : U da) (b3 : U mn) (b4 : U we) (hc : chkB mi ho da mn we ad aw = true) (w : World) (hB : BdsAt w) :
    Calls Tryd.prog 11 #[strV (cronT (wds mi ho da mn we ad aw))] w fun e w' => e = .returned (.tuple #[cronV mi ho da mn we ad aw, .int .i64 0]) ∧ Below w.heap.size w w' := by
  obtain ⟨h1, h2, h3⟩ := cron_back b0 b1 b2 b3 b4 hc
  refine (parse_any _ w hB).mono ?_
  rintro e w' ⟨h | h | h, hb⟩
  · exact absurd h.1 (by omega)
  · rcases h.2.1 with g | g
    · exact absurd h2 g
    · exact absurd g (right_not h1)
  · obtain ⟨_, _, v, hv, he⟩ := h
    rw [right_one hv h1] at he
    exact ⟨he, hb⟩
/-- what Parse tells of a text, told apart -/
theorem parse_case (s : List UInt8) : (∃ E : Int, (E = 2 ∨ E = 3) ∧ ∀ w, BdsAt w → Calls Tryd.prog 11 #[strV s] w fun e w' => e = .returned (.tuple #[cron0, .int .i64 E]) ∧ Below w.heap.size w w') ∨
    ∃ (mi ho da mn we : Int) (ad aw : Bool), U mi ∧ U ho ∧ U da ∧ U mn ∧ U we ∧ chkB mi ho da mn we ad aw = true ∧ ∀ w, BdsAt w → Calls Tryd.prog 11 #[strV s] w fun e w' => e = .returned (.tuple #[cronV mi ho da mn we ad aw, .int .i64 0]) ∧ Below w.heap.size w w' := by
  by_cases hl : 300 < s.length
  · refine Or.inl ⟨2, Or.inl rfl, fun w hB => (parse_any s w hB).mono ?_⟩
    rintro e w' ⟨h | h | h, hb⟩
    · exact ⟨h.2, hb⟩
    · exact absurd h.1 (by omega)
    · exact absurd h.1 (by omega)
  · by_cases hv : ∃ v, Right (pieces 32 s) v ∧ (pieces 32 s).length = 5
    · obtain ⟨v, hv, h5⟩ := hv
      obtain ⟨mi, ho, da, mn, we, ad, aw, rfl, u0, u1, u2, u3, u4, hc⟩ := right_chk hv
      refine Or.inr ⟨mi, ho, da, mn, we, ad, aw, u0, u1, u2, u3, u4, hc, fun w hB => (parse_any s w hB).mono ?_⟩
      rintro e w' ⟨h | h | h, hb⟩
      · exact absurd h.1 hl
      · rcases h.2.1 with g | g
        · exact absurd h5 g
        · exact absurd g (right_not hv)
      · obtain ⟨_, _, v', hv', he⟩ := h
        rw [right_one hv' hv] at he
        exact ⟨he, hb⟩
    · refine Or.inl ⟨3, Or.inr rfl, fun w hB => (parse_any s w hB).mono ?_⟩
      rintro e w' ⟨h | h | h, hb⟩
      · exact absurd h.1 hl
      · exact ⟨h.2.2, hb⟩
      · obtain ⟨_, h5, v', hv', _⟩ := h
        exact absurd ⟨v', hv', h5⟩ hv
theorem print_daily (w : World) (hB : BdsAt w) (hT : TabIs64 w) : Calls Tryd.prog 9 #[cronV 1073741824 64 4294967294 8190 127 true true] w fun e w' => e = .returned (.tuple #[.string ⟨#[51, 48, 32, 54, 32, 42, 32, 42, 32, 42]⟩, .int .i64 0]) ∧ Below w.heap.size w w' := by
  have u : ∀ x : Int, 0 ≤ x ∧ x ≤ 18446744073709551615 → U x := fun _ h => h
  have hc : chkB 1073741824 64 4294967294 8190 127 true true = true := by decide
  have := print_yes 1073741824 64 4294967294 8190 127 true true w hB hT (u _ (by decide)) (u _ (by decide)) (u _ (by decide)) (u _ (by decide)) (u _ (by decide)) hc (words_len (u _ (by decide)) (u _ (by decide)) (u _ (by decide)) (u _ (by decide)) (u _ (by decide)) hc)
  rw [daily_text] at this
  exact this

end Pie
end Go.Proofs.YtmogbileofpcfaeDoor
