
/- What Settle answers. -/
import Derived.Test.YtanlhkokghjadacStbMore
namespace Go.Proofs.Ytanlhkokghjadac
namespace Stb
open Rw Go.RowKit
set_option maxRecDepth 8000

/-- what Settle comes to -/
def SeA (B Q : Nat) (V : Nat → Value) (s : St) (now hv want : Int) (w : World) (e : Ending) (w' : World) : Prop :=
  e = .returned (.tuple #[.int .i64 (setN s now hv want), .int .i64 (setE s now hv want)]) ∧ ∃ V', SAt w' B Q V' (setS s now hv want) ∧ Step Q V V' w w'
theorem sea_no {B Q : Nat} {V : Nat → Value} {s : St} {now hv want : Int} {w : World} (hA : SAt w B Q V s) (h : ¬ (s.last ≤ now ∧ now ≤ 1099511627776 ∧ 0 ≤ hv ∧ hv ≤ 50 ∧ 0 ≤ want ∧ want ≤ 50)) : SeA B Q V s now hv want w (.returned (.tuple #[.int .i64 0, .int .i64 1])) w := by
  have ho : okArg s.last now hv want = false := by simp only [okArg, decide_eq_false_iff_not]; exact h
  refine ⟨?_, V, ?_, Step.refl _ _ _⟩
  · simp [setN, setE, ho]
  · simpa [setS, ho] using hA
theorem set_no (B Q : Nat) (V : Nat → Value) (s : St) (now hv want : Int) (w : World) (hA : SAt w B Q V s) (h : ¬ (s.last ≤ now ∧ now ≤ 1099511627776 ∧ 0 ≤ hv ∧ hv ≤ 50 ∧ 0 ≤ want ∧ want ≤ 50)) :
    Calls Try.prog 6 #[.pointer (some ⟨Q, 0, none⟩), .int .i64 now, .int .i64 hv, .int .i64 want] w (SeA B Q V s now hv want w) := by
  have HN : Hid (SeA B Q V s now hv want w (.returned (.tuple #[.int .i64 0, .int .i64 1])) w) := sea_no hA h
  have k8 := hA.num 8 (Or.inl (by decide))
  simp only [num] at k8
  have hQ := hA.lt
  have m1 := fun w => mayBe_any hv w
  have m2 := fun w => mayBe_any want w
  by_cases h1 : now < s.last
  · clear h hA
    go_enter Try.func6, Try.ntmps6
    go_wp2
    go_ret2
    exact HN.out
  · by_cases h2 : 1099511627776 < now
    · clear h hA
      go_enter Try.func6, Try.ntmps6
      go_wp2
      go_ret2
      exact HN.out
    · cases h3 : mb hv
      · rw [h3] at m1
        clear h hA
        go_enter Try.func6, Try.ntmps6
        go_wp2_with (go_at_call 11; (with_reducible refine (m1 _).mono ?_); rintro e w2 ⟨rfl, h9⟩; have h8 := h9.symm; clear h9; subst h8)
        go_ret2
        exact HN.out
      · cases h4 : mb want
        · have hne : hv ≠ want := fun e => by rw [e, h4] at h3; cases h3
          rw [h3] at m1
          rw [h4] at m2
          clear h hA
          go_enter Try.func6, Try.ntmps6
          go_wp2_with (first
            | (go_at_call 11; (with_reducible refine (m1 _).mono ?_); rintro e w2 ⟨rfl, h9⟩; have h8 := h9.symm; clear h9; subst h8)
            | (go_at_call 11; (with_reducible refine (m2 _).mono ?_); rintro e w2 ⟨rfl, h9⟩; have h8 := h9.symm; clear h9; subst h8))
          go_ret2
          exact HN.out
        · exfalso
          rw [mb_iff] at h3 h4
          exact h ⟨by omega, by omega, h3.1, h3.2, h4.1, h4.2⟩
set_option maxHeartbeats 4000000 in
theorem set_yes (B Q : Nat) (V : Nat → Value) (s : St) (now hv want : Int) (k : Nat) (w : World) (hA : SAt w B Q V s) (hF : Fit s k) (hk : k ≤ 900) (h1 : s.last ≤ now) (h2 : now ≤ 1099511627776) (h3 : 0 ≤ hv ∧ hv ≤ 50) (h4 : 0 ≤ want ∧ want ≤ 50) :
    Calls Try.prog 6 #[.pointer (some ⟨Q, 0, none⟩), .int .i64 now, .int .i64 hv, .int .i64 want] w (SeA B Q V s now hv want w) := by
  have ho : okArg s.last now hv want = true := by simp only [okArg, decide_eq_true_eq]; omega
  have hl0 := hF.last
  have k8 := hA.num 8 (Or.inl (by decide))
  simp only [num] at k8
  have hQ := hA.lt
  have f8 := hA.fz 8
  have m1 := fun w => mayBe_any hv w
  have m2 := fun w => mayBe_any want w
  rw [(mb_iff hv).2 h3] at m1
  rw [(mb_iff want).2 h4] at m2
  have hn1 : ¬ now < s.last := by omega
  have hn2 : ¬ 1099511627776 < now := by omega
  obtain ⟨hA1, hS1⟩ := hA.setLast now
  have hF1 : Fit { s with last := now } k := { hF with last := ⟨show 0 ≤ now by omega, h2⟩ }
  have hB1 : B ≤ (w.setCell ⟨Q, 8, none⟩ (.int .i64 now)).heap.size := Nat.le_trans hA1.bQ (Nat.le_of_lt hA1.lt)
  have cK := know_any B Q V { s with last := now } now want k _ hA1 hF1 (by omega) hB1 rfl
  have hF2 : Fit (know s now want) (k + 1) := hF.know ⟨by omega, h2⟩ h4
  have hF3 : Fit (forget (know s now want) now) (k + 1) := hF2.forget now
  have HF3 : Hid (Fit (forget (know s now want) now) (k + 1)) := hF3
  have HF2 : Hid (Fit (know s now want) (k + 1)) := hF2
  have HS1 : Hid (Step Q V V w (w.setCell ⟨Q, 8, none⟩ (.int .i64 now))) := hS1
  have HO : Hid (okArg s.last now hv want = true) := ho
  have h0n : 0 ≤ now := by omega
  clear hA hA1 hS1 hF hF1 hF2 hF3 ho hB1
  by_cases ha : hv < want
  · have HN : Hid (setN s now hv want = nU (forget (know s now want) now) hv want ∧ setE s now hv want = 0 ∧ setS s now hv want = more (forget (know s now want) now) now hv want) := by
      refine ⟨?_, ?_, ?_⟩
      · rw [setN, if_pos HO.out, if_pos ha]
      · rw [setE, if_pos HO.out]
      · rw [setS, if_pos HO.out, if_pos ha]
    go_enter Try.func6, Try.ntmps6
    go_wp2_with (first
      | (go_at_call 11; (with_reducible refine (m1 _).mono ?_); rintro e w2 ⟨rfl, h9⟩; have h8 := h9.symm; clear h9; subst h8)
      | (go_at_call 11; (with_reducible refine (m2 _).mono ?_); rintro e w2 ⟨rfl, h9⟩; have h8 := h9.symm; clear h9; subst h8)
      | (go_at_call 12; (with_reducible refine cK.mono ?_); rintro e w3 ⟨rfl, V3, hA3, hS3⟩; have HA3 : Hid (SAt w3 B Q V3 (know s now want)) := hA3; have HS3 : Hid (Step Q V V3 w w3) := HS1.out.trans hS3; clear hA3 hS3)
      | (go_at_call 13; (with_reducible refine (sforget_any B Q V3 (know s now want) now (k + 1) _ HA3.out HF2.out (by omega) h0n h2).mono ?_); rintro e w4 ⟨rfl, V4, hA4, hS4⟩; have HA4 : Hid (SAt w4 B Q V4 (forget (know s now want) now)) := hA4; have HS4 : Hid (Step Q V V4 w w4) := HS3.out.trans hS4; clear hA4 hS4)
      | (go_at_call 14; (with_reducible refine (more_any B Q V4 (forget (know s now want) now) now hv want (k + 1) _ HA4.out HF3.out (by omega) h3 h4).mono ?_); rintro e w5 ⟨rfl, V5, hA5, hS5⟩; have HA5 : Hid (SAt w5 B Q V5 (more (forget (know s now want) now) now hv want)) := hA5; have HS5 : Hid (Step Q V V5 w w5) := HS4.out.trans hS5; clear hA5 hS5))
    go_ret2
    exact ⟨by rw [HN.out.1, HN.out.2.1]; rfl, V5, by rw [HN.out.2.2]; exact HA5.out, HS5.out⟩
  · by_cases hb : want < hv
    · have HN : Hid (setN s now hv want = nD (forget (know s now want) now) hv want ∧ setE s now hv want = 0 ∧ setS s now hv want = fewer (forget (know s now want) now) now hv want) := by
        refine ⟨?_, ?_, ?_⟩
        · rw [setN, if_pos HO.out, if_neg ha, if_pos hb]
        · rw [setE, if_pos HO.out]
        · rw [setS, if_pos HO.out, if_neg ha, if_pos hb]
      go_enter Try.func6, Try.ntmps6
      go_wp2_with (first
        | (go_at_call 11; (with_reducible refine (m1 _).mono ?_); rintro e w2 ⟨rfl, h9⟩; have h8 := h9.symm; clear h9; subst h8)
        | (go_at_call 11; (with_reducible refine (m2 _).mono ?_); rintro e w2 ⟨rfl, h9⟩; have h8 := h9.symm; clear h9; subst h8)
        | (go_at_call 12; (with_reducible refine cK.mono ?_); rintro e w3 ⟨rfl, V3, hA3, hS3⟩; have HA3 : Hid (SAt w3 B Q V3 (know s now want)) := hA3; have HS3 : Hid (Step Q V V3 w w3) := HS1.out.trans hS3; clear hA3 hS3)
        | (go_at_call 13; (with_reducible refine (sforget_any B Q V3 (know s now want) now (k + 1) _ HA3.out HF2.out (by omega) h0n h2).mono ?_); rintro e w4 ⟨rfl, V4, hA4, hS4⟩; have HA4 : Hid (SAt w4 B Q V4 (forget (know s now want) now)) := hA4; have HS4 : Hid (Step Q V V4 w w4) := HS3.out.trans hS4; clear hA4 hS4)
        | (go_at_call 15; (with_reducible refine (fewer_any B Q V4 (forget (know s now want) now) now hv want (k + 1) _ HA4.out HF3.out (by omega) h3 h4).mono ?_); rintro e w5 ⟨rfl, V5, hA5, hS5⟩; have HA5 : Hid (SAt w5 B Q V5 (fewer (forget (know s now want) now) now hv want)) := hA5; have HS5 : Hid (Step Q V V5 w w5) := HS4.out.trans hS5; clear hA5 hS5))
      go_ret2
      exact ⟨by rw [HN.out.1, HN.out.2.1]; rfl, V5, by rw [HN.out.2.2]; exact HA5.out, HS5.out⟩
    · have HN : Hid (setN s now hv want = hv ∧ setE s now hv want = 0 ∧ setS s now hv want = forget (know s now want) now) := by
        refine ⟨?_, ?_, ?_⟩
        · rw [setN, if_pos HO.out, if_neg ha, if_neg hb]
        · rw [setE, if_pos HO.out]
        · rw [setS, if_pos HO.out, if_neg ha, if_neg hb]
      go_enter Try.func6, Try.ntmps6
      go_wp2_with (first
        | (go_at_call 11; (with_reducible refine (m1 _).mono ?_); rintro e w2 ⟨rfl, h9⟩; have h8 := h9.symm; clear h9; subst h8)
        | (go_at_call 11; (with_reducible refine (m2 _).mono ?_); rintro e w2 ⟨rfl, h9⟩; have h8 := h9.symm; clear h9; subst h8)
        | (go_at_call 12; (with_reducible refine cK.mono ?_); rintro e w3 ⟨rfl, V3, hA3, hS3⟩; have HA3 : Hid (SAt w3 B Q V3 (know s now want)) := hA3; have HS3 : Hid (Step Q V V3 w w3) := HS1.out.trans hS3; clear hA3 hS3)
        | (go_at_call 13; (with_reducible refine (sforget_any B Q V3 (know s now want) now (k + 1) _ HA3.out HF2.out (by omega) h0n h2).mono ?_); rintro e w4 ⟨rfl, V4, hA4, hS4⟩; have HA4 : Hid (SAt w4 B Q V4 (forget (know s now want) now)) := hA4; have HS4 : Hid (Step Q V V4 w w4) := HS3.out.trans hS4; clear hA4 hS4))
      go_ret2
      exact ⟨by rw [HN.out.1, HN.out.2.1]; rfl, V4, by rw [HN.out.2.2]; exact HA4.out, HS4.out⟩
theorem set_any (B Q : Nat) (V : Nat → Value) (s : St) (now hv want : Int) (k : Nat) (w : World) (hA : SAt w B Q V s) (hF : Fit s k) (hk : k ≤ 900) :
    Calls Try.prog 6 #[.pointer (some ⟨Q, 0, none⟩), .int .i64 now, .int .i64 hv, .int .i64 want] w (SeA B Q V s now hv want w) := by
  by_cases h : s.last ≤ now ∧ now ≤ 1099511627776 ∧ 0 ≤ hv ∧ hv ≤ 50 ∧ 0 ≤ want ∧ want ≤ 50
  · obtain ⟨a, b, c, d, e, f⟩ := h
    exact set_yes B Q V s now hv want k w hA hF hk a b ⟨c, d⟩ ⟨e, f⟩
  · exact set_no B Q V s now hv want w hA h
end Stb
end Go.Proofs.Ytanlhkokghjadac
