/- The first, the last minute of a day that fits. Plain mathematics. -/
import Derived.Test.YtbfnjjdgiihngaaDoorBitPlain
namespace Go.Proofs.YtbfnjjdgiihngaaDoor
namespace Crn
open Go.RowKit

/-- does the minute x of a day fit? -/
def okM (mi ho x : Int) : Bool := inS ho (x / 60) && inS mi (x % 60)
/-- a set of numbers below 64, of which none is greater than n -/
def Upto (s n : Int) : Prop := (0 ≤ s ∧ s ≤ 18446744073709551615) ∧ ∀ k, inS s k = true → k ≤ n

def mfB (mi ho h m : Int) : Bool := (frmB mi m && inS ho h) || frmB ho (h + 1)
def mf (mi ho h m : Int) : Int := if (frmB mi m && inS ho h) = true then h * 60 + frm mi m else frm ho (h + 1) * 60 + frm mi 0
def muB (mi ho h m : Int) : Bool := (uptB mi m && inS ho h) || uptB ho (h - 1)
def mu (mi ho h m : Int) : Int := if (uptB mi m && inS ho h) = true then h * 60 + upt mi m else upt ho (h - 1) * 60 + upt mi 59

theorem okM_no1 {mi ho x : Int} (h : inS ho (x / 60) = false) : okM mi ho x = false := by unfold okM; rw [h]; rfl
theorem okM_no2 {mi ho x : Int} (h : inS mi (x % 60) = false) : okM mi ho x = false := by unfold okM; rw [h, Bool.and_false]
theorem okM_yes {mi ho x : Int} (h : inS ho (x / 60) = true) (g : inS mi (x % 60) = true) : okM mi ho x = true := by unfold okM; rw [h, g]; rfl

theorem mf_yes (mi ho h m : Int) (hm : Upto mi 59) (hh : Upto ho 23) (h0 : 0 ≤ h ∧ h ≤ 23) (m0 : 0 ≤ m ∧ m ≤ 60) (hne : ∃ k, inS mi k = true) (hy : mfB mi ho h m = true) :
    h * 60 + m ≤ mf mi ho h m ∧ mf mi ho h m < 1440 ∧ okM mi ho (mf mi ho h m) = true ∧ ∀ y, h * 60 + m ≤ y → y < mf mi ho h m → okM mi ho y = false := by
  unfold mfB at hy
  unfold mf
  cases hc : (frmB mi m && inS ho h)
  · rw [hc, Bool.false_or] at hy
    rw [if_neg (by decide)]
    obtain ⟨a1, a2, a3, a4⟩ := frm_yes ho (h + 1) hh.1 (by omega) hy
    obtain ⟨k, hk⟩ := hne
    have hk0 := inS_bd hk
    obtain ⟨b1, b2, b3, b4⟩ := frm_yes mi 0 hm.1 (by omega) (frmB_mk hm.1 (by omega) hk0.1 hk)
    have c1 := hm.2 _ b3
    have c2 := hh.2 _ a3
    generalize frm ho (h + 1) = H at a1 a2 a3 a4 c2
    generalize frm mi 0 = M at b1 b2 b3 b4 c1
    refine ⟨by omega, by omega, ?_, ?_⟩
    · exact okM_yes (by rw [show (H * 60 + M) / 60 = H by omega]; exact a3) (by rw [show (H * 60 + M) % 60 = M by omega]; exact b3)
    · intro y g1 g2
      by_cases e1 : y / 60 = h
      · rw [Bool.and_eq_false_iff] at hc
        rcases hc with hc | hc
        · exact okM_no2 (frm_no mi m hm.1 m0.1 hc _ (by omega))
        · exact okM_no1 (by rw [e1]; exact hc)
      · by_cases e2 : y / 60 < H
        · exact okM_no1 (a4 _ (by omega) e2)
        · exact okM_no2 (b4 _ (by omega) (by omega))
  · rw [if_pos rfl]
    rw [Bool.and_eq_true] at hc
    obtain ⟨a1, a2, a3, a4⟩ := frm_yes mi m hm.1 m0.1 hc.1
    have c1 := hm.2 _ a3
    generalize frm mi m = M at a1 a2 a3 a4 c1
    refine ⟨by omega, by omega, ?_, ?_⟩
    · exact okM_yes (by rw [show (h * 60 + M) / 60 = h by omega]; exact hc.2) (by rw [show (h * 60 + M) % 60 = M by omega]; exact a3)
    · intro y g1 g2
      exact okM_no2 (a4 _ (by omega) (by omega))

theorem mf_no (mi ho h m : Int) (hm : Upto mi 59) (hh : Upto ho 23) (h0 : 0 ≤ h ∧ h ≤ 23) (m0 : 0 ≤ m ∧ m ≤ 60) (hy : mfB mi ho h m = false) :
    ∀ y, h * 60 + m ≤ y → okM mi ho y = false := by
  intro y g1
  unfold mfB at hy
  rw [Bool.or_eq_false_iff] at hy
  obtain ⟨hc, hy⟩ := hy
  by_cases e1 : y / 60 = h
  · rw [Bool.and_eq_false_iff] at hc
    rcases hc with hc | hc
    · exact okM_no2 (frm_no mi m hm.1 m0.1 hc _ (by omega))
    · exact okM_no1 (by rw [e1]; exact hc)
  · exact okM_no1 (frm_no ho (h + 1) hh.1 (by omega) hy _ (by omega))

theorem mu_yes (mi ho h m : Int) (hm : Upto mi 59) (hh : Upto ho 23) (h0 : 0 ≤ h ∧ h ≤ 23) (m0 : 0 ≤ m ∧ m ≤ 59) (hne : ∃ k, inS mi k = true) (hy : muB mi ho h m = true) :
    mu mi ho h m ≤ h * 60 + m ∧ 0 ≤ mu mi ho h m ∧ okM mi ho (mu mi ho h m) = true ∧ ∀ y, mu mi ho h m < y → y ≤ h * 60 + m → okM mi ho y = false := by
  unfold muB at hy
  unfold mu
  cases hc : (uptB mi m && inS ho h)
  · rw [hc, Bool.false_or] at hy
    rw [if_neg (by decide)]
    obtain ⟨a0, a1, a2, a3, a4⟩ := upt_yes ho (h - 1) hh.1 (by omega) hy
    obtain ⟨k, hk⟩ := hne
    have hk0 := inS_bd hk
    obtain ⟨b0, b1, b2, b3, b4⟩ := upt_yes mi 59 hm.1 (by omega) (uptB_mk hm.1 (by omega) (hm.2 _ hk) hk)
    have c1 := hm.2 _ b3
    have c2 := hh.2 _ a3
    generalize upt ho (h - 1) = H at a0 a1 a2 a3 a4 c2
    generalize upt mi 59 = M at b0 b1 b2 b3 b4 c1
    refine ⟨by omega, by omega, ?_, ?_⟩
    · exact okM_yes (by rw [show (H * 60 + M) / 60 = H by omega]; exact a3) (by rw [show (H * 60 + M) % 60 = M by omega]; exact b3)
    · intro y g1 g2
      by_cases e1 : y / 60 = h
      · rw [Bool.and_eq_false_iff] at hc
        rcases hc with hc | hc
        · exact okM_no2 (upt_no mi m hm.1 (by omega) hc _ (by omega))
        · exact okM_no1 (by rw [e1]; exact hc)
      · by_cases e2 : H < y / 60
        · exact okM_no1 (a4 _ e2 (by omega))
        · exact okM_no2 (b4 _ (by omega) (by omega))
  · rw [if_pos rfl]
    rw [Bool.and_eq_true] at hc
    obtain ⟨a0, a1, a2, a3, a4⟩ := upt_yes mi m hm.1 (by omega) hc.1
    have c1 := hm.2 _ a3
    generalize upt mi m = M at a0 a1 a2 a3 a4 c1
    refine ⟨by omega, by omega, ?_, ?_⟩
    · exact okM_yes (by rw [show (h * 60 + M) / 60 = h by omega]; exact hc.2) (by rw [show (h * 60 + M) % 60 = M by omega]; exact a3)
    · intro y g1 g2
      exact okM_no2 (a4 _ (by omega) (by omega))

theorem mu_no (mi ho h m : Int) (hm : Upto mi 59) (hh : Upto ho 23) (h0 : 0 ≤ h ∧ h ≤ 23) (m0 : 0 ≤ m ∧ m ≤ 59) (hy : muB mi ho h m = false) :
    ∀ y, y ≤ h * 60 + m → okM mi ho y = false := by
  intro y g1
  unfold muB at hy
  rw [Bool.or_eq_false_iff] at hy
  obtain ⟨hc, hy⟩ := hy
  by_cases e1 : y / 60 = h
  · rw [Bool.and_eq_false_iff] at hc
    rcases hc with hc | hc
    · exact okM_no2 (upt_no mi m hm.1 (by omega) hc _ (by omega))
    · exact okM_no1 (by rw [e1]; exact hc)
  · exact okM_no1 (upt_no ho (h - 1) hh.1 (by omega) hy _ (by omega))

/-- out of Check: the sets' bounds -/
theorem full_in (k : Nat) : inS 1152921504606846975 (k : Int) = decide (k ≤ 59) ∧ inS 16777215 (k : Int) = decide (k ≤ 23) ∧ inS 4294967294 (k : Int) = decide (1 ≤ k ∧ k ≤ 31) ∧ inS 8190 (k : Int) = decide (1 ≤ k ∧ k ≤ 12) ∧ inS 127 (k : Int) = decide (k ≤ 6) := by
  by_cases h : k ≤ 63
  · have : ∀ k : Nat, k < 64 → inS 1152921504606846975 (k : Int) = decide (k ≤ 59) ∧ inS 16777215 (k : Int) = decide (k ≤ 23) ∧ inS 4294967294 (k : Int) = decide (1 ≤ k ∧ k ≤ 31) ∧ inS 8190 (k : Int) = decide (1 ≤ k ∧ k ≤ 12) ∧ inS 127 (k : Int) = decide (k ≤ 6) := by decide
    exact this k (by omega)
  · have e : ∀ s, inS s (k : Int) = false := fun s => inS_big s k (by omega)
    rw [e, e, e, e, e]
    refine ⟨?_, ?_, ?_, ?_, ?_⟩ <;> (symm; rw [decide_eq_false_iff_not]; omega)
theorem ok_sub {s full : Int} {any : Bool} (hs : 0 ≤ s ∧ s ≤ 18446744073709551615) (hf : 0 ≤ full ∧ full ≤ 18446744073709551615) (h : okB s full any = true) (k : Int) (hk : inS s k = true) : inS full k = true := by
  unfold okB at h
  have h2 : bits .andNot .u64 s full = 0 := by
    by_cases g : bits .andNot .u64 s full = 0
    · exact g
    · simp [g] at h
  have := in_andNot s full k hs hf
  rw [h2, hk] at this
  cases e : inS full k
  · rw [e] at this
    have z : inS 0 k = false := by unfold inS; simp
    rw [z] at this; cases this
  · rfl
theorem ok_some {s full : Int} {any : Bool} (hs : 0 ≤ s ∧ s ≤ 18446744073709551615) (h : okB s full any = true) : ∃ k, inS s k = true := by
  have h1 : s ≠ 0 := by intro e; unfold okB at h; simp [e] at h
  have : frmB s 0 = true := by
    unfold frmB hiS; simp; omega
  exact ⟨_, (frm_yes s 0 hs (by omega) this).2.2.1⟩
theorem ok_any {s full : Int} (h : okB s full true = true) : s = full := by
  unfold okB at h
  by_cases g : s = full
  · exact g
  · simp [g] at h
end Crn
end Go.Proofs.YtbfnjjdgiihngaaDoor
