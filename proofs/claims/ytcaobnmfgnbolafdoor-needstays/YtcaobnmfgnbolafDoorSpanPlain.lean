
/- Spans: a cron that has a time at all has one in any 3000 days; where a span turns, and where it doesn't. Plain mathematics. -/
import Derived.Test.YtcaobnmfgnbolafDoorCronPlain
namespace Go.Proofs.YtcaobnmfgnbolafDoor
namespace Crn
open Go.RowKit Cal

theorem leap_near (y : Int) : ∃ z, y - 7 ≤ z ∧ z ≤ y ∧ lp z = 1 := by
  by_cases h : (y - y % 4) % 100 = 0
  · refine ⟨y - y % 4 - 4, by omega, by omega, ?_⟩
    unfold lp; rw [if_pos ⟨by omega, Or.inl (by omega)⟩]
  · refine ⟨y - y % 4, by omega, by omega, ?_⟩
    unfold lp; rw [if_pos ⟨by omega, Or.inl h⟩]

/-- a date (month and day) that some year has is come by in any 3000 days -/
theorem date_again (m d y0 D : Int) (hm : 1 ≤ m ∧ m ≤ 12) (hd : 1 ≤ d ∧ d ≤ dim y0 m) : ∃ x, D - 2999 ≤ x ∧ x ≤ D ∧ mo x = m ∧ dy x = d := by
  obtain ⟨s1, s2⟩ := yr_spec D
  generalize yr D = y at s1 s2
  by_cases h29 : m = 2 ∧ d = 29
  · obtain ⟨rfl, rfl⟩ := h29
    have hc : ∀ z, cum z 2 = 31 := fun z => by simp [cum]
    have hdm : ∀ z, lp z = 1 → (29 : Int) ≤ dim z 2 := fun z hz => by unfold dim; rw [if_pos rfl, hz]; omega
    have fin : ∀ z, lp z = 1 → ys z + 59 ≤ D → D - 2999 ≤ ys z + 59 → ∃ x, D - 2999 ≤ x ∧ x ≤ D ∧ mo x = 2 ∧ dy x = 29 := by
      intro z hz g1 g2
      have := date_is (n := ys z + 59) (y := z) (m := 2) (d := 29) ⟨by omega, by omega, by omega, hdm z hz⟩ (by rw [hc]; omega)
      exact ⟨ys z + 59, g2, g1, this.2.1, this.2.2⟩
    by_cases c : ys y + 59 ≤ D
    · obtain ⟨z, z1, z2, z3⟩ := leap_near y
      have m1 := ys_mono z y z2
      have m2 := ys_mono (y - 7) z z1
      refine fin z z3 (by omega) ?_
      have : ys (y + 1) ≤ ys (y - 7) + 2930 := by unfold ys; omega
      omega
    · obtain ⟨z, z1, z2, z3⟩ := leap_near (y - 1)
      have m2 := ys_mono (y - 1 - 7) z z1
      have m1 := ys_succ z
      have m3 := ys_mono (z + 1) y (by omega)
      refine fin z z3 (by omega) ?_
      have : ys y ≤ ys (y - 1 - 7) + 2930 := by unfold ys; omega
      omega
  · have hv : d ≤ dim (y - 1) m := by
      have l0 := lp_01 (y - 1)
      have l1 := lp_01 y0
      unfold dim at hd ⊢
      by_cases g : m = 2
      · rw [if_pos g] at hd ⊢; omega
      · rw [if_neg g] at hd ⊢; exact hd.2
    have b := in_year (y - 1) m d ⟨hm.1, hm.2, hd.1, hv⟩
    have e := ys_succ (y - 1)
    rw [show y - 1 + 1 = y by omega] at e
    have e2 := ys_succ y
    have l0 := lp_01 (y - 1)
    have l1 := lp_01 y
    have := date_is (n := ys (y - 1) + cum (y - 1) m + d - 1) (y := y - 1) (m := m) (d := d) ⟨hm.1, hm.2, hd.1, hv⟩ rfl
    exact ⟨_, by omega, by omega, this.2.1, this.2.2⟩
/-- so is a day of the week in a month -/
theorem week_again (m k D : Int) (hm : 1 ≤ m ∧ m ≤ 12) (hk : 0 ≤ k ∧ k ≤ 6) : ∃ x, D - 2999 ≤ x ∧ x ≤ D ∧ mo x = m ∧ (x + 6) % 7 = k := by
  obtain ⟨s1, s2⟩ := yr_spec D
  generalize yr D = y at s1 s2
  have db := dim_bd (y - 1) m
  have b := in_year (y - 1) m 7 ⟨hm.1, hm.2, by omega, by omega⟩
  have cb := cum_bd (y - 1) m
  have e := ys_succ (y - 1)
  rw [show y - 1 + 1 = y by omega] at e
  have e2 := ys_succ y
  have l0 := lp_01 (y - 1)
  have l1 := lp_01 y
  generalize hb : ys (y - 1) + cum (y - 1) m = B
  have := date_is (n := B + (k - B - 6) % 7) (y := y - 1) (m := m) (d := (k - B - 6) % 7 + 1) ⟨hm.1, hm.2, by omega, by omega⟩ (by omega)
  exact ⟨B + (k - B - 6) % 7, by omega, by omega, this.2.1, by omega⟩

section
variable {mi ho da mn we : Int} {ad aw : Bool}
theorem fit_again (hda : ad = true → da = 4294967294) (hwe : aw = true → we = 127) {D0 : Int} (h : fitN da mn we ad aw D0 = true) (D : Int) : ∃ x, D - 2999 ≤ x ∧ x ≤ D ∧ fitN da mn we ad aw x = true := by
  obtain ⟨d1, d2, d3, d4, _⟩ := date_spec D0
  have wk : ∀ x : Int, inS 127 ((x + 6) % 7) = true := by
    intro x
    obtain ⟨M, hM⟩ := Int.eq_ofNat_of_zero_le (show 0 ≤ (x + 6) % 7 by omega)
    rw [hM, (full_in M).2.2.2.2, decide_eq_true_eq]; omega
  have dd : ∀ x : Int, inS 4294967294 (dy x) = true := by
    intro x
    obtain ⟨_, _, x3, x4, _⟩ := date_spec x
    have db := dim_bd (yr x) (Cal.mo x)
    rw [day_in, decide_eq_true_eq]; omega
  have hA : inS mn (Cal.mo D0) = true → inS da (dy D0) = true → (aw = true ∨ (ad = false ∧ aw = false)) → ∃ x, D - 2999 ≤ x ∧ x ≤ D ∧ fitN da mn we ad aw x = true := by
    intro g1 g2 g3
    obtain ⟨x, x1, x2, x3, x4⟩ := date_again (Cal.mo D0) (dy D0) (yr D0) D ⟨d1, d2⟩ ⟨d3, d4⟩
    refine ⟨x, x1, x2, ?_⟩
    unfold fitN dayB
    rw [x3, x4, g1, g2]
    rcases g3 with g | ⟨g, g'⟩
    · rw [hwe g, wk x]; simp
    · rw [g, g']; simp
  have hB : inS mn (Cal.mo D0) = true → inS we ((D0 + 6) % 7) = true → (ad = true ∨ (ad = false ∧ aw = false)) → ∃ x, D - 2999 ≤ x ∧ x ≤ D ∧ fitN da mn we ad aw x = true := by
    intro g1 g2 g3
    obtain ⟨x, x1, x2, x3, x4⟩ := week_again (Cal.mo D0) ((D0 + 6) % 7) D ⟨d1, d2⟩ (by omega)
    refine ⟨x, x1, x2, ?_⟩
    unfold fitN dayB
    rw [x3, x4, g1, g2]
    rcases g3 with g | ⟨g, g'⟩
    · rw [hda g, dd x]; simp
    · rw [g, g']; simp
  unfold fitN dayB at h
  simp only [Bool.and_eq_true, Bool.or_eq_true, Bool.not_eq_true'] at h
  obtain ⟨h1, h2⟩ := h
  cases ad <;> cases aw
  · rcases h2 with h2 | ⟨_, h2 | h2⟩
    · exact hA h1 h2.1 (Or.inr ⟨rfl, rfl⟩)
    · exact hA h1 h2 (Or.inr ⟨rfl, rfl⟩)
    · exact hB h1 h2 (Or.inr ⟨rfl, rfl⟩)
  · rcases h2 with h2 | ⟨h2, _⟩
    · exact hA h1 h2.1 (Or.inl rfl)
    · simp at h2
  · rcases h2 with h2 | ⟨h2, _⟩
    · exact hB h1 h2.2 (Or.inl rfl)
    · simp at h2
  · rcases h2 with h2 | ⟨h2, _⟩
    · exact hA h1 h2.1 (Or.inl rfl)
    · simp at h2

/-- a time of P in any 3000 days, if there is one at all -/
def Win (P : Int → Bool) : Prop := ∀ x V, P x = true → ∃ v, v ≤ V ∧ V / 1440 - 3000 ≤ v / 1440 ∧ P v = true
theorem win_of (h : chkB mi ho da mn we ad aw = true) : Win (mtN mi ho da mn we ad aw) := by
  unfold chkB at h
  simp only [Bool.and_eq_true] at h
  obtain ⟨_, _, h2, _, h4⟩ := h
  intro x V hx
  unfold mtN at hx
  rw [Bool.and_eq_true] at hx
  obtain ⟨z, z1, z2, z3⟩ := fit_again (da := da) (mn := mn) (we := we) (ad := ad) (aw := aw) (fun g => by subst g; exact ok_any h2) (fun g => by subst g; exact ok_any h4) hx.1 (V / 1440 - 1)
  refine ⟨z * 1440 + x % 1440, by omega, by omega, ?_⟩
  exact mtN_yes (by omega) rfl z3 hx.2
end

/-- the last time of P not behind U, as far as one looks -/
def LOk (P : Int → Bool) (U shift x : Int) : Prop := (x ≤ U ∧ U / 1440 - 3000 ≤ x / 1440 ∧ P x = true ∧ ∀ v, x < v → v ≤ U → P v = false) ∧ inT (at60 x shift) = true
/-- is the minute U in the span? -/
def InP (P Q : Int → Bool) (U shift : Int) : Prop := ∃ x, LOk P U shift x ∧ ∀ y, LOk Q U shift y → y ≤ x

theorem top_of {P : Int → Bool} (n : Nat) : ∀ (v V : Int), (V - v).toNat ≤ n → v ≤ V → P v = true → ∃ x, v ≤ x ∧ x ≤ V ∧ P x = true ∧ ∀ z, x < z → z ≤ V → P z = false := by
  induction n with
  | zero => intro v V h1 h2 h3; exact ⟨v, by omega, h2, h3, fun z g1 g2 => by omega⟩
  | succ n ih =>
    intro v V h1 h2 h3
    by_cases g : P V = true
    · exact ⟨V, h2, by omega, g, fun z g1 g2 => by omega⟩
    · have hne : v ≠ V := by intro e; rw [e] at h3; exact g h3
      obtain ⟨x, x1, x2, x3, x4⟩ := ih v (V - 1) (by omega) (by omega) h3
      refine ⟨x, x1, by omega, x3, fun z g1 g2 => ?_⟩
      by_cases e : z = V
      · rw [e]; simpa using g
      · exact x4 z g1 (by omega)
theorem inT_iff (n : Int) : inT n = true ↔ -100000000000 ≤ n ∧ n ≤ 100000000000 := by unfold inT; simp
theorem lok_top {P : Int → Bool} {v V shift : Int} (hv : v ≤ V) (hP : P v = true) (hw : ∃ z, z ≤ V ∧ V / 1440 - 3000 ≤ z / 1440 ∧ P z = true) (h1 : inT (at60 v shift) = true) (h2 : at60 V shift ≤ 100000000000) : ∃ x, v ≤ x ∧ LOk P V shift x := by
  obtain ⟨x, x1, x2, x3, x4⟩ := top_of _ v V (Nat.le_refl _) hv hP
  obtain ⟨z, z1, z2, z3⟩ := hw
  refine ⟨x, x1, ⟨x2, ?_, x3, x4⟩, ?_⟩
  · by_cases g : x < z
    · have := x4 z g z1; rw [z3] at this; cases this
    · omega
  · rw [inT_iff] at h1 ⊢; unfold at60 at *; omega

theorem out_stays {P Q : Int → Bool} {U V shift : Int} (h : ¬ InP P Q U shift) (hUV : U ≤ V) (hn : ∀ v, U < v → v ≤ V → P v = false) (h2 : at60 V shift ≤ 100000000000) : ¬ InP P Q V shift := by
  rintro ⟨x, ⟨⟨a1, a2, a3, a4⟩, a5⟩, hy⟩
  have hxU : x ≤ U := by
    by_cases g : x ≤ U
    · exact g
    · have := hn x (by omega) a1; rw [a3] at this; cases this
  refine h ⟨x, ⟨⟨hxU, by omega, a3, fun v g1 g2 => a4 v g1 (by omega)⟩, a5⟩, ?_⟩
  rintro y ⟨⟨b1, b2, b3, b4⟩, b5⟩
  by_cases g : y ≤ x
  · exact g
  · obtain ⟨z, z1, z2⟩ := lok_top (P := Q) (V := V) (shift := shift) (show y ≤ V by omega) b3 ⟨y, by omega, by omega, b3⟩ b5 h2
    have := hy z z2
    omega
theorem in_stays {P Q : Int → Bool} {U V shift : Int} (h : InP P Q U shift) (hUV : U ≤ V) (hn : ∀ v, U < v → v ≤ V → Q v = false) (h2 : at60 V shift ≤ 100000000000) (hW : Win P) : InP P Q V shift := by
  obtain ⟨x, ⟨⟨a1, a2, a3, a4⟩, a5⟩, hy⟩ := h
  obtain ⟨z, z1, z2⟩ := lok_top (P := P) (V := V) (shift := shift) (show x ≤ V by omega) a3 (hW x V a3) a5 h2
  refine ⟨z, z2, ?_⟩
  rintro y ⟨⟨b1, b2, b3, b4⟩, b5⟩
  have hyU : y ≤ U := by
    by_cases g : y ≤ U
    · exact g
    · have := hn y (by omega) b1; rw [b3] at this; cases this
  have := hy y ⟨⟨hyU, by omega, b3, fun v g1 g2 => b4 v g1 (by omega)⟩, b5⟩
  omega
theorem in_start {P Q : Int → Bool} {U shift : Int} (h : P U = true) (hi : inT (at60 U shift) = true) : InP P Q U shift :=
  ⟨U, ⟨⟨by omega, by omega, h, fun v g1 g2 => by omega⟩, hi⟩, fun _ hy => hy.1.1⟩
end Crn
end Go.Proofs.YtcaobnmfgnbolafDoor
