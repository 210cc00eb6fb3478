/- The next, the last minute that fits: what it is, and that what is found is it. Plain mathematics. -/
import Derived.Test.YtmogbileofpcfaeDoorDayPlain
namespace Go.Proofs.YtmogbileofpcfaeDoor
namespace Crn
open Go.RowKit Cal

/-- a cron that Check lets by, as far as the search needs it -/
structure Good (mi ho da mn we : Int) : Prop where
  gmi : Upto mi 59
  gho : Upto ho 23
  gda : 0 ≤ da ∧ da ≤ 18446744073709551615
  g31 : ∀ n, inS da n = true → 1 ≤ n ∧ n ≤ 31
  gmn : 0 ≤ mn ∧ mn ≤ 18446744073709551615
  g12 : ∀ n, inS mn n = true → 1 ≤ n ∧ n ≤ 12
  gmn0 : ∃ n, inS mn n = true
  gwe : Upto we 6
  gmi0 : ∃ n, inS mi n = true
  gho0 : ∃ n, inS ho n = true

theorem in_le {f : Int} {k n : Int} (h : inS f k = true) (hf : ∀ K : Nat, inS f (K : Int) = true → (K : Int) ≤ n) : k ≤ n := by
  obtain ⟨K, rfl⟩ := Int.eq_ofNat_of_zero_le (inS_bd h).1
  exact hf K h
theorem good_of {mi ho da mn we : Int} {ad aw : Bool} (b0 : 0 ≤ mi ∧ mi ≤ 18446744073709551615) (b1 : 0 ≤ ho ∧ ho ≤ 18446744073709551615) (b2 : 0 ≤ da ∧ da ≤ 18446744073709551615) (b3 : 0 ≤ mn ∧ mn ≤ 18446744073709551615) (b4 : 0 ≤ we ∧ we ≤ 18446744073709551615)
    (h : chkB mi ho da mn we ad aw = true) : Good mi ho da mn we := by
  unfold chkB at h
  simp only [Bool.and_eq_true] at h
  obtain ⟨h0, h1, h2, h3, h4⟩ := h
  have f0 : 0 ≤ fMin ∧ fMin ≤ 18446744073709551615 := by decide
  have f1 : 0 ≤ fHour ∧ fHour ≤ 18446744073709551615 := by decide
  have f2 : 0 ≤ fDay ∧ fDay ≤ 18446744073709551615 := by decide
  have f3 : 0 ≤ fMon ∧ fMon ≤ 18446744073709551615 := by decide
  have f4 : 0 ≤ fWeek ∧ fWeek ≤ 18446744073709551615 := by decide
  refine ⟨⟨b0, fun k hk => ?_⟩, ⟨b1, fun k hk => ?_⟩, b2, fun k hk => ?_, b3, fun k hk => ?_, ok_some b3 h3, ⟨b4, fun k hk => ?_⟩, ok_some b0 h0, ok_some b1 h1⟩
  · refine in_le (ok_sub b0 f0 h0 k hk) fun K hK => ?_
    rw [show fMin = 1152921504606846975 from rfl, (full_in K).1, decide_eq_true_eq] at hK; omega
  · refine in_le (ok_sub b1 f1 h1 k hk) fun K hK => ?_
    rw [show fHour = 16777215 from rfl, (full_in K).2.1, decide_eq_true_eq] at hK; omega
  · have := ok_sub b2 f2 h2 k hk
    rw [show fDay = 4294967294 from rfl, day_in, decide_eq_true_eq] at this; exact this
  · have := ok_sub b3 f3 h3 k hk
    obtain ⟨K, rfl⟩ := Int.eq_ofNat_of_zero_le (inS_bd hk).1
    rw [show fMon = 8190 from rfl, (full_in K).2.2.2.1, decide_eq_true_eq] at this; omega
  · refine in_le (ok_sub b4 f4 h4 k hk) fun K hK => ?_
    rw [show fWeek = 127 from rfl, (full_in K).2.2.2.2, decide_eq_true_eq] at hK; omega

/-- does the minute that is u minutes behind the beginning of -4000 fit? -/
def mtN (mi ho da mn we : Int) (ad aw : Bool) (u : Int) : Bool := fitN da mn we ad aw (u / 1440) && okM mi ho (u % 1440)
def FirstN (mi ho da mn we : Int) (ad aw : Bool) (U u : Int) : Prop := U < u ∧ u / 1440 ≤ U / 1440 + 3000 ∧ mtN mi ho da mn we ad aw u = true ∧ ∀ v, U < v → v < u → mtN mi ho da mn we ad aw v = false
def NoneN (mi ho da mn we : Int) (ad aw : Bool) (U : Int) : Prop := ∀ v, U < v → v / 1440 ≤ U / 1440 + 3000 → mtN mi ho da mn we ad aw v = false
def LastN (mi ho da mn we : Int) (ad aw : Bool) (U u : Int) : Prop := u ≤ U ∧ U / 1440 - 3000 ≤ u / 1440 ∧ mtN mi ho da mn we ad aw u = true ∧ ∀ v, u < v → v ≤ U → mtN mi ho da mn we ad aw v = false
def NoneL (mi ho da mn we : Int) (ad aw : Bool) (U : Int) : Prop := ∀ v, v ≤ U → U / 1440 - 3000 ≤ v / 1440 → mtN mi ho da mn we ad aw v = false

section
variable {mi ho da mn we : Int} {ad aw : Bool} {U h m n : Int}
theorem mtN_no1 {u : Int} (g : fitN da mn we ad aw (u / 1440) = false) : mtN mi ho da mn we ad aw u = false := by unfold mtN; rw [g]; rfl
theorem mtN_no2 {u : Int} (g : okM mi ho (u % 1440) = false) : mtN mi ho da mn we ad aw u = false := by unfold mtN; rw [g, Bool.and_false]
theorem mtN_yes {D x u : Int} (hx : 0 ≤ x ∧ x < 1440) (e : u = D * 1440 + x) (g1 : fitN da mn we ad aw D = true) (g2 : okM mi ho x = true) : mtN mi ho da mn we ad aw u = true := by
  unfold mtN
  rw [show u / 1440 = D by omega, show u % 1440 = x by omega, g1, g2]; rfl

theorem mfB00 (G : Good mi ho da mn we) : mfB mi ho 0 0 = true := by
  obtain ⟨k, hk⟩ := G.gmi0
  obtain ⟨j, hj⟩ := G.gho0
  have hk0 := inS_bd hk
  have hj0 := inS_bd hj
  unfold mfB
  rw [frmB_mk G.gmi.1 (by omega) hk0.1 hk, Bool.true_and]
  cases e : inS ho 0
  · rw [Bool.false_or]
    have : j ≠ 0 := by intro e2; rw [e2, e] at hj; cases hj
    exact frmB_mk G.gho.1 (by omega) (show 0 + 1 ≤ j by omega) hj
  · rfl
theorem muB00 (G : Good mi ho da mn we) : muB mi ho 23 59 = true := by
  obtain ⟨k, hk⟩ := G.gmi0
  obtain ⟨j, hj⟩ := G.gho0
  have hk0 := G.gmi.2 _ hk
  have hj0 := G.gho.2 _ hj
  unfold muB
  rw [uptB_mk G.gmi.1 (by omega) hk0 hk, Bool.true_and]
  cases e : inS ho 23
  · rw [Bool.false_or]
    have : j ≠ 23 := by intro e2; rw [e2, e] at hj; cases hj
    exact uptB_mk G.gho.1 (by omega) (show j ≤ 23 - 1 by omega) hj
  · rfl

theorem next_today (G : Good mi ho da mn we) (hh : 0 ≤ h ∧ h ≤ 23) (hm : 0 ≤ m ∧ m ≤ 59) (e : U % 1440 = h * 60 + m) (hf : fitN da mn we ad aw (U / 1440) = true) (hy : mfB mi ho h (m + 1) = true) :
    FirstN mi ho da mn we ad aw U (U / 1440 * 1440 + mf mi ho h (m + 1)) := by
  obtain ⟨a1, a2, a3, a4⟩ := mf_yes mi ho h (m + 1) G.gmi G.gho hh (by omega) G.gmi0 hy
  generalize mf mi ho h (m + 1) = x at a1 a2 a3 a4
  refine ⟨by omega, by omega, mtN_yes ⟨by omega, a2⟩ rfl hf a3, fun v g1 g2 => ?_⟩
  exact mtN_no2 (a4 _ (by omega) (by omega))
theorem none_today (G : Good mi ho da mn we) (hh : 0 ≤ h ∧ h ≤ 23) (hm : 0 ≤ m ∧ m ≤ 59) (e : U % 1440 = h * 60 + m) (hf : fitN da mn we ad aw (U / 1440) = false ∨ mfB mi ho h (m + 1) = false) :
    ∀ v, U < v → v / 1440 = U / 1440 → mtN mi ho da mn we ad aw v = false := by
  intro v g1 g2
  rcases hf with hf | hf
  · exact mtN_no1 (by rw [g2]; exact hf)
  · exact mtN_no2 (mf_no mi ho h (m + 1) G.gmi G.gho hh (by omega) hf _ (by omega))
theorem next_later (G : Good mi ho da mn we) (hn : ∀ v, U < v → v / 1440 = U / 1440 → mtN mi ho da mn we ad aw v = false) (hb : Behind da mn we ad aw (U / 1440) n true) :
    FirstN mi ho da mn we ad aw U ((n + 2180498) * 1440 + mf mi ho 0 0) := by
  obtain ⟨b1, b2, b3, b4⟩ := hb.2.1 rfl
  obtain ⟨a1, a2, a3, a4⟩ := mf_yes mi ho 0 0 G.gmi G.gho (by omega) (by omega) G.gmi0 (mfB00 G)
  generalize mf mi ho 0 0 = x at a1 a2 a3 a4
  refine ⟨by omega, by omega, mtN_yes ⟨by omega, a2⟩ rfl b3 a3, fun v g1 g2 => ?_⟩
  by_cases c1 : v / 1440 = U / 1440
  · exact hn v g1 c1
  · by_cases c2 : v / 1440 < n + 2180498
    · exact mtN_no1 (b4 _ (by omega) c2)
    · exact mtN_no2 (a4 _ (by omega) (by omega))
theorem next_never (hn : ∀ v, U < v → v / 1440 = U / 1440 → mtN mi ho da mn we ad aw v = false) (hb : Behind da mn we ad aw (U / 1440) n false) : NoneN mi ho da mn we ad aw U := by
  intro v g1 g2
  by_cases c1 : v / 1440 = U / 1440
  · exact hn v g1 c1
  · exact mtN_no1 (hb.2.2 rfl _ (by omega) (by omega))

theorem last_today (G : Good mi ho da mn we) (hh : 0 ≤ h ∧ h ≤ 23) (hm : 0 ≤ m ∧ m ≤ 59) (e : U % 1440 = h * 60 + m) (hf : fitN da mn we ad aw (U / 1440) = true) (hy : muB mi ho h m = true) :
    LastN mi ho da mn we ad aw U (U / 1440 * 1440 + mu mi ho h m) := by
  obtain ⟨a1, a2, a3, a4⟩ := mu_yes mi ho h m G.gmi G.gho hh hm G.gmi0 hy
  generalize mu mi ho h m = x at a1 a2 a3 a4
  refine ⟨by omega, by omega, mtN_yes ⟨a2, by omega⟩ rfl hf a3, fun v g1 g2 => ?_⟩
  exact mtN_no2 (a4 _ (by omega) (by omega))
theorem none_before (G : Good mi ho da mn we) (hh : 0 ≤ h ∧ h ≤ 23) (hm : 0 ≤ m ∧ m ≤ 59) (e : U % 1440 = h * 60 + m) (hf : fitN da mn we ad aw (U / 1440) = false ∨ muB mi ho h m = false) :
    ∀ v, v ≤ U → v / 1440 = U / 1440 → mtN mi ho da mn we ad aw v = false := by
  intro v g1 g2
  rcases hf with hf | hf
  · exact mtN_no1 (by rw [g2]; exact hf)
  · exact mtN_no2 (mu_no mi ho h m G.gmi G.gho hh hm hf _ (by omega))
theorem last_ahead (G : Good mi ho da mn we) (hn : ∀ v, v ≤ U → v / 1440 = U / 1440 → mtN mi ho da mn we ad aw v = false) (hb : Ahead da mn we ad aw (U / 1440) n true) :
    LastN mi ho da mn we ad aw U ((n + 2180498) * 1440 + mu mi ho 23 59) := by
  obtain ⟨b1, b2, b3, b4⟩ := hb.2.1 rfl
  obtain ⟨a1, a2, a3, a4⟩ := mu_yes mi ho 23 59 G.gmi G.gho (by omega) (by omega) G.gmi0 (muB00 G)
  generalize mu mi ho 23 59 = x at a1 a2 a3 a4
  refine ⟨by omega, by omega, mtN_yes ⟨a2, by omega⟩ rfl b3 a3, fun v g1 g2 => ?_⟩
  by_cases c1 : v / 1440 = U / 1440
  · exact hn v g2 c1
  · by_cases c2 : n + 2180498 < v / 1440
    · exact mtN_no1 (b4 _ c2 (by omega))
    · exact mtN_no2 (a4 _ (by omega) (by omega))
theorem last_never (hn : ∀ v, v ≤ U → v / 1440 = U / 1440 → mtN mi ho da mn we ad aw v = false) (hb : Ahead da mn we ad aw (U / 1440) n false) : NoneL mi ho da mn we ad aw U := by
  intro v g1 g2
  by_cases c1 : v / 1440 = U / 1440
  · exact hn v g1 c1
  · exact mtN_no1 (hb.2.2 rfl _ (by omega) (by omega))
end

/-- the time at which the minute u of a clock that is ahead begins -/
def at60 (u shift : Int) : Int := u * 60 - 188395027200 - shift * 60
def inT (n : Int) : Bool := decide (-100000000000 ≤ n ∧ n ≤ 100000000000)
/-- what Next tells -/
def NextIs (mi ho da mn we : Int) (ad aw : Bool) (U shift n : Int) (ok : Bool) : Prop :=
  (ok = true ∧ ∃ u, n = at60 u shift ∧ inT n = true ∧ FirstN mi ho da mn we ad aw U u) ∨
  (ok = false ∧ n = 0 ∧ (NoneN mi ho da mn we ad aw U ∨ ∃ u, inT (at60 u shift) = false ∧ FirstN mi ho da mn we ad aw U u))
def LastIs (mi ho da mn we : Int) (ad aw : Bool) (U shift n : Int) (ok : Bool) : Prop :=
  (ok = true ∧ ∃ u, n = at60 u shift ∧ inT n = true ∧ LastN mi ho da mn we ad aw U u) ∨
  (ok = false ∧ n = 0 ∧ (NoneL mi ho da mn we ad aw U ∨ ∃ u, inT (at60 u shift) = false ∧ LastN mi ho da mn we ad aw U u))

theorem first_one {mi ho da mn we : Int} {ad aw : Bool} {U u v : Int} (h : FirstN mi ho da mn we ad aw U u) (g : FirstN mi ho da mn we ad aw U v) : u = v := by
  obtain ⟨a1, a2, a3, a4⟩ := h
  obtain ⟨b1, b2, b3, b4⟩ := g
  rcases Int.lt_trichotomy u v with c | c | c
  · have := b4 u a1 c; rw [a3] at this; cases this
  · exact c
  · have := a4 v b1 c; rw [b3] at this; cases this
theorem last_one {mi ho da mn we : Int} {ad aw : Bool} {U u v : Int} (h : LastN mi ho da mn we ad aw U u) (g : LastN mi ho da mn we ad aw U v) : u = v := by
  obtain ⟨a1, a2, a3, a4⟩ := h
  obtain ⟨b1, b2, b3, b4⟩ := g
  rcases Int.lt_trichotomy u v with c | c | c
  · have := a4 v c b1; rw [b3] at this; cases this
  · exact c
  · have := b4 u c a1; rw [a3] at this; cases this
theorem next_one {mi ho da mn we : Int} {ad aw : Bool} {U shift n n' : Int} {ok ok' : Bool} (h : NextIs mi ho da mn we ad aw U shift n ok) (g : NextIs mi ho da mn we ad aw U shift n' ok') : n = n' ∧ ok = ok' := by
  rcases h with ⟨rfl, u, rfl, ht, hu⟩ | ⟨rfl, rfl, h⟩ <;> rcases g with ⟨rfl, v, rfl, gt, gv⟩ | ⟨rfl, rfl, g⟩
  · rw [first_one hu gv]; exact ⟨rfl, rfl⟩
  · rcases g with g | ⟨v, g1, g2⟩
    · have := g u hu.1 hu.2.1; rw [hu.2.2.1] at this; cases this
    · rw [first_one hu g2, g1] at ht; cases ht
  · rcases h with h | ⟨v, h1, h2⟩
    · have := h v gv.1 gv.2.1; rw [gv.2.2.1] at this; cases this
    · rw [first_one gv h2, h1] at gt; cases gt
  · exact ⟨rfl, rfl⟩
theorem lasts_one {mi ho da mn we : Int} {ad aw : Bool} {U shift n n' : Int} {ok ok' : Bool} (h : LastIs mi ho da mn we ad aw U shift n ok) (g : LastIs mi ho da mn we ad aw U shift n' ok') : n = n' ∧ ok = ok' := by
  rcases h with ⟨rfl, u, rfl, ht, hu⟩ | ⟨rfl, rfl, h⟩ <;> rcases g with ⟨rfl, v, rfl, gt, gv⟩ | ⟨rfl, rfl, g⟩
  · rw [last_one hu gv]; exact ⟨rfl, rfl⟩
  · rcases g with g | ⟨v, g1, g2⟩
    · have := g u hu.1 hu.2.1; rw [hu.2.2.1] at this; cases this
    · rw [last_one hu g2, g1] at ht; cases ht
  · rcases h with h | ⟨v, h1, h2⟩
    · have := h v gv.1 gv.2.1; rw [gv.2.2.1] at this; cases this
    · rw [last_one gv h2, h1] at gt; cases gt
  · exact ⟨rfl, rfl⟩
end Crn
end Go.Proofs.YtmogbileofpcfaeDoor
