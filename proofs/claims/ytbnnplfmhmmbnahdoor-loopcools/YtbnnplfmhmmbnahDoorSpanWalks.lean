/- What span.Check and span.In answer, at every input. -/
import Derived.Test.YtbnnplfmhmmbnahDoorPk12
import Derived.Test.YtbnnplfmhmmbnahDoorCronK
import Derived.Test.YtbnnplfmhmmbnahDoorPk6
namespace Go.Proofs.YtbnnplfmhmmbnahDoor
namespace Crn
open Go.RowKit Lai Civ Cal
set_option maxRecDepth 8000

def mt (c : K) : Int → Bool := mtN c.mi c.ho c.da c.mn c.we c.ad c.aw
theorem win_k {c : K} (h : kc c = true) : Win (mt c) := win_of h

/-- what Last tells -/
def LastR (c : K) (U shift n : Int) (ok : Bool) : Prop := (ok = true ∧ ∃ x, n = at60 x shift ∧ LOk (mt c) U shift x) ∨ (ok = false ∧ n = 0 ∧ ∀ x, ¬ LOk (mt c) U shift x)
theorem lastR_of {c : K} {U shift n : Int} {ok : Bool} (h : LastIs c.mi c.ho c.da c.mn c.we c.ad c.aw U shift n ok) : LastR c U shift n ok := by
  rcases h with ⟨h1, u, h2, h3, h4⟩ | ⟨h1, h2, h3⟩
  · exact Or.inl ⟨h1, u, h2, h4, by rw [← h2]; exact h3⟩
  · refine Or.inr ⟨h1, h2, fun x hx => ?_⟩
    have hx1 : LastN c.mi c.ho c.da c.mn c.we c.ad c.aw U x := hx.1
    rcases h3 with h3 | ⟨u, h3, h4⟩
    · have := h3 x hx1.1 hx1.2.1; rw [hx1.2.2.1] at this; cases this
    · have h5 := hx.2
      rw [last_one hx1 h4, h3] at h5; cases h5
theorem lok_one {P : Int → Bool} {U shift x y : Int} (h : LOk P U shift x) (g : LOk P U shift y) : x = y := by
  obtain ⟨⟨a1, a2, a3, a4⟩, _⟩ := h
  obtain ⟨⟨b1, b2, b3, b4⟩, _⟩ := g
  rcases Int.lt_trichotomy x y with c | c | c
  · have := a4 y c b1; rw [b3] at this; cases this
  · exact c
  · have := b4 x c a1; rw [a3] at this; cases this
theorem lastR_one {c : K} {U shift n n' : Int} {ok ok' : Bool} (h : LastR c U shift n ok) (g : LastR c U shift n' ok') : n = n' ∧ ok = ok' := by
  rcases h with ⟨h1, x, h2, h3⟩ | ⟨h1, h2, h3⟩ <;> rcases g with ⟨g1, y, g2, g3⟩ | ⟨g1, g2, g3⟩
  · rw [h1, g1, h2, g2, lok_one h3 g3]; exact ⟨rfl, rfl⟩
  · exact absurd h3 (g3 _)
  · exact absurd g3 (h3 _)
  · rw [h1, g1, h2, g2]; exact ⟨rfl, rfl⟩
/-- what Next tells: the first time behind U -/
def FOk (P : Int → Bool) (U shift x : Int) : Prop := (U < x ∧ x / 1440 ≤ U / 1440 + 3000 ∧ P x = true ∧ ∀ v, U < v → v < x → P v = false) ∧ inT (at60 x shift) = true
def NextR (c : K) (U shift n : Int) (ok : Bool) : Prop := (ok = true ∧ ∃ x, n = at60 x shift ∧ FOk (mt c) U shift x) ∨ (ok = false ∧ n = 0 ∧ ∀ x, ¬ FOk (mt c) U shift x)
theorem nextR_of {c : K} {U shift n : Int} {ok : Bool} (h : NextIs c.mi c.ho c.da c.mn c.we c.ad c.aw U shift n ok) : NextR c U shift n ok := by
  rcases h with ⟨h1, u, h2, h3, h4⟩ | ⟨h1, h2, h3⟩
  · exact Or.inl ⟨h1, u, h2, h4, by rw [← h2]; exact h3⟩
  · refine Or.inr ⟨h1, h2, fun x hx => ?_⟩
    have hx1 : FirstN c.mi c.ho c.da c.mn c.we c.ad c.aw U x := hx.1
    rcases h3 with h3 | ⟨u, h3, h4⟩
    · have := h3 x hx1.1 hx1.2.1; rw [hx1.2.2.1] at this; cases this
    · have h5 := hx.2
      rw [first_one hx1 h4, h3] at h5; cases h5
theorem fok_one {P : Int → Bool} {U shift x y : Int} (h : FOk P U shift x) (g : FOk P U shift y) : x = y := by
  obtain ⟨⟨a1, a2, a3, a4⟩, _⟩ := h
  obtain ⟨⟨b1, b2, b3, b4⟩, _⟩ := g
  rcases Int.lt_trichotomy x y with c | c | c
  · have := b4 x a1 c; rw [a3] at this; cases this
  · exact c
  · have := a4 y b1 c; rw [b3] at this; cases this
theorem nextR_one {c : K} {U shift n n' : Int} {ok ok' : Bool} (h : NextR c U shift n ok) (g : NextR c U shift n' ok') : n = n' ∧ ok = ok' := by
  rcases h with ⟨h1, x, h2, h3⟩ | ⟨h1, h2, h3⟩ <;> rcases g with ⟨g1, y, g2, g3⟩ | ⟨g1, g2, g3⟩
  · rw [h1, g1, h2, g2, fok_one h3 g3]; exact ⟨rfl, rfl⟩
  · exact absurd h3 (g3 _)
  · exact absurd g3 (h3 _)
  · rw [h1, g1, h2, g2]; exact ⟨rfl, rfl⟩

section
variable (a b : K) (sec shift : Int) (w : World)
theorem lastK (hB : BdsAt w) (u : Us a) (hc : kc a = true) (ht : tmB sec = true) (hs : shB shift = true) :
    Calls Tryd.prog 73 #[kV a, .int .i64 sec, .int .i64 shift] w fun e w' => ∃ n ok, e = .returned (.tuple #[.int .i64 n, .bool ok, .int .i64 0]) ∧ LastR a (minOf sec shift) shift n ok ∧ Below w.heap.size w w' :=
  (last_yes _ _ _ _ _ _ _ sec shift w hB u.u0 u.u1 u.u2 u.u3 u.u4 hc ht hs).mono fun _ _ ⟨n, ok, he, hn, hb⟩ => ⟨n, ok, he, lastR_of hn, hb⟩
set_option maxHeartbeats 4000000 in
theorem sin_no (hB : BdsAt w) (h : kc a = false ∨ kc b = false ∨ tmB sec = false ∨ shB shift = false) :
    Calls Tryd.prog 63 #[spanV a b, .int .i64 sec, .int .i64 shift] w fun e w' => e = .returned (.tuple #[.bool false, .int .i64 1]) ∧ Below w.heap.size w w' := by
  by_cases g : kc a = true ∧ kc b = true
  · have c1 := fun w hB => scheck_yes a b w hB g.1 g.2
    have c2 := fun w hB => last_no a.mi a.ho a.da a.mn a.we a.ad a.aw sec shift w hB (by
      rcases h with h | h | h
      · rw [g.1] at h; cases h
      · rw [g.2] at h; cases h
      · exact Or.inr h)
    clear g h
    go_enter Tryd.func63, Tryd.ntmps63
    go_wp2_with (first
      | (go_at_call 46; (with_reducible refine (c1 _ (hB.below (balloc _) (Nat.le_refl _))).mono ?_); rintro e w1 ⟨rfl, hb1⟩; have hB1 : BdsAt w1 := (hB.below (balloc _) (Nat.le_refl _)).below hb1 (Nat.le_refl _); have hw1 : Hid (Below w.heap.size w w1) := (balloc _).trans (hb1.mono (by simp)); obtain ⟨hc1, hf1⟩ := bcell hb1)
      | (go_at_call 73; (with_reducible refine (c2 _ hB1).mono ?_); rintro e w2 ⟨rfl, hb2⟩))
    go_ret2
    exact ⟨rfl, bstep hw1 hb2⟩
  · have c1 := fun w hB => scheck_no a b w hB (by
      cases h1 : kc a
      · exact Or.inl rfl
      · cases h2 : kc b
        · exact Or.inr rfl
        · exact absurd ⟨h1, h2⟩ g)
    clear g h
    go_enter Tryd.func63, Tryd.ntmps63
    go_wp2_with (first
      | (go_at_call 46; (with_reducible refine (c1 _ (hB.below (balloc _) (Nat.le_refl _))).mono ?_); rintro e w1 ⟨rfl, hb1⟩; have hw1 : Hid (Below w.heap.size w w1) := (balloc _).trans (hb1.mono (by simp))))
    go_ret2
    exact ⟨rfl, hw1⟩

theorem inR_no {P Q : Int → Bool} {U shift : Int} (h : ∀ x, ¬ LOk P U shift x) : false = true ↔ InP P Q U shift := by
  refine ⟨fun h => (by cases h), ?_⟩
  rintro ⟨x, hx, _⟩; exact absurd hx (h x)
theorem inR_yes {P Q : Int → Bool} {U shift x : Int} (h : LOk P U shift x) (g : ∀ x, ¬ LOk Q U shift x) : true = true ↔ InP P Q U shift :=
  ⟨fun _ => ⟨x, h, fun y hy => absurd hy (g y)⟩, fun _ => rfl⟩
theorem inR_two {P Q : Int → Bool} {U shift x y n m : Int} (h : LOk P U shift x) (g : LOk Q U shift y) (hn : n = at60 x shift) (hm : m = at60 y shift) : decide (m ≤ n) = true ↔ InP P Q U shift := by
  rw [decide_eq_true_eq, hn, hm]
  constructor
  · intro e
    refine ⟨x, h, fun z hz => ?_⟩
    rw [lok_one hz g]; unfold at60 at e; omega
  · rintro ⟨z, hz, hy⟩
    have := hy y g
    rw [lok_one hz h] at this
    unfold at60; omega

set_option maxHeartbeats 8000000 in
theorem sin_yes (hB : BdsAt w) (ua : Us a) (ub : Us b) (ha : kc a = true) (hb : kc b = true) (ht : tmB sec = true) (hs : shB shift = true) :
    Calls Tryd.prog 63 #[spanV a b, .int .i64 sec, .int .i64 shift] w fun e w' => ∃ r, e = .returned (.tuple #[.bool r, .int .i64 0]) ∧ (r = true ↔ InP (mt a) (mt b) (minOf sec shift) shift) ∧ Below w.heap.size w w' := by
  have c1 := fun w hB => scheck_yes a b w hB ha hb
  have c2 := fun w hB => lastK a sec shift w hB ua ha ht hs
  have c3 := fun w hB => lastK b sec shift w hB ub hb ht hs
  clear ha hb ht hs ua ub
  go_enter Tryd.func63, Tryd.ntmps63
  go_wp2_with (first
    | (go_at_call 46; (with_reducible refine (c1 _ (hB.below (balloc _) (Nat.le_refl _))).mono ?_); rintro e w1 ⟨rfl, hb1⟩; have hB1 : BdsAt w1 := (hB.below (balloc _) (Nat.le_refl _)).below hb1 (Nat.le_refl _); have hw1 : Hid (Below w.heap.size w w1) := (balloc _).trans (hb1.mono (by simp)); obtain ⟨hc1, hf1⟩ := bcell hb1; have hz1 : w.heap.size < w1.heap.size := (by have := hb1.size; simp at this; omega))
    | (go_at_call 73; (with_reducible refine (c2 _ hB1).mono ?_); rintro e w2 ⟨n, ok, rfl, hN, hb2⟩; have hB2 : BdsAt w2 := hB1.below hb2 (Nat.le_refl _); have hw2 : Hid (Below w.heap.size w w2) := bstep hw1 hb2; obtain ⟨hc2, hf2⟩ := bcell hb2; rcases hN with ⟨rfl, x, HX, hX⟩ | ⟨rfl, rfl, hX⟩; all_goals ((try (replace HX : Hid _ := HX)); replace hX : Hid _ := hX))
    | (go_at_call 73; (with_reducible refine (c3 _ hB2).mono ?_); rintro e w3 ⟨m, ok, rfl, hM, hb3⟩; rcases hM with ⟨rfl, y, HY, hY⟩ | ⟨rfl, rfl, hY⟩; all_goals ((try (replace HY : Hid _ := HY)); replace hY : Hid _ := hY)))
  all_goals first
    | (go_ret2; exact ⟨_, rfl, inR_two hX.out hY.out HX.out HY.out, bstep hw2 hb3⟩)
    | (go_ret2; exact ⟨_, rfl, inR_yes hX.out hY.out, bstep hw2 hb3⟩)
    | (go_ret2; exact ⟨_, rfl, inR_no hX.out, hw2⟩)
end
end Crn
end Go.Proofs.YtbnnplfmhmmbnahDoor
