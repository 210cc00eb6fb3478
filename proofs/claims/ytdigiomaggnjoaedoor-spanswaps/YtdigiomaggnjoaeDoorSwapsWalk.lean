/- The law SpanSwaps, walked. -/
import Derived.Test.YtdigiomaggnjoaeDoorSpanLaws
namespace Go.Proofs.YtdigiomaggnjoaeDoor
namespace Crn
open Go.RowKit Lai Civ Cal
set_option maxRecDepth 8000

theorem swap_law {a b : K} {U shift n m : Int} {r q o p : Bool} (hr : InQ r a b U shift) (hq : InQ q b a U shift) (hn : LastR a U shift n o) (hm : LastR b U shift m p) :
    (o = true → p = true → (n = m ∧ r = true ∧ q = true) ∨ (¬ n = m ∧ r ≠ q)) ∧ ((o = false ∨ p = false) → r = o ∧ q = p) := by
  unfold InQ at hr hq
  have yes : ∀ {s : Bool} {P : Prop}, (s = true ↔ P) → P → s = true := fun h g => h.2 g
  have no : ∀ {s : Bool} {P : Prop}, (s = true ↔ P) → ¬ P → s = false := fun {s} {P} h g => by cases s; rfl; exact absurd (h.1 rfl) g
  rcases hn with ⟨rfl, x, rfl, hx⟩ | ⟨rfl, rfl, hx⟩ <;> rcases hm with ⟨rfl, y, rfl, hy⟩ | ⟨rfl, rfl, hy⟩
  · refine ⟨fun _ _ => ?_, fun h => by rcases h with h | h <;> cases h⟩
    have two := inR_two hx hy rfl rfl
    have owt := inR_two hy hx rfl rfl
    rw [← hr] at two
    rw [← hq] at owt
    simp only [decide_eq_true_eq] at two owt
    by_cases e : at60 x shift = at60 y shift
    · exact Or.inl ⟨e, two.1 (by omega), owt.1 (by omega)⟩
    · refine Or.inr ⟨e, fun h => ?_⟩
      rw [h] at two
      by_cases g : at60 y shift ≤ at60 x shift
      · have := owt.2 (two.1 g); omega
      · have h3 : ¬ q = true := fun hh => g (two.2 hh)
        exact h3 (owt.1 (by omega))
  · refine ⟨fun _ h => (by cases h), fun _ => ⟨yes hr ((inR_yes hx hy).1 rfl), no hq (fun ⟨z, hz, _⟩ => hy z hz)⟩⟩
  · refine ⟨fun h => (by cases h), fun _ => ⟨no hr (fun ⟨z, hz, _⟩ => hx z hz), yes hq ((inR_yes hy hx).1 rfl)⟩⟩
  · refine ⟨fun h => (by cases h), fun _ => ⟨no hr (fun ⟨z, hz, _⟩ => hx z hz), no hq (fun ⟨z, hz, _⟩ => hy z hz)⟩⟩

theorem swap_six {a b : K} {U shift n m : Int} {r q o p : Bool} (hr : InQ r a b U shift) (hq : InQ q b a U shift) (hn : LastR a U shift n o) (hm : LastR b U shift m p) :
    (o = true ∧ p = true ∧ r = true ∧ q = true ∧ n = m) ∨ (o = true ∧ p = true ∧ r = true ∧ q = false ∧ ¬ n = m) ∨ (o = true ∧ p = true ∧ r = false ∧ q = true ∧ ¬ n = m) ∨ (o = false ∧ p = false ∧ r = false ∧ q = false) ∨ (o = false ∧ p = true ∧ r = false ∧ q = true) ∨ (o = true ∧ p = false ∧ r = true ∧ q = false) := by
  obtain ⟨h1, h2⟩ := swap_law hr hq hn hm
  clear hr hq hn hm
  cases o <;> cases p
  · obtain ⟨rfl, rfl⟩ := h2 (Or.inl rfl); simp
  · obtain ⟨rfl, rfl⟩ := h2 (Or.inl rfl); simp
  · obtain ⟨rfl, rfl⟩ := h2 (Or.inr rfl); simp
  · rcases h1 rfl rfl with ⟨rfl, rfl, rfl⟩ | ⟨hne, hrq⟩
    · simp
    · cases r <;> cases q <;> simp_all

set_option maxHeartbeats 8000000 in
theorem sw_no (a b : K) (sec shift : Int) (w : World) (hB : BdsAt w) (h : kc a = false ∨ kc b = false ∨ tmB sec = false ∨ shB shift = false) :
    Calls Tryd.prog 8 #[spanV a b, .int .i64 sec, .int .i64 shift] w fun e w' => e = .returned (.bool true) ∧ Below w.heap.size w w' := by
  have c1 := fun w hB => sin_no a b sec shift w hB h
  have c2 := fun w hB => sin_no b a sec shift w hB (by rcases h with h | h | h; exact Or.inr (Or.inl h); exact Or.inl h; exact Or.inr (Or.inr h))
  clear h
  go_enter Tryd.func8, Tryd.ntmps8
  go_wp2_with (first
    | (go_at_call 10; (with_reducible refine (daily18 _).mono ?_); rintro e w1 ⟨rfl, hb1⟩; have hC1 : ∀ o, w1.cell? ⟨w.heap.size, o, none⟩ = (#[Value.int .u64 a.mi, .int .u64 a.ho, .int .u64 a.da, .int .u64 a.mn, .int .u64 a.we, .bool a.ad, .bool a.aw, .int .u64 b.mi, .int .u64 b.ho, .int .u64 b.da, .int .u64 b.mn, .int .u64 b.we, .bool b.ad, .bool b.aw])[o]? := (fun o => by rw [(bcell hb1).1 _ _ (by simp)]; simp); have hz1 : w.heap.size < w1.heap.size := (by have := hb1.size; simp at this; omega); have hB1 : BdsAt w1 := (bdsA hB).below hb1 (Nat.le_refl _); have hw1 : Hid (Below w.heap.size w w1) := (balloc _).trans (hb1.mono (by simp)))
    | (go_at_call 10; (with_reducible refine (daily8 _).mono ?_); rintro e w2 ⟨rfl, hb2⟩; have hC2 : ∀ o, w2.cell? ⟨w.heap.size, o, none⟩ = (#[Value.int .u64 a.mi, .int .u64 a.ho, .int .u64 a.da, .int .u64 a.mn, .int .u64 a.we, .bool a.ad, .bool a.aw, .int .u64 b.mi, .int .u64 b.ho, .int .u64 b.da, .int .u64 b.mn, .int .u64 b.we, .bool b.ad, .bool b.aw])[o]? := (fun o => ((bcell hb2).1 _ _ hz1).trans (hC1 o)); have hz2 : w.heap.size < w2.heap.size := (by have := hb2.size; omega); have hB2 : BdsAt w2 := hB1.below hb2 (Nat.le_refl _); have hw2 : Hid (Below w.heap.size w w2) := bstep hw1 hb2)
    | (go_at_call 17; (with_reducible refine (in_night_c _ hB2).mono ?_); rintro e w3 ⟨rfl, hb3⟩; have hC3 : ∀ o, w3.cell? ⟨w.heap.size, o, none⟩ = (#[Value.int .u64 a.mi, .int .u64 a.ho, .int .u64 a.da, .int .u64 a.mn, .int .u64 a.we, .bool a.ad, .bool a.aw, .int .u64 b.mi, .int .u64 b.ho, .int .u64 b.da, .int .u64 b.mn, .int .u64 b.we, .bool b.ad, .bool b.aw])[o]? := (fun o => ((bcell hb3).1 _ _ hz2).trans (hC2 o)); have hz3 : w.heap.size < w3.heap.size := (by have := hb3.size; omega); have hB3 : BdsAt w3 := hB2.below hb3 (Nat.le_refl _); have hw3 : Hid (Below w.heap.size w w3) := bstep hw2 hb3)
    | (go_at_call 17; (with_reducible refine (c1 _ hB3).mono ?_); rintro e w4 ⟨rfl, hb4⟩; have hC4 : ∀ o, w4.cell? ⟨w.heap.size, o, none⟩ = (#[Value.int .u64 a.mi, .int .u64 a.ho, .int .u64 a.da, .int .u64 a.mn, .int .u64 a.we, .bool a.ad, .bool a.aw, .int .u64 b.mi, .int .u64 b.ho, .int .u64 b.da, .int .u64 b.mn, .int .u64 b.we, .bool b.ad, .bool b.aw])[o]? := (fun o => ((bcell hb4).1 _ _ hz3).trans (hC3 o)); have hz4 : w.heap.size < w4.heap.size := (by have := hb4.size; omega); have hB4 : BdsAt w4 := hB3.below hb4 (Nat.le_refl _); have hw4 : Hid (Below w.heap.size w w4) := bstep hw3 hb4)
    | (go_at_call 17; (with_reducible refine (c2 _ hB4).mono ?_); rintro e w5 ⟨rfl, hb5⟩; have hC5 : ∀ o, w5.cell? ⟨w.heap.size, o, none⟩ = (#[Value.int .u64 a.mi, .int .u64 a.ho, .int .u64 a.da, .int .u64 a.mn, .int .u64 a.we, .bool a.ad, .bool a.aw, .int .u64 b.mi, .int .u64 b.ho, .int .u64 b.da, .int .u64 b.mn, .int .u64 b.we, .bool b.ad, .bool b.aw])[o]? := (fun o => ((bcell hb5).1 _ _ hz4).trans (hC4 o)); have hz5 : w.heap.size < w5.heap.size := (by have := hb5.size; omega); have hB5 : BdsAt w5 := hB4.below hb5 (Nat.le_refl _); have hw5 : Hid (Below w.heap.size w w5) := bstep hw4 hb5))
  go_ret
  exact ⟨rfl, hw5⟩

set_option maxHeartbeats 16000000 in
theorem sw_yes (a b : K) (sec shift : Int) (w : World) (hB : BdsAt w) (ua : Us a) (ub : Us b) (ha : kc a = true) (hb : kc b = true) (ht : tmB sec = true) (hs : shB shift = true) :
    Calls Tryd.prog 8 #[spanV a b, .int .i64 sec, .int .i64 shift] w fun e w' => e = .returned (.bool true) ∧ Below w.heap.size w w' := by
  have c1 := fun w hB => sin_yes a b sec shift w hB ua ub ha hb ht hs
  have c2 := fun w hB => sin_yes b a sec shift w hB ub ua hb ha ht hs
  have c3 := fun w hB => lastK a sec shift w hB ua ha ht hs
  have c4 := fun w hB => lastK b sec shift w hB ub hb ht hs
  clear ua ub ha hb ht hs
  go_enter Tryd.func8, Tryd.ntmps8
  go_wp2_with (first
    | (go_at_call 10; (with_reducible refine (daily18 _).mono ?_); rintro e w1 ⟨rfl, hb1⟩; have hC1 : ∀ o, w1.cell? ⟨w.heap.size, o, none⟩ = (#[Value.int .u64 a.mi, .int .u64 a.ho, .int .u64 a.da, .int .u64 a.mn, .int .u64 a.we, .bool a.ad, .bool a.aw, .int .u64 b.mi, .int .u64 b.ho, .int .u64 b.da, .int .u64 b.mn, .int .u64 b.we, .bool b.ad, .bool b.aw])[o]? := (fun o => by rw [(bcell hb1).1 _ _ (by simp)]; simp); have hz1 : w.heap.size < w1.heap.size := (by have := hb1.size; simp at this; omega); have hB1 : BdsAt w1 := (bdsA hB).below hb1 (Nat.le_refl _); have hw1 : Hid (Below w.heap.size w w1) := (balloc _).trans (hb1.mono (by simp)))
    | (go_at_call 10; (with_reducible refine (daily8 _).mono ?_); rintro e w2 ⟨rfl, hb2⟩; have hC2 : ∀ o, w2.cell? ⟨w.heap.size, o, none⟩ = (#[Value.int .u64 a.mi, .int .u64 a.ho, .int .u64 a.da, .int .u64 a.mn, .int .u64 a.we, .bool a.ad, .bool a.aw, .int .u64 b.mi, .int .u64 b.ho, .int .u64 b.da, .int .u64 b.mn, .int .u64 b.we, .bool b.ad, .bool b.aw])[o]? := (fun o => ((bcell hb2).1 _ _ hz1).trans (hC1 o)); have hz2 : w.heap.size < w2.heap.size := (by have := hb2.size; omega); have hB2 : BdsAt w2 := hB1.below hb2 (Nat.le_refl _); have hw2 : Hid (Below w.heap.size w w2) := bstep hw1 hb2)
    | (go_at_call 17; (with_reducible refine (in_night_c _ hB2).mono ?_); rintro e w3 ⟨rfl, hb3⟩; have hC3 : ∀ o, w3.cell? ⟨w.heap.size, o, none⟩ = (#[Value.int .u64 a.mi, .int .u64 a.ho, .int .u64 a.da, .int .u64 a.mn, .int .u64 a.we, .bool a.ad, .bool a.aw, .int .u64 b.mi, .int .u64 b.ho, .int .u64 b.da, .int .u64 b.mn, .int .u64 b.we, .bool b.ad, .bool b.aw])[o]? := (fun o => ((bcell hb3).1 _ _ hz2).trans (hC2 o)); have hz3 : w.heap.size < w3.heap.size := (by have := hb3.size; omega); have hB3 : BdsAt w3 := hB2.below hb3 (Nat.le_refl _); have hw3 : Hid (Below w.heap.size w w3) := bstep hw2 hb3)
    | (go_at_call 17; (with_reducible refine (c1 _ hB3).mono ?_); rintro e w4 ⟨r, rfl, hr0, hb4⟩; have hC4 : ∀ o, w4.cell? ⟨w.heap.size, o, none⟩ = (#[Value.int .u64 a.mi, .int .u64 a.ho, .int .u64 a.da, .int .u64 a.mn, .int .u64 a.we, .bool a.ad, .bool a.aw, .int .u64 b.mi, .int .u64 b.ho, .int .u64 b.da, .int .u64 b.mn, .int .u64 b.we, .bool b.ad, .bool b.aw])[o]? := (fun o => ((bcell hb4).1 _ _ hz3).trans (hC3 o)); have hz4 : w.heap.size < w4.heap.size := (by have := hb4.size; omega); have hB4 : BdsAt w4 := hB3.below hb4 (Nat.le_refl _); have hw4 : Hid (Below w.heap.size w w4) := bstep hw3 hb4; have hr : InQ r a b (minOf sec shift) shift := hr0; clear hr0)
    | (go_at_call 17; (with_reducible refine (c2 _ hB4).mono ?_); rintro e w5 ⟨q, rfl, hq0, hb5⟩; have hC5 : ∀ o, w5.cell? ⟨w.heap.size, o, none⟩ = (#[Value.int .u64 a.mi, .int .u64 a.ho, .int .u64 a.da, .int .u64 a.mn, .int .u64 a.we, .bool a.ad, .bool a.aw, .int .u64 b.mi, .int .u64 b.ho, .int .u64 b.da, .int .u64 b.mn, .int .u64 b.we, .bool b.ad, .bool b.aw])[o]? := (fun o => ((bcell hb5).1 _ _ hz4).trans (hC4 o)); have hz5 : w.heap.size < w5.heap.size := (by have := hb5.size; omega); have hB5 : BdsAt w5 := hB4.below hb5 (Nat.le_refl _); have hw5 : Hid (Below w.heap.size w w5) := bstep hw4 hb5; have hq : InQ q b a (minOf sec shift) shift := hq0; clear hq0)
    | (go_at_call 15; (with_reducible refine (c3 _ hB5).mono ?_); rintro e w6 ⟨n, o, rfl, hn0, hb6⟩; have hC6 : ∀ o, w6.cell? ⟨w.heap.size, o, none⟩ = (#[Value.int .u64 a.mi, .int .u64 a.ho, .int .u64 a.da, .int .u64 a.mn, .int .u64 a.we, .bool a.ad, .bool a.aw, .int .u64 b.mi, .int .u64 b.ho, .int .u64 b.da, .int .u64 b.mn, .int .u64 b.we, .bool b.ad, .bool b.aw])[o]? := (fun o => ((bcell hb6).1 _ _ hz5).trans (hC5 o)); have hz6 : w.heap.size < w6.heap.size := (by have := hb6.size; omega); have hB6 : BdsAt w6 := hB5.below hb6 (Nat.le_refl _); have hw6 : Hid (Below w.heap.size w w6) := bstep hw5 hb6; have hn : Hid (LastR a (minOf sec shift) shift n o) := hn0; clear hn0)
    | (go_at_call 15; (with_reducible refine (c4 _ hB6).mono ?_); rintro e w7 ⟨m, p, rfl, hm0, hb7⟩; have hC7 : ∀ o, w7.cell? ⟨w.heap.size, o, none⟩ = (#[Value.int .u64 a.mi, .int .u64 a.ho, .int .u64 a.da, .int .u64 a.mn, .int .u64 a.we, .bool a.ad, .bool a.aw, .int .u64 b.mi, .int .u64 b.ho, .int .u64 b.da, .int .u64 b.mn, .int .u64 b.we, .bool b.ad, .bool b.aw])[o]? := (fun o => ((bcell hb7).1 _ _ hz6).trans (hC6 o)); have hz7 : w.heap.size < w7.heap.size := (by have := hb7.size; omega); have hB7 : BdsAt w7 := hB6.below hb7 (Nat.le_refl _); have hw7 : Hid (Below w.heap.size w w7) := bstep hw6 hb7; have hL := swap_six hr hq hn.out hm0; clear hr hq hn hm0; rcases hL with ⟨rfl, rfl, rfl, rfl, rfl⟩ | ⟨rfl, rfl, rfl, rfl, hne⟩ | ⟨rfl, rfl, rfl, rfl, hne⟩ | ⟨rfl, rfl, rfl, rfl⟩ | ⟨rfl, rfl, rfl, rfl⟩ | ⟨rfl, rfl, rfl, rfl⟩))
  all_goals (go_ret; exact ⟨rfl, hw7⟩)
end Crn
end Go.Proofs.YtdigiomaggnjoaeDoor
