/- What span.Edge answers, at every input. -/
import Derived.Test.YtdigiomaggnjoabDoorSpanWalks
namespace Go.Proofs.YtdigiomaggnjoabDoor
namespace Crn
open Go.RowKit Lai Civ Cal
set_option maxRecDepth 8000

/-- what Edge comes to in so many steps -/
def EdgeR (c a b : K) (r : Bool) (shift : Int) : Nat → Int → Int → Bool → Prop
  | 0, _, n, ok => n = 0 ∧ ok = false
  | k + 1, sec, n, ok => ∃ m is, NextR c (minOf sec shift) shift m is ∧ ((is = false ∧ n = 0 ∧ ok = false) ∨ (is = true ∧ ((¬ (r = true ↔ InP (mt a) (mt b) (minOf m shift) shift) ∧ n = m ∧ ok = true) ∨ ((r = true ↔ InP (mt a) (mt b) (minOf m shift) shift) ∧ EdgeR c a b r shift k m n ok))))
theorem edge_one {c a b : K} {r : Bool} {shift : Int} : ∀ (k : Nat) (sec n n' : Int) (ok ok' : Bool), EdgeR c a b r shift k sec n ok → EdgeR c a b r shift k sec n' ok' → n = n' ∧ ok = ok'
  | 0, _, _, _, _, _, h, g => by rw [h.1, g.1, h.2, g.2]; exact ⟨rfl, rfl⟩
  | k + 1, sec, n, n', ok, ok', h, g => by
    obtain ⟨m, is, h1, h2⟩ := h
    obtain ⟨m', is', g1, g2⟩ := g
    obtain ⟨rfl, rfl⟩ := nextR_one h1 g1
    rcases h2 with ⟨e, h2, h3⟩ | ⟨e, h2⟩ <;> rcases g2 with ⟨e', g2, g3⟩ | ⟨e', g2⟩
    · rw [h2, h3, g2, g3]; exact ⟨rfl, rfl⟩
    · rw [e] at e'; cases e'
    · rw [e] at e'; cases e'
    · rcases h2 with ⟨i, h2, h3⟩ | ⟨i, h2⟩ <;> rcases g2 with ⟨i', g2, g3⟩ | ⟨i', g2⟩
      · rw [h2, h3, g2, g3]; exact ⟨rfl, rfl⟩
      · exact absurd i' i
      · exact absurd i i'
      · exact edge_one k m n n' ok ok' h2 g2
theorem edge_zero {c a b : K} {r : Bool} {shift sec : Int} : EdgeR c a b r shift 0 sec 0 false := ⟨rfl, rfl⟩
theorem edge_none {c a b : K} {r : Bool} {shift sec : Int} {i : Int} (hi : 0 ≤ i ∧ i < 200) (h : NextR c (minOf sec shift) shift 0 false) : EdgeR c a b r shift (200 - i).toNat sec 0 false := by
  rw [show (200 - i).toNat = (200 - (i + 1)).toNat + 1 by omega]
  exact ⟨0, false, h, Or.inl ⟨rfl, rfl, rfl⟩⟩
theorem edge_turn {c a b : K} {r q : Bool} {shift sec m : Int} {i : Int} (hi : 0 ≤ i ∧ i < 200) (h : NextR c (minOf sec shift) shift m true) (hq : q = true ↔ InP (mt a) (mt b) (minOf m shift) shift) (hr : q ≠ r) : EdgeR c a b r shift (200 - i).toNat sec m true := by
  rw [show (200 - i).toNat = (200 - (i + 1)).toNat + 1 by omega]
  refine ⟨m, true, h, Or.inr ⟨rfl, Or.inl ⟨fun g => hr ?_, rfl, rfl⟩⟩⟩
  rw [← g] at hq
  exact Bool.eq_iff_iff.2 hq
theorem edge_step {c a b : K} {r : Bool} {shift sec m n : Int} {ok : Bool} {i : Int} (hi : 0 ≤ i ∧ i < 200) (h : NextR c (minOf sec shift) shift m true) (hq : r = true ↔ InP (mt a) (mt b) (minOf m shift) shift) (g : EdgeR c a b r shift (200 - (i + 1)).toNat m n ok) : EdgeR c a b r shift (200 - i).toNat sec n ok := by
  rw [show (200 - i).toNat = (200 - (i + 1)).toNat + 1 by omega]
  exact ⟨m, true, h, Or.inr ⟨rfl, Or.inr ⟨hq, g⟩⟩⟩
theorem next_in {c : K} {U shift m : Int} (h : NextR c U shift m true) : tmB m = true := by
  rcases h with ⟨_, x, h1, h2⟩ | ⟨h, _⟩
  · rw [h1]; exact h2.2
  · cases h

/-- whether the minute is in, told -/
def InQ (q : Bool) (a b : K) (U shift : Int) : Prop := q = true ↔ InP (mt a) (mt b) U shift
/-- what Edge answers -/
def EdgeAns (c a b : K) (r : Bool) (shift sec : Int) (w : World) (e : Ending) (w' : World) : Prop := ∃ n ok, e = .returned (.tuple #[.int .i64 n, .bool ok, .int .i64 0]) ∧ EdgeR c a b r shift 200 sec n ok ∧ Below w.heap.size w w'
theorem next_zero {c : K} {U shift m : Int} (h : NextR c U shift m false) : NextR c U shift 0 false := by
  rcases h with ⟨h, _⟩ | ⟨h1, h2, h3⟩
  · cases h
  · exact Or.inr ⟨rfl, rfl, h3⟩

section
variable (a b : K) (sec shift : Int) (w : World)
theorem sin_true (hB : BdsAt w) (ua : Us a) (ub : Us b) (ha : kc a = true) (hb : kc b = true) (ht : tmB sec = true) (hs : shB shift = true) (h : InP (mt a) (mt b) (minOf sec shift) shift) :
    Calls Tryd.prog 9 #[spanV a b, .int .i64 sec, .int .i64 shift] w fun e w' => e = .returned (.tuple #[.bool true, .int .i64 0]) ∧ Below w.heap.size w w' :=
  (sin_yes a b sec shift w hB ua ub ha hb ht hs).mono fun e w' ⟨r, he, hr, hb⟩ => ⟨by rw [he, hr.2 h], hb⟩
theorem sin_false (hB : BdsAt w) (ua : Us a) (ub : Us b) (ha : kc a = true) (hb : kc b = true) (ht : tmB sec = true) (hs : shB shift = true) (h : ¬ InP (mt a) (mt b) (minOf sec shift) shift) :
    Calls Tryd.prog 9 #[spanV a b, .int .i64 sec, .int .i64 shift] w fun e w' => e = .returned (.tuple #[.bool false, .int .i64 0]) ∧ Below w.heap.size w w' :=
  (sin_yes a b sec shift w hB ua ub ha hb ht hs).mono fun e w' ⟨r, he, hr, hb⟩ => ⟨by rw [he, show r = false by cases r; rfl; exact absurd (hr.1 rfl) h], hb⟩
set_option maxHeartbeats 4000000 in
theorem edge_no (hB : BdsAt w) (h : kc a = false ∨ kc b = false ∨ tmB sec = false ∨ shB shift = false) :
    Calls Tryd.prog 10 #[spanV a b, .int .i64 sec, .int .i64 shift] w fun e w' => e = .returned (.tuple #[.int .i64 0, .bool false, .int .i64 1]) ∧ Below w.heap.size w w' := by
  have c1 := fun w hB => sin_no a b sec shift w hB h
  clear h
  go_enter Tryd.func10, Tryd.ntmps10
  go_wp2_with (first
    | (go_at_call 9; (with_reducible refine (c1 _ (hB.below (balloc _) (Nat.le_refl _))).mono ?_); rintro e w1 ⟨rfl, hb1⟩; have hw1 : Hid (Below w.heap.size w w1) := (balloc _).trans (hb1.mono (by simp))))
  go_ret3
  exact ⟨rfl, hw1⟩

set_option maxHeartbeats 16000000 in
theorem edge_in (hB : BdsAt w) (hT : TabIs64 w) (ua : Us a) (ub : Us b) (ha : kc a = true) (hb : kc b = true) (ht : tmB sec = true) (hs : shB shift = true) (hin :  InP (mt a) (mt b) (minOf sec shift) shift) :
    Calls Tryd.prog 10 #[spanV a b, .int .i64 sec, .int .i64 shift] w (EdgeAns b a b true shift sec w) := by
  have c1 := fun sec w hB ht => sin_yes a b sec shift w hB ua ub ha hb ht hs
  have c0 := fun w hB => sin_true a b sec shift w hB ua ub ha hb ht hs hin
  have c2 := fun sec w hB hT ht => nextK b sec shift w hB hT ub hb ht hs
  have HT0 : Hid (tmB sec = true) := ht
  have HT : Hid (TabIs64 w) := hT
  clear ha hb ht hs ua ub hin hT
  go_enter Tryd.func10, Tryd.ntmps10
  go_wp2_with (first
    | (go_at_call 9; (with_reducible refine (c0 _ (hB.below (balloc _) (Nat.le_refl _))).mono ?_); rintro e w1 ⟨rfl, hb1⟩; have hB1 : BdsAt w1 := (hB.below (balloc _) (Nat.le_refl _)).below hb1 (Nat.le_refl _); have hT1 : TabIs64 w1 := (tabA HT.out).below hb1 (Nat.le_refl _); have hw1 : Hid (Below w.heap.size w w1) := (balloc _).trans (hb1.mono (by simp)); obtain ⟨hc1, hf1⟩ := bcell hb1; have hz1 : w.heap.size < w1.heap.size := (by have := hb1.size; simp at this; omega)))
  go_loopw [1, 32] (fun s i wr => ∃ j t : Int, 0 ≤ j ∧ j ≤ 200 ∧ i = .int .i64 j ∧ s = .int .i64 t ∧ tmB t = true ∧ (∀ n ok, EdgeR b a b true shift (200 - j).toNat t n ok → EdgeR b a b true shift 200 sec n ok) ∧ BdsAt wr ∧ TabIs64 wr ∧ Below w.heap.size w wr ∧ w1.heap.size < wr.heap.size ∧ (∀ o, wr.cell? ⟨w.heap.size, o, none⟩ = (#[Value.int .u64 a.mi, .int .u64 a.ho, .int .u64 a.da, .int .u64 a.mn, .int .u64 a.we, .bool a.ad, .bool a.aw, .int .u64 b.mi, .int .u64 b.ho, .int .u64 b.da, .int .u64 b.mn, .int .u64 b.we, .bool b.ad, .bool b.aw])[o]?) ∧ (∀ o, wr.cell? ⟨w1.heap.size, o, none⟩ = (#[Value.int .u64 b.mi, .int .u64 b.ho, .int .u64 b.da, .int .u64 b.mn, .int .u64 b.we, .bool b.ad, .bool b.aw])[o]?)) (fun _ i _ => (200 - intOf i).toNat)
  case atStart =>
    refine ⟨0, sec, by omega, by omega, rfl, rfl, HT0.out, fun n ok h => h, hB1.below (balloc _) (Nat.le_refl _), tabA hT1, bstep hw1 (balloc _), by simp, fun o => ?_, fun o => ?_⟩
    · rw [(bcell (balloc _)).1 _ _ hz1, hc1 _ _ (by simp)]; simp
    · simp
  case round =>
    clear hc1 hf1 hb1
    obtain ⟨j, t, hj1, hj2, rfl, rfl, htt, hE, hBr, hTr, hwr0, hzr, hCa, hCc⟩ := hrel
    have HE : Hid (∀ n ok, EdgeR b a b true shift (200 - j).toNat t n ok → EdgeR b a b true shift 200 sec n ok) := hE
    have HTT : Hid (tmB t = true) := htt
    have hwr : Hid (Below w.heap.size w wr) := hwr0
    have hzw : w.heap.size < wr.heap.size := by omega
    clear hE htt hwr0
    by_cases hlt : j < 200
    · go_wp2_with (first
        | (go_at_call 18; (with_reducible refine (c2 t _ hBr hTr HTT.out).mono ?_); rintro e w2 ⟨m, ok, rfl, hN0, hb2⟩; have hN : Hid (NextR b (minOf t shift) shift m ok) := hN0; clear hN0; have hB2 : BdsAt w2 := hBr.below hb2 (Nat.le_refl _); have hT2 : TabIs64 w2 := hTr.below hb2 (Nat.le_refl _); have hw2 : Hid (Below w.heap.size w w2) := bstep hwr hb2; have hCa2 : ∀ o, w2.cell? ⟨w.heap.size, o, none⟩ = (#[Value.int .u64 a.mi, .int .u64 a.ho, .int .u64 a.da, .int .u64 a.mn, .int .u64 a.we, .bool a.ad, .bool a.aw, .int .u64 b.mi, .int .u64 b.ho, .int .u64 b.da, .int .u64 b.mn, .int .u64 b.we, .bool b.ad, .bool b.aw])[o]? := (fun o => ((bcell hb2).1 _ _ hzw).trans (hCa o)); have hCc2 : ∀ o, w2.cell? ⟨w1.heap.size, o, none⟩ = (#[Value.int .u64 b.mi, .int .u64 b.ho, .int .u64 b.da, .int .u64 b.mn, .int .u64 b.we, .bool b.ad, .bool b.aw])[o]? := (fun o => ((bcell hb2).1 _ _ hzr).trans (hCc o)); have hz2 : w1.heap.size < w2.heap.size := (by have := hb2.size; omega); have hz2w : w.heap.size < w2.heap.size := (by omega); cases ok)
        | (go_at_call 9; (with_reducible refine (c1 m _ hB2 (next_in hN.out)).mono ?_); rintro e w3 ⟨q, rfl, hq0, hb3⟩; have hq : InQ q a b (minOf m shift) shift := hq0; clear hq0; have hB3 : BdsAt w3 := hB2.below hb3 (Nat.le_refl _); have hT3 : TabIs64 w3 := hT2.below hb3 (Nat.le_refl _); have hw3 : Hid (Below w.heap.size w w3) := bstep hw2 hb3; have hCa3 : ∀ o, w3.cell? ⟨w.heap.size, o, none⟩ = (#[Value.int .u64 a.mi, .int .u64 a.ho, .int .u64 a.da, .int .u64 a.mn, .int .u64 a.we, .bool a.ad, .bool a.aw, .int .u64 b.mi, .int .u64 b.ho, .int .u64 b.da, .int .u64 b.mn, .int .u64 b.we, .bool b.ad, .bool b.aw])[o]? := (fun o => ((bcell hb3).1 _ _ hz2w).trans (hCa2 o)); have hCc3 : ∀ o, w3.cell? ⟨w1.heap.size, o, none⟩ = (#[Value.int .u64 b.mi, .int .u64 b.ho, .int .u64 b.da, .int .u64 b.mn, .int .u64 b.we, .bool b.ad, .bool b.aw])[o]? := (fun o => ((bcell hb3).1 _ _ hz2).trans (hCc2 o)); have hz3 : w1.heap.size < w3.heap.size := (by have := hb3.size; omega); cases q))
      all_goals first
        | (go_ret3; exact ⟨m, true, rfl, HE.out _ _ (edge_turn ⟨hj1, hlt⟩ hN.out hq (by decide)), hw3⟩)
        | (go_ret3; exact ⟨0, false, rfl, HE.out _ _ (edge_none ⟨hj1, hlt⟩ (next_zero hN.out)), hw2⟩)
        | (go_roundw
           case rel => exact ⟨j + 1, m, by omega, by omega, rfl, rfl, next_in hN.out, fun n ok g => HE.out n ok (edge_step ⟨hj1, hlt⟩ hN.out hq g), hB3, hT3, hw3, hz3, hCa3, hCc3⟩
           case measure => simp [intOf]; omega)
    · have hj : j = 200 := by omega
      subst hj
      go_wp2
      go_ret3
      exact ⟨0, false, rfl, HE.out _ _ edge_zero, hwr⟩

set_option maxHeartbeats 16000000 in
theorem edge_out (hB : BdsAt w) (hT : TabIs64 w) (ua : Us a) (ub : Us b) (ha : kc a = true) (hb : kc b = true) (ht : tmB sec = true) (hs : shB shift = true) (hin : ¬ InP (mt a) (mt b) (minOf sec shift) shift) :
    Calls Tryd.prog 10 #[spanV a b, .int .i64 sec, .int .i64 shift] w (EdgeAns a a b false shift sec w) := by
  have c1 := fun sec w hB ht => sin_yes a b sec shift w hB ua ub ha hb ht hs
  have c0 := fun w hB => sin_false a b sec shift w hB ua ub ha hb ht hs hin
  have c2 := fun sec w hB hT ht => nextK a sec shift w hB hT ua ha ht hs
  have HT0 : Hid (tmB sec = true) := ht
  have HT : Hid (TabIs64 w) := hT
  clear ha hb ht hs ua ub hin hT
  go_enter Tryd.func10, Tryd.ntmps10
  go_wp2_with (first
    | (go_at_call 9; (with_reducible refine (c0 _ (hB.below (balloc _) (Nat.le_refl _))).mono ?_); rintro e w1 ⟨rfl, hb1⟩; have hB1 : BdsAt w1 := (hB.below (balloc _) (Nat.le_refl _)).below hb1 (Nat.le_refl _); have hT1 : TabIs64 w1 := (tabA HT.out).below hb1 (Nat.le_refl _); have hw1 : Hid (Below w.heap.size w w1) := (balloc _).trans (hb1.mono (by simp)); obtain ⟨hc1, hf1⟩ := bcell hb1; have hz1 : w.heap.size < w1.heap.size := (by have := hb1.size; simp at this; omega)))
  go_loopw [1, 32] (fun s i wr => ∃ j t : Int, 0 ≤ j ∧ j ≤ 200 ∧ i = .int .i64 j ∧ s = .int .i64 t ∧ tmB t = true ∧ (∀ n ok, EdgeR a a b false shift (200 - j).toNat t n ok → EdgeR a a b false shift 200 sec n ok) ∧ BdsAt wr ∧ TabIs64 wr ∧ Below w.heap.size w wr ∧ w1.heap.size < wr.heap.size ∧ (∀ o, wr.cell? ⟨w.heap.size, o, none⟩ = (#[Value.int .u64 a.mi, .int .u64 a.ho, .int .u64 a.da, .int .u64 a.mn, .int .u64 a.we, .bool a.ad, .bool a.aw, .int .u64 b.mi, .int .u64 b.ho, .int .u64 b.da, .int .u64 b.mn, .int .u64 b.we, .bool b.ad, .bool b.aw])[o]?) ∧ (∀ o, wr.cell? ⟨w1.heap.size, o, none⟩ = (#[Value.int .u64 a.mi, .int .u64 a.ho, .int .u64 a.da, .int .u64 a.mn, .int .u64 a.we, .bool a.ad, .bool a.aw])[o]?)) (fun _ i _ => (200 - intOf i).toNat)
  case atStart =>
    refine ⟨0, sec, by omega, by omega, rfl, rfl, HT0.out, fun n ok h => h, hB1.below (balloc _) (Nat.le_refl _), tabA hT1, bstep hw1 (balloc _), by simp, fun o => ?_, fun o => ?_⟩
    · rw [(bcell (balloc _)).1 _ _ hz1, hc1 _ _ (by simp)]; simp
    · simp
  case round =>
    clear hc1 hf1 hb1
    obtain ⟨j, t, hj1, hj2, rfl, rfl, htt, hE, hBr, hTr, hwr0, hzr, hCa, hCc⟩ := hrel
    have HE : Hid (∀ n ok, EdgeR a a b false shift (200 - j).toNat t n ok → EdgeR a a b false shift 200 sec n ok) := hE
    have HTT : Hid (tmB t = true) := htt
    have hwr : Hid (Below w.heap.size w wr) := hwr0
    have hzw : w.heap.size < wr.heap.size := by omega
    clear hE htt hwr0
    by_cases hlt : j < 200
    · go_wp2_with (first
        | (go_at_call 18; (with_reducible refine (c2 t _ hBr hTr HTT.out).mono ?_); rintro e w2 ⟨m, ok, rfl, hN0, hb2⟩; have hN : Hid (NextR a (minOf t shift) shift m ok) := hN0; clear hN0; have hB2 : BdsAt w2 := hBr.below hb2 (Nat.le_refl _); have hT2 : TabIs64 w2 := hTr.below hb2 (Nat.le_refl _); have hw2 : Hid (Below w.heap.size w w2) := bstep hwr hb2; have hCa2 : ∀ o, w2.cell? ⟨w.heap.size, o, none⟩ = (#[Value.int .u64 a.mi, .int .u64 a.ho, .int .u64 a.da, .int .u64 a.mn, .int .u64 a.we, .bool a.ad, .bool a.aw, .int .u64 b.mi, .int .u64 b.ho, .int .u64 b.da, .int .u64 b.mn, .int .u64 b.we, .bool b.ad, .bool b.aw])[o]? := (fun o => ((bcell hb2).1 _ _ hzw).trans (hCa o)); have hCc2 : ∀ o, w2.cell? ⟨w1.heap.size, o, none⟩ = (#[Value.int .u64 a.mi, .int .u64 a.ho, .int .u64 a.da, .int .u64 a.mn, .int .u64 a.we, .bool a.ad, .bool a.aw])[o]? := (fun o => ((bcell hb2).1 _ _ hzr).trans (hCc o)); have hz2 : w1.heap.size < w2.heap.size := (by have := hb2.size; omega); have hz2w : w.heap.size < w2.heap.size := (by omega); cases ok)
        | (go_at_call 9; (with_reducible refine (c1 m _ hB2 (next_in hN.out)).mono ?_); rintro e w3 ⟨q, rfl, hq0, hb3⟩; have hq : InQ q a b (minOf m shift) shift := hq0; clear hq0; have hB3 : BdsAt w3 := hB2.below hb3 (Nat.le_refl _); have hT3 : TabIs64 w3 := hT2.below hb3 (Nat.le_refl _); have hw3 : Hid (Below w.heap.size w w3) := bstep hw2 hb3; have hCa3 : ∀ o, w3.cell? ⟨w.heap.size, o, none⟩ = (#[Value.int .u64 a.mi, .int .u64 a.ho, .int .u64 a.da, .int .u64 a.mn, .int .u64 a.we, .bool a.ad, .bool a.aw, .int .u64 b.mi, .int .u64 b.ho, .int .u64 b.da, .int .u64 b.mn, .int .u64 b.we, .bool b.ad, .bool b.aw])[o]? := (fun o => ((bcell hb3).1 _ _ hz2w).trans (hCa2 o)); have hCc3 : ∀ o, w3.cell? ⟨w1.heap.size, o, none⟩ = (#[Value.int .u64 a.mi, .int .u64 a.ho, .int .u64 a.da, .int .u64 a.mn, .int .u64 a.we, .bool a.ad, .bool a.aw])[o]? := (fun o => ((bcell hb3).1 _ _ hz2).trans (hCc2 o)); have hz3 : w1.heap.size < w3.heap.size := (by have := hb3.size; omega); cases q))
      all_goals first
        | (go_ret3; exact ⟨m, true, rfl, HE.out _ _ (edge_turn ⟨hj1, hlt⟩ hN.out hq (by decide)), hw3⟩)
        | (go_ret3; exact ⟨0, false, rfl, HE.out _ _ (edge_none ⟨hj1, hlt⟩ (next_zero hN.out)), hw2⟩)
        | (go_roundw
           case rel => exact ⟨j + 1, m, by omega, by omega, rfl, rfl, next_in hN.out, fun n ok g => HE.out n ok (edge_step ⟨hj1, hlt⟩ hN.out hq g), hB3, hT3, hw3, hz3, hCa3, hCc3⟩
           case measure => simp [intOf]; omega)
    · have hj : j = 200 := by omega
      subst hj
      go_wp2
      go_ret3
      exact ⟨0, false, rfl, HE.out _ _ edge_zero, hwr⟩
end
end Crn
end Go.Proofs.YtdigiomaggnjoabDoor
