/- What the document's answer (tideref) says of spans: Span, Within, Edge. -/
import Derived.Test.YtdigiomaggnjoabDoorSpanEdge
import Derived.Test.YtdigiomaggnjoabDoorSeekUp
import Derived.Test.YtdigiomaggnjoabDoorSeekDown
import Derived.Test.YtdigiomaggnjoabDoorRefChk
namespace Go.Proofs.YtdigiomaggnjoabDoor
namespace RCrn
open Go.RowKit Lai Civ Cal Crn RCiv Rst
set_option maxRecDepth 8000

section
variable (a b : K) (sec shift : Int) (w : World)
theorem rcronK (u : Us a) (r : Int) (h : (if kc a = true then 0 else 1) = r) : Calls Tryd.prog 11 #[kV a] w fun e w' => e = .returned (.int .i64 r) ∧ Below w.heap.size w w' := by
  have := rcron_any a.mi a.ho a.da a.mn a.we a.ad a.aw w u.u0 u.u1 u.u2 u.u3 u.u4
  rwa [show chkE a.mi a.ho a.da a.mn a.we a.ad a.aw = r from h] at this
theorem seekD (u : Us a) (ht : tmB sec = true) (hs : shB shift = true) :
    Calls Tryd.prog 16 #[kV a, .int .i64 sec, .int .i64 shift, .int .i64 (-1)] w fun e w' => ∃ n ok, e = .returned (.tuple #[.int .i64 n, .bool ok]) ∧ LastR a (minOf sec shift) shift n ok ∧ Below w.heap.size w w' :=
  (seekDown _ _ _ _ _ _ _ sec shift w u.u0 u.u1 u.u2 u.u3 u.u4 ht hs).mono fun _ _ ⟨n, ok, he, hn, hb⟩ => ⟨n, ok, he, lastR_of hn, hb⟩
theorem seekU (u : Us a) (ht : tmB sec = true) (hs : shB shift = true) :
    Calls Tryd.prog 16 #[kV a, .int .i64 sec, .int .i64 shift, .int .i64 1] w fun e w' => ∃ n ok, e = .returned (.tuple #[.int .i64 n, .bool ok]) ∧ NextR a (minOf sec shift) shift n ok ∧ Below w.heap.size w w' :=
  (seekUp _ _ _ _ _ _ _ sec shift w u.u0 u.u1 u.u2 u.u3 u.u4 ht hs).mono fun _ _ ⟨n, ok, he, hn, hb⟩ => ⟨n, ok, he, nextR_of hn, hb⟩

set_option maxHeartbeats 2000000 in
theorem rspan_yes (ua : Us a) (ub : Us b) (ha : kc a = true) (hb : kc b = true) :
    Calls Tryd.prog 4 #[spanV a b] w fun e w' => e = .returned (.int .i64 0) ∧ Below w.heap.size w w' := by
  have c1 := fun w => rcronK a w ua 0 (by rw [ha]; rfl)
  have c2 := fun w => rcronK b w ub 0 (by rw [hb]; rfl)
  clear ha hb ua ub
  go_enter Tryd.func4, Tryd.ntmps4
  go_wp2_with (first
    | (go_at_call 11; (with_reducible refine (c1 _).mono ?_); rintro e w1 ⟨rfl, hb1⟩; have hw1 : Hid (Below w.heap.size w w1) := (balloc _).trans (hb1.mono (by simp)); obtain ⟨hc1, hf1⟩ := bcell hb1)
    | (go_at_call 11; (with_reducible refine (c2 _).mono ?_); rintro e w2 ⟨rfl, hb2⟩))
  go_ret
  exact ⟨rfl, bstep hw1 hb2⟩
set_option maxHeartbeats 2000000 in
theorem rspan_no (ua : Us a) (ub : Us b) (h : kc a = false ∨ kc b = false) :
    Calls Tryd.prog 4 #[spanV a b] w fun e w' => e = .returned (.int .i64 1) ∧ Below w.heap.size w w' := by
  cases ha : kc a
  · have c1 := fun w => rcronK a w ua 1 (by rw [ha]; rfl)
    clear ha h ua ub
    go_enter Tryd.func4, Tryd.ntmps4
    go_wp2_with (first
      | (go_at_call 11; (with_reducible refine (c1 _).mono ?_); rintro e w1 ⟨rfl, hb1⟩; have hw1 : Hid (Below w.heap.size w w1) := (balloc _).trans (hb1.mono (by simp))))
    go_ret
    exact ⟨rfl, hw1⟩
  · have hb : kc b = false := by rcases h with h | h; (rw [ha] at h; cases h); exact h
    have c1 := fun w => rcronK a w ua 0 (by rw [ha]; rfl)
    have c2 := fun w => rcronK b w ub 1 (by rw [hb]; rfl)
    clear ha hb h ua ub
    go_enter Tryd.func4, Tryd.ntmps4
    go_wp2_with (first
      | (go_at_call 11; (with_reducible refine (c1 _).mono ?_); rintro e w1 ⟨rfl, hb1⟩; have hw1 : Hid (Below w.heap.size w w1) := (balloc _).trans (hb1.mono (by simp)); obtain ⟨hc1, hf1⟩ := bcell hb1)
      | (go_at_call 11; (with_reducible refine (c2 _).mono ?_); rintro e w2 ⟨rfl, hb2⟩))
    go_ret
    exact ⟨rfl, bstep hw1 hb2⟩

theorem not_lt (n m : Int) : (!decide (n < m)) = decide (m ≤ n) := by by_cases h : n < m <;> simp [h] <;> omega
set_option maxHeartbeats 8000000 in
theorem rwithin (ua : Us a) (ub : Us b) (ht : tmB sec = true) (hs : shB shift = true) :
    Calls Tryd.prog 7 #[spanV a b, .int .i64 sec, .int .i64 shift] w fun e w' => ∃ r, e = .returned (.bool r) ∧ InQ r a b (minOf sec shift) shift ∧ Below w.heap.size w w' := by
  have c2 := fun w => seekD a sec shift w ua ht hs
  have c3 := fun w => seekD b sec shift w ub ht hs
  clear ht hs ua ub
  go_enter Tryd.func7, Tryd.ntmps7
  go_wp2_with (first
    | (go_at_call 16; (with_reducible refine (c2 _).mono ?_); rintro e w2 ⟨n, ok, rfl, hN, hb2⟩; have hw2 : Hid (Below w.heap.size w w2) := (balloc _).trans (hb2.mono (by simp)); obtain ⟨hc2, hf2⟩ := bcell hb2; rcases hN with ⟨rfl, x, HX, hX⟩ | ⟨rfl, rfl, hX⟩; all_goals ((try (replace HX : Hid _ := HX)); replace hX : Hid _ := hX))
    | (go_at_call 16; (with_reducible refine (c3 _).mono ?_); rintro e w3 ⟨m, ok, rfl, hM, hb3⟩; rcases hM with ⟨rfl, y, HY, hY⟩ | ⟨rfl, rfl, hY⟩; all_goals ((try (replace HY : Hid _ := HY)); replace hY : Hid _ := hY)))
  all_goals first
    | (go_ret; exact ⟨_, rfl, inR_two hX.out hY.out HX.out HY.out, bstep hw2 hb3⟩)
    | (go_ret; exact ⟨_, ret_bool (not_lt _ _), inR_two hX.out hY.out HX.out HY.out, bstep hw2 hb3⟩)
    | (go_ret; exact ⟨_, rfl, inR_yes hX.out hY.out, bstep hw2 hb3⟩)
    | (go_ret; exact ⟨_, rfl, inR_no hX.out, bstep hw2 hb3⟩)
theorem rw_true (ua : Us a) (ub : Us b) (ht : tmB sec = true) (hs : shB shift = true) (h : InP (mt a) (mt b) (minOf sec shift) shift) :
    Calls Tryd.prog 7 #[spanV a b, .int .i64 sec, .int .i64 shift] w fun e w' => e = .returned (.bool true) ∧ Below w.heap.size w w' :=
  (rwithin a b sec shift w ua ub ht hs).mono fun e w' ⟨r, he, hr, hb⟩ => ⟨by rw [he, show r = true from hr.2 h], hb⟩
theorem rw_false (ua : Us a) (ub : Us b) (ht : tmB sec = true) (hs : shB shift = true) (h : ¬ InP (mt a) (mt b) (minOf sec shift) shift) :
    Calls Tryd.prog 7 #[spanV a b, .int .i64 sec, .int .i64 shift] w fun e w' => e = .returned (.bool false) ∧ Below w.heap.size w w' :=
  (rwithin a b sec shift w ua ub ht hs).mono fun e w' ⟨r, he, hr, hb⟩ => ⟨by rw [he, show r = false by cases r; rfl; exact absurd (hr.1 rfl) h], hb⟩
def REdgeAns (c a b : K) (r : Bool) (shift sec : Int) (w : World) (e : Ending) (w' : World) : Prop := ∃ n ok, e = .returned (.tuple #[.int .i64 n, .bool ok]) ∧ EdgeR c a b r shift 200 sec n ok ∧ Below w.heap.size w w'

set_option maxHeartbeats 16000000 in
theorem redge_in (ua : Us a) (ub : Us b) (ht : tmB sec = true) (hs : shB shift = true) (hin :  InP (mt a) (mt b) (minOf sec shift) shift) :
    Calls Tryd.prog 8 #[spanV a b, .int .i64 sec, .int .i64 shift] w (REdgeAns b a b true shift sec w) := by
  have c1 := fun sec w ht => rwithin a b sec shift w ua ub ht hs
  have c0 := fun w => rw_true a b sec shift w ua ub ht hs hin
  have c2 := fun sec w ht => seekU b sec shift w ub ht hs
  have HT0 : Hid (tmB sec = true) := ht
  clear ht hs ua ub hin
  go_enter Tryd.func8, Tryd.ntmps8
  go_wp2_with (first
    | (go_at_call 7; (with_reducible refine (c0 _).mono ?_); rintro e w1 ⟨rfl, hb1⟩; have hw1 : Hid (Below w.heap.size w w1) := (balloc _).trans (hb1.mono (by simp)); obtain ⟨hc1, hf1⟩ := bcell hb1; have hz1 : w.heap.size < w1.heap.size := (by have := hb1.size; simp at this; omega)))
  go_loopw [1, 9] (fun s i wr => ∃ j t : Int, 0 ≤ j ∧ j ≤ 200 ∧ i = .int .i64 j ∧ s = .int .i64 t ∧ tmB t = true ∧ (∀ n ok, EdgeR b a b true shift (200 - j).toNat t n ok → EdgeR b a b true shift 200 sec n ok) ∧ Below w.heap.size w wr ∧ w.heap.size < wr.heap.size ∧ (∀ o, wr.cell? ⟨w.heap.size, o, none⟩ = (#[Value.int .u64 a.mi, .int .u64 a.ho, .int .u64 a.da, .int .u64 a.mn, .int .u64 a.we, .bool a.ad, .bool a.aw, .int .u64 b.mi, .int .u64 b.ho, .int .u64 b.da, .int .u64 b.mn, .int .u64 b.we, .bool b.ad, .bool b.aw])[o]?)) (fun _ i _ => (200 - intOf i).toNat)
  case atStart => exact ⟨0, sec, by omega, by omega, rfl, rfl, HT0.out, fun n ok h => h, hw1, hz1, fun o => by rw [hc1 _ _ (by simp)]; simp⟩
  case round =>
    clear hc1 hf1 hb1
    obtain ⟨j, t, hj1, hj2, rfl, rfl, htt, hE, hwr0, hzw, hCa⟩ := hrel
    have HE : Hid (∀ n ok, EdgeR b a b true shift (200 - j).toNat t n ok → EdgeR b a b true shift 200 sec n ok) := hE
    have HTT : Hid (tmB t = true) := htt
    have hwr : Hid (Below w.heap.size w wr) := hwr0
    clear hE htt hwr0
    by_cases hlt : j < 200
    · go_wp2_with (first
        | (go_at_call 16; (with_reducible refine (c2 t _ HTT.out).mono ?_); rintro e w2 ⟨m, ok, rfl, hN0, hb2⟩; have hN : Hid (NextR b (minOf t shift) shift m ok) := hN0; clear hN0; have hw2 : Hid (Below w.heap.size w w2) := bstep hwr ((balloc _).trans (hb2.mono (by simp))); have hCa2 : ∀ o, w2.cell? ⟨w.heap.size, o, none⟩ = (#[Value.int .u64 a.mi, .int .u64 a.ho, .int .u64 a.da, .int .u64 a.mn, .int .u64 a.we, .bool a.ad, .bool a.aw, .int .u64 b.mi, .int .u64 b.ho, .int .u64 b.da, .int .u64 b.mn, .int .u64 b.we, .bool b.ad, .bool b.aw])[o]? := (fun o => by rw [(bcell hb2).1 _ _ (by simp; omega), (bcell (balloc _)).1 _ _ hzw]; exact hCa o); have hz2w : w.heap.size < w2.heap.size := (by have := hb2.size; simp at this; omega); cases ok)
        | (go_at_call 7; (with_reducible refine (c1 m _ (next_in hN.out)).mono ?_); rintro e w3 ⟨q, rfl, hq, hb3⟩; have hw3 : Hid (Below w.heap.size w w3) := bstep hw2 hb3; have hCa3 : ∀ o, w3.cell? ⟨w.heap.size, o, none⟩ = (#[Value.int .u64 a.mi, .int .u64 a.ho, .int .u64 a.da, .int .u64 a.mn, .int .u64 a.we, .bool a.ad, .bool a.aw, .int .u64 b.mi, .int .u64 b.ho, .int .u64 b.da, .int .u64 b.mn, .int .u64 b.we, .bool b.ad, .bool b.aw])[o]? := (fun o => ((bcell hb3).1 _ _ hz2w).trans (hCa2 o)); have hz3 : w.heap.size < w3.heap.size := (by have := hb3.size; omega); cases q))
      all_goals first
        | (go_ret2; exact ⟨m, true, rfl, HE.out _ _ (edge_turn ⟨hj1, hlt⟩ hN.out hq (by decide)), hw3⟩)
        | (go_ret2; exact ⟨0, false, rfl, HE.out _ _ (edge_none ⟨hj1, hlt⟩ (next_zero hN.out)), hw2⟩)
        | (go_roundw
           case rel => exact ⟨j + 1, m, by omega, by omega, rfl, rfl, next_in hN.out, fun n ok g => HE.out n ok (edge_step ⟨hj1, hlt⟩ hN.out hq g), hw3, hz3, hCa3⟩
           case measure => simp [intOf]; omega)
    · have hj : j = 200 := by omega
      subst hj
      go_wp2
      go_ret2
      exact ⟨0, false, rfl, HE.out _ _ edge_zero, hwr⟩

set_option maxHeartbeats 16000000 in
theorem redge_out (ua : Us a) (ub : Us b) (ht : tmB sec = true) (hs : shB shift = true) (hin : ¬ InP (mt a) (mt b) (minOf sec shift) shift) :
    Calls Tryd.prog 8 #[spanV a b, .int .i64 sec, .int .i64 shift] w (REdgeAns a a b false shift sec w) := by
  have c1 := fun sec w ht => rwithin a b sec shift w ua ub ht hs
  have c0 := fun w => rw_false a b sec shift w ua ub ht hs hin
  have c2 := fun sec w ht => seekU a sec shift w ua ht hs
  have HT0 : Hid (tmB sec = true) := ht
  clear ht hs ua ub hin
  go_enter Tryd.func8, Tryd.ntmps8
  go_wp2_with (first
    | (go_at_call 7; (with_reducible refine (c0 _).mono ?_); rintro e w1 ⟨rfl, hb1⟩; have hw1 : Hid (Below w.heap.size w w1) := (balloc _).trans (hb1.mono (by simp)); obtain ⟨hc1, hf1⟩ := bcell hb1; have hz1 : w.heap.size < w1.heap.size := (by have := hb1.size; simp at this; omega)))
  go_loopw [1, 9] (fun s i wr => ∃ j t : Int, 0 ≤ j ∧ j ≤ 200 ∧ i = .int .i64 j ∧ s = .int .i64 t ∧ tmB t = true ∧ (∀ n ok, EdgeR a a b false shift (200 - j).toNat t n ok → EdgeR a a b false shift 200 sec n ok) ∧ Below w.heap.size w wr ∧ w.heap.size < wr.heap.size ∧ (∀ o, wr.cell? ⟨w.heap.size, o, none⟩ = (#[Value.int .u64 a.mi, .int .u64 a.ho, .int .u64 a.da, .int .u64 a.mn, .int .u64 a.we, .bool a.ad, .bool a.aw, .int .u64 b.mi, .int .u64 b.ho, .int .u64 b.da, .int .u64 b.mn, .int .u64 b.we, .bool b.ad, .bool b.aw])[o]?)) (fun _ i _ => (200 - intOf i).toNat)
  case atStart => exact ⟨0, sec, by omega, by omega, rfl, rfl, HT0.out, fun n ok h => h, hw1, hz1, fun o => by rw [hc1 _ _ (by simp)]; simp⟩
  case round =>
    clear hc1 hf1 hb1
    obtain ⟨j, t, hj1, hj2, rfl, rfl, htt, hE, hwr0, hzw, hCa⟩ := hrel
    have HE : Hid (∀ n ok, EdgeR a a b false shift (200 - j).toNat t n ok → EdgeR a a b false shift 200 sec n ok) := hE
    have HTT : Hid (tmB t = true) := htt
    have hwr : Hid (Below w.heap.size w wr) := hwr0
    clear hE htt hwr0
    by_cases hlt : j < 200
    · go_wp2_with (first
        | (go_at_call 16; (with_reducible refine (c2 t _ HTT.out).mono ?_); rintro e w2 ⟨m, ok, rfl, hN0, hb2⟩; have hN : Hid (NextR a (minOf t shift) shift m ok) := hN0; clear hN0; have hw2 : Hid (Below w.heap.size w w2) := bstep hwr ((balloc _).trans (hb2.mono (by simp))); have hCa2 : ∀ o, w2.cell? ⟨w.heap.size, o, none⟩ = (#[Value.int .u64 a.mi, .int .u64 a.ho, .int .u64 a.da, .int .u64 a.mn, .int .u64 a.we, .bool a.ad, .bool a.aw, .int .u64 b.mi, .int .u64 b.ho, .int .u64 b.da, .int .u64 b.mn, .int .u64 b.we, .bool b.ad, .bool b.aw])[o]? := (fun o => by rw [(bcell hb2).1 _ _ (by simp; omega), (bcell (balloc _)).1 _ _ hzw]; exact hCa o); have hz2w : w.heap.size < w2.heap.size := (by have := hb2.size; simp at this; omega); cases ok)
        | (go_at_call 7; (with_reducible refine (c1 m _ (next_in hN.out)).mono ?_); rintro e w3 ⟨q, rfl, hq, hb3⟩; have hw3 : Hid (Below w.heap.size w w3) := bstep hw2 hb3; have hCa3 : ∀ o, w3.cell? ⟨w.heap.size, o, none⟩ = (#[Value.int .u64 a.mi, .int .u64 a.ho, .int .u64 a.da, .int .u64 a.mn, .int .u64 a.we, .bool a.ad, .bool a.aw, .int .u64 b.mi, .int .u64 b.ho, .int .u64 b.da, .int .u64 b.mn, .int .u64 b.we, .bool b.ad, .bool b.aw])[o]? := (fun o => ((bcell hb3).1 _ _ hz2w).trans (hCa2 o)); have hz3 : w.heap.size < w3.heap.size := (by have := hb3.size; omega); cases q))
      all_goals first
        | (go_ret2; exact ⟨m, true, rfl, HE.out _ _ (edge_turn ⟨hj1, hlt⟩ hN.out hq (by decide)), hw3⟩)
        | (go_ret2; exact ⟨0, false, rfl, HE.out _ _ (edge_none ⟨hj1, hlt⟩ (next_zero hN.out)), hw2⟩)
        | (go_roundw
           case rel => exact ⟨j + 1, m, by omega, by omega, rfl, rfl, next_in hN.out, fun n ok g => HE.out n ok (edge_step ⟨hj1, hlt⟩ hN.out hq g), hw3, hz3, hCa3⟩
           case measure => simp [intOf]; omega)
    · have hj : j = 200 := by omega
      subst hj
      go_wp2
      go_ret2
      exact ⟨0, false, rfl, HE.out _ _ edge_zero, hwr⟩
end
end RCrn
end Go.Proofs.YtdigiomaggnjoabDoor
