
/- What each function of package buffer answers: New, Ask, Late, Lost, Done, All, Count. -/
import Derived.Test.YtkflelbpiabcpagBufMay
import Derived.Maps.AppendAt
namespace Go.Proofs.Ytkflelbpiabcpag
namespace Buf
open Go.RowKit Rw Rec
set_option maxRecDepth 8000

theorem cell_at {W : World} {cs : Array Value} {e : TypeId} {N j : Nat} {v : Value} (hN : N = W.heap.size) (hj : cs[j]? = some v) : (W.alloc (.cells cs e)).cell? ⟨N, j, none⟩ = some v := by
  subst hN; simpa using hj
theorem grown_drew {w w' : World} {o : Obj} {b : Option Nat} (h : (w.alloc o).grownBy w' b) : (w.drew.alloc o).grownBy w' b := ⟨h.os, h.tape, h.output, h.size, h.block⟩
theorem new_any (w : World) : Calls Try.prog 28 #[] w fun e w' => e = .returned (.pointer (some ⟨w.heap.size, 0, none⟩)) ∧ HAt w' w.heap.size w.heap.size (.slice none 0 0) [] ∧ Below w.heap.size w w' := by
  go_enter Try.func28, Try.ntmps28
  go_wp2
  go_ret
  refine ⟨rfl, ⟨by simp, Nat.le_refl _, fun j u hu => ?_, rfl, fun j => by simp, World.ownsRow_nil _ _ _ _, by simp [Value.ownBlock]⟩, (Below.refl _ _).alloc (Nat.le_refl _) _⟩
  match j, hu with
  | 0, hu => simp at hu; subst hu; simp
  | j + 1, hu => simp at hu
def roomB (L : List Rq) (s : Int) : Bool := decide ((many s 1 L : Int) < 20) && decide ((many (-1) 1 L : Int) < 60) && decide ((L.length : Int) < 200)
set_option maxHeartbeats 2000000 in
theorem hasRoom_any (B Q : Nat) (v : Value) (L : List Rq) (s : Int) (w : World) (hA : HAt w B Q v L) (hL : L.length ≤ 200) (h0 : 0 ≤ s) :
    Calls Try.prog 54 #[.pointer (some ⟨Q, 0, none⟩), .int .i64 s] w fun e w' => e = .returned (.bool (roomB L s)) ∧ Below w.heap.size w w' := by
  obtain ⟨W, hW⟩ : ∃ W, W = w.alloc (.cells #[.int .i64 s] 3) := ⟨_, rfl⟩
  have hAW : HAt W B Q v L := by rw [hW]; exact hA.alloc _
  have hbW : Below w.heap.size w W := by rw [hW]; exact (Below.refl _ _).alloc (Nat.le_refl _) _
  have c1 := count_room B Q v L w.heap.size s W hAW hL (by rw [hW]; exact cell_at rfl rfl)
  have c2 := fun w h => count_waits B Q v L w h hL
  rw [isWs_many L s h0] at c1
  rw [isW_many] at c2
  have HW : Hid (W = w.alloc (.cells #[.int .i64 s] 3)) := hW
  obtain ⟨ao, cap, rfl, hc1, hc2, hao⟩ := hA.form
  unfold roomB
  clear hA hW hao
  cases h1 : decide ((many s 1 L : Int) < 20)
  · go_enter Try.func54, Try.ntmps54
    go_wp2_with (go_at_call 76; rw [← HW.out]; (with_reducible refine c1.mono ?_); rintro e w2 ⟨rfl, hb2⟩)
    go_ret
    exact ⟨rfl, hbW.trans (hb2.mono hbW.size)⟩
  · cases h2 : decide ((many (-1) 1 L : Int) < 60)
    · go_enter Try.func54, Try.ntmps54
      go_wp2_with (go_at_call 76; first | (rw [← HW.out]; (with_reducible refine c1.mono ?_); rintro e w2 ⟨rfl, hb2⟩; have hA2 := hAW.below hb2; have hbw2 := hbW.trans (hb2.mono hbW.size); clear HW) | ((with_reducible refine (c2 _ hA2).mono ?_); rintro e w3 ⟨rfl, hb3⟩))
      go_ret
      exact ⟨rfl, hbw2.trans (hb3.mono hbw2.size)⟩
    · cases h3 : decide ((L.length : Int) < 200)
      all_goals
        go_enter Try.func54, Try.ntmps54
        go_wp2_with (go_at_call 76; first | (rw [← HW.out]; (with_reducible refine c1.mono ?_); rintro e w2 ⟨rfl, hb2⟩; have hA2 := hAW.below hb2; have hbw2 := hbW.trans (hb2.mono hbW.size); clear HW) | ((with_reducible refine (c2 _ hA2).mono ?_); rintro e w3 ⟨rfl, hb3⟩; have cV3 := (hA2.below hb3).cV))
        go_ret
        exact ⟨rfl, hbw2.trans (hb3.mono hbw2.size)⟩
theorem ask_arg (Q : Nat) (now s t : Int) (w : World) (h : ¬ ((0 ≤ now ∧ now ≤ 1099511627776) ∧ (1 ≤ t ∧ t ≤ 100000))) :
    Calls Try.prog 29 #[.pointer (some ⟨Q, 0, none⟩), .int .i64 now, .int .i64 s, .int .i64 t] w fun e w' => e = .returned (.tuple #[.int .i64 0, .int .i64 1]) ∧ w' = w := by
  have c := fun w => isTime_any now w
  cases h1 : tmB now
  · rw [h1] at c
    clear h
    go_enter Try.func29, Try.ntmps29
    go_wp2_with (go_at_call 53; (with_reducible refine (c _).mono ?_); rintro e w' ⟨rfl, h9⟩; have h8 := h9.symm; clear h9; subst h8)
    go_ret2
    exact ⟨rfl, rfl⟩
  · have h1' : 0 ≤ now ∧ now ≤ 1099511627776 := by unfold tmB at h1; simpa using h1
    rw [h1] at c
    by_cases h2 : t < 1
    · clear h h1'
      go_enter Try.func29, Try.ntmps29
      go_wp2_with (go_at_call 53; (with_reducible refine (c _).mono ?_); rintro e w' ⟨rfl, h9⟩; have h8 := h9.symm; clear h9; subst h8)
      go_ret2
      exact ⟨rfl, rfl⟩
    · have h3 : 100000 < t := by omega
      clear h h1'
      go_enter Try.func29, Try.ntmps29
      go_wp2_with (go_at_call 53; (with_reducible refine (c _).mono ?_); rintro e w' ⟨rfl, h9⟩; have h8 := h9.symm; clear h9; subst h8)
      go_ret2
      exact ⟨rfl, rfl⟩
set_option maxHeartbeats 4000000 in
theorem ask_any (L : List Rq) (now s t : Int) (hI : Inv L) : Doth 29 (fun Q => #[.pointer (some ⟨Q, 0, none⟩), .int .i64 now, .int .i64 s, .int .i64 t]) L (askL L now s t) (.returned (.tuple #[.int .i64 (askN L now s t), .int .i64 (askE L now s t)])) := by
  intro B Q v w hA
  obtain ⟨i0, hi, hz0, hz1, hz2⟩ := info_parts info_req
  by_cases h1 : (0 ≤ now ∧ now ≤ 1099511627776) ∧ (1 ≤ t ∧ t ≤ 100000)
  · have c1 := fun w => isTime_any now w
    have ht : tmB now = true := by unfold tmB; simp; exact h1.1
    rw [ht] at c1
    have t1 : ¬ t < 1 := by omega
    have t2 : ¬ 100000 < t := by omega
    by_cases h2 : 0 ≤ s ∧ s ≤ 5
    · have c3 := hasRoom_any B Q v L s w hA hI.len h2.1
      have s1 : ¬ s < 0 := by omega
      have s2 : ¬ 6 ≤ s := by omega
      have hlen := hI.len
      by_cases h3 : 20 ≤ many s 1 L ∨ 60 ≤ many (-1) 1 L ∨ 200 ≤ L.length
      · have hE : askE L now s t = 6 := by unfold askE; rw [if_neg (fun h => h h1), if_neg (fun h => h h2), if_pos h3]
        have hN : askN L now s t = 0 := by unfold askN; rw [hE]; rfl
        have hLL : askL L now s t = L := by unfold askL; rw [hE]; rfl
        have hr : roomB L s = false := by unfold roomB; rw [Bool.and_eq_false_iff, Bool.and_eq_false_iff, decide_eq_false_iff_not, decide_eq_false_iff_not, decide_eq_false_iff_not]; omega
        rw [hr] at c3
        rw [hE, hN, hLL]
        have HA : Hid (HAt w B Q v L) := hA
        clear hE hN hLL h1 h2 hA h3
        go_enter Try.func29, Try.ntmps29
        go_wp2_with (first
          | (go_at_call 53; (with_reducible refine (c1 _).mono ?_); rintro e w' ⟨rfl, h9⟩; have h8 := h9.symm; clear h9; subst h8)
          | (go_at_call 54; (with_reducible refine c3.mono ?_); rintro e w2 ⟨rfl, hb2⟩))
        go_ret2
        exact ⟨rfl, v, HA.out.below hb2, Turn.of_below hb2⟩
      · have hE : askE L now s t = 0 := by unfold askE; rw [if_neg (fun h => h h1), if_neg (fun h => h h2), if_neg h3]
        have hN : askN L now s t = (L.length : Int) + 1 := by unfold askN; rw [hE]; rfl
        have hLL : askL L now s t = L ++ [⟨(L.length : Int) + 1, s, now + t, 1, 0⟩] := by unfold askL; rw [hE]; rfl
        have hr : roomB L s = true := by unfold roomB; rw [Bool.and_eq_true, Bool.and_eq_true, decide_eq_true_eq, decide_eq_true_eq, decide_eq_true_eq]; omega
        rw [hr] at c3
        rw [hE, hN, hLL]
        obtain ⟨ao, cap, rfl, hc1, hc2, hao⟩ := hA.form
        have HA : Hid (HAt w B Q (.slice ao L.length cap) L) := hA
        have hw1 : IntKind.i64.wrap ((L.length : Int) + 1) = (L.length : Int) + 1 := by rw [IntKind.wrap_i64] <;> omega
        have hw2 : IntKind.i64.wrap (now + t) = now + t := by rw [IntKind.wrap_i64] <;> omega
        have h1a := h1.1.1
        have h1b := h1.1.2
        have hBs : B ≤ w.heap.size := by have := RAt.bQ hA; have := hA.lt; omega
        have hl199 : L.length < 200 := by omega
        clear hE hN hLL hA h3 hao h1 ht hr
        go_enter Try.func29, Try.ntmps29
        go_wp2_with (first
          | (go_at_call 53; (with_reducible refine (c1 _).mono ?_); rintro e w' ⟨rfl, h9⟩; have h8 := h9.symm; clear h9; subst h8)
          | (go_at_call 54; (with_reducible refine c3.mono ?_); rintro e w2 ⟨rfl, hb2⟩; have HA2 : Hid (HAt w2 B Q (.slice ao L.length cap) L) := HA.out.below hb2; have cV2 := HA2.out.cV; have f2 := HA2.out.fz 0; have hQ2 := HA2.out.lt; have hs2 := hb2.size)
          | (at_builtin; refine wpList_append_own_at _ rfl _ _ 59 rfl B 90 i0 (.agg #[.int .i64 0, .int .i64 0, .int .i64 0, .int .i64 0, .int .i64 0]) 5 40 Try.underlying59 hi hz0 hz1 hz2 rfl (by decide) _ L.length (cels rK.c L) rfl ((RAt.own HA2.out).alloc _) ⟨w2.heap.size, 0, none⟩ 1 1 [.int .i64 ((L.length : Int) + 1), .int .i64 s, .int .i64 (now + t), .int .i64 1, .int .i64 0] rfl rfl (cell_five _ _ _ _ _ _ _) (fun u hu => by simp at hu; rcases hu with rfl | rfl | rfl | rfl | rfl <;> rfl) (by unfold maxLen; omega) (by omega) (by simp; omega) ?_; intro v' w3 hown3 hgrow0 _ hloc3; have hgrow3 := grown_drew hgrow0; clear hgrow0; obtain ⟨g3, cap3, rfl⟩ := own_succ hown3; have hQ3 := RAt.appended HA2.out hgrow3; have cS3 : w3.cell? ⟨Q, 0, none⟩ = some (.slice ao L.length cap) := (World.cell?_of_block (w := w2) (a := ⟨Q, 0, none⟩) hQ3).trans cV2; have f13 : w3.frozen? ⟨Q, 0, none⟩ = false := (World.frozen?_of_block (w := w2) (a := ⟨Q, 0, none⟩) hQ3).trans f2))
        go_ret2
        have hL' : (L ++ [(⟨(L.length : Int) + 1, s, now + t, 1, 0⟩ : Rq)]).length = L.length + 1 := by simp
        have hC' : cels rK.c L ++ [.int .i64 ((L.length : Int) + 1), .int .i64 s, .int .i64 (now + t), .int .i64 1, .int .i64 0] = cels rK.c (L ++ [⟨(L.length : Int) + 1, s, now + t, 1, 0⟩]) := by
          rw [cels_append]
          rfl
        rw [hC', ← hL'] at hown3
        have hA3 := HAt.regrown HA2.out hQ3 hown3 (own_off HA2.out hloc3)
        rw [hL'] at hA3
        have hT3 := ((Turn.of_below hb2).trans (Turn.appended (Q := Q) hgrow3 hloc3)).setRow 0 (.slice (some ⟨g3, 0, none⟩) (L.length + 1) cap3)
        exact ⟨rfl, _, hA3, hT3⟩
    · have hE : askE L now s t = 4 := by unfold askE; rw [if_neg (fun h => h h1), if_pos h2]
      have hN : askN L now s t = 0 := by unfold askN; rw [hE]; rfl
      have hLL : askL L now s t = L := by unfold askL; rw [hE]; rfl
      rw [hE, hN, hLL]
      by_cases h3 : s < 0
      · clear hE hN hLL h1 h2
        go_enter Try.func29, Try.ntmps29
        go_wp2_with (go_at_call 53; (with_reducible refine (c1 _).mono ?_); rintro e w' ⟨rfl, h9⟩; have h8 := h9.symm; clear h9; subst h8)
        go_ret2
        exact ⟨rfl, v, hA, Turn.refl _ _ _⟩
      · have h4 : 6 ≤ s := by omega
        clear hE hN hLL h1 h2
        go_enter Try.func29, Try.ntmps29
        go_wp2_with (go_at_call 53; (with_reducible refine (c1 _).mono ?_); rintro e w' ⟨rfl, h9⟩; have h8 := h9.symm; clear h9; subst h8)
        go_ret2
        exact ⟨rfl, v, hA, Turn.refl _ _ _⟩
  · have hE : askE L now s t = 1 := by unfold askE; rw [if_pos h1]
    have hN : askN L now s t = 0 := by unfold askN; rw [hE]; rfl
    have hLL : askL L now s t = L := by unfold askL; rw [hE]; rfl
    rw [hE, hN, hLL]
    refine (ask_arg Q now s t w h1).mono ?_
    rintro e w' ⟨rfl, rfl⟩
    exact ⟨rfl, v, hA, Turn.refl _ _ _⟩
set_option maxHeartbeats 2000000 in
theorem late_any (B Q : Nat) (v : Value) (L : List Rq) (c : Int) (w : World) (hA : HAt w B Q v L) (hI : Inv L) (h0 : 0 ≤ c) (h9 : c ≤ 1099511627776) :
    Calls Try.prog 30 #[.pointer (some ⟨Q, 0, none⟩), .int .i64 c] w fun e w' => ∃ o, e = .returned (.tuple #[o, .int .i64 0]) ∧ w'.ownsRow w.heap.size 3 1 o (turnI (isLate c) L).length (cels iK.c (turnI (isLate c) L)) ∧ HAt w' B Q v (turnL (isLate c) 4 L) ∧ Turn Q v v w w' := by
  obtain ⟨W, hW⟩ : ∃ W, W = w.alloc (.cells #[.int .i64 c] 3) := ⟨_, rfl⟩
  have hAW : HAt W B Q v L := by rw [hW]; exact hA.alloc _
  have hbW : Below w.heap.size w W := by rw [hW]; exact (Below.refl _ _).alloc (Nat.le_refl _) _
  have hcW : W.cell? ⟨w.heap.size, 0, none⟩ = some (.int .i64 c) := by rw [hW]; exact cell_at rfl rfl
  have hsW := hbW.size
  have hlt := hA.lt
  have c1 := end_late B Q v L w.heap.size c 4 W hAW hI hcW (by omega) (fun e => by have := hA.rowLt _ e; omega)
  have HW : Hid (W = w.alloc (.cells #[.int .i64 c] 3)) := hW
  clear hA hW hAW hlt
  have c2 := fun w => isTime_any c w
  have ht : tmB c = true := by unfold tmB; simp; exact ⟨h0, h9⟩
  rw [ht] at c2
  clear ht
  go_enter Try.func30, Try.ntmps30
  go_wp2_with (first
    | (go_at_call 53; rw [← HW.out]; (with_reducible refine (c2 _).mono ?_); rintro e w' ⟨rfl, h9⟩; have h8 := h9.symm; clear h9; subst h8)
    | (go_at_call 57; (with_reducible refine c1.mono ?_); rintro e w2 ⟨o, rfl, hown2, hA2, hT2⟩; obtain ⟨bo, bn, bc, hu⟩ : ∃ bo bn bc, o = .slice bo bn bc := (by rcases hown2.2 with ⟨h0, _⟩ | ⟨_, _, _, h0, _⟩ <;> exact ⟨_, _, _, h0⟩); subst hu))
  go_ret2
  exact ⟨_, rfl, World.ownsRow.mono hown2 hsW, hA2, (Turn.of_below hbW).trans hT2⟩
set_option maxHeartbeats 2000000 in
theorem lost_any (B Q : Nat) (v : Value) (L : List Rq) (c : Int) (w : World) (hA : HAt w B Q v L) (hI : Inv L) :
    Calls Try.prog 33 #[.pointer (some ⟨Q, 0, none⟩), .int .i64 c] w fun e w' => ∃ o, e = .returned (o) ∧ w'.ownsRow w.heap.size 3 1 o (turnI (isAt c) L).length (cels iK.c (turnI (isAt c) L)) ∧ HAt w' B Q v (turnL (isAt c) 5 L) ∧ Turn Q v v w w' := by
  obtain ⟨W, hW⟩ : ∃ W, W = w.alloc (.cells #[.int .i64 c] 3) := ⟨_, rfl⟩
  have hAW : HAt W B Q v L := by rw [hW]; exact hA.alloc _
  have hbW : Below w.heap.size w W := by rw [hW]; exact (Below.refl _ _).alloc (Nat.le_refl _) _
  have hcW : W.cell? ⟨w.heap.size, 0, none⟩ = some (.int .i64 c) := by rw [hW]; exact cell_at rfl rfl
  have hsW := hbW.size
  have hlt := hA.lt
  have c1 := end_lost B Q v L w.heap.size c 5 W hAW hI hcW (by omega) (fun e => by have := hA.rowLt _ e; omega)
  have HW : Hid (W = w.alloc (.cells #[.int .i64 c] 3)) := hW
  clear hA hW hAW hlt
  go_enter Try.func33, Try.ntmps33
  go_wp2_with (go_at_call 57; rw [← HW.out]; (with_reducible refine c1.mono ?_); rintro e w2 ⟨o, rfl, hown2, hA2, hT2⟩; obtain ⟨bo, bn, bc, hu⟩ : ∃ bo bn bc, o = .slice bo bn bc := (by rcases hown2.2 with ⟨h0, _⟩ | ⟨_, _, _, h0, _⟩ <;> exact ⟨_, _, _, h0⟩); subst hu)
  go_ret
  exact ⟨_, rfl, World.ownsRow.mono hown2 hsW, hA2, (Turn.of_below hbW).trans hT2⟩
theorem late_no (Q : Nat) (now : Int) (w : World) (h : ¬ (0 ≤ now ∧ now ≤ 1099511627776)) :
    Calls Try.prog 30 #[.pointer (some ⟨Q, 0, none⟩), .int .i64 now] w fun e w' => e = .returned (.tuple #[.slice none 0 0, .int .i64 1]) ∧ Below w.heap.size w w' := by
  have c2 := fun w => isTime_any now w
  have ht : tmB now = false := by unfold tmB; simp; omega
  rw [ht] at c2
  clear h ht
  go_enter Try.func30, Try.ntmps30
  go_wp2_with (go_at_call 53; (with_reducible refine (c2 _).mono ?_); rintro e w' ⟨rfl, h9⟩; have h8 := h9.symm; clear h9; subst h8)
  go_ret2
  exact ⟨rfl, (Below.refl _ _).alloc (Nat.le_refl _) _⟩
theorem has_no (B Q : Nat) (v : Value) (L : List Rq) (id : Int) (w : World) (hA : HAt w B Q v L) (h : ¬ (1 ≤ id ∧ id ≤ L.length)) :
    Calls Try.prog 58 #[.pointer (some ⟨Q, 0, none⟩), .int .i64 id] w fun e w' => e = .returned (.bool false) ∧ w' = w := by
  obtain ⟨ao, cap, rfl, hc1, hc2, hao⟩ := hA.form
  have cV := hA.cV
  clear hA hao
  by_cases h1 : 1 ≤ id
  · have h2 : ¬ id ≤ (L.length : Int) := fun e => h ⟨h1, e⟩
    clear h
    go_enter Try.func58, Try.ntmps58
    go_wp2
    go_ret
    exact ⟨rfl, rfl⟩
  · clear h
    go_enter Try.func58, Try.ntmps58
    go_wp2
    go_ret
    exact ⟨rfl, rfl⟩
theorem has_yes (B Q : Nat) (v : Value) (L : List Rq) (id : Int) (w : World) (hA : HAt w B Q v L) (h1 : 1 ≤ id) (h2 : id ≤ L.length) :
    Calls Try.prog 58 #[.pointer (some ⟨Q, 0, none⟩), .int .i64 id] w fun e w' => e = .returned (.bool true) ∧ w' = w := by
  obtain ⟨ao, cap, rfl, hc1, hc2, hao⟩ := hA.form
  have cV := hA.cV
  clear hA hao
  go_enter Try.func58, Try.ntmps58
  go_wp2
  go_ret
  exact ⟨rfl, rfl⟩
set_option maxHeartbeats 2000000 in
theorem done_any (L : List Rq) (id : Int) (hI : Inv L) : Doth 32 (fun Q => #[.pointer (some ⟨Q, 0, none⟩), .int .i64 id]) L (doneL L id) (.returned (.tuple #[.int .i64 (doneN L id), .int .i64 (doneE L id)])) := by
  intro B Q v w hA
  have hlen := hI.len
  by_cases h : 1 ≤ id ∧ id ≤ L.length
  · have c := has_yes B Q v L id w hA h.1 h.2
    obtain ⟨ao, cap, rfl, hc1, hc2, hao⟩ := hA.form
    have cV := hA.cV
    obtain ⟨i, rfl, hl⟩ := id_nat h
    obtain ⟨r, hr⟩ : ∃ r, L[i]? = some r := ⟨L[i], by simp [hl]⟩
    obtain ⟨g, rfl⟩ := hao (by omega)
    obtain ⟨d0, d1, d2, d3, d4, fz⟩ := hA.req rfl hr
    have hl' : (i : Int) < (L.length : Int) := by omega
    have c2 := fun w => runs_any r w
    simp only [rV, isR] at c2
    have HA : Hid (HAt w B Q (.slice (some ⟨g, 0, none⟩) L.length cap) L) := hA
    have HR : Hid (L[i]? = some r) := hr
    by_cases hf : r.fat = 2
    · obtain ⟨e1, e2, e3⟩ := done_ok hr hf
      rw [e1, e2, e3]
      have h9 : (r.fat == 2) = true := by simp [hf]
      rw [h9] at c2
      clear e1 e2 e3 hf hr hA fz h h9
      go_enter Try.func32, Try.ntmps32
      go_wp2_with (first
        | (go_at_call 58; (with_reducible refine c.mono ?_); rintro e w' ⟨rfl, h9⟩; have h8 := h9.symm; clear h9; subst h8)
        | (go_at_call 61; (with_reducible refine (c2 _).mono ?_); rintro e w2 ⟨rfl, hb2⟩; have hA2 := HA.out.below hb2; have cV2 := hA2.cV; obtain ⟨x0, x1, x2, x3, x4, fz2⟩ := hA2.req rfl HR.out; have f3 := fz2 (i * 5 + 3); have hgQ := hA2.gQ; clear fz2))
      go_ret2
      exact ⟨rfl, _, RAt.put (j := 3) hA2 rfl HR.out (by decide) rfl, (Turn.of_below hb2).trans (Turn.setG _ _)⟩
    · obtain ⟨e1, e2, e3⟩ := done_state hr hf
      rw [e1, e2, e3]
      have h9 : (r.fat == 2) = false := by simp [hf]
      rw [h9] at c2
      clear e1 e2 e3 hf hr hA fz h h9
      go_enter Try.func32, Try.ntmps32
      go_wp2_with (first
        | (go_at_call 58; (with_reducible refine c.mono ?_); rintro e w' ⟨rfl, h9⟩; have h8 := h9.symm; clear h9; subst h8)
        | (go_at_call 61; (with_reducible refine (c2 _).mono ?_); rintro e w2 ⟨rfl, hb2⟩))
      go_ret2
      exact ⟨rfl, _, HA.out.below hb2, Turn.of_below hb2⟩
  · obtain ⟨e1, e2, e3⟩ := done_no h
    rw [e1, e2, e3]
    have c := has_no B Q v L id w hA h
    clear e1 e2 e3 h
    go_enter Try.func32, Try.ntmps32
    go_wp2_with (go_at_call 58; (with_reducible refine c.mono ?_); rintro e w' ⟨rfl, h9⟩; have h8 := h9.symm; clear h9; subst h8)
    go_ret2
    exact ⟨rfl, _, hA, Turn.refl _ _ _⟩
set_option maxHeartbeats 2000000 in
/-- All: a new row of the requests -/
theorem all_any (B Q : Nat) (v : Value) (L : List Rq) (w : World) (hA : HAt w B Q v L) (hL : L.length ≤ 200) :
    Calls Try.prog 34 #[.pointer (some ⟨Q, 0, none⟩)] w fun e w' => ∃ G, e = .returned (.slice (some ⟨G, 0, none⟩) L.length L.length) ∧ w.heap.size ≤ G ∧ RowAt rK w' (some ⟨G, 0, none⟩) L ∧ Below w.heap.size w w' := by
  obtain ⟨i0, hi, hz0, hz1, hz2⟩ := info_parts info_req
  obtain ⟨ao, cap, rfl, hc1, hc2, hao⟩ := hA.form
  have hcl : (cels rK.c L).length = L.length * i0.size := by rw [hz1]; exact Rw.cels_len rK.len L
  have HC : Hid ((cels rK.c L).length = L.length * i0.size) := hcl
  have HA : Hid (HAt w B Q (.slice ao L.length cap) L) := hA
  have cV := hA.cV
  clear hcl hA
  go_enter Try.func34, Try.ntmps34
  go_wp2_with (at_make; refine wpList_make_full _ rfl _ _ 59 rfl w.heap.size 90 i0 _ 5 Try.underlying59 hi hz0 hz1 _ _ _ _ L.length rfl rfl rfl rfl (by rw [hz2]; omega) (by unfold maxLen; omega) (Nat.le_refl _) ?_; intro w2 hown2 hgrow2; have hb2 : Below w.heap.size w w2 := (Below.refl _ _).grown hgrow2 (Nat.le_refl _) (fun _ h => by cases h); have hA2 := HA.out.below hb2; have cS2 := hA2.cV; obtain ⟨cur2, q2, q5⟩ := own_block hown2; obtain ⟨w3, hcp, hr3, hgrow3⟩ := run_copy_all (P := Try.prog) w2 59 59 3 90 i0 Try.underlying59 hi w.heap.size L.length L.length cap ao cur2 (cels rK.c L) q2 (by rw [hz1]; exact q5) HC.out (RAt.src hA2) (cels_one rK L); clear hown2 hgrow2 hA2)
  go_ret
  have hb3 : Below w.heap.size w2 w3 := ⟨hgrow3.os, hgrow3.tape, hgrow3.output, hgrow3.size, fun k hk => hgrow3.block k (Nat.lt_of_lt_of_le hk hb2.size) (fun e => by cases e; omega)⟩
  exact ⟨_, rfl, Nat.le_refl _, row_of_block hr3, hb2.trans hb3⟩
end Buf
end Go.Proofs.Ytkflelbpiabcpag
