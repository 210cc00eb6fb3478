/- The second line of a plan's text: parseLine. The third, the fourth line of a plan's text: parseLine. -/
import Derived.Test.YtcfncgjpbdkagabDoorPk10
import Derived.Deep.RegionHeld
namespace Go.Proofs.YtcfncgjpbdkagabDoor
namespace Pln
open Go.RowKit Lai Civ Crn Pie
set_option maxRecDepth 8000
set_option linter.unusedSimpArgs false

set_option maxHeartbeats 4000000 in
theorem pln1 (rd : List UInt8 → Option K) (text : List UInt8) (N Q : Nat) (p : Pd) (ts : List Tr) (v : Value) (w : World) (hS : PS w 63 N Q p ts v) (ht : text.length ≤ 2048) :
    Calls Tryd.prog 40 #[.pointer (some ⟨Q, 0, none⟩), .int .i64 2, strV text] w fun e w' => LineR 63 N Q w (lineS rd 1 (p, ts) (pieces 32 text)) e w' := by
  obtain ⟨x, r, n, o2, hp, hr, hn1, hn2, hx, hno, hif, c0⟩ := words_any text w ht
  obtain ⟨z, hz⟩ : ∃ z, z = lineS rd 1 (p, ts) (pieces 32 text) := ⟨_, rfl⟩
  rw [← hz]
  have hQl := hS.lt
  have hNn := hS.nN
  have HS : Hid (PS w 63 N Q p ts v) := hS
  by_cases hw : x = wRest
  · subst hw
    have HZ : Hid (z = (four r).map fun q => (({ p with tl := q.1, bk := q.2.1, af := q.2.2.1, sh := q.2.2.2 } : Pd), ts)) := by
      unfold Hid
      rw [hz, hp]
      show (line1 (wRest :: r) p).map _ = _
      unfold line1
      dsimp only
      rw [if_pos rfl, Option.map_map]
      rfl
    have HX : Hid (∀ y ∈ r, y.length ≤ 3000) := fun y hy => hx y (List.mem_cons_of_mem _ hy)
    clear hx hno hS hz hp
    go_enter Tryd.func40, Tryd.ntmps40
    go_wp2_with (first | (go_at_call 65; (with_reducible refine c0.mono ?_); rintro e w1 ⟨rfl, cx, hW, hb1⟩))
    go_quiet (fail)
    have hb2 : Below w.heap.size w (w1.drewN nq) := Pie.below_drewN hb1 nq
    have hW2 : TxAt (w1.drewN nq) w.heap.size o2 r := hW
    generalize w1.drewN nq = w2 at *
    clear cx hW hb1 c0
    have hS2 := HS.out.below hb2
    have hne : w.heap.size ≠ Q := by omega
    have c := fun w1 hb hP => pnums_w r [5, 6, 7, 8] w.heap.size o2 (n - 1) Q 4 w2 w1 hW2 hne (hS2.room (by simp)) (by decide) rfl (by decide) (by omega) HX.out hb hP
    rw [hr] at c
    have HS2 : Hid (PS w2 63 N Q p ts v) := hS2
    clear hW2 hS2
    go_wp2_with fail
    refine wp_region_held_drew (S := fun _ => True) (by kernel_rfl) trivial (fun hHeld => ?_)
    refine wpAnyH_take (i := 0) (oi := _) (v := ?_) rfl (by kernel_rfl) (by kernel_rfl) (by kernel_rfl) (fun _ _ _ h => h) (Or.inl ⟨by rfl, ?_⟩) trivial ?_
    rotate_left
    · intro w' hSw
      go_simp
      all_goals with_reducible rfl
    (try simp only [Act.put, List.setIfInBounds_toArray, List.set_cons_zero, List.set_cons_succ, List.getElem_toArray, List.getElem_cons_zero, List.getElem_cons_succ])
    refine wpAnyH_take (i := 1) (oi := _) (v := ?_) rfl (by kernel_rfl) (by kernel_rfl) (by kernel_rfl) (fun _ _ _ h => h) (Or.inl ⟨by rfl, ?_⟩) trivial ?_
    rotate_left
    · intro w' hSw
      go_simp
      all_goals with_reducible rfl
    (try simp only [Act.put, List.setIfInBounds_toArray, List.set_cons_zero, List.set_cons_succ, List.getElem_toArray, List.getElem_cons_zero, List.getElem_cons_succ])
    refine wpAnyH_take (i := 2) (oi := _) (v := ?_) rfl (by kernel_rfl) (by kernel_rfl) (by kernel_rfl) (fun _ _ _ h => h) (Or.inl ⟨by rfl, ?_⟩) trivial ?_
    rotate_left
    · intro w' hSw
      go_simp
      all_goals with_reducible rfl
    (try simp only [Act.put, List.setIfInBounds_toArray, List.set_cons_zero, List.set_cons_succ, List.getElem_toArray, List.getElem_cons_zero, List.getElem_cons_succ])
    refine wpAnyH_take (i := 3) (oi := _) (v := ?_) rfl (by kernel_rfl) (by kernel_rfl) (by kernel_rfl) (fun _ _ _ h => h) (Or.inl ⟨by rfl, ?_⟩) trivial ?_
    rotate_left
    · intro w' hSw
      go_simp
      all_goals with_reducible rfl
    (try simp only [Act.put, List.setIfInBounds_toArray, List.set_cons_zero, List.set_cons_succ, List.getElem_toArray, List.getElem_cons_zero, List.getElem_cons_succ])
    refine wpAnyH_take (i := 4) (oi := _) (v := ?_) rfl (by kernel_rfl) (by kernel_rfl) (by kernel_rfl) (fun _ _ _ h => h) (Or.inl ⟨by rfl, ?_⟩) trivial ?_
    rotate_left
    · intro w' hSw
      go_simp
      all_goals with_reducible rfl
    (try simp only [Act.put, List.setIfInBounds_toArray, List.set_cons_zero, List.set_cons_succ, List.getElem_toArray, List.getElem_cons_zero, List.getElem_cons_succ])
    refine wpAnyH_take (i := 5) (oi := _) (v := ?_) rfl (by kernel_rfl) (by kernel_rfl) (by kernel_rfl) (fun _ _ _ h => h) (Or.inl ⟨by rfl, ?_⟩) trivial ?_
    rotate_left
    · intro w' hSw
      go_simp
      all_goals with_reducible rfl
    (try simp only [Act.put, List.setIfInBounds_toArray, List.set_cons_zero, List.set_cons_succ, List.getElem_toArray, List.getElem_cons_zero, List.getElem_cons_succ])
    refine wpAnyH_take (i := 6) (oi := _) (v := ?_) rfl (by kernel_rfl) (by kernel_rfl) (by kernel_rfl) (fun _ _ _ h => h) (Or.inl ⟨by rfl, ?_⟩) trivial ?_
    rotate_left
    · intro w' hSw
      go_simp
      all_goals with_reducible rfl
    (try simp only [Act.put, List.setIfInBounds_toArray, List.set_cons_zero, List.set_cons_succ, List.getElem_toArray, List.getElem_cons_zero, List.getElem_cons_succ])
    refine wpAnyH_take (i := 7) (oi := _) (v := ?_) rfl (by kernel_rfl) (by kernel_rfl) (by kernel_rfl) (fun _ _ _ h => h) (Or.inl ⟨by rfl, ?_⟩) trivial ?_
    rotate_left
    · intro w' hSw
      go_simp
      all_goals with_reducible rfl
    (try simp only [Act.put, List.setIfInBounds_toArray, List.set_cons_zero, List.set_cons_succ, List.getElem_toArray, List.getElem_cons_zero, List.getElem_cons_succ])
    refine wpAnyH_take (i := 8) (oi := _) (v := ?_) rfl (by kernel_rfl) (by kernel_rfl) (by kernel_rfl) (fun _ _ _ h => h) (Or.inl ⟨by rfl, ?_⟩) trivial ?_
    rotate_left
    · intro w' hSw
      go_simp
      all_goals with_reducible rfl
    (try simp only [Act.put, List.setIfInBounds_toArray, List.set_cons_zero, List.set_cons_succ, List.getElem_toArray, List.getElem_cons_zero, List.getElem_cons_succ])
    refine wpAnyH_take (i := 9) (oi := _) (v := ?_) rfl (by kernel_rfl) (by kernel_rfl) (by kernel_rfl) (fun _ _ _ h => h) (Or.inl ⟨by rfl, ?_⟩) trivial ?_
    rotate_left
    · intro w' hSw
      go_simp
      all_goals with_reducible rfl
    (try simp only [Act.put, List.setIfInBounds_toArray, List.set_cons_zero, List.set_cons_succ, List.getElem_toArray, List.getElem_cons_zero, List.getElem_cons_succ])
    refine wpAnyH_take (i := 10) (oi := _) (v := ?_) rfl (by kernel_rfl) (by kernel_rfl) (by kernel_rfl) (fun _ _ _ h => h) (Or.inl ⟨by rfl, ?_⟩) trivial ?_
    rotate_left
    · intro w' hSw
      go_simp
      all_goals with_reducible rfl
    (try simp only [Act.put, List.setIfInBounds_toArray, List.set_cons_zero, List.set_cons_succ, List.getElem_toArray, List.getElem_cons_zero, List.getElem_cons_succ])
    refine wpAnyH_take (i := 11) (oi := _) (v := ?_) rfl (by kernel_rfl) (by kernel_rfl) (by kernel_rfl) (fun _ _ _ h => h) (Or.inl ⟨by rfl, ?_⟩) trivial ?_
    rotate_left
    · intro w' hSw
      go_simp
      all_goals with_reducible rfl
    (try simp only [Act.put, List.setIfInBounds_toArray, List.set_cons_zero, List.set_cons_succ, List.getElem_toArray, List.getElem_cons_zero, List.getElem_cons_succ])
    refine wpAnyH_take (i := 12) (oi := _) (v := ?_) rfl (by kernel_rfl) (by kernel_rfl) (by kernel_rfl) (fun _ _ _ h => h) (Or.inl ⟨by rfl, ?_⟩) trivial ?_
    rotate_left
    · intro w' hSw
      go_simp
      all_goals with_reducible rfl
    (try simp only [Act.put, List.setIfInBounds_toArray, List.set_cons_zero, List.set_cons_succ, List.getElem_toArray, List.getElem_cons_zero, List.getElem_cons_succ])
    refine wpAnyH_take (i := 13) (oi := _) (v := ?_) rfl (by kernel_rfl) (by kernel_rfl) (by kernel_rfl) (fun _ _ _ h => h) (Or.inl ⟨by rfl, ?_⟩) trivial ?_
    rotate_left
    · intro w' hSw
      go_simp
      all_goals with_reducible rfl
    (try simp only [Act.put, List.setIfInBounds_toArray, List.set_cons_zero, List.set_cons_succ, List.getElem_toArray, List.getElem_cons_zero, List.getElem_cons_succ])
    refine wpAnyH_take (i := 14) (oi := _) (v := ?_) rfl (by kernel_rfl) (by kernel_rfl) (by kernel_rfl) (fun _ _ _ h => h) (Or.inl ⟨by rfl, ?_⟩) trivial ?_
    rotate_left
    · intro w' hSw
      go_simp
      all_goals with_reducible rfl
    (try simp only [Act.put, List.setIfInBounds_toArray, List.set_cons_zero, List.set_cons_succ, List.getElem_toArray, List.getElem_cons_zero, List.getElem_cons_succ])
    refine wpAnyH_take (i := 15) (oi := _) (v := ?_) rfl (by kernel_rfl) (by kernel_rfl) (by kernel_rfl) (fun _ _ _ h => h) (Or.inl ⟨by rfl, ?_⟩) trivial ?_
    rotate_left
    · intro w' hSw
      go_simp
      all_goals with_reducible rfl
    (try simp only [Act.put, List.setIfInBounds_toArray, List.set_cons_zero, List.set_cons_succ, List.getElem_toArray, List.getElem_cons_zero, List.getElem_cons_succ])
    refine wpAnyH_ready (rs := [16]) (by kernel_rfl) (by simp) ?_
    refine AllReadyH.cons rfl (fun K hK => ?_) AllReadyH.nil
    go_simp
    refine hK.out _ _ trivial (fun hHeld => ?_)
    clear hK K
    refine wpAnyH_ready (rs := [17]) (by kernel_rfl) (by simp) ?_
    refine AllReadyH.cons rfl (fun K hK => ?_) AllReadyH.nil
    go_simp
    go_wp2_with (go_at_call 67; (with_reducible refine (c _ (bad1 _ _) ?_).mono ?_); exact (plc4 w2 _ Q 5 6 7 8).drew; intro e w5 hN5; obtain ⟨rfl, _⟩ := id hN5)
    refine hK.out _ _ trivial (fun hHeld => ?_)
    clear hK K
    refine wpAnyH_take (i := 18) (oi := _) (v := ?_) rfl (by kernel_rfl) (by kernel_rfl) (by kernel_rfl) (fun _ _ _ h => h) (Or.inl ⟨by rfl, ?_⟩) trivial ?_
    rotate_left
    · intro w' hSw
      go_simp
      all_goals with_reducible rfl
    (try simp only [Act.put, List.setIfInBounds_toArray, List.set_cons_zero, List.set_cons_succ, List.getElem_toArray, List.getElem_cons_zero, List.getElem_cons_succ])
    refine wpAnyH_take (i := 19) (oi := _) (v := ?_) rfl (by kernel_rfl) (by kernel_rfl) (by kernel_rfl) (fun _ _ _ h => h) (Or.inl ⟨by rfl, ?_⟩) trivial ?_
    rotate_left
    · intro w' hSw
      go_simp
      all_goals with_reducible rfl
    (try simp only [Act.put, List.setIfInBounds_toArray, List.set_cons_zero, List.set_cons_succ, List.getElem_toArray, List.getElem_cons_zero, List.getElem_cons_succ])
    refine wpAnyH_done (by kernel_rfl) ?_ _
    go_wp2
    go_ret
    rw [HZ.out]
    exact (hN5.line HS2.out rfl (by decide) (by simp) (fun q => ({ p with tl := q.1, bk := q.2.1, af := q.2.2.1, sh := q.2.2.2 } : Pd)) (fun a b c d => by simp [setAll])).from (hb2.mono hNn)
  · have he : (x == [114, 101, 115, 116]) = false := by rw [beq_eq_false_iff_ne]; exact hw
    have HZ : Hid (z = none) := by
      unfold Hid
      rw [hz, hp]
      show (line1 (x :: r) p).map _ = none
      unfold line1; dsimp only; rw [if_neg hw]; rfl
    clear hx hno hS hz hp hw
    go_enter Tryd.func40, Tryd.ntmps40
    go_wp2_with (first | (go_at_call 65; (with_reducible refine c0.mono ?_); rintro e w1 ⟨rfl, cx, hW, hb1⟩))
    go_quiet (fail)
    have hb2 : Below w.heap.size w (w1.drewN nq) := Pie.below_drewN hb1 nq
    have hW2 : TxAt (w1.drewN nq) w.heap.size o2 r := hW
    generalize w1.drewN nq = w2 at *
    clear cx hW hb1 c0
    go_wp2_with fail
    go_region
    go_wp2
    go_ret
    rw [HZ.out]
    exact ⟨rfl, (hb2.mono hNn).drew⟩
end Pln
end Go.Proofs.YtcfncgjpbdkagabDoor
namespace Go.Proofs.YtcfncgjpbdkagabDoor
namespace Pln
open Go.RowKit Lai Civ Crn Pie
set_option maxRecDepth 8000

set_option maxHeartbeats 4000000 in
theorem pln2 (rd : List UInt8 → Option K) (text : List UInt8) (N Q : Nat) (p : Pd) (ts : List Tr) (v : Value) (w : World) (hS : PS w 63 N Q p ts v) (ht : text.length ≤ 2048) :
    Calls Tryd.prog 40 #[.pointer (some ⟨Q, 0, none⟩), .int .i64 3, strV text] w fun e w' => LineR 63 N Q w (lineS rd 2 (p, ts) (pieces 32 text)) e w' := by
  obtain ⟨x, r, n, o2, hp, hr, hn1, hn2, hx, hno, hif, c0⟩ := words_any text w ht
  obtain ⟨z, hz⟩ : ∃ z, z = lineS rd 2 (p, ts) (pieces 32 text) := ⟨_, rfl⟩
  rw [← hz]
  have hQl := hS.lt
  have hNn := hS.nN
  have HS : Hid (PS w 63 N Q p ts v) := hS
  by_cases hw : x = wUp
  · subst hw
    have HZ : Hid (z = (four r).map fun q => (({ p with uw := q.1, up := q.2.1, uc := q.2.2.1, ue := q.2.2.2 } : Pd), ts)) := by
      unfold Hid
      rw [hz, hp]
      show (line2 (wUp :: r) p).map _ = _
      unfold line2
      dsimp only
      rw [if_pos rfl, Option.map_map]
      rfl
    have HX : Hid (∀ y ∈ r, y.length ≤ 3000) := fun y hy => hx y (List.mem_cons_of_mem _ hy)
    clear hx hno hS hz hp
    go_enter Tryd.func40, Tryd.ntmps40
    go_wp2_with (first | (go_at_call 65; (with_reducible refine c0.mono ?_); rintro e w1 ⟨rfl, cx, hW, hb1⟩))
    go_quiet (fail)
    have hb2 : Below w.heap.size w (w1.drewN nq) := Pie.below_drewN hb1 nq
    have hW2 : TxAt (w1.drewN nq) w.heap.size o2 r := hW
    generalize w1.drewN nq = w2 at *
    clear cx hW hb1 c0
    have hS2 := HS.out.below hb2
    have hne : w.heap.size ≠ Q := by omega
    have c := fun w1 (hb : Below w2.heap.size w2 w1) => (ppace_any r w.heap.size o2 (n - 1) Q 9 w1 (hW2.below hb hW2.1) hne ((hS2.room (by simp)).below hb) (by omega) HX.out).mono fun e w' h => h.from hb hS2.lt
    rw [hr] at c
    have HS2 : Hid (PS w2 63 N Q p ts v) := hS2
    clear hW2 hS2
    go_wp2_with (go_at_call 68; (with_reducible refine (c _ (Below.refl _ _)).mono ?_); intro e w5 hN5; obtain ⟨rfl, _⟩ := id hN5)
    go_ret
    rw [HZ.out]
    exact (hN5.line HS2.out rfl (by simp) (by simp) (fun q => ({ p with uw := q.1, up := q.2.1, uc := q.2.2.1, ue := q.2.2.2 } : Pd)) (fun a b c d => by simp [setAll])).from (hb2.mono hNn)
  · have he : (x == [117, 112]) = false := by rw [beq_eq_false_iff_ne]; exact hw
    have HZ : Hid (z = none) := by
      unfold Hid
      rw [hz, hp]
      show (line2 (x :: r) p).map _ = none
      unfold line2; dsimp only; rw [if_neg hw]; rfl
    clear hx hno hS hz hp hw
    go_enter Tryd.func40, Tryd.ntmps40
    go_wp2_with (first | (go_at_call 65; (with_reducible refine c0.mono ?_); rintro e w1 ⟨rfl, cx, hW, hb1⟩))
    go_quiet (fail)
    have hb2 : Below w.heap.size w (w1.drewN nq) := Pie.below_drewN hb1 nq
    have hW2 : TxAt (w1.drewN nq) w.heap.size o2 r := hW
    generalize w1.drewN nq = w2 at *
    clear cx hW hb1 c0
    go_wp2
    go_ret
    rw [HZ.out]
    exact ⟨rfl, hb2.mono hNn⟩
set_option maxHeartbeats 4000000 in
theorem pln3 (rd : List UInt8 → Option K) (text : List UInt8) (N Q : Nat) (p : Pd) (ts : List Tr) (v : Value) (w : World) (hS : PS w 63 N Q p ts v) (ht : text.length ≤ 2048) :
    Calls Tryd.prog 40 #[.pointer (some ⟨Q, 0, none⟩), .int .i64 4, strV text] w fun e w' => LineR 63 N Q w (lineS rd 3 (p, ts) (pieces 32 text)) e w' := by
  obtain ⟨x, r, n, o2, hp, hr, hn1, hn2, hx, hno, hif, c0⟩ := words_any text w ht
  obtain ⟨z, hz⟩ : ∃ z, z = lineS rd 3 (p, ts) (pieces 32 text) := ⟨_, rfl⟩
  rw [← hz]
  have hQl := hS.lt
  have hNn := hS.nN
  have HS : Hid (PS w 63 N Q p ts v) := hS
  by_cases hw : x = wDown
  · subst hw
    have HZ : Hid (z = (four r).map fun q => (({ p with dw := q.1, dp := q.2.1, dc := q.2.2.1, de := q.2.2.2 } : Pd), ts)) := by
      unfold Hid
      rw [hz, hp]
      show (line3 (wDown :: r) p).map _ = _
      unfold line3
      dsimp only
      rw [if_pos rfl, Option.map_map]
      rfl
    have HX : Hid (∀ y ∈ r, y.length ≤ 3000) := fun y hy => hx y (List.mem_cons_of_mem _ hy)
    clear hx hno hS hz hp
    go_enter Tryd.func40, Tryd.ntmps40
    go_wp2_with (first | (go_at_call 65; (with_reducible refine c0.mono ?_); rintro e w1 ⟨rfl, cx, hW, hb1⟩))
    go_quiet (fail)
    have hb2 : Below w.heap.size w (w1.drewN nq) := Pie.below_drewN hb1 nq
    have hW2 : TxAt (w1.drewN nq) w.heap.size o2 r := hW
    generalize w1.drewN nq = w2 at *
    clear cx hW hb1 c0
    have hS2 := HS.out.below hb2
    have hne : w.heap.size ≠ Q := by omega
    have c := fun w1 (hb : Below w2.heap.size w2 w1) => (ppace_any r w.heap.size o2 (n - 1) Q 13 w1 (hW2.below hb hW2.1) hne ((hS2.room (by simp)).below hb) (by omega) HX.out).mono fun e w' h => h.from hb hS2.lt
    rw [hr] at c
    have HS2 : Hid (PS w2 63 N Q p ts v) := hS2
    clear hW2 hS2
    go_wp2_with (go_at_call 68; (with_reducible refine (c _ (Below.refl _ _)).mono ?_); intro e w5 hN5; obtain ⟨rfl, _⟩ := id hN5)
    go_ret
    rw [HZ.out]
    exact (hN5.line HS2.out rfl (by simp) (by simp) (fun q => ({ p with dw := q.1, dp := q.2.1, dc := q.2.2.1, de := q.2.2.2 } : Pd)) (fun a b c d => by simp [setAll])).from (hb2.mono hNn)
  · have he : (x == [100, 111, 119, 110]) = false := by rw [beq_eq_false_iff_ne]; exact hw
    have HZ : Hid (z = none) := by
      unfold Hid
      rw [hz, hp]
      show (line3 (x :: r) p).map _ = none
      unfold line3; dsimp only; rw [if_neg hw]; rfl
    clear hx hno hS hz hp hw
    go_enter Tryd.func40, Tryd.ntmps40
    go_wp2_with (first | (go_at_call 65; (with_reducible refine c0.mono ?_); rintro e w1 ⟨rfl, cx, hW, hb1⟩))
    go_quiet (fail)
    have hb2 : Below w.heap.size w (w1.drewN nq) := Pie.below_drewN hb1 nq
    have hW2 : TxAt (w1.drewN nq) w.heap.size o2 r := hW
    generalize w1.drewN nq = w2 at *
    clear cx hW hb1 c0
    go_wp2
    go_ret
    rw [HZ.out]
    exact ⟨rfl, hb2.mono hNn⟩
end Pln
end Go.Proofs.YtcfncgjpbdkagabDoor
