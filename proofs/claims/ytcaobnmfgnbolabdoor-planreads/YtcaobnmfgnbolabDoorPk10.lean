/- What the document's answer (tideref) says of a line of a plan's text: planLine, what it wants. What the document's answer (tideref) says of a line of a plan's text: planLine, the second line. What the document's answer (tideref) says of a line of a plan's text: planLine, the third and the fourth line. -/
import Derived.Test.YtcaobnmfgnbolabDoorRefWholes
import Derived.Test.YtcaobnmfgnbolabDoorPk9
import Derived.Deep.RegionHeld
import Derived.Lib.SliceRun
namespace Go.Proofs.YtcaobnmfgnbolabDoor
namespace Pln
open Go.RowKit Lai Civ Crn Pie
set_option maxRecDepth 8000
set_option linter.unusedSimpArgs false
set_option linter.unusedVariables false

/-- a cell of the plan is told anew -/
theorem PS.setc {w : World} {e : TypeId} {N Q : Nat} {p p' : Pd} {ts : List Tr} {v : Value} (h : PS w e N Q p ts v) (o : Nat) (u : Value) (ho : o < 18) (hp : (planC p v).setIfInBounds o u = planC p' v) : PS (w.setCell ⟨Q, o, none⟩ u) e N Q p' ts v :=
  h.turn (OnlyQ.set Q _ _ _) (by rw [← hp]; exact cells_set h.cel o u (by simpa using ho))
theorem PS.drew {w : World} {e : TypeId} {N Q : Nat} {p : Pd} {ts : List Tr} {v : Value} (h : PS w e N Q p ts v) : PS w.drew e N Q p ts v := h.below ((Below.refl _ _).drew)
/-- four numbers that lie in a row -/
def Ns4 (g : Nat) (a b c d : Int) (w : World) : Prop := w.cell? ⟨g, 0, none⟩ = some (.int .i64 a) ∧ w.cell? ⟨g, 1, none⟩ = some (.int .i64 b) ∧ w.cell? ⟨g, 2, none⟩ = some (.int .i64 c) ∧ w.cell? ⟨g, 3, none⟩ = some (.int .i64 d)
theorem Ns4.set {g Q : Nat} {a b c d : Int} {w : World} (h : Ns4 g a b c d w) (hg : g ≠ Q) (o : Nat) (u : Value) : Ns4 g a b c d (w.setCell ⟨Q, o, none⟩ u) := by
  obtain ⟨h0, h1, h2, h3⟩ := h
  have k : ∀ j, (w.setCell ⟨Q, o, none⟩ u).cell? ⟨g, j, none⟩ = w.cell? ⟨g, j, none⟩ := fun j => World.cell?_setCell_other _ _ _ _ (fun e => hg (congrArg Addr.block e).symm)
  exact ⟨(k 0).trans h0, (k 1).trans h1, (k 2).trans h2, (k 3).trans h3⟩
theorem Ns4.below {g n : Nat} {a b c d : Int} {w w' : World} (h : Ns4 g a b c d w) (hb : Below n w w') (hg : g < n) : Ns4 g a b c d w' := by
  obtain ⟨h0, h1, h2, h3⟩ := h
  exact ⟨(hb.cell (p := ⟨g, 0, none⟩) hg).trans h0, (hb.cell (p := ⟨g, 1, none⟩) hg).trans h1, (hb.cell (p := ⟨g, 2, none⟩) hg).trans h2, (hb.cell (p := ⟨g, 3, none⟩) hg).trans h3⟩
theorem Ns4.drew {g : Nat} {a b c d : Int} {w : World} (h : Ns4 g a b c d w) : Ns4 g a b c d w.drew := h
/-- wholes of four words: they are numbers, or they are not -/
theorem four_w (r : List (List UInt8)) (B o cap : Nat) (w : World) (hW : TxAt w B o r) (hr : r.length ≤ 3000) (hx : ∀ x ∈ r, x.length ≤ 3000) :
    (four r = none ∧ Calls Tryd.prog 85 #[.slice (some ⟨B, o, none⟩) r.length cap, .int .i64 4, .int .i64 7] w fun e w' => e = .returned (.slice none 0 0) ∧ Below w.heap.size w w') ∨
    ∃ a b c d, four r = some (a, b, c, d) ∧ Calls Tryd.prog 85 #[.slice (some ⟨B, o, none⟩) r.length cap, .int .i64 4, .int .i64 7] w fun e w' => (∃ g k, e = .returned (.slice (some ⟨g, 0, none⟩) 4 k) ∧ w.heap.size ≤ g ∧ g < w'.heap.size ∧ Ns4 g a b c d w') ∧ Below w.heap.size w w' := by
  have c0 := rwholes r 4 B o cap w hW (by decide) (by decide) hr hx
  cases hB : NsB 4 r
  · refine Or.inl ⟨four_no hB, c0.mono fun e w' h => ⟨?_, h.1⟩⟩
    rcases h.2 with ⟨_, q⟩ | ⟨q, _⟩
    · exact q
    · rw [hB] at q; cases q
  · obtain ⟨hl, hn⟩ := nsB_iff hB
    match r, hl with
    | [x, y, z, u], _ =>
      obtain ⟨a, ha⟩ := hn x (by simp)
      obtain ⟨b, hb⟩ := hn y (by simp)
      obtain ⟨c, hc⟩ := hn z (by simp)
      obtain ⟨d, hd⟩ := hn u (by simp)
      refine Or.inr ⟨a, b, c, d, by unfold four; dsimp only; rw [ha, hb, hc, hd], c0.mono fun e w' h => ⟨?_, h.1⟩⟩
      rcases h.2 with ⟨q, _⟩ | ⟨_, g, k, ns, he, hl, hg, hc1, hc2, hc3⟩
      · rw [hB] at q; cases q
      · have m0 := (hc2 0 x rfl).symm.trans ha
        have m1 := (hc2 1 y rfl).symm.trans hb
        have m2 := (hc2 2 z rfl).symm.trans hc
        have m3 := (hc2 3 u rfl).symm.trans hd
        exact ⟨g, k, he, hc3, hg, hc1 0 a m0, hc1 1 b m1, hc1 2 c m2, hc1 3 d m3⟩
end Pln
end Go.Proofs.YtcaobnmfgnbolabDoor
namespace Go.Proofs.YtcaobnmfgnbolabDoor
namespace Pln
open Go.RowKit Lai Civ Crn Pie
set_option maxRecDepth 8000
set_option linter.unusedSimpArgs false
set_option linter.unusedVariables false

set_option maxHeartbeats 4000000 in
theorem rl1 (rd : List UInt8 → Option K) (x : List UInt8) (r : List (List UInt8)) (B cv N Q : Nat) (p : Pd) (ts : List Tr) (v : Value) (w : World) (hS : PS w 55 N Q p ts v) (hW : TxAt w B 0 (x :: r)) (hBQ : B ≠ Q) (hcv : r.length + 1 ≤ cv) (hr : r.length + 1 ≤ 3000) (hx : ∀ y ∈ x :: r, y.length ≤ 3000) :
    Calls Tryd.prog 47 #[.pointer (some ⟨Q, 0, none⟩), .int .i64 1, .slice (some ⟨B, 0, none⟩) (r.length + 1) cv] w fun e w' => LineR 55 N Q w (lineS rd 1 (p, ts) (x :: r)) e w' := by
  obtain ⟨o2, hif, hW2⟩ := hW.cut hcv
  obtain ⟨z, hz⟩ : ∃ z, z = lineS rd 1 (p, ts) (x :: r) := ⟨_, rfl⟩
  rw [← hz]
  have qN : ∀ (w : World) (a : Option Addr) (n c : Nat), (binOp .eql 56 (.slice a n c) (.slice none 0 0)).run Tryd.prog w = .ok (.bool a.isNone) w := fun w a n c => Lib.run_eql_slice_nil w _ _ a n c 0 0 Tryd.underlying56
  have cx : w.cell? ⟨B, 0, none⟩ = some (strV x) := hW.2 0 x rfl
  have c0 := four_w r B o2 (cv - 1) w hW2 (by omega) (fun y hy => hx y (List.mem_cons_of_mem _ hy))
  have hBl := hW.1
  have hQl := hS.lt
  have hNn := hS.nN
  have HS : Hid (PS w 55 N Q p ts v) := hS
  clear hW hW2 hx hS
  by_cases hw : x = wRest
  · subst hw
    have HZ : Hid (z = (four r).map fun q => (match q with | (a, b, c, d) => (({ p with tl := a, bk := b, af := c, sh := d } : Pd), ts))) := by
      unfold Hid
      rw [hz]
      show (line1 (wRest :: r) p).map _ = _
      unfold line1
      dsimp only
      rw [if_pos rfl, Option.map_map]
      rfl
    clear hz
    rcases c0 with ⟨hf, c0⟩ | ⟨a, b, c, d, hf, c0⟩
    · rw [hf] at HZ
      clear hf
      go_enter Tryd.func47, Tryd.ntmps47
      go_wp2_with (go_at_call 85; (with_reducible refine c0.mono ?_); rintro e w1 ⟨rfl, hb1⟩; have cx1 := (hb1.cell (p := ⟨B, 0, none⟩) hBl).trans cx; have hs1 := hb1.size)
      have hBl1 : B < w1.heap.size := by omega
      have hBn1 : ¬ B = w1.heap.size := by omega
      go_region
      all_goals
        go_wp2
        go_ret
        rw [HZ.out]
        exact ⟨rfl, ((hb1.mono hNn).trans ((balloc _).mono (Nat.le_trans hNn hs1))).drew⟩
    · rw [hf] at HZ
      clear hf
      go_enter Tryd.func47, Tryd.ntmps47
      go_wp2_with (go_at_call 85; (with_reducible refine c0.mono ?_); rintro e w1 ⟨⟨g, k, rfl, hg0, hg1, hn4⟩, hb1⟩; have cx1 := (hb1.cell (p := ⟨B, 0, none⟩) hBl).trans cx; have hs1 := hb1.size)
      have hBl1 : B < w1.heap.size := by omega
      have hBn1 : ¬ B = w1.heap.size := by omega
      go_region
      have hb2 := bad1 w1 (.cells #[.string ⟨#[]⟩, .string ⟨#[114, 101, 115, 116]⟩, .string ⟨#[117, 112]⟩, .string ⟨#[100, 111, 119, 110]⟩] 9)
      have hN4 : Ns4 g a b c d (w1.alloc (.cells #[.string ⟨#[]⟩, .string ⟨#[114, 101, 115, 116]⟩, .string ⟨#[117, 112]⟩, .string ⟨#[100, 111, 119, 110]⟩] 9)).drew := hn4.below hb2 hg1
      generalize (w1.alloc (.cells #[.string ⟨#[]⟩, .string ⟨#[114, 101, 115, 116]⟩, .string ⟨#[117, 112]⟩, .string ⟨#[100, 111, 119, 110]⟩] 9)).drew = w2 at *
      have hs2 := hb2.size
      have hS2 := (HS.out.below hb1).below hb2
      have hw2 : Below N w w2 := (hb1.mono hNn).trans (hb2.mono (Nat.le_trans hNn hs1))
      have hgQ : g ≠ Q := by omega
      have HW2 : Hid (Below N w w2) := hw2
      have HS2 : Hid (PS w2 55 N Q p ts v) := hS2
      clear hw2 hn4 c0 cx1 cx hBl1 hBn1 hb1 hb2
      have d5 : w2.cell? ⟨Q, 5, none⟩ = some (.int .i64 p.tl) := by simpa using HS2.out.cel 5
      have d6 : w2.cell? ⟨Q, 6, none⟩ = some (.int .i64 p.bk) := by simpa using HS2.out.cel 6
      have d7 : w2.cell? ⟨Q, 7, none⟩ = some (.int .i64 p.af) := by simpa using HS2.out.cel 7
      have d8 : w2.cell? ⟨Q, 8, none⟩ = some (.int .i64 p.sh) := by simpa using HS2.out.cel 8
      have f5 := HS2.out.fz 5
      have f6 := HS2.out.fz 6
      have f7 := HS2.out.fz 7
      have f8 := HS2.out.fz 8
      have hQ2 := HS2.out.lt
      go_wp2_with fail
      refine wp_region_held_drew (S := fun w' => Ns4 g a b c d w') (by kernel_rfl) hN4.drew (fun hHeld => ?_)
      refine wpAnyH_take (i := 0) (oi := _) (v := ?_) rfl (by kernel_rfl) (by kernel_rfl) (by kernel_rfl) (fun _ _ _ h => h) (Or.inl ⟨by rfl, ?_⟩) (by assumption) ?_
      rotate_left
      · intro w' hSw
        (try obtain ⟨q0, q1, q2, q3⟩ := hSw)
        go_simp
        all_goals with_reducible rfl
      (try simp only [Act.put, List.setIfInBounds_toArray, List.set_cons_zero, List.set_cons_succ, List.getElem_toArray, List.getElem_cons_zero, List.getElem_cons_succ])
      refine wpAnyH_take (i := 1) (oi := _) (v := ?_) rfl (by kernel_rfl) (by kernel_rfl) (by kernel_rfl) (fun _ _ _ h => h) (Or.inl ⟨by rfl, ?_⟩) (by assumption) ?_
      rotate_left
      · intro w' hSw
        (try obtain ⟨q0, q1, q2, q3⟩ := hSw)
        go_simp
        all_goals with_reducible rfl
      (try simp only [Act.put, List.setIfInBounds_toArray, List.set_cons_zero, List.set_cons_succ, List.getElem_toArray, List.getElem_cons_zero, List.getElem_cons_succ])
      refine wpAnyH_take (i := 2) (oi := _) (v := ?_) rfl (by kernel_rfl) (by kernel_rfl) (by kernel_rfl) (fun _ _ _ h => h) (Or.inl ⟨by rfl, ?_⟩) (by assumption) ?_
      rotate_left
      · intro w' hSw
        (try obtain ⟨q0, q1, q2, q3⟩ := hSw)
        go_simp
        all_goals with_reducible rfl
      (try simp only [Act.put, List.setIfInBounds_toArray, List.set_cons_zero, List.set_cons_succ, List.getElem_toArray, List.getElem_cons_zero, List.getElem_cons_succ])
      refine wpAnyH_take (i := 3) (oi := _) (v := ?_) rfl (by kernel_rfl) (by kernel_rfl) (by kernel_rfl) (fun _ _ _ h => h) (Or.inl ⟨by rfl, ?_⟩) (by assumption) ?_
      rotate_left
      · intro w' hSw
        (try obtain ⟨q0, q1, q2, q3⟩ := hSw)
        go_simp
        all_goals with_reducible rfl
      (try simp only [Act.put, List.setIfInBounds_toArray, List.set_cons_zero, List.set_cons_succ, List.getElem_toArray, List.getElem_cons_zero, List.getElem_cons_succ])
      refine wpAnyH_take (i := 4) (oi := _) (v := ?_) rfl (by kernel_rfl) (by kernel_rfl) (by kernel_rfl) (fun _ _ _ h => h) (Or.inl ⟨by rfl, ?_⟩) (by assumption) ?_
      rotate_left
      · intro w' hSw
        (try obtain ⟨q0, q1, q2, q3⟩ := hSw)
        go_simp
        all_goals with_reducible rfl
      (try simp only [Act.put, List.setIfInBounds_toArray, List.set_cons_zero, List.set_cons_succ, List.getElem_toArray, List.getElem_cons_zero, List.getElem_cons_succ])
      refine wpAnyH_take (i := 5) (oi := _) (v := ?_) rfl (by kernel_rfl) (by kernel_rfl) (by kernel_rfl) (fun _ _ _ h => h) (Or.inl ⟨by rfl, ?_⟩) (by assumption) ?_
      rotate_left
      · intro w' hSw
        (try obtain ⟨q0, q1, q2, q3⟩ := hSw)
        go_simp
        all_goals with_reducible rfl
      (try simp only [Act.put, List.setIfInBounds_toArray, List.set_cons_zero, List.set_cons_succ, List.getElem_toArray, List.getElem_cons_zero, List.getElem_cons_succ])
      refine wpAnyH_take (i := 6) (oi := _) (v := ?_) rfl (by kernel_rfl) (by kernel_rfl) (by kernel_rfl) (fun _ _ _ h => h) (Or.inl ⟨by rfl, ?_⟩) (by assumption) ?_
      rotate_left
      · intro w' hSw
        (try obtain ⟨q0, q1, q2, q3⟩ := hSw)
        go_simp
        all_goals with_reducible rfl
      (try simp only [Act.put, List.setIfInBounds_toArray, List.set_cons_zero, List.set_cons_succ, List.getElem_toArray, List.getElem_cons_zero, List.getElem_cons_succ])
      refine wpAnyH_take (i := 7) (oi := _) (v := ?_) rfl (by kernel_rfl) (by kernel_rfl) (by kernel_rfl) (fun _ _ _ h => h) (Or.inl ⟨by rfl, ?_⟩) (by assumption) ?_
      rotate_left
      · intro w' hSw
        (try obtain ⟨q0, q1, q2, q3⟩ := hSw)
        go_simp
        all_goals with_reducible rfl
      (try simp only [Act.put, List.setIfInBounds_toArray, List.set_cons_zero, List.set_cons_succ, List.getElem_toArray, List.getElem_cons_zero, List.getElem_cons_succ])
      refine wpAnyH_take (i := 8) (oi := _) (v := ?_) rfl (by kernel_rfl) (by kernel_rfl) (by kernel_rfl) (fun _ _ _ h => h) (Or.inl ⟨by rfl, ?_⟩) (by assumption) ?_
      rotate_left
      · intro w' hSw
        (try obtain ⟨q0, q1, q2, q3⟩ := hSw)
        go_simp
        all_goals with_reducible rfl
      (try simp only [Act.put, List.setIfInBounds_toArray, List.set_cons_zero, List.set_cons_succ, List.getElem_toArray, List.getElem_cons_zero, List.getElem_cons_succ])
      refine wpAnyH_take (i := 9) (oi := _) (v := ?_) rfl (by kernel_rfl) (by kernel_rfl) (by kernel_rfl) (fun _ _ _ h => h) (Or.inl ⟨by rfl, ?_⟩) (by assumption) ?_
      rotate_left
      · intro w' hSw
        (try obtain ⟨q0, q1, q2, q3⟩ := hSw)
        go_simp
        all_goals with_reducible rfl
      (try simp only [Act.put, List.setIfInBounds_toArray, List.set_cons_zero, List.set_cons_succ, List.getElem_toArray, List.getElem_cons_zero, List.getElem_cons_succ])
      refine wpAnyH_take (i := 10) (oi := _) (v := ?_) rfl (by kernel_rfl) (by kernel_rfl) (by kernel_rfl) (fun _ _ _ h => h) (Or.inl ⟨by rfl, ?_⟩) (by assumption) ?_
      rotate_left
      · intro w' hSw
        (try obtain ⟨q0, q1, q2, q3⟩ := hSw)
        go_simp
        all_goals with_reducible rfl
      (try simp only [Act.put, List.setIfInBounds_toArray, List.set_cons_zero, List.set_cons_succ, List.getElem_toArray, List.getElem_cons_zero, List.getElem_cons_succ])
      refine wpAnyH_take (i := 11) (oi := _) (v := ?_) rfl (by kernel_rfl) (by kernel_rfl) (by kernel_rfl) (fun _ _ _ h => h) (Or.inl ⟨by rfl, ?_⟩) (by assumption) ?_
      rotate_left
      · intro w' hSw
        (try obtain ⟨q0, q1, q2, q3⟩ := hSw)
        go_simp
        all_goals with_reducible rfl
      (try simp only [Act.put, List.setIfInBounds_toArray, List.set_cons_zero, List.set_cons_succ, List.getElem_toArray, List.getElem_cons_zero, List.getElem_cons_succ])
      refine wpAnyH_take (i := 12) (oi := _) (v := ?_) rfl (by kernel_rfl) (by kernel_rfl) (by kernel_rfl) (fun _ _ _ h => h) (Or.inl ⟨by rfl, ?_⟩) (by assumption) ?_
      rotate_left
      · intro w' hSw
        (try obtain ⟨q0, q1, q2, q3⟩ := hSw)
        go_simp
        all_goals with_reducible rfl
      (try simp only [Act.put, List.setIfInBounds_toArray, List.set_cons_zero, List.set_cons_succ, List.getElem_toArray, List.getElem_cons_zero, List.getElem_cons_succ])
      refine wpAnyH_take (i := 13) (oi := _) (v := ?_) rfl (by kernel_rfl) (by kernel_rfl) (by kernel_rfl) (fun _ _ _ h => h) (Or.inl ⟨by rfl, ?_⟩) (by assumption) ?_
      rotate_left
      · intro w' hSw
        (try obtain ⟨q0, q1, q2, q3⟩ := hSw)
        go_simp
        all_goals with_reducible rfl
      (try simp only [Act.put, List.setIfInBounds_toArray, List.set_cons_zero, List.set_cons_succ, List.getElem_toArray, List.getElem_cons_zero, List.getElem_cons_succ])
      refine wpAnyH_take (i := 14) (oi := _) (v := ?_) rfl (by kernel_rfl) (by kernel_rfl) (by kernel_rfl) (fun _ _ _ h => h) (Or.inl ⟨by rfl, ?_⟩) (by assumption) ?_
      rotate_left
      · intro w' hSw
        (try obtain ⟨q0, q1, q2, q3⟩ := hSw)
        go_simp
        all_goals with_reducible rfl
      (try simp only [Act.put, List.setIfInBounds_toArray, List.set_cons_zero, List.set_cons_succ, List.getElem_toArray, List.getElem_cons_zero, List.getElem_cons_succ])
      refine wpAnyH_take (i := 15) (oi := _) (v := ?_) rfl (by kernel_rfl) (by kernel_rfl) (by kernel_rfl) (fun _ _ _ h => h) (Or.inl ⟨by rfl, ?_⟩) (by assumption) ?_
      rotate_left
      · intro w' hSw
        (try obtain ⟨q0, q1, q2, q3⟩ := hSw)
        go_simp
        all_goals with_reducible rfl
      (try simp only [Act.put, List.setIfInBounds_toArray, List.set_cons_zero, List.set_cons_succ, List.getElem_toArray, List.getElem_cons_zero, List.getElem_cons_succ])
      refine wpAnyH_take (i := 16) (oi := _) (v := ?_) rfl (by kernel_rfl) (by kernel_rfl) (by kernel_rfl) (fun _ _ _ h => h) (Or.inl ⟨by rfl, ?_⟩) (by assumption) ?_
      rotate_left
      · intro w' hSw
        (try obtain ⟨q0, q1, q2, q3⟩ := hSw)
        go_simp
        all_goals with_reducible rfl
      (try simp only [Act.put, List.setIfInBounds_toArray, List.set_cons_zero, List.set_cons_succ, List.getElem_toArray, List.getElem_cons_zero, List.getElem_cons_succ])
      refine wpAnyH_take (i := 17) (oi := _) (v := ?_) rfl (by kernel_rfl) (by kernel_rfl) (by kernel_rfl) (fun _ _ _ h => h) (Or.inl ⟨by rfl, ?_⟩) (by assumption) ?_
      rotate_left
      · intro w' hSw
        (try obtain ⟨q0, q1, q2, q3⟩ := hSw)
        go_simp
        all_goals with_reducible rfl
      (try simp only [Act.put, List.setIfInBounds_toArray, List.set_cons_zero, List.set_cons_succ, List.getElem_toArray, List.getElem_cons_zero, List.getElem_cons_succ])
      refine wpAnyH_ready (rs := [18]) (by kernel_rfl) (by simp) ?_
      refine AllReadyH.cons rfl (fun K hK => ?_) AllReadyH.nil
      go_simp
      refine hK.out _ _ ?_ (fun hHeld => ?_)
      · exact (hN4.set hgQ 5 _).drew
      clear hK K
      refine wpAnyH_take (i := 19) (oi := _) (v := ?_) rfl (by kernel_rfl) (by kernel_rfl) (by kernel_rfl) (fun _ _ _ h => h) (Or.inl ⟨by rfl, ?_⟩) (by assumption) ?_
      rotate_left
      · intro w' hSw
        (try obtain ⟨q0, q1, q2, q3⟩ := hSw)
        go_simp
        all_goals with_reducible rfl
      (try simp only [Act.put, List.setIfInBounds_toArray, List.set_cons_zero, List.set_cons_succ, List.getElem_toArray, List.getElem_cons_zero, List.getElem_cons_succ])
      refine wpAnyH_take (i := 20) (oi := _) (v := ?_) rfl (by kernel_rfl) (by kernel_rfl) (by kernel_rfl) (fun _ _ _ h => h) (Or.inl ⟨by rfl, ?_⟩) (by assumption) ?_
      rotate_left
      · intro w' hSw
        (try obtain ⟨q0, q1, q2, q3⟩ := hSw)
        go_simp
        all_goals with_reducible rfl
      (try simp only [Act.put, List.setIfInBounds_toArray, List.set_cons_zero, List.set_cons_succ, List.getElem_toArray, List.getElem_cons_zero, List.getElem_cons_succ])
      refine wpAnyH_ready (rs := [21]) (by kernel_rfl) (by simp) ?_
      refine AllReadyH.cons rfl (fun K hK => ?_) AllReadyH.nil
      go_simp
      refine hK.out _ _ ?_ (fun hHeld => ?_)
      · exact ((hN4.set hgQ 5 _).set hgQ 6 _).drew
      clear hK K
      refine wpAnyH_take (i := 22) (oi := _) (v := ?_) rfl (by kernel_rfl) (by kernel_rfl) (by kernel_rfl) (fun _ _ _ h => h) (Or.inl ⟨by rfl, ?_⟩) (by assumption) ?_
      rotate_left
      · intro w' hSw
        (try obtain ⟨q0, q1, q2, q3⟩ := hSw)
        go_simp
        all_goals with_reducible rfl
      (try simp only [Act.put, List.setIfInBounds_toArray, List.set_cons_zero, List.set_cons_succ, List.getElem_toArray, List.getElem_cons_zero, List.getElem_cons_succ])
      refine wpAnyH_take (i := 23) (oi := _) (v := ?_) rfl (by kernel_rfl) (by kernel_rfl) (by kernel_rfl) (fun _ _ _ h => h) (Or.inl ⟨by rfl, ?_⟩) (by assumption) ?_
      rotate_left
      · intro w' hSw
        (try obtain ⟨q0, q1, q2, q3⟩ := hSw)
        go_simp
        all_goals with_reducible rfl
      (try simp only [Act.put, List.setIfInBounds_toArray, List.set_cons_zero, List.set_cons_succ, List.getElem_toArray, List.getElem_cons_zero, List.getElem_cons_succ])
      refine wpAnyH_ready (rs := [24]) (by kernel_rfl) (by simp) ?_
      refine AllReadyH.cons rfl (fun K hK => ?_) AllReadyH.nil
      go_simp
      refine hK.out _ _ ?_ (fun hHeld => ?_)
      · exact (((hN4.set hgQ 5 _).set hgQ 6 _).set hgQ 7 _).drew
      clear hK K
      refine wpAnyH_take (i := 25) (oi := _) (v := ?_) rfl (by kernel_rfl) (by kernel_rfl) (by kernel_rfl) (fun _ _ _ h => h) (Or.inl ⟨by rfl, ?_⟩) (by assumption) ?_
      rotate_left
      · intro w' hSw
        (try obtain ⟨q0, q1, q2, q3⟩ := hSw)
        go_simp
        all_goals with_reducible rfl
      (try simp only [Act.put, List.setIfInBounds_toArray, List.set_cons_zero, List.set_cons_succ, List.getElem_toArray, List.getElem_cons_zero, List.getElem_cons_succ])
      refine wpAnyH_take (i := 26) (oi := _) (v := ?_) rfl (by kernel_rfl) (by kernel_rfl) (by kernel_rfl) (fun _ _ _ h => h) (Or.inl ⟨by rfl, ?_⟩) (by assumption) ?_
      rotate_left
      · intro w' hSw
        (try obtain ⟨q0, q1, q2, q3⟩ := hSw)
        go_simp
        all_goals with_reducible rfl
      (try simp only [Act.put, List.setIfInBounds_toArray, List.set_cons_zero, List.set_cons_succ, List.getElem_toArray, List.getElem_cons_zero, List.getElem_cons_succ])
      refine wpAnyH_ready (rs := [27]) (by kernel_rfl) (by simp) ?_
      refine AllReadyH.cons rfl (fun K hK => ?_) AllReadyH.nil
      go_simp
      refine hK.out _ _ ?_ (fun hHeld => ?_)
      · exact ((((hN4.set hgQ 5 _).set hgQ 6 _).set hgQ 7 _).set hgQ 8 _).drew
      clear hK K
      refine wpAnyH_done (by kernel_rfl) ?_ _
      go_wp2
      go_ret
      rw [HZ.out]
      have hS3 := ((((HS2.out.setc (p' := { p with tl := a }) 5 (.int .i64 a) (by decide) (by simp)).setc (p' := { p with tl := a, bk := b }) 6 (.int .i64 b) (by decide) (by simp)).setc (p' := { p with tl := a, bk := b, af := c }) 7 (.int .i64 c) (by decide) (by simp)).setc (p' := { p with tl := a, bk := b, af := c, sh := d }) 8 (.int .i64 d) (by decide) (by simp)).drew
      have hO3 := ((OnlyQ.set Q w2 5 (.int .i64 a)).trans ((OnlyQ.set Q _ 6 (.int .i64 b)).trans ((OnlyQ.set Q _ 7 (.int .i64 c)).trans (OnlyQ.set Q _ 8 (.int .i64 d))))).below HS2.out.bQ HS2.out.nN
      exact ⟨rfl, (HW2.out.trans hO3).drew, _, hS3⟩
  · have he : (x == [114, 101, 115, 116]) = false := by rw [beq_eq_false_iff_ne]; exact hw
    have he2 : (x != [114, 101, 115, 116]) = true := by rw [bne_iff_ne]; exact hw
    have HZ : Hid (z = none) := by
      unfold Hid
      rw [hz]
      show (line1 (x :: r) p).map _ = none
      unfold line1; dsimp only; rw [if_neg hw]; rfl
    clear hz hw
    have c1 : Calls Tryd.prog 85 #[.slice (some ⟨B, o2, none⟩) r.length (cv - 1), .int .i64 4, .int .i64 7] w fun e w' => (∃ q m k, e = .returned (.slice q m k)) ∧ Below w.heap.size w w' := by
      rcases c0 with ⟨_, c0⟩ | ⟨a, b, c, d, _, c0⟩
      · exact c0.mono fun e w' h => ⟨⟨_, _, _, h.1⟩, h.2⟩
      · exact c0.mono fun e w' h => ⟨by obtain ⟨g, k, h1, _⟩ := h.1; exact ⟨_, _, _, h1⟩, h.2⟩
    clear c0
    go_enter Tryd.func47, Tryd.ntmps47
    go_wp2_with (go_at_call 85; (with_reducible refine c1.mono ?_); rintro e w1 ⟨⟨q, m, k, rfl⟩, hb1⟩; have cx1 := (hb1.cell (p := ⟨B, 0, none⟩) hBl).trans cx; have hs1 := hb1.size)
    have hBl1 : B < w1.heap.size := by omega
    have hBn1 : ¬ B = w1.heap.size := by omega
    go_region
    all_goals
      go_wp2
      go_ret
      rw [HZ.out]
      exact ⟨rfl, ((hb1.mono hNn).trans ((balloc _).mono (Nat.le_trans hNn hs1))).drew⟩
end Pln
end Go.Proofs.YtcaobnmfgnbolabDoor
namespace Go.Proofs.YtcaobnmfgnbolabDoor
namespace Pln
open Go.RowKit Lai Civ Crn Pie
set_option maxRecDepth 8000
set_option linter.unusedSimpArgs false
set_option linter.unusedVariables false

set_option maxHeartbeats 4000000 in
theorem rl2 (rd : List UInt8 → Option K) (x : List UInt8) (r : List (List UInt8)) (B cv N Q : Nat) (p : Pd) (ts : List Tr) (v : Value) (w : World) (hS : PS w 55 N Q p ts v) (hW : TxAt w B 0 (x :: r)) (hBQ : B ≠ Q) (hcv : r.length + 1 ≤ cv) (hr : r.length + 1 ≤ 3000) (hx : ∀ y ∈ x :: r, y.length ≤ 3000) :
    Calls Tryd.prog 47 #[.pointer (some ⟨Q, 0, none⟩), .int .i64 2, .slice (some ⟨B, 0, none⟩) (r.length + 1) cv] w fun e w' => LineR 55 N Q w (lineS rd 2 (p, ts) (x :: r)) e w' := by
  obtain ⟨o2, hif, hW2⟩ := hW.cut hcv
  obtain ⟨z, hz⟩ : ∃ z, z = lineS rd 2 (p, ts) (x :: r) := ⟨_, rfl⟩
  rw [← hz]
  have qN : ∀ (w : World) (a : Option Addr) (n c : Nat), (binOp .eql 56 (.slice a n c) (.slice none 0 0)).run Tryd.prog w = .ok (.bool a.isNone) w := fun w a n c => Lib.run_eql_slice_nil w _ _ a n c 0 0 Tryd.underlying56
  have cx : w.cell? ⟨B, 0, none⟩ = some (strV x) := hW.2 0 x rfl
  have c0 := four_w r B o2 (cv - 1) w hW2 (by omega) (fun y hy => hx y (List.mem_cons_of_mem _ hy))
  have hBl := hW.1
  have hQl := hS.lt
  have hNn := hS.nN
  have HS : Hid (PS w 55 N Q p ts v) := hS
  clear hW hW2 hx hS
  by_cases hw : x = wUp
  · subst hw
    have HZ : Hid (z = (four r).map fun q => (match q with | (a, b, c, d) => (({ p with uw := a, up := b, uc := c, ue := d } : Pd), ts))) := by
      unfold Hid
      rw [hz]
      show (line2 (wUp :: r) p).map _ = _
      unfold line2
      dsimp only
      rw [if_pos rfl, Option.map_map]
      rfl
    clear hz
    rcases c0 with ⟨hf, c0⟩ | ⟨a, b, c, d, hf, c0⟩
    · rw [hf] at HZ
      clear hf
      go_enter Tryd.func47, Tryd.ntmps47
      go_wp2_with (go_at_call 85; (with_reducible refine c0.mono ?_); rintro e w1 ⟨rfl, hb1⟩; have cx1 := (hb1.cell (p := ⟨B, 0, none⟩) hBl).trans cx; have hs1 := hb1.size)
      have hBl1 : B < w1.heap.size := by omega
      have hBn1 : ¬ B = w1.heap.size := by omega
      go_region
      all_goals
        go_wp2
        go_ret
        rw [HZ.out]
        exact ⟨rfl, ((hb1.mono hNn).trans ((balloc _).mono (Nat.le_trans hNn hs1))).drew⟩
    · rw [hf] at HZ
      clear hf
      go_enter Tryd.func47, Tryd.ntmps47
      go_wp2_with (go_at_call 85; (with_reducible refine c0.mono ?_); rintro e w1 ⟨⟨g, k, rfl, hg0, hg1, hn4⟩, hb1⟩; have cx1 := (hb1.cell (p := ⟨B, 0, none⟩) hBl).trans cx; have hs1 := hb1.size)
      have hBl1 : B < w1.heap.size := by omega
      have hBn1 : ¬ B = w1.heap.size := by omega
      go_region
      have hb2 := bad1 w1 (.cells #[.string ⟨#[]⟩, .string ⟨#[114, 101, 115, 116]⟩, .string ⟨#[117, 112]⟩, .string ⟨#[100, 111, 119, 110]⟩] 9)
      have hN4 : Ns4 g a b c d (w1.alloc (.cells #[.string ⟨#[]⟩, .string ⟨#[114, 101, 115, 116]⟩, .string ⟨#[117, 112]⟩, .string ⟨#[100, 111, 119, 110]⟩] 9)).drew := hn4.below hb2 hg1
      generalize (w1.alloc (.cells #[.string ⟨#[]⟩, .string ⟨#[114, 101, 115, 116]⟩, .string ⟨#[117, 112]⟩, .string ⟨#[100, 111, 119, 110]⟩] 9)).drew = w2 at *
      have hs2 := hb2.size
      have hS2 := (HS.out.below hb1).below hb2
      have hw2 : Below N w w2 := (hb1.mono hNn).trans (hb2.mono (Nat.le_trans hNn hs1))
      have hgQ : g ≠ Q := by omega
      have HW2 : Hid (Below N w w2) := hw2
      have HS2 : Hid (PS w2 55 N Q p ts v) := hS2
      clear hw2 hn4 c0 cx1 cx hBl1 hBn1 hb1 hb2
      have d9 : w2.cell? ⟨Q, 9, none⟩ = some (.int .i64 p.uw) := by simpa using HS2.out.cel 9
      have d10 : w2.cell? ⟨Q, 10, none⟩ = some (.int .i64 p.up) := by simpa using HS2.out.cel 10
      have d11 : w2.cell? ⟨Q, 11, none⟩ = some (.int .i64 p.uc) := by simpa using HS2.out.cel 11
      have d12 : w2.cell? ⟨Q, 12, none⟩ = some (.int .i64 p.ue) := by simpa using HS2.out.cel 12
      have f9 := HS2.out.fz 9
      have f10 := HS2.out.fz 10
      have f11 := HS2.out.fz 11
      have f12 := HS2.out.fz 12
      have hQ2 := HS2.out.lt
      go_wp2_with fail
      refine wp_region_held_drew (S := fun w' => Ns4 g a b c d w') (by kernel_rfl) hN4.drew (fun hHeld => ?_)
      refine wpAnyH_take (i := 0) (oi := _) (v := ?_) rfl (by kernel_rfl) (by kernel_rfl) (by kernel_rfl) (fun _ _ _ h => h) (Or.inl ⟨by rfl, ?_⟩) (by assumption) ?_
      rotate_left
      · intro w' hSw
        (try obtain ⟨q0, q1, q2, q3⟩ := hSw)
        go_simp
        all_goals with_reducible rfl
      (try simp only [Act.put, List.setIfInBounds_toArray, List.set_cons_zero, List.set_cons_succ, List.getElem_toArray, List.getElem_cons_zero, List.getElem_cons_succ])
      refine wpAnyH_take (i := 1) (oi := _) (v := ?_) rfl (by kernel_rfl) (by kernel_rfl) (by kernel_rfl) (fun _ _ _ h => h) (Or.inl ⟨by rfl, ?_⟩) (by assumption) ?_
      rotate_left
      · intro w' hSw
        (try obtain ⟨q0, q1, q2, q3⟩ := hSw)
        go_simp
        all_goals with_reducible rfl
      (try simp only [Act.put, List.setIfInBounds_toArray, List.set_cons_zero, List.set_cons_succ, List.getElem_toArray, List.getElem_cons_zero, List.getElem_cons_succ])
      refine wpAnyH_take (i := 2) (oi := _) (v := ?_) rfl (by kernel_rfl) (by kernel_rfl) (by kernel_rfl) (fun _ _ _ h => h) (Or.inl ⟨by rfl, ?_⟩) (by assumption) ?_
      rotate_left
      · intro w' hSw
        (try obtain ⟨q0, q1, q2, q3⟩ := hSw)
        go_simp
        all_goals with_reducible rfl
      (try simp only [Act.put, List.setIfInBounds_toArray, List.set_cons_zero, List.set_cons_succ, List.getElem_toArray, List.getElem_cons_zero, List.getElem_cons_succ])
      refine wpAnyH_take (i := 3) (oi := _) (v := ?_) rfl (by kernel_rfl) (by kernel_rfl) (by kernel_rfl) (fun _ _ _ h => h) (Or.inl ⟨by rfl, ?_⟩) (by assumption) ?_
      rotate_left
      · intro w' hSw
        (try obtain ⟨q0, q1, q2, q3⟩ := hSw)
        go_simp
        all_goals with_reducible rfl
      (try simp only [Act.put, List.setIfInBounds_toArray, List.set_cons_zero, List.set_cons_succ, List.getElem_toArray, List.getElem_cons_zero, List.getElem_cons_succ])
      refine wpAnyH_take (i := 4) (oi := _) (v := ?_) rfl (by kernel_rfl) (by kernel_rfl) (by kernel_rfl) (fun _ _ _ h => h) (Or.inl ⟨by rfl, ?_⟩) (by assumption) ?_
      rotate_left
      · intro w' hSw
        (try obtain ⟨q0, q1, q2, q3⟩ := hSw)
        go_simp
        all_goals with_reducible rfl
      (try simp only [Act.put, List.setIfInBounds_toArray, List.set_cons_zero, List.set_cons_succ, List.getElem_toArray, List.getElem_cons_zero, List.getElem_cons_succ])
      refine wpAnyH_take (i := 5) (oi := _) (v := ?_) rfl (by kernel_rfl) (by kernel_rfl) (by kernel_rfl) (fun _ _ _ h => h) (Or.inl ⟨by rfl, ?_⟩) (by assumption) ?_
      rotate_left
      · intro w' hSw
        (try obtain ⟨q0, q1, q2, q3⟩ := hSw)
        go_simp
        all_goals with_reducible rfl
      (try simp only [Act.put, List.setIfInBounds_toArray, List.set_cons_zero, List.set_cons_succ, List.getElem_toArray, List.getElem_cons_zero, List.getElem_cons_succ])
      refine wpAnyH_take (i := 6) (oi := _) (v := ?_) rfl (by kernel_rfl) (by kernel_rfl) (by kernel_rfl) (fun _ _ _ h => h) (Or.inl ⟨by rfl, ?_⟩) (by assumption) ?_
      rotate_left
      · intro w' hSw
        (try obtain ⟨q0, q1, q2, q3⟩ := hSw)
        go_simp
        all_goals with_reducible rfl
      (try simp only [Act.put, List.setIfInBounds_toArray, List.set_cons_zero, List.set_cons_succ, List.getElem_toArray, List.getElem_cons_zero, List.getElem_cons_succ])
      refine wpAnyH_take (i := 7) (oi := _) (v := ?_) rfl (by kernel_rfl) (by kernel_rfl) (by kernel_rfl) (fun _ _ _ h => h) (Or.inl ⟨by rfl, ?_⟩) (by assumption) ?_
      rotate_left
      · intro w' hSw
        (try obtain ⟨q0, q1, q2, q3⟩ := hSw)
        go_simp
        all_goals with_reducible rfl
      (try simp only [Act.put, List.setIfInBounds_toArray, List.set_cons_zero, List.set_cons_succ, List.getElem_toArray, List.getElem_cons_zero, List.getElem_cons_succ])
      refine wpAnyH_take (i := 8) (oi := _) (v := ?_) rfl (by kernel_rfl) (by kernel_rfl) (by kernel_rfl) (fun _ _ _ h => h) (Or.inl ⟨by rfl, ?_⟩) (by assumption) ?_
      rotate_left
      · intro w' hSw
        (try obtain ⟨q0, q1, q2, q3⟩ := hSw)
        go_simp
        all_goals with_reducible rfl
      (try simp only [Act.put, List.setIfInBounds_toArray, List.set_cons_zero, List.set_cons_succ, List.getElem_toArray, List.getElem_cons_zero, List.getElem_cons_succ])
      refine wpAnyH_take (i := 9) (oi := _) (v := ?_) rfl (by kernel_rfl) (by kernel_rfl) (by kernel_rfl) (fun _ _ _ h => h) (Or.inl ⟨by rfl, ?_⟩) (by assumption) ?_
      rotate_left
      · intro w' hSw
        (try obtain ⟨q0, q1, q2, q3⟩ := hSw)
        go_simp
        all_goals with_reducible rfl
      (try simp only [Act.put, List.setIfInBounds_toArray, List.set_cons_zero, List.set_cons_succ, List.getElem_toArray, List.getElem_cons_zero, List.getElem_cons_succ])
      refine wpAnyH_take (i := 10) (oi := _) (v := ?_) rfl (by kernel_rfl) (by kernel_rfl) (by kernel_rfl) (fun _ _ _ h => h) (Or.inl ⟨by rfl, ?_⟩) (by assumption) ?_
      rotate_left
      · intro w' hSw
        (try obtain ⟨q0, q1, q2, q3⟩ := hSw)
        go_simp
        all_goals with_reducible rfl
      (try simp only [Act.put, List.setIfInBounds_toArray, List.set_cons_zero, List.set_cons_succ, List.getElem_toArray, List.getElem_cons_zero, List.getElem_cons_succ])
      refine wpAnyH_take (i := 11) (oi := _) (v := ?_) rfl (by kernel_rfl) (by kernel_rfl) (by kernel_rfl) (fun _ _ _ h => h) (Or.inl ⟨by rfl, ?_⟩) (by assumption) ?_
      rotate_left
      · intro w' hSw
        (try obtain ⟨q0, q1, q2, q3⟩ := hSw)
        go_simp
        all_goals with_reducible rfl
      (try simp only [Act.put, List.setIfInBounds_toArray, List.set_cons_zero, List.set_cons_succ, List.getElem_toArray, List.getElem_cons_zero, List.getElem_cons_succ])
      refine wpAnyH_take (i := 12) (oi := _) (v := ?_) rfl (by kernel_rfl) (by kernel_rfl) (by kernel_rfl) (fun _ _ _ h => h) (Or.inl ⟨by rfl, ?_⟩) (by assumption) ?_
      rotate_left
      · intro w' hSw
        (try obtain ⟨q0, q1, q2, q3⟩ := hSw)
        go_simp
        all_goals with_reducible rfl
      (try simp only [Act.put, List.setIfInBounds_toArray, List.set_cons_zero, List.set_cons_succ, List.getElem_toArray, List.getElem_cons_zero, List.getElem_cons_succ])
      refine wpAnyH_take (i := 13) (oi := _) (v := ?_) rfl (by kernel_rfl) (by kernel_rfl) (by kernel_rfl) (fun _ _ _ h => h) (Or.inl ⟨by rfl, ?_⟩) (by assumption) ?_
      rotate_left
      · intro w' hSw
        (try obtain ⟨q0, q1, q2, q3⟩ := hSw)
        go_simp
        all_goals with_reducible rfl
      (try simp only [Act.put, List.setIfInBounds_toArray, List.set_cons_zero, List.set_cons_succ, List.getElem_toArray, List.getElem_cons_zero, List.getElem_cons_succ])
      refine wpAnyH_take (i := 14) (oi := _) (v := ?_) rfl (by kernel_rfl) (by kernel_rfl) (by kernel_rfl) (fun _ _ _ h => h) (Or.inl ⟨by rfl, ?_⟩) (by assumption) ?_
      rotate_left
      · intro w' hSw
        (try obtain ⟨q0, q1, q2, q3⟩ := hSw)
        go_simp
        all_goals with_reducible rfl
      (try simp only [Act.put, List.setIfInBounds_toArray, List.set_cons_zero, List.set_cons_succ, List.getElem_toArray, List.getElem_cons_zero, List.getElem_cons_succ])
      refine wpAnyH_take (i := 15) (oi := _) (v := ?_) rfl (by kernel_rfl) (by kernel_rfl) (by kernel_rfl) (fun _ _ _ h => h) (Or.inl ⟨by rfl, ?_⟩) (by assumption) ?_
      rotate_left
      · intro w' hSw
        (try obtain ⟨q0, q1, q2, q3⟩ := hSw)
        go_simp
        all_goals with_reducible rfl
      (try simp only [Act.put, List.setIfInBounds_toArray, List.set_cons_zero, List.set_cons_succ, List.getElem_toArray, List.getElem_cons_zero, List.getElem_cons_succ])
      refine wpAnyH_ready (rs := [16]) (by kernel_rfl) (by simp) ?_
      refine AllReadyH.cons rfl (fun K hK => ?_) AllReadyH.nil
      go_simp
      refine hK.out _ _ ?_ (fun hHeld => ?_)
      · exact ((((hN4.set hgQ 9 _).set hgQ 10 _).set hgQ 11 _).set hgQ 12 _).drew
      clear hK K
      refine wpAnyH_done (by kernel_rfl) ?_ _
      go_wp2
      go_ret
      rw [HZ.out]
      have hS3 := ((((HS2.out.setc (p' := { p with uw := a }) 9 (.int .i64 a) (by decide) (by simp)).setc (p' := { p with uw := a, up := b }) 10 (.int .i64 b) (by decide) (by simp)).setc (p' := { p with uw := a, up := b, uc := c }) 11 (.int .i64 c) (by decide) (by simp)).setc (p' := { p with uw := a, up := b, uc := c, ue := d }) 12 (.int .i64 d) (by decide) (by simp)).drew
      have hO3 := ((OnlyQ.set Q w2 9 (.int .i64 a)).trans ((OnlyQ.set Q _ 10 (.int .i64 b)).trans ((OnlyQ.set Q _ 11 (.int .i64 c)).trans (OnlyQ.set Q _ 12 (.int .i64 d))))).below HS2.out.bQ HS2.out.nN
      exact ⟨rfl, (HW2.out.trans hO3).drew, _, hS3⟩
  · have he : (x == [117, 112]) = false := by rw [beq_eq_false_iff_ne]; exact hw
    have he2 : (x != [117, 112]) = true := by rw [bne_iff_ne]; exact hw
    have HZ : Hid (z = none) := by
      unfold Hid
      rw [hz]
      show (line2 (x :: r) p).map _ = none
      unfold line2; dsimp only; rw [if_neg hw]; rfl
    clear hz hw
    have c1 : Calls Tryd.prog 85 #[.slice (some ⟨B, o2, none⟩) r.length (cv - 1), .int .i64 4, .int .i64 7] w fun e w' => (∃ q m k, e = .returned (.slice q m k)) ∧ Below w.heap.size w w' := by
      rcases c0 with ⟨_, c0⟩ | ⟨a, b, c, d, _, c0⟩
      · exact c0.mono fun e w' h => ⟨⟨_, _, _, h.1⟩, h.2⟩
      · exact c0.mono fun e w' h => ⟨by obtain ⟨g, k, h1, _⟩ := h.1; exact ⟨_, _, _, h1⟩, h.2⟩
    clear c0
    go_enter Tryd.func47, Tryd.ntmps47
    go_wp2_with (go_at_call 85; (with_reducible refine c1.mono ?_); rintro e w1 ⟨⟨q, m, k, rfl⟩, hb1⟩; have cx1 := (hb1.cell (p := ⟨B, 0, none⟩) hBl).trans cx; have hs1 := hb1.size)
    have hBl1 : B < w1.heap.size := by omega
    have hBn1 : ¬ B = w1.heap.size := by omega
    go_region
    all_goals
      go_wp2
      go_ret
      rw [HZ.out]
      exact ⟨rfl, ((hb1.mono hNn).trans ((balloc _).mono (Nat.le_trans hNn hs1))).drew⟩
set_option maxHeartbeats 4000000 in
theorem rl3 (rd : List UInt8 → Option K) (x : List UInt8) (r : List (List UInt8)) (B cv N Q : Nat) (p : Pd) (ts : List Tr) (v : Value) (w : World) (hS : PS w 55 N Q p ts v) (hW : TxAt w B 0 (x :: r)) (hBQ : B ≠ Q) (hcv : r.length + 1 ≤ cv) (hr : r.length + 1 ≤ 3000) (hx : ∀ y ∈ x :: r, y.length ≤ 3000) :
    Calls Tryd.prog 47 #[.pointer (some ⟨Q, 0, none⟩), .int .i64 3, .slice (some ⟨B, 0, none⟩) (r.length + 1) cv] w fun e w' => LineR 55 N Q w (lineS rd 3 (p, ts) (x :: r)) e w' := by
  obtain ⟨o2, hif, hW2⟩ := hW.cut hcv
  obtain ⟨z, hz⟩ : ∃ z, z = lineS rd 3 (p, ts) (x :: r) := ⟨_, rfl⟩
  rw [← hz]
  have qN : ∀ (w : World) (a : Option Addr) (n c : Nat), (binOp .eql 56 (.slice a n c) (.slice none 0 0)).run Tryd.prog w = .ok (.bool a.isNone) w := fun w a n c => Lib.run_eql_slice_nil w _ _ a n c 0 0 Tryd.underlying56
  have cx : w.cell? ⟨B, 0, none⟩ = some (strV x) := hW.2 0 x rfl
  have c0 := four_w r B o2 (cv - 1) w hW2 (by omega) (fun y hy => hx y (List.mem_cons_of_mem _ hy))
  have hBl := hW.1
  have hQl := hS.lt
  have hNn := hS.nN
  have HS : Hid (PS w 55 N Q p ts v) := hS
  clear hW hW2 hx hS
  by_cases hw : x = wDown
  · subst hw
    have HZ : Hid (z = (four r).map fun q => (match q with | (a, b, c, d) => (({ p with dw := a, dp := b, dc := c, de := d } : Pd), ts))) := by
      unfold Hid
      rw [hz]
      show (line3 (wDown :: r) p).map _ = _
      unfold line3
      dsimp only
      rw [if_pos rfl, Option.map_map]
      rfl
    clear hz
    rcases c0 with ⟨hf, c0⟩ | ⟨a, b, c, d, hf, c0⟩
    · rw [hf] at HZ
      clear hf
      go_enter Tryd.func47, Tryd.ntmps47
      go_wp2_with (go_at_call 85; (with_reducible refine c0.mono ?_); rintro e w1 ⟨rfl, hb1⟩; have cx1 := (hb1.cell (p := ⟨B, 0, none⟩) hBl).trans cx; have hs1 := hb1.size)
      have hBl1 : B < w1.heap.size := by omega
      have hBn1 : ¬ B = w1.heap.size := by omega
      go_region
      all_goals
        go_wp2
        go_ret
        rw [HZ.out]
        exact ⟨rfl, ((hb1.mono hNn).trans ((balloc _).mono (Nat.le_trans hNn hs1))).drew⟩
    · rw [hf] at HZ
      clear hf
      go_enter Tryd.func47, Tryd.ntmps47
      go_wp2_with (go_at_call 85; (with_reducible refine c0.mono ?_); rintro e w1 ⟨⟨g, k, rfl, hg0, hg1, hn4⟩, hb1⟩; have cx1 := (hb1.cell (p := ⟨B, 0, none⟩) hBl).trans cx; have hs1 := hb1.size)
      have hBl1 : B < w1.heap.size := by omega
      have hBn1 : ¬ B = w1.heap.size := by omega
      go_region
      have hb2 := bad1 w1 (.cells #[.string ⟨#[]⟩, .string ⟨#[114, 101, 115, 116]⟩, .string ⟨#[117, 112]⟩, .string ⟨#[100, 111, 119, 110]⟩] 9)
      have hN4 : Ns4 g a b c d (w1.alloc (.cells #[.string ⟨#[]⟩, .string ⟨#[114, 101, 115, 116]⟩, .string ⟨#[117, 112]⟩, .string ⟨#[100, 111, 119, 110]⟩] 9)).drew := hn4.below hb2 hg1
      generalize (w1.alloc (.cells #[.string ⟨#[]⟩, .string ⟨#[114, 101, 115, 116]⟩, .string ⟨#[117, 112]⟩, .string ⟨#[100, 111, 119, 110]⟩] 9)).drew = w2 at *
      have hs2 := hb2.size
      have hS2 := (HS.out.below hb1).below hb2
      have hw2 : Below N w w2 := (hb1.mono hNn).trans (hb2.mono (Nat.le_trans hNn hs1))
      have hgQ : g ≠ Q := by omega
      have HW2 : Hid (Below N w w2) := hw2
      have HS2 : Hid (PS w2 55 N Q p ts v) := hS2
      clear hw2 hn4 c0 cx1 cx hBl1 hBn1 hb1 hb2
      have d13 : w2.cell? ⟨Q, 13, none⟩ = some (.int .i64 p.dw) := by simpa using HS2.out.cel 13
      have d14 : w2.cell? ⟨Q, 14, none⟩ = some (.int .i64 p.dp) := by simpa using HS2.out.cel 14
      have d15 : w2.cell? ⟨Q, 15, none⟩ = some (.int .i64 p.dc) := by simpa using HS2.out.cel 15
      have d16 : w2.cell? ⟨Q, 16, none⟩ = some (.int .i64 p.de) := by simpa using HS2.out.cel 16
      have f13 := HS2.out.fz 13
      have f14 := HS2.out.fz 14
      have f15 := HS2.out.fz 15
      have f16 := HS2.out.fz 16
      have hQ2 := HS2.out.lt
      go_wp2_with fail
      refine wp_region_held_drew (S := fun w' => Ns4 g a b c d w') (by kernel_rfl) hN4.drew (fun hHeld => ?_)
      refine wpAnyH_take (i := 0) (oi := _) (v := ?_) rfl (by kernel_rfl) (by kernel_rfl) (by kernel_rfl) (fun _ _ _ h => h) (Or.inl ⟨by rfl, ?_⟩) (by assumption) ?_
      rotate_left
      · intro w' hSw
        (try obtain ⟨q0, q1, q2, q3⟩ := hSw)
        go_simp
        all_goals with_reducible rfl
      (try simp only [Act.put, List.setIfInBounds_toArray, List.set_cons_zero, List.set_cons_succ, List.getElem_toArray, List.getElem_cons_zero, List.getElem_cons_succ])
      refine wpAnyH_take (i := 1) (oi := _) (v := ?_) rfl (by kernel_rfl) (by kernel_rfl) (by kernel_rfl) (fun _ _ _ h => h) (Or.inl ⟨by rfl, ?_⟩) (by assumption) ?_
      rotate_left
      · intro w' hSw
        (try obtain ⟨q0, q1, q2, q3⟩ := hSw)
        go_simp
        all_goals with_reducible rfl
      (try simp only [Act.put, List.setIfInBounds_toArray, List.set_cons_zero, List.set_cons_succ, List.getElem_toArray, List.getElem_cons_zero, List.getElem_cons_succ])
      refine wpAnyH_take (i := 2) (oi := _) (v := ?_) rfl (by kernel_rfl) (by kernel_rfl) (by kernel_rfl) (fun _ _ _ h => h) (Or.inl ⟨by rfl, ?_⟩) (by assumption) ?_
      rotate_left
      · intro w' hSw
        (try obtain ⟨q0, q1, q2, q3⟩ := hSw)
        go_simp
        all_goals with_reducible rfl
      (try simp only [Act.put, List.setIfInBounds_toArray, List.set_cons_zero, List.set_cons_succ, List.getElem_toArray, List.getElem_cons_zero, List.getElem_cons_succ])
      refine wpAnyH_take (i := 3) (oi := _) (v := ?_) rfl (by kernel_rfl) (by kernel_rfl) (by kernel_rfl) (fun _ _ _ h => h) (Or.inl ⟨by rfl, ?_⟩) (by assumption) ?_
      rotate_left
      · intro w' hSw
        (try obtain ⟨q0, q1, q2, q3⟩ := hSw)
        go_simp
        all_goals with_reducible rfl
      (try simp only [Act.put, List.setIfInBounds_toArray, List.set_cons_zero, List.set_cons_succ, List.getElem_toArray, List.getElem_cons_zero, List.getElem_cons_succ])
      refine wpAnyH_take (i := 4) (oi := _) (v := ?_) rfl (by kernel_rfl) (by kernel_rfl) (by kernel_rfl) (fun _ _ _ h => h) (Or.inl ⟨by rfl, ?_⟩) (by assumption) ?_
      rotate_left
      · intro w' hSw
        (try obtain ⟨q0, q1, q2, q3⟩ := hSw)
        go_simp
        all_goals with_reducible rfl
      (try simp only [Act.put, List.setIfInBounds_toArray, List.set_cons_zero, List.set_cons_succ, List.getElem_toArray, List.getElem_cons_zero, List.getElem_cons_succ])
      refine wpAnyH_take (i := 5) (oi := _) (v := ?_) rfl (by kernel_rfl) (by kernel_rfl) (by kernel_rfl) (fun _ _ _ h => h) (Or.inl ⟨by rfl, ?_⟩) (by assumption) ?_
      rotate_left
      · intro w' hSw
        (try obtain ⟨q0, q1, q2, q3⟩ := hSw)
        go_simp
        all_goals with_reducible rfl
      (try simp only [Act.put, List.setIfInBounds_toArray, List.set_cons_zero, List.set_cons_succ, List.getElem_toArray, List.getElem_cons_zero, List.getElem_cons_succ])
      refine wpAnyH_take (i := 6) (oi := _) (v := ?_) rfl (by kernel_rfl) (by kernel_rfl) (by kernel_rfl) (fun _ _ _ h => h) (Or.inl ⟨by rfl, ?_⟩) (by assumption) ?_
      rotate_left
      · intro w' hSw
        (try obtain ⟨q0, q1, q2, q3⟩ := hSw)
        go_simp
        all_goals with_reducible rfl
      (try simp only [Act.put, List.setIfInBounds_toArray, List.set_cons_zero, List.set_cons_succ, List.getElem_toArray, List.getElem_cons_zero, List.getElem_cons_succ])
      refine wpAnyH_take (i := 7) (oi := _) (v := ?_) rfl (by kernel_rfl) (by kernel_rfl) (by kernel_rfl) (fun _ _ _ h => h) (Or.inl ⟨by rfl, ?_⟩) (by assumption) ?_
      rotate_left
      · intro w' hSw
        (try obtain ⟨q0, q1, q2, q3⟩ := hSw)
        go_simp
        all_goals with_reducible rfl
      (try simp only [Act.put, List.setIfInBounds_toArray, List.set_cons_zero, List.set_cons_succ, List.getElem_toArray, List.getElem_cons_zero, List.getElem_cons_succ])
      refine wpAnyH_take (i := 8) (oi := _) (v := ?_) rfl (by kernel_rfl) (by kernel_rfl) (by kernel_rfl) (fun _ _ _ h => h) (Or.inl ⟨by rfl, ?_⟩) (by assumption) ?_
      rotate_left
      · intro w' hSw
        (try obtain ⟨q0, q1, q2, q3⟩ := hSw)
        go_simp
        all_goals with_reducible rfl
      (try simp only [Act.put, List.setIfInBounds_toArray, List.set_cons_zero, List.set_cons_succ, List.getElem_toArray, List.getElem_cons_zero, List.getElem_cons_succ])
      refine wpAnyH_take (i := 9) (oi := _) (v := ?_) rfl (by kernel_rfl) (by kernel_rfl) (by kernel_rfl) (fun _ _ _ h => h) (Or.inl ⟨by rfl, ?_⟩) (by assumption) ?_
      rotate_left
      · intro w' hSw
        (try obtain ⟨q0, q1, q2, q3⟩ := hSw)
        go_simp
        all_goals with_reducible rfl
      (try simp only [Act.put, List.setIfInBounds_toArray, List.set_cons_zero, List.set_cons_succ, List.getElem_toArray, List.getElem_cons_zero, List.getElem_cons_succ])
      refine wpAnyH_take (i := 10) (oi := _) (v := ?_) rfl (by kernel_rfl) (by kernel_rfl) (by kernel_rfl) (fun _ _ _ h => h) (Or.inl ⟨by rfl, ?_⟩) (by assumption) ?_
      rotate_left
      · intro w' hSw
        (try obtain ⟨q0, q1, q2, q3⟩ := hSw)
        go_simp
        all_goals with_reducible rfl
      (try simp only [Act.put, List.setIfInBounds_toArray, List.set_cons_zero, List.set_cons_succ, List.getElem_toArray, List.getElem_cons_zero, List.getElem_cons_succ])
      refine wpAnyH_take (i := 11) (oi := _) (v := ?_) rfl (by kernel_rfl) (by kernel_rfl) (by kernel_rfl) (fun _ _ _ h => h) (Or.inl ⟨by rfl, ?_⟩) (by assumption) ?_
      rotate_left
      · intro w' hSw
        (try obtain ⟨q0, q1, q2, q3⟩ := hSw)
        go_simp
        all_goals with_reducible rfl
      (try simp only [Act.put, List.setIfInBounds_toArray, List.set_cons_zero, List.set_cons_succ, List.getElem_toArray, List.getElem_cons_zero, List.getElem_cons_succ])
      refine wpAnyH_take (i := 12) (oi := _) (v := ?_) rfl (by kernel_rfl) (by kernel_rfl) (by kernel_rfl) (fun _ _ _ h => h) (Or.inl ⟨by rfl, ?_⟩) (by assumption) ?_
      rotate_left
      · intro w' hSw
        (try obtain ⟨q0, q1, q2, q3⟩ := hSw)
        go_simp
        all_goals with_reducible rfl
      (try simp only [Act.put, List.setIfInBounds_toArray, List.set_cons_zero, List.set_cons_succ, List.getElem_toArray, List.getElem_cons_zero, List.getElem_cons_succ])
      refine wpAnyH_take (i := 13) (oi := _) (v := ?_) rfl (by kernel_rfl) (by kernel_rfl) (by kernel_rfl) (fun _ _ _ h => h) (Or.inl ⟨by rfl, ?_⟩) (by assumption) ?_
      rotate_left
      · intro w' hSw
        (try obtain ⟨q0, q1, q2, q3⟩ := hSw)
        go_simp
        all_goals with_reducible rfl
      (try simp only [Act.put, List.setIfInBounds_toArray, List.set_cons_zero, List.set_cons_succ, List.getElem_toArray, List.getElem_cons_zero, List.getElem_cons_succ])
      refine wpAnyH_take (i := 14) (oi := _) (v := ?_) rfl (by kernel_rfl) (by kernel_rfl) (by kernel_rfl) (fun _ _ _ h => h) (Or.inl ⟨by rfl, ?_⟩) (by assumption) ?_
      rotate_left
      · intro w' hSw
        (try obtain ⟨q0, q1, q2, q3⟩ := hSw)
        go_simp
        all_goals with_reducible rfl
      (try simp only [Act.put, List.setIfInBounds_toArray, List.set_cons_zero, List.set_cons_succ, List.getElem_toArray, List.getElem_cons_zero, List.getElem_cons_succ])
      refine wpAnyH_take (i := 15) (oi := _) (v := ?_) rfl (by kernel_rfl) (by kernel_rfl) (by kernel_rfl) (fun _ _ _ h => h) (Or.inl ⟨by rfl, ?_⟩) (by assumption) ?_
      rotate_left
      · intro w' hSw
        (try obtain ⟨q0, q1, q2, q3⟩ := hSw)
        go_simp
        all_goals with_reducible rfl
      (try simp only [Act.put, List.setIfInBounds_toArray, List.set_cons_zero, List.set_cons_succ, List.getElem_toArray, List.getElem_cons_zero, List.getElem_cons_succ])
      refine wpAnyH_ready (rs := [16]) (by kernel_rfl) (by simp) ?_
      refine AllReadyH.cons rfl (fun K hK => ?_) AllReadyH.nil
      go_simp
      refine hK.out _ _ ?_ (fun hHeld => ?_)
      · exact ((((hN4.set hgQ 13 _).set hgQ 14 _).set hgQ 15 _).set hgQ 16 _).drew
      clear hK K
      refine wpAnyH_done (by kernel_rfl) ?_ _
      go_wp2
      go_ret
      rw [HZ.out]
      have hS3 := ((((HS2.out.setc (p' := { p with dw := a }) 13 (.int .i64 a) (by decide) (by simp)).setc (p' := { p with dw := a, dp := b }) 14 (.int .i64 b) (by decide) (by simp)).setc (p' := { p with dw := a, dp := b, dc := c }) 15 (.int .i64 c) (by decide) (by simp)).setc (p' := { p with dw := a, dp := b, dc := c, de := d }) 16 (.int .i64 d) (by decide) (by simp)).drew
      have hO3 := ((OnlyQ.set Q w2 13 (.int .i64 a)).trans ((OnlyQ.set Q _ 14 (.int .i64 b)).trans ((OnlyQ.set Q _ 15 (.int .i64 c)).trans (OnlyQ.set Q _ 16 (.int .i64 d))))).below HS2.out.bQ HS2.out.nN
      exact ⟨rfl, (HW2.out.trans hO3).drew, _, hS3⟩
  · have he : (x == [100, 111, 119, 110]) = false := by rw [beq_eq_false_iff_ne]; exact hw
    have he2 : (x != [100, 111, 119, 110]) = true := by rw [bne_iff_ne]; exact hw
    have HZ : Hid (z = none) := by
      unfold Hid
      rw [hz]
      show (line3 (x :: r) p).map _ = none
      unfold line3; dsimp only; rw [if_neg hw]; rfl
    clear hz hw
    have c1 : Calls Tryd.prog 85 #[.slice (some ⟨B, o2, none⟩) r.length (cv - 1), .int .i64 4, .int .i64 7] w fun e w' => (∃ q m k, e = .returned (.slice q m k)) ∧ Below w.heap.size w w' := by
      rcases c0 with ⟨_, c0⟩ | ⟨a, b, c, d, _, c0⟩
      · exact c0.mono fun e w' h => ⟨⟨_, _, _, h.1⟩, h.2⟩
      · exact c0.mono fun e w' h => ⟨by obtain ⟨g, k, h1, _⟩ := h.1; exact ⟨_, _, _, h1⟩, h.2⟩
    clear c0
    go_enter Tryd.func47, Tryd.ntmps47
    go_wp2_with (go_at_call 85; (with_reducible refine c1.mono ?_); rintro e w1 ⟨⟨q, m, k, rfl⟩, hb1⟩; have cx1 := (hb1.cell (p := ⟨B, 0, none⟩) hBl).trans cx; have hs1 := hb1.size)
    have hBl1 : B < w1.heap.size := by omega
    have hBn1 : ¬ B = w1.heap.size := by omega
    go_region
    all_goals
      go_wp2
      go_ret
      rw [HZ.out]
      exact ⟨rfl, ((hb1.mono hNn).trans ((balloc _).mono (Nat.le_trans hNn hs1))).drew⟩
end Pln
end Go.Proofs.YtcaobnmfgnbolabDoor
