/- What the document's answer (tideref) says of a line of a plan's text: planLine, the first line. -/
import Derived.Test.YtcaobnmfgnbolabDoorPk10
import Derived.Test.YtcaobnmfgnbolabDoorPlanLaw
import Derived.Deep.RegionHeld
import Derived.Lib.SliceRun
namespace Go.Proofs.YtcaobnmfgnbolabDoor
namespace Pln
open Go.RowKit Lai Civ Crn Pie
set_option maxRecDepth 8000
set_option linter.unusedSimpArgs false
set_option linter.unusedVariables false

/-- the whole plan, by one step of a walk that is behind a guard -/
theorem wp_planG {ops : Array Oper} {rest : List Oper} {d : Option Nat} {x : Operand} {ps : String} {af : Array Edge} {gd : Option (Nat × Bool)} {A : Act} {Q : Exit → Act → World → Prop} {w : World} {B : Nat} {p : Pd} {sl : Value} (h : PlAt w B p sl) (hx : A.eval x = .pointer (some ⟨B, 0, none⟩))
    (hg : Region.wanted { dst := d, op := .load 44 x, type := 44, pos := ps, after := af, guard := gd } (yielded ops A.tmps) = true)
    (g : wpList Tryd.prog ops Q rest (A.put d (planV p sl)) w) : wpList Tryd.prog ops Q ({ dst := d, op := .load 44 x, type := 44, pos := ps, after := af, guard := gd } :: rest) A w := by
  unfold wpList
  rw [if_pos hg]
  exact Or.inl (wp_load_mid 44 x rfl B 0 hx [.string ⟨p.nm.toArray⟩, .int .i64 p.mn, .int .i64 p.mx, .int .i64 p.po, .int .i64 p.co, .int .i64 p.tl, .int .i64 p.bk, .int .i64 p.af, .int .i64 p.sh, .int .i64 p.uw, .int .i64 p.up, .int .i64 p.uc, .int .i64 p.ue, .int .i64 p.dw, .int .i64 p.dp, .int .i64 p.dc, .int .i64 p.de, sl] _ (range_plan h) Tryd.underlying44 rfl (by kernel_rfl) g)
/-- a plan that has nothing but a name -/
def pq (nm : List UInt8) : Pd := ⟨nm, 0, 1, 1, 1, 0, 0, 0, 0, 0, 0, 0, 0, 0, 0, 0, 0⟩
theorem pq_chk (nm : List UInt8) : chkP (pq nm) [] = if nmB nm = true then 0 else 3 := by
  unfold chkP
  show (if nmB nm = false then (3 : Int) else _) = _
  cases nmB nm
  · rfl
  · rfl
def Ns5 (g B : Nat) (nm : List UInt8) (a b c d : Int) (w : World) : Prop := Ns4 g a b c d w ∧ w.cell? ⟨B, 1, none⟩ = some (strV nm)
theorem Ns5.set {g B Q : Nat} {nm : List UInt8} {a b c d : Int} {w : World} (h : Ns5 g B nm a b c d w) (hg : g ≠ Q) (hB : B ≠ Q) (o : Nat) (u : Value) : Ns5 g B nm a b c d (w.setCell ⟨Q, o, none⟩ u) :=
  ⟨h.1.set hg o u, (World.cell?_setCell_other _ _ _ _ (fun e => hB (congrArg Addr.block e).symm)).trans h.2⟩
theorem Ns5.drew {g B : Nat} {nm : List UInt8} {a b c d : Int} {w : World} (h : Ns5 g B nm a b c d w) : Ns5 g B nm a b c d w.drew := h
theorem line0_len (ws : List (List UInt8)) (p : Pd) (h : ws.length ≠ 6) : line0 ws p = none := by
  unfold line0
  split
  · rename_i w0 nm r
    split
    · have : four r = none := four_no (nsB_len (by simp at h; omega))
      rw [this]; rfl
    · rfl
  · rfl
set_option maxHeartbeats 4000000 in
theorem rl0_yes (nm : List UInt8) (r : List (List UInt8)) (B cv N Q : Nat) (p : Pd) (ts : List Tr) (v : Value) (w : World) (hS : PS w 55 N Q p ts v) (hW : TxAt w B 0 (wPlan :: nm :: r)) (hBQ : B ≠ Q) (hl : r.length = 4) (hcv : 6 ≤ cv) (hx : ∀ y ∈ nm :: r, y.length ≤ 3000) :
    Calls Tryd.prog 47 #[.pointer (some ⟨Q, 0, none⟩), .int .i64 0, .slice (some ⟨B, 0, none⟩) 6 cv] w fun e w' => LineR 55 N Q w ((line0 (wPlan :: nm :: r) p).map fun p => (p, ts)) e w' := by
  have cx : w.cell? ⟨B, 0, none⟩ = some (strV wPlan) := hW.2 0 _ rfl
  have cn : w.cell? ⟨B, 1, none⟩ = some (strV nm) := hW.2 1 _ rfl
  have hc2 : ¬ cv = 2 := by omega
  have hBl := hW.1
  have hQl := hS.lt
  have hNn := hS.nN
  have qN : ∀ (w : World) (a : Option Addr) (n c : Nat), (binOp .eql 56 (.slice a n c) (.slice none 0 0)).run Tryd.prog w = .ok (.bool a.isNone) w := fun w a n c => Lib.run_eql_slice_nil w _ _ a n c 0 0 Tryd.underlying56
  have hb0 : Below w.heap.size w (w.alloc (.cells #[.string ⟨nm.toArray⟩, .int .i64 0, .int .i64 1, .int .i64 1, .int .i64 1, .int .i64 0, .int .i64 0, .int .i64 0, .int .i64 0, .int .i64 0, .int .i64 0, .int .i64 0, .int .i64 0, .int .i64 0, .int .i64 0, .int .i64 0, .int .i64 0, .slice none 0 0] 44)) := balloc _
  have hz0 : (w.alloc (.cells #[.string ⟨nm.toArray⟩, .int .i64 0, .int .i64 1, .int .i64 1, .int .i64 1, .int .i64 0, .int .i64 0, .int .i64 0, .int .i64 0, .int .i64 0, .int .i64 0, .int .i64 0, .int .i64 0, .int .i64 0, .int .i64 0, .int .i64 0, .int .i64 0, .slice none 0 0] 44)).heap.size = w.heap.size + 1 := by simp
  have hA0 : PlAt (w.alloc (.cells #[.string ⟨nm.toArray⟩, .int .i64 0, .int .i64 1, .int .i64 1, .int .i64 1, .int .i64 0, .int .i64 0, .int .i64 0, .int .i64 0, .int .i64 0, .int .i64 0, .int .i64 0, .int .i64 0, .int .i64 0, .int .i64 0, .int .i64 0, .int .i64 0, .slice none 0 0] 44)) w.heap.size (pq nm) (.slice none 0 0) := PlAt.of fun o => by simp [pq]
  have c0 := four_w r B 2 (cv - 2) (w.alloc (.cells #[.string ⟨nm.toArray⟩, .int .i64 0, .int .i64 1, .int .i64 1, .int .i64 1, .int .i64 0, .int .i64 0, .int .i64 0, .int .i64 0, .int .i64 0, .int .i64 0, .int .i64 0, .int .i64 0, .int .i64 0, .int .i64 0, .int .i64 0, .int .i64 0, .slice none 0 0] 44)) (hW.tail.tail.below hb0 hBl) (by omega) (fun y hy => hx y (List.mem_cons_of_mem _ hy))
  rw [hl] at c0
  have cP := fun w' => rplan_any (pq nm) [] none 0 w' (by have := hx nm List.mem_cons_self; show nm.length ≤ _; omega) (fun i t h => by simp at h) (fun t ht => by cases ht)
  rw [pq_chk] at cP
  replace cP : ∀ w', Calls Tryd.prog 14 #[planV (pq nm) (.slice none 0 0)] w' fun e w'' => e = .returned (.int .i64 (if nmB nm = true then 0 else 3)) ∧ Below w'.heap.size w' w'' := cP
  obtain ⟨z, hz⟩ : ∃ z, z = ((line0 (wPlan :: nm :: r) p).map fun p => (p, ts)) := ⟨_, rfl⟩
  rw [← hz]
  have HS : Hid (PS w 55 N Q p ts v) := hS
  generalize hWq : (w.alloc (.cells #[.string ⟨nm.toArray⟩, .int .i64 0, .int .i64 1, .int .i64 1, .int .i64 1, .int .i64 0, .int .i64 0, .int .i64 0, .int .i64 0, .int .i64 0, .int .i64 0, .int .i64 0, .int .i64 0, .int .i64 0, .int .i64 0, .int .i64 0, .int .i64 0, .slice none 0 0] 44)) = Wq at *
  have HWq : Hid ((w.alloc (.cells #[.string ⟨nm.toArray⟩, .int .i64 0, .int .i64 1, .int .i64 1, .int .i64 1, .int .i64 0, .int .i64 0, .int .i64 0, .int .i64 0, .int .i64 0, .int .i64 0, .int .i64 0, .int .i64 0, .int .i64 0, .int .i64 0, .int .i64 0, .int .i64 0, .slice none 0 0] 44)) = Wq) := hWq
  clear hW hx hS hWq
  have hsq := hb0.size
  have hWN : Below N w Wq := hb0.mono hNn
  rcases c0 with ⟨hf, c0⟩ | ⟨a, b, c, d, hf, c0⟩
  · have HZ : Hid (z = none) := by
      unfold Hid
      rw [hz]
      unfold line0
      dsimp only
      rw [hf]
      split <;> rfl
    clear hz hf cP
    go_enter Tryd.func47, Tryd.ntmps47
    go_wp2_with (go_at_call 85; rw [HWq.out]; (with_reducible refine c0.mono ?_); rintro e w1 ⟨rfl, hb1⟩)
    go_ret
    rw [HZ.out]
    exact ⟨rfl, hWN.trans (hb1.mono (by omega))⟩
  · cases hnm : nmB nm
    · rw [hnm] at cP
      have HZ : Hid (z = none) := by
        unfold Hid
        rw [hz]
        unfold line0
        dsimp only
        rw [if_neg (fun q => by rw [hnm] at q; cases q.2)]
        rfl
      clear hz hf hnm
      go_enter Tryd.func47, Tryd.ntmps47
      go_wp2_with (first
        | (with_reducible refine wp_planG hA1 (by with_unfolding_all rfl) (by with_unfolding_all rfl) ?_)
        | (go_at_call 85; rw [HWq.out]; (with_reducible refine c0.mono ?_); rintro e w1 ⟨⟨g, k, rfl, hg0, hg1, hn4⟩, hb1⟩; have hA1 := hA0.on hb1 (by omega); have hs1 := hb1.size)
        | (go_at_call 14; (with_reducible refine (cP _).mono ?_); rintro e w2 ⟨rfl, hb2⟩))
      go_ret
      rw [HZ.out]
      exact ⟨rfl, (hWN.trans (hb1.mono (by omega))).trans (hb2.mono (by omega))⟩
    · rw [hnm] at cP
      have HZ : Hid (z = some (({ p with nm := nm, mn := a, mx := b, po := c, co := d } : Pd), ts)) := by
        unfold Hid
        rw [hz]
        unfold line0
        dsimp only
        rw [if_pos ⟨rfl, hnm⟩, hf]
        rfl
      clear hz hf hnm
      go_enter Tryd.func47, Tryd.ntmps47
      go_wp2_with (first
        | (with_reducible refine wp_planG hA1 (by with_unfolding_all rfl) (by with_unfolding_all rfl) ?_)
        | (go_at_call 85; rw [HWq.out]; (with_reducible refine c0.mono ?_); rintro e w1 ⟨⟨g, k, rfl, hg0, hg1, hn4⟩, hb1⟩; have hA1 := hA0.on hb1 (by omega); have hs1 := hb1.size)
        | (go_at_call 14; (with_reducible refine (cP _).mono ?_); rintro e w3 ⟨rfl, hb3⟩; have hs3 := hb3.size))
      have hS3 := ((HS.out.below hb0).below hb1).below hb3
      have hw3 : Below N w w3 := (hWN.trans (hb1.mono (by omega))).trans (hb3.mono (by omega))
      have hN4 := hn4.below hb3 hg1
      have cn3 : w3.cell? ⟨B, 1, none⟩ = some (strV nm) := (hb3.cell (p := ⟨B, 1, none⟩) (by show B < _; omega)).trans ((hb1.cell (p := ⟨B, 1, none⟩) (by show B < _; omega)).trans ((hb0.cell (p := ⟨B, 1, none⟩) hBl).trans cn))
      have hN5 : Ns5 g B nm a b c d w3 := ⟨hN4, cn3⟩
      have hgQ : g ≠ Q := by omega
      have HW3 : Hid (Below N w w3) := hw3
      have HS3 : Hid (PS w3 55 N Q p ts v) := hS3
      have d0 : w3.cell? ⟨Q, 0, none⟩ = some (strV p.nm) := by simpa using HS3.out.cel 0
      have d1 : w3.cell? ⟨Q, 1, none⟩ = some (.int .i64 p.mn) := by simpa using HS3.out.cel 1
      have d2 : w3.cell? ⟨Q, 2, none⟩ = some (.int .i64 p.mx) := by simpa using HS3.out.cel 2
      have d3 : w3.cell? ⟨Q, 3, none⟩ = some (.int .i64 p.po) := by simpa using HS3.out.cel 3
      have d4 : w3.cell? ⟨Q, 4, none⟩ = some (.int .i64 p.co) := by simpa using HS3.out.cel 4
      have f0 := HS3.out.fz 0
      have f1 := HS3.out.fz 1
      have f2 := HS3.out.fz 2
      have f3 := HS3.out.fz 3
      have f4 := HS3.out.fz 4
      have hQ3 := HS3.out.lt
      clear hw3 hS3 hN4 cn3 hn4 c0 cP cx cn hb1 hb3 hA1 hA0
      refine wp_region_held_drew (S := fun w' => Ns5 g B nm a b c d w') (by kernel_rfl) hN5.drew (fun hHeld => ?_)
      refine wpAnyH_take (i := 0) (oi := _) (v := ?_) rfl (by kernel_rfl) (by kernel_rfl) (by kernel_rfl) (fun _ _ _ h => h) (Or.inl ⟨by rfl, ?_⟩) (by assumption) ?_
      rotate_left
      · intro w' hSw
        (try obtain ⟨⟨q0, q1, q2, q3⟩, q4⟩ := hSw)
        go_simp
        all_goals with_reducible rfl
      (try simp only [Act.put, List.setIfInBounds_toArray, List.set_cons_zero, List.set_cons_succ, List.getElem_toArray, List.getElem_cons_zero, List.getElem_cons_succ])
      refine wpAnyH_take (i := 1) (oi := _) (v := ?_) rfl (by kernel_rfl) (by kernel_rfl) (by kernel_rfl) (fun _ _ _ h => h) (Or.inl ⟨by rfl, ?_⟩) (by assumption) ?_
      rotate_left
      · intro w' hSw
        (try obtain ⟨⟨q0, q1, q2, q3⟩, q4⟩ := hSw)
        go_simp
        all_goals with_reducible rfl
      (try simp only [Act.put, List.setIfInBounds_toArray, List.set_cons_zero, List.set_cons_succ, List.getElem_toArray, List.getElem_cons_zero, List.getElem_cons_succ])
      refine wpAnyH_take (i := 2) (oi := _) (v := ?_) rfl (by kernel_rfl) (by kernel_rfl) (by kernel_rfl) (fun _ _ _ h => h) (Or.inl ⟨by rfl, ?_⟩) (by assumption) ?_
      rotate_left
      · intro w' hSw
        (try obtain ⟨⟨q0, q1, q2, q3⟩, q4⟩ := hSw)
        go_simp
        all_goals with_reducible rfl
      (try simp only [Act.put, List.setIfInBounds_toArray, List.set_cons_zero, List.set_cons_succ, List.getElem_toArray, List.getElem_cons_zero, List.getElem_cons_succ])
      refine wpAnyH_take (i := 3) (oi := _) (v := ?_) rfl (by kernel_rfl) (by kernel_rfl) (by kernel_rfl) (fun _ _ _ h => h) (Or.inl ⟨by rfl, ?_⟩) (by assumption) ?_
      rotate_left
      · intro w' hSw
        (try obtain ⟨⟨q0, q1, q2, q3⟩, q4⟩ := hSw)
        go_simp
        all_goals with_reducible rfl
      (try simp only [Act.put, List.setIfInBounds_toArray, List.set_cons_zero, List.set_cons_succ, List.getElem_toArray, List.getElem_cons_zero, List.getElem_cons_succ])
      refine wpAnyH_take (i := 4) (oi := _) (v := ?_) rfl (by kernel_rfl) (by kernel_rfl) (by kernel_rfl) (fun _ _ _ h => h) (Or.inl ⟨by rfl, ?_⟩) (by assumption) ?_
      rotate_left
      · intro w' hSw
        (try obtain ⟨⟨q0, q1, q2, q3⟩, q4⟩ := hSw)
        go_simp
        all_goals with_reducible rfl
      (try simp only [Act.put, List.setIfInBounds_toArray, List.set_cons_zero, List.set_cons_succ, List.getElem_toArray, List.getElem_cons_zero, List.getElem_cons_succ])
      refine wpAnyH_take (i := 5) (oi := _) (v := ?_) rfl (by kernel_rfl) (by kernel_rfl) (by kernel_rfl) (fun _ _ _ h => h) (Or.inl ⟨by rfl, ?_⟩) (by assumption) ?_
      rotate_left
      · intro w' hSw
        (try obtain ⟨⟨q0, q1, q2, q3⟩, q4⟩ := hSw)
        go_simp
        all_goals with_reducible rfl
      (try simp only [Act.put, List.setIfInBounds_toArray, List.set_cons_zero, List.set_cons_succ, List.getElem_toArray, List.getElem_cons_zero, List.getElem_cons_succ])
      refine wpAnyH_take (i := 6) (oi := _) (v := ?_) rfl (by kernel_rfl) (by kernel_rfl) (by kernel_rfl) (fun _ _ _ h => h) (Or.inl ⟨by rfl, ?_⟩) (by assumption) ?_
      rotate_left
      · intro w' hSw
        (try obtain ⟨⟨q0, q1, q2, q3⟩, q4⟩ := hSw)
        go_simp
        all_goals with_reducible rfl
      (try simp only [Act.put, List.setIfInBounds_toArray, List.set_cons_zero, List.set_cons_succ, List.getElem_toArray, List.getElem_cons_zero, List.getElem_cons_succ])
      refine wpAnyH_take (i := 7) (oi := _) (v := ?_) rfl (by kernel_rfl) (by kernel_rfl) (by kernel_rfl) (fun _ _ _ h => h) (Or.inl ⟨by rfl, ?_⟩) (by assumption) ?_
      rotate_left
      · intro w' hSw
        (try obtain ⟨⟨q0, q1, q2, q3⟩, q4⟩ := hSw)
        go_simp
        all_goals with_reducible rfl
      (try simp only [Act.put, List.setIfInBounds_toArray, List.set_cons_zero, List.set_cons_succ, List.getElem_toArray, List.getElem_cons_zero, List.getElem_cons_succ])
      refine wpAnyH_take (i := 8) (oi := _) (v := ?_) rfl (by kernel_rfl) (by kernel_rfl) (by kernel_rfl) (fun _ _ _ h => h) (Or.inl ⟨by rfl, ?_⟩) (by assumption) ?_
      rotate_left
      · intro w' hSw
        (try obtain ⟨⟨q0, q1, q2, q3⟩, q4⟩ := hSw)
        go_simp
        all_goals with_reducible rfl
      (try simp only [Act.put, List.setIfInBounds_toArray, List.set_cons_zero, List.set_cons_succ, List.getElem_toArray, List.getElem_cons_zero, List.getElem_cons_succ])
      refine wpAnyH_take (i := 9) (oi := _) (v := ?_) rfl (by kernel_rfl) (by kernel_rfl) (by kernel_rfl) (fun _ _ _ h => h) (Or.inl ⟨by rfl, ?_⟩) (by assumption) ?_
      rotate_left
      · intro w' hSw
        (try obtain ⟨⟨q0, q1, q2, q3⟩, q4⟩ := hSw)
        go_simp
        all_goals with_reducible rfl
      (try simp only [Act.put, List.setIfInBounds_toArray, List.set_cons_zero, List.set_cons_succ, List.getElem_toArray, List.getElem_cons_zero, List.getElem_cons_succ])
      refine wpAnyH_take (i := 10) (oi := _) (v := ?_) rfl (by kernel_rfl) (by kernel_rfl) (by kernel_rfl) (fun _ _ _ h => h) (Or.inl ⟨by rfl, ?_⟩) (by assumption) ?_
      rotate_left
      · intro w' hSw
        (try obtain ⟨⟨q0, q1, q2, q3⟩, q4⟩ := hSw)
        go_simp
        all_goals with_reducible rfl
      (try simp only [Act.put, List.setIfInBounds_toArray, List.set_cons_zero, List.set_cons_succ, List.getElem_toArray, List.getElem_cons_zero, List.getElem_cons_succ])
      refine wpAnyH_take (i := 11) (oi := _) (v := ?_) rfl (by kernel_rfl) (by kernel_rfl) (by kernel_rfl) (fun _ _ _ h => h) (Or.inl ⟨by rfl, ?_⟩) (by assumption) ?_
      rotate_left
      · intro w' hSw
        (try obtain ⟨⟨q0, q1, q2, q3⟩, q4⟩ := hSw)
        go_simp
        all_goals with_reducible rfl
      (try simp only [Act.put, List.setIfInBounds_toArray, List.set_cons_zero, List.set_cons_succ, List.getElem_toArray, List.getElem_cons_zero, List.getElem_cons_succ])
      refine wpAnyH_take (i := 12) (oi := _) (v := ?_) rfl (by kernel_rfl) (by kernel_rfl) (by kernel_rfl) (fun _ _ _ h => h) (Or.inl ⟨by rfl, ?_⟩) (by assumption) ?_
      rotate_left
      · intro w' hSw
        (try obtain ⟨⟨q0, q1, q2, q3⟩, q4⟩ := hSw)
        go_simp
        all_goals with_reducible rfl
      (try simp only [Act.put, List.setIfInBounds_toArray, List.set_cons_zero, List.set_cons_succ, List.getElem_toArray, List.getElem_cons_zero, List.getElem_cons_succ])
      refine wpAnyH_take (i := 13) (oi := _) (v := ?_) rfl (by kernel_rfl) (by kernel_rfl) (by kernel_rfl) (fun _ _ _ h => h) (Or.inl ⟨by rfl, ?_⟩) (by assumption) ?_
      rotate_left
      · intro w' hSw
        (try obtain ⟨⟨q0, q1, q2, q3⟩, q4⟩ := hSw)
        go_simp
        all_goals with_reducible rfl
      (try simp only [Act.put, List.setIfInBounds_toArray, List.set_cons_zero, List.set_cons_succ, List.getElem_toArray, List.getElem_cons_zero, List.getElem_cons_succ])
      refine wpAnyH_take (i := 14) (oi := _) (v := ?_) rfl (by kernel_rfl) (by kernel_rfl) (by kernel_rfl) (fun _ _ _ h => h) (Or.inl ⟨by rfl, ?_⟩) (by assumption) ?_
      rotate_left
      · intro w' hSw
        (try obtain ⟨⟨q0, q1, q2, q3⟩, q4⟩ := hSw)
        go_simp
        all_goals with_reducible rfl
      (try simp only [Act.put, List.setIfInBounds_toArray, List.set_cons_zero, List.set_cons_succ, List.getElem_toArray, List.getElem_cons_zero, List.getElem_cons_succ])
      refine wpAnyH_take (i := 15) (oi := _) (v := ?_) rfl (by kernel_rfl) (by kernel_rfl) (by kernel_rfl) (fun _ _ _ h => h) (Or.inl ⟨by rfl, ?_⟩) (by assumption) ?_
      rotate_left
      · intro w' hSw
        (try obtain ⟨⟨q0, q1, q2, q3⟩, q4⟩ := hSw)
        go_simp
        all_goals with_reducible rfl
      (try simp only [Act.put, List.setIfInBounds_toArray, List.set_cons_zero, List.set_cons_succ, List.getElem_toArray, List.getElem_cons_zero, List.getElem_cons_succ])
      refine wpAnyH_take (i := 16) (oi := _) (v := ?_) rfl (by kernel_rfl) (by kernel_rfl) (by kernel_rfl) (fun _ _ _ h => h) (Or.inl ⟨by rfl, ?_⟩) (by assumption) ?_
      rotate_left
      · intro w' hSw
        (try obtain ⟨⟨q0, q1, q2, q3⟩, q4⟩ := hSw)
        go_simp
        all_goals with_reducible rfl
      (try simp only [Act.put, List.setIfInBounds_toArray, List.set_cons_zero, List.set_cons_succ, List.getElem_toArray, List.getElem_cons_zero, List.getElem_cons_succ])
      refine wpAnyH_take (i := 17) (oi := _) (v := ?_) rfl (by kernel_rfl) (by kernel_rfl) (by kernel_rfl) (fun _ _ _ h => h) (Or.inl ⟨by rfl, ?_⟩) (by assumption) ?_
      rotate_left
      · intro w' hSw
        (try obtain ⟨⟨q0, q1, q2, q3⟩, q4⟩ := hSw)
        go_simp
        all_goals with_reducible rfl
      (try simp only [Act.put, List.setIfInBounds_toArray, List.set_cons_zero, List.set_cons_succ, List.getElem_toArray, List.getElem_cons_zero, List.getElem_cons_succ])
      refine wpAnyH_take (i := 18) (oi := _) (v := ?_) rfl (by kernel_rfl) (by kernel_rfl) (by kernel_rfl) (fun _ _ _ h => h) (Or.inl ⟨by rfl, ?_⟩) (by assumption) ?_
      rotate_left
      · intro w' hSw
        (try obtain ⟨⟨q0, q1, q2, q3⟩, q4⟩ := hSw)
        go_simp
        all_goals with_reducible rfl
      (try simp only [Act.put, List.setIfInBounds_toArray, List.set_cons_zero, List.set_cons_succ, List.getElem_toArray, List.getElem_cons_zero, List.getElem_cons_succ])
      refine wpAnyH_take (i := 19) (oi := _) (v := ?_) rfl (by kernel_rfl) (by kernel_rfl) (by kernel_rfl) (fun _ _ _ h => h) (Or.inl ⟨by rfl, ?_⟩) (by assumption) ?_
      rotate_left
      · intro w' hSw
        (try obtain ⟨⟨q0, q1, q2, q3⟩, q4⟩ := hSw)
        go_simp
        all_goals with_reducible rfl
      (try simp only [Act.put, List.setIfInBounds_toArray, List.set_cons_zero, List.set_cons_succ, List.getElem_toArray, List.getElem_cons_zero, List.getElem_cons_succ])
      refine wpAnyH_take (i := 20) (oi := _) (v := ?_) rfl (by kernel_rfl) (by kernel_rfl) (by kernel_rfl) (fun _ _ _ h => h) (Or.inl ⟨by rfl, ?_⟩) (by assumption) ?_
      rotate_left
      · intro w' hSw
        (try obtain ⟨⟨q0, q1, q2, q3⟩, q4⟩ := hSw)
        go_simp
        all_goals with_reducible rfl
      (try simp only [Act.put, List.setIfInBounds_toArray, List.set_cons_zero, List.set_cons_succ, List.getElem_toArray, List.getElem_cons_zero, List.getElem_cons_succ])
      refine wpAnyH_take (i := 21) (oi := _) (v := ?_) rfl (by kernel_rfl) (by kernel_rfl) (by kernel_rfl) (fun _ _ _ h => h) (Or.inl ⟨by rfl, ?_⟩) (by assumption) ?_
      rotate_left
      · intro w' hSw
        (try obtain ⟨⟨q0, q1, q2, q3⟩, q4⟩ := hSw)
        go_simp
        all_goals with_reducible rfl
      (try simp only [Act.put, List.setIfInBounds_toArray, List.set_cons_zero, List.set_cons_succ, List.getElem_toArray, List.getElem_cons_zero, List.getElem_cons_succ])
      refine wpAnyH_ready (rs := [22]) (by kernel_rfl) (by simp) ?_
      refine AllReadyH.cons rfl (fun K hK => ?_) AllReadyH.nil
      go_simp
      refine hK.out _ _ ?_ (fun hHeld => ?_)
      · exact (hN5.set hgQ hBQ 0 _).drew
      clear hK K
      refine wpAnyH_take (i := 23) (oi := _) (v := ?_) rfl (by kernel_rfl) (by kernel_rfl) (by kernel_rfl) (fun _ _ _ h => h) (Or.inl ⟨by rfl, ?_⟩) (by assumption) ?_
      rotate_left
      · intro w' hSw
        (try obtain ⟨⟨q0, q1, q2, q3⟩, q4⟩ := hSw)
        go_simp
        all_goals with_reducible rfl
      (try simp only [Act.put, List.setIfInBounds_toArray, List.set_cons_zero, List.set_cons_succ, List.getElem_toArray, List.getElem_cons_zero, List.getElem_cons_succ])
      refine wpAnyH_take (i := 24) (oi := _) (v := ?_) rfl (by kernel_rfl) (by kernel_rfl) (by kernel_rfl) (fun _ _ _ h => h) (Or.inl ⟨by rfl, ?_⟩) (by assumption) ?_
      rotate_left
      · intro w' hSw
        (try obtain ⟨⟨q0, q1, q2, q3⟩, q4⟩ := hSw)
        go_simp
        all_goals with_reducible rfl
      (try simp only [Act.put, List.setIfInBounds_toArray, List.set_cons_zero, List.set_cons_succ, List.getElem_toArray, List.getElem_cons_zero, List.getElem_cons_succ])
      refine wpAnyH_ready (rs := [25]) (by kernel_rfl) (by simp) ?_
      refine AllReadyH.cons rfl (fun K hK => ?_) AllReadyH.nil
      go_simp
      refine hK.out _ _ ?_ (fun hHeld => ?_)
      · exact ((hN5.set hgQ hBQ 0 _).set hgQ hBQ 1 _).drew
      clear hK K
      refine wpAnyH_take (i := 26) (oi := _) (v := ?_) rfl (by kernel_rfl) (by kernel_rfl) (by kernel_rfl) (fun _ _ _ h => h) (Or.inl ⟨by rfl, ?_⟩) (by assumption) ?_
      rotate_left
      · intro w' hSw
        (try obtain ⟨⟨q0, q1, q2, q3⟩, q4⟩ := hSw)
        go_simp
        all_goals with_reducible rfl
      (try simp only [Act.put, List.setIfInBounds_toArray, List.set_cons_zero, List.set_cons_succ, List.getElem_toArray, List.getElem_cons_zero, List.getElem_cons_succ])
      refine wpAnyH_take (i := 27) (oi := _) (v := ?_) rfl (by kernel_rfl) (by kernel_rfl) (by kernel_rfl) (fun _ _ _ h => h) (Or.inl ⟨by rfl, ?_⟩) (by assumption) ?_
      rotate_left
      · intro w' hSw
        (try obtain ⟨⟨q0, q1, q2, q3⟩, q4⟩ := hSw)
        go_simp
        all_goals with_reducible rfl
      (try simp only [Act.put, List.setIfInBounds_toArray, List.set_cons_zero, List.set_cons_succ, List.getElem_toArray, List.getElem_cons_zero, List.getElem_cons_succ])
      refine wpAnyH_ready (rs := [28]) (by kernel_rfl) (by simp) ?_
      refine AllReadyH.cons rfl (fun K hK => ?_) AllReadyH.nil
      go_simp
      refine hK.out _ _ ?_ (fun hHeld => ?_)
      · exact (((hN5.set hgQ hBQ 0 _).set hgQ hBQ 1 _).set hgQ hBQ 2 _).drew
      clear hK K
      refine wpAnyH_take (i := 29) (oi := _) (v := ?_) rfl (by kernel_rfl) (by kernel_rfl) (by kernel_rfl) (fun _ _ _ h => h) (Or.inl ⟨by rfl, ?_⟩) (by assumption) ?_
      rotate_left
      · intro w' hSw
        (try obtain ⟨⟨q0, q1, q2, q3⟩, q4⟩ := hSw)
        go_simp
        all_goals with_reducible rfl
      (try simp only [Act.put, List.setIfInBounds_toArray, List.set_cons_zero, List.set_cons_succ, List.getElem_toArray, List.getElem_cons_zero, List.getElem_cons_succ])
      refine wpAnyH_take (i := 30) (oi := _) (v := ?_) rfl (by kernel_rfl) (by kernel_rfl) (by kernel_rfl) (fun _ _ _ h => h) (Or.inl ⟨by rfl, ?_⟩) (by assumption) ?_
      rotate_left
      · intro w' hSw
        (try obtain ⟨⟨q0, q1, q2, q3⟩, q4⟩ := hSw)
        go_simp
        all_goals with_reducible rfl
      (try simp only [Act.put, List.setIfInBounds_toArray, List.set_cons_zero, List.set_cons_succ, List.getElem_toArray, List.getElem_cons_zero, List.getElem_cons_succ])
      refine wpAnyH_ready (rs := [31]) (by kernel_rfl) (by simp) ?_
      refine AllReadyH.cons rfl (fun K hK => ?_) AllReadyH.nil
      go_simp
      refine hK.out _ _ ?_ (fun hHeld => ?_)
      · exact ((((hN5.set hgQ hBQ 0 _).set hgQ hBQ 1 _).set hgQ hBQ 2 _).set hgQ hBQ 3 _).drew
      clear hK K
      refine wpAnyH_take (i := 32) (oi := _) (v := ?_) rfl (by kernel_rfl) (by kernel_rfl) (by kernel_rfl) (fun _ _ _ h => h) (Or.inl ⟨by rfl, ?_⟩) (by assumption) ?_
      rotate_left
      · intro w' hSw
        (try obtain ⟨⟨q0, q1, q2, q3⟩, q4⟩ := hSw)
        go_simp
        all_goals with_reducible rfl
      (try simp only [Act.put, List.setIfInBounds_toArray, List.set_cons_zero, List.set_cons_succ, List.getElem_toArray, List.getElem_cons_zero, List.getElem_cons_succ])
      refine wpAnyH_take (i := 33) (oi := _) (v := ?_) rfl (by kernel_rfl) (by kernel_rfl) (by kernel_rfl) (fun _ _ _ h => h) (Or.inl ⟨by rfl, ?_⟩) (by assumption) ?_
      rotate_left
      · intro w' hSw
        (try obtain ⟨⟨q0, q1, q2, q3⟩, q4⟩ := hSw)
        go_simp
        all_goals with_reducible rfl
      (try simp only [Act.put, List.setIfInBounds_toArray, List.set_cons_zero, List.set_cons_succ, List.getElem_toArray, List.getElem_cons_zero, List.getElem_cons_succ])
      refine wpAnyH_ready (rs := [34]) (by kernel_rfl) (by simp) ?_
      refine AllReadyH.cons rfl (fun K hK => ?_) AllReadyH.nil
      go_simp
      refine hK.out _ _ ?_ (fun hHeld => ?_)
      · exact (((((hN5.set hgQ hBQ 0 _).set hgQ hBQ 1 _).set hgQ hBQ 2 _).set hgQ hBQ 3 _).set hgQ hBQ 4 _).drew
      clear hK K
      refine wpAnyH_done (by kernel_rfl) ?_ _
      go_wp2
      go_ret
      rw [HZ.out]
      have hS4 := (((((HS3.out.setc (p' := { p with nm := nm }) 0 (strV nm) (by decide) (by simp)).setc (p' := { p with nm := nm, mn := a }) 1 (.int .i64 a) (by decide) (by simp)).setc (p' := { p with nm := nm, mn := a, mx := b }) 2 (.int .i64 b) (by decide) (by simp)).setc (p' := { p with nm := nm, mn := a, mx := b, po := c }) 3 (.int .i64 c) (by decide) (by simp)).setc (p' := { p with nm := nm, mn := a, mx := b, po := c, co := d }) 4 (.int .i64 d) (by decide) (by simp)).drew
      have hO4 := ((OnlyQ.set Q w3 0 (strV nm)).trans ((OnlyQ.set Q _ 1 (.int .i64 a)).trans ((OnlyQ.set Q _ 2 (.int .i64 b)).trans ((OnlyQ.set Q _ 3 (.int .i64 c)).trans (OnlyQ.set Q _ 4 (.int .i64 d)))))).below HS3.out.bQ HS3.out.nN
      exact ⟨rfl, (HW3.out.trans hO4).drew, _, hS4⟩
set_option maxHeartbeats 4000000 in
theorem rl0 (rd : List UInt8 → Option K) (x : List UInt8) (r : List (List UInt8)) (B cv N Q : Nat) (p : Pd) (ts : List Tr) (v : Value) (w : World) (hS : PS w 55 N Q p ts v) (hW : TxAt w B 0 (x :: r)) (hBQ : B ≠ Q) (hcv : r.length + 1 ≤ cv) (hr : r.length + 1 ≤ 3000) (hx : ∀ y ∈ x :: r, y.length ≤ 3000) :
    Calls Tryd.prog 47 #[.pointer (some ⟨Q, 0, none⟩), .int .i64 0, .slice (some ⟨B, 0, none⟩) (r.length + 1) cv] w fun e w' => LineR 55 N Q w (lineS rd 0 (p, ts) (x :: r)) e w' := by
  have hNn := hS.nN
  have hBl := hW.1
  have cx : w.cell? ⟨B, 0, none⟩ = some (strV x) := hW.2 0 x rfl
  by_cases h6 : r.length = 5
  · by_cases hw : x = wPlan
    · subst hw
      match r, h6 with
      | nm :: r4, h6 =>
        have e6 : (nm :: r4).length + 1 = 6 := by rw [h6]
        rw [e6]
        exact rl0_yes nm r4 B cv N Q p ts v w hS hW hBQ (by simpa using h6) (by omega) (fun y hy => hx y (List.mem_cons_of_mem _ hy))
    · obtain ⟨z, hz⟩ : ∃ z, z = lineS rd 0 (p, ts) (x :: r) := ⟨_, rfl⟩
      rw [← hz, h6]
      have HZ : Hid (z = none) := by
        unfold Hid
        rw [hz]
        show (line0 (x :: r) p).map _ = none
        unfold line0
        cases r with
        | nil => rfl
        | cons a b => dsimp only; rw [if_neg (fun q => hw q.1)]; rfl
      have he : (x == [112, 108, 97, 110]) = false := by rw [beq_eq_false_iff_ne]; exact hw
      have he2 : (x != [112, 108, 97, 110]) = true := by rw [bne_iff_ne]; exact hw
      clear hz hw hW hx hS
      go_enter Tryd.func47, Tryd.ntmps47
      go_wp2
      go_ret
      rw [HZ.out]
      exact ⟨rfl, Below.refl _ _⟩
  · obtain ⟨z, hz⟩ : ∃ z, z = lineS rd 0 (p, ts) (x :: r) := ⟨_, rfl⟩
    rw [← hz]
    have HZ : Hid (z = none) := by
      unfold Hid
      rw [hz]
      show (line0 (x :: r) p).map _ = none
      rw [line0_len _ _ (by simp; exact h6)]
      rfl
    have he : ((r.length : Int) + 1 != 6) = true := by rw [bne_iff_ne]; omega
    have he2 : ¬ ((r.length : Int) + 1 = 6) := by omega
    clear hz hW hx hS
    go_enter Tryd.func47, Tryd.ntmps47
    go_wp2
    go_ret
    rw [HZ.out]
    exact ⟨rfl, Below.refl _ _⟩
end Pln
end Go.Proofs.YtcaobnmfgnbolabDoor
