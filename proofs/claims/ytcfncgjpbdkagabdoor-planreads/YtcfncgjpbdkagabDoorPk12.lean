/- What the document's answer (tideref) says of a line of a plan's text: planLine, what a trigger wants. What the document's answer (tideref) says of a line of a plan's text: planLine, a trigger by numbers. What the document's answer (tideref) says of a span's line: where its `/` stands, its crons. -/
import Derived.Test.YtcfncgjpbdkagabDoorPk5
import Derived.Test.YtcfncgjpbdkagabDoorPk10
import Derived.Test.YtcfncgjpbdkagabDoorRefJoin2
import Derived.Test.YtcfncgjpbdkagabDoorPk11
import Derived.Deep.RegionHeld
import Derived.Deep.RegionLaw
import Derived.Lib.SliceRun
import Derived.Lib.SlicesS
namespace Go.Proofs.YtcfncgjpbdkagabDoor
namespace Pln
open Go.RowKit Lai Civ Crn Pie
set_option maxRecDepth 8000
set_option linter.unusedVariables false

/-- a trigger is laid into a block, by one step of a walk -/
theorem TS.put {w : World} {T : Nat} {t t' : Tr} (h : TS w T t) : TS (w.setCells T 0 (trC t').toList) T t' :=
  h.turn (OnlyQ.sets T _ _ _) (by
    have e : setRow (trC t) 0 (trC t').toList = trC t' := by simp [setRow]
    have := cells_sets (trC t').toList 0 h.cel (by simp)
    rw [e] at this
    exact this)
theorem wp_putTr {ops : Array Oper} {rest : List Oper} {x y : Operand} {ps : String} {af : Array Edge} {A : Act} {Q : Exit → Act → World → Prop} {w : World} {T : Nat} {t t' : Tr} (h : TS w T t) (hx : A.eval x = .pointer (some ⟨T, 0, none⟩)) (hy : A.eval y = trV t')
    (g : ∀ w', TS w' T t' → OnlyQ T w w' → wpList Tryd.prog ops Q rest (A.put none undef) w') :
    wpList Tryd.prog ops Q ({ dst := none, op := .store 63 x y, type := 0, pos := ps, after := af, guard := none } :: rest) A w :=
  wpList_store_mid rfl 63 x y rfl T 0 (trC t') hx hy (h.there 0 17 (by decide)) (by kernel_rfl) (by simp [Value.oneCell']) (g _ h.put (OnlyQ.sets T _ _ _))
def Ns2 (g : Nat) (a b : Int) (w : World) : Prop := w.cell? ⟨g, 0, none⟩ = some (.int .i64 a) ∧ w.cell? ⟨g, 1, none⟩ = some (.int .i64 b)
theorem Ns2.below {g n : Nat} {a b : Int} {w w' : World} (h : Ns2 g a b w) (hb : Below n w w') (hg : g < n) : Ns2 g a b w' := ⟨(hb.cell (p := ⟨g, 0, none⟩) hg).trans h.1, (hb.cell (p := ⟨g, 1, none⟩) hg).trans h.2⟩
/-- wholes of two words, of one -/
theorem two_wh (r : List (List UInt8)) (B o cap : Nat) (w : World) (hW : TxAt w B o r) (hr : r.length ≤ 3000) (hx : ∀ x ∈ r, x.length ≤ 3000) :
    (two r = none ∧ Calls Tryd.prog 70 #[.slice (some ⟨B, o, none⟩) r.length cap, .int .i64 2, .int .i64 7] w fun e w' => e = .returned (.slice none 0 0) ∧ Below w.heap.size w w') ∨
    ∃ a b, two r = some (a, b) ∧ Calls Tryd.prog 70 #[.slice (some ⟨B, o, none⟩) r.length cap, .int .i64 2, .int .i64 7] w fun e w' => (∃ g k, e = .returned (.slice (some ⟨g, 0, none⟩) 2 k) ∧ w.heap.size ≤ g ∧ g < w'.heap.size ∧ Ns2 g a b w') ∧ Below w.heap.size w w' := by
  have c0 := rwholes r 2 B o cap w hW (by decide) (by decide) hr hx
  cases hB : NsB 2 r
  · refine Or.inl ⟨two_no hB, c0.mono fun e w' h => ⟨?_, h.1⟩⟩
    rcases h.2 with ⟨_, q⟩ | ⟨q, _⟩
    · exact q
    · rw [hB] at q; cases q
  · obtain ⟨hl, hn⟩ := nsB_iff hB
    match r, hl with
    | [x, y], _ =>
      obtain ⟨a, ha⟩ := hn x (by simp)
      obtain ⟨b, hb⟩ := hn y (by simp)
      refine Or.inr ⟨a, b, by unfold two; dsimp only; rw [ha, hb], c0.mono fun e w' h => ⟨?_, h.1⟩⟩
      rcases h.2 with ⟨q, _⟩ | ⟨_, g, k, ns, he, hl, hg, hc1, hc2, hc3⟩
      · rw [hB] at q; cases q
      · exact ⟨g, k, he, hc3, hg, hc1 0 a ((hc2 0 x rfl).symm.trans ha), hc1 1 b ((hc2 1 y rfl).symm.trans hb)⟩
theorem one_wh (x : List UInt8) (B o cap : Nat) (w : World) (hW : TxAt w B o [x]) (hx : x.length ≤ 3000) :
    (num7 x = none ∧ Calls Tryd.prog 70 #[.slice (some ⟨B, o, none⟩) 1 cap, .int .i64 1, .int .i64 7] w fun e w' => e = .returned (.slice none 0 0) ∧ Below w.heap.size w w') ∨
    ∃ a, num7 x = some a ∧ Calls Tryd.prog 70 #[.slice (some ⟨B, o, none⟩) 1 cap, .int .i64 1, .int .i64 7] w fun e w' => (∃ g k, e = .returned (.slice (some ⟨g, 0, none⟩) 1 k) ∧ w.heap.size ≤ g ∧ g < w'.heap.size ∧ w'.cell? ⟨g, 0, none⟩ = some (.int .i64 a)) ∧ Below w.heap.size w w' := by
  have c0 := rwholes [x] 1 B o cap w hW (by decide) (by decide) (by simp) (by simpa using hx)
  cases hB : NsB 1 [x]
  · refine Or.inl ⟨one_no hB, c0.mono fun e w' h => ⟨?_, h.1⟩⟩
    rcases h.2 with ⟨_, q⟩ | ⟨q, _⟩
    · exact q
    · rw [hB] at q; cases q
  · obtain ⟨_, hn⟩ := nsB_iff hB
    obtain ⟨a, ha⟩ := hn x (by simp)
    refine Or.inr ⟨a, ha, c0.mono fun e w' h => ⟨?_, h.1⟩⟩
    rcases h.2 with ⟨q, _⟩ | ⟨_, g, k, ns, he, hl, hg, hc1, hc2, hc3⟩
    · rw [hB] at q; cases q
    · exact ⟨g, k, he, hc3, hg, hc1 0 a ((hc2 0 x rfl).symm.trans ha)⟩
end Pln
end Go.Proofs.YtcfncgjpbdkagabDoor
namespace Go.Proofs.YtcfncgjpbdkagabDoor
namespace Pln
open Go.RowKit Lai Civ Crn Pie
set_option maxRecDepth 8000
set_option linter.unusedSimpArgs false
set_option linter.unusedVariables false

/-- a block that the plan does not hold has turned -/
theorem PS.apart {w w' : World} {e : TypeId} {N Q R : Nat} {p : Pd} {ts : List Tr} {v : Value} (h : PS w e N Q p ts v) (o : OnlyQ R w w') (hR : Q ≠ R) (hv : v.ownBlock ≠ some R) : PS w' e N Q p ts v := by
  have hQ : w'.heap[Q]? = w.heap[Q]? := o.block Q h.lt hR
  exact ⟨Nat.lt_of_lt_of_le h.lt o.size, h.bQ, fun j => (World.cell?_of_block (w := w) (a := ⟨Q, j, none⟩) hQ).trans (h.cel j), fun j => (World.frozen?_of_block (w := w) (a := ⟨Q, j, none⟩) hQ).trans (h.fz j), owns_blockT h.own (fun g hg => o.block g (h.own.lt g hg).2 (fun e => hv (e ▸ hg))), h.ne⟩
set_option maxHeartbeats 4000000 in
theorem rl4_lag (rd : List UInt8 → Option K) (i : Nat) (hi : 4 ≤ i) (hi2 : i ≤ 10000) (r : List (List UInt8)) (B cv N Q : Nat) (p : Pd) (ts : List Tr) (v : Value) (w : World) (hS : PS w 63 N Q p ts v) (hts : ts.length ≤ 10000) (hW : TxAt w B 0 (wLag :: r)) (hBQ : B ≠ Q) (hcv : r.length + 1 ≤ cv) (hr : r.length + 1 ≤ 3000) (hx : ∀ y ∈ r, y.length ≤ 3000) :
    Calls Tryd.prog 42 #[.pointer (some ⟨Q, 0, none⟩), .int .i64 i, .slice (some ⟨B, 0, none⟩) (r.length + 1) cv] w fun e w' => LineR 63 N Q w ((trS rd wLag r).map fun t => (p, ts ++ [t])) e w' := by
  obtain ⟨i0, hi0, hz0, hz1, hz2⟩ := info_parts info_trg
  obtain ⟨o2, hif, hW2⟩ := hW.cut hcv
  obtain ⟨z, hz⟩ : ∃ z, z = ((trS rd wLag r).map fun t => (p, ts ++ [t])) := ⟨_, rfl⟩
  rw [← hz]
  have HZ0 : Hid (z = ((two r).map fun q => (⟨1, q.1, q.2, k0, k0⟩ : Tr)).map fun t => (p, ts ++ [t])) := by
    unfold Hid
    rw [hz]
    unfold trS
    rw [if_pos rfl]
  clear hz
  have qN : ∀ (w : World) (a : Option Addr) (n c : Nat), (binOp .eql 110 (.slice a n c) (.slice none 0 0)).run Tryd.prog w = .ok (.bool a.isNone) w := fun w a n c => Lib.run_eql_slice_nil w _ _ a n c 0 0 Tryd.underlying110
  have cx : w.cell? ⟨B, 0, none⟩ = some (strV wLag) := hW.2 0 _ rfl
  have n0 : ((i : Int) == 0) = false := by rw [beq_eq_false_iff_ne]; omega
  have n1 : ((i : Int) == 1) = false := by rw [beq_eq_false_iff_ne]; omega
  have n2 : ((i : Int) == 2) = false := by rw [beq_eq_false_iff_ne]; omega
  have n3 : ((i : Int) == 3) = false := by rw [beq_eq_false_iff_ne]; omega
  have hBl := hW.1
  have hBn : ¬ B = w.heap.size := by omega
  have hQl := hS.lt
  have hNn := hS.nN
  have HV0 : Hid (∀ g, v.ownBlock = some g → g < w.heap.size) := fun g hg => (hS.own.lt g hg).2
  have HS : Hid (PS w 63 N Q p ts v) := hS
  have hb0 : Below w.heap.size w (w.alloc (.cells #[.int .i64 0, .int .i64 0, .int .i64 0, .int .u64 0, .int .u64 0, .int .u64 0, .int .u64 0, .int .u64 0, .bool false, .bool false, .int .u64 0, .int .u64 0, .int .u64 0, .int .u64 0, .int .u64 0, .bool false, .bool false] 63)) := balloc _
  have hT0 := tz w 63 0
  have c0 := two_wh r B o2 (cv - 1) (w.alloc (.cells #[.int .i64 0, .int .i64 0, .int .i64 0, .int .u64 0, .int .u64 0, .int .u64 0, .int .u64 0, .int .u64 0, .bool false, .bool false, .int .u64 0, .int .u64 0, .int .u64 0, .int .u64 0, .int .u64 0, .bool false, .bool false] 63)) (hW2.below hb0 hBl) (by omega) hx
  generalize hWq : (w.alloc (.cells #[.int .i64 0, .int .i64 0, .int .i64 0, .int .u64 0, .int .u64 0, .int .u64 0, .int .u64 0, .int .u64 0, .bool false, .bool false, .int .u64 0, .int .u64 0, .int .u64 0, .int .u64 0, .int .u64 0, .bool false, .bool false] 63)) = Wq at *
  have HWq : Hid ((w.alloc (.cells #[.int .i64 0, .int .i64 0, .int .i64 0, .int .u64 0, .int .u64 0, .int .u64 0, .int .u64 0, .int .u64 0, .bool false, .bool false, .int .u64 0, .int .u64 0, .int .u64 0, .int .u64 0, .int .u64 0, .bool false, .bool false] 63)) = Wq) := hWq
  have hsq := hb0.size
  have hTl0 := hT0.lt
  have hWN : Below N w Wq := hb0.mono hNn
  clear hW hx hi hWq hW2 hS
  rcases c0 with ⟨hf, c0⟩ | ⟨a, b, hf, c0⟩
  · rw [hf] at HZ0
    go_enter Tryd.func42, Tryd.ntmps42
    go_wp2_with (go_at_call 70; rw [HWq.out]; (with_reducible refine c0.mono ?_); rintro e w1 ⟨rfl, hb1⟩)
    go_ret
    rw [HZ0.out]
    exact ⟨rfl, hWN.trans (hb1.mono (by omega))⟩
  · rw [hf] at HZ0
    go_enter Tryd.func42, Tryd.ntmps42
    go_wp2_with (go_at_call 70; rw [HWq.out]; (with_reducible refine c0.mono ?_); rintro e w1 ⟨⟨g, k, rfl, hg0, hg1, hn2⟩, hb1⟩; have hT1 := hT0.below hb1; have hs1 := hb1.size; have cx1 : w1.cell? ⟨B, 0, none⟩ = some (strV wLag) := (hb1.cell (p := ⟨B, 0, none⟩) (by show B < _; omega)).trans ((hb0.cell (p := ⟨B, 0, none⟩) hBl).trans cx))
    have hS1 := (HS.out.below hb0).below hb1
    have hw1 : Below N w w1 := hWN.trans (hb1.mono (by omega))
    have HS1 : Hid (PS w1 63 N Q p ts v) := hS1
    have HW1 : Hid (Below N w w1) := hw1
    have hT1d : TS w1.drew w.heap.size ⟨0, 0, 0, k0, k0⟩ := hT1.below ((Below.refl _ _).drew)
    have hgT : g ≠ w.heap.size := by omega
    clear hS1 hw1 c0 cx
    refine wp_region_held_drew (S := fun w' => Ns2 g a b w') (by kernel_rfl) hn2 (fun hHeld => ?_)
    refine wpAnyH_take (i := 0) (oi := _) (v := ?_) rfl (by kernel_rfl) (by kernel_rfl) (by kernel_rfl) (fun _ _ _ h => h) (Or.inl ⟨by rfl, ?_⟩) (by assumption) ?_
    rotate_left
    · intro w' hSw
      (try obtain ⟨q0, q1⟩ := hSw)
      go_simp
      all_goals with_reducible rfl
    (try simp only [Act.put, List.setIfInBounds_toArray, List.set_cons_zero, List.set_cons_succ, List.getElem_toArray, List.getElem_cons_zero, List.getElem_cons_succ])
    refine wpAnyH_take (i := 1) (oi := _) (v := ?_) rfl (by kernel_rfl) (by kernel_rfl) (by kernel_rfl) (fun _ _ _ h => h) (Or.inl ⟨by rfl, ?_⟩) (by assumption) ?_
    rotate_left
    · intro w' hSw
      (try obtain ⟨q0, q1⟩ := hSw)
      go_simp
      all_goals with_reducible rfl
    (try simp only [Act.put, List.setIfInBounds_toArray, List.set_cons_zero, List.set_cons_succ, List.getElem_toArray, List.getElem_cons_zero, List.getElem_cons_succ])
    refine wpAnyH_take (i := 2) (oi := _) (v := ?_) rfl (by kernel_rfl) (by kernel_rfl) (by kernel_rfl) (fun _ _ _ h => h) (Or.inl ⟨by rfl, ?_⟩) (by assumption) ?_
    rotate_left
    · intro w' hSw
      (try obtain ⟨q0, q1⟩ := hSw)
      go_simp
      all_goals with_reducible rfl
    (try simp only [Act.put, List.setIfInBounds_toArray, List.set_cons_zero, List.set_cons_succ, List.getElem_toArray, List.getElem_cons_zero, List.getElem_cons_succ])
    refine wpAnyH_take (i := 3) (oi := _) (v := ?_) rfl (by kernel_rfl) (by kernel_rfl) (by kernel_rfl) (fun _ _ _ h => h) (Or.inl ⟨by rfl, ?_⟩) (by assumption) ?_
    rotate_left
    · intro w' hSw
      (try obtain ⟨q0, q1⟩ := hSw)
      go_simp
      all_goals with_reducible rfl
    (try simp only [Act.put, List.setIfInBounds_toArray, List.set_cons_zero, List.set_cons_succ, List.getElem_toArray, List.getElem_cons_zero, List.getElem_cons_succ])
    refine wpAnyH_take (i := 4) (oi := _) (v := ?_) rfl (by kernel_rfl) (by kernel_rfl) (by kernel_rfl) (fun _ _ _ h => h) (Or.inl ⟨by rfl, ?_⟩) (by assumption) ?_
    rotate_left
    · intro w' hSw
      (try obtain ⟨q0, q1⟩ := hSw)
      go_simp
      all_goals with_reducible rfl
    (try simp only [Act.put, List.setIfInBounds_toArray, List.set_cons_zero, List.set_cons_succ, List.getElem_toArray, List.getElem_cons_zero, List.getElem_cons_succ])
    refine wpAnyH_take (i := 5) (oi := _) (v := ?_) rfl (by kernel_rfl) (by kernel_rfl) (by kernel_rfl) (fun _ _ _ h => h) (Or.inl ⟨by rfl, ?_⟩) (by assumption) ?_
    rotate_left
    · intro w' hSw
      (try obtain ⟨q0, q1⟩ := hSw)
      go_simp
      all_goals with_reducible rfl
    (try simp only [Act.put, List.setIfInBounds_toArray, List.set_cons_zero, List.set_cons_succ, List.getElem_toArray, List.getElem_cons_zero, List.getElem_cons_succ])
    refine wpAnyH_take (i := 6) (oi := _) (v := ?_) rfl (by kernel_rfl) (by kernel_rfl) (by kernel_rfl) (fun _ _ _ h => h) (Or.inl ⟨by rfl, ?_⟩) (by assumption) ?_
    rotate_left
    · intro w' hSw
      (try obtain ⟨q0, q1⟩ := hSw)
      go_simp
      all_goals with_reducible rfl
    (try simp only [Act.put, List.setIfInBounds_toArray, List.set_cons_zero, List.set_cons_succ, List.getElem_toArray, List.getElem_cons_zero, List.getElem_cons_succ])
    refine wpAnyH_ready (rs := [7]) (by kernel_rfl) (by simp) ?_
    refine AllReadyH.cons rfl (fun K hK => ?_) AllReadyH.nil
    rw [if_pos (by rfl)]
    refine wp_store_mid 63 (.tmp 10) (.tmp 173) rfl w.heap.size 0 (trC ⟨2, a, b, k0, k0⟩) (by with_unfolding_all rfl) (by with_unfolding_all rfl) (hT1d.there 0 17 (by decide)) (by kernel_rfl) (by simp [Value.oneCell']) ?_
    have hT2 : TS (w1.drew.setCells w.heap.size 0 (trC ⟨2, a, b, k0, k0⟩).toList) w.heap.size ⟨2, a, b, k0, k0⟩ := hT1d.put
    have hO2 : OnlyQ w.heap.size w1 (w1.drew.setCells w.heap.size 0 (trC ⟨2, a, b, k0, k0⟩).toList) := (OnlyQ.of_below ((Below.refl _ _).drew) hT1.lt).trans (OnlyQ.sets _ _ _ _)
    generalize w1.drew.setCells w.heap.size 0 (trC ⟨2, a, b, k0, k0⟩).toList = w2 at *
    refine hK.out _ _ ?_ (fun hHeld => ?_)
    · exact ⟨(hO2.cell (a := ⟨g, 0, none⟩) hg1 hgT).trans hn2.1, (hO2.cell (a := ⟨g, 1, none⟩) hg1 hgT).trans hn2.2⟩
    clear hK K
    (try simp only [Act.put, List.setIfInBounds_toArray, List.set_cons_zero, List.set_cons_succ, List.getElem_toArray, List.getElem_cons_zero, List.getElem_cons_succ])
    refine wpAnyH_done (by kernel_rfl) ?_ _
    have cx2 : w2.cell? ⟨B, 0, none⟩ = some (strV wLag) := (hO2.cell (a := ⟨B, 0, none⟩) (by show B < _; omega) hBn).trans cx1
    clear hHeld cx1 hT1d hT1
    have hT3 := hT2.setK 1
    have hO3 : OnlyQ w.heap.size w1 (w2.setCell ⟨w.heap.size, 0, none⟩ (.int .i64 1)) := hO2.trans (OnlyQ.set _ _ _ _)
    have kT0 : w2.cell? ⟨w.heap.size, 0, none⟩ = some (.int .i64 2) := by simpa using hT2.cel 0
    have fT0 := hT2.fz 0
    have hT2l := hT2.lt
    clear hT2
    go_wp2_with fail
    generalize w2.setCell ⟨w.heap.size, 0, none⟩ (.int .i64 1) = w4 at *
    have hT4 : TS w4 w.heap.size ⟨1, a, b, k0, k0⟩ := hT3
    have hO4 := hO3
    have hS4 : PS w4 63 N Q p ts v := HS1.out.apart hO4 (by omega) (fun e => by have := HV0.out _ e; omega)
    have HS4 : Hid (PS w4 63 N Q p ts v) := hS4
    have HB4 : Hid (Below N w w4) := HW1.out.trans (hO4.below hNn (by omega))
    have HV : Hid (∀ g, v.ownBlock = some g → g < w.heap.size) := HV0.out
    have HZ : Hid (z = some (p, ts ++ [(⟨1, a, b, k0, k0⟩ : Tr)])) := HZ0.out
    generalize (⟨1, a, b, k0, k0⟩ : Tr) = t at *
    generalize w.heap.size = T at *
    have hTl := hT4.lt
    have hR0 : RgT w4 T t := range_tr hT4.at
    have hR4 : RgT w4.drew T t := hR0
    have cS : w4.cell? ⟨Q, 17, none⟩ = some v := by simpa using HS4.out.cel 17
    have hQ4l : Q < w4.heap.size := HS4.out.lt
    have hQ4n : ¬ Q = w4.heap.size := by omega
    clear hT4
    refine wp_region_held_drew (S := fun w' => RgT w' T t) (by kernel_rfl) hR4 (fun hHeld => ?_)
    refine wpAnyH_take (i := 0) (oi := _) (v := ?_) rfl (by kernel_rfl) (by kernel_rfl) (by kernel_rfl) (fun _ _ _ h => h) (Or.inl ⟨by rfl, ?_⟩) (by assumption) ?_
    rotate_left
    · intro w' hSw
      (try obtain x := hSw)
      go_simp
      all_goals with_reducible rfl
    (try simp only [Act.put, List.setIfInBounds_toArray, List.set_cons_zero, List.set_cons_succ, List.getElem_toArray, List.getElem_cons_zero, List.getElem_cons_succ])
    refine wpAnyH_take (i := 1) (oi := _) (v := ?_) rfl (by kernel_rfl) (by kernel_rfl) (by kernel_rfl) (fun _ _ _ h => h) (Or.inl ⟨by rfl, ?_⟩) (by assumption) ?_
    rotate_left
    · intro w' hSw
      (try obtain x := hSw)
      go_simp
      all_goals with_reducible rfl
    (try simp only [Act.put, List.setIfInBounds_toArray, List.set_cons_zero, List.set_cons_succ, List.getElem_toArray, List.getElem_cons_zero, List.getElem_cons_succ])
    refine wpAnyH_take (i := 2) (oi := _) (v := ?_) rfl (by kernel_rfl) (by kernel_rfl) (by kernel_rfl) (fun _ _ _ h => h) (Or.inl ⟨by rfl, ?_⟩) (by assumption) ?_
    rotate_left
    · intro w' hSw
      (try obtain x := hSw)
      go_simp
      all_goals with_reducible rfl
    (try simp only [Act.put, List.setIfInBounds_toArray, List.set_cons_zero, List.set_cons_succ, List.getElem_toArray, List.getElem_cons_zero, List.getElem_cons_succ])
    refine wpAnyH_take (i := 3) (oi := _) (v := ?_) rfl (by kernel_rfl) (by kernel_rfl) (by kernel_rfl) (fun _ _ _ h => h) (Or.inl ⟨by rfl, ?_⟩) (by assumption) ?_
    rotate_left
    · intro w' hSw
      (try obtain x := hSw)
      go_simp
      all_goals with_reducible rfl
    (try simp only [Act.put, List.setIfInBounds_toArray, List.set_cons_zero, List.set_cons_succ, List.getElem_toArray, List.getElem_cons_zero, List.getElem_cons_succ])
    refine wpAnyH_take (i := 5) (oi := _) (v := trV t) rfl (by kernel_rfl) (by kernel_rfl) (by kernel_rfl) (fun _ _ _ h => h) (yieldsIf_load_mid (by rfl) 63 (.tmp 10) rfl T 0 (by with_unfolding_all rfl) [.int .i64 t.k, .int .i64 t.tg, .int .i64 t.ac, .int .u64 t.a.mi, .int .u64 t.a.ho, .int .u64 t.a.da, .int .u64 t.a.mn, .int .u64 t.a.we, .bool t.a.ad, .bool t.a.aw, .int .u64 t.b.mi, .int .u64 t.b.ho, .int .u64 t.b.da, .int .u64 t.b.mn, .int .u64 t.b.we, .bool t.b.ad, .bool t.b.aw] _ (fun w h => h) Tryd.underlying63 rfl (by kernel_rfl)) (by assumption) ?_
    (try simp only [Act.put, List.setIfInBounds_toArray, List.set_cons_zero, List.set_cons_succ, List.getElem_toArray, List.getElem_cons_zero, List.getElem_cons_succ])
    refine wpAnyH_ready (rs := [4, 6]) (by kernel_rfl) (by simp) ?_
    refine AllReadyH.cons rfl (fun K hK => ?_) (AllReadyH.cons rfl (fun K hK => ?_) AllReadyH.nil)
    · go_simp
      refine hK.out _ _ ?_ (fun hHeld => ?_)
      · exact hR4
      clear hK K
      refine wpAnyH_ready (rs := [6]) (by kernel_rfl) (by simp) ?_
      refine AllReadyH.cons rfl (fun K hK => ?_) AllReadyH.nil
      · go_simp
        refine hK.out _ _ ?_ (fun hHeld => ?_)
        · first | exact RgT.alloc hR4 _ | exact RgT.alloc hR0 _
        clear hK K
        have hS6 : PS (w4.alloc (.cells (trC t) 63)).drew 63 N Q p ts v := HS4.out.below (bad1 w4 _)
        have hown6 := hS6.own
        refine wpAnyH_ready (rs := [7]) (by kernel_rfl) (by simp) ?_
        refine AllReadyH.cons rfl (fun K hK => ?_) AllReadyH.nil
        · refine step_own_at rfl (.tmp 226) (.tmp 228) 42 rfl N 63 i0 (.agg #[.int .i64 0, .int .i64 0, .int .i64 0, .int .u64 0, .int .u64 0, .int .u64 0, .int .u64 0, .int .u64 0, .bool false, .bool false, .int .u64 0, .int .u64 0, .int .u64 0, .int .u64 0, .int .u64 0, .bool false, .bool false]) 17 120 Tryd.underlying42 hi0 hz0 hz1 hz2 rfl (by decide) v ts.length (celT ts) rfl hown6 ⟨w4.heap.size, 0, none⟩ 1 1 (trC t).toList rfl rfl (cell17 _ _ t) (one17 t) (by unfold maxLen; omega) (by omega) (by simp; omega) ?_
          intro v' w7 hown7 hgrow7 hloc7
          have hR7 : RgT w7 T t := RgT.kept (w := (w4.alloc (.cells (trC t) 63)).drew) (RgT.alloc hR0 _) (hgrow7.block T (by simp; omega) (fun e => by have := HV.out _ e.symm; omega))
          have hQ7 := hgrow7.block Q hS6.lt (fun e => hS6.ne e.symm)
          have cS7 : w7.cell? ⟨Q, 17, none⟩ = some v := (World.cell?_of_block (w := (w4.alloc (.cells (trC t) 63)).drew) (a := ⟨Q, 17, none⟩) hQ7).trans (by simpa using hS6.cel 17)
          have fS7 : w7.frozen? ⟨Q, 17, none⟩ = false := (World.frozen?_of_block (w := (w4.alloc (.cells (trC t) 63)).drew) (a := ⟨Q, 17, none⟩) hQ7).trans (hS6.fz 17)
          have hA8 := hS6.appended hgrow7 (ts' := ts ++ [t]) (by rw [List.length_append, celT_snoc]; exact hown7) hloc7
          have hBf := (HB4.out.trans ((bad1 w4 (.cells (trC t) 63)).mono HS4.out.nN)).trans (hS6.grown_below hgrow7 v')
          obtain ⟨g7, cap7, rfl⟩ := own_succT hown7
          have hQ7l : Q < w7.heap.size := by have := hA8.lt; simpa using this
          refine hK.out _ _ ?_ (fun hHeld => ?_)
          · exact hR7
          clear hK K
          refine wpAnyH_take (i := 8) (oi := _) (v := ?_) rfl (by kernel_rfl) (by kernel_rfl) (by kernel_rfl) (fun _ _ _ h => h) (Or.inl ⟨by rfl, ?_⟩) (by assumption) ?_
          rotate_left
          · intro w' hSw
            (try obtain x := hSw)
            go_simp
            all_goals with_reducible rfl
          (try simp only [Act.put, List.setIfInBounds_toArray, List.set_cons_zero, List.set_cons_succ, List.getElem_toArray, List.getElem_cons_zero, List.getElem_cons_succ])
          refine wpAnyH_take (i := 9) (oi := _) (v := ?_) rfl (by kernel_rfl) (by kernel_rfl) (by kernel_rfl) (fun _ _ _ h => h) (Or.inl ⟨by rfl, ?_⟩) (by assumption) ?_
          rotate_left
          · intro w' hSw
            (try obtain x := hSw)
            go_simp
            all_goals with_reducible rfl
          (try simp only [Act.put, List.setIfInBounds_toArray, List.set_cons_zero, List.set_cons_succ, List.getElem_toArray, List.getElem_cons_zero, List.getElem_cons_succ])
          refine wpAnyH_ready (rs := [10]) (by kernel_rfl) (by simp) ?_
          refine AllReadyH.cons rfl (fun K hK => ?_) AllReadyH.nil
          · go_simp
            refine hK.out _ _ ?_ (fun hHeld => ?_)
            · exact hR7.kept (Below.heap_setCell w7 ⟨Q, 17, none⟩ _ T (by show T ≠ Q; omega))
            clear hK K
            refine wpAnyH_done (by kernel_rfl) ?_ _
            go_wp2
            go_ret
            rw [HZ.out]
            exact ⟨rfl, hBf, _, hA8⟩
    · go_simp
      refine hK.out _ _ ?_ (fun hHeld => ?_)
      · first | exact RgT.alloc hR4 _ | exact RgT.alloc hR0 _
      clear hK K
      refine wpAnyH_ready (rs := [4]) (by kernel_rfl) (by simp) ?_
      refine AllReadyH.cons rfl (fun K hK => ?_) AllReadyH.nil
      · go_simp
        refine hK.out _ _ ?_ (fun hHeld => ?_)
        · first | exact RgT.alloc hR4 _ | exact RgT.alloc hR0 _
        clear hK K
        have hS6 : PS (w4.alloc (.cells (trC t) 63)).drew 63 N Q p ts v := HS4.out.below (bad1 w4 _)
        have hown6 := hS6.own
        refine wpAnyH_ready (rs := [7]) (by kernel_rfl) (by simp) ?_
        refine AllReadyH.cons rfl (fun K hK => ?_) AllReadyH.nil
        · refine step_own_at rfl (.tmp 226) (.tmp 228) 42 rfl N 63 i0 (.agg #[.int .i64 0, .int .i64 0, .int .i64 0, .int .u64 0, .int .u64 0, .int .u64 0, .int .u64 0, .int .u64 0, .bool false, .bool false, .int .u64 0, .int .u64 0, .int .u64 0, .int .u64 0, .int .u64 0, .bool false, .bool false]) 17 120 Tryd.underlying42 hi0 hz0 hz1 hz2 rfl (by decide) v ts.length (celT ts) rfl hown6 ⟨w4.heap.size, 0, none⟩ 1 1 (trC t).toList rfl rfl (cell17 _ _ t) (one17 t) (by unfold maxLen; omega) (by omega) (by simp; omega) ?_
          intro v' w7 hown7 hgrow7 hloc7
          have hR7 : RgT w7 T t := RgT.kept (w := (w4.alloc (.cells (trC t) 63)).drew) (RgT.alloc hR0 _) (hgrow7.block T (by simp; omega) (fun e => by have := HV.out _ e.symm; omega))
          have hQ7 := hgrow7.block Q hS6.lt (fun e => hS6.ne e.symm)
          have cS7 : w7.cell? ⟨Q, 17, none⟩ = some v := (World.cell?_of_block (w := (w4.alloc (.cells (trC t) 63)).drew) (a := ⟨Q, 17, none⟩) hQ7).trans (by simpa using hS6.cel 17)
          have fS7 : w7.frozen? ⟨Q, 17, none⟩ = false := (World.frozen?_of_block (w := (w4.alloc (.cells (trC t) 63)).drew) (a := ⟨Q, 17, none⟩) hQ7).trans (hS6.fz 17)
          have hA8 := hS6.appended hgrow7 (ts' := ts ++ [t]) (by rw [List.length_append, celT_snoc]; exact hown7) hloc7
          have hBf := (HB4.out.trans ((bad1 w4 (.cells (trC t) 63)).mono HS4.out.nN)).trans (hS6.grown_below hgrow7 v')
          obtain ⟨g7, cap7, rfl⟩ := own_succT hown7
          have hQ7l : Q < w7.heap.size := by have := hA8.lt; simpa using this
          refine hK.out _ _ ?_ (fun hHeld => ?_)
          · exact hR7
          clear hK K
          refine wpAnyH_take (i := 8) (oi := _) (v := ?_) rfl (by kernel_rfl) (by kernel_rfl) (by kernel_rfl) (fun _ _ _ h => h) (Or.inl ⟨by rfl, ?_⟩) (by assumption) ?_
          rotate_left
          · intro w' hSw
            (try obtain x := hSw)
            go_simp
            all_goals with_reducible rfl
          (try simp only [Act.put, List.setIfInBounds_toArray, List.set_cons_zero, List.set_cons_succ, List.getElem_toArray, List.getElem_cons_zero, List.getElem_cons_succ])
          refine wpAnyH_take (i := 9) (oi := _) (v := ?_) rfl (by kernel_rfl) (by kernel_rfl) (by kernel_rfl) (fun _ _ _ h => h) (Or.inl ⟨by rfl, ?_⟩) (by assumption) ?_
          rotate_left
          · intro w' hSw
            (try obtain x := hSw)
            go_simp
            all_goals with_reducible rfl
          (try simp only [Act.put, List.setIfInBounds_toArray, List.set_cons_zero, List.set_cons_succ, List.getElem_toArray, List.getElem_cons_zero, List.getElem_cons_succ])
          refine wpAnyH_ready (rs := [10]) (by kernel_rfl) (by simp) ?_
          refine AllReadyH.cons rfl (fun K hK => ?_) AllReadyH.nil
          · go_simp
            refine hK.out _ _ ?_ (fun hHeld => ?_)
            · exact hR7.kept (Below.heap_setCell w7 ⟨Q, 17, none⟩ _ T (by show T ≠ Q; omega))
            clear hK K
            refine wpAnyH_done (by kernel_rfl) ?_ _
            go_wp2
            go_ret
            rw [HZ.out]
            exact ⟨rfl, hBf, _, hA8⟩
set_option maxHeartbeats 4000000 in
theorem rl4_depth (rd : List UInt8 → Option K) (i : Nat) (hi : 4 ≤ i) (hi2 : i ≤ 10000) (r : List (List UInt8)) (B cv N Q : Nat) (p : Pd) (ts : List Tr) (v : Value) (w : World) (hS : PS w 63 N Q p ts v) (hts : ts.length ≤ 10000) (hW : TxAt w B 0 (wDepth :: r)) (hBQ : B ≠ Q) (hcv : r.length + 1 ≤ cv) (hr : r.length + 1 ≤ 3000) (hx : ∀ y ∈ r, y.length ≤ 3000) :
    Calls Tryd.prog 42 #[.pointer (some ⟨Q, 0, none⟩), .int .i64 i, .slice (some ⟨B, 0, none⟩) (r.length + 1) cv] w fun e w' => LineR 63 N Q w ((trS rd wDepth r).map fun t => (p, ts ++ [t])) e w' := by
  obtain ⟨i0, hi0, hz0, hz1, hz2⟩ := info_parts info_trg
  obtain ⟨o2, hif, hW2⟩ := hW.cut hcv
  obtain ⟨z, hz⟩ : ∃ z, z = ((trS rd wDepth r).map fun t => (p, ts ++ [t])) := ⟨_, rfl⟩
  rw [← hz]
  have HZ0 : Hid (z = ((two r).map fun q => (⟨2, q.1, q.2, k0, k0⟩ : Tr)).map fun t => (p, ts ++ [t])) := by
    unfold Hid
    rw [hz]
    unfold trS
    rw [if_neg (by simp), if_pos rfl]
  clear hz
  have qN : ∀ (w : World) (a : Option Addr) (n c : Nat), (binOp .eql 110 (.slice a n c) (.slice none 0 0)).run Tryd.prog w = .ok (.bool a.isNone) w := fun w a n c => Lib.run_eql_slice_nil w _ _ a n c 0 0 Tryd.underlying110
  have cx : w.cell? ⟨B, 0, none⟩ = some (strV wDepth) := hW.2 0 _ rfl
  have n0 : ((i : Int) == 0) = false := by rw [beq_eq_false_iff_ne]; omega
  have n1 : ((i : Int) == 1) = false := by rw [beq_eq_false_iff_ne]; omega
  have n2 : ((i : Int) == 2) = false := by rw [beq_eq_false_iff_ne]; omega
  have n3 : ((i : Int) == 3) = false := by rw [beq_eq_false_iff_ne]; omega
  have hBl := hW.1
  have hBn : ¬ B = w.heap.size := by omega
  have hQl := hS.lt
  have hNn := hS.nN
  have HV0 : Hid (∀ g, v.ownBlock = some g → g < w.heap.size) := fun g hg => (hS.own.lt g hg).2
  have HS : Hid (PS w 63 N Q p ts v) := hS
  have hb0 : Below w.heap.size w (w.alloc (.cells #[.int .i64 0, .int .i64 0, .int .i64 0, .int .u64 0, .int .u64 0, .int .u64 0, .int .u64 0, .int .u64 0, .bool false, .bool false, .int .u64 0, .int .u64 0, .int .u64 0, .int .u64 0, .int .u64 0, .bool false, .bool false] 63)) := balloc _
  have hT0 := tz w 63 0
  have c0 := two_wh r B o2 (cv - 1) (w.alloc (.cells #[.int .i64 0, .int .i64 0, .int .i64 0, .int .u64 0, .int .u64 0, .int .u64 0, .int .u64 0, .int .u64 0, .bool false, .bool false, .int .u64 0, .int .u64 0, .int .u64 0, .int .u64 0, .int .u64 0, .bool false, .bool false] 63)) (hW2.below hb0 hBl) (by omega) hx
  generalize hWq : (w.alloc (.cells #[.int .i64 0, .int .i64 0, .int .i64 0, .int .u64 0, .int .u64 0, .int .u64 0, .int .u64 0, .int .u64 0, .bool false, .bool false, .int .u64 0, .int .u64 0, .int .u64 0, .int .u64 0, .int .u64 0, .bool false, .bool false] 63)) = Wq at *
  have HWq : Hid ((w.alloc (.cells #[.int .i64 0, .int .i64 0, .int .i64 0, .int .u64 0, .int .u64 0, .int .u64 0, .int .u64 0, .int .u64 0, .bool false, .bool false, .int .u64 0, .int .u64 0, .int .u64 0, .int .u64 0, .int .u64 0, .bool false, .bool false] 63)) = Wq) := hWq
  have hsq := hb0.size
  have hTl0 := hT0.lt
  have hWN : Below N w Wq := hb0.mono hNn
  clear hW hx hi hWq hW2 hS
  rcases c0 with ⟨hf, c0⟩ | ⟨a, b, hf, c0⟩
  · rw [hf] at HZ0
    go_enter Tryd.func42, Tryd.ntmps42
    go_wp2_with (go_at_call 70; rw [HWq.out]; (with_reducible refine c0.mono ?_); rintro e w1 ⟨rfl, hb1⟩)
    go_ret
    rw [HZ0.out]
    exact ⟨rfl, hWN.trans (hb1.mono (by omega))⟩
  · rw [hf] at HZ0
    go_enter Tryd.func42, Tryd.ntmps42
    go_wp2_with (go_at_call 70; rw [HWq.out]; (with_reducible refine c0.mono ?_); rintro e w1 ⟨⟨g, k, rfl, hg0, hg1, hn2⟩, hb1⟩; have hT1 := hT0.below hb1; have hs1 := hb1.size; have cx1 : w1.cell? ⟨B, 0, none⟩ = some (strV wDepth) := (hb1.cell (p := ⟨B, 0, none⟩) (by show B < _; omega)).trans ((hb0.cell (p := ⟨B, 0, none⟩) hBl).trans cx))
    have hS1 := (HS.out.below hb0).below hb1
    have hw1 : Below N w w1 := hWN.trans (hb1.mono (by omega))
    have HS1 : Hid (PS w1 63 N Q p ts v) := hS1
    have HW1 : Hid (Below N w w1) := hw1
    have hT1d : TS w1.drew w.heap.size ⟨0, 0, 0, k0, k0⟩ := hT1.below ((Below.refl _ _).drew)
    have hgT : g ≠ w.heap.size := by omega
    clear hS1 hw1 c0 cx
    refine wp_region_held_drew (S := fun w' => Ns2 g a b w') (by kernel_rfl) hn2 (fun hHeld => ?_)
    refine wpAnyH_take (i := 0) (oi := _) (v := ?_) rfl (by kernel_rfl) (by kernel_rfl) (by kernel_rfl) (fun _ _ _ h => h) (Or.inl ⟨by rfl, ?_⟩) (by assumption) ?_
    rotate_left
    · intro w' hSw
      (try obtain ⟨q0, q1⟩ := hSw)
      go_simp
      all_goals with_reducible rfl
    (try simp only [Act.put, List.setIfInBounds_toArray, List.set_cons_zero, List.set_cons_succ, List.getElem_toArray, List.getElem_cons_zero, List.getElem_cons_succ])
    refine wpAnyH_take (i := 1) (oi := _) (v := ?_) rfl (by kernel_rfl) (by kernel_rfl) (by kernel_rfl) (fun _ _ _ h => h) (Or.inl ⟨by rfl, ?_⟩) (by assumption) ?_
    rotate_left
    · intro w' hSw
      (try obtain ⟨q0, q1⟩ := hSw)
      go_simp
      all_goals with_reducible rfl
    (try simp only [Act.put, List.setIfInBounds_toArray, List.set_cons_zero, List.set_cons_succ, List.getElem_toArray, List.getElem_cons_zero, List.getElem_cons_succ])
    refine wpAnyH_take (i := 2) (oi := _) (v := ?_) rfl (by kernel_rfl) (by kernel_rfl) (by kernel_rfl) (fun _ _ _ h => h) (Or.inl ⟨by rfl, ?_⟩) (by assumption) ?_
    rotate_left
    · intro w' hSw
      (try obtain ⟨q0, q1⟩ := hSw)
      go_simp
      all_goals with_reducible rfl
    (try simp only [Act.put, List.setIfInBounds_toArray, List.set_cons_zero, List.set_cons_succ, List.getElem_toArray, List.getElem_cons_zero, List.getElem_cons_succ])
    refine wpAnyH_take (i := 3) (oi := _) (v := ?_) rfl (by kernel_rfl) (by kernel_rfl) (by kernel_rfl) (fun _ _ _ h => h) (Or.inl ⟨by rfl, ?_⟩) (by assumption) ?_
    rotate_left
    · intro w' hSw
      (try obtain ⟨q0, q1⟩ := hSw)
      go_simp
      all_goals with_reducible rfl
    (try simp only [Act.put, List.setIfInBounds_toArray, List.set_cons_zero, List.set_cons_succ, List.getElem_toArray, List.getElem_cons_zero, List.getElem_cons_succ])
    refine wpAnyH_take (i := 4) (oi := _) (v := ?_) rfl (by kernel_rfl) (by kernel_rfl) (by kernel_rfl) (fun _ _ _ h => h) (Or.inl ⟨by rfl, ?_⟩) (by assumption) ?_
    rotate_left
    · intro w' hSw
      (try obtain ⟨q0, q1⟩ := hSw)
      go_simp
      all_goals with_reducible rfl
    (try simp only [Act.put, List.setIfInBounds_toArray, List.set_cons_zero, List.set_cons_succ, List.getElem_toArray, List.getElem_cons_zero, List.getElem_cons_succ])
    refine wpAnyH_take (i := 5) (oi := _) (v := ?_) rfl (by kernel_rfl) (by kernel_rfl) (by kernel_rfl) (fun _ _ _ h => h) (Or.inl ⟨by rfl, ?_⟩) (by assumption) ?_
    rotate_left
    · intro w' hSw
      (try obtain ⟨q0, q1⟩ := hSw)
      go_simp
      all_goals with_reducible rfl
    (try simp only [Act.put, List.setIfInBounds_toArray, List.set_cons_zero, List.set_cons_succ, List.getElem_toArray, List.getElem_cons_zero, List.getElem_cons_succ])
    refine wpAnyH_take (i := 6) (oi := _) (v := ?_) rfl (by kernel_rfl) (by kernel_rfl) (by kernel_rfl) (fun _ _ _ h => h) (Or.inl ⟨by rfl, ?_⟩) (by assumption) ?_
    rotate_left
    · intro w' hSw
      (try obtain ⟨q0, q1⟩ := hSw)
      go_simp
      all_goals with_reducible rfl
    (try simp only [Act.put, List.setIfInBounds_toArray, List.set_cons_zero, List.set_cons_succ, List.getElem_toArray, List.getElem_cons_zero, List.getElem_cons_succ])
    refine wpAnyH_ready (rs := [7]) (by kernel_rfl) (by simp) ?_
    refine AllReadyH.cons rfl (fun K hK => ?_) AllReadyH.nil
    rw [if_pos (by rfl)]
    refine wp_store_mid 63 (.tmp 10) (.tmp 173) rfl w.heap.size 0 (trC ⟨2, a, b, k0, k0⟩) (by with_unfolding_all rfl) (by with_unfolding_all rfl) (hT1d.there 0 17 (by decide)) (by kernel_rfl) (by simp [Value.oneCell']) ?_
    have hT2 : TS (w1.drew.setCells w.heap.size 0 (trC ⟨2, a, b, k0, k0⟩).toList) w.heap.size ⟨2, a, b, k0, k0⟩ := hT1d.put
    have hO2 : OnlyQ w.heap.size w1 (w1.drew.setCells w.heap.size 0 (trC ⟨2, a, b, k0, k0⟩).toList) := (OnlyQ.of_below ((Below.refl _ _).drew) hT1.lt).trans (OnlyQ.sets _ _ _ _)
    generalize w1.drew.setCells w.heap.size 0 (trC ⟨2, a, b, k0, k0⟩).toList = w2 at *
    refine hK.out _ _ ?_ (fun hHeld => ?_)
    · exact ⟨(hO2.cell (a := ⟨g, 0, none⟩) hg1 hgT).trans hn2.1, (hO2.cell (a := ⟨g, 1, none⟩) hg1 hgT).trans hn2.2⟩
    clear hK K
    (try simp only [Act.put, List.setIfInBounds_toArray, List.set_cons_zero, List.set_cons_succ, List.getElem_toArray, List.getElem_cons_zero, List.getElem_cons_succ])
    refine wpAnyH_done (by kernel_rfl) ?_ _
    have cx2 : w2.cell? ⟨B, 0, none⟩ = some (strV wDepth) := (hO2.cell (a := ⟨B, 0, none⟩) (by show B < _; omega) hBn).trans cx1
    clear hHeld cx1 hT1d hT1
    go_wp2_with fail
    have hT4 : TS w2 w.heap.size ⟨2, a, b, k0, k0⟩ := hT2
    have hO4 := hO2
    generalize w2 = w4 at *
    have hS4 : PS w4 63 N Q p ts v := HS1.out.apart hO4 (by omega) (fun e => by have := HV0.out _ e; omega)
    have HS4 : Hid (PS w4 63 N Q p ts v) := hS4
    have HB4 : Hid (Below N w w4) := HW1.out.trans (hO4.below hNn (by omega))
    have HV : Hid (∀ g, v.ownBlock = some g → g < w.heap.size) := HV0.out
    have HZ : Hid (z = some (p, ts ++ [(⟨2, a, b, k0, k0⟩ : Tr)])) := HZ0.out
    generalize (⟨2, a, b, k0, k0⟩ : Tr) = t at *
    generalize w.heap.size = T at *
    have hTl := hT4.lt
    have hR0 : RgT w4 T t := range_tr hT4.at
    have hR4 : RgT w4.drew T t := hR0
    have cS : w4.cell? ⟨Q, 17, none⟩ = some v := by simpa using HS4.out.cel 17
    have hQ4l : Q < w4.heap.size := HS4.out.lt
    have hQ4n : ¬ Q = w4.heap.size := by omega
    clear hT4
    refine wp_region_held_drew (S := fun w' => RgT w' T t) (by kernel_rfl) hR4 (fun hHeld => ?_)
    refine wpAnyH_take (i := 0) (oi := _) (v := ?_) rfl (by kernel_rfl) (by kernel_rfl) (by kernel_rfl) (fun _ _ _ h => h) (Or.inl ⟨by rfl, ?_⟩) (by assumption) ?_
    rotate_left
    · intro w' hSw
      (try obtain x := hSw)
      go_simp
      all_goals with_reducible rfl
    (try simp only [Act.put, List.setIfInBounds_toArray, List.set_cons_zero, List.set_cons_succ, List.getElem_toArray, List.getElem_cons_zero, List.getElem_cons_succ])
    refine wpAnyH_take (i := 1) (oi := _) (v := ?_) rfl (by kernel_rfl) (by kernel_rfl) (by kernel_rfl) (fun _ _ _ h => h) (Or.inl ⟨by rfl, ?_⟩) (by assumption) ?_
    rotate_left
    · intro w' hSw
      (try obtain x := hSw)
      go_simp
      all_goals with_reducible rfl
    (try simp only [Act.put, List.setIfInBounds_toArray, List.set_cons_zero, List.set_cons_succ, List.getElem_toArray, List.getElem_cons_zero, List.getElem_cons_succ])
    refine wpAnyH_take (i := 2) (oi := _) (v := ?_) rfl (by kernel_rfl) (by kernel_rfl) (by kernel_rfl) (fun _ _ _ h => h) (Or.inl ⟨by rfl, ?_⟩) (by assumption) ?_
    rotate_left
    · intro w' hSw
      (try obtain x := hSw)
      go_simp
      all_goals with_reducible rfl
    (try simp only [Act.put, List.setIfInBounds_toArray, List.set_cons_zero, List.set_cons_succ, List.getElem_toArray, List.getElem_cons_zero, List.getElem_cons_succ])
    refine wpAnyH_take (i := 3) (oi := _) (v := ?_) rfl (by kernel_rfl) (by kernel_rfl) (by kernel_rfl) (fun _ _ _ h => h) (Or.inl ⟨by rfl, ?_⟩) (by assumption) ?_
    rotate_left
    · intro w' hSw
      (try obtain x := hSw)
      go_simp
      all_goals with_reducible rfl
    (try simp only [Act.put, List.setIfInBounds_toArray, List.set_cons_zero, List.set_cons_succ, List.getElem_toArray, List.getElem_cons_zero, List.getElem_cons_succ])
    refine wpAnyH_take (i := 5) (oi := _) (v := trV t) rfl (by kernel_rfl) (by kernel_rfl) (by kernel_rfl) (fun _ _ _ h => h) (yieldsIf_load_mid (by rfl) 63 (.tmp 10) rfl T 0 (by with_unfolding_all rfl) [.int .i64 t.k, .int .i64 t.tg, .int .i64 t.ac, .int .u64 t.a.mi, .int .u64 t.a.ho, .int .u64 t.a.da, .int .u64 t.a.mn, .int .u64 t.a.we, .bool t.a.ad, .bool t.a.aw, .int .u64 t.b.mi, .int .u64 t.b.ho, .int .u64 t.b.da, .int .u64 t.b.mn, .int .u64 t.b.we, .bool t.b.ad, .bool t.b.aw] _ (fun w h => h) Tryd.underlying63 rfl (by kernel_rfl)) (by assumption) ?_
    (try simp only [Act.put, List.setIfInBounds_toArray, List.set_cons_zero, List.set_cons_succ, List.getElem_toArray, List.getElem_cons_zero, List.getElem_cons_succ])
    refine wpAnyH_ready (rs := [4, 6]) (by kernel_rfl) (by simp) ?_
    refine AllReadyH.cons rfl (fun K hK => ?_) (AllReadyH.cons rfl (fun K hK => ?_) AllReadyH.nil)
    · go_simp
      refine hK.out _ _ ?_ (fun hHeld => ?_)
      · exact hR4
      clear hK K
      refine wpAnyH_ready (rs := [6]) (by kernel_rfl) (by simp) ?_
      refine AllReadyH.cons rfl (fun K hK => ?_) AllReadyH.nil
      · go_simp
        refine hK.out _ _ ?_ (fun hHeld => ?_)
        · first | exact RgT.alloc hR4 _ | exact RgT.alloc hR0 _
        clear hK K
        have hS6 : PS (w4.alloc (.cells (trC t) 63)).drew 63 N Q p ts v := HS4.out.below (bad1 w4 _)
        have hown6 := hS6.own
        refine wpAnyH_ready (rs := [7]) (by kernel_rfl) (by simp) ?_
        refine AllReadyH.cons rfl (fun K hK => ?_) AllReadyH.nil
        · refine step_own_at rfl (.tmp 226) (.tmp 228) 42 rfl N 63 i0 (.agg #[.int .i64 0, .int .i64 0, .int .i64 0, .int .u64 0, .int .u64 0, .int .u64 0, .int .u64 0, .int .u64 0, .bool false, .bool false, .int .u64 0, .int .u64 0, .int .u64 0, .int .u64 0, .int .u64 0, .bool false, .bool false]) 17 120 Tryd.underlying42 hi0 hz0 hz1 hz2 rfl (by decide) v ts.length (celT ts) rfl hown6 ⟨w4.heap.size, 0, none⟩ 1 1 (trC t).toList rfl rfl (cell17 _ _ t) (one17 t) (by unfold maxLen; omega) (by omega) (by simp; omega) ?_
          intro v' w7 hown7 hgrow7 hloc7
          have hR7 : RgT w7 T t := RgT.kept (w := (w4.alloc (.cells (trC t) 63)).drew) (RgT.alloc hR0 _) (hgrow7.block T (by simp; omega) (fun e => by have := HV.out _ e.symm; omega))
          have hQ7 := hgrow7.block Q hS6.lt (fun e => hS6.ne e.symm)
          have cS7 : w7.cell? ⟨Q, 17, none⟩ = some v := (World.cell?_of_block (w := (w4.alloc (.cells (trC t) 63)).drew) (a := ⟨Q, 17, none⟩) hQ7).trans (by simpa using hS6.cel 17)
          have fS7 : w7.frozen? ⟨Q, 17, none⟩ = false := (World.frozen?_of_block (w := (w4.alloc (.cells (trC t) 63)).drew) (a := ⟨Q, 17, none⟩) hQ7).trans (hS6.fz 17)
          have hA8 := hS6.appended hgrow7 (ts' := ts ++ [t]) (by rw [List.length_append, celT_snoc]; exact hown7) hloc7
          have hBf := (HB4.out.trans ((bad1 w4 (.cells (trC t) 63)).mono HS4.out.nN)).trans (hS6.grown_below hgrow7 v')
          obtain ⟨g7, cap7, rfl⟩ := own_succT hown7
          have hQ7l : Q < w7.heap.size := by have := hA8.lt; simpa using this
          refine hK.out _ _ ?_ (fun hHeld => ?_)
          · exact hR7
          clear hK K
          refine wpAnyH_take (i := 8) (oi := _) (v := ?_) rfl (by kernel_rfl) (by kernel_rfl) (by kernel_rfl) (fun _ _ _ h => h) (Or.inl ⟨by rfl, ?_⟩) (by assumption) ?_
          rotate_left
          · intro w' hSw
            (try obtain x := hSw)
            go_simp
            all_goals with_reducible rfl
          (try simp only [Act.put, List.setIfInBounds_toArray, List.set_cons_zero, List.set_cons_succ, List.getElem_toArray, List.getElem_cons_zero, List.getElem_cons_succ])
          refine wpAnyH_take (i := 9) (oi := _) (v := ?_) rfl (by kernel_rfl) (by kernel_rfl) (by kernel_rfl) (fun _ _ _ h => h) (Or.inl ⟨by rfl, ?_⟩) (by assumption) ?_
          rotate_left
          · intro w' hSw
            (try obtain x := hSw)
            go_simp
            all_goals with_reducible rfl
          (try simp only [Act.put, List.setIfInBounds_toArray, List.set_cons_zero, List.set_cons_succ, List.getElem_toArray, List.getElem_cons_zero, List.getElem_cons_succ])
          refine wpAnyH_ready (rs := [10]) (by kernel_rfl) (by simp) ?_
          refine AllReadyH.cons rfl (fun K hK => ?_) AllReadyH.nil
          · go_simp
            refine hK.out _ _ ?_ (fun hHeld => ?_)
            · exact hR7.kept (Below.heap_setCell w7 ⟨Q, 17, none⟩ _ T (by show T ≠ Q; omega))
            clear hK K
            refine wpAnyH_done (by kernel_rfl) ?_ _
            go_wp2
            go_ret
            rw [HZ.out]
            exact ⟨rfl, hBf, _, hA8⟩
    · go_simp
      refine hK.out _ _ ?_ (fun hHeld => ?_)
      · first | exact RgT.alloc hR4 _ | exact RgT.alloc hR0 _
      clear hK K
      refine wpAnyH_ready (rs := [4]) (by kernel_rfl) (by simp) ?_
      refine AllReadyH.cons rfl (fun K hK => ?_) AllReadyH.nil
      · go_simp
        refine hK.out _ _ ?_ (fun hHeld => ?_)
        · first | exact RgT.alloc hR4 _ | exact RgT.alloc hR0 _
        clear hK K
        have hS6 : PS (w4.alloc (.cells (trC t) 63)).drew 63 N Q p ts v := HS4.out.below (bad1 w4 _)
        have hown6 := hS6.own
        refine wpAnyH_ready (rs := [7]) (by kernel_rfl) (by simp) ?_
        refine AllReadyH.cons rfl (fun K hK => ?_) AllReadyH.nil
        · refine step_own_at rfl (.tmp 226) (.tmp 228) 42 rfl N 63 i0 (.agg #[.int .i64 0, .int .i64 0, .int .i64 0, .int .u64 0, .int .u64 0, .int .u64 0, .int .u64 0, .int .u64 0, .bool false, .bool false, .int .u64 0, .int .u64 0, .int .u64 0, .int .u64 0, .int .u64 0, .bool false, .bool false]) 17 120 Tryd.underlying42 hi0 hz0 hz1 hz2 rfl (by decide) v ts.length (celT ts) rfl hown6 ⟨w4.heap.size, 0, none⟩ 1 1 (trC t).toList rfl rfl (cell17 _ _ t) (one17 t) (by unfold maxLen; omega) (by omega) (by simp; omega) ?_
          intro v' w7 hown7 hgrow7 hloc7
          have hR7 : RgT w7 T t := RgT.kept (w := (w4.alloc (.cells (trC t) 63)).drew) (RgT.alloc hR0 _) (hgrow7.block T (by simp; omega) (fun e => by have := HV.out _ e.symm; omega))
          have hQ7 := hgrow7.block Q hS6.lt (fun e => hS6.ne e.symm)
          have cS7 : w7.cell? ⟨Q, 17, none⟩ = some v := (World.cell?_of_block (w := (w4.alloc (.cells (trC t) 63)).drew) (a := ⟨Q, 17, none⟩) hQ7).trans (by simpa using hS6.cel 17)
          have fS7 : w7.frozen? ⟨Q, 17, none⟩ = false := (World.frozen?_of_block (w := (w4.alloc (.cells (trC t) 63)).drew) (a := ⟨Q, 17, none⟩) hQ7).trans (hS6.fz 17)
          have hA8 := hS6.appended hgrow7 (ts' := ts ++ [t]) (by rw [List.length_append, celT_snoc]; exact hown7) hloc7
          have hBf := (HB4.out.trans ((bad1 w4 (.cells (trC t) 63)).mono HS4.out.nN)).trans (hS6.grown_below hgrow7 v')
          obtain ⟨g7, cap7, rfl⟩ := own_succT hown7
          have hQ7l : Q < w7.heap.size := by have := hA8.lt; simpa using this
          refine hK.out _ _ ?_ (fun hHeld => ?_)
          · exact hR7
          clear hK K
          refine wpAnyH_take (i := 8) (oi := _) (v := ?_) rfl (by kernel_rfl) (by kernel_rfl) (by kernel_rfl) (fun _ _ _ h => h) (Or.inl ⟨by rfl, ?_⟩) (by assumption) ?_
          rotate_left
          · intro w' hSw
            (try obtain x := hSw)
            go_simp
            all_goals with_reducible rfl
          (try simp only [Act.put, List.setIfInBounds_toArray, List.set_cons_zero, List.set_cons_succ, List.getElem_toArray, List.getElem_cons_zero, List.getElem_cons_succ])
          refine wpAnyH_take (i := 9) (oi := _) (v := ?_) rfl (by kernel_rfl) (by kernel_rfl) (by kernel_rfl) (fun _ _ _ h => h) (Or.inl ⟨by rfl, ?_⟩) (by assumption) ?_
          rotate_left
          · intro w' hSw
            (try obtain x := hSw)
            go_simp
            all_goals with_reducible rfl
          (try simp only [Act.put, List.setIfInBounds_toArray, List.set_cons_zero, List.set_cons_succ, List.getElem_toArray, List.getElem_cons_zero, List.getElem_cons_succ])
          refine wpAnyH_ready (rs := [10]) (by kernel_rfl) (by simp) ?_
          refine AllReadyH.cons rfl (fun K hK => ?_) AllReadyH.nil
          · go_simp
            refine hK.out _ _ ?_ (fun hHeld => ?_)
            · exact hR7.kept (Below.heap_setCell w7 ⟨Q, 17, none⟩ _ T (by show T ≠ Q; omega))
            clear hK K
            refine wpAnyH_done (by kernel_rfl) ?_ _
            go_wp2
            go_ret
            rw [HZ.out]
            exact ⟨rfl, hBf, _, hA8⟩
end Pln
end Go.Proofs.YtcfncgjpbdkagabDoor
namespace Go.Proofs.YtcfncgjpbdkagabDoor
namespace Pln
open Go.RowKit Lai Civ Crn Pie
set_option maxRecDepth 8000

theorem ba_inj {a b : List UInt8} (h : (⟨a.toArray⟩ : ByteArray) = ⟨b.toArray⟩) : a = b := by
  have := congrArg (fun z : ByteArray => z.data.toList) h
  simpa using this
theorem ba_getD (ws : List (List UInt8)) {j : Nat} {y : List UInt8} (h : ws[j]? = some y) : (ws.map fun x => (⟨x.toArray⟩ : ByteArray)).getD j ByteArray.empty = ⟨y.toArray⟩ := by
  rw [List.getD_eq_getElem?_getD, List.getElem?_map, h]; rfl
/-- slices.Index of the word `/` -/
theorem idx_none {ws : List (List UInt8)} (h : [47] ∉ ws) : Lib.idxOfS (ws.map fun x => (⟨x.toArray⟩ : ByteArray)) ⟨#[47]⟩ = -1 := by
  have := Lib.idxOfS_miss (ws.map fun x => (⟨x.toArray⟩ : ByteArray)) ws.length ⟨#[47]⟩ (fun j hj e => by
    rw [ba_getD ws (List.getElem?_eq_getElem hj)] at e
    have e2 : ws[j] = [47] := ba_inj e
    exact h (e2 ▸ List.getElem_mem hj))
  rwa [List.take_of_length_le (by simp)] at this
theorem idx_hit {xs ys : List (List UInt8)} (h : [47] ∉ xs) : Lib.idxOfS ((xs ++ [47] :: ys).map fun x => (⟨x.toArray⟩ : ByteArray)) ⟨#[47]⟩ = xs.length := by
  have := Lib.idxOfS_hit ((xs ++ [47] :: ys).map fun x => (⟨x.toArray⟩ : ByteArray)) (xs ++ [47] :: ys).length xs.length ⟨#[47]⟩ (by simp) (by simp) (ba_getD _ (by simp)) (fun j hj e => by
    rw [ba_getD (xs ++ [47] :: ys) (y := xs[j]) (by rw [List.getElem?_append_left hj, List.getElem?_eq_getElem hj])] at e
    have e2 : xs[j] = [47] := ba_inj e
    exact h (e2 ▸ List.getElem_mem hj))
  rwa [List.take_of_length_le (by simp)] at this
/-- where a span's line has its `/` -/
theorem idx_cases (rd : List UInt8 → Option K) (r : List (List UInt8)) :
    (Lib.idxOfS ((wSpan :: r).map fun x => (⟨x.toArray⟩ : ByteArray)) ⟨#[47]⟩ < 2 ∧ spanS rd r = none) ∨
    ∃ t xs ys, r = t :: (xs ++ [47] :: ys) ∧ Lib.idxOfS ((wSpan :: r).map fun x => (⟨x.toArray⟩ : ByteArray)) ⟨#[47]⟩ = 2 + xs.length ∧
      ((num7 t = none ∧ spanS rd r = none) ∨ ∃ n, num7 t = some n ∧ ((both (rd (Lib.join xs [32])) (rd (Lib.join ys [32])) = none ∧ spanS rd r = none) ∨ ∃ a b, rd (Lib.join xs [32]) = some a ∧ rd (Lib.join ys [32]) = some b ∧ spanS rd r = some ⟨3, n, 0, a, b⟩)) := by
  cases r with
  | nil => exact Or.inl ⟨by rw [idx_none (by simp)]; decide, rfl⟩
  | cons t rest =>
    by_cases ht : t = [47]
    · subst ht
      refine Or.inl ⟨?_, ?_⟩
      · have := idx_hit (xs := [wSpan]) (ys := rest) (by simp)
        simp only [List.cons_append, List.nil_append, List.length_cons, List.length_nil] at this
        rw [this]; decide
      · unfold spanS
        dsimp only
        rw [show num7 [47] = none from rfl]
    · rcases cutW_cases rest with h | ⟨xs, ys, rfl, h⟩
      · refine Or.inl ⟨?_, ?_⟩
        · rw [idx_none (by simp [h]; exact fun e => ht e.symm)]; decide
        · unfold spanS
          dsimp only
          unfold spanC
          rw [cutW_none h]
          cases num7 t <;> rfl
      · right
        refine ⟨t, xs, ys, rfl, ?_, ?_⟩
        · have := idx_hit (xs := wSpan :: t :: xs) (ys := ys) (by simp [h]; exact fun e => ht e.symm)
          simp only [List.cons_append, List.length_cons] at this
          rw [this]; push_cast; omega
        · have hs : spanC rd (xs ++ [47] :: ys) = both (rd (Lib.join xs [32])) (rd (Lib.join ys [32])) := by unfold spanC; rw [cutW_hit h]
          unfold spanS
          dsimp only
          rw [hs]
          cases num7 t with
          | none => exact Or.inl ⟨rfl, rfl⟩
          | some n =>
            refine Or.inr ⟨n, rfl, ?_⟩
            cases h1 : rd (Lib.join xs [32]) with
            | none => exact Or.inl ⟨rfl, rfl⟩
            | some a =>
              cases h2 : rd (Lib.join ys [32]) with
              | none => exact Or.inl ⟨rfl, rfl⟩
              | some b => exact Or.inr ⟨a, b, rfl, rfl, rfl⟩
theorem index_tx (ws : List (List UInt8)) (B cv : Nat) (w : World) (hW : TxAt w B 0 ws) (hl : ws.length ≤ 3000) :
    Calls Tryd.prog 71 #[.slice (some ⟨B, 0, none⟩) ws.length cv, .string ⟨#[47]⟩] w fun e w' => e = .returned (.int .i64 (Lib.idxOfS (ws.map fun x => (⟨x.toArray⟩ : ByteArray)) ⟨#[47]⟩)) ∧ w' = w := by
  have := Tryd.slices_Index_string B 0 ws.length cv (ws.map fun x => (⟨x.toArray⟩ : ByteArray)) ⟨#[47]⟩ w (by simp) (by omega) (fun j hj => by
    rw [List.length_map] at hj
    rw [List.getD_eq_getElem?_getD, List.getElem?_map, List.getElem?_eq_getElem hj]
    exact hW.2 j _ (List.getElem?_eq_getElem hj))
  rw [List.take_of_length_le (by simp)] at this
  exact this
/-- ReadCron by rd -/
theorem rcr_any {rd : List UInt8 → Option K} (hrd : RdOk rd) (s : List UInt8) (w : World) :
    Calls Tryd.prog 72 #[strV s] w fun e w' => (∃ c E, RdAns rd s c E ∧ e = .returned (.tuple #[kV c, .int .i64 E])) ∧ Below w.heap.size w w' := by
  refine (rc_any s w).mono fun e w' h => ⟨?_, h.2⟩
  cases hr : rd s with
  | none =>
    obtain ⟨E, hE, g⟩ := hrd.no s hr
    exact ⟨k0, E, Or.inr ⟨hr, by omega⟩, g e h.1⟩
  | some c =>
    obtain ⟨_, _, _, g⟩ := hrd.yes s c hr
    exact ⟨c, 0, Or.inl ⟨hr, rfl⟩, g e h.1⟩
end Pln
end Go.Proofs.YtcfncgjpbdkagabDoor
