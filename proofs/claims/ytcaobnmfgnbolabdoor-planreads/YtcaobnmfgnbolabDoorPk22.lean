/- What the document's answer (tideref) says of a line of a plan's text: planLine, what a trigger wants. What the document's answer (tideref) says of a line of a plan's text: planLine, a trigger by numbers. What the document's answer (tideref) says of a span's line: where its `/` stands, its crons. What the document's answer (tideref) says of a line of a plan's text: planLine, a span. -/
import Derived.Test.YtcaobnmfgnbolabDoorPk10
import Derived.Test.YtcaobnmfgnbolabDoorPk19
import Derived.Test.YtcaobnmfgnbolabDoorPk21
import Derived.Deep.RegionHeld
import Derived.Deep.RegionLaw
import Derived.Lib.SliceRun
import Derived.Lib.SlicesS
namespace Go.Proofs.YtcaobnmfgnbolabDoor
namespace Pln
open Go.RowKit Lai Civ Crn Pie
set_option maxRecDepth 8000
set_option linter.unusedVariables false

/-- a trigger is laid into a block, by one step of a walk -/
theorem TS.put {w : World} {T : Nat} {t t' : Tr} (h : TS w T t) : TS (w.setCells T 0 (trC t').toList) T t' :=
  h.turn (OnlyQ.sets T _ _ _) (by
    have e : setRow (trC t) 0 (trC t').toList = trC t' := by simp [setRow]
    have := cells_sets (trC t').toList 0 h.cel (by simp)
    rw [e] at this
    exact this)
theorem wp_putTr {ops : Array Oper} {rest : List Oper} {x y : Operand} {ps : String} {af : Array Edge} {A : Act} {Q : Exit → Act → World → Prop} {w : World} {T : Nat} {t t' : Tr} (h : TS w T t) (hx : A.eval x = .pointer (some ⟨T, 0, none⟩)) (hy : A.eval y = trV t')
    (g : ∀ w', TS w' T t' → OnlyQ T w w' → wpList Tryd.prog ops Q rest (A.put none undef) w') :
    wpList Tryd.prog ops Q ({ dst := none, op := .store 55 x y, type := 0, pos := ps, after := af, guard := none } :: rest) A w :=
  wpList_store_mid rfl 55 x y rfl T 0 (trC t') hx hy (h.there 0 17 (by decide)) (by kernel_rfl) (by simp [Value.oneCell']) (g _ h.put (OnlyQ.sets T _ _ _))
def Ns2 (g : Nat) (a b : Int) (w : World) : Prop := w.cell? ⟨g, 0, none⟩ = some (.int .i64 a) ∧ w.cell? ⟨g, 1, none⟩ = some (.int .i64 b)
theorem Ns2.below {g n : Nat} {a b : Int} {w w' : World} (h : Ns2 g a b w) (hb : Below n w w') (hg : g < n) : Ns2 g a b w' := ⟨(hb.cell (p := ⟨g, 0, none⟩) hg).trans h.1, (hb.cell (p := ⟨g, 1, none⟩) hg).trans h.2⟩
/-- wholes of two words, of one -/
theorem two_wh (r : List (List UInt8)) (B o cap : Nat) (w : World) (hW : TxAt w B o r) (hr : r.length ≤ 3000) (hx : ∀ x ∈ r, x.length ≤ 3000) :
    (two r = none ∧ Calls Tryd.prog 85 #[.slice (some ⟨B, o, none⟩) r.length cap, .int .i64 2, .int .i64 7] w fun e w' => e = .returned (.slice none 0 0) ∧ Below w.heap.size w w') ∨
    ∃ a b, two r = some (a, b) ∧ Calls Tryd.prog 85 #[.slice (some ⟨B, o, none⟩) r.length cap, .int .i64 2, .int .i64 7] w fun e w' => (∃ g k, e = .returned (.slice (some ⟨g, 0, none⟩) 2 k) ∧ w.heap.size ≤ g ∧ g < w'.heap.size ∧ Ns2 g a b w') ∧ Below w.heap.size w w' := by
  have c0 := rwholes r 2 B o cap w hW (by decide) (by decide) hr hx
  cases hB : NsB 2 r
  · refine Or.inl ⟨two_no hB, c0.mono fun e w' h => ⟨?_, h.1⟩⟩
    rcases h.2 with ⟨_, q⟩ | ⟨q, _⟩
    · exact q
    · rw [hB] at q; cases q
  · obtain ⟨hl, hn⟩ := nsB_iff hB
    match r, hl with
    | [x, y], _ =>
      obtain ⟨a, ha⟩ := hn x (by simp)
      obtain ⟨b, hb⟩ := hn y (by simp)
      refine Or.inr ⟨a, b, by unfold two; dsimp only; rw [ha, hb], c0.mono fun e w' h => ⟨?_, h.1⟩⟩
      rcases h.2 with ⟨q, _⟩ | ⟨_, g, k, ns, he, hl, hg, hc1, hc2, hc3⟩
      · rw [hB] at q; cases q
      · exact ⟨g, k, he, hc3, hg, hc1 0 a ((hc2 0 x rfl).symm.trans ha), hc1 1 b ((hc2 1 y rfl).symm.trans hb)⟩
theorem one_wh (x : List UInt8) (B o cap : Nat) (w : World) (hW : TxAt w B o [x]) (hx : x.length ≤ 3000) :
    (num7 x = none ∧ Calls Tryd.prog 85 #[.slice (some ⟨B, o, none⟩) 1 cap, .int .i64 1, .int .i64 7] w fun e w' => e = .returned (.slice none 0 0) ∧ Below w.heap.size w w') ∨
    ∃ a, num7 x = some a ∧ Calls Tryd.prog 85 #[.slice (some ⟨B, o, none⟩) 1 cap, .int .i64 1, .int .i64 7] w fun e w' => (∃ g k, e = .returned (.slice (some ⟨g, 0, none⟩) 1 k) ∧ w.heap.size ≤ g ∧ g < w'.heap.size ∧ w'.cell? ⟨g, 0, none⟩ = some (.int .i64 a)) ∧ Below w.heap.size w w' := by
  have c0 := rwholes [x] 1 B o cap w hW (by decide) (by decide) (by simp) (by simpa using hx)
  cases hB : NsB 1 [x]
  · refine Or.inl ⟨one_no hB, c0.mono fun e w' h => ⟨?_, h.1⟩⟩
    rcases h.2 with ⟨_, q⟩ | ⟨q, _⟩
    · exact q
    · rw [hB] at q; cases q
  · obtain ⟨_, hn⟩ := nsB_iff hB
    obtain ⟨a, ha⟩ := hn x (by simp)
    refine Or.inr ⟨a, ha, c0.mono fun e w' h => ⟨?_, h.1⟩⟩
    rcases h.2 with ⟨q, _⟩ | ⟨_, g, k, ns, he, hl, hg, hc1, hc2, hc3⟩
    · rw [hB] at q; cases q
    · exact ⟨g, k, he, hc3, hg, hc1 0 a ((hc2 0 x rfl).symm.trans ha)⟩
end Pln
end Go.Proofs.YtcaobnmfgnbolabDoor
namespace Go.Proofs.YtcaobnmfgnbolabDoor
namespace Pln
open Go.RowKit Lai Civ Crn Pie
set_option maxRecDepth 8000
set_option linter.unusedSimpArgs false
set_option linter.unusedVariables false

/-- a block that the plan does not hold has turned -/
theorem PS.apart {w w' : World} {e : TypeId} {N Q R : Nat} {p : Pd} {ts : List Tr} {v : Value} (h : PS w e N Q p ts v) (o : OnlyQ R w w') (hR : Q ≠ R) (hv : v.ownBlock ≠ some R) : PS w' e N Q p ts v := by
  have hQ : w'.heap[Q]? = w.heap[Q]? := o.block Q h.lt hR
  exact ⟨Nat.lt_of_lt_of_le h.lt o.size, h.bQ, fun j => (World.cell?_of_block (w := w) (a := ⟨Q, j, none⟩) hQ).trans (h.cel j), fun j => (World.frozen?_of_block (w := w) (a := ⟨Q, j, none⟩) hQ).trans (h.fz j), owns_blockT h.own (fun g hg => o.block g (h.own.lt g hg).2 (fun e => hv (e ▸ hg))), h.ne⟩
set_option maxHeartbeats 4000000 in
theorem rl4_lag (rd : List UInt8 → Option K) (i : Nat) (hi : 4 ≤ i) (hi2 : i ≤ 10000) (r : List (List UInt8)) (B cv N Q : Nat) (p : Pd) (ts : List Tr) (v : Value) (w : World) (hS : PS w 55 N Q p ts v) (hts : ts.length ≤ 10000) (hW : TxAt w B 0 (wLag :: r)) (hBQ : B ≠ Q) (hcv : r.length + 1 ≤ cv) (hr : r.length + 1 ≤ 3000) (hx : ∀ y ∈ r, y.length ≤ 3000) :
    Calls Tryd.prog 47 #[.pointer (some ⟨Q, 0, none⟩), .int .i64 i, .slice (some ⟨B, 0, none⟩) (r.length + 1) cv] w fun e w' => LineR 55 N Q w ((trS rd wLag r).map fun t => (p, ts ++ [t])) e w' := by
  obtain ⟨i0, hi0, hz0, hz1, hz2⟩ := info_parts info_trg
  obtain ⟨o2, hif, hW2⟩ := hW.cut hcv
  obtain ⟨z, hz⟩ : ∃ z, z = ((trS rd wLag r).map fun t => (p, ts ++ [t])) := ⟨_, rfl⟩
  rw [← hz]
  have HZ0 : Hid (z = ((two r).map fun q => (⟨1, q.1, q.2, k0, k0⟩ : Tr)).map fun t => (p, ts ++ [t])) := by
    unfold Hid
    rw [hz]
    unfold trS
    rw [if_pos rfl]
  clear hz
  have qN : ∀ (w : World) (a : Option Addr) (n c : Nat), (binOp .eql 56 (.slice a n c) (.slice none 0 0)).run Tryd.prog w = .ok (.bool a.isNone) w := fun w a n c => Lib.run_eql_slice_nil w _ _ a n c 0 0 Tryd.underlying56
  have cx : w.cell? ⟨B, 0, none⟩ = some (strV wLag) := hW.2 0 _ rfl
  have n0 : ((i : Int) == 0) = false := by rw [beq_eq_false_iff_ne]; omega
  have n1 : ((i : Int) == 1) = false := by rw [beq_eq_false_iff_ne]; omega
  have n2 : ((i : Int) == 2) = false := by rw [beq_eq_false_iff_ne]; omega
  have n3 : ((i : Int) == 3) = false := by rw [beq_eq_false_iff_ne]; omega
  have hBl := hW.1
  have hBn : ¬ B = w.heap.size := by omega
  have hQl := hS.lt
  have hNn := hS.nN
  have HV0 : Hid (∀ g, v.ownBlock = some g → g < w.heap.size) := fun g hg => (hS.own.lt g hg).2
  have HS : Hid (PS w 55 N Q p ts v) := hS
  have hb0 : Below w.heap.size w (w.alloc (.cells #[.int .i64 0, .int .i64 0, .int .i64 0, .int .u64 0, .int .u64 0, .int .u64 0, .int .u64 0, .int .u64 0, .bool false, .bool false, .int .u64 0, .int .u64 0, .int .u64 0, .int .u64 0, .int .u64 0, .bool false, .bool false] 55)) := balloc _
  have hT0 := tz w 55 0
  have c0 := two_wh r B o2 (cv - 1) (w.alloc (.cells #[.int .i64 0, .int .i64 0, .int .i64 0, .int .u64 0, .int .u64 0, .int .u64 0, .int .u64 0, .int .u64 0, .bool false, .bool false, .int .u64 0, .int .u64 0, .int .u64 0, .int .u64 0, .int .u64 0, .bool false, .bool false] 55)) (hW2.below hb0 hBl) (by omega) hx
  generalize hWq : (w.alloc (.cells #[.int .i64 0, .int .i64 0, .int .i64 0, .int .u64 0, .int .u64 0, .int .u64 0, .int .u64 0, .int .u64 0, .bool false, .bool false, .int .u64 0, .int .u64 0, .int .u64 0, .int .u64 0, .int .u64 0, .bool false, .bool false] 55)) = Wq at *
  have HWq : Hid ((w.alloc (.cells #[.int .i64 0, .int .i64 0, .int .i64 0, .int .u64 0, .int .u64 0, .int .u64 0, .int .u64 0, .int .u64 0, .bool false, .bool false, .int .u64 0, .int .u64 0, .int .u64 0, .int .u64 0, .int .u64 0, .bool false, .bool false] 55)) = Wq) := hWq
  have hsq := hb0.size
  have hTl0 := hT0.lt
  have hWN : Below N w Wq := hb0.mono hNn
  clear hW hx hi hWq hW2 hS
  rcases c0 with ⟨hf, c0⟩ | ⟨a, b, hf, c0⟩
  · rw [hf] at HZ0
    go_enter Tryd.func47, Tryd.ntmps47
    go_wp2_with (go_at_call 85; rw [HWq.out]; (with_reducible refine c0.mono ?_); rintro e w1 ⟨rfl, hb1⟩)
    go_ret
    rw [HZ0.out]
    exact ⟨rfl, hWN.trans (hb1.mono (by omega))⟩
  · rw [hf] at HZ0
    go_enter Tryd.func47, Tryd.ntmps47
    go_wp2_with (go_at_call 85; rw [HWq.out]; (with_reducible refine c0.mono ?_); rintro e w1 ⟨⟨g, k, rfl, hg0, hg1, hn2⟩, hb1⟩; have hT1 := hT0.below hb1; have hs1 := hb1.size; have cx1 : w1.cell? ⟨B, 0, none⟩ = some (strV wLag) := (hb1.cell (p := ⟨B, 0, none⟩) (by show B < _; omega)).trans ((hb0.cell (p := ⟨B, 0, none⟩) hBl).trans cx))
    have hS1 := (HS.out.below hb0).below hb1
    have hw1 : Below N w w1 := hWN.trans (hb1.mono (by omega))
    have HS1 : Hid (PS w1 55 N Q p ts v) := hS1
    have HW1 : Hid (Below N w w1) := hw1
    have hT1d : TS w1.drew w.heap.size ⟨0, 0, 0, k0, k0⟩ := hT1.below ((Below.refl _ _).drew)
    have hgT : g ≠ w.heap.size := by omega
    clear hS1 hw1 c0 cx
    refine wp_region_held_drew (S := fun w' => Ns2 g a b w') (by kernel_rfl) hn2 (fun hHeld => ?_)
    refine wpAnyH_take (i := 0) (oi := _) (v := ?_) rfl (by kernel_rfl) (by kernel_rfl) (by kernel_rfl) (fun _ _ _ h => h) (Or.inl ⟨by rfl, ?_⟩) (by assumption) ?_
    rotate_left
    · intro w' hSw
      (try obtain ⟨q0, q1⟩ := hSw)
      go_simp
      all_goals with_reducible rfl
    (try simp only [Act.put, List.setIfInBounds_toArray, List.set_cons_zero, List.set_cons_succ, List.getElem_toArray, List.getElem_cons_zero, List.getElem_cons_succ])
    refine wpAnyH_take (i := 1) (oi := _) (v := ?_) rfl (by kernel_rfl) (by kernel_rfl) (by kernel_rfl) (fun _ _ _ h => h) (Or.inl ⟨by rfl, ?_⟩) (by assumption) ?_
    rotate_left
    · intro w' hSw
      (try obtain ⟨q0, q1⟩ := hSw)
      go_simp
      all_goals with_reducible rfl
    (try simp only [Act.put, List.setIfInBounds_toArray, List.set_cons_zero, List.set_cons_succ, List.getElem_toArray, List.getElem_cons_zero, List.getElem_cons_succ])
    refine wpAnyH_take (i := 2) (oi := _) (v := ?_) rfl (by kernel_rfl) (by kernel_rfl) (by kernel_rfl) (fun _ _ _ h => h) (Or.inl ⟨by rfl, ?_⟩) (by assumption) ?_
    rotate_left
    · intro w' hSw
      (try obtain ⟨q0, q1⟩ := hSw)
      go_simp
      all_goals with_reducible rfl
    (try simp only [Act.put, List.setIfInBounds_toArray, List.set_cons_zero, List.set_cons_succ, List.getElem_toArray, List.getElem_cons_zero, List.getElem_cons_succ])
    refine wpAnyH_take (i := 3) (oi := _) (v := ?_) rfl (by kernel_rfl) (by kernel_rfl) (by kernel_rfl) (fun _ _ _ h => h) (Or.inl ⟨by rfl, ?_⟩) (by assumption) ?_
    rotate_left
    · intro w' hSw
      (try obtain ⟨q0, q1⟩ := hSw)
      go_simp
      all_goals with_reducible rfl
    (try simp only [Act.put, List.setIfInBounds_toArray, List.set_cons_zero, List.set_cons_succ, List.getElem_toArray, List.getElem_cons_zero, List.getElem_cons_succ])
    refine wpAnyH_take (i := 4) (oi := _) (v := ?_) rfl (by kernel_rfl) (by kernel_rfl) (by kernel_rfl) (fun _ _ _ h => h) (Or.inl ⟨by rfl, ?_⟩) (by assumption) ?_
    rotate_left
    · intro w' hSw
      (try obtain ⟨q0, q1⟩ := hSw)
      go_simp
      all_goals with_reducible rfl
    (try simp only [Act.put, List.setIfInBounds_toArray, List.set_cons_zero, List.set_cons_succ, List.getElem_toArray, List.getElem_cons_zero, List.getElem_cons_succ])
    refine wpAnyH_take (i := 5) (oi := _) (v := ?_) rfl (by kernel_rfl) (by kernel_rfl) (by kernel_rfl) (fun _ _ _ h => h) (Or.inl ⟨by rfl, ?_⟩) (by assumption) ?_
    rotate_left
    · intro w' hSw
      (try obtain ⟨q0, q1⟩ := hSw)
      go_simp
      all_goals with_reducible rfl
    (try simp only [Act.put, List.setIfInBounds_toArray, List.set_cons_zero, List.set_cons_succ, List.getElem_toArray, List.getElem_cons_zero, List.getElem_cons_succ])
    refine wpAnyH_take (i := 6) (oi := _) (v := ?_) rfl (by kernel_rfl) (by kernel_rfl) (by kernel_rfl) (fun _ _ _ h => h) (Or.inl ⟨by rfl, ?_⟩) (by assumption) ?_
    rotate_left
    · intro w' hSw
      (try obtain ⟨q0, q1⟩ := hSw)
      go_simp
      all_goals with_reducible rfl
    (try simp only [Act.put, List.setIfInBounds_toArray, List.set_cons_zero, List.set_cons_succ, List.getElem_toArray, List.getElem_cons_zero, List.getElem_cons_succ])
    refine wpAnyH_ready (rs := [7]) (by kernel_rfl) (by simp) ?_
    refine AllReadyH.cons rfl (fun K hK => ?_) AllReadyH.nil
    rw [if_pos (by rfl)]
    refine wp_store_mid 55 (.tmp 10) (.tmp 173) rfl w.heap.size 0 (trC ⟨2, a, b, k0, k0⟩) (by with_unfolding_all rfl) (by with_unfolding_all rfl) (hT1d.there 0 17 (by decide)) (by kernel_rfl) (by simp [Value.oneCell']) ?_
    have hT2 : TS (w1.drew.setCells w.heap.size 0 (trC ⟨2, a, b, k0, k0⟩).toList) w.heap.size ⟨2, a, b, k0, k0⟩ := hT1d.put
    have hO2 : OnlyQ w.heap.size w1 (w1.drew.setCells w.heap.size 0 (trC ⟨2, a, b, k0, k0⟩).toList) := (OnlyQ.of_below ((Below.refl _ _).drew) hT1.lt).trans (OnlyQ.sets _ _ _ _)
    generalize w1.drew.setCells w.heap.size 0 (trC ⟨2, a, b, k0, k0⟩).toList = w2 at *
    refine hK.out _ _ ?_ (fun hHeld => ?_)
    · exact ⟨(hO2.cell (a := ⟨g, 0, none⟩) hg1 hgT).trans hn2.1, (hO2.cell (a := ⟨g, 1, none⟩) hg1 hgT).trans hn2.2⟩
    clear hK K
    (try simp only [Act.put, List.setIfInBounds_toArray, List.set_cons_zero, List.set_cons_succ, List.getElem_toArray, List.getElem_cons_zero, List.getElem_cons_succ])
    refine wpAnyH_done (by kernel_rfl) ?_ _
    have cx2 : w2.cell? ⟨B, 0, none⟩ = some (strV wLag) := (hO2.cell (a := ⟨B, 0, none⟩) (by show B < _; omega) hBn).trans cx1
    clear hHeld cx1 hT1d hT1
    have hT3 := hT2.setK 1
    have hO3 : OnlyQ w.heap.size w1 (w2.setCell ⟨w.heap.size, 0, none⟩ (.int .i64 1)) := hO2.trans (OnlyQ.set _ _ _ _)
    have kT0 : w2.cell? ⟨w.heap.size, 0, none⟩ = some (.int .i64 2) := by simpa using hT2.cel 0
    have fT0 := hT2.fz 0
    have hT2l := hT2.lt
    clear hT2
    go_wp2_with fail
    generalize w2.setCell ⟨w.heap.size, 0, none⟩ (.int .i64 1) = w4 at *
    have hT4 : TS w4 w.heap.size ⟨1, a, b, k0, k0⟩ := hT3
    have hO4 := hO3
    have hS4 : PS w4 55 N Q p ts v := HS1.out.apart hO4 (by omega) (fun e => by have := HV0.out _ e; omega)
    have HS4 : Hid (PS w4 55 N Q p ts v) := hS4
    have HB4 : Hid (Below N w w4) := HW1.out.trans (hO4.below hNn (by omega))
    have HV : Hid (∀ g, v.ownBlock = some g → g < w.heap.size) := HV0.out
    have HZ : Hid (z = some (p, ts ++ [(⟨1, a, b, k0, k0⟩ : Tr)])) := HZ0.out
    generalize (⟨1, a, b, k0, k0⟩ : Tr) = t at *
    generalize w.heap.size = T at *
    have hTl := hT4.lt
    have hR0 : RgT w4 T t := range_tr hT4.at
    have hR4 : RgT w4.drew T t := hR0
    have cS : w4.cell? ⟨Q, 17, none⟩ = some v := by simpa using HS4.out.cel 17
    have hQ4l : Q < w4.heap.size := HS4.out.lt
    have hQ4n : ¬ Q = w4.heap.size := by omega
    clear hT4
    refine wp_region_held_drew (S := fun w' => RgT w' T t) (by kernel_rfl) hR4 (fun hHeld => ?_)
    refine wpAnyH_take (i := 0) (oi := _) (v := ?_) rfl (by kernel_rfl) (by kernel_rfl) (by kernel_rfl) (fun _ _ _ h => h) (Or.inl ⟨by rfl, ?_⟩) (by assumption) ?_
    rotate_left
    · intro w' hSw
      (try obtain x := hSw)
      go_simp
      all_goals with_reducible rfl
    (try simp only [Act.put, List.setIfInBounds_toArray, List.set_cons_zero, List.set_cons_succ, List.getElem_toArray, List.getElem_cons_zero, List.getElem_cons_succ])
    refine wpAnyH_take (i := 1) (oi := _) (v := ?_) rfl (by kernel_rfl) (by kernel_rfl) (by kernel_rfl) (fun _ _ _ h => h) (Or.inl ⟨by rfl, ?_⟩) (by assumption) ?_
    rotate_left
    · intro w' hSw
      (try obtain x := hSw)
      go_simp
      all_goals with_reducible rfl
    (try simp only [Act.put, List.setIfInBounds_toArray, List.set_cons_zero, List.set_cons_succ, List.getElem_toArray, List.getElem_cons_zero, List.getElem_cons_succ])
    refine wpAnyH_take (i := 2) (oi := _) (v := ?_) rfl (by kernel_rfl) (by kernel_rfl) (by kernel_rfl) (fun _ _ _ h => h) (Or.inl ⟨by rfl, ?_⟩) (by assumption) ?_
    rotate_left
    · intro w' hSw
      (try obtain x := hSw)
      go_simp
      all_goals with_reducible rfl
    (try simp only [Act.put, List.setIfInBounds_toArray, List.set_cons_zero, List.set_cons_succ, List.getElem_toArray, List.getElem_cons_zero, List.getElem_cons_succ])
    refine wpAnyH_take (i := 3) (oi := _) (v := ?_) rfl (by kernel_rfl) (by kernel_rfl) (by kernel_rfl) (fun _ _ _ h => h) (Or.inl ⟨by rfl, ?_⟩) (by assumption) ?_
    rotate_left
    · intro w' hSw
      (try obtain x := hSw)
      go_simp
      all_goals with_reducible rfl
    (try simp only [Act.put, List.setIfInBounds_toArray, List.set_cons_zero, List.set_cons_succ, List.getElem_toArray, List.getElem_cons_zero, List.getElem_cons_succ])
    refine wpAnyH_take (i := 5) (oi := _) (v := trV t) rfl (by kernel_rfl) (by kernel_rfl) (by kernel_rfl) (fun _ _ _ h => h) (yieldsIf_load_mid (by rfl) 55 (.tmp 10) rfl T 0 (by with_unfolding_all rfl) [.int .i64 t.k, .int .i64 t.tg, .int .i64 t.ac, .int .u64 t.a.mi, .int .u64 t.a.ho, .int .u64 t.a.da, .int .u64 t.a.mn, .int .u64 t.a.we, .bool t.a.ad, .bool t.a.aw, .int .u64 t.b.mi, .int .u64 t.b.ho, .int .u64 t.b.da, .int .u64 t.b.mn, .int .u64 t.b.we, .bool t.b.ad, .bool t.b.aw] _ (fun w h => h) Tryd.underlying55 rfl (by kernel_rfl)) (by assumption) ?_
    (try simp only [Act.put, List.setIfInBounds_toArray, List.set_cons_zero, List.set_cons_succ, List.getElem_toArray, List.getElem_cons_zero, List.getElem_cons_succ])
    refine wpAnyH_ready (rs := [4, 6]) (by kernel_rfl) (by simp) ?_
    refine AllReadyH.cons rfl (fun K hK => ?_) (AllReadyH.cons rfl (fun K hK => ?_) AllReadyH.nil)
    · go_simp
      refine hK.out _ _ ?_ (fun hHeld => ?_)
      · exact hR4
      clear hK K
      refine wpAnyH_ready (rs := [6]) (by kernel_rfl) (by simp) ?_
      refine AllReadyH.cons rfl (fun K hK => ?_) AllReadyH.nil
      · go_simp
        refine hK.out _ _ ?_ (fun hHeld => ?_)
        · first | exact RgT.alloc hR4 _ | exact RgT.alloc hR0 _
        clear hK K
        have hS6 : PS (w4.alloc (.cells (trC t) 55)).drew 55 N Q p ts v := HS4.out.below (bad1 w4 _)
        have hown6 := hS6.own
        refine wpAnyH_ready (rs := [7]) (by kernel_rfl) (by simp) ?_
        refine AllReadyH.cons rfl (fun K hK => ?_) AllReadyH.nil
        · refine step_own_at rfl (.tmp 226) (.tmp 228) 42 rfl N 55 i0 (.agg #[.int .i64 0, .int .i64 0, .int .i64 0, .int .u64 0, .int .u64 0, .int .u64 0, .int .u64 0, .int .u64 0, .bool false, .bool false, .int .u64 0, .int .u64 0, .int .u64 0, .int .u64 0, .int .u64 0, .bool false, .bool false]) 17 120 Tryd.underlying42 hi0 hz0 hz1 hz2 rfl (by decide) v ts.length (celT ts) rfl hown6 ⟨w4.heap.size, 0, none⟩ 1 1 (trC t).toList rfl rfl (cell17 _ _ t) (one17 t) (by unfold maxLen; omega) (by omega) (by simp; omega) ?_
          intro v' w7 hown7 hgrow7 hloc7
          have hR7 : RgT w7 T t := RgT.kept (w := (w4.alloc (.cells (trC t) 55)).drew) (RgT.alloc hR0 _) (hgrow7.block T (by simp; omega) (fun e => by have := HV.out _ e.symm; omega))
          have hQ7 := hgrow7.block Q hS6.lt (fun e => hS6.ne e.symm)
          have cS7 : w7.cell? ⟨Q, 17, none⟩ = some v := (World.cell?_of_block (w := (w4.alloc (.cells (trC t) 55)).drew) (a := ⟨Q, 17, none⟩) hQ7).trans (by simpa using hS6.cel 17)
          have fS7 : w7.frozen? ⟨Q, 17, none⟩ = false := (World.frozen?_of_block (w := (w4.alloc (.cells (trC t) 55)).drew) (a := ⟨Q, 17, none⟩) hQ7).trans (hS6.fz 17)
          have hA8 := hS6.appended hgrow7 (ts' := ts ++ [t]) (by rw [List.length_append, celT_snoc]; exact hown7) hloc7
          have hBf := (HB4.out.trans ((bad1 w4 (.cells (trC t) 55)).mono HS4.out.nN)).trans (hS6.grown_below hgrow7 v')
          obtain ⟨g7, cap7, rfl⟩ := own_succT hown7
          have hQ7l : Q < w7.heap.size := by have := hA8.lt; simpa using this
          refine hK.out _ _ ?_ (fun hHeld => ?_)
          · exact hR7
          clear hK K
          refine wpAnyH_take (i := 8) (oi := _) (v := ?_) rfl (by kernel_rfl) (by kernel_rfl) (by kernel_rfl) (fun _ _ _ h => h) (Or.inl ⟨by rfl, ?_⟩) (by assumption) ?_
          rotate_left
          · intro w' hSw
            (try obtain x := hSw)
            go_simp
            all_goals with_reducible rfl
          (try simp only [Act.put, List.setIfInBounds_toArray, List.set_cons_zero, List.set_cons_succ, List.getElem_toArray, List.getElem_cons_zero, List.getElem_cons_succ])
          refine wpAnyH_take (i := 9) (oi := _) (v := ?_) rfl (by kernel_rfl) (by kernel_rfl) (by kernel_rfl) (fun _ _ _ h => h) (Or.inl ⟨by rfl, ?_⟩) (by assumption) ?_
          rotate_left
          · intro w' hSw
            (try obtain x := hSw)
            go_simp
            all_goals with_reducible rfl
          (try simp only [Act.put, List.setIfInBounds_toArray, List.set_cons_zero, List.set_cons_succ, List.getElem_toArray, List.getElem_cons_zero, List.getElem_cons_succ])
          refine wpAnyH_ready (rs := [10]) (by kernel_rfl) (by simp) ?_
          refine AllReadyH.cons rfl (fun K hK => ?_) AllReadyH.nil
          · go_simp
            refine hK.out _ _ ?_ (fun hHeld => ?_)
            · exact hR7.kept (Below.heap_setCell w7 ⟨Q, 17, none⟩ _ T (by show T ≠ Q; omega))
            clear hK K
            refine wpAnyH_done (by kernel_rfl) ?_ _
            go_wp2
            go_ret
            rw [HZ.out]
            exact ⟨rfl, hBf, _, hA8⟩
    · go_simp
      refine hK.out _ _ ?_ (fun hHeld => ?_)
      · first | exact RgT.alloc hR4 _ | exact RgT.alloc hR0 _
      clear hK K
      refine wpAnyH_ready (rs := [4]) (by kernel_rfl) (by simp) ?_
      refine AllReadyH.cons rfl (fun K hK => ?_) AllReadyH.nil
      · go_simp
        refine hK.out _ _ ?_ (fun hHeld => ?_)
        · first | exact RgT.alloc hR4 _ | exact RgT.alloc hR0 _
        clear hK K
        have hS6 : PS (w4.alloc (.cells (trC t) 55)).drew 55 N Q p ts v := HS4.out.below (bad1 w4 _)
        have hown6 := hS6.own
        refine wpAnyH_ready (rs := [7]) (by kernel_rfl) (by simp) ?_
        refine AllReadyH.cons rfl (fun K hK => ?_) AllReadyH.nil
        · refine step_own_at rfl (.tmp 226) (.tmp 228) 42 rfl N 55 i0 (.agg #[.int .i64 0, .int .i64 0, .int .i64 0, .int .u64 0, .int .u64 0, .int .u64 0, .int .u64 0, .int .u64 0, .bool false, .bool false, .int .u64 0, .int .u64 0, .int .u64 0, .int .u64 0, .int .u64 0, .bool false, .bool false]) 17 120 Tryd.underlying42 hi0 hz0 hz1 hz2 rfl (by decide) v ts.length (celT ts) rfl hown6 ⟨w4.heap.size, 0, none⟩ 1 1 (trC t).toList rfl rfl (cell17 _ _ t) (one17 t) (by unfold maxLen; omega) (by omega) (by simp; omega) ?_
          intro v' w7 hown7 hgrow7 hloc7
          have hR7 : RgT w7 T t := RgT.kept (w := (w4.alloc (.cells (trC t) 55)).drew) (RgT.alloc hR0 _) (hgrow7.block T (by simp; omega) (fun e => by have := HV.out _ e.symm; omega))
          have hQ7 := hgrow7.block Q hS6.lt (fun e => hS6.ne e.symm)
          have cS7 : w7.cell? ⟨Q, 17, none⟩ = some v := (World.cell?_of_block (w := (w4.alloc (.cells (trC t) 55)).drew) (a := ⟨Q, 17, none⟩) hQ7).trans (by simpa using hS6.cel 17)
          have fS7 : w7.frozen? ⟨Q, 17, none⟩ = false := (World.frozen?_of_block (w := (w4.alloc (.cells (trC t) 55)).drew) (a := ⟨Q, 17, none⟩) hQ7).trans (hS6.fz 17)
          have hA8 := hS6.appended hgrow7 (ts' := ts ++ [t]) (by rw [List.length_append, celT_snoc]; exact hown7) hloc7
          have hBf := (HB4.out.trans ((bad1 w4 (.cells (trC t) 55)).mono HS4.out.nN)).trans (hS6.grown_below hgrow7 v')
          obtain ⟨g7, cap7, rfl⟩ := own_succT hown7
          have hQ7l : Q < w7.heap.size := by have := hA8.lt; simpa using this
          refine hK.out _ _ ?_ (fun hHeld => ?_)
          · exact hR7
          clear hK K
          refine wpAnyH_take (i := 8) (oi := _) (v := ?_) rfl (by kernel_rfl) (by kernel_rfl) (by kernel_rfl) (fun _ _ _ h => h) (Or.inl ⟨by rfl, ?_⟩) (by assumption) ?_
          rotate_left
          · intro w' hSw
            (try obtain x := hSw)
            go_simp
            all_goals with_reducible rfl
          (try simp only [Act.put, List.setIfInBounds_toArray, List.set_cons_zero, List.set_cons_succ, List.getElem_toArray, List.getElem_cons_zero, List.getElem_cons_succ])
          refine wpAnyH_take (i := 9) (oi := _) (v := ?_) rfl (by kernel_rfl) (by kernel_rfl) (by kernel_rfl) (fun _ _ _ h => h) (Or.inl ⟨by rfl, ?_⟩) (by assumption) ?_
          rotate_left
          · intro w' hSw
            (try obtain x := hSw)
            go_simp
            all_goals with_reducible rfl
          (try simp only [Act.put, List.setIfInBounds_toArray, List.set_cons_zero, List.set_cons_succ, List.getElem_toArray, List.getElem_cons_zero, List.getElem_cons_succ])
          refine wpAnyH_ready (rs := [10]) (by kernel_rfl) (by simp) ?_
          refine AllReadyH.cons rfl (fun K hK => ?_) AllReadyH.nil
          · go_simp
            refine hK.out _ _ ?_ (fun hHeld => ?_)
            · exact hR7.kept (Below.heap_setCell w7 ⟨Q, 17, none⟩ _ T (by show T ≠ Q; omega))
            clear hK K
            refine wpAnyH_done (by kernel_rfl) ?_ _
            go_wp2
            go_ret
            rw [HZ.out]
            exact ⟨rfl, hBf, _, hA8⟩
set_option maxHeartbeats 4000000 in
theorem rl4_depth (rd : List UInt8 → Option K) (i : Nat) (hi : 4 ≤ i) (hi2 : i ≤ 10000) (r : List (List UInt8)) (B cv N Q : Nat) (p : Pd) (ts : List Tr) (v : Value) (w : World) (hS : PS w 55 N Q p ts v) (hts : ts.length ≤ 10000) (hW : TxAt w B 0 (wDepth :: r)) (hBQ : B ≠ Q) (hcv : r.length + 1 ≤ cv) (hr : r.length + 1 ≤ 3000) (hx : ∀ y ∈ r, y.length ≤ 3000) :
    Calls Tryd.prog 47 #[.pointer (some ⟨Q, 0, none⟩), .int .i64 i, .slice (some ⟨B, 0, none⟩) (r.length + 1) cv] w fun e w' => LineR 55 N Q w ((trS rd wDepth r).map fun t => (p, ts ++ [t])) e w' := by
  obtain ⟨i0, hi0, hz0, hz1, hz2⟩ := info_parts info_trg
  obtain ⟨o2, hif, hW2⟩ := hW.cut hcv
  obtain ⟨z, hz⟩ : ∃ z, z = ((trS rd wDepth r).map fun t => (p, ts ++ [t])) := ⟨_, rfl⟩
  rw [← hz]
  have HZ0 : Hid (z = ((two r).map fun q => (⟨2, q.1, q.2, k0, k0⟩ : Tr)).map fun t => (p, ts ++ [t])) := by
    unfold Hid
    rw [hz]
    unfold trS
    rw [if_neg (by simp), if_pos rfl]
  clear hz
  have qN : ∀ (w : World) (a : Option Addr) (n c : Nat), (binOp .eql 56 (.slice a n c) (.slice none 0 0)).run Tryd.prog w = .ok (.bool a.isNone) w := fun w a n c => Lib.run_eql_slice_nil w _ _ a n c 0 0 Tryd.underlying56
  have cx : w.cell? ⟨B, 0, none⟩ = some (strV wDepth) := hW.2 0 _ rfl
  have n0 : ((i : Int) == 0) = false := by rw [beq_eq_false_iff_ne]; omega
  have n1 : ((i : Int) == 1) = false := by rw [beq_eq_false_iff_ne]; omega
  have n2 : ((i : Int) == 2) = false := by rw [beq_eq_false_iff_ne]; omega
  have n3 : ((i : Int) == 3) = false := by rw [beq_eq_false_iff_ne]; omega
  have hBl := hW.1
  have hBn : ¬ B = w.heap.size := by omega
  have hQl := hS.lt
  have hNn := hS.nN
  have HV0 : Hid (∀ g, v.ownBlock = some g → g < w.heap.size) := fun g hg => (hS.own.lt g hg).2
  have HS : Hid (PS w 55 N Q p ts v) := hS
  have hb0 : Below w.heap.size w (w.alloc (.cells #[.int .i64 0, .int .i64 0, .int .i64 0, .int .u64 0, .int .u64 0, .int .u64 0, .int .u64 0, .int .u64 0, .bool false, .bool false, .int .u64 0, .int .u64 0, .int .u64 0, .int .u64 0, .int .u64 0, .bool false, .bool false] 55)) := balloc _
  have hT0 := tz w 55 0
  have c0 := two_wh r B o2 (cv - 1) (w.alloc (.cells #[.int .i64 0, .int .i64 0, .int .i64 0, .int .u64 0, .int .u64 0, .int .u64 0, .int .u64 0, .int .u64 0, .bool false, .bool false, .int .u64 0, .int .u64 0, .int .u64 0, .int .u64 0, .int .u64 0, .bool false, .bool false] 55)) (hW2.below hb0 hBl) (by omega) hx
  generalize hWq : (w.alloc (.cells #[.int .i64 0, .int .i64 0, .int .i64 0, .int .u64 0, .int .u64 0, .int .u64 0, .int .u64 0, .int .u64 0, .bool false, .bool false, .int .u64 0, .int .u64 0, .int .u64 0, .int .u64 0, .int .u64 0, .bool false, .bool false] 55)) = Wq at *
  have HWq : Hid ((w.alloc (.cells #[.int .i64 0, .int .i64 0, .int .i64 0, .int .u64 0, .int .u64 0, .int .u64 0, .int .u64 0, .int .u64 0, .bool false, .bool false, .int .u64 0, .int .u64 0, .int .u64 0, .int .u64 0, .int .u64 0, .bool false, .bool false] 55)) = Wq) := hWq
  have hsq := hb0.size
  have hTl0 := hT0.lt
  have hWN : Below N w Wq := hb0.mono hNn
  clear hW hx hi hWq hW2 hS
  rcases c0 with ⟨hf, c0⟩ | ⟨a, b, hf, c0⟩
  · rw [hf] at HZ0
    go_enter Tryd.func47, Tryd.ntmps47
    go_wp2_with (go_at_call 85; rw [HWq.out]; (with_reducible refine c0.mono ?_); rintro e w1 ⟨rfl, hb1⟩)
    go_ret
    rw [HZ0.out]
    exact ⟨rfl, hWN.trans (hb1.mono (by omega))⟩
  · rw [hf] at HZ0
    go_enter Tryd.func47, Tryd.ntmps47
    go_wp2_with (go_at_call 85; rw [HWq.out]; (with_reducible refine c0.mono ?_); rintro e w1 ⟨⟨g, k, rfl, hg0, hg1, hn2⟩, hb1⟩; have hT1 := hT0.below hb1; have hs1 := hb1.size; have cx1 : w1.cell? ⟨B, 0, none⟩ = some (strV wDepth) := (hb1.cell (p := ⟨B, 0, none⟩) (by show B < _; omega)).trans ((hb0.cell (p := ⟨B, 0, none⟩) hBl).trans cx))
    have hS1 := (HS.out.below hb0).below hb1
    have hw1 : Below N w w1 := hWN.trans (hb1.mono (by omega))
    have HS1 : Hid (PS w1 55 N Q p ts v) := hS1
    have HW1 : Hid (Below N w w1) := hw1
    have hT1d : TS w1.drew w.heap.size ⟨0, 0, 0, k0, k0⟩ := hT1.below ((Below.refl _ _).drew)
    have hgT : g ≠ w.heap.size := by omega
    clear hS1 hw1 c0 cx
    refine wp_region_held_drew (S := fun w' => Ns2 g a b w') (by kernel_rfl) hn2 (fun hHeld => ?_)
    refine wpAnyH_take (i := 0) (oi := _) (v := ?_) rfl (by kernel_rfl) (by kernel_rfl) (by kernel_rfl) (fun _ _ _ h => h) (Or.inl ⟨by rfl, ?_⟩) (by assumption) ?_
    rotate_left
    · intro w' hSw
      (try obtain ⟨q0, q1⟩ := hSw)
      go_simp
      all_goals with_reducible rfl
    (try simp only [Act.put, List.setIfInBounds_toArray, List.set_cons_zero, List.set_cons_succ, List.getElem_toArray, List.getElem_cons_zero, List.getElem_cons_succ])
    refine wpAnyH_take (i := 1) (oi := _) (v := ?_) rfl (by kernel_rfl) (by kernel_rfl) (by kernel_rfl) (fun _ _ _ h => h) (Or.inl ⟨by rfl, ?_⟩) (by assumption) ?_
    rotate_left
    · intro w' hSw
      (try obtain ⟨q0, q1⟩ := hSw)
      go_simp
      all_goals with_reducible rfl
    (try simp only [Act.put, List.setIfInBounds_toArray, List.set_cons_zero, List.set_cons_succ, List.getElem_toArray, List.getElem_cons_zero, List.getElem_cons_succ])
    refine wpAnyH_take (i := 2) (oi := _) (v := ?_) rfl (by kernel_rfl) (by kernel_rfl) (by kernel_rfl) (fun _ _ _ h => h) (Or.inl ⟨by rfl, ?_⟩) (by assumption) ?_
    rotate_left
    · intro w' hSw
      (try obtain ⟨q0, q1⟩ := hSw)
      go_simp
      all_goals with_reducible rfl
    (try simp only [Act.put, List.setIfInBounds_toArray, List.set_cons_zero, List.set_cons_succ, List.getElem_toArray, List.getElem_cons_zero, List.getElem_cons_succ])
    refine wpAnyH_take (i := 3) (oi := _) (v := ?_) rfl (by kernel_rfl) (by kernel_rfl) (by kernel_rfl) (fun _ _ _ h => h) (Or.inl ⟨by rfl, ?_⟩) (by assumption) ?_
    rotate_left
    · intro w' hSw
      (try obtain ⟨q0, q1⟩ := hSw)
      go_simp
      all_goals with_reducible rfl
    (try simp only [Act.put, List.setIfInBounds_toArray, List.set_cons_zero, List.set_cons_succ, List.getElem_toArray, List.getElem_cons_zero, List.getElem_cons_succ])
    refine wpAnyH_take (i := 4) (oi := _) (v := ?_) rfl (by kernel_rfl) (by kernel_rfl) (by kernel_rfl) (fun _ _ _ h => h) (Or.inl ⟨by rfl, ?_⟩) (by assumption) ?_
    rotate_left
    · intro w' hSw
      (try obtain ⟨q0, q1⟩ := hSw)
      go_simp
      all_goals with_reducible rfl
    (try simp only [Act.put, List.setIfInBounds_toArray, List.set_cons_zero, List.set_cons_succ, List.getElem_toArray, List.getElem_cons_zero, List.getElem_cons_succ])
    refine wpAnyH_take (i := 5) (oi := _) (v := ?_) rfl (by kernel_rfl) (by kernel_rfl) (by kernel_rfl) (fun _ _ _ h => h) (Or.inl ⟨by rfl, ?_⟩) (by assumption) ?_
    rotate_left
    · intro w' hSw
      (try obtain ⟨q0, q1⟩ := hSw)
      go_simp
      all_goals with_reducible rfl
    (try simp only [Act.put, List.setIfInBounds_toArray, List.set_cons_zero, List.set_cons_succ, List.getElem_toArray, List.getElem_cons_zero, List.getElem_cons_succ])
    refine wpAnyH_take (i := 6) (oi := _) (v := ?_) rfl (by kernel_rfl) (by kernel_rfl) (by kernel_rfl) (fun _ _ _ h => h) (Or.inl ⟨by rfl, ?_⟩) (by assumption) ?_
    rotate_left
    · intro w' hSw
      (try obtain ⟨q0, q1⟩ := hSw)
      go_simp
      all_goals with_reducible rfl
    (try simp only [Act.put, List.setIfInBounds_toArray, List.set_cons_zero, List.set_cons_succ, List.getElem_toArray, List.getElem_cons_zero, List.getElem_cons_succ])
    refine wpAnyH_ready (rs := [7]) (by kernel_rfl) (by simp) ?_
    refine AllReadyH.cons rfl (fun K hK => ?_) AllReadyH.nil
    rw [if_pos (by rfl)]
    refine wp_store_mid 55 (.tmp 10) (.tmp 173) rfl w.heap.size 0 (trC ⟨2, a, b, k0, k0⟩) (by with_unfolding_all rfl) (by with_unfolding_all rfl) (hT1d.there 0 17 (by decide)) (by kernel_rfl) (by simp [Value.oneCell']) ?_
    have hT2 : TS (w1.drew.setCells w.heap.size 0 (trC ⟨2, a, b, k0, k0⟩).toList) w.heap.size ⟨2, a, b, k0, k0⟩ := hT1d.put
    have hO2 : OnlyQ w.heap.size w1 (w1.drew.setCells w.heap.size 0 (trC ⟨2, a, b, k0, k0⟩).toList) := (OnlyQ.of_below ((Below.refl _ _).drew) hT1.lt).trans (OnlyQ.sets _ _ _ _)
    generalize w1.drew.setCells w.heap.size 0 (trC ⟨2, a, b, k0, k0⟩).toList = w2 at *
    refine hK.out _ _ ?_ (fun hHeld => ?_)
    · exact ⟨(hO2.cell (a := ⟨g, 0, none⟩) hg1 hgT).trans hn2.1, (hO2.cell (a := ⟨g, 1, none⟩) hg1 hgT).trans hn2.2⟩
    clear hK K
    (try simp only [Act.put, List.setIfInBounds_toArray, List.set_cons_zero, List.set_cons_succ, List.getElem_toArray, List.getElem_cons_zero, List.getElem_cons_succ])
    refine wpAnyH_done (by kernel_rfl) ?_ _
    have cx2 : w2.cell? ⟨B, 0, none⟩ = some (strV wDepth) := (hO2.cell (a := ⟨B, 0, none⟩) (by show B < _; omega) hBn).trans cx1
    clear hHeld cx1 hT1d hT1
    go_wp2_with fail
    have hT4 : TS w2 w.heap.size ⟨2, a, b, k0, k0⟩ := hT2
    have hO4 := hO2
    generalize w2 = w4 at *
    have hS4 : PS w4 55 N Q p ts v := HS1.out.apart hO4 (by omega) (fun e => by have := HV0.out _ e; omega)
    have HS4 : Hid (PS w4 55 N Q p ts v) := hS4
    have HB4 : Hid (Below N w w4) := HW1.out.trans (hO4.below hNn (by omega))
    have HV : Hid (∀ g, v.ownBlock = some g → g < w.heap.size) := HV0.out
    have HZ : Hid (z = some (p, ts ++ [(⟨2, a, b, k0, k0⟩ : Tr)])) := HZ0.out
    generalize (⟨2, a, b, k0, k0⟩ : Tr) = t at *
    generalize w.heap.size = T at *
    have hTl := hT4.lt
    have hR0 : RgT w4 T t := range_tr hT4.at
    have hR4 : RgT w4.drew T t := hR0
    have cS : w4.cell? ⟨Q, 17, none⟩ = some v := by simpa using HS4.out.cel 17
    have hQ4l : Q < w4.heap.size := HS4.out.lt
    have hQ4n : ¬ Q = w4.heap.size := by omega
    clear hT4
    refine wp_region_held_drew (S := fun w' => RgT w' T t) (by kernel_rfl) hR4 (fun hHeld => ?_)
    refine wpAnyH_take (i := 0) (oi := _) (v := ?_) rfl (by kernel_rfl) (by kernel_rfl) (by kernel_rfl) (fun _ _ _ h => h) (Or.inl ⟨by rfl, ?_⟩) (by assumption) ?_
    rotate_left
    · intro w' hSw
      (try obtain x := hSw)
      go_simp
      all_goals with_reducible rfl
    (try simp only [Act.put, List.setIfInBounds_toArray, List.set_cons_zero, List.set_cons_succ, List.getElem_toArray, List.getElem_cons_zero, List.getElem_cons_succ])
    refine wpAnyH_take (i := 1) (oi := _) (v := ?_) rfl (by kernel_rfl) (by kernel_rfl) (by kernel_rfl) (fun _ _ _ h => h) (Or.inl ⟨by rfl, ?_⟩) (by assumption) ?_
    rotate_left
    · intro w' hSw
      (try obtain x := hSw)
      go_simp
      all_goals with_reducible rfl
    (try simp only [Act.put, List.setIfInBounds_toArray, List.set_cons_zero, List.set_cons_succ, List.getElem_toArray, List.getElem_cons_zero, List.getElem_cons_succ])
    refine wpAnyH_take (i := 2) (oi := _) (v := ?_) rfl (by kernel_rfl) (by kernel_rfl) (by kernel_rfl) (fun _ _ _ h => h) (Or.inl ⟨by rfl, ?_⟩) (by assumption) ?_
    rotate_left
    · intro w' hSw
      (try obtain x := hSw)
      go_simp
      all_goals with_reducible rfl
    (try simp only [Act.put, List.setIfInBounds_toArray, List.set_cons_zero, List.set_cons_succ, List.getElem_toArray, List.getElem_cons_zero, List.getElem_cons_succ])
    refine wpAnyH_take (i := 3) (oi := _) (v := ?_) rfl (by kernel_rfl) (by kernel_rfl) (by kernel_rfl) (fun _ _ _ h => h) (Or.inl ⟨by rfl, ?_⟩) (by assumption) ?_
    rotate_left
    · intro w' hSw
      (try obtain x := hSw)
      go_simp
      all_goals with_reducible rfl
    (try simp only [Act.put, List.setIfInBounds_toArray, List.set_cons_zero, List.set_cons_succ, List.getElem_toArray, List.getElem_cons_zero, List.getElem_cons_succ])
    refine wpAnyH_take (i := 5) (oi := _) (v := trV t) rfl (by kernel_rfl) (by kernel_rfl) (by kernel_rfl) (fun _ _ _ h => h) (yieldsIf_load_mid (by rfl) 55 (.tmp 10) rfl T 0 (by with_unfolding_all rfl) [.int .i64 t.k, .int .i64 t.tg, .int .i64 t.ac, .int .u64 t.a.mi, .int .u64 t.a.ho, .int .u64 t.a.da, .int .u64 t.a.mn, .int .u64 t.a.we, .bool t.a.ad, .bool t.a.aw, .int .u64 t.b.mi, .int .u64 t.b.ho, .int .u64 t.b.da, .int .u64 t.b.mn, .int .u64 t.b.we, .bool t.b.ad, .bool t.b.aw] _ (fun w h => h) Tryd.underlying55 rfl (by kernel_rfl)) (by assumption) ?_
    (try simp only [Act.put, List.setIfInBounds_toArray, List.set_cons_zero, List.set_cons_succ, List.getElem_toArray, List.getElem_cons_zero, List.getElem_cons_succ])
    refine wpAnyH_ready (rs := [4, 6]) (by kernel_rfl) (by simp) ?_
    refine AllReadyH.cons rfl (fun K hK => ?_) (AllReadyH.cons rfl (fun K hK => ?_) AllReadyH.nil)
    · go_simp
      refine hK.out _ _ ?_ (fun hHeld => ?_)
      · exact hR4
      clear hK K
      refine wpAnyH_ready (rs := [6]) (by kernel_rfl) (by simp) ?_
      refine AllReadyH.cons rfl (fun K hK => ?_) AllReadyH.nil
      · go_simp
        refine hK.out _ _ ?_ (fun hHeld => ?_)
        · first | exact RgT.alloc hR4 _ | exact RgT.alloc hR0 _
        clear hK K
        have hS6 : PS (w4.alloc (.cells (trC t) 55)).drew 55 N Q p ts v := HS4.out.below (bad1 w4 _)
        have hown6 := hS6.own
        refine wpAnyH_ready (rs := [7]) (by kernel_rfl) (by simp) ?_
        refine AllReadyH.cons rfl (fun K hK => ?_) AllReadyH.nil
        · refine step_own_at rfl (.tmp 226) (.tmp 228) 42 rfl N 55 i0 (.agg #[.int .i64 0, .int .i64 0, .int .i64 0, .int .u64 0, .int .u64 0, .int .u64 0, .int .u64 0, .int .u64 0, .bool false, .bool false, .int .u64 0, .int .u64 0, .int .u64 0, .int .u64 0, .int .u64 0, .bool false, .bool false]) 17 120 Tryd.underlying42 hi0 hz0 hz1 hz2 rfl (by decide) v ts.length (celT ts) rfl hown6 ⟨w4.heap.size, 0, none⟩ 1 1 (trC t).toList rfl rfl (cell17 _ _ t) (one17 t) (by unfold maxLen; omega) (by omega) (by simp; omega) ?_
          intro v' w7 hown7 hgrow7 hloc7
          have hR7 : RgT w7 T t := RgT.kept (w := (w4.alloc (.cells (trC t) 55)).drew) (RgT.alloc hR0 _) (hgrow7.block T (by simp; omega) (fun e => by have := HV.out _ e.symm; omega))
          have hQ7 := hgrow7.block Q hS6.lt (fun e => hS6.ne e.symm)
          have cS7 : w7.cell? ⟨Q, 17, none⟩ = some v := (World.cell?_of_block (w := (w4.alloc (.cells (trC t) 55)).drew) (a := ⟨Q, 17, none⟩) hQ7).trans (by simpa using hS6.cel 17)
          have fS7 : w7.frozen? ⟨Q, 17, none⟩ = false := (World.frozen?_of_block (w := (w4.alloc (.cells (trC t) 55)).drew) (a := ⟨Q, 17, none⟩) hQ7).trans (hS6.fz 17)
          have hA8 := hS6.appended hgrow7 (ts' := ts ++ [t]) (by rw [List.length_append, celT_snoc]; exact hown7) hloc7
          have hBf := (HB4.out.trans ((bad1 w4 (.cells (trC t) 55)).mono HS4.out.nN)).trans (hS6.grown_below hgrow7 v')
          obtain ⟨g7, cap7, rfl⟩ := own_succT hown7
          have hQ7l : Q < w7.heap.size := by have := hA8.lt; simpa using this
          refine hK.out _ _ ?_ (fun hHeld => ?_)
          · exact hR7
          clear hK K
          refine wpAnyH_take (i := 8) (oi := _) (v := ?_) rfl (by kernel_rfl) (by kernel_rfl) (by kernel_rfl) (fun _ _ _ h => h) (Or.inl ⟨by rfl, ?_⟩) (by assumption) ?_
          rotate_left
          · intro w' hSw
            (try obtain x := hSw)
            go_simp
            all_goals with_reducible rfl
          (try simp only [Act.put, List.setIfInBounds_toArray, List.set_cons_zero, List.set_cons_succ, List.getElem_toArray, List.getElem_cons_zero, List.getElem_cons_succ])
          refine wpAnyH_take (i := 9) (oi := _) (v := ?_) rfl (by kernel_rfl) (by kernel_rfl) (by kernel_rfl) (fun _ _ _ h => h) (Or.inl ⟨by rfl, ?_⟩) (by assumption) ?_
          rotate_left
          · intro w' hSw
            (try obtain x := hSw)
            go_simp
            all_goals with_reducible rfl
          (try simp only [Act.put, List.setIfInBounds_toArray, List.set_cons_zero, List.set_cons_succ, List.getElem_toArray, List.getElem_cons_zero, List.getElem_cons_succ])
          refine wpAnyH_ready (rs := [10]) (by kernel_rfl) (by simp) ?_
          refine AllReadyH.cons rfl (fun K hK => ?_) AllReadyH.nil
          · go_simp
            refine hK.out _ _ ?_ (fun hHeld => ?_)
            · exact hR7.kept (Below.heap_setCell w7 ⟨Q, 17, none⟩ _ T (by show T ≠ Q; omega))
            clear hK K
            refine wpAnyH_done (by kernel_rfl) ?_ _
            go_wp2
            go_ret
            rw [HZ.out]
            exact ⟨rfl, hBf, _, hA8⟩
    · go_simp
      refine hK.out _ _ ?_ (fun hHeld => ?_)
      · first | exact RgT.alloc hR4 _ | exact RgT.alloc hR0 _
      clear hK K
      refine wpAnyH_ready (rs := [4]) (by kernel_rfl) (by simp) ?_
      refine AllReadyH.cons rfl (fun K hK => ?_) AllReadyH.nil
      · go_simp
        refine hK.out _ _ ?_ (fun hHeld => ?_)
        · first | exact RgT.alloc hR4 _ | exact RgT.alloc hR0 _
        clear hK K
        have hS6 : PS (w4.alloc (.cells (trC t) 55)).drew 55 N Q p ts v := HS4.out.below (bad1 w4 _)
        have hown6 := hS6.own
        refine wpAnyH_ready (rs := [7]) (by kernel_rfl) (by simp) ?_
        refine AllReadyH.cons rfl (fun K hK => ?_) AllReadyH.nil
        · refine step_own_at rfl (.tmp 226) (.tmp 228) 42 rfl N 55 i0 (.agg #[.int .i64 0, .int .i64 0, .int .i64 0, .int .u64 0, .int .u64 0, .int .u64 0, .int .u64 0, .int .u64 0, .bool false, .bool false, .int .u64 0, .int .u64 0, .int .u64 0, .int .u64 0, .int .u64 0, .bool false, .bool false]) 17 120 Tryd.underlying42 hi0 hz0 hz1 hz2 rfl (by decide) v ts.length (celT ts) rfl hown6 ⟨w4.heap.size, 0, none⟩ 1 1 (trC t).toList rfl rfl (cell17 _ _ t) (one17 t) (by unfold maxLen; omega) (by omega) (by simp; omega) ?_
          intro v' w7 hown7 hgrow7 hloc7
          have hR7 : RgT w7 T t := RgT.kept (w := (w4.alloc (.cells (trC t) 55)).drew) (RgT.alloc hR0 _) (hgrow7.block T (by simp; omega) (fun e => by have := HV.out _ e.symm; omega))
          have hQ7 := hgrow7.block Q hS6.lt (fun e => hS6.ne e.symm)
          have cS7 : w7.cell? ⟨Q, 17, none⟩ = some v := (World.cell?_of_block (w := (w4.alloc (.cells (trC t) 55)).drew) (a := ⟨Q, 17, none⟩) hQ7).trans (by simpa using hS6.cel 17)
          have fS7 : w7.frozen? ⟨Q, 17, none⟩ = false := (World.frozen?_of_block (w := (w4.alloc (.cells (trC t) 55)).drew) (a := ⟨Q, 17, none⟩) hQ7).trans (hS6.fz 17)
          have hA8 := hS6.appended hgrow7 (ts' := ts ++ [t]) (by rw [List.length_append, celT_snoc]; exact hown7) hloc7
          have hBf := (HB4.out.trans ((bad1 w4 (.cells (trC t) 55)).mono HS4.out.nN)).trans (hS6.grown_below hgrow7 v')
          obtain ⟨g7, cap7, rfl⟩ := own_succT hown7
          have hQ7l : Q < w7.heap.size := by have := hA8.lt; simpa using this
          refine hK.out _ _ ?_ (fun hHeld => ?_)
          · exact hR7
          clear hK K
          refine wpAnyH_take (i := 8) (oi := _) (v := ?_) rfl (by kernel_rfl) (by kernel_rfl) (by kernel_rfl) (fun _ _ _ h => h) (Or.inl ⟨by rfl, ?_⟩) (by assumption) ?_
          rotate_left
          · intro w' hSw
            (try obtain x := hSw)
            go_simp
            all_goals with_reducible rfl
          (try simp only [Act.put, List.setIfInBounds_toArray, List.set_cons_zero, List.set_cons_succ, List.getElem_toArray, List.getElem_cons_zero, List.getElem_cons_succ])
          refine wpAnyH_take (i := 9) (oi := _) (v := ?_) rfl (by kernel_rfl) (by kernel_rfl) (by kernel_rfl) (fun _ _ _ h => h) (Or.inl ⟨by rfl, ?_⟩) (by assumption) ?_
          rotate_left
          · intro w' hSw
            (try obtain x := hSw)
            go_simp
            all_goals with_reducible rfl
          (try simp only [Act.put, List.setIfInBounds_toArray, List.set_cons_zero, List.set_cons_succ, List.getElem_toArray, List.getElem_cons_zero, List.getElem_cons_succ])
          refine wpAnyH_ready (rs := [10]) (by kernel_rfl) (by simp) ?_
          refine AllReadyH.cons rfl (fun K hK => ?_) AllReadyH.nil
          · go_simp
            refine hK.out _ _ ?_ (fun hHeld => ?_)
            · exact hR7.kept (Below.heap_setCell w7 ⟨Q, 17, none⟩ _ T (by show T ≠ Q; omega))
            clear hK K
            refine wpAnyH_done (by kernel_rfl) ?_ _
            go_wp2
            go_ret
            rw [HZ.out]
            exact ⟨rfl, hBf, _, hA8⟩
end Pln
end Go.Proofs.YtcaobnmfgnbolabDoor
namespace Go.Proofs.YtcaobnmfgnbolabDoor
namespace Pln
open Go.RowKit Lai Civ Crn Pie
set_option maxRecDepth 8000

theorem ba_inj {a b : List UInt8} (h : (⟨a.toArray⟩ : ByteArray) = ⟨b.toArray⟩) : a = b := by
  have := congrArg (fun z : ByteArray => z.data.toList) h
  simpa using this
theorem ba_getD (ws : List (List UInt8)) {j : Nat} {y : List UInt8} (h : ws[j]? = some y) : (ws.map fun x => (⟨x.toArray⟩ : ByteArray)).getD j ByteArray.empty = ⟨y.toArray⟩ := by
  rw [List.getD_eq_getElem?_getD, List.getElem?_map, h]; rfl
/-- slices.Index of the word `/` -/
theorem idx_none {ws : List (List UInt8)} (h : [47] ∉ ws) : Lib.idxOfS (ws.map fun x => (⟨x.toArray⟩ : ByteArray)) ⟨#[47]⟩ = -1 := by
  have := Lib.idxOfS_miss (ws.map fun x => (⟨x.toArray⟩ : ByteArray)) ws.length ⟨#[47]⟩ (fun j hj e => by
    rw [ba_getD ws (List.getElem?_eq_getElem hj)] at e
    have e2 : ws[j] = [47] := ba_inj e
    exact h (e2 ▸ List.getElem_mem hj))
  rwa [List.take_of_length_le (by simp)] at this
theorem idx_hit {xs ys : List (List UInt8)} (h : [47] ∉ xs) : Lib.idxOfS ((xs ++ [47] :: ys).map fun x => (⟨x.toArray⟩ : ByteArray)) ⟨#[47]⟩ = xs.length := by
  have := Lib.idxOfS_hit ((xs ++ [47] :: ys).map fun x => (⟨x.toArray⟩ : ByteArray)) (xs ++ [47] :: ys).length xs.length ⟨#[47]⟩ (by simp) (by simp) (ba_getD _ (by simp)) (fun j hj e => by
    rw [ba_getD (xs ++ [47] :: ys) (y := xs[j]) (by rw [List.getElem?_append_left hj, List.getElem?_eq_getElem hj])] at e
    have e2 : xs[j] = [47] := ba_inj e
    exact h (e2 ▸ List.getElem_mem hj))
  rwa [List.take_of_length_le (by simp)] at this
/-- where a span's line has its `/` -/
theorem idx_cases (rd : List UInt8 → Option K) (r : List (List UInt8)) :
    (Lib.idxOfS ((wSpan :: r).map fun x => (⟨x.toArray⟩ : ByteArray)) ⟨#[47]⟩ < 2 ∧ spanS rd r = none) ∨
    ∃ t xs ys, r = t :: (xs ++ [47] :: ys) ∧ Lib.idxOfS ((wSpan :: r).map fun x => (⟨x.toArray⟩ : ByteArray)) ⟨#[47]⟩ = 2 + xs.length ∧
      ((num7 t = none ∧ spanS rd r = none) ∨ ∃ n, num7 t = some n ∧ ((both (rd (Lib.join xs [32])) (rd (Lib.join ys [32])) = none ∧ spanS rd r = none) ∨ ∃ a b, rd (Lib.join xs [32]) = some a ∧ rd (Lib.join ys [32]) = some b ∧ spanS rd r = some ⟨3, n, 0, a, b⟩)) := by
  cases r with
  | nil => exact Or.inl ⟨by rw [idx_none (by simp)]; decide, rfl⟩
  | cons t rest =>
    by_cases ht : t = [47]
    · subst ht
      refine Or.inl ⟨?_, ?_⟩
      · have := idx_hit (xs := [wSpan]) (ys := rest) (by simp)
        simp only [List.cons_append, List.nil_append, List.length_cons, List.length_nil] at this
        rw [this]; decide
      · unfold spanS
        dsimp only
        rw [show num7 [47] = none from rfl]
    · rcases cutW_cases rest with h | ⟨xs, ys, rfl, h⟩
      · refine Or.inl ⟨?_, ?_⟩
        · rw [idx_none (by simp [h]; exact fun e => ht e.symm)]; decide
        · unfold spanS
          dsimp only
          unfold spanC
          rw [cutW_none h]
          cases num7 t <;> rfl
      · right
        refine ⟨t, xs, ys, rfl, ?_, ?_⟩
        · have := idx_hit (xs := wSpan :: t :: xs) (ys := ys) (by simp [h]; exact fun e => ht e.symm)
          simp only [List.cons_append, List.length_cons] at this
          rw [this]; push_cast; omega
        · have hs : spanC rd (xs ++ [47] :: ys) = both (rd (Lib.join xs [32])) (rd (Lib.join ys [32])) := by unfold spanC; rw [cutW_hit h]
          unfold spanS
          dsimp only
          rw [hs]
          cases num7 t with
          | none => exact Or.inl ⟨rfl, rfl⟩
          | some n =>
            refine Or.inr ⟨n, rfl, ?_⟩
            cases h1 : rd (Lib.join xs [32]) with
            | none => exact Or.inl ⟨rfl, rfl⟩
            | some a =>
              cases h2 : rd (Lib.join ys [32]) with
              | none => exact Or.inl ⟨rfl, rfl⟩
              | some b => exact Or.inr ⟨a, b, rfl, rfl, rfl⟩
theorem index_tx (ws : List (List UInt8)) (B cv : Nat) (w : World) (hW : TxAt w B 0 ws) (hl : ws.length ≤ 3000) :
    Calls Tryd.prog 86 #[.slice (some ⟨B, 0, none⟩) ws.length cv, .string ⟨#[47]⟩] w fun e w' => e = .returned (.int .i64 (Lib.idxOfS (ws.map fun x => (⟨x.toArray⟩ : ByteArray)) ⟨#[47]⟩)) ∧ w' = w := by
  have := Tryd.slices_Index_string B 0 ws.length cv (ws.map fun x => (⟨x.toArray⟩ : ByteArray)) ⟨#[47]⟩ w (by simp) (by omega) (fun j hj => by
    rw [List.length_map] at hj
    rw [List.getD_eq_getElem?_getD, List.getElem?_map, List.getElem?_eq_getElem hj]
    exact hW.2 j _ (List.getElem?_eq_getElem hj))
  rw [List.take_of_length_le (by simp)] at this
  exact this
/-- ReadCron by rd -/
theorem rcr_any {rd : List UInt8 → Option K} (hrd : RdOk rd) (s : List UInt8) (w : World) :
    Calls Tryd.prog 87 #[strV s] w fun e w' => (∃ c E, RdAns rd s c E ∧ e = .returned (.tuple #[kV c, .int .i64 E])) ∧ Below w.heap.size w w' := by
  refine (rc_any s w).mono fun e w' h => ⟨?_, h.2⟩
  cases hr : rd s with
  | none =>
    obtain ⟨E, hE, g⟩ := hrd.no s hr
    exact ⟨k0, E, Or.inr ⟨hr, by omega⟩, g e h.1⟩
  | some c =>
    obtain ⟨_, _, _, g⟩ := hrd.yes s c hr
    exact ⟨c, 0, Or.inl ⟨hr, rfl⟩, g e h.1⟩
end Pln
end Go.Proofs.YtcaobnmfgnbolabDoor
namespace Go.Proofs.YtcaobnmfgnbolabDoor
namespace Pln
open Go.RowKit Lai Civ Crn Pie
set_option maxRecDepth 8000
set_option linter.unusedSimpArgs false
set_option linter.unusedVariables false

theorem rg7 {w : World} {A : Nat} {c : K} (h : ∀ o, w.cell? ⟨A, o, none⟩ = (#[.int .u64 c.mi, .int .u64 c.ho, .int .u64 c.da, .int .u64 c.mn, .int .u64 c.we, .bool c.ad, .bool c.aw] : Array Value)[o]?) : w.rangeAt A 0 [.int .u64 c.mi, .int .u64 c.ho, .int .u64 c.da, .int .u64 c.mn, .int .u64 c.we, .bool c.ad, .bool c.aw] := by
  intro j v hv
  rw [Nat.zero_add, h j]
  simpa using hv
/-- what the span's region looks up -/
def SpS (g A D : Nat) (n : Int) (a b : K) (w : World) : Prop := w.cell? ⟨g, 0, none⟩ = some (.int .i64 n) ∧ w.rangeAt A 0 [.int .u64 a.mi, .int .u64 a.ho, .int .u64 a.da, .int .u64 a.mn, .int .u64 a.we, .bool a.ad, .bool a.aw] ∧ w.rangeAt D 0 [.int .u64 b.mi, .int .u64 b.ho, .int .u64 b.da, .int .u64 b.mn, .int .u64 b.we, .bool b.ad, .bool b.aw]
theorem SpS.only {g A D T : Nat} {n : Int} {a b : K} {w w' : World} (h : SpS g A D n a b w.drew) (o : OnlyQ T w w') (h1 : g < w.heap.size) (h2 : A < w.heap.size) (h3 : D < w.heap.size) (h4 : g ≠ T) (h5 : A ≠ T) (h6 : D ≠ T) : SpS g A D n a b w' :=
  ⟨(o.cell (a := ⟨g, 0, none⟩) h1 h4).trans h.1, fun j v hv => (o.cell (a := ⟨A, 0 + j, none⟩) h2 h5).trans (h.2.1 j v hv), fun j v hv => (o.cell (a := ⟨D, 0 + j, none⟩) h3 h6).trans (h.2.2 j v hv)⟩
set_option maxHeartbeats 4000000 in
theorem rl5_no (rd : List UInt8 → Option K) (hrd : RdOk rd) (i : Nat) (hi : 4 ≤ i) (hi2 : i ≤ 10000) (B cv N Q : Nat) (p : Pd) (ts : List Tr) (v : Value) (w : World) (hS : PS w 55 N Q p ts v) (hts : ts.length ≤ 10000) (hBQ : B ≠ Q) (r : List (List UInt8)) (hW : TxAt w B 0 (wSpan :: r)) (hr : r.length + 1 ≤ 3000) (E : Int) (hE : Lib.idxOfS ((wSpan :: r).map fun x => (⟨x.toArray⟩ : ByteArray)) ⟨#[47]⟩ = E) (hE2 : E < 2) :
    Calls Tryd.prog 47 #[.pointer (some ⟨Q, 0, none⟩), .int .i64 i, .slice (some ⟨B, 0, none⟩) (r.length + 1) cv] w fun e w' => e = .returned (.bool false) ∧ Below N w w' := by
  obtain ⟨i0, hi0, hz0, hz1, hz2⟩ := info_parts info_trg
  have qN : ∀ (w : World) (a : Option Addr) (n c : Nat), (binOp .eql 56 (.slice a n c) (.slice none 0 0)).run Tryd.prog w = .ok (.bool a.isNone) w := fun w a n c => Lib.run_eql_slice_nil w _ _ a n c 0 0 Tryd.underlying56
  have n0 : ((i : Int) == 0) = false := by rw [beq_eq_false_iff_ne]; omega
  have n1 : ((i : Int) == 1) = false := by rw [beq_eq_false_iff_ne]; omega
  have n2 : ((i : Int) == 2) = false := by rw [beq_eq_false_iff_ne]; omega
  have n3 : ((i : Int) == 3) = false := by rw [beq_eq_false_iff_ne]; omega
  have hBl := hW.1
  have hBn : ¬ B = w.heap.size := by omega
  have hQl := hS.lt
  have hNn := hS.nN
  have HV0 : Hid (∀ g, v.ownBlock = some g → g < w.heap.size) := fun g hg => (hS.own.lt g hg).2
  have HS : Hid (PS w 55 N Q p ts v) := hS
  have hb0 : Below w.heap.size w (w.alloc (.cells #[.int .i64 0, .int .i64 0, .int .i64 0, .int .u64 0, .int .u64 0, .int .u64 0, .int .u64 0, .int .u64 0, .bool false, .bool false, .int .u64 0, .int .u64 0, .int .u64 0, .int .u64 0, .int .u64 0, .bool false, .bool false] 55)) := balloc _
  have hT0 := tz w 55 0
  have cx : w.cell? ⟨B, 0, none⟩ = some (strV wSpan) := hW.2 0 _ rfl
  have cI := index_tx (wSpan :: r) B cv (w.alloc (.cells #[.int .i64 0, .int .i64 0, .int .i64 0, .int .u64 0, .int .u64 0, .int .u64 0, .int .u64 0, .int .u64 0, .bool false, .bool false, .int .u64 0, .int .u64 0, .int .u64 0, .int .u64 0, .int .u64 0, .bool false, .bool false] 55)) (hW.below hb0 hBl) (by simpa using hr)
  rw [hE] at cI
  replace cI : Calls Tryd.prog 86 #[.slice (some ⟨B, 0, none⟩) (r.length + 1) cv, .string ⟨#[47]⟩] (w.alloc (.cells #[.int .i64 0, .int .i64 0, .int .i64 0, .int .u64 0, .int .u64 0, .int .u64 0, .int .u64 0, .int .u64 0, .bool false, .bool false, .int .u64 0, .int .u64 0, .int .u64 0, .int .u64 0, .int .u64 0, .bool false, .bool false] 55)) fun e w' => e = .returned (.int .i64 E) ∧ w' = (w.alloc (.cells #[.int .i64 0, .int .i64 0, .int .i64 0, .int .u64 0, .int .u64 0, .int .u64 0, .int .u64 0, .int .u64 0, .bool false, .bool false, .int .u64 0, .int .u64 0, .int .u64 0, .int .u64 0, .int .u64 0, .bool false, .bool false] 55)) := cI
  clear hW hi hE hS hT0
  go_enter Tryd.func47, Tryd.ntmps47
  go_wp2_with (go_at_call 86; (with_reducible refine cI.mono ?_); rintro e w1 ⟨rfl, rfl⟩)
  go_ret
  exact ⟨rfl, hb0.mono hNn⟩
set_option maxHeartbeats 4000000 in
theorem rl5_yes (rd : List UInt8 → Option K) (hrd : RdOk rd) (i : Nat) (hi : 4 ≤ i) (hi2 : i ≤ 10000) (B cv N Q : Nat) (p : Pd) (ts : List Tr) (v : Value) (w : World) (hS : PS w 55 N Q p ts v) (hts : ts.length ≤ 10000) (hBQ : B ≠ Q) (t : List UInt8) (xs ys : List (List UInt8)) (k L : Nat) (hk : xs.length = k - 2) (hk2 : 2 ≤ k) (hL : ys.length = L - (k + 1)) (hkL : k + 1 ≤ L) (hLc : L ≤ cv) (hL3 : L ≤ 3000) (hW : TxAt w B 0 (wSpan :: t :: (xs ++ [47] :: ys))) (hx : ∀ y ∈ wSpan :: t :: (xs ++ [47] :: ys), y.length ≤ 3000) (hE : Lib.idxOfS ((wSpan :: t :: (xs ++ [47] :: ys)).map fun x => (⟨x.toArray⟩ : ByteArray)) ⟨#[47]⟩ = (k : Int)) (hsp : (num7 t = none ∧ spanS rd (t :: (xs ++ [47] :: ys)) = none) ∨ ∃ n, num7 t = some n ∧ ((both (rd (Lib.join xs [32])) (rd (Lib.join ys [32])) = none ∧ spanS rd (t :: (xs ++ [47] :: ys)) = none) ∨ ∃ a b, rd (Lib.join xs [32]) = some a ∧ rd (Lib.join ys [32]) = some b ∧ spanS rd (t :: (xs ++ [47] :: ys)) = some ⟨3, n, 0, a, b⟩)) :
    Calls Tryd.prog 47 #[.pointer (some ⟨Q, 0, none⟩), .int .i64 i, .slice (some ⟨B, 0, none⟩) L cv] w fun e w' => LineR 55 N Q w ((spanS rd (t :: (xs ++ [47] :: ys))).map fun t => (p, ts ++ [t])) e w' := by
  obtain ⟨i0, hi0, hz0, hz1, hz2⟩ := info_parts info_trg
  have qN : ∀ (w : World) (a : Option Addr) (n c : Nat), (binOp .eql 56 (.slice a n c) (.slice none 0 0)).run Tryd.prog w = .ok (.bool a.isNone) w := fun w a n c => Lib.run_eql_slice_nil w _ _ a n c 0 0 Tryd.underlying56
  have n0 : ((i : Int) == 0) = false := by rw [beq_eq_false_iff_ne]; omega
  have n1 : ((i : Int) == 1) = false := by rw [beq_eq_false_iff_ne]; omega
  have n2 : ((i : Int) == 2) = false := by rw [beq_eq_false_iff_ne]; omega
  have n3 : ((i : Int) == 3) = false := by rw [beq_eq_false_iff_ne]; omega
  have hBl := hW.1
  have hBn : ¬ B = w.heap.size := by omega
  have hQl := hS.lt
  have hNn := hS.nN
  have HV0 : Hid (∀ g, v.ownBlock = some g → g < w.heap.size) := fun g hg => (hS.own.lt g hg).2
  have HS : Hid (PS w 55 N Q p ts v) := hS
  have hb0 : Below w.heap.size w (w.alloc (.cells #[.int .i64 0, .int .i64 0, .int .i64 0, .int .u64 0, .int .u64 0, .int .u64 0, .int .u64 0, .int .u64 0, .bool false, .bool false, .int .u64 0, .int .u64 0, .int .u64 0, .int .u64 0, .int .u64 0, .bool false, .bool false] 55)) := balloc _
  have hT0 := tz w 55 0
  have cx : w.cell? ⟨B, 0, none⟩ = some (strV wSpan) := hW.2 0 _ rfl
  have hlen : (wSpan :: t :: (xs ++ [47] :: ys)).length = L := by simp; omega
  have cI := index_tx (wSpan :: t :: (xs ++ [47] :: ys)) B cv (w.alloc (.cells #[.int .i64 0, .int .i64 0, .int .i64 0, .int .u64 0, .int .u64 0, .int .u64 0, .int .u64 0, .int .u64 0, .bool false, .bool false, .int .u64 0, .int .u64 0, .int .u64 0, .int .u64 0, .int .u64 0, .bool false, .bool false] 55)) (hW.below hb0 hBl) (by omega)
  rw [hE, hlen] at cI
  clear hE hS
  have g1 : ¬ ((k : Int) < 2) := by omega
  have g2 : (k : Int) ≤ cv := by omega
  have g3 : (2 : Int) ≤ k := by omega
  have g4 : (k : Int) + 1 ≤ L := by omega
  have g5 : ¬ cv = 1 := by omega
  have g6 : ¬ cv = 2 := by omega
  have g7 : 2 ≤ cv := by omega
  have g8 : k ≤ cv := by omega
  have hWt : TxAt w B 1 [t] := (hW.tail).take 1
  have hWx : TxAt w B 2 xs := ⟨hBl, fun j y hy => by
    have := hW.2 (2 + j) y (by rw [show 2 + j = j + 1 + 1 by omega, List.getElem?_cons_succ, List.getElem?_cons_succ, List.getElem?_append_left (List.getElem?_eq_some_iff.1 hy).1]; exact hy)
    rwa [Nat.zero_add] at this⟩
  have hWy : ∃ o3, (if cv = k + 1 then some (⟨B, 0, none⟩ : Addr) else some ⟨B, k + 1, none⟩) = some ⟨B, o3, none⟩ ∧ TxAt w B o3 ys := by
    by_cases e : cv = k + 1
    · have : ys = [] := List.length_eq_zero_iff.1 (by omega)
      subst this
      exact ⟨0, by rw [if_pos e], hBl, fun j y hy => by simp at hy⟩
    · refine ⟨k + 1, by rw [if_neg e], hBl, fun j y hy => ?_⟩
      have := hW.2 (k + 1 + j) y (by rw [show k + 1 + j = (k - 2 + (j + 1)) + 1 + 1 by omega, List.getElem?_cons_succ, List.getElem?_cons_succ, List.getElem?_append_right (by omega), show k - 2 + (j + 1) - xs.length = j + 1 by omega, List.getElem?_cons_succ]; exact hy)
      rwa [Nat.zero_add] at this
  obtain ⟨o3, hif, hWy⟩ := hWy
  have hxx : ∀ y ∈ xs, y.length ≤ 3000 := fun y hy => hx y (by simp [hy])
  have hxy : ∀ y ∈ ys, y.length ≤ 3000 := fun y hy => hx y (by simp [hy])
  have htl : t.length ≤ 3000 := hx t (by simp)
  have cN := one_wh t B 1 (cv - 1) (w.alloc (.cells #[.int .i64 0, .int .i64 0, .int .i64 0, .int .u64 0, .int .u64 0, .int .u64 0, .int .u64 0, .int .u64 0, .bool false, .bool false, .int .u64 0, .int .u64 0, .int .u64 0, .int .u64 0, .int .u64 0, .bool false, .bool false] 55)) (hWt.below hb0 hBl) htl
  have cJx := fun w' (hb : Below w.heap.size w w') => rjoin_tx xs B 2 (cv - 2) w' (hWx.below hb hBl) (by omega) hxx
  have cJy := fun w' (hb : Below w.heap.size w w') => rjoin_tx ys B o3 (cv - (k + 1)) w' (hWy.below hb hBl) (by omega) hxy
  rw [hk] at cJx
  rw [hL] at cJy
  have cR := fun s w => rcr_any hrd s w
  obtain ⟨z, hz⟩ : ∃ z, z = ((spanS rd (t :: (xs ++ [47] :: ys))).map fun t => (p, ts ++ [t])) := ⟨_, rfl⟩
  rw [← hz]
  have HZ1 : Hid (num7 t = none → z = none) := fun h => by
    rcases hsp with ⟨_, q⟩ | ⟨n, q, _⟩
    · rw [hz, q]; rfl
    · rw [h] at q; cases q
  have HZ2 : Hid (∀ n, num7 t = some n → (both (rd (Lib.join xs [32])) (rd (Lib.join ys [32])) = none → z = none) ∧ ∀ a b, rd (Lib.join xs [32]) = some a → rd (Lib.join ys [32]) = some b → z = some (p, ts ++ [(⟨3, n, 0, a, b⟩ : Tr)])) := fun n h => by
    rcases hsp with ⟨q, _⟩ | ⟨n', q, q2⟩
    · rw [h] at q; cases q
    · rw [h] at q; cases q
      rcases q2 with ⟨q3, q4⟩ | ⟨a, b, q3, q4, q5⟩
      · refine ⟨fun _ => by rw [hz, q4]; rfl, fun a b h1 h2 => ?_⟩
        rw [h1, h2] at q3; cases q3
      · refine ⟨fun h0 => ?_, fun a' b' h1 h2 => ?_⟩
        · rw [q3, q4] at h0; cases h0
        · rw [q3] at h1; rw [q4] at h2; cases h1; cases h2; rw [hz, q5]; rfl
  clear hsp hz
  generalize Lib.join xs [32] = sx at *
  generalize Lib.join ys [32] = sy at *
  clear hW hx hWt hWx hWy hxx hxy
  rcases cN with ⟨hf, cN⟩ | ⟨n, hf, cN⟩
  · have HZ : Hid (z = none) := HZ1.out hf
    have cX : ∀ w, Calls Tryd.prog 87 #[strV sx] w fun e w' => (∃ c E, e = .returned (.tuple #[kV c, .int .i64 E])) ∧ Below w.heap.size w w' := fun w => (rcr_any hrd sx w).mono fun e w' h => ⟨by obtain ⟨c, E, _, q⟩ := h.1; exact ⟨c, E, q⟩, h.2⟩
    have cY : ∀ w, Calls Tryd.prog 87 #[strV sy] w fun e w' => (∃ c E, e = .returned (.tuple #[kV c, .int .i64 E])) ∧ Below w.heap.size w w' := fun w => (rcr_any hrd sy w).mono fun e w' h => ⟨by obtain ⟨c, E, _, q⟩ := h.1; exact ⟨c, E, q⟩, h.2⟩
    clear hf cR
    go_enter Tryd.func47, Tryd.ntmps47
    go_wp2_with (first
      | (go_at_call 86; (with_reducible refine cI.mono ?_); rintro e w1 ⟨rfl, rfl⟩)
      | (go_at_call 85; (with_reducible refine cN.mono ?_); rintro e w2 ⟨rfl, hb2⟩; have hw2 : Below w.heap.size w w2 := hb0.trans (hb2.mono hb0.size))
      | (go_at_call 75; (with_reducible refine (cJx _ hw2).mono ?_); rintro e w3 ⟨rfl, h9⟩; have h8 := h9.symm; clear h9; subst h8)
      | (go_at_call 87; (with_reducible refine (cX w2).mono ?_); rintro e w4 ⟨⟨ca, ea, rfl⟩, hb4⟩; have hw4 := hw2.trans (hb4.mono hw2.size))
      | (go_at_call 75; (with_reducible refine (cJy _ (hw4.alloc hw4.size _)).mono ?_); rintro e w5 ⟨rfl, h9⟩; have h8 := h9.symm; clear h9; subst h8)
      | (go_at_call 87; (with_reducible refine (cY _).mono ?_); rintro e w6 ⟨⟨cb, eb, rfl⟩, hb6⟩; have hw6 : Below w.heap.size w w6 := (hw4.alloc hw4.size _).trans (hb6.mono (by have := hw4.size; simp; omega))))
    go_ret
    rw [HZ.out]
    exact ⟨rfl, (hw6.alloc hw6.size _).mono hNn⟩
  · have HZ2' := HZ2.out n hf
    cases hx1 : rd sx with
    | none =>
      have HZ : Hid (z = none) := HZ2'.1 (by rw [hx1]; rfl)
      have cX : ∀ w, Calls Tryd.prog 87 #[strV sx] w fun e w' => (∃ c E, (E != (0 : Int)) = true ∧ e = .returned (.tuple #[kV c, .int .i64 E])) ∧ Below w.heap.size w w' := fun w => (rcr_any hrd sx w).mono fun e w' h => ⟨by obtain ⟨c, E, q1, q⟩ := h.1; rcases q1 with ⟨q1, _⟩ | ⟨_, q1⟩; (rw [hx1] at q1; cases q1); exact ⟨c, E, by rw [bne_iff_ne]; exact q1, q⟩, h.2⟩
      have cY : ∀ w, Calls Tryd.prog 87 #[strV sy] w fun e w' => (∃ c E, e = .returned (.tuple #[kV c, .int .i64 E])) ∧ Below w.heap.size w w' := fun w => (rcr_any hrd sy w).mono fun e w' h => ⟨by obtain ⟨c, E, _, q⟩ := h.1; exact ⟨c, E, q⟩, h.2⟩
      clear hf cR hx1 HZ2'
      go_enter Tryd.func47, Tryd.ntmps47
      go_wp2_with (first
        | (go_at_call 86; (with_reducible refine cI.mono ?_); rintro e w1 ⟨rfl, rfl⟩)
        | (go_at_call 85; (with_reducible refine cN.mono ?_); rintro e w2 ⟨⟨g, kk, rfl, hg0, hg1, hn1⟩, hb2⟩; have hw2 : Below w.heap.size w w2 := hb0.trans (hb2.mono hb0.size))
        | (go_at_call 75; (with_reducible refine (cJx _ hw2).mono ?_); rintro e w3 ⟨rfl, h9⟩; have h8 := h9.symm; clear h9; subst h8)
        | (go_at_call 87; (with_reducible refine (cX w2).mono ?_); rintro e w4 ⟨⟨ca, ea, hea, rfl⟩, hb4⟩; have hw4 := hw2.trans (hb4.mono hw2.size))
        | (go_at_call 75; (with_reducible refine (cJy _ (hw4.alloc hw4.size _)).mono ?_); rintro e w5 ⟨rfl, h9⟩; have h8 := h9.symm; clear h9; subst h8)
        | (go_at_call 87; (with_reducible refine (cY _).mono ?_); rintro e w6 ⟨⟨cb, eb, rfl⟩, hb6⟩; have hw6 : Below w.heap.size w w6 := (hw4.alloc hw4.size _).trans (hb6.mono (by have := hw4.size; simp; omega))))
      go_ret
      rw [HZ.out]
      exact ⟨rfl, (hw6.alloc hw6.size _).mono hNn⟩
    | some ca =>
      cases hx2 : rd sy with
      | none =>
        have HZ : Hid (z = none) := HZ2'.1 (by rw [hx1, hx2]; rfl)
        have cX : ∀ w, Calls Tryd.prog 87 #[strV sx] w fun e w' => e = .returned (.tuple #[kV ca, .int .i64 0]) ∧ Below w.heap.size w w' := fun w => (rcr_any hrd sx w).mono fun e w' h => ⟨(by obtain ⟨c, E, q1, q⟩ := h.1; rcases q1 with ⟨q1, rfl⟩ | ⟨q1, _⟩; (rw [hx1] at q1; cases q1; exact q); (rw [hx1] at q1; cases q1)), h.2⟩
        have cY : ∀ w, Calls Tryd.prog 87 #[strV sy] w fun e w' => (∃ c E, (E != (0 : Int)) = true ∧ e = .returned (.tuple #[kV c, .int .i64 E])) ∧ Below w.heap.size w w' := fun w => (rcr_any hrd sy w).mono fun e w' h => ⟨by obtain ⟨c, E, q1, q⟩ := h.1; rcases q1 with ⟨q1, _⟩ | ⟨_, q1⟩; (rw [hx2] at q1; cases q1); exact ⟨c, E, by rw [bne_iff_ne]; exact q1, q⟩, h.2⟩
        clear hf cR hx1 hx2 HZ2'
        go_enter Tryd.func47, Tryd.ntmps47
        go_wp2_with (first
          | (go_at_call 86; (with_reducible refine cI.mono ?_); rintro e w1 ⟨rfl, rfl⟩)
          | (go_at_call 85; (with_reducible refine cN.mono ?_); rintro e w2 ⟨⟨g, kk, rfl, hg0, hg1, hn1⟩, hb2⟩; have hw2 : Below w.heap.size w w2 := hb0.trans (hb2.mono hb0.size))
          | (go_at_call 75; (with_reducible refine (cJx _ hw2).mono ?_); rintro e w3 ⟨rfl, h9⟩; have h8 := h9.symm; clear h9; subst h8)
          | (go_at_call 87; (with_reducible refine (cX w2).mono ?_); rintro e w4 ⟨rfl, hb4⟩; have hw4 := hw2.trans (hb4.mono hw2.size))
          | (go_at_call 75; (with_reducible refine (cJy _ (hw4.alloc hw4.size _)).mono ?_); rintro e w5 ⟨rfl, h9⟩; have h8 := h9.symm; clear h9; subst h8)
          | (go_at_call 87; (with_reducible refine (cY _).mono ?_); rintro e w6 ⟨⟨cb, eb, heb, rfl⟩, hb6⟩; have hw6 : Below w.heap.size w w6 := (hw4.alloc hw4.size _).trans (hb6.mono (by have := hw4.size; simp; omega))))
        go_ret
        rw [HZ.out]
        exact ⟨rfl, (hw6.alloc hw6.size _).mono hNn⟩
      | some cb =>
        have HZ : Hid (z = some (p, ts ++ [(⟨3, n, 0, ca, cb⟩ : Tr)])) := HZ2'.2 ca cb hx1 hx2
        have cX : ∀ w, Calls Tryd.prog 87 #[strV sx] w fun e w' => e = .returned (.tuple #[kV ca, .int .i64 0]) ∧ Below w.heap.size w w' := fun w => (rcr_any hrd sx w).mono fun e w' h => ⟨(by obtain ⟨c, E, q1, q⟩ := h.1; rcases q1 with ⟨q1, rfl⟩ | ⟨q1, _⟩; (rw [hx1] at q1; cases q1; exact q); (rw [hx1] at q1; cases q1)), h.2⟩
        have cY : ∀ w, Calls Tryd.prog 87 #[strV sy] w fun e w' => e = .returned (.tuple #[kV cb, .int .i64 0]) ∧ Below w.heap.size w w' := fun w => (rcr_any hrd sy w).mono fun e w' h => ⟨(by obtain ⟨c, E, q1, q⟩ := h.1; rcases q1 with ⟨q1, rfl⟩ | ⟨q1, _⟩; (rw [hx2] at q1; cases q1; exact q); (rw [hx2] at q1; cases q1)), h.2⟩
        clear hf cR hx1 hx2 HZ2'
        go_enter Tryd.func47, Tryd.ntmps47
        go_wp2_with (first
          | (go_at_call 86; (with_reducible refine cI.mono ?_); rintro e w1 ⟨rfl, rfl⟩)
          | (go_at_call 85; (with_reducible refine cN.mono ?_); rintro e w2 ⟨⟨g, kk, rfl, hg0, hg1, hn1⟩, hb2⟩; have hw2 : Below w.heap.size w w2 := hb0.trans (hb2.mono hb0.size))
          | (go_at_call 75; (with_reducible refine (cJx _ hw2).mono ?_); rintro e w3 ⟨rfl, h9⟩; have h8 := h9.symm; clear h9; subst h8)
          | (go_at_call 87; (with_reducible refine (cX w2).mono ?_); rintro e w4 ⟨rfl, hb4⟩; have hw4 := hw2.trans (hb4.mono hw2.size))
          | (go_at_call 75; (with_reducible refine (cJy _ (hw4.alloc hw4.size _)).mono ?_); rintro e w5 ⟨rfl, h9⟩; have h8 := h9.symm; clear h9; subst h8)
          | (go_at_call 87; (with_reducible refine (cY _).mono ?_); rintro e w6 ⟨rfl, hb6⟩; have hw6 : Below w.heap.size w w6 := (hw4.alloc hw4.size _).trans (hb6.mono (by have := hw4.size; simp; omega))))
        have hT2 := hT0.below hb2
        have hT4 := hT2.below hb4
        have hT5 := hT4.below (balloc (.cells #[.int .u64 ca.mi, .int .u64 ca.ho, .int .u64 ca.da, .int .u64 ca.mn, .int .u64 ca.we, .bool ca.ad, .bool ca.aw] 24))
        have hT6 := hT5.below hb6
        have hT7 := hT6.below (balloc (.cells #[.int .u64 cb.mi, .int .u64 cb.ho, .int .u64 cb.da, .int .u64 cb.mn, .int .u64 cb.we, .bool cb.ad, .bool cb.aw] 24))
        have hb7 : Below w6.heap.size w6 (w6.alloc (.cells #[.int .u64 cb.mi, .int .u64 cb.ho, .int .u64 cb.da, .int .u64 cb.mn, .int .u64 cb.we, .bool cb.ad, .bool cb.aw] 24)) := balloc _
        have hs4 := hb4.size
        have hs6 : w4.heap.size + 1 ≤ w6.heap.size := by have := hb6.size; simpa using this
        have hsq := hT0.lt
        have hs2 := hb2.size
        have r4 : ∀ o, w6.cell? ⟨w4.heap.size, o, none⟩ = (#[.int .u64 ca.mi, .int .u64 ca.ho, .int .u64 ca.da, .int .u64 ca.mn, .int .u64 ca.we, .bool ca.ad, .bool ca.aw])[o]? := fun o => (hb6.cell (p := ⟨w4.heap.size, o, none⟩) (by simp)).trans (by simp)
        have r5 : ∀ o, (w6.alloc (.cells #[.int .u64 cb.mi, .int .u64 cb.ho, .int .u64 cb.da, .int .u64 cb.mn, .int .u64 cb.we, .bool cb.ad, .bool cb.aw] 24)).cell? ⟨w4.heap.size, o, none⟩ = (#[.int .u64 ca.mi, .int .u64 ca.ho, .int .u64 ca.da, .int .u64 ca.mn, .int .u64 ca.we, .bool ca.ad, .bool ca.aw])[o]? := fun o => (hb7.cell (p := ⟨w4.heap.size, o, none⟩) (by show w4.heap.size < _; omega)).trans (r4 o)
        have r6 : ∀ o, (w6.alloc (.cells #[.int .u64 cb.mi, .int .u64 cb.ho, .int .u64 cb.da, .int .u64 cb.mn, .int .u64 cb.we, .bool cb.ad, .bool cb.aw] 24)).cell? ⟨w6.heap.size, o, none⟩ = (#[.int .u64 cb.mi, .int .u64 cb.ho, .int .u64 cb.da, .int .u64 cb.mn, .int .u64 cb.we, .bool cb.ad, .bool cb.aw])[o]? := fun o => by simp
        have rn : (w6.alloc (.cells #[.int .u64 cb.mi, .int .u64 cb.ho, .int .u64 cb.da, .int .u64 cb.mn, .int .u64 cb.we, .bool cb.ad, .bool cb.aw] 24)).cell? ⟨g, 0, none⟩ = some (.int .i64 n) := (hb7.cell (p := ⟨g, 0, none⟩) (by show g < _; omega)).trans ((hb6.cell (p := ⟨g, 0, none⟩) (by simp; omega)).trans (((balloc (w := w4) _).cell (p := ⟨g, 0, none⟩) (by show g < _; omega)).trans ((hb4.cell (p := ⟨g, 0, none⟩) hg1).trans hn1)))
        have hw7 : Below w.heap.size w (w6.alloc (.cells #[.int .u64 cb.mi, .int .u64 cb.ho, .int .u64 cb.da, .int .u64 cb.mn, .int .u64 cb.we, .bool cb.ad, .bool cb.aw] 24)) := hw6.alloc hw6.size _
        have hS7 : PS (w6.alloc (.cells #[.int .u64 cb.mi, .int .u64 cb.ho, .int .u64 cb.da, .int .u64 cb.mn, .int .u64 cb.we, .bool cb.ad, .bool cb.aw] 24)) 55 N Q p ts v := HS.out.below hw7
        have hz7 : w6.heap.size < (w6.alloc (.cells #[.int .u64 cb.mi, .int .u64 cb.ho, .int .u64 cb.da, .int .u64 cb.mn, .int .u64 cb.we, .bool cb.ad, .bool cb.aw] 24)).heap.size := by simp
        generalize w6.alloc (.cells #[.int .u64 cb.mi, .int .u64 cb.ho, .int .u64 cb.da, .int .u64 cb.mn, .int .u64 cb.we, .bool cb.ad, .bool cb.aw] 24) = w7 at *
        have hS0 : SpS g w4.heap.size w6.heap.size n ca cb w7.drew := ⟨rn, rg7 r5, rg7 r6⟩
        have hT7d : TS w7.drew w.heap.size ⟨0, 0, 0, k0, k0⟩ := hT7.below ((Below.refl _ _).drew)
        have HS1 : Hid (PS w7 55 N Q p ts v) := hS7
        have HW1 : Hid (Below N w w7) := hw7.mono hNn
        have hs7 := hw7.size
        have hT7l := hT7.lt
        clear hT2 hT4 hT5 hT6 r4 r5 r6 rn hS7 hb0 hb2 hb4 hb6 hb7 cI cN cJx cJy cX cY hT0 hn1
        refine wp_region_held_drew (S := fun w' => SpS g w4.heap.size w6.heap.size n ca cb w') (by kernel_rfl) hS0 (fun hHeld => ?_)
        refine wpAnyH_take (i := 0) (oi := _) (v := ?_) rfl (by kernel_rfl) (by kernel_rfl) (by kernel_rfl) (fun _ _ _ h => h) (Or.inl ⟨by rfl, ?_⟩) (by assumption) ?_
        rotate_left
        · intro w' hSw
          (try obtain ⟨q0, q1, q2⟩ := hSw)
          go_simp
          all_goals with_reducible rfl
        (try simp only [Act.put, List.setIfInBounds_toArray, List.set_cons_zero, List.set_cons_succ, List.getElem_toArray, List.getElem_cons_zero, List.getElem_cons_succ])
        refine wpAnyH_take (i := 1) (oi := _) (v := ?_) rfl (by kernel_rfl) (by kernel_rfl) (by kernel_rfl) (fun _ _ _ h => h) (Or.inl ⟨by rfl, ?_⟩) (by assumption) ?_
        rotate_left
        · intro w' hSw
          (try obtain ⟨q0, q1, q2⟩ := hSw)
          go_simp
          all_goals with_reducible rfl
        (try simp only [Act.put, List.setIfInBounds_toArray, List.set_cons_zero, List.set_cons_succ, List.getElem_toArray, List.getElem_cons_zero, List.getElem_cons_succ])
        refine wpAnyH_take (i := 2) (oi := _) (v := ?_) rfl (by kernel_rfl) (by kernel_rfl) (by kernel_rfl) (fun _ _ _ h => h) (Or.inl ⟨by rfl, ?_⟩) (by assumption) ?_
        rotate_left
        · intro w' hSw
          (try obtain ⟨q0, q1, q2⟩ := hSw)
          go_simp
          all_goals with_reducible rfl
        (try simp only [Act.put, List.setIfInBounds_toArray, List.set_cons_zero, List.set_cons_succ, List.getElem_toArray, List.getElem_cons_zero, List.getElem_cons_succ])
        refine wpAnyH_take (i := 3) (oi := _) (v := kV ca) rfl (by kernel_rfl) (by kernel_rfl) (by kernel_rfl) (fun _ _ _ h => h) (yieldsIf_load_mid (by rfl) 24 (.tmp 14) rfl w4.heap.size 0 (by with_unfolding_all rfl) [.int .u64 ca.mi, .int .u64 ca.ho, .int .u64 ca.da, .int .u64 ca.mn, .int .u64 ca.we, .bool ca.ad, .bool ca.aw] _ (fun w h => h.2.1) Tryd.underlying24 rfl (by kernel_rfl)) (by assumption) ?_
        (try simp only [Act.put, List.setIfInBounds_toArray, List.set_cons_zero, List.set_cons_succ, List.getElem_toArray, List.getElem_cons_zero, List.getElem_cons_succ])
        refine wpAnyH_take (i := 4) (oi := _) (v := kV cb) rfl (by kernel_rfl) (by kernel_rfl) (by kernel_rfl) (fun _ _ _ h => h) (yieldsIf_load_mid (by rfl) 24 (.tmp 16) rfl w6.heap.size 0 (by with_unfolding_all rfl) [.int .u64 cb.mi, .int .u64 cb.ho, .int .u64 cb.da, .int .u64 cb.mn, .int .u64 cb.we, .bool cb.ad, .bool cb.aw] _ (fun w h => h.2.2) Tryd.underlying24 rfl (by kernel_rfl)) (by assumption) ?_
        (try simp only [Act.put, List.setIfInBounds_toArray, List.set_cons_zero, List.set_cons_succ, List.getElem_toArray, List.getElem_cons_zero, List.getElem_cons_succ])
        refine wpAnyH_take (i := 5) (oi := _) (v := ?_) rfl (by kernel_rfl) (by kernel_rfl) (by kernel_rfl) (fun _ _ _ h => h) (Or.inl ⟨by rfl, ?_⟩) (by assumption) ?_
        rotate_left
        · intro w' hSw
          (try obtain x := hSw)
          go_simp
          all_goals with_reducible rfl
        (try simp only [Act.put, List.setIfInBounds_toArray, List.set_cons_zero, List.set_cons_succ, List.getElem_toArray, List.getElem_cons_zero, List.getElem_cons_succ])
        refine wpAnyH_take (i := 6) (oi := _) (v := ?_) rfl (by kernel_rfl) (by kernel_rfl) (by kernel_rfl) (fun _ _ _ h => h) (Or.inl ⟨by rfl, ?_⟩) (by assumption) ?_
        rotate_left
        · intro w' hSw
          (try obtain x := hSw)
          go_simp
          all_goals with_reducible rfl
        (try simp only [Act.put, List.setIfInBounds_toArray, List.set_cons_zero, List.set_cons_succ, List.getElem_toArray, List.getElem_cons_zero, List.getElem_cons_succ])
        refine wpAnyH_ready (rs := [7]) (by kernel_rfl) (by simp) ?_
        refine AllReadyH.cons rfl (fun K hK => ?_) AllReadyH.nil
        rw [if_pos (by rfl)]
        refine wp_store_mid 55 (.tmp 10) (.tmp 221) rfl w.heap.size 0 (trC ⟨3, n, 0, ca, cb⟩) (by with_unfolding_all rfl) (by with_unfolding_all rfl) (hT7d.there 0 17 (by decide)) (by kernel_rfl) (by simp [Value.oneCell']) ?_
        have hT2 : TS (w7.drew.setCells w.heap.size 0 (trC ⟨3, n, 0, ca, cb⟩).toList) w.heap.size ⟨3, n, 0, ca, cb⟩ := hT7d.put
        have hO2 : OnlyQ w.heap.size w7 (w7.drew.setCells w.heap.size 0 (trC ⟨3, n, 0, ca, cb⟩).toList) := (OnlyQ.of_below ((Below.refl _ _).drew) hT7l).trans (OnlyQ.sets _ _ _ _)
        generalize w7.drew.setCells w.heap.size 0 (trC ⟨3, n, 0, ca, cb⟩).toList = w9 at *
        refine hK.out _ _ ?_ (fun hHeld => ?_)
        · exact hS0.only hO2 (by omega) (by omega) (by omega) (by omega) (by omega) (by omega)
        clear hK K
        (try simp only [Act.put, List.setIfInBounds_toArray, List.set_cons_zero, List.set_cons_succ, List.getElem_toArray, List.getElem_cons_zero, List.getElem_cons_succ])
        refine wpAnyH_done (by kernel_rfl) ?_ _
        clear hHeld hS0
        go_wp2_with fail
        have hS4 : PS w9 55 N Q p ts v := HS1.out.apart hO2 (by omega) (fun e => by have := HV0.out _ e; omega)
        have HB9 : Hid (Below N w w9) := HW1.out.trans (hO2.below hNn (by omega))
        have HS9 : Hid (PS w9 55 N Q p ts v) := hS4
        have HV : Hid (∀ g, v.ownBlock = some g → g < w.heap.size) := HV0.out
        clear hS4 HS1 HW1 hw2 hw4 hw6 hw7 HV0 HS hT7 hT7d
        have hT9 := hT2
        clear hT2
        generalize (⟨3, n, 0, ca, cb⟩ : Tr) = tq at *
        generalize w.heap.size = T at *
        have hTl := hT9.lt
        have hR0 : RgT w9 T tq := range_tr hT9.at
        have hR4 : RgT w9.drew T tq := hR0
        have cS : w9.cell? ⟨Q, 17, none⟩ = some v := by simpa using HS9.out.cel 17
        have hQ4l : Q < w9.heap.size := HS9.out.lt
        have hQ4n : ¬ Q = w9.heap.size := by omega
        clear hT9
        refine wp_region_held_drew (S := fun w' => RgT w' T tq) (by kernel_rfl) hR4 (fun hHeld => ?_)
        refine wpAnyH_take (i := 0) (oi := _) (v := ?_) rfl (by kernel_rfl) (by kernel_rfl) (by kernel_rfl) (fun _ _ _ h => h) (Or.inl ⟨by rfl, ?_⟩) (by assumption) ?_
        rotate_left
        · intro w' hSw
          (try obtain x := hSw)
          go_simp
          all_goals with_reducible rfl
        (try simp only [Act.put, List.setIfInBounds_toArray, List.set_cons_zero, List.set_cons_succ, List.getElem_toArray, List.getElem_cons_zero, List.getElem_cons_succ])
        refine wpAnyH_take (i := 1) (oi := _) (v := ?_) rfl (by kernel_rfl) (by kernel_rfl) (by kernel_rfl) (fun _ _ _ h => h) (Or.inl ⟨by rfl, ?_⟩) (by assumption) ?_
        rotate_left
        · intro w' hSw
          (try obtain x := hSw)
          go_simp
          all_goals with_reducible rfl
        (try simp only [Act.put, List.setIfInBounds_toArray, List.set_cons_zero, List.set_cons_succ, List.getElem_toArray, List.getElem_cons_zero, List.getElem_cons_succ])
        refine wpAnyH_take (i := 2) (oi := _) (v := ?_) rfl (by kernel_rfl) (by kernel_rfl) (by kernel_rfl) (fun _ _ _ h => h) (Or.inl ⟨by rfl, ?_⟩) (by assumption) ?_
        rotate_left
        · intro w' hSw
          (try obtain x := hSw)
          go_simp
          all_goals with_reducible rfl
        (try simp only [Act.put, List.setIfInBounds_toArray, List.set_cons_zero, List.set_cons_succ, List.getElem_toArray, List.getElem_cons_zero, List.getElem_cons_succ])
        refine wpAnyH_take (i := 3) (oi := _) (v := ?_) rfl (by kernel_rfl) (by kernel_rfl) (by kernel_rfl) (fun _ _ _ h => h) (Or.inl ⟨by rfl, ?_⟩) (by assumption) ?_
        rotate_left
        · intro w' hSw
          (try obtain x := hSw)
          go_simp
          all_goals with_reducible rfl
        (try simp only [Act.put, List.setIfInBounds_toArray, List.set_cons_zero, List.set_cons_succ, List.getElem_toArray, List.getElem_cons_zero, List.getElem_cons_succ])
        refine wpAnyH_take (i := 5) (oi := _) (v := trV tq) rfl (by kernel_rfl) (by kernel_rfl) (by kernel_rfl) (fun _ _ _ h => h) (yieldsIf_load_mid (by rfl) 55 (.tmp 10) rfl T 0 (by with_unfolding_all rfl) [.int .i64 tq.k, .int .i64 tq.tg, .int .i64 tq.ac, .int .u64 tq.a.mi, .int .u64 tq.a.ho, .int .u64 tq.a.da, .int .u64 tq.a.mn, .int .u64 tq.a.we, .bool tq.a.ad, .bool tq.a.aw, .int .u64 tq.b.mi, .int .u64 tq.b.ho, .int .u64 tq.b.da, .int .u64 tq.b.mn, .int .u64 tq.b.we, .bool tq.b.ad, .bool tq.b.aw] _ (fun w h => h) Tryd.underlying55 rfl (by kernel_rfl)) (by assumption) ?_
        (try simp only [Act.put, List.setIfInBounds_toArray, List.set_cons_zero, List.set_cons_succ, List.getElem_toArray, List.getElem_cons_zero, List.getElem_cons_succ])
        refine wpAnyH_ready (rs := [4, 6]) (by kernel_rfl) (by simp) ?_
        refine AllReadyH.cons rfl (fun K hK => ?_) (AllReadyH.cons rfl (fun K hK => ?_) AllReadyH.nil)
        · go_simp
          refine hK.out _ _ ?_ (fun hHeld => ?_)
          · exact hR4
          clear hK K
          refine wpAnyH_ready (rs := [6]) (by kernel_rfl) (by simp) ?_
          refine AllReadyH.cons rfl (fun K hK => ?_) AllReadyH.nil
          · go_simp
            refine hK.out _ _ ?_ (fun hHeld => ?_)
            · first | exact RgT.alloc hR4 _ | exact RgT.alloc hR0 _
            clear hK K
            have hS6 : PS (w9.alloc (.cells (trC tq) 55)).drew 55 N Q p ts v := HS9.out.below (bad1 w9 _)
            have hown6 := hS6.own
            refine wpAnyH_ready (rs := [7]) (by kernel_rfl) (by simp) ?_
            refine AllReadyH.cons rfl (fun K hK => ?_) AllReadyH.nil
            · refine step_own_at rfl (.tmp 226) (.tmp 228) 42 rfl N 55 i0 (.agg #[.int .i64 0, .int .i64 0, .int .i64 0, .int .u64 0, .int .u64 0, .int .u64 0, .int .u64 0, .int .u64 0, .bool false, .bool false, .int .u64 0, .int .u64 0, .int .u64 0, .int .u64 0, .int .u64 0, .bool false, .bool false]) 17 120 Tryd.underlying42 hi0 hz0 hz1 hz2 rfl (by decide) v ts.length (celT ts) rfl hown6 ⟨w9.heap.size, 0, none⟩ 1 1 (trC tq).toList rfl rfl (cell17 _ _ tq) (one17 tq) (by unfold maxLen; omega) (by omega) (by simp; omega) ?_
              intro v' w7 hown7 hgrow7 hloc7
              have hR7 : RgT w7 T tq := RgT.kept (w := (w9.alloc (.cells (trC tq) 55)).drew) (RgT.alloc hR0 _) (hgrow7.block T (by simp; omega) (fun e => by have := HV.out _ e.symm; omega))
              have hQ7 := hgrow7.block Q hS6.lt (fun e => hS6.ne e.symm)
              have cS7 : w7.cell? ⟨Q, 17, none⟩ = some v := (World.cell?_of_block (w := (w9.alloc (.cells (trC tq) 55)).drew) (a := ⟨Q, 17, none⟩) hQ7).trans (by simpa using hS6.cel 17)
              have fS7 : w7.frozen? ⟨Q, 17, none⟩ = false := (World.frozen?_of_block (w := (w9.alloc (.cells (trC tq) 55)).drew) (a := ⟨Q, 17, none⟩) hQ7).trans (hS6.fz 17)
              have hA8 := hS6.appended hgrow7 (ts' := ts ++ [tq]) (by rw [List.length_append, celT_snoc]; exact hown7) hloc7
              have hBf := (HB9.out.trans ((bad1 w9 (.cells (trC tq) 55)).mono HS9.out.nN)).trans (hS6.grown_below hgrow7 v')
              obtain ⟨g7, cap7, rfl⟩ := own_succT hown7
              have hQ7l : Q < w7.heap.size := by have := hA8.lt; simpa using this
              refine hK.out _ _ ?_ (fun hHeld => ?_)
              · exact hR7
              clear hK K
              refine wpAnyH_take (i := 8) (oi := _) (v := ?_) rfl (by kernel_rfl) (by kernel_rfl) (by kernel_rfl) (fun _ _ _ h => h) (Or.inl ⟨by rfl, ?_⟩) (by assumption) ?_
              rotate_left
              · intro w' hSw
                (try obtain x := hSw)
                go_simp
                all_goals with_reducible rfl
              (try simp only [Act.put, List.setIfInBounds_toArray, List.set_cons_zero, List.set_cons_succ, List.getElem_toArray, List.getElem_cons_zero, List.getElem_cons_succ])
              refine wpAnyH_take (i := 9) (oi := _) (v := ?_) rfl (by kernel_rfl) (by kernel_rfl) (by kernel_rfl) (fun _ _ _ h => h) (Or.inl ⟨by rfl, ?_⟩) (by assumption) ?_
              rotate_left
              · intro w' hSw
                (try obtain x := hSw)
                go_simp
                all_goals with_reducible rfl
              (try simp only [Act.put, List.setIfInBounds_toArray, List.set_cons_zero, List.set_cons_succ, List.getElem_toArray, List.getElem_cons_zero, List.getElem_cons_succ])
              refine wpAnyH_ready (rs := [10]) (by kernel_rfl) (by simp) ?_
              refine AllReadyH.cons rfl (fun K hK => ?_) AllReadyH.nil
              · go_simp
                refine hK.out _ _ ?_ (fun hHeld => ?_)
                · exact hR7.kept (Below.heap_setCell w7 ⟨Q, 17, none⟩ _ T (by show T ≠ Q; omega))
                clear hK K
                refine wpAnyH_done (by kernel_rfl) ?_ _
                go_wp2
                go_ret
                rw [HZ.out]
                exact ⟨rfl, hBf, _, hA8⟩
        · go_simp
          refine hK.out _ _ ?_ (fun hHeld => ?_)
          · first | exact RgT.alloc hR4 _ | exact RgT.alloc hR0 _
          clear hK K
          refine wpAnyH_ready (rs := [4]) (by kernel_rfl) (by simp) ?_
          refine AllReadyH.cons rfl (fun K hK => ?_) AllReadyH.nil
          · go_simp
            refine hK.out _ _ ?_ (fun hHeld => ?_)
            · first | exact RgT.alloc hR4 _ | exact RgT.alloc hR0 _
            clear hK K
            have hS6 : PS (w9.alloc (.cells (trC tq) 55)).drew 55 N Q p ts v := HS9.out.below (bad1 w9 _)
            have hown6 := hS6.own
            refine wpAnyH_ready (rs := [7]) (by kernel_rfl) (by simp) ?_
            refine AllReadyH.cons rfl (fun K hK => ?_) AllReadyH.nil
            · refine step_own_at rfl (.tmp 226) (.tmp 228) 42 rfl N 55 i0 (.agg #[.int .i64 0, .int .i64 0, .int .i64 0, .int .u64 0, .int .u64 0, .int .u64 0, .int .u64 0, .int .u64 0, .bool false, .bool false, .int .u64 0, .int .u64 0, .int .u64 0, .int .u64 0, .int .u64 0, .bool false, .bool false]) 17 120 Tryd.underlying42 hi0 hz0 hz1 hz2 rfl (by decide) v ts.length (celT ts) rfl hown6 ⟨w9.heap.size, 0, none⟩ 1 1 (trC tq).toList rfl rfl (cell17 _ _ tq) (one17 tq) (by unfold maxLen; omega) (by omega) (by simp; omega) ?_
              intro v' w7 hown7 hgrow7 hloc7
              have hR7 : RgT w7 T tq := RgT.kept (w := (w9.alloc (.cells (trC tq) 55)).drew) (RgT.alloc hR0 _) (hgrow7.block T (by simp; omega) (fun e => by have := HV.out _ e.symm; omega))
              have hQ7 := hgrow7.block Q hS6.lt (fun e => hS6.ne e.symm)
              have cS7 : w7.cell? ⟨Q, 17, none⟩ = some v := (World.cell?_of_block (w := (w9.alloc (.cells (trC tq) 55)).drew) (a := ⟨Q, 17, none⟩) hQ7).trans (by simpa using hS6.cel 17)
              have fS7 : w7.frozen? ⟨Q, 17, none⟩ = false := (World.frozen?_of_block (w := (w9.alloc (.cells (trC tq) 55)).drew) (a := ⟨Q, 17, none⟩) hQ7).trans (hS6.fz 17)
              have hA8 := hS6.appended hgrow7 (ts' := ts ++ [tq]) (by rw [List.length_append, celT_snoc]; exact hown7) hloc7
              have hBf := (HB9.out.trans ((bad1 w9 (.cells (trC tq) 55)).mono HS9.out.nN)).trans (hS6.grown_below hgrow7 v')
              obtain ⟨g7, cap7, rfl⟩ := own_succT hown7
              have hQ7l : Q < w7.heap.size := by have := hA8.lt; simpa using this
              refine hK.out _ _ ?_ (fun hHeld => ?_)
              · exact hR7
              clear hK K
              refine wpAnyH_take (i := 8) (oi := _) (v := ?_) rfl (by kernel_rfl) (by kernel_rfl) (by kernel_rfl) (fun _ _ _ h => h) (Or.inl ⟨by rfl, ?_⟩) (by assumption) ?_
              rotate_left
              · intro w' hSw
                (try obtain x := hSw)
                go_simp
                all_goals with_reducible rfl
              (try simp only [Act.put, List.setIfInBounds_toArray, List.set_cons_zero, List.set_cons_succ, List.getElem_toArray, List.getElem_cons_zero, List.getElem_cons_succ])
              refine wpAnyH_take (i := 9) (oi := _) (v := ?_) rfl (by kernel_rfl) (by kernel_rfl) (by kernel_rfl) (fun _ _ _ h => h) (Or.inl ⟨by rfl, ?_⟩) (by assumption) ?_
              rotate_left
              · intro w' hSw
                (try obtain x := hSw)
                go_simp
                all_goals with_reducible rfl
              (try simp only [Act.put, List.setIfInBounds_toArray, List.set_cons_zero, List.set_cons_succ, List.getElem_toArray, List.getElem_cons_zero, List.getElem_cons_succ])
              refine wpAnyH_ready (rs := [10]) (by kernel_rfl) (by simp) ?_
              refine AllReadyH.cons rfl (fun K hK => ?_) AllReadyH.nil
              · go_simp
                refine hK.out _ _ ?_ (fun hHeld => ?_)
                · exact hR7.kept (Below.heap_setCell w7 ⟨Q, 17, none⟩ _ T (by show T ≠ Q; omega))
                clear hK K
                refine wpAnyH_done (by kernel_rfl) ?_ _
                go_wp2
                go_ret
                rw [HZ.out]
                exact ⟨rfl, hBf, _, hA8⟩
end Pln
end Go.Proofs.YtcaobnmfgnbolabDoor
