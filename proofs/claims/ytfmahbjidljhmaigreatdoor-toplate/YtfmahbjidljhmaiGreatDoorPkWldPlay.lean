/- Some happenings, one behind the other. A request is late just at its time, if it never ran; what has an end besides, ran. A world with some happenings: tidetop.played. What stands at the head of the laws of the whole: some, tick, said. A request is late just at its time: TopLate. -/
import Derived.Test.YtfmahbjidljhmaiGreatDoorPkWldHand
import Derived.Test.YtfmahbjidljhmaiGreatDoorPkLopPlan
import Derived.Test.YtfmahbjidljhmaiGreatDoorPkFrame
import Derived.Test.YtfmahbjidljhmaiGreatDoorPkTak
import Derived.BigQuiet
import Derived.Deep.RegionHeld
namespace Go.Proofs.YtfmahbjidljhmaiGreatDoor
namespace Wld
open Go.RowKit Plain Pln Frm Lpp Crn Lop
set_option maxRecDepth 8000

/-- the world behind the first j happenings -/
noncomputable def playW (p : Pd) (ts : List Tr) (X : Nat → Nat → Int) (S : WS) : Nat → WS
  | 0 => S
  | j + 1 => doW p ts (playW p ts X S j) (X j 0) (X j 1) (X j 2)
theorem WI.play {p : Pd} {ts : List Tr} {S : WS} (hP : PlOk p ts) (g : WI ts S 0 0) (X : Nat → Nat → Int) : ∀ j, WI ts (playW p ts X S j) j (1000 * j)
  | 0 => g
  | j + 1 => (WI.play hP g X j).do hP _ _ _
end Wld
end Go.Proofs.YtfmahbjidljhmaiGreatDoor
namespace Go.Proofs.YtfmahbjidljhmaiGreatDoor
namespace Wld
open Plain Pln Frm Lpp Crn Lop
set_option maxRecDepth 8000

def okL (now : Int) (r : Buf.Rq) : Prop := (r.fat = 4 → r.pod = 0 ∧ r.til ≤ now) ∧ (r.fat = 1 → r.pod = 0 ∧ now < r.til) ∧ (r.fat = 2 → r.pod ≠ 0) ∧ (r.fat = 3 → r.pod ≠ 0) ∧ (r.fat = 5 → r.pod ≠ 0)
def LaI (S : WS) : Prop := ∀ r ∈ S.R, okL S.now r
theorem set_mem {R : List Buf.Rq} {i : Nat} {q x : Buf.Rq} (h : x ∈ R.set i q) : x = q ∨ x ∈ R := by
  rcases List.mem_or_eq_of_mem_set h with a | a
  · exact Or.inr a
  · exact Or.inl a
theorem give_pos {F : Flt.FS} (hF : Flt.Inv F) (h : Flt.giveE F = 0) : 1 ≤ Flt.giveN F := by
  cases hp : Flt.pick (Flt.room F.most) Flt.given F.L 0 none with
  | none => rw [(Flt.give_none hp).2.2] at h; cases h
  | some x =>
    obtain ⟨i, q⟩ := x
    rw [(Flt.give_some hp).2.1]
    obtain ⟨_, h2, _⟩ := Flt.pick_mem hp
    exact (hF.at h2).1
theorem on_late (now : Int) : ∀ (m : Nat) (F : Flt.FS) (R : List Buf.Rq), Flt.Inv F → (∀ r ∈ R, okL now r) → ∀ r ∈ (onF m F R).2, okL now r
  | 0, _, _, _, h => h
  | m + 1, F, R, hF, h => by
    unfold onF
    split
    · rename_i e
      refine on_late now m _ _ (Flt.give_inv hF) (fun x hx => ?_)
      obtain ⟨i, r, hr, ho, hn⟩ := next_run e.1
      rw [(run_next hr ho hn _).1] at hx
      rcases set_mem hx with rfl | hx
      · have := give_pos hF e.2
        refine ⟨fun e => (by cases e), fun e => (by cases e), fun _ => ?_, fun e => (by cases e), fun e => (by cases e)⟩
        show Flt.giveN F ≠ 0
        omega
      · exact h x hx
    · exact h
section
variable {p : Pd} {ts : List Tr} {S : WS} {h k : Nat}
theorem LaI.on (b : LaI S) (hF : Flt.Inv S.F) : LaI (onW S) := on_late S.now _ _ _ hF b
theorem turn_okL {now : Int} {R : List Buf.Rq} {f : Int} {q : Buf.Rq → Bool} (h : ∀ r ∈ R, okL now r) (hq : ∀ r ∈ R, q r = true → okL now ⟨r.id, r.src, r.til, f, r.pod⟩) : ∀ r ∈ Buf.turnL q f R, okL now r := by
  intro x hx
  unfold Buf.turnL at hx
  obtain ⟨r, hr, rfl⟩ := List.mem_map.1 hx
  unfold Buf.turnF
  split
  · rename_i e; exact hq r hr e
  · exact h r hr
theorem LaI.late (b : LaI S) : LaI (lateW S) := by
  intro x hx
  show okL (S.now + 1) x
  have hx : x ∈ Buf.turnL (Buf.isLate (S.now + 1)) 4 S.R := hx
  unfold Buf.turnL at hx
  obtain ⟨r, hr, rfl⟩ := List.mem_map.1 hx
  have hb := b r hr
  unfold Buf.turnF
  split
  · rename_i e
    unfold Buf.isLate at e
    simp at e
    refine ⟨fun _ => ⟨(hb.2.1 e.1).1, e.2⟩, fun e => (by cases e), fun e => (by cases e), fun e => (by cases e), fun e => (by cases e)⟩
  · rename_i e
    unfold Buf.isLate at e
    simp at e
    refine ⟨fun g => ⟨(hb.1 g).1, by have := (hb.1 g).2; omega⟩, fun g => ⟨(hb.2.1 g).1, by have := e g; omega⟩, hb.2.2⟩
theorem LaI.due (b : LaI S) : LaI (dueW p ts S) := by
  unfold dueW
  split
  · exact b
  · exact b
theorem LaI.ticks (hP : PlOk p ts) : ∀ (m : Nat) {S : WS} {h k : Nat}, WI ts S h k → S.now + m ≤ 1099511627776 → LaI S → LaI (tickW p ts m S)
  | 0, _, _, _, _, _, b => b
  | m + 1, S, h, k, g, hn, b => by
    have g1 := g.tick1 hP (by omega)
    exact LaI.ticks hP m g1 (by rw [tick1_now]; omega) ((b.late.due).on ((g.late (by omega)).due hP).f)
theorem LaI.do (hP : PlOk p ts) (g : WI ts S h k) (b : LaI S) (x a n : Int) : LaI (doW p ts S x a n) := by
  unfold doW
  by_cases h1 : x = 1
  · rw [if_pos h1]
    split
    · rename_i e
      have hn : (1 ≤ n ∧ n ≤ 1000) ∧ S.now + n ≤ 1099511627776 := by
        unfold tickE at e
        split at e
        · assumption
        · cases e
      exact LaI.ticks hP _ g (by omega) b
    · exact b
  rw [if_neg h1]
  by_cases h2 : x = 2
  · rw [if_pos h2]; unfold makeW; split <;> exact b
  rw [if_neg h2]
  by_cases h3 : x = 3
  · rw [if_pos h3]; unfold takeW; split <;> exact b
  rw [if_neg h3]
  by_cases h4 : x = 4
  · rw [if_pos h4]; unfold putW; split <;> exact b
  rw [if_neg h4]
  by_cases h5 : x = 5
  · rw [if_pos h5]; exact b
  rw [if_neg h5]
  by_cases h6 : x = 6
  · rw [if_pos h6]; exact b
  rw [if_neg h6]
  by_cases h7 : x = 7
  · rw [if_pos h7]; unfold failW; split <;> exact b
  rw [if_neg h7]
  by_cases h8 : x = 8
  · rw [if_pos h8]; exact b
  rw [if_neg h8]
  by_cases h9 : x = 9
  · rw [if_pos h9]; unfold readyW; split
    · exact LaI.on (S := { S with F := Flt.turnS S.F n 2 }) b (g.ready n 2 (Or.inr rfl)).f
    · exact b
  rw [if_neg h9]
  by_cases h10 : x = 10
  · rw [if_pos h10]; unfold crashW; split
    · refine LaI.on (S := { S with F := Flt.crashS S.F n, R := Buf.turnL (Buf.isAt n) 5 S.R }) (turn_okL b (fun r hr e => ?_)) (g.crash n).f
      unfold Buf.isAt at e
      simp at e
      exact ⟨fun e => (by cases e), fun e => (by cases e), fun e => (by cases e), fun e => (by cases e), fun _ => (b r hr).2.2.1 e.1⟩
    · exact b
  rw [if_neg h10]
  by_cases h11 : x = 11
  · rw [if_pos h11]; unfold askW; split
    · rename_i e
      refine LaI.on (S := { S with R := Buf.askL S.R S.now a n }) (fun r hr => ?_) g.f
      have hr : r ∈ Buf.askL S.R S.now a n := hr
      unfold Buf.askL at hr
      rw [if_pos e] at hr
      rcases List.mem_append.1 hr with q | q
      · exact b r q
      · simp at q
        subst q
        have hn : 1 ≤ n := by
          unfold Buf.askE at e
          split at e
          · cases e
          · rename_i h9
            omega
        exact ⟨fun e => (by cases e), fun _ => ⟨rfl, by show S.now < S.now + n; omega⟩, fun e => (by cases e), fun e => (by cases e), fun e => (by cases e)⟩
    · exact b
  rw [if_neg h11]
  by_cases h12 : x = 12
  · rw [if_pos h12]; unfold doneW; split
    · refine LaI.on (S := { S with R := Buf.doneL S.R n, F := Flt.doneS S.F (Buf.doneN S.R n) }) (fun r hr => ?_) (g.done n).f
      have hr : r ∈ Buf.doneL S.R n := hr
      unfold Buf.doneL at hr
      split at hr
      · exact b r hr
      · rename_i q eq
        split at hr
        · rename_i hq
          rcases set_mem hr with rfl | hr
          · have hm : q ∈ S.R := by
              unfold Buf.reqAt at eq
              split at eq
              · exact List.mem_of_getElem? eq
              · cases eq
            exact ⟨fun e => (by cases e), fun e => (by cases e), fun e => (by cases e), fun _ => (b q hm).2.2.1 hq, fun e => (by cases e)⟩
          · exact b r hr
        · exact b r hr
    · exact b
  rw [if_neg h12]
  by_cases h13 : x = 13
  · rw [if_pos h13]; unfold pauseW; split <;> exact b
  rw [if_neg h13]
  exact b
theorem LaI.play (hP : PlOk p ts) (g : WI ts S 0 0) (b : LaI S) (X : Nat → Nat → Int) : ∀ j, LaI (playW p ts X S j)
  | 0 => b
  | j + 1 => (LaI.play hP g b X j).do hP (WI.play hP g X j) _ _ _
end
end Wld
end Go.Proofs.YtfmahbjidljhmaiGreatDoor
namespace Go.Proofs.YtfmahbjidljhmaiGreatDoor
namespace Wld
open Go.RowKit Plain Pln Frm Lpp Crn Lop
set_option maxRecDepth 8000

theorem newE_nul {p : Pd} {ts : List Tr} {parts sec : Int} (h : newE p ts parts sec = 0) : chkP p ts = 0 ∧ (1 ≤ parts ∧ parts ≤ 20) ∧ (-10000000000 ≤ sec ∧ sec ≤ 10000000000) := by
  unfold newE at h
  split at h
  · rename_i e; exact absurd h e
  · rename_i e
    split at h
    · rename_i g; exact ⟨Decidable.of_not_not e, g⟩
    · cases h
def PyR (w : World) (B D : Nat) (p : Pd) (ts : List Tr) (S : WS) (X : Nat → Nat → Int) (m : Nat) (i : Value) (wr : World) : Prop :=
  ∃ (j : Nat) (c : Pc), j ≤ m ∧ i = .int .i64 j ∧ WAt wr B c p ts (playW p ts X S j) ∧ c.x.D = D ∧ Below w.heap.size w wr
/-- what played answers where there is a world -/
def PyA (p : Pd) (ts : List Tr) (N : Nat) (most sec : Int) (X : Nat → Nat → Int) (m : Nat) (w : World) (e : Ending) (w' : World) : Prop :=
  ∃ B c, e = .returned (.pointer (some ⟨c.x.D, 0, none⟩)) ∧ w.heap.size ≤ B ∧ WAt w' B c (noN p) ts (playW (noN p) ts X (newW (noN p) ts N most sec) m) ∧ Below w.heap.size w w'
section
variable (p : Pd) (ta : Option Addr) (tc : Nat) (ts : List Tr) (parts most sec : Int) (ao : Option Addr) (m cap : Nat) (X : Nat → Nat → Int) (w : World)
set_option maxHeartbeats 4000000 in
theorem py_no (hB : Lai.BdsAt w) (hi : PdI p) (hl : p.nm.length ≤ 9223372036854775807) (hT : TrsAt w ta ts) (hc : newE p ts parts sec ≠ 0) :
    Calls Tryz.prog 28 #[planV p (.slice ta ts.length tc), .int .i64 parts, .int .i64 most, .int .i64 sec, .slice ao m cap] w fun e w' => e = .returned (.pointer none) ∧ Below w.heap.size w w' := by
  obtain ⟨W, hW⟩ : ∃ W, W = w.alloc (.cells (planC p (.slice ta ts.length tc)) 26) := ⟨_, rfl⟩
  have hPl : PlAt W w.heap.size p (.slice ta ts.length tc) := by rw [hW]; exact plan_new _ _ _ _
  have hbW : Below w.heap.size w W := by rw [hW]; exact (Below.refl _ _).alloc (Nat.le_refl _) _
  have HW : Hid (W = w.alloc (.cells (planC p (.slice ta ts.length tc)) 26)) := hW
  have HB : Hid (Below w.heap.size w W) := hbW
  have HN : Hid (∀ w', Below w.heap.size w w' → Calls Tryz.prog 8 #[planV p (.slice ta ts.length tc), .int .i64 parts, .int .i64 most, .int .i64 sec] w' fun e w'' => e = .returned (.tuple #[.pointer none, .int .i64 (newE p ts parts sec)]) ∧ Below w'.heap.size w' w'') := fun w' hb => new_no p ta tc ts parts most sec w' (hB.below hb (Nat.le_refl _)) hi hl (hT.below hb (Nat.le_refl _)) hc
  have dne : (newE p ts parts sec != 0) = true := by rw [bne_iff_ne]; exact hc
  clear hW hbW hB hi hl hT hc
  generalize newE p ts parts sec = E at *
  go_enter Tryz.func28, Tryz.ntmps28
  go_upto_region 1 with fail
  rw [← HW.out]
  clear HW
  go_wp2_with (first
    | (with_reducible refine wp_plan hPl (by with_unfolding_all rfl) ?_)
    | (go_at_call 8; have cN := HN.out W HB.out; (with_reducible refine cN.mono ?_); rintro e w2 ⟨rfl, hb2⟩; clear cN))
  go_ret
  exact ⟨rfl, HB.out.trans (hb2.mono HB.out.size)⟩
set_option maxHeartbeats 4000000 in
theorem py_many (N : Nat) (hB : Lai.BdsAt w) (hi : PdI p) (hl : p.nm.length ≤ 9223372036854775807) (hT : TrsAt w ta ts) (hc : chkP p ts = 0) (hn : 1 ≤ N ∧ N ≤ 20) (hs : -10000000000 ≤ sec ∧ sec ≤ 10000000000) (hm : 60 < m) :
    Calls Tryz.prog 28 #[planV p (.slice ta ts.length tc), .int .i64 (N : Int), .int .i64 most, .int .i64 sec, .slice ao m cap] w fun e w' => e = .returned (.pointer none) ∧ Below w.heap.size w w' := by
  obtain ⟨W, hW⟩ : ∃ W, W = w.alloc (.cells (planC p (.slice ta ts.length tc)) 26) := ⟨_, rfl⟩
  have hPl : PlAt W w.heap.size p (.slice ta ts.length tc) := by rw [hW]; exact plan_new _ _ _ _
  have hbW : Below w.heap.size w W := by rw [hW]; exact (Below.refl _ _).alloc (Nat.le_refl _) _
  have HW : Hid (W = w.alloc (.cells (planC p (.slice ta ts.length tc)) 26)) := hW
  have HB : Hid (Below w.heap.size w W) := hbW
  have HN : Hid (∀ w', Below w.heap.size w w' → Calls Tryz.prog 8 #[planV p (.slice ta ts.length tc), .int .i64 (N : Int), .int .i64 most, .int .i64 sec] w' (NewWA p ts N most sec w')) := fun w' hb => new_yes p ta tc ts N most sec w' (hB.below hb (Nat.le_refl _)) hi hl (hT.below hb (Nat.le_refl _)) hc hn hs
  have hm' : (60 : Int) < (m : Int) := by omega
  clear hW hbW hB hi hl hT hc
  go_enter Tryz.func28, Tryz.ntmps28
  go_upto_region 1 with fail
  rw [← HW.out]
  clear HW
  go_wp2_with (first
    | (with_reducible refine wp_plan hPl (by with_unfolding_all rfl) ?_)
    | (go_at_call 8; have cN := HN.out W HB.out; (with_reducible refine cN.mono ?_); rintro e w2 ⟨c, rfl, hA2, hb2⟩; clear cN; have HX2 : Hid (WAt w2 W.heap.size c (noN p) ts (newW (noN p) ts N most sec) ∧ Below w.heap.size w w2) := ⟨hA2, HB.out.trans (hb2.mono HB.out.size)⟩; clear hA2 hb2))
  go_ret
  exact ⟨rfl, HX2.out.2⟩
set_option maxHeartbeats 8000000 in
theorem py_yes (N : Nat) (hB : Lai.BdsAt w) (hi : PdI p) (hl : p.nm.length ≤ 9223372036854775807) (hT : TrsAt w ta ts) (hc : chkP p ts = 0) (hU : ∀ t ∈ ts, TrU t) (hn : 1 ≤ N ∧ N ≤ 20) (hs : -10000000000 ≤ sec ∧ sec ≤ 10000000000) (hm : m ≤ 60) (hH : Frm.RowsIn w ao m 3 X) :
    Calls Tryz.prog 28 #[planV p (.slice ta ts.length tc), .int .i64 (N : Int), .int .i64 most, .int .i64 sec, .slice ao m cap] w (PyA p ts N most sec X m w) := by
  obtain ⟨W, hW⟩ : ∃ W, W = w.alloc (.cells (planC p (.slice ta ts.length tc)) 26) := ⟨_, rfl⟩
  have hPl : PlAt W w.heap.size p (.slice ta ts.length tc) := by rw [hW]; exact plan_new _ _ _ _
  have hbW : Below w.heap.size w W := by rw [hW]; exact (Below.refl _ _).alloc (Nat.le_refl _) _
  have HW : Hid (W = w.alloc (.cells (planC p (.slice ta ts.length tc)) 26)) := hW
  have HB : Hid (Below w.heap.size w W) := hbW
  have HN : Hid (∀ w', Below w.heap.size w w' → Calls Tryz.prog 8 #[planV p (.slice ta ts.length tc), .int .i64 (N : Int), .int .i64 most, .int .i64 sec] w' (NewWA p ts N most sec w')) := fun w' hb => new_yes p ta tc ts N most sec w' (hB.below hb (Nat.le_refl _)) hi hl (hT.below hb (Nat.le_refl _)) hc hn hs
  have hm' : ¬ (60 : Int) < (m : Int) := by omega
  have hP := ok_noN (plOk_of hc)
  have hI0 : WI ts (newW (noN p) ts N most sec) 0 0 := WI.new _ _ _ _ _ hn hs
  have HH : Hid (Frm.RowsIn w ao m 3 X) := hH
  clear hW hbW hB hi hl hT hc hH
  go_enter Tryz.func28, Tryz.ntmps28
  go_upto_region 1 with fail
  rw [← HW.out]
  clear HW
  go_wp2_with (first
    | (with_reducible refine wp_plan hPl (by with_unfolding_all rfl) ?_)
    | (go_at_call 8; have cN := HN.out W HB.out; (with_reducible refine cN.mono ?_); rintro e w2 ⟨c, rfl, hA2, hb2⟩; clear cN; have HX2 : Hid (WAt w2 W.heap.size c (noN p) ts (newW (noN p) ts N most sec) ∧ Below w.heap.size w w2) := ⟨hA2, HB.out.trans (hb2.mono HB.out.size)⟩; clear hA2 hb2))
  have HL : Hid (w.heap.size ≤ W.heap.size) := HB.out.size
  have HF : Hid (∀ B c wr, w.heap.size ≤ B → WAt wr B c (noN p) ts (playW (noN p) ts X (newW (noN p) ts N most sec) m) → Below w.heap.size w wr → PyA p ts N most sec X m w (.returned (.pointer (some ⟨c.x.D, 0, none⟩))) wr) := fun B c wr h1 h2 h3 => ⟨B, c, rfl, h1, h2, h3⟩
  clear HN hPl HB
  generalize newW (noN p) ts N most sec = S0 at *
  generalize hD : c.x.D = D at *
  go_loopw [32] (fun i wr => PyR w W.heap.size D (noN p) ts S0 X m i wr) (fun i _ => m - (intOf i).toNat)
  case atStart => exact ⟨0, c, by omega, rfl, HX2.out.1, hD, HX2.out.2⟩
  case round =>
    clear hD HX2 c
    obtain ⟨j, c1, hj, rfl, hA, hD1, hbr⟩ := hrel
    by_cases hlt : j < m
    · have hlt' : (j : Int) < (m : Int) := by omega
      obtain ⟨g, off, rfl, hgl, hcx⟩ := (Frm.RowsIn.below HH.out hbr (Nat.le_refl _)) j hlt
      have x0 := (hcx 0 (by omega)).1
      have x1 := (hcx 1 (by omega)).1
      have x2 := (hcx 2 (by omega)).1
      simp only [Nat.add_zero] at x0
      rw [← Nat.add_assoc] at x1 x2
      obtain ⟨V, hV⟩ : ∃ V, V = wr.alloc (.cells #[.int .i64 (X j 0), .int .i64 (X j 1), .int .i64 (X j 2)] 43) := ⟨_, rfl⟩
      have hbV : Below wr.heap.size wr V := by rw [hV]; exact (Below.refl _ _).alloc (Nat.le_refl _) _
      have y0 : V.cell? ⟨wr.heap.size, 0, none⟩ = some (.int .i64 (X j 0)) := by rw [hV]; simp
      have y1 : V.cell? ⟨wr.heap.size, 1, none⟩ = some (.int .i64 (X j 1)) := by rw [hV]; simp
      have y2 : V.cell? ⟨wr.heap.size, 2, none⟩ = some (.int .i64 (X j 2)) := by rw [hV]; simp
      have HV : Hid (V = wr.alloc (.cells #[.int .i64 (X j 0), .int .i64 (X j 1), .int .i64 (X j 2)] 43)) := hV
      have HX1 : Hid (WAt V W.heap.size c1 (noN p) ts (playW (noN p) ts X S0 j) ∧ Below w.heap.size w V) := ⟨hA.below hbV, hbr.trans (hbV.mono hbr.size)⟩
      have cD := do_any W.heap.size c1 (noN p) ts (playW (noN p) ts X S0 j) j (1000 * j) (X j 0) (X j 1) (X j 2) V HX1.out.1 (WI.play hP hI0 X j) (by omega) (by omega) hP hU
      rw [hD1] at cD
      clear hA hbr hbV hV hcx
      go_upto_region 7 with fail
      rw [← HV.out]
      clear HV x0 x1 x2
      generalize wr.heap.size = C at *
      go_wp2_with (go_at_call 11; (with_reducible refine cD.mono ?_); rintro e w4 ⟨rfl, c4, a4, d4, m4⟩; clear cD; have HX4 : Hid (WAt w4 W.heap.size c4 (noN p) ts (playW (noN p) ts X S0 (j + 1)) ∧ c4.x.D = D ∧ Below w.heap.size w w4) := ⟨a4, d4.trans hD1, HX1.out.2.trans (m4.below (fun k hk => Nat.le_trans HL.out (HX1.out.1.low hk).1) HX1.out.2.size)⟩; clear a4 d4 m4)
      go_roundw
      case rel => exact ⟨j + 1, c4, hlt, rfl, HX4.out.1, HX4.out.2.1, HX4.out.2.2⟩
      case measure => simp [intOf]; omega
    · obtain rfl : j = m := by omega
      have HG : Hid (PyA p ts N most sec X j w (.returned (.pointer (some ⟨D, 0, none⟩))) wr) := by
        have h9 := HF.out W.heap.size c1 wr HL.out hA hbr
        rw [hD1] at h9
        exact h9
      go_wp2
      go_ret
      exact HG.out
end
end Wld
end Go.Proofs.YtfmahbjidljhmaiGreatDoor
namespace Go.Proofs.YtfmahbjidljhmaiGreatDoor
namespace Wld
open Go.RowKit Plain Pln Frm Lpp Crn Lop
set_option maxRecDepth 8000

theorem r0_chk : chkP Lop.p0 [Lop.t0] = 0 := by kernel_rfl
theorem r0_I : PdI Lop.p0 := by constructor <;> simp [I, Lop.p0]
theorem r0_ok : PlOk (noN Lop.p0) [Lop.t0] := ok_noN (plOk_of r0_chk)
theorem r0_k : Us Lop.k0 := by constructor <;> simp [U, Lop.k0]
theorem r0_U : ∀ t ∈ [Lop.t0], TrU t := by
  intro t ht
  simp at ht
  subst ht
  exact ⟨by simp [I, Lop.t0], by simp [I, Lop.t0], by simp [I, Lop.t0], r0_k, r0_k⟩
theorem some_any (w : World) : Calls Tryz.prog 54 #[] w fun e w' => ∃ b, e = .returned (planV Lop.p0 (.slice (some ⟨b, 0, none⟩) 1 1)) ∧ TrsAt w' (some ⟨b, 0, none⟩) [Lop.t0] ∧ w.heap.size ≤ b ∧ Below w.heap.size w w' := by
  have hX := px_new w 26
  have hb2 : ∀ o : Obj, Below (w.alloc (.cells #[.string ⟨#[]⟩, .int .i64 0, .int .i64 0, .int .i64 0, .int .i64 0, .int .i64 0, .int .i64 0, .int .i64 0, .int .i64 0, .int .i64 0, .int .i64 0, .int .i64 0, .int .i64 0, .int .i64 0, .int .i64 0, .int .i64 0, .int .i64 0, .slice none 0 0] 26)).heap.size (w.alloc (.cells #[.string ⟨#[]⟩, .int .i64 0, .int .i64 0, .int .i64 0, .int .i64 0, .int .i64 0, .int .i64 0, .int .i64 0, .int .i64 0, .int .i64 0, .int .i64 0, .int .i64 0, .int .i64 0, .int .i64 0, .int .i64 0, .int .i64 0, .int .i64 0, .slice none 0 0] 26)) ((w.alloc (.cells #[.string ⟨#[]⟩, .int .i64 0, .int .i64 0, .int .i64 0, .int .i64 0, .int .i64 0, .int .i64 0, .int .i64 0, .int .i64 0, .int .i64 0, .int .i64 0, .int .i64 0, .int .i64 0, .int .i64 0, .int .i64 0, .int .i64 0, .int .i64 0, .slice none 0 0] 26)).alloc o) := fun o => (Below.refl _ _).alloc (Nat.le_refl _) o
  have hX2 := fun o => hX.below (hb2 o) (by simp)
  go_enter Tryz.func54, Tryz.ntmps54
  go_wp2_with (with_reducible refine wp_setPx (hX2 _) (p' := Lop.p0) (v' := .slice (some ⟨w.heap.size + 1, 0, none⟩) 1 1) rfl (by with_unfolding_all rfl) (by with_unfolding_all rfl) ?_; intro w9 hX9 ho9)
  refine finPx Tryz.results54 (Or.inl rfl) rfl rfl hX9 ⟨w.heap.size + 1, rfl, ?_, Nat.le_succ _, ?_⟩
  · refine trs_one (Nat.lt_of_lt_of_le (by simp) ho9.size) (fun j => ?_)
    rw [ho9.cell (a := ⟨w.heap.size + 1, j, none⟩) (by simp) (by simp)]
    simp
    rfl
  · exact (((Below.refl _ _).alloc (Nat.le_refl _) _).alloc (by simp) _).trans (ho9.below (Nat.le_refl _) (by simp; omega))
theorem tickf_any (n : Int) (w : World) : Calls Tryz.prog 55 #[.int .i64 n] w fun e w' => e = .returned (.agg #[.int .i64 1, .int .i64 0, .int .i64 n]) ∧ Below w.heap.size w w' := by
  go_enter Tryz.func55, Tryz.ntmps55
  go_wp2
  (try simp only [Exit.inBlock, Exit.then])
  refine bodyPost_ret (v := .agg #[.int .i64 1, .int .i64 0, .int .i64 n]) ?_ rfl ⟨rfl, (Below.refl _ _).alloc (Nat.le_refl _) _⟩
  simp [results, Tryz.results55, go_sem]
noncomputable def s0 : WS := newW (noN Lop.p0) [Lop.t0] 1 2 0
noncomputable def s1 : WS := doW (noN Lop.p0) [Lop.t0] s0 4 0 25
noncomputable def s2 : WS := doW (noN Lop.p0) [Lop.t0] s1 1 0 1
noncomputable def sK (k : Nat) : WS := { s2 with qL := (Que.news 0 25).drop k }
noncomputable def sE : WS := doW (noN Lop.p0) [Lop.t0] (sK 25) 1 0 9
theorem s1_def : doW (noN Lop.p0) [Lop.t0] s0 4 0 25 = s1 := by unfold s1; rfl
theorem s2_def : doW (noN Lop.p0) [Lop.t0] s1 1 0 1 = s2 := by unfold s2; rfl
theorem sE_def : doW (noN Lop.p0) [Lop.t0] (sK 25) 1 0 9 = sE := by unfold sE; rfl
theorem s_E1 : doE s0 4 0 25 = 0 := by kernel_rfl
theorem s_E2 : doE s1 1 0 1 = 0 := by kernel_rfl
theorem s_tg : s2.tg = 3 := by kernel_rfl
theorem s_len : s2.F.L.length = 3 := by kernel_rfl
theorem s_q : s2.qL = Que.news 0 25 := by kernel_rfl
theorem s_zero : sK 0 = s2 := by
  have e : (Que.news 0 25).drop 0 = s2.qL := by rw [s_q]; rfl
  unfold sK
  rw [e]
theorem sE_tg : sE.tg = 0 := by kernel_rfl
theorem sE_len : sE.F.L.length = 0 := by kernel_rfl
theorem s_I0 : WI [Lop.t0] s0 0 0 := WI.new _ _ _ _ _ (by omega) (by omega)
theorem s_I1 : WI [Lop.t0] s1 1 1000 := by rw [← s1_def]; exact s_I0.do r0_ok 4 0 25
theorem s_I2 : WI [Lop.t0] s2 2 2000 := by rw [← s2_def]; exact s_I1.do r0_ok 1 0 1
theorem back_free {L : List Que.M} (now : Int) (h : ∀ x ∈ L, x.tk = false) : Que.backL now L = L := by
  unfold Que.backL
  conv => rhs; rw [← List.map_id L]
  refine List.map_congr_left (fun x hx => ?_)
  unfold Que.back
  rw [if_neg (by rw [h x hx]; simp)]
  rfl
theorem lease_first {m : Que.M} {L : List Que.M} {now n : Int} (h : ∀ x ∈ m :: L, x.tk = false) (hn : 1 ≤ n ∧ n ≤ 100000) : leaseE (m :: L) now n = 0 ∧ leaseL (m :: L) now n = ⟨m.id, now + n, true⟩ :: L := by
  have hf : (m :: L).findIdx? Que.free = some 0 := by rw [List.findIdx?_cons]; simp [Que.free, h m (by simp)]
  unfold leaseE leaseL
  rw [if_neg (by simpa using hn), if_neg (by simpa using hn), back_free now h, hf]
  simp
theorem ack_first {id : Int} {L : List Que.M} {now n : Int} (h : ∀ x ∈ L, x.tk = false) (hn : 1 ≤ n) : ackE (⟨id, now + n, true⟩ :: L) now id = 0 ∧ ackL (⟨id, now + n, true⟩ :: L) now id = L := by
  have hb : Que.backL now (⟨id, now + n, true⟩ :: L) = ⟨id, now + n, true⟩ :: L := by
    have := back_free now h
    unfold Que.backL at *
    rw [List.map_cons, this]
    unfold Que.back
    rw [if_neg (by simp; omega)]
  have hf : (⟨id, now + n, true⟩ :: L : List Que.M).findIdx? (Que.isId id) = some 0 := by rw [List.findIdx?_cons]; simp [Que.isId]
  unfold ackE ackL
  rw [hb, hf]
  simp
theorem news_free {x : Que.M} (h : x ∈ Que.news 0 25) : x.tk = false := by
  unfold Que.news at h
  simp at h
  obtain ⟨_, _, rfl⟩ := h
  rfl
theorem news_at {k : Nat} (hk : k < 25) : (Que.news 0 25).drop k = ⟨(k : Int) + 1, 0, false⟩ :: (Que.news 0 25).drop (k + 1) := by
  have hl : (Que.news 0 25).length = 25 := Que.news_len 0 25
  rw [List.drop_eq_getElem_cons (by omega)]
  congr 1
  unfold Que.news
  simp
  omega
/-- a message is lent, and done -/
theorem round_any {k : Nat} (hk : k < 25) : doE (sK k) 5 0 5 = 0 ∧ doE (doW (noN Lop.p0) [Lop.t0] (sK k) 5 0 5) 6 0 ((k : Int) + 1) = 0 ∧ doW (noN Lop.p0) [Lop.t0] (doW (noN Lop.p0) [Lop.t0] (sK k) 5 0 5) 6 0 ((k : Int) + 1) = sK (k + 1) := by
  have e0 := news_at hk
  have hf : ∀ x ∈ (⟨(k : Int) + 1, 0, false⟩ : Que.M) :: (Que.news 0 25).drop (k + 1), x.tk = false := fun x hx => by
    rw [← e0] at hx
    exact news_free (List.mem_of_mem_drop hx)
  obtain ⟨a1, a2⟩ := lease_first (now := s2.now) (n := 5) hf (by omega)
  obtain ⟨b1, b2⟩ := ack_first (id := (k : Int) + 1) (now := s2.now) (n := 5) (fun x hx => hf x (List.mem_cons_of_mem _ hx)) (by omega)
  have c1 : doE (sK k) 5 0 5 = leaseE ((Que.news 0 25).drop k) s2.now 5 := rfl
  have c2 : doW (noN Lop.p0) [Lop.t0] (sK k) 5 0 5 = { s2 with qL := leaseL ((Que.news 0 25).drop k) s2.now 5 } := rfl
  rw [c1, c2, e0, a1, a2]
  refine ⟨rfl, ?_, ?_⟩
  · show ackE (⟨(k : Int) + 1, s2.now + 5, true⟩ :: (Que.news 0 25).drop (k + 1)) s2.now ((k : Int) + 1) = 0
    exact b1
  · show ({ s2 with qL := ackL (⟨(k : Int) + 1, s2.now + 5, true⟩ :: (Que.news 0 25).drop (k + 1)) s2.now ((k : Int) + 1) } : WS) = sK (k + 1)
    rw [b2]
    rfl
theorem newr (b : Nat) (w : World) (hB : Lai.BdsAt w) (hT : TrsAt w (some ⟨b, 0, none⟩) [Lop.t0]) : Calls Tryz.prog 8 #[planV Lop.p0 (.slice (some ⟨b, 0, none⟩) 1 1), .int .i64 1, .int .i64 2, .int .i64 0] w (NewWA Lop.p0 [Lop.t0] 1 2 0 w) :=
  new_yes Lop.p0 (some ⟨b, 0, none⟩) 1 [Lop.t0] 1 2 0 w hB r0_I (by simp [Lop.p0]) hT r0_chk (by omega) (by omega)
/-- what happens to the world of some -/
theorem doS {w0 : World} (B : Nat) (c : Pc) (S : WS) (h k : Nat) (x a n E : Int) (w : World) (hA : WAt w B c (noN Lop.p0) [Lop.t0] S) (hI : WI [Lop.t0] S h k) (hh : h ≤ 1000) (hk : k ≤ 100000) (hE : doE S x a n = E) (hB : w0.heap.size ≤ B) (hb : Below w0.heap.size w0 w) :
    Calls Tryz.prog 11 #[.pointer (some ⟨c.x.D, 0, none⟩), .agg #[.int .i64 x, .int .i64 a, .int .i64 n]] w fun e w' => e = .returned (.int .i64 E) ∧ ∃ c', WAt w' B c' (noN Lop.p0) [Lop.t0] (doW (noN Lop.p0) [Lop.t0] S x a n) ∧ c'.x.D = c.x.D ∧ Below w0.heap.size w0 w' := by
  refine (do_any B c (noN Lop.p0) [Lop.t0] S h k x a n w hA hI hh hk r0_ok r0_U).mono ?_
  rintro e w' ⟨rfl, c', a', d', m'⟩
  exact ⟨by rw [hE], c', a', d', hb.trans (m'.below (fun k hk => Nat.le_trans hB (hA.low hk).1) hb.size)⟩
def SdR (w : World) (B D : Nat) (i : Value) (wr : World) : Prop := ∃ (k : Nat) (c1 : Pc), k ≤ 25 ∧ i = .int .i64 ((k : Int) + 1) ∧ WAt wr B c1 (noN Lop.p0) [Lop.t0] (sK k) ∧ WI [Lop.t0] (sK k) (2 + 2 * k) (1000 * (2 + 2 * k)) ∧ c1.x.D = D ∧ Below w.heap.size w wr
set_option maxHeartbeats 8000000 in
theorem said_any (w : World) (hB : Lai.BdsAt w) : Calls Tryz.prog 25 #[] w fun e w' => e = .returned (.bool true) ∧ Below w.heap.size w w' := by
  have cS := some_any w
  have HB : Hid (Lai.BdsAt w) := hB
  clear hB
  go_enter Tryz.func25, Tryz.ntmps25
  go_wp2_with (first
    | (go_at_call 54; (with_reducible refine cS.mono ?_); rintro e w1 ⟨b, rfl, hT1, hb, hb1⟩; clear cS)
    | (go_at_call 8; have cN := newr b w1 (HB.out.below hb1 (Nat.le_refl _)) hT1; (with_reducible refine cN.mono ?_); rintro e w2 ⟨c, rfl, hA2, hb2⟩; clear cN; have HX2 : Hid (WAt w2 w1.heap.size c (noN Lop.p0) [Lop.t0] s0 ∧ w.heap.size ≤ w1.heap.size ∧ Below w.heap.size w w2) := ⟨hA2, hb1.size, hb1.trans (hb2.mono hb1.size)⟩; clear hA2 hb2 hT1; generalize hD : c.x.D = D at *)
    | (go_at_call 11; have cD := doS (w0 := w) w1.heap.size c3 s1 1 1000 1 0 1 0 w4 HX4.out.1 s_I1 (by omega) (by omega) s_E2 HX2.out.2.1 HX4.out.2; rw [hD3, s2_def] at cD; (with_reducible refine cD.mono ?_); rintro e w5 ⟨rfl, c5, a5, d5, b5⟩; clear cD; have HX5 : Hid (WAt w5 w1.heap.size c5 (noN Lop.p0) [Lop.t0] s2 ∧ Below w.heap.size w w5) := ⟨a5, b5⟩; have hD5 : c5.x.D = D := d5; clear a5 d5 b5)
    | (go_at_call 11; have cD := doS (w0 := w) w1.heap.size c s0 0 0 4 0 25 0 w2 HX2.out.1 s_I0 (by omega) (by omega) s_E1 HX2.out.2.1 HX2.out.2.2; rw [hD, s1_def] at cD; (with_reducible refine cD.mono ?_); rintro e w3 ⟨rfl, c3, a3, d3, b3⟩; clear cD; have HX3 : Hid (WAt w3 w1.heap.size c3 (noN Lop.p0) [Lop.t0] s1 ∧ Below w.heap.size w w3) := ⟨a3, b3⟩; have hD3 : c3.x.D = D := d3; clear a3 d3 b3)
    | (go_at_call 55; have cT := tickf_any 1 w3; (with_reducible refine cT.mono ?_); rintro e w4 ⟨rfl, hb4⟩; clear cT; have HX4 : Hid (WAt w4 w1.heap.size c3 (noN Lop.p0) [Lop.t0] s1 ∧ Below w.heap.size w w4) := ⟨HX3.out.1.below hb4, HX3.out.2.trans (hb4.mono HX3.out.2.size)⟩; clear hb4)
    | (go_at_call 20; have cX := target_any w1.heap.size c5 (noN Lop.p0) [Lop.t0] s2 w5 HX5.out.1; rw [hD5, s_tg] at cX; (with_reducible refine cX.mono ?_); rintro e w' ⟨rfl, h9⟩; have h8 := h9.symm; clear h9; subst h8; clear cX)
    | (go_at_call 13; have cX := pods_any w1.heap.size c5 (noN Lop.p0) [Lop.t0] s2 w5 HX5.out.1 (by rw [s_len]; omega); rw [hD5, s_len] at cX; (with_reducible refine cX.mono ?_); rintro e w6 ⟨rfl, hR6, hb6⟩; clear cX; have HX6 : Hid (WAt w6 w1.heap.size c5 (noN Lop.p0) [Lop.t0] s2 ∧ Below w.heap.size w w6) := ⟨HX5.out.1.below hb6, HX5.out.2.trans (hb6.mono HX5.out.2.size)⟩; clear hR6 hb6))
  have HL : Hid (w.heap.size ≤ w1.heap.size) := HX2.out.2.1
  clear hb1 hD hD3
  go_loopw [3] (fun i wr => SdR w w1.heap.size D i wr) (fun i _ => 26 - (intOf i).toNat)
  case atStart => exact ⟨0, c5, by omega, rfl, by rw [s_zero]; exact HX6.out.1, by rw [s_zero]; exact s_I2, hD5, HX6.out.2⟩
  case round =>
    clear hD5 HX6 HX5 HX4 HX3 HX2
    obtain ⟨k, c1, hk, rfl, hA, hI, hD1, hbr⟩ := hrel
    by_cases hlt : k < 25
    · have hlt' : (k : Int) + 1 ≤ 25 := by omega
      obtain ⟨r1, r2, r3⟩ := round_any hlt
      have hI2 := hI.do r0_ok 5 0 5
      have hI3 := hI2.do r0_ok 6 0 ((k : Int) + 1)
      rw [r3] at hI3
      have HX1 : Hid (WAt wr w1.heap.size c1 (noN Lop.p0) [Lop.t0] (sK k) ∧ Below w.heap.size w wr) := ⟨hA, hbr⟩
      have HI1 : Hid (WI [Lop.t0] (sK k) (2 + 2 * k) (1000 * (2 + 2 * k))) := hI
      have HI2 : Hid (WI [Lop.t0] (doW (noN Lop.p0) [Lop.t0] (sK k) 5 0 5) (2 + 2 * k + 1) (1000 * (2 + 2 * k) + 1000)) := hI2
      have HI3 : Hid (WI [Lop.t0] (sK (k + 1)) (2 + 2 * (k + 1)) (1000 * (2 + 2 * (k + 1)))) := hI3.mono (by omega) (by omega)
      have HR : Hid (doE (sK k) 5 0 5 = 0 ∧ doE (doW (noN Lop.p0) [Lop.t0] (sK k) 5 0 5) 6 0 ((k : Int) + 1) = 0 ∧ doW (noN Lop.p0) [Lop.t0] (doW (noN Lop.p0) [Lop.t0] (sK k) 5 0 5) 6 0 ((k : Int) + 1) = sK (k + 1)) := ⟨r1, r2, r3⟩
      clear hA hI hbr hI2 hI3 r1 r2 r3
      go_wp2_with (first
        | (go_at_call 11; have cD := doS (w0 := w) w1.heap.size c3 (doW (noN Lop.p0) [Lop.t0] (sK k) 5 0 5) (2 + 2 * k + 1) (1000 * (2 + 2 * k) + 1000) 6 0 ((k : Int) + 1) 0 w3 HX3.out.1 HI2.out (by omega) (by omega) HR.out.2.1 HL.out HX3.out.2; rw [hD3, HR.out.2.2] at cD; (with_reducible refine cD.mono ?_); rintro e w5 ⟨rfl, c5, a5, d5, b5⟩; clear cD; have HX5 : Hid (WAt w5 w1.heap.size c5 (noN Lop.p0) [Lop.t0] (sK (k + 1)) ∧ c5.x.D = D ∧ Below w.heap.size w w5) := ⟨a5, d5, b5⟩; clear a5 d5 b5)
        | (go_at_call 11; have cD := doS (w0 := w) w1.heap.size c1 (sK k) (2 + 2 * k) (1000 * (2 + 2 * k)) 5 0 5 0 wr HX1.out.1 HI1.out (by omega) (by omega) HR.out.1 HL.out HX1.out.2; rw [hD1] at cD; (with_reducible refine cD.mono ?_); rintro e w3 ⟨rfl, c3, a3, d3, b3⟩; clear cD; have HX3 : Hid (WAt w3 w1.heap.size c3 (noN Lop.p0) [Lop.t0] (doW (noN Lop.p0) [Lop.t0] (sK k) 5 0 5) ∧ Below w.heap.size w w3) := ⟨a3, b3⟩; have hD3 : c3.x.D = D := d3; clear a3 d3 b3))
      go_roundw
      case rel => exact ⟨k + 1, c5, hlt, by simp, HX5.out.1, HI3.out, HX5.out.2.1, HX5.out.2.2⟩
      case measure => simp [intOf]; omega
    · obtain rfl : k = 25 := by omega
      have HX1 : Hid (WAt wr w1.heap.size c1 (noN Lop.p0) [Lop.t0] (sK 25) ∧ Below w.heap.size w wr) := ⟨hA, hbr⟩
      have HI1 : Hid (WI [Lop.t0] (sK 25) 52 52000) := hI
      clear hA hI hbr
      go_wp2_with (first
        | (go_at_call 55; have cT := tickf_any 9 wr; (with_reducible refine cT.mono ?_); rintro e w4 ⟨rfl, hb4⟩; clear cT; have HX4 : Hid (WAt w4 w1.heap.size c1 (noN Lop.p0) [Lop.t0] (sK 25) ∧ Below w.heap.size w w4) := ⟨HX1.out.1.below hb4, HX1.out.2.trans (hb4.mono HX1.out.2.size)⟩; clear hb4)
        | (go_at_call 11; have cD := doS (w0 := w) w1.heap.size c1 (sK 25) 52 52000 1 0 9 _ w4 HX4.out.1 HI1.out (by omega) (by omega) rfl HL.out HX4.out.2; rw [hD1, sE_def] at cD; (with_reducible refine cD.mono ?_); rintro e w5 ⟨rfl, c5, a5, d5, b5⟩; clear cD; have HX5 : Hid (WAt w5 w1.heap.size c5 (noN Lop.p0) [Lop.t0] sE ∧ Below w.heap.size w w5) := ⟨a5, b5⟩; have hD5 : c5.x.D = D := d5; clear a5 d5 b5)
        | (go_at_call 20; have cX := target_any w1.heap.size c5 (noN Lop.p0) [Lop.t0] sE w5 HX5.out.1; rw [hD5, sE_tg] at cX; (with_reducible refine cX.mono ?_); rintro e w' ⟨rfl, h9⟩; have h8 := h9.symm; clear h9; subst h8; clear cX)
        | (go_at_call 13; have cX := pods_any w1.heap.size c5 (noN Lop.p0) [Lop.t0] sE w5 HX5.out.1 (by rw [sE_len]; omega); rw [hD5, sE_len] at cX; (with_reducible refine cX.mono ?_); rintro e w6 ⟨rfl, hR6, hb6⟩; clear cX))
      go_ret
      exact ⟨rfl, HX5.out.2.trans (hb6.mono HX5.out.2.size)⟩
end Wld
end Go.Proofs.YtfmahbjidljhmaiGreatDoor
namespace Go.Proofs.YtfmahbjidljhmaiGreatDoor
namespace Wld
open Go.RowKit Plain Pln Frm Lpp Crn Lop
set_option maxRecDepth 8000

def TlR (w : World) (m : Nat) (i : Value) (wr : World) : Prop := ∃ j : Nat, j ≤ m ∧ i = .int .i64 j ∧ Below w.heap.size w wr
section
variable (p : Pd) (ta : Option Addr) (tc : Nat) (ts : List Tr) (parts most sec : Int) (ao : Option Addr) (m cap : Nat) (X : Nat → Nat → Int) (w : World)
set_option maxHeartbeats 4000000 in
theorem tl_no (hB : Lai.BdsAt w) (cP : ∀ w', Below w.heap.size w w' → Calls Tryz.prog 28 #[planV p (.slice ta ts.length tc), .int .i64 parts, .int .i64 most, .int .i64 sec, .slice ao m cap] w' fun e w'' => e = .returned (.pointer none) ∧ Below w'.heap.size w' w'') :
    Calls Tryz.prog 6 #[planV p (.slice ta ts.length tc), .int .i64 parts, .int .i64 most, .int .i64 sec, .slice ao m cap] w fun e w' => e = .returned (.bool true) ∧ Below w.heap.size w w' := by
  obtain ⟨W, hW⟩ : ∃ W, W = w.alloc (.cells (planC p (.slice ta ts.length tc)) 26) := ⟨_, rfl⟩
  have hPl : PlAt W w.heap.size p (.slice ta ts.length tc) := by rw [hW]; exact plan_new _ _ _ _
  have hbW : Below w.heap.size w W := by rw [hW]; exact (Below.refl _ _).alloc (Nat.le_refl _) _
  have hzW : w.heap.size < W.heap.size := by rw [hW]; simp
  have HW : Hid (W = w.alloc (.cells (planC p (.slice ta ts.length tc)) 26)) := hW
  have cW := said_any W (hB.below hbW (Nat.le_refl _))
  have HB : Hid (Below w.heap.size w W) := hbW
  have HP : Hid (∀ w', Below w.heap.size w w' → Calls Tryz.prog 28 #[planV p (.slice ta ts.length tc), .int .i64 parts, .int .i64 most, .int .i64 sec, .slice ao m cap] w' fun e w'' => e = .returned (.pointer none) ∧ Below w'.heap.size w' w'') := cP
  clear hW hbW hB cP
  go_enter Tryz.func6, Tryz.ntmps6
  go_upto_region 1 with fail
  rw [← HW.out]
  clear HW
  go_wp2_with (first
    | (go_at_call 25; (with_reducible refine cW.mono ?_); rintro e w1 ⟨rfl, hb1⟩; clear cW; have hP1 := hPl.on hb1 hzW; have HB1 : Hid (Below w.heap.size w w1) := HB.out.trans (hb1.mono HB.out.size); clear hPl)
    | (with_reducible refine wp_plan hP1 (by with_unfolding_all rfl) ?_)
    | (go_at_call 28; (with_reducible refine (HP.out w1 HB1.out).mono ?_); rintro e w2 ⟨rfl, hb2⟩))
  go_ret
  exact ⟨rfl, HB1.out.trans (hb2.mono HB1.out.size)⟩
set_option maxHeartbeats 16000000 in
theorem tl_yes (N : Nat) (hB : Lai.BdsAt w) (hi : PdI p) (hl : p.nm.length ≤ 9223372036854775807) (hT : TrsAt w ta ts) (hc : chkP p ts = 0) (hU : ∀ t ∈ ts, TrU t) (hn : 1 ≤ N ∧ N ≤ 20) (hs : -10000000000 ≤ sec ∧ sec ≤ 10000000000) (hm : m ≤ 60) (hH : Frm.RowsIn w ao m 3 X) :
    Calls Tryz.prog 6 #[planV p (.slice ta ts.length tc), .int .i64 (N : Int), .int .i64 most, .int .i64 sec, .slice ao m cap] w fun e w' => e = .returned (.bool true) ∧ Below w.heap.size w w' := by
  obtain ⟨W, hW⟩ : ∃ W, W = w.alloc (.cells (planC p (.slice ta ts.length tc)) 26) := ⟨_, rfl⟩
  have hPl : PlAt W w.heap.size p (.slice ta ts.length tc) := by rw [hW]; exact plan_new _ _ _ _
  have hbW : Below w.heap.size w W := by rw [hW]; exact (Below.refl _ _).alloc (Nat.le_refl _) _
  have hzW : w.heap.size < W.heap.size := by rw [hW]; simp
  have HW : Hid (W = w.alloc (.cells (planC p (.slice ta ts.length tc)) 26)) := hW
  have cW := said_any W (hB.below hbW (Nat.le_refl _))
  have HB : Hid (Below w.heap.size w W) := hbW
  have hP := ok_noN (plOk_of hc)
  have hI0 : WI ts (newW (noN p) ts N most sec) 0 0 := WI.new _ _ _ _ _ hn hs
  have hIm := WI.play hP hI0 X m
  have hLm : LaI (playW (noN p) ts X (newW (noN p) ts N most sec) m) := LaI.play hP hI0 (fun r hr => by simp [newW] at hr) X m
  have HP : Hid (∀ w', Below w.heap.size w w' → Calls Tryz.prog 28 #[planV p (.slice ta ts.length tc), .int .i64 (N : Int), .int .i64 most, .int .i64 sec, .slice ao m cap] w' (PyA p ts N most sec X m w')) := fun w' hb => py_yes p ta tc ts most sec ao m cap X w' N (hB.below hb (Nat.le_refl _)) hi hl (hT.below hb (Nat.le_refl _)) hc hU hn hs hm (Frm.RowsIn.below hH hb (Nat.le_refl _))
  clear hW hbW hB hi hl hT hH hI0
  go_enter Tryz.func6, Tryz.ntmps6
  go_upto_region 1 with fail
  rw [← HW.out]
  clear HW
  go_wp2_with (first
    | (go_at_call 25; (with_reducible refine cW.mono ?_); rintro e w1 ⟨rfl, hb1⟩; clear cW; have hP1 := hPl.on hb1 hzW; have HB1 : Hid (Below w.heap.size w w1) := HB.out.trans (hb1.mono HB.out.size); clear hPl)
    | (with_reducible refine wp_plan hP1 (by with_unfolding_all rfl) ?_)
    | (go_at_call 28; (with_reducible refine (HP.out w1 HB1.out).mono ?_); rintro e w2 ⟨B, c, rfl, hB2, hA2, hb2⟩; have HX2 : Hid (WAt w2 B c (noN p) ts (playW (noN p) ts X (newW (noN p) ts N most sec) m) ∧ Below w.heap.size w w2) := ⟨hA2, HB1.out.trans (hb2.mono HB1.out.size)⟩; clear hA2 hb2; generalize hD : c.x.D = D at *)
    | (go_at_call 15; have cX := requests_any B c (noN p) ts _ w2 HX2.out.1 hIm.r.len; rw [hD] at cX; (with_reducible refine cX.mono ?_); rintro e w3 ⟨G, rfl, hG, hR3, hb3⟩; clear cX))
  obtain ⟨T, hTT⟩ : ∃ T, T = playW (noN p) ts X (newW (noN p) ts N most sec) m := ⟨_, rfl⟩
  rw [← hTT] at hR3 hIm hLm
  have HX3 : Hid (WAt w3 B c (noN p) ts T ∧ Below w.heap.size w w3) := ⟨by rw [hTT]; exact HX2.out.1.below hb3, HX2.out.2.trans (hb3.mono HX2.out.2.size)⟩
  have HR3 : Hid (Rec.RowAt Buf.rK w3 (some ⟨G, 0, none⟩) T.R) := hR3
  have HT : Hid (T = playW (noN p) ts X (newW (noN p) ts N most sec) m) := hTT
  rw [← hTT]
  have hlR : T.R.length ≤ 200 := hIm.r.len
  clear hR3 hTT HX2 hb3 HP HB HB1 hb1 hP1
  go_loopw [28] (fun i wr => TlR w3 T.R.length i wr) (fun i _ => T.R.length - (intOf i).toNat)
  case atStart => exact ⟨0, by omega, rfl, Below.refl _ _⟩
  case round =>
    obtain ⟨j, hj, rfl, hbr⟩ := hrel
    by_cases hlt : j < T.R.length
    · have hlt' : (j : Int) < (T.R.length : Int) := by omega
      obtain ⟨r, hr⟩ : ∃ r, T.R[j]? = some r := ⟨_, List.getElem?_eq_getElem hlt⟩
      obtain ⟨g5, e5, hg5, hc5⟩ := Buf.row_req (HR3.out.below hbr) (by omega)
      cases e5
      obtain ⟨d0, d1, d2, d3, d4⟩ := hc5 j r hr
      have hok := hLm r (List.mem_of_getElem? hr)
      have hbd := hIm.r.bd r (List.mem_of_getElem? hr)
      obtain ⟨V, hV⟩ : ∃ V, V = wr.alloc (.cells #[.int .i64 r.id, .int .i64 r.src, .int .i64 r.til, .int .i64 r.fat, .int .i64 r.pod] 52) := ⟨_, rfl⟩
      have hbV : Below wr.heap.size wr V := by rw [hV]; exact (Below.refl _ _).alloc (Nat.le_refl _) _
      have v2 : V.cell? ⟨wr.heap.size, 2, none⟩ = some (.int .i64 r.til) := by rw [hV]; simp
      have v3 : V.cell? ⟨wr.heap.size, 3, none⟩ = some (.int .i64 r.fat) := by rw [hV]; simp
      have HV : Hid (V = wr.alloc (.cells #[.int .i64 r.id, .int .i64 r.src, .int .i64 r.til, .int .i64 r.fat, .int .i64 r.pod] 52)) := hV
      have HX1 : Hid (WAt V B c (noN p) ts T ∧ Below w3.heap.size w3 V) := ⟨(HX3.out.1.below hbr).below (hbV.mono (Nat.le_refl _)), hbr.trans (hbV.mono hbr.size)⟩
      have HAX : Hid (WAt V.drew B c (noN p) ts T) := HX1.out.1.below (Mm.bdrew V)
      have cN : ∀ W, WAt W B c (noN p) ts T → Calls Tryz.prog 27 #[.pointer (some ⟨D, 0, none⟩)] W fun e w' => e = .returned (.int .i64 T.now) ∧ w' = W := fun W hW => by
        have h9 := now_any B c (noN p) ts T W hW
        rw [hD] at h9
        exact h9
      clear hc5 hr hg5 hbr hbV hV
      have hfa : r.fat = 1 ∨ r.fat = 2 ∨ r.fat = 3 ∨ r.fat = 4 ∨ r.fat = 5 := by unfold Buf.Okr at hbd; omega
      clear hbd
      rcases hfa with hft | hft | hft | hft | hft
      all_goals have HFT := (show Hid (r.fat = _) from hft)
      · have e1 : (r.pod != 0) = false := by simp [(hok.2.1 hft).1]
        have e2 : decide (r.til ≤ T.now) = false := by have := (hok.2.1 hft).2; simp; omega
        rw [hft] at d3 HV
        clear hft hok
        go_upto_region 10 with fail
        rw [← HV.out]
        clear HV d0 d1 d2 d3 d4
        have z2 : V.cell? ⟨wr.heap.size, 2, none⟩ = some (.int .i64 r.til) := v2
        have z3 : V.cell? ⟨wr.heap.size, 3, none⟩ = some (.int .i64 1) := by rw [v3]; exact congrArg (fun x => some (Value.int .i64 x)) HFT.out
        clear v2 v3
        generalize wr.heap.size = C at *
        refine Tk.st 42 [false, false, false, false, false, false, false, false, false, false, false, false, false, false, false, false, false, false, false, false, false, false, false, false, false, false, false, false, false, false, false, false, false, false, false, false, false, false, false, false, false, false] (S := fun w' => w'.cell? ⟨C, 2, none⟩ = some (.int .i64 r.til) ∧ w'.cell? ⟨C, 3, none⟩ = some (.int .i64 1)) (by kernel_rfl) (by kernel_rfl) (⟨z2, z3⟩) (fun hHeld => ?_)
        iterate 4
          refine Tk.tk (v := ?_) rfl (by kernel_rfl) (fun _ _ _ h => h) (Or.inl ⟨by rfl, ?_⟩) (by assumption) ?_
          rotate_left
          · intro w' hSw
            (try dsimp only at hSw)
            (try simp only [Tk.nx, List.getElem_toArray, List.getElem_cons_zero, List.getElem_cons_succ])
            go_simp
            all_goals with_reducible rfl
          (try simp only [Tk.nx, Act.put, List.set_cons_zero, List.set_cons_succ, List.setIfInBounds_toArray, List.getElem_toArray, List.getElem_cons_zero, List.getElem_cons_succ])
        iterate 8
          refine Tk.tk (v := undef) rfl (by kernel_rfl) (fun _ _ _ h => h) (Or.inr ⟨by rfl, rfl⟩) (by assumption) ?_
          (try simp only [Tk.nx, Act.put, List.set_cons_zero, List.set_cons_succ, List.setIfInBounds_toArray, List.getElem_toArray, List.getElem_cons_zero, List.getElem_cons_succ])
        iterate 11
          refine Tk.tk (v := ?_) rfl (by kernel_rfl) (fun _ _ _ h => h) (Or.inl ⟨by rfl, ?_⟩) (by assumption) ?_
          rotate_left
          · intro w' hSw
            (try dsimp only at hSw)
            (try simp only [Tk.nx, List.getElem_toArray, List.getElem_cons_zero, List.getElem_cons_succ])
            go_simp
            all_goals with_reducible rfl
          (try simp only [Tk.nx, Act.put, List.set_cons_zero, List.set_cons_succ, List.setIfInBounds_toArray, List.getElem_toArray, List.getElem_cons_zero, List.getElem_cons_succ])
        refine wpAnyH_ready (rs := [23]) (by kernel_rfl) (by simp) ?_
        refine AllReadyH.cons rfl (fun K hK => ?_) AllReadyH.nil
        go_simp
        go_wp2_with ((go_at_call 27; (with_reducible refine (cN _ HAX.out).mono ?_); rintro e w' ⟨rfl, h9⟩; have h8 := h9.symm; clear h9; subst h8))
        refine hK.out _ _ (⟨z2, z3⟩) (fun hHeld => ?_)
        clear hK K
        (try simp only [List.setIfInBounds_toArray, List.set_cons_zero, List.set_cons_succ])
        iterate 14
          refine Tk.tk (v := ?_) rfl (by kernel_rfl) (fun _ _ _ h => h) (Or.inl ⟨by rfl, ?_⟩) (by assumption) ?_
          rotate_left
          · intro w' hSw
            (try dsimp only at hSw)
            (try simp only [Tk.nx, List.getElem_toArray, List.getElem_cons_zero, List.getElem_cons_succ])
            go_simp
            all_goals with_reducible rfl
          (try simp only [Tk.nx, Act.put, List.set_cons_zero, List.set_cons_succ, List.setIfInBounds_toArray, List.getElem_toArray, List.getElem_cons_zero, List.getElem_cons_succ])
        iterate 2
          refine Tk.tk (v := undef) rfl (by kernel_rfl) (fun _ _ _ h => h) (Or.inr ⟨by rfl, rfl⟩) (by assumption) ?_
          (try simp only [Tk.nx, Act.put, List.set_cons_zero, List.set_cons_succ, List.setIfInBounds_toArray, List.getElem_toArray, List.getElem_cons_zero, List.getElem_cons_succ])
        iterate 2
          refine Tk.tk (v := ?_) rfl (by kernel_rfl) (fun _ _ _ h => h) (Or.inl ⟨by rfl, ?_⟩) (by assumption) ?_
          rotate_left
          · intro w' hSw
            (try dsimp only at hSw)
            (try simp only [Tk.nx, List.getElem_toArray, List.getElem_cons_zero, List.getElem_cons_succ])
            go_simp
            all_goals with_reducible rfl
          (try simp only [Tk.nx, Act.put, List.set_cons_zero, List.set_cons_succ, List.setIfInBounds_toArray, List.getElem_toArray, List.getElem_cons_zero, List.getElem_cons_succ])
        refine wpAnyH_done (by kernel_rfl) ?_ _
        go_wp2
        go_roundw
        case rel => exact ⟨j + 1, hlt, rfl, HX1.out.2.drew⟩
        case measure => simp [intOf]; omega
      · have e1 : (r.pod != 0) = true := by simp [hok.2.2.1 hft]
        rw [hft] at d3 HV
        clear hft hok
        go_upto_region 10 with fail
        rw [← HV.out]
        clear HV d0 d1 d2 d3 d4
        have z2 : V.cell? ⟨wr.heap.size, 2, none⟩ = some (.int .i64 r.til) := v2
        have z3 : V.cell? ⟨wr.heap.size, 3, none⟩ = some (.int .i64 2) := by rw [v3]; exact congrArg (fun x => some (Value.int .i64 x)) HFT.out
        clear v2 v3
        generalize wr.heap.size = C at *
        refine Tk.st 42 [false, false, false, false, false, false, false, false, false, false, false, false, false, false, false, false, false, false, false, false, false, false, false, false, false, false, false, false, false, false, false, false, false, false, false, false, false, false, false, false, false, false] (S := fun w' => w'.cell? ⟨C, 2, none⟩ = some (.int .i64 r.til) ∧ w'.cell? ⟨C, 3, none⟩ = some (.int .i64 2)) (by kernel_rfl) (by kernel_rfl) (⟨z2, z3⟩) (fun hHeld => ?_)
        iterate 4
          refine Tk.tk (v := ?_) rfl (by kernel_rfl) (fun _ _ _ h => h) (Or.inl ⟨by rfl, ?_⟩) (by assumption) ?_
          rotate_left
          · intro w' hSw
            (try dsimp only at hSw)
            (try simp only [Tk.nx, List.getElem_toArray, List.getElem_cons_zero, List.getElem_cons_succ])
            go_simp
            all_goals with_reducible rfl
          (try simp only [Tk.nx, Act.put, List.set_cons_zero, List.set_cons_succ, List.setIfInBounds_toArray, List.getElem_toArray, List.getElem_cons_zero, List.getElem_cons_succ])
        iterate 8
          refine Tk.tk (v := undef) rfl (by kernel_rfl) (fun _ _ _ h => h) (Or.inr ⟨by rfl, rfl⟩) (by assumption) ?_
          (try simp only [Tk.nx, Act.put, List.set_cons_zero, List.set_cons_succ, List.setIfInBounds_toArray, List.getElem_toArray, List.getElem_cons_zero, List.getElem_cons_succ])
        iterate 6
          refine Tk.tk (v := ?_) rfl (by kernel_rfl) (fun _ _ _ h => h) (Or.inl ⟨by rfl, ?_⟩) (by assumption) ?_
          rotate_left
          · intro w' hSw
            (try dsimp only at hSw)
            (try simp only [Tk.nx, List.getElem_toArray, List.getElem_cons_zero, List.getElem_cons_succ])
            go_simp
            all_goals with_reducible rfl
          (try simp only [Tk.nx, Act.put, List.set_cons_zero, List.set_cons_succ, List.setIfInBounds_toArray, List.getElem_toArray, List.getElem_cons_zero, List.getElem_cons_succ])
        iterate 8
          refine Tk.tk (v := undef) rfl (by kernel_rfl) (fun _ _ _ h => h) (Or.inr ⟨by rfl, rfl⟩) (by assumption) ?_
          (try simp only [Tk.nx, Act.put, List.set_cons_zero, List.set_cons_succ, List.setIfInBounds_toArray, List.getElem_toArray, List.getElem_cons_zero, List.getElem_cons_succ])
        iterate 12
          refine Tk.tk (v := ?_) rfl (by kernel_rfl) (fun _ _ _ h => h) (Or.inl ⟨by rfl, ?_⟩) (by assumption) ?_
          rotate_left
          · intro w' hSw
            (try dsimp only at hSw)
            (try simp only [Tk.nx, List.getElem_toArray, List.getElem_cons_zero, List.getElem_cons_succ])
            go_simp
            all_goals with_reducible rfl
          (try simp only [Tk.nx, Act.put, List.set_cons_zero, List.set_cons_succ, List.setIfInBounds_toArray, List.getElem_toArray, List.getElem_cons_zero, List.getElem_cons_succ])
        iterate 2
          refine Tk.tk (v := undef) rfl (by kernel_rfl) (fun _ _ _ h => h) (Or.inr ⟨by rfl, rfl⟩) (by assumption) ?_
          (try simp only [Tk.nx, Act.put, List.set_cons_zero, List.set_cons_succ, List.setIfInBounds_toArray, List.getElem_toArray, List.getElem_cons_zero, List.getElem_cons_succ])
        iterate 2
          refine Tk.tk (v := ?_) rfl (by kernel_rfl) (fun _ _ _ h => h) (Or.inl ⟨by rfl, ?_⟩) (by assumption) ?_
          rotate_left
          · intro w' hSw
            (try dsimp only at hSw)
            (try simp only [Tk.nx, List.getElem_toArray, List.getElem_cons_zero, List.getElem_cons_succ])
            go_simp
            all_goals with_reducible rfl
          (try simp only [Tk.nx, Act.put, List.set_cons_zero, List.set_cons_succ, List.setIfInBounds_toArray, List.getElem_toArray, List.getElem_cons_zero, List.getElem_cons_succ])
        refine wpAnyH_done (by kernel_rfl) ?_ _
        go_wp2
        go_roundw
        case rel => exact ⟨j + 1, hlt, rfl, HX1.out.2.drew⟩
        case measure => simp [intOf]; omega
      · have e1 : (r.pod != 0) = true := by simp [hok.2.2.2.1 hft]
        rw [hft] at d3 HV
        clear hft hok
        go_upto_region 10 with fail
        rw [← HV.out]
        clear HV d0 d1 d2 d3 d4
        have z2 : V.cell? ⟨wr.heap.size, 2, none⟩ = some (.int .i64 r.til) := v2
        have z3 : V.cell? ⟨wr.heap.size, 3, none⟩ = some (.int .i64 3) := by rw [v3]; exact congrArg (fun x => some (Value.int .i64 x)) HFT.out
        clear v2 v3
        generalize wr.heap.size = C at *
        refine Tk.st 42 [false, false, false, false, false, false, false, false, false, false, false, false, false, false, false, false, false, false, false, false, false, false, false, false, false, false, false, false, false, false, false, false, false, false, false, false, false, false, false, false, false, false] (S := fun w' => w'.cell? ⟨C, 2, none⟩ = some (.int .i64 r.til) ∧ w'.cell? ⟨C, 3, none⟩ = some (.int .i64 3)) (by kernel_rfl) (by kernel_rfl) (⟨z2, z3⟩) (fun hHeld => ?_)
        iterate 4
          refine Tk.tk (v := ?_) rfl (by kernel_rfl) (fun _ _ _ h => h) (Or.inl ⟨by rfl, ?_⟩) (by assumption) ?_
          rotate_left
          · intro w' hSw
            (try dsimp only at hSw)
            (try simp only [Tk.nx, List.getElem_toArray, List.getElem_cons_zero, List.getElem_cons_succ])
            go_simp
            all_goals with_reducible rfl
          (try simp only [Tk.nx, Act.put, List.set_cons_zero, List.set_cons_succ, List.setIfInBounds_toArray, List.getElem_toArray, List.getElem_cons_zero, List.getElem_cons_succ])
        iterate 8
          refine Tk.tk (v := undef) rfl (by kernel_rfl) (fun _ _ _ h => h) (Or.inr ⟨by rfl, rfl⟩) (by assumption) ?_
          (try simp only [Tk.nx, Act.put, List.set_cons_zero, List.set_cons_succ, List.setIfInBounds_toArray, List.getElem_toArray, List.getElem_cons_zero, List.getElem_cons_succ])
        iterate 6
          refine Tk.tk (v := ?_) rfl (by kernel_rfl) (fun _ _ _ h => h) (Or.inl ⟨by rfl, ?_⟩) (by assumption) ?_
          rotate_left
          · intro w' hSw
            (try dsimp only at hSw)
            (try simp only [Tk.nx, List.getElem_toArray, List.getElem_cons_zero, List.getElem_cons_succ])
            go_simp
            all_goals with_reducible rfl
          (try simp only [Tk.nx, Act.put, List.set_cons_zero, List.set_cons_succ, List.setIfInBounds_toArray, List.getElem_toArray, List.getElem_cons_zero, List.getElem_cons_succ])
        iterate 8
          refine Tk.tk (v := undef) rfl (by kernel_rfl) (fun _ _ _ h => h) (Or.inr ⟨by rfl, rfl⟩) (by assumption) ?_
          (try simp only [Tk.nx, Act.put, List.set_cons_zero, List.set_cons_succ, List.setIfInBounds_toArray, List.getElem_toArray, List.getElem_cons_zero, List.getElem_cons_succ])
        iterate 7
          refine Tk.tk (v := ?_) rfl (by kernel_rfl) (fun _ _ _ h => h) (Or.inl ⟨by rfl, ?_⟩) (by assumption) ?_
          rotate_left
          · intro w' hSw
            (try dsimp only at hSw)
            (try simp only [Tk.nx, List.getElem_toArray, List.getElem_cons_zero, List.getElem_cons_succ])
            go_simp
            all_goals with_reducible rfl
          (try simp only [Tk.nx, Act.put, List.set_cons_zero, List.set_cons_succ, List.setIfInBounds_toArray, List.getElem_toArray, List.getElem_cons_zero, List.getElem_cons_succ])
        iterate 3
          refine Tk.tk (v := undef) rfl (by kernel_rfl) (fun _ _ _ h => h) (Or.inr ⟨by rfl, rfl⟩) (by assumption) ?_
          (try simp only [Tk.nx, Act.put, List.set_cons_zero, List.set_cons_succ, List.setIfInBounds_toArray, List.getElem_toArray, List.getElem_cons_zero, List.getElem_cons_succ])
        iterate 6
          refine Tk.tk (v := ?_) rfl (by kernel_rfl) (fun _ _ _ h => h) (Or.inl ⟨by rfl, ?_⟩) (by assumption) ?_
          rotate_left
          · intro w' hSw
            (try dsimp only at hSw)
            (try simp only [Tk.nx, List.getElem_toArray, List.getElem_cons_zero, List.getElem_cons_succ])
            go_simp
            all_goals with_reducible rfl
          (try simp only [Tk.nx, Act.put, List.set_cons_zero, List.set_cons_succ, List.setIfInBounds_toArray, List.getElem_toArray, List.getElem_cons_zero, List.getElem_cons_succ])
        refine wpAnyH_done (by kernel_rfl) ?_ _
        go_wp2
        go_roundw
        case rel => exact ⟨j + 1, hlt, rfl, HX1.out.2.drew⟩
        case measure => simp [intOf]; omega
      · have e1 : (r.pod != 0) = false := by simp [(hok.1 hft).1]
        have e2 : decide (T.now < r.til) = false := by have := (hok.1 hft).2; simp; omega
        rw [hft] at d3 HV
        clear hft hok
        go_upto_region 10 with fail
        rw [← HV.out]
        clear HV d0 d1 d2 d3 d4
        have z2 : V.cell? ⟨wr.heap.size, 2, none⟩ = some (.int .i64 r.til) := v2
        have z3 : V.cell? ⟨wr.heap.size, 3, none⟩ = some (.int .i64 4) := by rw [v3]; exact congrArg (fun x => some (Value.int .i64 x)) HFT.out
        clear v2 v3
        generalize wr.heap.size = C at *
        refine Tk.st 42 [false, false, false, false, false, false, false, false, false, false, false, false, false, false, false, false, false, false, false, false, false, false, false, false, false, false, false, false, false, false, false, false, false, false, false, false, false, false, false, false, false, false] (S := fun w' => w'.cell? ⟨C, 2, none⟩ = some (.int .i64 r.til) ∧ w'.cell? ⟨C, 3, none⟩ = some (.int .i64 4)) (by kernel_rfl) (by kernel_rfl) (⟨z2, z3⟩) (fun hHeld => ?_)
        iterate 9
          refine Tk.tk (v := ?_) rfl (by kernel_rfl) (fun _ _ _ h => h) (Or.inl ⟨by rfl, ?_⟩) (by assumption) ?_
          rotate_left
          · intro w' hSw
            (try dsimp only at hSw)
            (try simp only [Tk.nx, List.getElem_toArray, List.getElem_cons_zero, List.getElem_cons_succ])
            go_simp
            all_goals with_reducible rfl
          (try simp only [Tk.nx, Act.put, List.set_cons_zero, List.set_cons_succ, List.setIfInBounds_toArray, List.getElem_toArray, List.getElem_cons_zero, List.getElem_cons_succ])
        refine wpAnyH_ready (rs := [9]) (by kernel_rfl) (by simp) ?_
        refine AllReadyH.cons rfl (fun K hK => ?_) AllReadyH.nil
        go_simp
        go_wp2_with ((go_at_call 27; (with_reducible refine (cN _ HAX.out).mono ?_); rintro e w' ⟨rfl, h9⟩; have h8 := h9.symm; clear h9; subst h8))
        refine hK.out _ _ (⟨z2, z3⟩) (fun hHeld => ?_)
        clear hK K
        (try simp only [List.setIfInBounds_toArray, List.set_cons_zero, List.set_cons_succ])
        iterate 8
          refine Tk.tk (v := ?_) rfl (by kernel_rfl) (fun _ _ _ h => h) (Or.inl ⟨by rfl, ?_⟩) (by assumption) ?_
          rotate_left
          · intro w' hSw
            (try dsimp only at hSw)
            (try simp only [Tk.nx, List.getElem_toArray, List.getElem_cons_zero, List.getElem_cons_succ])
            go_simp
            all_goals with_reducible rfl
          (try simp only [Tk.nx, Act.put, List.set_cons_zero, List.set_cons_succ, List.setIfInBounds_toArray, List.getElem_toArray, List.getElem_cons_zero, List.getElem_cons_succ])
        iterate 8
          refine Tk.tk (v := undef) rfl (by kernel_rfl) (fun _ _ _ h => h) (Or.inr ⟨by rfl, rfl⟩) (by assumption) ?_
          (try simp only [Tk.nx, Act.put, List.set_cons_zero, List.set_cons_succ, List.setIfInBounds_toArray, List.getElem_toArray, List.getElem_cons_zero, List.getElem_cons_succ])
        iterate 12
          refine Tk.tk (v := ?_) rfl (by kernel_rfl) (fun _ _ _ h => h) (Or.inl ⟨by rfl, ?_⟩) (by assumption) ?_
          rotate_left
          · intro w' hSw
            (try dsimp only at hSw)
            (try simp only [Tk.nx, List.getElem_toArray, List.getElem_cons_zero, List.getElem_cons_succ])
            go_simp
            all_goals with_reducible rfl
          (try simp only [Tk.nx, Act.put, List.set_cons_zero, List.set_cons_succ, List.setIfInBounds_toArray, List.getElem_toArray, List.getElem_cons_zero, List.getElem_cons_succ])
        iterate 2
          refine Tk.tk (v := undef) rfl (by kernel_rfl) (fun _ _ _ h => h) (Or.inr ⟨by rfl, rfl⟩) (by assumption) ?_
          (try simp only [Tk.nx, Act.put, List.set_cons_zero, List.set_cons_succ, List.setIfInBounds_toArray, List.getElem_toArray, List.getElem_cons_zero, List.getElem_cons_succ])
        iterate 2
          refine Tk.tk (v := ?_) rfl (by kernel_rfl) (fun _ _ _ h => h) (Or.inl ⟨by rfl, ?_⟩) (by assumption) ?_
          rotate_left
          · intro w' hSw
            (try dsimp only at hSw)
            (try simp only [Tk.nx, List.getElem_toArray, List.getElem_cons_zero, List.getElem_cons_succ])
            go_simp
            all_goals with_reducible rfl
          (try simp only [Tk.nx, Act.put, List.set_cons_zero, List.set_cons_succ, List.setIfInBounds_toArray, List.getElem_toArray, List.getElem_cons_zero, List.getElem_cons_succ])
        refine wpAnyH_done (by kernel_rfl) ?_ _
        go_wp2
        go_roundw
        case rel => exact ⟨j + 1, hlt, rfl, HX1.out.2.drew⟩
        case measure => simp [intOf]; omega
      · have e1 : (r.pod != 0) = true := by simp [hok.2.2.2.2 hft]
        rw [hft] at d3 HV
        clear hft hok
        go_upto_region 10 with fail
        rw [← HV.out]
        clear HV d0 d1 d2 d3 d4
        have z2 : V.cell? ⟨wr.heap.size, 2, none⟩ = some (.int .i64 r.til) := v2
        have z3 : V.cell? ⟨wr.heap.size, 3, none⟩ = some (.int .i64 5) := by rw [v3]; exact congrArg (fun x => some (Value.int .i64 x)) HFT.out
        clear v2 v3
        generalize wr.heap.size = C at *
        refine Tk.st 42 [false, false, false, false, false, false, false, false, false, false, false, false, false, false, false, false, false, false, false, false, false, false, false, false, false, false, false, false, false, false, false, false, false, false, false, false, false, false, false, false, false, false] (S := fun w' => w'.cell? ⟨C, 2, none⟩ = some (.int .i64 r.til) ∧ w'.cell? ⟨C, 3, none⟩ = some (.int .i64 5)) (by kernel_rfl) (by kernel_rfl) (⟨z2, z3⟩) (fun hHeld => ?_)
        iterate 4
          refine Tk.tk (v := ?_) rfl (by kernel_rfl) (fun _ _ _ h => h) (Or.inl ⟨by rfl, ?_⟩) (by assumption) ?_
          rotate_left
          · intro w' hSw
            (try dsimp only at hSw)
            (try simp only [Tk.nx, List.getElem_toArray, List.getElem_cons_zero, List.getElem_cons_succ])
            go_simp
            all_goals with_reducible rfl
          (try simp only [Tk.nx, Act.put, List.set_cons_zero, List.set_cons_succ, List.setIfInBounds_toArray, List.getElem_toArray, List.getElem_cons_zero, List.getElem_cons_succ])
        iterate 8
          refine Tk.tk (v := undef) rfl (by kernel_rfl) (fun _ _ _ h => h) (Or.inr ⟨by rfl, rfl⟩) (by assumption) ?_
          (try simp only [Tk.nx, Act.put, List.set_cons_zero, List.set_cons_succ, List.setIfInBounds_toArray, List.getElem_toArray, List.getElem_cons_zero, List.getElem_cons_succ])
        iterate 6
          refine Tk.tk (v := ?_) rfl (by kernel_rfl) (fun _ _ _ h => h) (Or.inl ⟨by rfl, ?_⟩) (by assumption) ?_
          rotate_left
          · intro w' hSw
            (try dsimp only at hSw)
            (try simp only [Tk.nx, List.getElem_toArray, List.getElem_cons_zero, List.getElem_cons_succ])
            go_simp
            all_goals with_reducible rfl
          (try simp only [Tk.nx, Act.put, List.set_cons_zero, List.set_cons_succ, List.setIfInBounds_toArray, List.getElem_toArray, List.getElem_cons_zero, List.getElem_cons_succ])
        iterate 8
          refine Tk.tk (v := undef) rfl (by kernel_rfl) (fun _ _ _ h => h) (Or.inr ⟨by rfl, rfl⟩) (by assumption) ?_
          (try simp only [Tk.nx, Act.put, List.set_cons_zero, List.set_cons_succ, List.setIfInBounds_toArray, List.getElem_toArray, List.getElem_cons_zero, List.getElem_cons_succ])
        iterate 16
          refine Tk.tk (v := ?_) rfl (by kernel_rfl) (fun _ _ _ h => h) (Or.inl ⟨by rfl, ?_⟩) (by assumption) ?_
          rotate_left
          · intro w' hSw
            (try dsimp only at hSw)
            (try simp only [Tk.nx, List.getElem_toArray, List.getElem_cons_zero, List.getElem_cons_succ])
            go_simp
            all_goals with_reducible rfl
          (try simp only [Tk.nx, Act.put, List.set_cons_zero, List.set_cons_succ, List.setIfInBounds_toArray, List.getElem_toArray, List.getElem_cons_zero, List.getElem_cons_succ])
        refine wpAnyH_done (by kernel_rfl) ?_ _
        go_wp2
        go_roundw
        case rel => exact ⟨j + 1, hlt, rfl, HX1.out.2.drew⟩
        case measure => simp [intOf]; omega
    · obtain rfl : j = T.R.length := by omega
      go_wp2
      go_ret
      exact ⟨rfl, HX3.out.2.trans (hbr.mono HX3.out.2.size)⟩
theorem topLate_any (hB : Lai.BdsAt w) (hi : PdI p) (hl : p.nm.length ≤ 9223372036854775807) (hT : TrsAt w ta ts) (hU : ∀ t ∈ ts, TrU t) (hH : Frm.RowsIn w ao m 3 X) :
    Calls Tryz.prog 6 #[planV p (.slice ta ts.length tc), .int .i64 parts, .int .i64 most, .int .i64 sec, .slice ao m cap] w fun e w' => e = .returned (.bool true) ∧ Below w.heap.size w w' := by
  by_cases hc : newE p ts parts sec = 0
  · obtain ⟨h1, h2, h3⟩ := newE_nul hc
    obtain ⟨N, rfl⟩ : ∃ N : Nat, parts = (N : Int) := ⟨parts.toNat, by omega⟩
    by_cases hm : m ≤ 60
    · exact tl_yes p ta tc ts most sec ao m cap X w N hB hi hl hT h1 hU (by omega) h3 hm hH
    · exact tl_no p ta tc ts N most sec ao m cap w hB (fun w' hb => py_many p ta tc ts most sec ao m cap w' N (hB.below hb (Nat.le_refl _)) hi hl (hT.below hb (Nat.le_refl _)) h1 (by omega) h3 (by omega))
  · exact tl_no p ta tc ts parts most sec ao m cap w hB (fun w' hb => py_no p ta tc ts parts most sec ao m cap w' (hB.below hb (Nat.le_refl _)) hi hl (hT.below hb (Nat.le_refl _)) hc)
end
end Wld
end Go.Proofs.YtfmahbjidljhmaiGreatDoor
