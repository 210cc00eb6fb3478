/- Some happenings, one behind the other. Two worlds side by side; messages; ticks one by one. What stands at the head of the laws of a world: running, works. Ticks one by one, or at once, are the same. -/
import Derived.Test.YtfmahbjidljhmahGreatDoorPkWldHand
import Derived.Test.YtfmahbjidljhmahGreatDoorPkLopPlan
import Derived.Test.YtfmahbjidljhmahGreatDoorPkFrame
import Derived.Test.YtfmahbjidljhmahGreatDoorPkFltWalks
import Derived.Test.YtfmahbjidljhmahGreatDoorPkTak
import Derived.BigQuiet
import Derived.Deep.RegionHeld
import Derived.Test.YtfmahbjidljhmahGreatDoorPkNumWalks
namespace Go.Proofs.YtfmahbjidljhmahGreatDoor
namespace Wld
open Go.RowKit Plain Pln Frm Lpp Crn Lop
set_option maxRecDepth 8000

/-- the world behind the first j happenings -/
noncomputable def playW (p : Pd) (ts : List Tr) (X : Nat → Nat → Int) (S : WS) : Nat → WS
  | 0 => S
  | j + 1 => doW p ts (playW p ts X S j) (X j 0) (X j 1) (X j 2)
theorem WI.play {p : Pd} {ts : List Tr} {S : WS} (hP : PlOk p ts) (g : WI ts S 0 0) (X : Nat → Nat → Int) : ∀ j, WI ts (playW p ts X S j) j (1000 * j)
  | 0 => g
  | j + 1 => (WI.play hP g X j).do hP _ _ _
/-- the happenings that stand at the head of the laws: a request, two ticks, a pod that starts and is ready -/
def wX (i j : Nat) : Int := match i, j with
  | 0, 0 => 11
  | 0, 1 => 1
  | 0, 2 => 50
  | 1, 0 => 1
  | 1, 2 => 2
  | 2, 0 => 8
  | 2, 2 => 1
  | 3, 0 => 9
  | 3, 2 => 1
  | _, _ => 0
noncomputable def wS : WS := playW (noN Lop.p0) [Lop.t0] wX (newW (noN Lop.p0) [Lop.t0] 1 2 0) 4
theorem wS_tg : wS.tg = 1 := by kernel_rfl
theorem wS_R : wS.R = [⟨1, 1, 50, 2, 1⟩] := by kernel_rfl
theorem wS_E : doE wS 12 0 1 = 0 := by kernel_rfl
theorem wS_D : (doW (noN Lop.p0) [Lop.t0] wS 12 0 1).R = [⟨1, 1, 50, 3, 1⟩] := by kernel_rfl
end Wld
end Go.Proofs.YtfmahbjidljhmahGreatDoor
namespace Go.Proofs.YtfmahbjidljhmahGreatDoor
namespace Wld
open Go.RowKit Plain Pln Frm Lpp Crn Lop
set_option maxRecDepth 8000

structure W2 (w : World) (B1 B2 : Nat) (c1 c2 : Pc) (p : Pd) (ts : List Tr) (S1 S2 : WS) : Prop where
  a : WAt w B1 c1 p ts S1
  b : WAt w B2 c2 p ts S2
  ap : ∀ k, bk c1 ts k → ¬ bk c2 ts k
  le : B1 ≤ B2
section
variable {w w' : World} {B B1 B2 : Nat} {c1 c2 : Pc} {p : Pd} {ts : List Tr} {S S1 S2 S' : WS} {h k : Nat}
theorem Bas.up {B B' : Nat} {w : World} (h : Bas B w) (hB : B ≤ B') : Bas B' w := by
  obtain ⟨w0, a, b, d⟩ := h
  exact ⟨w0, a, Nat.le_trans b hB, d⟩
theorem W2.below (h : W2 w B1 B2 c1 c2 p ts S1 S2) (g : Below w.heap.size w w') : W2 w' B1 B2 c1 c2 p ts S1 S2 := ⟨h.a.below g, h.b.below g, h.ap, h.le⟩
/-- the first one turns -/
theorem W2.left (h : W2 w B1 B2 c1 c2 p ts S1 S2) (t : Wst B1 c1 p ts S' w w') : ∃ c1', W2 w' B1 B2 c1' c2 p ts S' S2 ∧ c1'.x.D = c1.x.D ∧ Mm.Mv (bk c1 ts) (bk c1' ts) w w' := by
  obtain ⟨c', a, d, m⟩ := t
  refine ⟨c', ⟨a, h.b.kept (fun k hk => m.block k (h.b.low hk).2 (fun e => h.ap k e hk)) m.size (a.ba.up h.le), fun k hk hn => ?_, h.le⟩, d, m⟩
  rcases m.loc k hk with x | x
  · exact h.ap k x hn
  · have := (h.b.low hn).2; omega
/-- the second one turns -/
theorem W2.right (h : W2 w B1 B2 c1 c2 p ts S1 S2) (t : Wst B2 c2 p ts S' w w') : ∃ c2', W2 w' B1 B2 c1 c2' p ts S1 S' ∧ c2'.x.D = c2.x.D ∧ Mm.Mv (bk c2 ts) (bk c2' ts) w w' := by
  obtain ⟨c', b, d, m⟩ := t
  refine ⟨c', ⟨h.a.kept (fun k hk => m.block k (h.a.low hk).2 (fun e => h.ap k hk e)) m.size (h.a.ba.mv (fun k hk => Nat.le_trans h.le (h.b.low hk).1) m), b, fun k hk hn => ?_, h.le⟩, d, m⟩
  rcases m.loc k hn with x | x
  · exact h.ap k hk x
  · have := (h.a.low hk).2; omega
/-- a second one beside the first -/
theorem W2.new (ha : WAt w B1 c1 p ts S1) (hb : Below w.heap.size w w') (h2 : WAt w' w.heap.size c2 p ts S2) : W2 w' B1 w.heap.size c1 c2 p ts S1 S2 := by
  have hl : B1 ≤ w.heap.size := Nat.le_of_lt (Nat.lt_of_le_of_lt ha.bD ha.lt)
  refine ⟨ha.below hb, h2, fun k hk hn => ?_, hl⟩
  have := (ha.low hk).2
  have := (h2.low hn).1
  omega
end
theorem rowM_mv {w w' : World} {G : Nat} {L : List Que.M} {b b' : Nat → Prop} (h : Que.RowAt w (some ⟨G, 0, none⟩) L) (m : Mm.Mv b b' w w') (hb : ¬ b G) : Que.RowAt w' (some ⟨G, 0, none⟩) L := by
  intro hl
  obtain ⟨g, e, hg, hc⟩ := h hl
  cases e
  refine ⟨G, rfl, Nat.lt_of_lt_of_le hg m.size, fun i x hx => ?_⟩
  obtain ⟨a, d, f⟩ := hc i x hx
  exact ⟨m.cell a hb, m.cell d hb, m.cell f hb⟩
theorem do_now (p : Pd) (ts : List Tr) (S : WS) (x a n : Int) : (doW p ts S x a n).now ≤ S.now + 1000 ∧ S.now ≤ (doW p ts S x a n).now := by
  unfold doW
  by_cases h1 : x = 1
  · rw [if_pos h1]
    split
    · rename_i e
      have hn : (1 ≤ n ∧ n ≤ 1000) ∧ S.now + n ≤ 1099511627776 := by
        unfold tickE at e
        split at e
        · assumption
        · cases e
      rw [tickW_now]
      omega
    · omega
  rw [if_neg h1]
  by_cases h2 : x = 2
  · rw [if_pos h2, make_now]; omega
  rw [if_neg h2]
  by_cases h3 : x = 3
  · rw [if_pos h3, take_now]; omega
  rw [if_neg h3]
  by_cases h4 : x = 4
  · rw [if_pos h4, put_now]; omega
  rw [if_neg h4]
  by_cases h5 : x = 5
  · rw [if_pos h5]; exact ⟨by show S.now ≤ _; omega, Int.le_refl _⟩
  rw [if_neg h5]
  by_cases h6 : x = 6
  · rw [if_pos h6]; exact ⟨by show S.now ≤ _; omega, Int.le_refl _⟩
  rw [if_neg h6]
  by_cases h7 : x = 7
  · rw [if_pos h7]
    have : (failW S a n).now = S.now := by unfold failW; split <;> rfl
    rw [this]; omega
  rw [if_neg h7]
  by_cases h8 : x = 8
  · rw [if_pos h8]; exact ⟨by show S.now ≤ _; omega, Int.le_refl _⟩
  rw [if_neg h8]
  by_cases h9 : x = 9
  · rw [if_pos h9]
    have : (readyW S n).now = S.now := by unfold readyW; split <;> rfl
    rw [this]; omega
  rw [if_neg h9]
  by_cases h10 : x = 10
  · rw [if_pos h10]
    have : (crashW S n).now = S.now := by unfold crashW; split <;> rfl
    rw [this]; omega
  rw [if_neg h10]
  by_cases h11 : x = 11
  · rw [if_pos h11]
    have : (askW S a n).now = S.now := by unfold askW; split <;> rfl
    rw [this]; omega
  rw [if_neg h11]
  by_cases h12 : x = 12
  · rw [if_pos h12]
    have : (doneW S n).now = S.now := by unfold doneW; split <;> rfl
    rw [this]; omega
  rw [if_neg h12]
  by_cases h13 : x = 13
  · rw [if_pos h13, pause_now]; omega
  rw [if_neg h13]
  omega
theorem play_now (p : Pd) (ts : List Tr) (X : Nat → Nat → Int) (S : WS) : ∀ j, (playW p ts X S j).now ≤ S.now + 1000 * (j : Int)
  | 0 => by simp [playW]
  | j + 1 => by
    have h1 := play_now p ts X S j
    have h2 := (do_now p ts (playW p ts X S j) (X j 0) (X j 1) (X j 2)).1
    rw [playW]
    omega
theorem do_tick (p : Pd) (ts : List Tr) (S : WS) (a : Int) (n : Nat) (h1 : 1 ≤ n) (h2 : n ≤ 1000) (h3 : S.now + n ≤ 1099511627776) : doW p ts S 1 a n = tickW p ts n S := by
  have e : tickE S n = 0 := by unfold tickE; rw [if_pos (by omega)]
  unfold doW
  rw [if_pos rfl, if_pos e]
  rfl
section
variable (B : Nat) (c : Pc) (p : Pd) (ts : List Tr) (S : WS) (h k : Nat)
set_option maxHeartbeats 4000000 in
theorem messages_any (w : World) (hA : WAt w B c p ts S) (hI : WI ts S h k) :
    Calls Tryz.prog 16 #[.pointer (some ⟨c.x.D, 0, none⟩)] w fun e w' => ∃ G, e = .returned (.slice (some ⟨G, 0, none⟩) (Que.backL S.now S.qL).length (Que.backL S.now S.qL).length) ∧ w.heap.size ≤ G ∧ Que.RowAt w' (some ⟨G, 0, none⟩) (Que.backL S.now S.qL) ∧ Wst B c p ts { S with qL := Que.backL S.now S.qL } w w' := by
  have HA : Hid (WAt w.drew B c p ts S) := hA.below (Mm.bdrew w)
  have cA := Que.all_yes B c.x.D S.ql c.vq S.qL _ S.now w.drew HA.out.qu hI.q.len hI.nw.1 hI.nw.2 rfl
  have c0 := hA.c0
  clear hA hI
  generalize hD : c.x.D = D at *
  go_enter Tryz.func16, Tryz.ntmps16
  go_upto_region 1 with fail
  refine Tk.st 13 [false, false, false, false, false, false, false, false, false, false, false, false, false] (S := fun w' => w'.cell? ⟨D, 0, none⟩ = some (.int .i64 S.now)) (by kernel_rfl) (by kernel_rfl) (c0) (fun hHeld => ?_)
  iterate 7
    refine Tk.tk (v := ?_) rfl (by kernel_rfl) (fun _ _ _ h => h) (Or.inl ⟨by rfl, ?_⟩) (by assumption) ?_
    rotate_left
    · intro w' hSw
      (try dsimp only at hSw)
      (try simp only [Tk.nx, List.getElem_toArray, List.getElem_cons_zero, List.getElem_cons_succ])
      go_simp
      all_goals with_reducible rfl
    (try simp only [Tk.nx, Act.put, List.set_cons_zero, List.set_cons_succ, List.setIfInBounds_toArray, List.getElem_toArray, List.getElem_cons_zero, List.getElem_cons_succ])
  refine wpAnyH_ready (rs := [7]) (by kernel_rfl) (by simp) ?_
  refine AllReadyH.cons rfl (fun K hK => ?_) AllReadyH.nil
  go_simp
  go_wp2_with ((go_at_call 39; (with_reducible refine cA.mono ?_); rintro e w1 ⟨G, rfl, hG, hR, v1, _, hq1, ht1⟩; clear cA; rw [← hD] at hq1 ht1; obtain ⟨c2, a2, d2, _, m2⟩ := HA.out.queue hq1 ht1; clear hq1 ht1; have HX : Hid (WAt w1 B c2 p ts { S with qL := Que.backL S.now S.qL } ∧ c2.x.D = D ∧ Mm.Mv (bk c ts) (bk c2 ts) w.drew w1) := ⟨a2, d2.trans hD, m2⟩; have q1 := a2.c0; rw [d2, hD] at q1; clear a2 d2 m2))
  refine hK.out _ _ (q1) (fun hHeld => ?_)
  clear hK K
  (try simp only [List.setIfInBounds_toArray, List.set_cons_zero, List.set_cons_succ])
  iterate 5
    refine Tk.tk (v := ?_) rfl (by kernel_rfl) (fun _ _ _ h => h) (Or.inl ⟨by rfl, ?_⟩) (by assumption) ?_
    rotate_left
    · intro w' hSw
      (try dsimp only at hSw)
      (try simp only [Tk.nx, List.getElem_toArray, List.getElem_cons_zero, List.getElem_cons_succ])
      go_simp
      all_goals with_reducible rfl
    (try simp only [Tk.nx, Act.put, List.set_cons_zero, List.set_cons_succ, List.setIfInBounds_toArray, List.getElem_toArray, List.getElem_cons_zero, List.getElem_cons_succ])
  refine wpAnyH_done (by kernel_rfl) ?_ _
  go_wp2
  go_ret
  exact ⟨G, rfl, hG, hR, c2, HX.out.1, HX.out.2.1.trans hD.symm, (Mm.Mv.of_below (Mm.bdrew w)).trans HX.out.2.2⟩
end
end Wld
end Go.Proofs.YtfmahbjidljhmahGreatDoor
namespace Go.Proofs.YtfmahbjidljhmahGreatDoor
namespace Wld
open Go.RowKit Plain Pln Frm Lpp Crn Lop
set_option maxRecDepth 8000

theorem q0_chk : chkP Lop.p0 [Lop.t0] = 0 := by kernel_rfl
theorem q0_I : PdI Lop.p0 := by constructor <;> simp [I, Lop.p0]
theorem q0_ok : PlOk (noN Lop.p0) [Lop.t0] := ok_noN (plOk_of q0_chk)
theorem q0_k : Us Lop.k0 := by constructor <;> simp [U, Lop.k0]
theorem q0_t : TrU Lop.t0 := ⟨by simp [I, Lop.t0], by simp [I, Lop.t0], by simp [I, Lop.t0], q0_k, q0_k⟩
theorem q0_U : ∀ t ∈ [Lop.t0], TrU t := by
  intro t ht
  simp at ht
  subst ht
  exact q0_t
noncomputable abbrev q0P (X : Nat → Nat → Int) (j : Nat) : WS := playW (noN Lop.p0) [Lop.t0] X (newW (noN Lop.p0) [Lop.t0] 1 2 0) j
theorem q0_I0 : WI [Lop.t0] (newW (noN Lop.p0) [Lop.t0] 1 2 0) 0 0 := WI.new _ _ _ _ _ (by omega) (by omega)
theorem new0 (b : Nat) (w : World) (hB : Lai.BdsAt w) (hT : TrsAt w (some ⟨b, 0, none⟩) [Lop.t0]) : Calls Tryz.prog 6 #[planV Lop.p0 (.slice (some ⟨b, 0, none⟩) 1 1), .int .i64 1, .int .i64 2, .int .i64 0] w (NewWA Lop.p0 [Lop.t0] 1 2 0 w) :=
  new_yes Lop.p0 (some ⟨b, 0, none⟩) 1 [Lop.t0] 1 2 0 w hB q0_I (by simp [Lop.p0]) hT q0_chk (by omega) (by omega)
def RnR (w : World) (B : Nat) (c : Pc) (p : Pd) (ts : List Tr) (S : WS) (X : Nat → Nat → Int) (m : Nat) (i : Value) (wr : World) : Prop := ∃ (j : Nat) (c1 : Pc), j ≤ m ∧ i = .int .i64 j ∧ WAt wr B c1 p ts (playW p ts X S j) ∧ c1.x.D = c.x.D ∧ Below w.heap.size w wr
set_option maxHeartbeats 4000000 in
theorem running_any (ao : Option Addr) (m cap : Nat) (X : Nat → Nat → Int) (w : World) (hB : Lai.BdsAt w) (hH : Frm.RowsIn w ao m 3 X) (hm : m ≤ 60) :
    Calls Tryz.prog 17 #[.slice ao m cap] w fun e w' => ∃ B c, e = .returned (.pointer (some ⟨c.x.D, 0, none⟩)) ∧ w.heap.size ≤ B ∧ WAt w' B c (noN Lop.p0) [Lop.t0] (q0P X m) ∧ Below w.heap.size w w' := by
  have cP := Lop.pplan_any w
  have HB : Hid (Lai.BdsAt w) := hB
  have HH : Hid (Frm.RowsIn w ao m 3 X) := hH
  clear hB hH
  go_enter Tryz.func17, Tryz.ntmps17
  go_wp2_with (first
    | (go_at_call 40; (with_reducible refine cP.mono ?_); rintro e w1 ⟨b, rfl, hT1, hb, hb1⟩; clear cP)
    | (go_at_call 6; have cN := new0 b w1 (HB.out.below hb1 (Nat.le_refl _)) hT1; (with_reducible refine cN.mono ?_); rintro e w2 ⟨c, rfl, hA2, hb2⟩; clear cN))
  have hbw : Below w.heap.size w w2 := hb1.trans (hb2.mono hb1.size)
  have HA2 : Hid (WAt w2 w1.heap.size c (noN Lop.p0) [Lop.t0] (q0P X 0) ∧ Below w.heap.size w w2) := ⟨hA2, hbw⟩
  have HB1 : Hid (w.heap.size ≤ w1.heap.size) := hb1.size
  clear hA2 hbw hb1 hb2 hT1
  generalize hD : c.x.D = D at *
  go_loopw [16] (fun i wr => RnR w w1.heap.size c (noN Lop.p0) [Lop.t0] (newW (noN Lop.p0) [Lop.t0] 1 2 0) X m i wr) (fun i _ => m - (intOf i).toNat)
  case atStart => exact ⟨0, c, by omega, rfl, HA2.out.1, rfl, HA2.out.2⟩
  case round =>
    obtain ⟨j, c1, hj, rfl, hA, hd, hbr⟩ := hrel
    by_cases hlt : j < m
    · have hlt' : (j : Int) < (m : Int) := by omega
      obtain ⟨g, off, rfl, hgl, hc⟩ := (Frm.RowsIn.below HH.out hbr (Nat.le_refl _)) j hlt
      have x0 := (hc 0 (by omega)).1
      have x1 := (hc 1 (by omega)).1
      have x2 := (hc 2 (by omega)).1
      simp only [Nat.add_zero] at x0
      rw [← Nat.add_assoc] at x1 x2
      obtain ⟨W, hW⟩ : ∃ W, W = wr.alloc (.cells #[.int .i64 (X j 0), .int .i64 (X j 1), .int .i64 (X j 2)] 34) := ⟨_, rfl⟩
      have hbW : Below wr.heap.size wr W := by rw [hW]; exact (Below.refl _ _).alloc (Nat.le_refl _) _
      have y0 : W.cell? ⟨wr.heap.size, 0, none⟩ = some (.int .i64 (X j 0)) := by rw [hW]; simp
      have y1 : W.cell? ⟨wr.heap.size, 1, none⟩ = some (.int .i64 (X j 1)) := by rw [hW]; simp
      have y2 : W.cell? ⟨wr.heap.size, 2, none⟩ = some (.int .i64 (X j 2)) := by rw [hW]; simp
      have HW : Hid (W = wr.alloc (.cells #[.int .i64 (X j 0), .int .i64 (X j 1), .int .i64 (X j 2)] 34)) := hW
      have HAW : Hid (WAt W w1.heap.size c1 (noN Lop.p0) [Lop.t0] (q0P X j) ∧ Below w.heap.size w W) := ⟨hA.below hbW, hbr.trans (hbW.mono hbr.size)⟩
      have cD := do_any w1.heap.size c1 (noN Lop.p0) [Lop.t0] (q0P X j) j (1000 * j) (X j 0) (X j 1) (X j 2) W HAW.out.1 (WI.play q0_ok q0_I0 X j) (by omega) (by omega) q0_ok q0_U
      have hD1 : c1.x.D = D := hd.trans hD
      rw [hD1] at cD
      clear hA hbr hbW hW hc
      go_upto_region 7 with fail
      rw [← HW.out]
      clear HW x0 x1 x2
      generalize wr.heap.size = C at *
      go_wp2_with (go_at_call 7; (with_reducible refine cD.mono ?_); rintro e w3 ⟨rfl, c3, a3, d3, m3⟩; clear cD; have HX3 : Hid (WAt w3 w1.heap.size c3 (noN Lop.p0) [Lop.t0] (q0P X (j + 1)) ∧ c3.x.D = c1.x.D ∧ Mm.Mv (bk c1 [Lop.t0]) (bk c3 [Lop.t0]) W w3) := ⟨a3, d3, m3⟩; clear a3 d3 m3)
      go_roundw
      case rel => exact ⟨j + 1, c3, hlt, rfl, HX3.out.1, HX3.out.2.1.trans hd, HAW.out.2.trans (HX3.out.2.2.below (fun k hk => Nat.le_trans HB1.out (HAW.out.1.low hk).1) HAW.out.2.size)⟩
      case measure => simp [intOf]; omega
    · obtain rfl : j = m := by omega
      go_wp2
      go_ret
      exact ⟨_, c1, by rw [hd, hD]; rfl, HB1.out, hA, hbr⟩
theorem req_one {w : World} {G : Nat} {r : Buf.Rq} (h : Rec.RowAt Buf.rK w (some ⟨G, 0, none⟩) [r]) : w.cell? ⟨G, 3, none⟩ = some (.int .i64 r.fat) ∧ w.cell? ⟨G, 4, none⟩ = some (.int .i64 r.pod) := by
  obtain ⟨g, e, _, hc⟩ := h (by simp)
  cases e
  have a := hc 0 r rfl 3 _ rfl
  have b := hc 0 r rfl 4 _ rfl
  simp only [Nat.zero_mul, Nat.zero_add] at a b
  exact ⟨a, b⟩
theorem wS_I : WI [Lop.t0] wS 4 4000 := WI.play q0_ok q0_I0 wX 4
theorem wR_any (B : Nat) (c : Pc) (w : World) (hA : WAt w B c (noN Lop.p0) [Lop.t0] wS) : Calls Tryz.prog 14 #[.pointer (some ⟨c.x.D, 0, none⟩)] w fun e w' => ∃ G, e = .returned (.slice (some ⟨G, 0, none⟩) 1 1) ∧ w'.cell? ⟨G, 3, none⟩ = some (.int .i64 2) ∧ w'.cell? ⟨G, 4, none⟩ = some (.int .i64 1) ∧ Below w.heap.size w w' := by
  refine (requests_any B c (noN Lop.p0) [Lop.t0] wS w hA wS_I.r.len).mono ?_
  rintro e w' ⟨G, rfl, _, hR, hb⟩
  rw [wS_R] at hR ⊢
  obtain ⟨a, b⟩ := req_one hR
  exact ⟨G, rfl, a, b, hb⟩
theorem wR2_any (B : Nat) (c : Pc) (w : World) (hA : WAt w B c (noN Lop.p0) [Lop.t0] (doW (noN Lop.p0) [Lop.t0] wS 12 0 1)) : Calls Tryz.prog 14 #[.pointer (some ⟨c.x.D, 0, none⟩)] w fun e w' => ∃ G, e = .returned (.slice (some ⟨G, 0, none⟩) 1 1) ∧ w'.cell? ⟨G, 3, none⟩ = some (.int .i64 3) ∧ Below w.heap.size w w' := by
  refine (requests_any B c (noN Lop.p0) [Lop.t0] _ w hA (wS_I.do q0_ok 12 0 1).r.len).mono ?_
  rintro e w' ⟨G, rfl, _, hR, hb⟩
  rw [wS_D] at hR ⊢
  obtain ⟨a, b⟩ := req_one hR
  exact ⟨G, rfl, a, hb⟩
theorem wD_any (B : Nat) (c : Pc) (w : World) (hA : WAt w B c (noN Lop.p0) [Lop.t0] wS) : Calls Tryz.prog 7 #[.pointer (some ⟨c.x.D, 0, none⟩), .agg #[.int .i64 12, .int .i64 0, .int .i64 1]] w fun e w' => e = .returned (.int .i64 0) ∧ Wst B c (noN Lop.p0) [Lop.t0] (doW (noN Lop.p0) [Lop.t0] wS 12 0 1) w w' := by
  have h := do_any B c (noN Lop.p0) [Lop.t0] wS 4 4000 12 0 1 w hA wS_I (by omega) (by omega) q0_ok q0_U
  rw [wS_E] at h
  exact h
theorem wT_any (B : Nat) (c : Pc) (w : World) (hA : WAt w B c (noN Lop.p0) [Lop.t0] wS) : Calls Tryz.prog 10 #[.pointer (some ⟨c.x.D, 0, none⟩)] w fun e w' => e = .returned (.int .i64 1) ∧ w' = w := by
  have h := target_any B c (noN Lop.p0) [Lop.t0] wS w hA
  rw [wS_tg] at h
  exact h
theorem wX_rows (w : World) (e : TypeId) : Frm.RowsIn (w.alloc (.cells #[.int .i64 11, .int .i64 1, .int .i64 50, .int .i64 1, .int .i64 0, .int .i64 2, .int .i64 8, .int .i64 0, .int .i64 1, .int .i64 9, .int .i64 0, .int .i64 1] e)) (some ⟨w.heap.size, 0, none⟩) 4 3 wX := by
  intro i hi
  refine ⟨w.heap.size, 0, rfl, by simp, fun j hj => ?_⟩
  rcases (by omega : i = 0 ∨ i = 1 ∨ i = 2 ∨ i = 3) with rfl | rfl | rfl | rfl <;> rcases (by omega : j = 0 ∨ j = 1 ∨ j = 2) with rfl | rfl | rfl <;> simp [wX]
set_option maxHeartbeats 4000000 in
theorem works_any (w : World) (hB : Lai.BdsAt w) : Calls Tryz.prog 5 #[] w fun e w' => e = .returned (.bool true) ∧ Below w.heap.size w w' := by
  obtain ⟨W, hW⟩ : ∃ W, W = w.alloc (.cells #[.int .i64 11, .int .i64 1, .int .i64 50, .int .i64 1, .int .i64 0, .int .i64 2, .int .i64 8, .int .i64 0, .int .i64 1, .int .i64 9, .int .i64 0, .int .i64 1] 34) := ⟨_, rfl⟩
  have hbW : Below w.heap.size w W := by rw [hW]; exact (Below.refl _ _).alloc (Nat.le_refl _) _
  have hX : Frm.RowsIn W (some ⟨w.heap.size, 0, none⟩) 4 3 wX := by rw [hW]; exact wX_rows w _
  have cR := running_any (some ⟨w.heap.size, 0, none⟩) 4 4 wX W (hB.below hbW (Nat.le_refl _)) hX (by omega)
  have HW : Hid (W = w.alloc (.cells #[.int .i64 11, .int .i64 1, .int .i64 50, .int .i64 1, .int .i64 0, .int .i64 2, .int .i64 8, .int .i64 0, .int .i64 1, .int .i64 9, .int .i64 0, .int .i64 1] 34)) := hW
  have HB : Hid (Below w.heap.size w W) := hbW
  clear hW hbW hB hX
  go_enter Tryz.func5, Tryz.ntmps5
  go_wp2_with (first
    | (go_at_call 17; (rw [← HW.out]); (with_reducible refine cR.mono ?_); rintro e w1 ⟨B, c, rfl, hB1, hA1, hb1⟩; clear cR; have HA1 : Hid (WAt w1 B c (noN Lop.p0) [Lop.t0] wS) := hA1; clear hA1; generalize hD : c.x.D = D at *)
    | (go_at_call 10; have cT := wT_any B c w2 HA2.out; rw [hD] at cT; (with_reducible refine cT.mono ?_); rintro e w' ⟨rfl, h9⟩; have h8 := h9.symm; clear h9; subst h8; clear cT)
    | (go_at_call 7; have cD := wD_any B c w2 HA2.out; rw [hD] at cD; (with_reducible refine cD.mono ?_); rintro e w3 ⟨rfl, c3, a3, d3, m3⟩; clear cD; have HX3 : Hid (WAt w3 B c3 (noN Lop.p0) [Lop.t0] (doW (noN Lop.p0) [Lop.t0] wS 12 0 1) ∧ Mm.Mv (bk c [Lop.t0]) (bk c3 [Lop.t0]) w2 w3) := ⟨a3, m3⟩; have hD3 : c3.x.D = D := d3.trans hD; clear a3 d3 m3)
    | (go_at_call 14; have cQ := wR2_any B c3 w3 HX3.out.1; rw [hD3] at cQ; (with_reducible refine cQ.mono ?_); rintro e w4 ⟨G4, rfl, r3, hb4⟩; clear cQ)
    | (go_at_call 14; have cQ := wR_any B c w1 HA1.out; rw [hD] at cQ; (with_reducible refine cQ.mono ?_); rintro e w2 ⟨G2, rfl, r3, r4, hb2⟩; clear cQ; have HA2 : Hid (WAt w2 B c (noN Lop.p0) [Lop.t0] wS) := HA1.out.below hb2))
  go_ret
  refine ⟨rfl, ?_⟩
  have b2 : Below w.heap.size w w2 := HB.out.trans ((hb1.trans (hb2.mono hb1.size)).mono HB.out.size)
  have b3 : Below w.heap.size w w3 := b2.trans (HX3.out.2.below (fun k hk => by have := (HA2.out.low hk).1; have := HB.out.size; omega) b2.size)
  exact b3.trans (hb4.mono b3.size)
end Wld
end Go.Proofs.YtfmahbjidljhmahGreatDoor
namespace Go.Proofs.YtfmahbjidljhmahGreatDoor
namespace Wld
open Go.RowKit Plain Pln Frm Lpp Crn Lop
set_option maxRecDepth 8000

theorem bdrewN (w : World) (q : Nat) : Below w.heap.size w (w.drewN q) := Top.below_drewN (Below.refl _ _) q
def T1R (w : World) (B1 B2 D1 D2 : Nat) (p : Pd) (ts : List Tr) (S : WS) (X : Nat → Nat → Int) (m : Nat) (i : Value) (wr : World) : Prop :=
  ∃ (j : Nat) (c1 c2 : Pc), j ≤ m ∧ i = .int .i64 j ∧ W2 wr B1 B2 c1 c2 p ts (playW p ts X S j) (playW p ts X S j) ∧ c1.x.D = D1 ∧ c2.x.D = D2 ∧ Below w.heap.size w wr
def T2R (w : World) (B1 B2 D1 D2 : Nat) (c1 : Pc) (p : Pd) (ts : List Tr) (Sa S : WS) (K : Nat) (i : Value) (wr : World) : Prop :=
  ∃ (j : Nat) (c2 : Pc), j ≤ K ∧ i = .int .i64 j ∧ W2 wr B1 B2 c1 c2 p ts Sa (tickW p ts j S) ∧ c1.x.D = D1 ∧ c2.x.D = D2 ∧ Below w.heap.size w wr
section
variable (p : Pd) (ta : Option Addr) (tc : Nat) (ts : List Tr) (parts most sec : Int) (ao : Option Addr) (m cap : Nat) (X : Nat → Nat → Int) (n : Int) (w : World)
set_option maxHeartbeats 4000000 in
theorem ticks_no (hB : Lai.BdsAt w) (hi : PdI p) (hl : p.nm.length ≤ 9223372036854775807) (hT : TrsAt w ta ts) (hc : newE p ts parts sec ≠ 0) :
    Calls Tryz.prog 3 #[planV p (.slice ta ts.length tc), .int .i64 parts, .int .i64 most, .int .i64 sec, .slice ao m cap, .int .i64 n] w fun e w' => e = .returned (.bool true) ∧ Below w.heap.size w w' := by
  obtain ⟨W, hW⟩ : ∃ W, W = w.alloc (.cells (planC p (.slice ta ts.length tc)) 26) := ⟨_, rfl⟩
  have hPl : PlAt W w.heap.size p (.slice ta ts.length tc) := by rw [hW]; exact plan_new _ _ _ _
  have hbW : Below w.heap.size w W := by rw [hW]; exact (Below.refl _ _).alloc (Nat.le_refl _) _
  have hzW : w.heap.size < W.heap.size := by rw [hW]; simp
  have HW : Hid (W = w.alloc (.cells (planC p (.slice ta ts.length tc)) 26)) := hW
  have cW := works_any W (hB.below hbW (Nat.le_refl _))
  have HB : Hid (Below w.heap.size w W) := hbW
  have HN : Hid (∀ w', Below w.heap.size w w' → Calls Tryz.prog 6 #[planV p (.slice ta ts.length tc), .int .i64 parts, .int .i64 most, .int .i64 sec] w' fun e w'' => e = .returned (.tuple #[.pointer none, .int .i64 (newE p ts parts sec)]) ∧ Below w'.heap.size w' w'') := fun w' hb => new_no p ta tc ts parts most sec w' (hB.below hb (Nat.le_refl _)) hi hl (hT.below hb (Nat.le_refl _)) hc
  have dne : (newE p ts parts sec != 0) = true := by rw [bne_iff_ne]; exact hc
  clear hW hbW hB hi hl hT hc
  generalize newE p ts parts sec = E at *
  go_enter Tryz.func3, Tryz.ntmps3
  go_upto_region 1 with fail
  rw [← HW.out]
  clear HW
  go_wp2_with (first
    | (go_at_call 5; (with_reducible refine cW.mono ?_); rintro e w1 ⟨rfl, hb1⟩; clear cW; have hP1 := hPl.on hb1 hzW; have hz1 := Nat.lt_of_lt_of_le hzW hb1.size; have HB1 : Hid (Below w.heap.size w w1) := HB.out.trans (hb1.mono HB.out.size); clear hPl)
    | (with_reducible refine wp_plan hP2 (by with_unfolding_all rfl) ?_)
    | (with_reducible refine wp_plan hP1 (by with_unfolding_all rfl) ?_)
    | (go_at_call 6; have cN := HN.out w2 HB2.out; (with_reducible refine cN.mono ?_); rintro e w3 ⟨rfl, hb3⟩; clear cN)
    | (go_at_call 6; have cN := HN.out w1 HB1.out; (with_reducible refine cN.mono ?_); rintro e w2 ⟨rfl, hb2⟩; clear cN; have hP2 := hP1.on hb2 hz1; have HB2 : Hid (Below w.heap.size w w2) := HB1.out.trans (hb2.mono HB1.out.size)))
  go_ret
  exact ⟨by simp, HB2.out.trans (hb3.mono HB2.out.size)⟩
set_option maxHeartbeats 4000000 in
theorem ticks_many (N : Nat) (hB : Lai.BdsAt w) (hi : PdI p) (hl : p.nm.length ≤ 9223372036854775807) (hT : TrsAt w ta ts) (hc : chkP p ts = 0) (hn : 1 ≤ N ∧ N ≤ 20) (hs : -10000000000 ≤ sec ∧ sec ≤ 10000000000) (hm : 60 < m) :
    Calls Tryz.prog 3 #[planV p (.slice ta ts.length tc), .int .i64 (N : Int), .int .i64 most, .int .i64 sec, .slice ao m cap, .int .i64 n] w fun e w' => e = .returned (.bool true) ∧ Below w.heap.size w w' := by
  obtain ⟨W, hW⟩ : ∃ W, W = w.alloc (.cells (planC p (.slice ta ts.length tc)) 26) := ⟨_, rfl⟩
  have hPl : PlAt W w.heap.size p (.slice ta ts.length tc) := by rw [hW]; exact plan_new _ _ _ _
  have hbW : Below w.heap.size w W := by rw [hW]; exact (Below.refl _ _).alloc (Nat.le_refl _) _
  have hzW : w.heap.size < W.heap.size := by rw [hW]; simp
  have HW : Hid (W = w.alloc (.cells (planC p (.slice ta ts.length tc)) 26)) := hW
  have cW := works_any W (hB.below hbW (Nat.le_refl _))
  have HB : Hid (Below w.heap.size w W) := hbW
  have HN : Hid (∀ w', Below w.heap.size w w' → Calls Tryz.prog 6 #[planV p (.slice ta ts.length tc), .int .i64 (N : Int), .int .i64 most, .int .i64 sec] w' (NewWA p ts N most sec w')) := fun w' hb => new_yes p ta tc ts N most sec w' (hB.below hb (Nat.le_refl _)) hi hl (hT.below hb (Nat.le_refl _)) hc hn hs
  have hm' : (60 : Int) < (m : Int) := by omega
  clear hW hbW hB hi hl hT hc
  go_enter Tryz.func3, Tryz.ntmps3
  go_upto_region 1 with fail
  rw [← HW.out]
  clear HW
  go_wp2_with (first
    | (go_at_call 5; (with_reducible refine cW.mono ?_); rintro e w1 ⟨rfl, hb1⟩; clear cW; have hP1 := hPl.on hb1 hzW; have hz1 := Nat.lt_of_lt_of_le hzW hb1.size; have HB1 : Hid (Below w.heap.size w w1) := HB.out.trans (hb1.mono HB.out.size); clear hPl)
    | (with_reducible refine wp_plan hP2 (by with_unfolding_all rfl) ?_)
    | (with_reducible refine wp_plan hP1 (by with_unfolding_all rfl) ?_)
    | (go_at_call 6; have cN := HN.out w2 HB2.out; (with_reducible refine cN.mono ?_); rintro e w3 ⟨c2, rfl, hA3, hb3⟩; clear cN; have HA3 : Hid (WAt w3 w2.heap.size c2 (noN p) ts (newW (noN p) ts N most sec)) := hA3; clear hA3)
    | (go_at_call 6; have cN := HN.out w1 HB1.out; (with_reducible refine cN.mono ?_); rintro e w2 ⟨c1, rfl, hA2, hb2⟩; clear cN; have HA2 : Hid (WAt w2 w1.heap.size c1 (noN p) ts (newW (noN p) ts N most sec)) := hA2; clear hA2; have hP2 := hP1.on hb2 hz1; have HB2 : Hid (Below w.heap.size w w2) := HB1.out.trans (hb2.mono HB1.out.size)))
  go_ret
  exact ⟨rfl, HB2.out.trans (hb3.mono HB2.out.size)⟩
set_option maxHeartbeats 16000000 in
theorem ticks_yes (N : Nat) (hB : Lai.BdsAt w) (hi : PdI p) (hl : p.nm.length ≤ 9223372036854775807) (hT : TrsAt w ta ts) (hc : chkP p ts = 0) (hU : ∀ t ∈ ts, TrU t) (hn : 1 ≤ N ∧ N ≤ 20) (hs : -10000000000 ≤ sec ∧ sec ≤ 10000000000) (hm : m ≤ 60) (hH : Frm.RowsIn w ao m 3 X) :
    Calls Tryz.prog 3 #[planV p (.slice ta ts.length tc), .int .i64 (N : Int), .int .i64 most, .int .i64 sec, .slice ao m cap, .int .i64 n] w fun e w' => e = .returned (.bool true) ∧ Below w.heap.size w w' := by
  obtain ⟨W, hW⟩ : ∃ W, W = w.alloc (.cells (planC p (.slice ta ts.length tc)) 26) := ⟨_, rfl⟩
  have hPl : PlAt W w.heap.size p (.slice ta ts.length tc) := by rw [hW]; exact plan_new _ _ _ _
  have hbW : Below w.heap.size w W := by rw [hW]; exact (Below.refl _ _).alloc (Nat.le_refl _) _
  have hzW : w.heap.size < W.heap.size := by rw [hW]; simp
  have HW : Hid (W = w.alloc (.cells (planC p (.slice ta ts.length tc)) 26)) := hW
  have cW := works_any W (hB.below hbW (Nat.le_refl _))
  have HB : Hid (Below w.heap.size w W) := hbW
  have HN : Hid (∀ w', Below w.heap.size w w' → Calls Tryz.prog 6 #[planV p (.slice ta ts.length tc), .int .i64 (N : Int), .int .i64 most, .int .i64 sec] w' (NewWA p ts N most sec w')) := fun w' hb => new_yes p ta tc ts N most sec w' (hB.below hb (Nat.le_refl _)) hi hl (hT.below hb (Nat.le_refl _)) hc hn hs
  have hm' : ¬ (60 : Int) < (m : Int) := by omega
  have hP := ok_noN (plOk_of hc)
  have hI0 : WI ts (newW (noN p) ts N most sec) 0 0 := WI.new _ _ _ _ _ hn hs
  have HH : Hid (Frm.RowsIn w ao m 3 X) := hH
  have cR := fun w => Rsw.rest_any n 30 w (by decide) (by decide)
  have hr0 : 0 ≤ n % 30 := Int.emod_nonneg _ (by decide)
  have hr1 : n % 30 < 30 := Int.emod_lt_of_pos _ (by decide)
  obtain ⟨K, hK⟩ : ∃ K : Nat, n % 30 + 1 = (K : Int) := ⟨(n % 30 + 1).toNat, by omega⟩
  have hK1 : 1 ≤ K := by omega
  have hK2 : K ≤ 30 := by omega
  have hnow : ∀ j, j ≤ 60 → (playW (noN p) ts X (newW (noN p) ts N most sec) j).now ≤ 60000 := fun j hj => by
    have := play_now (noN p) ts X (newW (noN p) ts N most sec) j
    have e : (newW (noN p) ts N most sec).now = 0 := rfl
    omega
  clear hW hbW hB hi hl hT hc hH
  go_enter Tryz.func3, Tryz.ntmps3
  go_upto_region 1 with fail
  rw [← HW.out]
  clear HW
  go_wp2_with (first
    | (go_at_call 5; (with_reducible refine cW.mono ?_); rintro e w1 ⟨rfl, hb1⟩; clear cW; have hP1 := hPl.on hb1 hzW; have hz1 := Nat.lt_of_lt_of_le hzW hb1.size; have HB1 : Hid (Below w.heap.size w w1) := HB.out.trans (hb1.mono HB.out.size); clear hPl)
    | (with_reducible refine wp_plan hP2 (by with_unfolding_all rfl) ?_)
    | (with_reducible refine wp_plan hP1 (by with_unfolding_all rfl) ?_)
    | (go_at_call 6; have cN := HN.out w2 HB2.out; (with_reducible refine cN.mono ?_); rintro e w3 ⟨c2, rfl, hA3, hb3⟩; clear cN; have HA3 : Hid (WAt w3 w2.heap.size c2 (noN p) ts (newW (noN p) ts N most sec)) := hA3; clear hA3)
    | (go_at_call 6; have cN := HN.out w1 HB1.out; (with_reducible refine cN.mono ?_); rintro e w2 ⟨c1, rfl, hA2, hb2⟩; clear cN; have HA2 : Hid (WAt w2 w1.heap.size c1 (noN p) ts (newW (noN p) ts N most sec)) := hA2; clear hA2; have hP2 := hP1.on hb2 hz1; have HB2 : Hid (Below w.heap.size w w2) := HB1.out.trans (hb2.mono HB1.out.size)))
  have HX0 : Hid (W2 w3 w1.heap.size w2.heap.size c1 c2 (noN p) ts (newW (noN p) ts N most sec) (newW (noN p) ts N most sec) ∧ Below w.heap.size w w3) := ⟨W2.new HA2.out hb3 HA3.out, HB2.out.trans (hb3.mono HB2.out.size)⟩
  have HL1 : Hid (w.heap.size ≤ w1.heap.size) := HB1.out.size
  have HL2 : Hid (w.heap.size ≤ w2.heap.size) := HB2.out.size
  clear HN HA2 HA3 hb1 hb2 hb3 hP1 hP2 hz1 HB1 HB2 HB
  generalize newW (noN p) ts N most sec = S0 at *
  generalize hD1 : c1.x.D = D1 at *
  generalize hD2 : c2.x.D = D2 at *
  go_loopw [54] (fun i wr => T1R w w1.heap.size w2.heap.size D1 D2 (noN p) ts S0 X m i wr) (fun i _ => m - (intOf i).toNat)
  case atStart => exact ⟨0, c1, c2, by omega, rfl, HX0.out.1, hD1, hD2, HX0.out.2⟩
  case round =>
    clear hD1 hD2 HX0 c1 c2
    obtain ⟨j, c1, c2, hj, rfl, h2, hD1, hD2, hbr⟩ := hrel
    by_cases hlt : j < m
    · have hlt' : (j : Int) < (m : Int) := by omega
      obtain ⟨g, off, rfl, hgl, hcx⟩ := (Frm.RowsIn.below HH.out hbr (Nat.le_refl _)) j hlt
      have x0 := (hcx 0 (by omega)).1
      have x1 := (hcx 1 (by omega)).1
      have x2 := (hcx 2 (by omega)).1
      simp only [Nat.add_zero] at x0
      rw [← Nat.add_assoc] at x1 x2
      obtain ⟨V, hV⟩ : ∃ V, V = wr.alloc (.cells #[.int .i64 (X j 0), .int .i64 (X j 1), .int .i64 (X j 2)] 34) := ⟨_, rfl⟩
      have hbV : Below wr.heap.size wr V := by rw [hV]; exact (Below.refl _ _).alloc (Nat.le_refl _) _
      have y0 : V.cell? ⟨wr.heap.size, 0, none⟩ = some (.int .i64 (X j 0)) := by rw [hV]; simp
      have y1 : V.cell? ⟨wr.heap.size, 1, none⟩ = some (.int .i64 (X j 1)) := by rw [hV]; simp
      have y2 : V.cell? ⟨wr.heap.size, 2, none⟩ = some (.int .i64 (X j 2)) := by rw [hV]; simp
      have HV : Hid (V = wr.alloc (.cells #[.int .i64 (X j 0), .int .i64 (X j 1), .int .i64 (X j 2)] 34)) := hV
      have HX1 : Hid (W2 V w1.heap.size w2.heap.size c1 c2 (noN p) ts (playW (noN p) ts X S0 j) (playW (noN p) ts X S0 j) ∧ Below w.heap.size w V) := ⟨h2.below hbV, hbr.trans (hbV.mono hbr.size)⟩
      have hIj := WI.play hP hI0 X j
      have cD := do_any w1.heap.size c1 (noN p) ts (playW (noN p) ts X S0 j) j (1000 * j) (X j 0) (X j 1) (X j 2) V HX1.out.1.a hIj (by omega) (by omega) hP hU
      rw [hD1] at cD
      have hC : ¬ bk c1 ts wr.heap.size := fun e => absurd (h2.a.low e).2 (Nat.lt_irrefl _)
      clear h2 hbr hbV hV hcx
      go_upto_region 10 with fail
      rw [← HV.out]
      clear HV x0 x1 x2
      generalize wr.heap.size = C at *
      go_wp2_with (first
        | (go_at_call 7; (with_reducible refine cD.mono ?_); rintro e w4 ⟨rfl, t4⟩; clear cD; obtain ⟨c3, h4, d4, m4⟩ := HX1.out.1.left t4; clear t4; have HX4 : Hid (W2 w4 w1.heap.size w2.heap.size c3 c2 (noN p) ts (playW (noN p) ts X S0 (j + 1)) (playW (noN p) ts X S0 j) ∧ c3.x.D = D1 ∧ Below w.heap.size w w4) := ⟨h4, d4.trans hD1, HX1.out.2.trans (m4.below (fun k hk => Nat.le_trans HL1.out (HX1.out.1.a.low hk).1) HX1.out.2.size)⟩; have z0 := m4.cell y0 hC; have z1 := m4.cell y1 hC; have z2 := m4.cell y2 hC; clear h4 d4 m4 y0 y1 y2)
        | (go_at_call 7; have cE := do_any w2.heap.size c2 (noN p) ts (playW (noN p) ts X S0 j) j (1000 * j) (X j 0) (X j 1) (X j 2) w4 HX4.out.1.b hIj (by omega) (by omega) hP hU; rw [hD2] at cE; (with_reducible refine cE.mono ?_); rintro e w5 ⟨rfl, t5⟩; clear cE; obtain ⟨c4, h5, d5, m5⟩ := HX4.out.1.right t5; clear t5; have HX5 : Hid (W2 w5 w1.heap.size w2.heap.size c3 c4 (noN p) ts (playW (noN p) ts X S0 (j + 1)) (playW (noN p) ts X S0 (j + 1)) ∧ c4.x.D = D2 ∧ Below w.heap.size w w5) := ⟨h5, d5.trans hD2, HX4.out.2.2.trans (m5.below (fun k hk => Nat.le_trans HL2.out (HX4.out.1.b.low hk).1) HX4.out.2.2.size)⟩; clear h5 d5 m5))
      go_roundw
      case rel => exact ⟨j + 1, c3, c4, hlt, rfl, HX5.out.1, HX4.out.2.1, HX5.out.2.1, HX5.out.2.2⟩
      case measure => simp [intOf]; omega
    · obtain rfl : j = m := by omega
      have hIm := WI.play hP hI0 X j
      have hn0 := hnow j hm
      clear hnow
      obtain ⟨Sm, hSm⟩ : ∃ Sm, Sm = playW (noN p) ts X S0 j := ⟨_, rfl⟩
      rw [← hSm] at h2 hIm hn0
      clear hSm
      have cA := do_any w1.heap.size c1 (noN p) ts Sm j (1000 * j) 1 0 (K : Int) wr h2.a hIm (by omega) (by omega) hP hU
      rw [do_tick (noN p) ts Sm 0 K hK1 (by omega) (by omega), hD1] at cA
      have HX1 : Hid (W2 wr w1.heap.size w2.heap.size c1 c2 (noN p) ts Sm Sm ∧ Below w.heap.size w wr) := ⟨h2, hbr⟩
      clear h2 hbr
      go_wp2_with (first
        | (go_at_call 8; (with_reducible refine (cR _).mono ?_); rintro e w' ⟨rfl, h9⟩; have h8 := h9.symm; clear h9; subst h8)
        | (go_at_call 7; (with_reducible refine cA.mono ?_); rintro e w4 ⟨rfl, t4⟩; clear cA; obtain ⟨c3, h4, d4, m4⟩ := HX1.out.1.left t4; clear t4; have HX4 : Hid (W2 w4 w1.heap.size w2.heap.size c3 c2 (noN p) ts (tickW (noN p) ts K Sm) Sm ∧ c3.x.D = D1 ∧ Below w.heap.size w w4) := ⟨h4, d4.trans hD1, HX1.out.2.trans (m4.below (fun k hk => Nat.le_trans HL1.out (HX1.out.1.a.low hk).1) HX1.out.2.size)⟩; clear h4 d4 m4))
      clear hr0 hr1 cR hK
      generalize hD1' : D1 = E1 at *
      go_loopw [73] (fun i wr => T2R w w1.heap.size w2.heap.size E1 D2 c3 (noN p) ts (tickW (noN p) ts K Sm) Sm K i wr) (fun i _ => K - (intOf i).toNat)
      case atStart => exact ⟨0, c2, by omega, rfl, HX4.out.1, HX4.out.2.1, hD2, HX4.out.2.2⟩
      case round =>
        clear hD2 HX1 hD1
        obtain ⟨q, c2, hq, rfl, h2, hD1, hD2, hbr⟩ := hrel
        by_cases hlt2 : q < K
        · have hlt' : (q : Int) < (K : Int) := by omega
          have hIq := hIm.ticks hP q (by omega)
          have hnq : (tickW (noN p) ts q Sm).now = Sm.now + q := tickW_now q Sm
          have cE := do_any w2.heap.size c2 (noN p) ts (tickW (noN p) ts q Sm) j (1000 * j + q) 1 0 ((1 : Nat) : Int) wr h2.b hIq (by omega) (by omega) hP hU
          rw [do_tick (noN p) ts (tickW (noN p) ts q Sm) 0 1 (by omega) (by omega) (by omega), hD2] at cE
          rw [show ((1 : Nat) : Int) = 1 from rfl] at cE
          have HX6 : Hid (W2 wr w1.heap.size w2.heap.size c3 c2 (noN p) ts (tickW (noN p) ts K Sm) (tickW (noN p) ts q Sm) ∧ Below w.heap.size w wr) := ⟨h2, hbr⟩
          clear h2 hbr hIq hnq
          go_wp2_with (go_at_call 7; (with_reducible refine cE.mono ?_); rintro e w5 ⟨rfl, t5⟩; clear cE; obtain ⟨c4, h5, d5, m5⟩ := HX6.out.1.right t5; clear t5; have HX5 : Hid (W2 w5 w1.heap.size w2.heap.size c3 c4 (noN p) ts (tickW (noN p) ts K Sm) (tickW (noN p) ts (q + 1) Sm) ∧ c4.x.D = D2 ∧ Below w.heap.size w w5) := ⟨by rw [tickW_add (noN p) ts q 1 Sm]; exact h5, d5.trans hD2, HX6.out.2.trans (m5.below (fun k hk => Nat.le_trans HL2.out (HX6.out.1.b.low hk).1) HX6.out.2.size)⟩; clear h5 d5 m5)
          go_roundw
          case rel => exact ⟨q + 1, c4, hlt2, rfl, HX5.out.1, hD1, HX5.out.2.1, HX5.out.2.2⟩
          case measure => simp [intOf]; omega
        · obtain rfl : q = K := by omega
          have hIT := hIm.ticks hP q (by omega)
          obtain ⟨T, hTT⟩ : ∃ T, T = tickW (noN p) ts q Sm := ⟨_, rfl⟩
          rw [← hTT] at h2 hIT
          have hlF : T.F.L.length ≤ 1000000000 := by have := hIT.len; omega
          have hlR : T.R.length ≤ 200 := hIT.r.len
          have hlM : (Que.backL T.now T.qL).length ≤ 200 := (hIT.q.back _).len
          have HX7 : Hid (W2 wr w1.heap.size w2.heap.size c3 c2 (noN p) ts T T ∧ Below w.heap.size w wr) := ⟨h2, hbr⟩
          have HIT : Hid (WI ts T j (1000 * j + q)) := hIT
          clear h2 hbr hIT hTT HX4 hIm
          go_wp2_with (first
            | (go_at_call 9; have cX := now_any w1.heap.size c3 (noN p) ts T wr HX7.out.1.a; rw [hD1] at cX; (with_reducible refine cX.mono ?_); rintro e w' ⟨rfl, h9⟩; have h8 := h9.symm; clear h9; subst h8; clear cX)
            | (go_at_call 9; have cX := now_any w2.heap.size c2 (noN p) ts T wr HX7.out.1.b; rw [hD2] at cX; (with_reducible refine cX.mono ?_); rintro e w' ⟨rfl, h9⟩; have h8 := h9.symm; clear h9; subst h8; clear cX)
            | (go_at_call 10; have cX := target_any w1.heap.size c3 (noN p) ts T wr HX7.out.1.a; rw [hD1] at cX; (with_reducible refine cX.mono ?_); rintro e w' ⟨rfl, h9⟩; have h8 := h9.symm; clear h9; subst h8; clear cX)
            | (go_at_call 10; have cX := target_any w2.heap.size c2 (noN p) ts T wr HX7.out.1.b; rw [hD2] at cX; (with_reducible refine cX.mono ?_); rintro e w' ⟨rfl, h9⟩; have h8 := h9.symm; clear h9; subst h8; clear cX)
            | (go_at_call 12; have cX := pods_any w1.heap.size c3 (noN p) ts T wr HX7.out.1.a hlF; rw [hD1] at cX; (with_reducible refine cX.mono ?_); rintro e w5 ⟨rfl, hR5, hb5⟩; clear cX; have HX8 : Hid (W2 w5 w1.heap.size w2.heap.size c3 c2 (noN p) ts T T ∧ Below w.heap.size w w5) := ⟨HX7.out.1.below hb5, HX7.out.2.trans (hb5.mono HX7.out.2.size)⟩)
            | (go_at_call 12; have cX := pods_any w2.heap.size c2 (noN p) ts T w5 HX8.out.1.b hlF; rw [hD2] at cX; (with_reducible refine cX.mono ?_); rintro e w6 ⟨rfl, hR6, hb6⟩; clear cX; have HX9 : Hid (W2 w6 w1.heap.size w2.heap.size c3 c2 (noN p) ts T T ∧ Below w.heap.size w w6) := ⟨HX8.out.1.below hb6, HX8.out.2.trans (hb6.mono HX8.out.2.size)⟩)
            | (go_at_call 11; have cX := Flt.equal_pods _ _ T.F.L T.F.L.length T.F.L.length w6 (hR5.below hb6) hR6 hlF; (with_reducible refine cX.mono ?_); rintro e w7 ⟨rfl, q7, hq7⟩; clear cX; have HX10 : Hid (W2 w7 w1.heap.size w2.heap.size c3 c2 (noN p) ts T T ∧ Below w.heap.size w w7) := by
                rw [hq7]
                exact ⟨HX9.out.1.below (bdrewN _ _), HX9.out.2.trans ((bdrewN _ _).mono HX9.out.2.size)⟩
               clear hq7 hR5 hR6)
            | (go_at_call 14; have cX := requests_any w1.heap.size c3 (noN p) ts T w7 HX10.out.1.a hlR; rw [hD1] at cX; (with_reducible refine cX.mono ?_); rintro e w8 ⟨G8, rfl, hG8, hR8, hb8⟩; clear cX; have HX11 : Hid (W2 w8 w1.heap.size w2.heap.size c3 c2 (noN p) ts T T ∧ Below w.heap.size w w8) := ⟨HX10.out.1.below hb8, HX10.out.2.trans (hb8.mono HX10.out.2.size)⟩)
            | (go_at_call 14; have cX := requests_any w2.heap.size c2 (noN p) ts T w8 HX11.out.1.b hlR; rw [hD2] at cX; (with_reducible refine cX.mono ?_); rintro e w9 ⟨G9, rfl, hG9, hR9, hb9⟩; clear cX; have HX12 : Hid (W2 w9 w1.heap.size w2.heap.size c3 c2 (noN p) ts T T ∧ Below w.heap.size w w9) := ⟨HX11.out.1.below hb9, HX11.out.2.trans (hb9.mono HX11.out.2.size)⟩)
            | (go_at_call 13; have cX := Buf.equal_reqs _ _ T.R T.R.length T.R.length w9 (hR8.below hb9) hR9 (by omega); (with_reducible refine cX.mono ?_); rintro e w10 ⟨rfl, q10, hq10⟩; clear cX; have HX13 : Hid (W2 w10 w1.heap.size w2.heap.size c3 c2 (noN p) ts T T ∧ Below w.heap.size w w10) := by
                rw [hq10]
                exact ⟨HX12.out.1.below (bdrewN _ _), HX12.out.2.trans ((bdrewN _ _).mono HX12.out.2.size)⟩
               clear hq10 hR8 hR9)
            | (go_at_call 16; have cX := messages_any w1.heap.size c3 (noN p) ts T j (1000 * j + q) w10 HX13.out.1.a HIT.out; rw [hD1] at cX; (with_reducible refine cX.mono ?_); rintro e w11 ⟨G11, rfl, hG11, hR11, t11⟩; clear cX; obtain ⟨c5, h11, d11, m11⟩ := HX13.out.1.left t11; clear t11; have HX14 : Hid (W2 w11 w1.heap.size w2.heap.size c5 c2 (noN p) ts { T with qL := Que.backL T.now T.qL } T ∧ Below w.heap.size w w11 ∧ ¬ bk c2 ts G11) := ⟨h11, HX13.out.2.trans (m11.below (fun k hk => Nat.le_trans HL1.out (HX13.out.1.a.low hk).1) HX13.out.2.size), fun e => absurd (HX13.out.1.b.low e).2 (by omega)⟩; clear h11 d11 m11)
            | (go_at_call 16; have cX := messages_any w2.heap.size c2 (noN p) ts T j (1000 * j + q) w11 HX14.out.1.b HIT.out; rw [hD2] at cX; (with_reducible refine cX.mono ?_); rintro e w12 ⟨G12, rfl, hG12, hR12, t12⟩; clear cX; obtain ⟨c6, h12, d12, m12⟩ := HX14.out.1.right t12; clear t12; have hR13 := rowM_mv hR11 m12 HX14.out.2.2; have HX15 : Hid (Below w.heap.size w w12) := HX14.out.2.1.trans (m12.below (fun k hk => Nat.le_trans HL2.out (HX14.out.1.b.low hk).1) HX14.out.2.1.size); clear h12 d12 m12)
            | (go_at_call 15; have cX := Que.equal_msgs _ _ (Que.backL T.now T.qL) (Que.backL T.now T.qL).length (Que.backL T.now T.qL).length w12 hR13 hR12 hlM; (with_reducible refine cX.mono ?_); rintro e w13 ⟨rfl, q13, hq13⟩; clear cX))
          go_ret
          exact ⟨rfl, HX15.out.trans ((bdrewN _ _).mono HX15.out.size)⟩
theorem newE_zero {p : Pd} {ts : List Tr} {parts sec : Int} (h : newE p ts parts sec = 0) : chkP p ts = 0 ∧ (1 ≤ parts ∧ parts ≤ 20) ∧ (-10000000000 ≤ sec ∧ sec ≤ 10000000000) := by
  unfold newE at h
  split at h
  · rename_i e; exact absurd h e
  · rename_i e
    split at h
    · rename_i g; exact ⟨Decidable.of_not_not e, g⟩
    · cases h
theorem worldTicks_any (hB : Lai.BdsAt w) (hi : PdI p) (hl : p.nm.length ≤ 9223372036854775807) (hT : TrsAt w ta ts) (hU : ∀ t ∈ ts, TrU t) (hH : Frm.RowsIn w ao m 3 X) :
    Calls Tryz.prog 3 #[planV p (.slice ta ts.length tc), .int .i64 parts, .int .i64 most, .int .i64 sec, .slice ao m cap, .int .i64 n] w fun e w' => e = .returned (.bool true) ∧ Below w.heap.size w w' := by
  by_cases hc : newE p ts parts sec = 0
  · obtain ⟨h1, h2, h3⟩ := newE_zero hc
    obtain ⟨N, rfl⟩ : ∃ N : Nat, parts = (N : Int) := ⟨parts.toNat, by omega⟩
    by_cases hm : m ≤ 60
    · exact ticks_yes p ta tc ts most sec ao m cap X n w N hB hi hl hT h1 hU (by omega) h3 hm hH
    · exact ticks_many p ta tc ts most sec ao m cap n w N hB hi hl hT h1 (by omega) h3 (by omega)
  · exact ticks_no p ta tc ts parts most sec ao m cap n w hB hi hl hT hc
end
end Wld
end Go.Proofs.YtfmahbjidljhmahGreatDoor
