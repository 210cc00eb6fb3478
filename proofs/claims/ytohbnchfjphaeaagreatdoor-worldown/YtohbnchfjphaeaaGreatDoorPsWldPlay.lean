/- Some happenings, one behind the other. The clock of a world behind a happening. Two worlds side by side; messages; ticks one by one. What a world answers lies in rows of its own, that may be written over: nothing that was there turns. The messages that a world answers lie in a row that is not its own; what is written over there leaves two worlds as they are. Two worlds that differ in messages alone that were given back a little sooner: what happens to both is the same. What stands at the head of the laws of a world: running, works. -/
import Derived.Test.YtohbnchfjphaeaaGreatDoorPsWldHand
import Derived.Test.YtohbnchfjphaeaaGreatDoorPsLopPlan
import Derived.Test.YtohbnchfjphaeaaGreatDoorPsFrame
import Derived.Test.YtohbnchfjphaeaaGreatDoorPsAr
import Derived.Test.YtohbnchfjphaeaaGreatDoorPsFltWalks
import Derived.Test.YtohbnchfjphaeaaGreatDoorPsTak
import Derived.BigQuiet
import Derived.Deep.RegionHeld
namespace Go.Proofs.YtohbnchfjphaeaaGreatDoor
namespace Wld
open Go.RowKit Plain Pln Frm Lpp Crn Lop
set_option maxRecDepth 8000

noncomputable def playW (p : Pd) (ts : List Tr) (X : Nat → Nat → Int) (S : WS) : Nat → WS
 | 0 => S
 | j + 1 => doW p ts (playW p ts X S j) (X j 0) (X j 1) (X j 2)
theorem WI.play {p : Pd} {ts : List Tr} {S : WS} (hP : PlOk p ts) (g : WI ts S 0 0) (X : Nat → Nat → Int) : ∀ j, WI ts (playW p ts X S j) j (1000 * j)
 | 0 => g
 | j + 1 => (WI.play hP g X j).do hP _ _ _
def wX (i j : Nat) : Int := match i, j with
 | 0, 0 => 11
 | 0, 1 => 1
 | 0, 2 => 50
 | 1, 0 => 1
 | 1, 2 => 2
 | 2, 0 => 8
 | 2, 2 => 1
 | 3, 0 => 9
 | 3, 2 => 1
 | _, _ => 0
noncomputable def wS : WS := playW (noN Lop.p0) [Lop.t0] wX (newW (noN Lop.p0) [Lop.t0] 1 2 0) 4
theorem wS_tg : wS.tg = 1 := by kernel_rfl
theorem wS_R : wS.R = [⟨1, 1, 50, 2, 1⟩] := by kernel_rfl
theorem wS_E : doE wS 12 0 1 = 0 := by kernel_rfl
theorem wS_D : (doW (noN Lop.p0) [Lop.t0] wS 12 0 1).R = [⟨1, 1, 50, 3, 1⟩] := by kernel_rfl
end Wld
namespace Wld
open Go.RowKit Plain Pln Frm Lpp Crn Lop
set_option maxRecDepth 8000

end Wld
namespace Wld
open Go.RowKit Plain Pln Frm Lpp Crn Lop
set_option maxRecDepth 8000

structure W2 (w : World) (B1 B2 : Nat) (c1 c2 : Pc) (p : Pd) (ts : List Tr) (S1 S2 : WS) : Prop where
 a : WAt w B1 c1 p ts S1
 b : WAt w B2 c2 p ts S2
 ap : ∀ k, bk c1 ts k → ¬ bk c2 ts k
 le : B1 ≤ B2
section
variable {w w' : World} {B B1 B2 : Nat} {c1 c2 : Pc} {p : Pd} {ts : List Tr} {S S1 S2 S' : WS} {h k : Nat}
theorem Bas.up {B B' : Nat} {w : World} (h : Bas B w) (hB : B ≤ B') : Bas B' w := by
 obtain ⟨w0, a, b, d⟩ := h
 exact ⟨w0, a, Nat.le_trans b hB, d⟩
theorem W2.below (h : W2 w B1 B2 c1 c2 p ts S1 S2) (g : Below w.heap.size w w') : W2 w' B1 B2 c1 c2 p ts S1 S2 := ⟨h.a.below g, h.b.below g, h.ap, h.le⟩
theorem W2.left (h : W2 w B1 B2 c1 c2 p ts S1 S2) (t : Wst B1 c1 p ts S' w w') : ∃ c1', W2 w' B1 B2 c1' c2 p ts S' S2 ∧ c1'.x.D = c1.x.D ∧ Mm.Mv (bk c1 ts) (bk c1' ts) w w' := by
 obtain ⟨c', a, d, m⟩ := t
 refine ⟨c', ⟨a, h.b.kept (fun k hk => m.block k (h.b.low hk).2 (fun e => h.ap k e hk)) m.size (a.ba.up h.le), fun k hk hn => ?_, h.le⟩, d, m⟩
 rcases m.loc k hk with x | x
 ·exact h.ap k x hn
 ·have := (h.b.low hn).2; omega
theorem W2.right (h : W2 w B1 B2 c1 c2 p ts S1 S2) (t : Wst B2 c2 p ts S' w w') : ∃ c2', W2 w' B1 B2 c1 c2' p ts S1 S' ∧ c2'.x.D = c2.x.D ∧ Mm.Mv (bk c2 ts) (bk c2' ts) w w' := by
 obtain ⟨c', b, d, m⟩ := t
 refine ⟨c', ⟨h.a.kept (fun k hk => m.block k (h.a.low hk).2 (fun e => h.ap k hk e)) m.size (h.a.ba.mv (fun k hk => Nat.le_trans h.le (h.b.low hk).1) m), b, fun k hk hn => ?_, h.le⟩, d, m⟩
 rcases m.loc k hn with x | x
 ·exact h.ap k hk x
 ·have := (h.a.low hk).2; omega
theorem W2.new (ha : WAt w B1 c1 p ts S1) (hb : Below w.heap.size w w') (h2 : WAt w' w.heap.size c2 p ts S2) : W2 w' B1 w.heap.size c1 c2 p ts S1 S2 := by
 have hl : B1 ≤ w.heap.size := Nat.le_of_lt (Nat.lt_of_le_of_lt ha.bD ha.lt)
 refine ⟨ha.below hb, h2, fun k hk hn => ?_, hl⟩
 have := (ha.low hk).2
 have := (h2.low hn).1
 omega
end
theorem rowM_mv {w w' : World} {G : Nat} {L : List Que.M} {b b' : Nat → Prop} (h : Que.RowAt w (some ⟨G, 0, none⟩) L) (m : Mm.Mv b b' w w') (hb : ¬ b G) : Que.RowAt w' (some ⟨G, 0, none⟩) L := by
 intro hl
 obtain ⟨g, e, hg, hc⟩ := h hl
 cases e
 refine ⟨G, rfl, Nat.lt_of_lt_of_le hg m.size, fun i x hx => ?_⟩
 obtain ⟨a, d, f⟩ := hc i x hx
 exact ⟨m.cell a hb, m.cell d hb, m.cell f hb⟩
section
variable (B : Nat) (c : Pc) (p : Pd) (ts : List Tr) (S : WS) (h k : Nat)
set_option maxHeartbeats 4000000 in
theorem messages_own (w : World) (hA : WAt w B c p ts S) (hI : WI ts S h k) :
  Calls Tryz.prog 16 #[.pointer (some ⟨c.x.D, 0, none⟩)] w fun e w' => ∃ G, e = .returned (.slice (some ⟨G, 0, none⟩) (Que.backL S.now S.qL).length (Que.backL S.now S.qL).length) ∧ w.heap.size ≤ G ∧ (∃ e, w'.heap[G]? = some (.cells (Que.cels (Que.backL S.now S.qL)).toArray e (0, 0))) ∧ Wst B c p ts { S with qL := Que.backL S.now S.qL } w w' := by
 have HA : Hid (WAt w.drew B c p ts S) := hA.below (Mm.bdrew w)
 have cA := Que.all_own B c.x.D S.ql c.vq S.qL _ S.now w.drew HA.out.qu hI.q.len hI.nw.1 hI.nw.2 rfl
 have c0 := hA.c0
 clear hA hI
 generalize hD : c.x.D = D at *
 go_enter Tryz.func16, Tryz.ntmps16
 go_upto_region 1 with fail
 refine Tk.st 13 [false, false, false, false, false, false, false, false, false, false, false, false, false] (S := fun w' => w'.cell? ⟨D, 0, none⟩ = some (.int .i64 S.now)) (by kernel_rfl) (by kernel_rfl) (c0) (fun hHeld => ?_)
 iterate 7
  refine Tk.tk (v := ?_) rfl (by kernel_rfl) (fun _ _ _ h => h) (Or.inl ⟨by rfl, ?_⟩) (by assumption) ?_
  rotate_left
  ·intro w' hSw
   (try dsimp only at hSw)
   (try simp only [Tk.nx, ag])
   go_simp
   all_goals with_reducible rfl
  (try simp only [Tk.nx, Act.put, ar, ag])
 refine wpAnyH_ready (rs := [7]) (by kernel_rfl) (by simp) ?_
 refine AllReadyH.cons rfl (fun K hK => ?_) AllReadyH.nil
 go_simp
 go_wp2_with ((go_at_call 46; (with_reducible refine cA.mono ?_); rintro e w1 ⟨G, rfl, hG, hR, v1, _, hq1, ht1⟩; clear cA; rw [← hD] at hq1 ht1; obtain ⟨c2, a2, d2, _, m2⟩ := HA.out.queue hq1 ht1; clear hq1 ht1; have HX : Hid (WAt w1 B c2 p ts { S with qL := Que.backL S.now S.qL } ∧ c2.x.D = D ∧ Mm.Mv (bk c ts) (bk c2 ts) w.drew w1) := ⟨a2, d2.trans hD, m2⟩; have q1 := a2.c0; rw [d2, hD] at q1; clear a2 d2 m2))
 refine hK.out _ _ (q1) (fun hHeld => ?_)
 clear hK K
 (try simp only [ar])
 iterate 5
  refine Tk.tk (v := ?_) rfl (by kernel_rfl) (fun _ _ _ h => h) (Or.inl ⟨by rfl, ?_⟩) (by assumption) ?_
  rotate_left
  ·intro w' hSw
   (try dsimp only at hSw)
   (try simp only [Tk.nx, ag])
   go_simp
   all_goals with_reducible rfl
  (try simp only [Tk.nx, Act.put, ar, ag])
 refine wpAnyH_done (by kernel_rfl) ?_ _
 go_wp2
 go_ret
 exact ⟨G, rfl, hG, hR, c2, HX.out.1, HX.out.2.1.trans hD.symm, (Mm.Mv.of_below (Mm.bdrew w)).trans HX.out.2.2⟩
theorem messages_any (w : World) (hA : WAt w B c p ts S) (hI : WI ts S h k) :
  Calls Tryz.prog 16 #[.pointer (some ⟨c.x.D, 0, none⟩)] w fun e w' => ∃ G, e = .returned (.slice (some ⟨G, 0, none⟩) (Que.backL S.now S.qL).length (Que.backL S.now S.qL).length) ∧ w.heap.size ≤ G ∧ Que.RowAt w' (some ⟨G, 0, none⟩) (Que.backL S.now S.qL) ∧ Wst B c p ts { S with qL := Que.backL S.now S.qL } w w' :=
 (messages_own B c p ts S h k w hA hI).mono fun _ _ ⟨G, e, hG, ⟨_, g⟩, r⟩ => ⟨G, e, hG, Que.row_of_block g, r⟩
end
end Wld
namespace Wld
open Go.RowKit Plain Pln Frm Lpp Crn Lop
set_option maxRecDepth 8000

theorem Wri.of {w : World} {G n : Nat} {cs : List Value} {e : TypeId} (h : w.heap[G]? = some (.cells cs.toArray e (0, 0))) (hn : n ≤ cs.length) : Wri w G n := by
 refine ⟨(Array.getElem?_eq_some_iff.1 h).1, fun o ho => ?_, fun o => ?_⟩
 ·have : w.cell? ⟨G, o, none⟩ = cs[o]? := by simp [World.cell?, h]
  rw [this, List.getElem?_eq_getElem (by omega)]
  rfl
 ·simp [World.frozen?, h]
section
variable (B : Nat) (c : Pc) (p : Pd) (ts : List Tr) (S : WS)
theorem pods_own (w : World) (hA : WAt w B c p ts S) (hL : S.F.L.length ≤ 1000000000) : Calls Tryz.prog 10 #[.pointer (some ⟨c.x.D, 0, none⟩)] w fun e w' => e = .returned (.slice (some ⟨w.heap.size, 0, none⟩) S.F.L.length S.F.L.length) ∧ Wri w' w.heap.size (S.F.L.length * 3) ∧ Below w.heap.size w w' := by
 have cX := Flt.all_own B c.x.D c.vf S.F w hA.fl hL
 clear hA
 generalize c.x.D = D at *
 go_enter Tryz.func10, Tryz.ntmps10
 go_wp2_with (go_at_call 43; (with_reducible refine cX.mono ?_); rintro e w1 ⟨rfl, ⟨e1, hR⟩, hb⟩)
 go_ret
 exact ⟨rfl, Wri.of hR (Nat.le_of_eq (Rw.cels_len Flt.pK.len S.F.L).symm), hb⟩
theorem requests_own (w : World) (hA : WAt w B c p ts S) (hL : S.R.length ≤ 200) : Calls Tryz.prog 12 #[.pointer (some ⟨c.x.D, 0, none⟩)] w fun e w' => ∃ G, e = .returned (.slice (some ⟨G, 0, none⟩) S.R.length S.R.length) ∧ w.heap.size ≤ G ∧ Wri w' G (S.R.length * 5) ∧ Below w.heap.size w w' := by
 have cX := Buf.all_own B c.x.D c.vb S.R w hA.bu hL
 clear hA
 generalize c.x.D = D at *
 go_enter Tryz.func12, Tryz.ntmps12
 go_wp2_with (go_at_call 44; (with_reducible refine cX.mono ?_); rintro e w1 ⟨G, rfl, hG, ⟨e1, hR⟩, hb⟩)
 go_ret
 exact ⟨G, rfl, hG, Wri.of hR (Nat.le_of_eq (Rw.cels_len Buf.rK.len S.R).symm), hb⟩
theorem Wri.ints {w : World} {G n : Nat} {X : Nat → Int} (h : Top.Row1 w G n X) : Wri w G (n * 1) := ⟨h.1, fun o ho => by rw [h.2.1 o (by omega)]; rfl, h.2.2⟩
theorem lagsW (h k : Nat) (w : World) (hA : WAt w B c p ts S) (hI : WI ts S h k) (hh : h ≤ 1000) : Calls Tryz.prog 14 #[.pointer (some ⟨c.x.D, 0, none⟩)] w fun e w' => ∃ G, e = .returned (.slice (some ⟨G, 0, none⟩) S.n S.n) ∧ w.heap.size ≤ G ∧ Top.Row1 w' G S.n (Top.dif S.E S.O) ∧ Below w.heap.size w w' := by
 have cX := Top.lags_any c.x.D c.G S.n S.E S.O w hA.tp hI.n.2 (fun i hi => by have := hI.tb i hi; omega)
 clear hA hI
 generalize c.x.D = D at *
 go_enter Tryz.func14, Tryz.ntmps14
 go_wp2_with (go_at_call 45; (with_reducible refine cX.mono ?_); rintro e w1 ⟨G, rfl, hG, hR, hb⟩)
 go_ret
 exact ⟨G, rfl, hG, hR, hb⟩
end
end Wld
namespace Wld
open Go.RowKit Plain Pln Frm Lpp Crn Lop
set_option maxRecDepth 8000

section
variable {w w' : World} {B : Nat} {c : Pc} {p : Pd} {ts : List Tr} {S : WS}
theorem WAt.queueG (h : WAt w B c p ts S) {v : Value} {l : Int} {L : List Que.M} (hq : Que.QAt w' 60 B c.x.D 44 45 l v L) (t : Que.Turn Que.rQ c.x.D c.vq v w w') : ∃ c', WAt w' B c' p ts { S with ql := l, qL := L } ∧ c'.x.D = c.x.D ∧ (∀ k, bk c' ts k → bk c ts k ∨ v.ownBlock = some k) ∧ Mm.Mv (bk c ts) (bk c' ts) w w' := by
 have m : Ch c.x.D Que.rQ (part c ts 3) (part { reR c w' with vq := v } ts 3) w w' := ⟨t.os, t.tape, t.output, t.size, fun k hk hD hb => t.block k hk hD (fun e => hb e.symm), fun k hk => t.loc k hk, fun j hj => t.rest h.lt h.qu.ne j hj, hq.fz⟩
 refine ⟨{ reR c w' with vq := v }, ⟨(keepL (c := c) (S := S) h m (fun j h1 h2 e => by have := e.1; have := e.2; omega) (fun k hk e => h.fa.ap 1 3 k (by decide) (by decide) (by decide) hk e)), (m.cell 0 (by decide)).trans h.c0, (m.cell 1 (by decide)).trans h.c1, (m.cell 2 (by decide)).trans h.c2, (m.cell 3 (by decide)).trans h.c3, (keepT (c := c) (S := S) h m (fun e => h.fa.ap 0 3 c.T (by decide) (by decide) (by decide) rfl e)), (keepO (c := c) (S := S) h m (by decide) (fun e => h.fa.ap 2 3 c.G (by decide) (by decide) (by decide) rfl e)), hq, (keepF (c := c) (S := S) h m (fun j h1 h2 e => by have := e.1; have := e.2; omega) (fun k hk e => h.fa.ap 4 3 k (by decide) (by decide) (by decide) hk e)), (keepB (c := c) (S := S) h m (by decide) (fun k hk e => h.fa.ap 5 3 k (by decide) (by decide) (by decide) hk e)), h.fa.step h.lt h.bD (by decide) m (fun k hk => hq.rowLt k hk) (part_q c w' ts v), h.ba.mv h.lows (m.mv (by decide) rfl (part_q c w' ts v))⟩, rfl, ?_, m.mv (by decide) rfl (part_q c w' ts v)⟩
 rintro k (e | ⟨i, hi, hk⟩)
 ·exact Or.inl (Or.inl e)
 ·by_cases h3 : i = 3
  ·subst h3; exact Or.inr hk
  ·refine Or.inl (Or.inr ⟨i, hi, ?_⟩)
   rcases i with _ | _ | _ | _ | _ | i
   ·exact hk
   ·exact hk
   ·exact hk
   ·exact absurd rfl h3
   ·exact hk
   ·exact hk
theorem WAt.only {G : Nat} (h : WAt w B c p ts S) (o : OnlyQ G w w') (hG : ¬ bk c ts G) (ba : Bas B w') : WAt w' B c p ts S :=
 h.kept (fun k hk => o.block k (h.low hk).2 (fun e => hG (by rw [← e]; exact hk))) o.size ba
theorem W2.only {B1 B2 G : Nat} {c1 c2 : Pc} {S1 S2 : WS} (h : W2 w B1 B2 c1 c2 p ts S1 S2) (o : OnlyQ G w w') (h1 : ¬ bk c1 ts G) (h2 : ¬ bk c2 ts G) (ba : Bas B1 w') : W2 w' B1 B2 c1 c2 p ts S1 S2 :=
 ⟨h.a.only o h1 ba, h.b.only o h2 (ba.up h.le), h.ap, h.le⟩
end
section
variable (B : Nat) (c : Pc) (p : Pd) (ts : List Tr) (S : WS) (h k : Nat)
set_option maxHeartbeats 4000000 in
theorem messages_wri (w : World) (hA : WAt w B c p ts S) (hI : WI ts S h k) :
  Calls Tryz.prog 16 #[.pointer (some ⟨c.x.D, 0, none⟩)] w fun e w' => ∃ G, e = .returned (.slice (some ⟨G, 0, none⟩) (Que.backL S.now S.qL).length (Que.backL S.now S.qL).length) ∧ w.heap.size ≤ G ∧ Wri w' G ((Que.backL S.now S.qL).length * 3) ∧ ∃ c', WAt w' B c' p ts { S with qL := Que.backL S.now S.qL } ∧ c'.x.D = c.x.D ∧ ¬ bk c' ts G ∧ Mm.Mv (bk c ts) (bk c' ts) w w' := by
 have HA : Hid (WAt w.drew B c p ts S) := hA.below (Mm.bdrew w)
 have cA := Que.all_own B c.x.D S.ql c.vq S.qL _ S.now w.drew HA.out.qu hI.q.len hI.nw.1 hI.nw.2 rfl
 have c0 := hA.c0
 clear hA hI
 generalize hD : c.x.D = D at *
 go_enter Tryz.func16, Tryz.ntmps16
 go_upto_region 1 with fail
 refine Tk.st 13 [false, false, false, false, false, false, false, false, false, false, false, false, false] (S := fun w' => w'.cell? ⟨D, 0, none⟩ = some (.int .i64 S.now)) (by kernel_rfl) (by kernel_rfl) (c0) (fun hHeld => ?_)
 iterate 7
  refine Tk.tk (v := ?_) rfl (by kernel_rfl) (fun _ _ _ h => h) (Or.inl ⟨by rfl, ?_⟩) (by assumption) ?_
  rotate_left
  ·intro w' hSw
   (try dsimp only at hSw)
   (try simp only [Tk.nx, ag])
   go_simp
   all_goals with_reducible rfl
  (try simp only [Tk.nx, Act.put, ar, ag])
 refine wpAnyH_ready (rs := [7]) (by kernel_rfl) (by simp) ?_
 refine AllReadyH.cons rfl (fun K hK => ?_) AllReadyH.nil
 go_simp
 go_wp2_with ((go_at_call 46; (with_reducible refine cA.mono ?_); rintro e w1 ⟨G, rfl, hG, ⟨e1, hR0⟩, v1, hne, hq1, ht1⟩; clear cA; have hR : Wri w1 G ((Que.backL S.now S.qL).length * 3) := Wri.of hR0 (Nat.le_of_eq (Que.cels_len _).symm); clear hR0; rw [← hD] at hq1 ht1; obtain ⟨c2, a2, d2, b2, m2⟩ := HA.out.queueG hq1 ht1; have hnb : ¬ bk c2 ts G := (fun h => (b2 G h).elim (fun h => absurd (HA.out.low h).2 (Nat.not_lt.2 hG)) hne); clear hq1 ht1; have HX : Hid (WAt w1 B c2 p ts { S with qL := Que.backL S.now S.qL } ∧ c2.x.D = D ∧ ¬ bk c2 ts G ∧ Mm.Mv (bk c ts) (bk c2 ts) w.drew w1) := ⟨a2, d2.trans hD, hnb, m2⟩; have q1 := a2.c0; rw [d2, hD] at q1; clear a2 d2 m2 b2 hnb hne))
 refine hK.out _ _ (q1) (fun hHeld => ?_)
 clear hK K
 (try simp only [ar])
 iterate 5
  refine Tk.tk (v := ?_) rfl (by kernel_rfl) (fun _ _ _ h => h) (Or.inl ⟨by rfl, ?_⟩) (by assumption) ?_
  rotate_left
  ·intro w' hSw
   (try dsimp only at hSw)
   (try simp only [Tk.nx, ag])
   go_simp
   all_goals with_reducible rfl
  (try simp only [Tk.nx, Act.put, ar, ag])
 refine wpAnyH_done (by kernel_rfl) ?_ _
 go_wp2
 go_ret
 exact ⟨G, rfl, hG, hR, c2, HX.out.1, HX.out.2.1, HX.out.2.2.1, (Mm.Mv.of_below (Mm.bdrew w)).trans HX.out.2.2.2⟩
end
end Wld
namespace Wld
open Plain Pln Frm Lpp Crn Lop
set_option maxRecDepth 8000

def bq (t : Int) (S : WS) : WS := { S with qL := Que.backL t S.qL }
theorem back_back (L : List Que.M) {t u : Int} (h : t ≤ u) : Que.backL u (Que.backL t L) = Que.backL u L := by
 unfold Que.backL
 rw [List.map_map]
 refine List.map_congr_left (fun m _ => ?_)
 simp only [Function.comp]
 unfold Que.back
 by_cases e : m.tk = true ∧ m.till ≤ t
 ·rw [if_pos e, if_neg (by simp), if_pos ⟨e.1, by omega⟩]
 ·rw [if_neg e]
section
variable {p : Pd} {ts : List Tr} {S : WS} {t : Int}
theorem bq_rds (h : t ≤ S.now) : rdsW ts (bq t S) = rdsW ts S := by
 unfold rdsW
 have e : rdOf (bq t S) = rdOf S := by
  funext x f
  unfold rdOf
  show (if x.k = 1 then _ else if x.k = 2 then (⟨f, 1, fun _ => (Que.depth (Que.backL S.now (Que.backL t S.qL)) : Int)⟩ : Rd) else _) = _
  rw [back_back _ h]
  rfl
 rw [e]
 rfl
theorem bq_look (h : t ≤ S.now) : lookW p ts (bq t S) = bq t (lookW p ts S) ∨ lookW p ts (bq t S) = lookW p ts S := by
 have e1 : wantW p ts (bq t S) = wantW p ts S := by unfold wantW; rw [bq_rds h]; rfl
 have e2 : needW p ts (bq t S) = needW p ts S := by unfold needW; rw [bq_rds h]; rfl
 have e3 : toldW p ts (bq t S) = toldW p ts S := by unfold toldW; rw [e1, e2]; rfl
 by_cases hq : ts.any isQ = true
 ·refine Or.inr ?_
  have eq : readQ ts (bq t S) = readQ ts S := by
   unfold readQ
   rw [if_pos hq, if_pos hq]
   exact back_back _ h
  unfold lookW
  rw [e1, e2, e3, bq_rds h, eq]
  rfl
 ·refine Or.inl ?_
  have eq : readQ ts (bq t S) = Que.backL t S.qL := by unfold readQ; rw [if_neg hq]; rfl
  have eq2 : readQ ts S = S.qL := by unfold readQ; rw [if_neg hq]
  unfold lookW
  rw [e1, e2, e3, bq_rds h, eq]
  unfold bq
  simp only
  rw [eq2]
def Nr (Sa Sb : WS) : Prop := Sa = Sb ∨ ∃ t, t ≤ Sb.now ∧ Sa = bq t Sb
theorem Nr.tick {Sa Sb : WS} (h : Nr Sa Sb) : Nr (tick1 p ts Sa) (tick1 p ts Sb) := by
 rcases h with rfl | ⟨t, ht, rfl⟩
 ·exact Or.inl rfl
 ·have hl : lateW (bq t Sb) = bq t (lateW Sb) := rfl
  have ht2 : t ≤ (lateW Sb).now := by show t ≤ Sb.now + 1; omega
  have hn : (tick1 p ts Sb).now = Sb.now + 1 := tick1_now Sb
  unfold tick1
  rw [hl]
  have key : dueW p ts (bq t (lateW Sb)) = bq t (dueW p ts (lateW Sb)) ∨ dueW p ts (bq t (lateW Sb)) = dueW p ts (lateW Sb) := by
   unfold dueW
   have ec : Lop.dueP p (bq t (lateW Sb)).lp (bq t (lateW Sb)).now = Lop.dueP p (lateW Sb).lp (lateW Sb).now := rfl
   rw [ec]
   split
   ·exact bq_look ht2
   ·exact Or.inl rfl
  rcases key with e | e
  ·refine Or.inr ⟨t, ?_, ?_⟩
   ·show t ≤ (tick1 p ts Sb).now
    omega
   ·rw [e]; rfl
  ·exact Or.inl (by rw [e])
theorem Nr.ticks : ∀ (m : Nat) {Sa Sb : WS}, Nr Sa Sb → Nr (tickW p ts m Sa) (tickW p ts m Sb)
 | 0, _, _, h => h
 | m + 1, _, _, h => Nr.ticks m h.tick
theorem put_back (L : List Que.M) (t l : Int) (n : Nat) : Que.backL t (L ++ Que.news l n) = Que.backL t L ++ Que.news l n := by
 unfold Que.backL
 rw [List.map_append]
 congr 1
 conv => rhs; rw [← List.map_id (Que.news l n)]
 refine List.map_congr_left (fun x hx => ?_)
 unfold Que.news at hx
 simp at hx
 obtain ⟨_, _, rfl⟩ := hx
 rfl
theorem Nr.do {Sa Sb : WS} (h : Nr Sa Sb) (x a n : Int) : doE Sa x a n = doE Sb x a n ∧ Nr (doW p ts Sa x a n) (doW p ts Sb x a n) := by
 rcases h with rfl | ⟨t, ht, rfl⟩
 ·exact ⟨rfl, Or.inl rfl⟩
 unfold doE doW
 by_cases h1 : x = 1
 ·simp only [if_pos h1]
  refine ⟨rfl, ?_⟩
  have e : tickE (bq t Sb) n = tickE Sb n := rfl
  rw [e]
  split
  ·exact Nr.ticks _ (Or.inr ⟨t, ht, rfl⟩)
  ·exact Or.inr ⟨t, ht, rfl⟩
 simp only [if_neg h1]
 by_cases h2 : x = 2
 ·simp only [if_pos h2]
  refine ⟨rfl, ?_⟩
  unfold makeW
  have e : makeE (bq t Sb) a n = makeE Sb a n := rfl
  rw [e]
  split <;> exact Or.inr ⟨t, ht, rfl⟩
 simp only [if_neg h2]
 by_cases h3 : x = 3
 ·simp only [if_pos h3]
  refine ⟨rfl, ?_⟩
  unfold takeW
  have e : takeE (bq t Sb) a n = takeE Sb a n := rfl
  rw [e]
  split <;> exact Or.inr ⟨t, ht, rfl⟩
 simp only [if_neg h3]
 by_cases h4 : x = 4
 ·simp only [if_pos h4]
  have e : putE (bq t Sb).qL n = putE Sb.qL n := by unfold putE; show (if n < 1 then 1 else if 200 < ((Que.backL t Sb.qL).length : Int) + n then 6 else 0) = _; rw [Que.backL_len]
  refine ⟨e, ?_⟩
  unfold putW
  rw [e]
  split
  ·refine Or.inr ⟨t, ht, ?_⟩
   unfold bq
   simp only
   rw [put_back]
  ·exact Or.inr ⟨t, ht, rfl⟩
 simp only [if_neg h4]
 by_cases h5 : x = 5
 ·simp only [if_pos h5]
  have e0 : Que.backL Sb.now (Que.backL t Sb.qL) = Que.backL Sb.now Sb.qL := back_back _ ht
  refine ⟨by unfold leaseE; show (if _ then _ else match (Que.backL Sb.now (Que.backL t Sb.qL)).findIdx? Que.free with | none => _ | some _ => _) = _; rw [e0]; rfl, ?_⟩
  by_cases hn : ¬ (1 ≤ n ∧ n ≤ 100000)
  ·refine Or.inr ⟨t, ht, ?_⟩
   unfold leaseL bq
   simp only [if_pos hn]
  ·refine Or.inl ?_
   have : leaseL (bq t Sb).qL (bq t Sb).now n = leaseL Sb.qL Sb.now n := by
    unfold leaseL
    rw [if_neg hn, if_neg hn]
    show (match (Que.backL Sb.now (Que.backL t Sb.qL)).findIdx? Que.free with | none => Que.backL Sb.now (Que.backL t Sb.qL) | some i => match (Que.backL Sb.now (Que.backL t Sb.qL))[i]? with | none => Que.backL Sb.now (Que.backL t Sb.qL) | some m => (Que.backL Sb.now (Que.backL t Sb.qL)).set i ⟨m.id, Sb.now + n, true⟩) = _
    rw [e0]
    rfl
   rw [this]
   rfl
 simp only [if_neg h5]
 by_cases h6 : x = 6
 ·simp only [if_pos h6]
  have e0 : Que.backL Sb.now (Que.backL t Sb.qL) = Que.backL Sb.now Sb.qL := back_back _ ht
  refine ⟨by unfold ackE; show (match (Que.backL Sb.now (Que.backL t Sb.qL)).findIdx? (Que.isId n) with | none => _ | some i => match (Que.backL Sb.now (Que.backL t Sb.qL))[i]? with | none => _ | some m => _) = _; rw [e0]; rfl, Or.inl ?_⟩
  have : ackL (bq t Sb).qL (bq t Sb).now n = ackL Sb.qL Sb.now n := by
   unfold ackL
   show (match (Que.backL Sb.now (Que.backL t Sb.qL)).findIdx? (Que.isId n) with | none => Que.backL Sb.now (Que.backL t Sb.qL) | some i => match (Que.backL Sb.now (Que.backL t Sb.qL))[i]? with | none => Que.backL Sb.now (Que.backL t Sb.qL) | some m => if m.tk = true then (Que.backL Sb.now (Que.backL t Sb.qL)).eraseIdx i else Que.backL Sb.now (Que.backL t Sb.qL)) = _
   rw [e0]
   rfl
  rw [this]
  rfl
 simp only [if_neg h6]
 by_cases h7 : x = 7
 ·simp only [if_pos h7]
  refine ⟨rfl, ?_⟩
  unfold failW
  have e : failE (bq t Sb) a n = failE Sb a n := rfl
  rw [e]
  split <;> exact Or.inr ⟨t, ht, rfl⟩
 simp only [if_neg h7]
 by_cases h8 : x = 8
 ·simp only [if_pos h8]
  exact ⟨rfl, Or.inr ⟨t, ht, rfl⟩⟩
 simp only [if_neg h8]
 by_cases h9 : x = 9
 ·simp only [if_pos h9]
  refine ⟨rfl, ?_⟩
  unfold readyW
  have e : Flt.turnE (bq t Sb).F.L n 2 = Flt.turnE Sb.F.L n 2 := rfl
  rw [e]
  split <;> exact Or.inr ⟨t, ht, rfl⟩
 simp only [if_neg h9]
 by_cases h10 : x = 10
 ·simp only [if_pos h10]
  refine ⟨rfl, ?_⟩
  unfold crashW
  have e : Flt.crashE (bq t Sb).F.L n = Flt.crashE Sb.F.L n := rfl
  rw [e]
  split <;> exact Or.inr ⟨t, ht, rfl⟩
 simp only [if_neg h10]
 by_cases h11 : x = 11
 ·simp only [if_pos h11]
  refine ⟨rfl, ?_⟩
  unfold askW
  have e : Buf.askE (bq t Sb).R (bq t Sb).now a n = Buf.askE Sb.R Sb.now a n := rfl
  rw [e]
  split <;> exact Or.inr ⟨t, ht, rfl⟩
 simp only [if_neg h11]
 by_cases h12 : x = 12
 ·simp only [if_pos h12]
  refine ⟨rfl, ?_⟩
  unfold doneW
  have e : Buf.doneE (bq t Sb).R n = Buf.doneE Sb.R n := rfl
  rw [e]
  split <;> exact Or.inr ⟨t, ht, rfl⟩
 simp only [if_neg h12]
 by_cases h13 : x = 13
 ·simp only [if_pos h13]
  refine ⟨trivial, ?_⟩
  unfold pauseW
  split <;> exact Or.inr ⟨t, ht, rfl⟩
 simp only [if_neg h13]
 exact ⟨trivial, Or.inr ⟨t, ht, rfl⟩⟩
theorem Nr.msgs {Sa Sb : WS} (h : Nr Sa Sb) : Nr { Sa with qL := Que.backL Sa.now Sa.qL } Sb := by
 rcases h with rfl | ⟨t, ht, rfl⟩
 ·exact Or.inr ⟨_, Int.le_refl _, rfl⟩
 ·refine Or.inr ⟨Sb.now, Int.le_refl _, ?_⟩
  show ({ Sb with qL := Que.backL Sb.now (Que.backL t Sb.qL) } : WS) = _
  rw [back_back _ ht]
  rfl
end
end Wld
namespace Wld
open Go.RowKit Plain Pln Frm Lpp Crn Lop
set_option maxRecDepth 8000

theorem q0_chk : chkP Lop.p0 [Lop.t0] = 0 := by kernel_rfl
theorem q0_I : PdI Lop.p0 := by constructor <;> simp [I, Lop.p0]
theorem q0_ok : PlOk (noN Lop.p0) [Lop.t0] := ok_noN (plOk_of q0_chk)
theorem q0_k : Us Lop.k0 := by constructor <;> simp [U, Lop.k0]
theorem q0_t : TrU Lop.t0 := ⟨by simp [I, Lop.t0], by simp [I, Lop.t0], by simp [I, Lop.t0], q0_k, q0_k⟩
theorem q0_U : ∀ t ∈ [Lop.t0], TrU t := by
 intro t ht
 simp at ht
 subst ht
 exact q0_t
noncomputable abbrev q0P (X : Nat → Nat → Int) (j : Nat) : WS := playW (noN Lop.p0) [Lop.t0] X (newW (noN Lop.p0) [Lop.t0] 1 2 0) j
theorem q0_I0 : WI [Lop.t0] (newW (noN Lop.p0) [Lop.t0] 1 2 0) 0 0 := WI.new _ _ _ _ _ (by omega) (by omega)
theorem new0 (b : Nat) (w : World) (hB : Lai.BdsAt w) (hT : TrsAt w (some ⟨b, 0, none⟩) [Lop.t0]) : Calls Tryz.prog 5 #[planV Lop.p0 (.slice (some ⟨b, 0, none⟩) 1 1), .int .i64 1, .int .i64 2, .int .i64 0] w (NewWA Lop.p0 [Lop.t0] 1 2 0 w) :=
 new_yes Lop.p0 (some ⟨b, 0, none⟩) 1 [Lop.t0] 1 2 0 w hB q0_I (by simp [Lop.p0]) hT q0_chk (by omega) (by omega)
def RnR (w : World) (B : Nat) (c : Pc) (p : Pd) (ts : List Tr) (S : WS) (X : Nat → Nat → Int) (m : Nat) (i : Value) (wr : World) : Prop := ∃ (j : Nat) (c1 : Pc), j ≤ m ∧ i = .int .i64 j ∧ WAt wr B c1 p ts (playW p ts X S j) ∧ c1.x.D = c.x.D ∧ Below w.heap.size w wr
set_option maxHeartbeats 4000000 in
theorem running_any (ao : Option Addr) (m cap : Nat) (X : Nat → Nat → Int) (w : World) (hB : Lai.BdsAt w) (hH : Frm.RowsIn w ao m 3 X) (hm : m ≤ 60) :
  Calls Tryz.prog 22 #[.slice ao m cap] w fun e w' => ∃ B c, e = .returned (.pointer (some ⟨c.x.D, 0, none⟩)) ∧ w.heap.size ≤ B ∧ WAt w' B c (noN Lop.p0) [Lop.t0] (q0P X m) ∧ Below w.heap.size w w' := by
 have cP := Lop.plpl_any w
 have HB : Hid (Lai.BdsAt w) := hB
 have HH : Hid (Frm.RowsIn w ao m 3 X) := hH
 clear hB hH
 go_enter Tryz.func22, Tryz.ntmps22
 go_wp2_with (first
  | (go_at_call 47; (with_reducible refine cP.mono ?_); rintro e w1 ⟨b, rfl, hT1, hb, hb1⟩; clear cP)
  | (go_at_call 5; have cN := new0 b w1 (HB.out.below hb1 (Nat.le_refl _)) hT1; (with_reducible refine cN.mono ?_); rintro e w2 ⟨c, rfl, hA2, hb2⟩; clear cN))
 have hbw : Below w.heap.size w w2 := hb1.trans (hb2.mono hb1.size)
 have HA2 : Hid (WAt w2 w1.heap.size c (noN Lop.p0) [Lop.t0] (q0P X 0) ∧ Below w.heap.size w w2) := ⟨hA2, hbw⟩
 have HB1 : Hid (w.heap.size ≤ w1.heap.size) := hb1.size
 clear hA2 hbw hb1 hb2 hT1
 generalize hD : c.x.D = D at *
 go_loopw [16] (fun i wr => RnR w w1.heap.size c (noN Lop.p0) [Lop.t0] (newW (noN Lop.p0) [Lop.t0] 1 2 0) X m i wr) (fun i _ => m - (intOf i).toNat)
 case atStart => exact ⟨0, c, by omega, rfl, HA2.out.1, rfl, HA2.out.2⟩
 case round =>
  obtain ⟨j, c1, hj, rfl, hA, hd, hbr⟩ := hrel
  by_cases hlt : j < m
  ·have hlt' : (j : Int) < (m : Int) := by omega
   obtain ⟨g, off, rfl, hgl, hc⟩ := (Frm.RowsIn.below HH.out hbr (Nat.le_refl _)) j hlt
   have x0 := (hc 0 (by omega)).1
   have x1 := (hc 1 (by omega)).1
   have x2 := (hc 2 (by omega)).1
   simp only [Nat.add_zero] at x0
   rw [← Nat.add_assoc] at x1 x2
   obtain ⟨W, hW⟩ : ∃ W, W = wr.alloc (.cells #[.int .i64 (X j 0), .int .i64 (X j 1), .int .i64 (X j 2)] 43) := ⟨_, rfl⟩
   have hbW : Below wr.heap.size wr W := by rw [hW]; exact (Below.refl _ _).alloc (Nat.le_refl _) _
   have y0 : W.cell? ⟨wr.heap.size, 0, none⟩ = some (.int .i64 (X j 0)) := by rw [hW]; simp
   have y1 : W.cell? ⟨wr.heap.size, 1, none⟩ = some (.int .i64 (X j 1)) := by rw [hW]; simp
   have y2 : W.cell? ⟨wr.heap.size, 2, none⟩ = some (.int .i64 (X j 2)) := by rw [hW]; simp
   have HW : Hid (W = wr.alloc (.cells #[.int .i64 (X j 0), .int .i64 (X j 1), .int .i64 (X j 2)] 43)) := hW
   have HAW : Hid (WAt W w1.heap.size c1 (noN Lop.p0) [Lop.t0] (q0P X j) ∧ Below w.heap.size w W) := ⟨hA.below hbW, hbr.trans (hbW.mono hbr.size)⟩
   have cD := do_any w1.heap.size c1 (noN Lop.p0) [Lop.t0] (q0P X j) j (1000 * j) (X j 0) (X j 1) (X j 2) W HAW.out.1 (WI.play q0_ok q0_I0 X j) (by omega) (by omega) q0_ok q0_U
   have hD1 : c1.x.D = D := hd.trans hD
   rw [hD1] at cD
   clear hA hbr hbW hW hc
   go_upto_region 7 with fail
   rw [← HW.out]
   clear HW x0 x1 x2
   generalize wr.heap.size = C at *
   go_wp2_with (go_at_call 8; (with_reducible refine cD.mono ?_); rintro e w3 ⟨rfl, c3, a3, d3, m3⟩; clear cD; have HX3 : Hid (WAt w3 w1.heap.size c3 (noN Lop.p0) [Lop.t0] (q0P X (j + 1)) ∧ c3.x.D = c1.x.D ∧ Mm.Mv (bk c1 [Lop.t0]) (bk c3 [Lop.t0]) W w3) := ⟨a3, d3, m3⟩; clear a3 d3 m3)
   go_roundw
   case rel => exact ⟨j + 1, c3, hlt, rfl, HX3.out.1, HX3.out.2.1.trans hd, HAW.out.2.trans (HX3.out.2.2.below (fun k hk => Nat.le_trans HB1.out (HAW.out.1.low hk).1) HAW.out.2.size)⟩
   case measure => simp [intOf]; omega
  ·obtain rfl : j = m := by omega
   go_wp2
   go_ret
   exact ⟨_, c1, by rw [hd, hD]; rfl, HB1.out, hA, hbr⟩
theorem req_one {w : World} {G : Nat} {r : Buf.Rq} (h : Rec.RowAt Buf.rK w (some ⟨G, 0, none⟩) [r]) : w.cell? ⟨G, 3, none⟩ = some (.int .i64 r.fat) ∧ w.cell? ⟨G, 4, none⟩ = some (.int .i64 r.pod) := by
 obtain ⟨g, e, _, hc⟩ := h (by simp)
 cases e
 have a := hc 0 r rfl 3 _ rfl
 have b := hc 0 r rfl 4 _ rfl
 simp only [Nat.zero_mul, Nat.zero_add] at a b
 exact ⟨a, b⟩
theorem wS_I : WI [Lop.t0] wS 4 4000 := WI.play q0_ok q0_I0 wX 4
theorem wR_any (B : Nat) (c : Pc) (w : World) (hA : WAt w B c (noN Lop.p0) [Lop.t0] wS) : Calls Tryz.prog 12 #[.pointer (some ⟨c.x.D, 0, none⟩)] w fun e w' => ∃ G, e = .returned (.slice (some ⟨G, 0, none⟩) 1 1) ∧ w'.cell? ⟨G, 3, none⟩ = some (.int .i64 2) ∧ w'.cell? ⟨G, 4, none⟩ = some (.int .i64 1) ∧ Below w.heap.size w w' := by
 refine (requests_any B c (noN Lop.p0) [Lop.t0] wS w hA wS_I.r.len).mono ?_
 rintro e w' ⟨G, rfl, _, hR, hb⟩
 rw [wS_R] at hR ⊢
 obtain ⟨a, b⟩ := req_one hR
 exact ⟨G, rfl, a, b, hb⟩
theorem wR2_any (B : Nat) (c : Pc) (w : World) (hA : WAt w B c (noN Lop.p0) [Lop.t0] (doW (noN Lop.p0) [Lop.t0] wS 12 0 1)) : Calls Tryz.prog 12 #[.pointer (some ⟨c.x.D, 0, none⟩)] w fun e w' => ∃ G, e = .returned (.slice (some ⟨G, 0, none⟩) 1 1) ∧ w'.cell? ⟨G, 3, none⟩ = some (.int .i64 3) ∧ Below w.heap.size w w' := by
 refine (requests_any B c (noN Lop.p0) [Lop.t0] _ w hA (wS_I.do q0_ok 12 0 1).r.len).mono ?_
 rintro e w' ⟨G, rfl, _, hR, hb⟩
 rw [wS_D] at hR ⊢
 obtain ⟨a, b⟩ := req_one hR
 exact ⟨G, rfl, a, hb⟩
theorem wD_any (B : Nat) (c : Pc) (w : World) (hA : WAt w B c (noN Lop.p0) [Lop.t0] wS) : Calls Tryz.prog 8 #[.pointer (some ⟨c.x.D, 0, none⟩), .agg #[.int .i64 12, .int .i64 0, .int .i64 1]] w fun e w' => e = .returned (.int .i64 0) ∧ Wst B c (noN Lop.p0) [Lop.t0] (doW (noN Lop.p0) [Lop.t0] wS 12 0 1) w w' := by
 have h := do_any B c (noN Lop.p0) [Lop.t0] wS 4 4000 12 0 1 w hA wS_I (by omega) (by omega) q0_ok q0_U
 rw [wS_E] at h
 exact h
theorem wT_any (B : Nat) (c : Pc) (w : World) (hA : WAt w B c (noN Lop.p0) [Lop.t0] wS) : Calls Tryz.prog 17 #[.pointer (some ⟨c.x.D, 0, none⟩)] w fun e w' => e = .returned (.int .i64 1) ∧ w' = w := by
 have h := target_any B c (noN Lop.p0) [Lop.t0] wS w hA
 rw [wS_tg] at h
 exact h
theorem wX_rows (w : World) (e : TypeId) : Frm.RowsIn (w.alloc (.cells #[.int .i64 11, .int .i64 1, .int .i64 50, .int .i64 1, .int .i64 0, .int .i64 2, .int .i64 8, .int .i64 0, .int .i64 1, .int .i64 9, .int .i64 0, .int .i64 1] e)) (some ⟨w.heap.size, 0, none⟩) 4 3 wX := by
 intro i hi
 refine ⟨w.heap.size, 0, rfl, by simp, fun j hj => ?_⟩
 rcases (by omega : i = 0 ∨ i = 1 ∨ i = 2 ∨ i = 3) with rfl | rfl | rfl | rfl <;> rcases (by omega : j = 0 ∨ j = 1 ∨ j = 2) with rfl | rfl | rfl <;> simp [wX]
set_option maxHeartbeats 4000000 in
theorem works_any (w : World) (hB : Lai.BdsAt w) : Calls Tryz.prog 4 #[] w fun e w' => e = .returned (.bool true) ∧ Below w.heap.size w w' := by
 obtain ⟨W, hW⟩ : ∃ W, W = w.alloc (.cells #[.int .i64 11, .int .i64 1, .int .i64 50, .int .i64 1, .int .i64 0, .int .i64 2, .int .i64 8, .int .i64 0, .int .i64 1, .int .i64 9, .int .i64 0, .int .i64 1] 43) := ⟨_, rfl⟩
 have hbW : Below w.heap.size w W := by rw [hW]; exact (Below.refl _ _).alloc (Nat.le_refl _) _
 have hX : Frm.RowsIn W (some ⟨w.heap.size, 0, none⟩) 4 3 wX := by rw [hW]; exact wX_rows w _
 have cR := running_any (some ⟨w.heap.size, 0, none⟩) 4 4 wX W (hB.below hbW (Nat.le_refl _)) hX (by omega)
 have HW : Hid (W = w.alloc (.cells #[.int .i64 11, .int .i64 1, .int .i64 50, .int .i64 1, .int .i64 0, .int .i64 2, .int .i64 8, .int .i64 0, .int .i64 1, .int .i64 9, .int .i64 0, .int .i64 1] 43)) := hW
 have HB : Hid (Below w.heap.size w W) := hbW
 clear hW hbW hB hX
 go_enter Tryz.func4, Tryz.ntmps4
 go_wp2_with (first
  | (go_at_call 22; (rw [← HW.out]); (with_reducible refine cR.mono ?_); rintro e w1 ⟨B, c, rfl, hB1, hA1, hb1⟩; clear cR; have HA1 : Hid (WAt w1 B c (noN Lop.p0) [Lop.t0] wS) := hA1; clear hA1; generalize hD : c.x.D = D at *)
  | (go_at_call 17; have cT := wT_any B c w2 HA2.out; rw [hD] at cT; (with_reducible refine cT.mono ?_); rintro e w' ⟨rfl, h9⟩; have h8 := h9.symm; clear h9; subst h8; clear cT)
  | (go_at_call 8; have cD := wD_any B c w2 HA2.out; rw [hD] at cD; (with_reducible refine cD.mono ?_); rintro e w3 ⟨rfl, c3, a3, d3, m3⟩; clear cD; have HX3 : Hid (WAt w3 B c3 (noN Lop.p0) [Lop.t0] (doW (noN Lop.p0) [Lop.t0] wS 12 0 1) ∧ Mm.Mv (bk c [Lop.t0]) (bk c3 [Lop.t0]) w2 w3) := ⟨a3, m3⟩; have hD3 : c3.x.D = D := d3.trans hD; clear a3 d3 m3)
  | (go_at_call 12; have cQ := wR2_any B c3 w3 HX3.out.1; rw [hD3] at cQ; (with_reducible refine cQ.mono ?_); rintro e w4 ⟨G4, rfl, r3, hb4⟩; clear cQ)
  | (go_at_call 12; have cQ := wR_any B c w1 HA1.out; rw [hD] at cQ; (with_reducible refine cQ.mono ?_); rintro e w2 ⟨G2, rfl, r3, r4, hb2⟩; clear cQ; have HA2 : Hid (WAt w2 B c (noN Lop.p0) [Lop.t0] wS) := HA1.out.below hb2))
 go_ret
 refine ⟨rfl, ?_⟩
 have b2 : Below w.heap.size w w2 := HB.out.trans ((hb1.trans (hb2.mono hb1.size)).mono HB.out.size)
 have b3 : Below w.heap.size w w3 := b2.trans (HX3.out.2.below (fun k hk => by have := (HA2.out.low hk).1; have := HB.out.size; omega) b2.size)
 exact b3.trans (hb4.mono b3.size)
end Wld
end Go.Proofs.YtohbnchfjphaeaaGreatDoor
