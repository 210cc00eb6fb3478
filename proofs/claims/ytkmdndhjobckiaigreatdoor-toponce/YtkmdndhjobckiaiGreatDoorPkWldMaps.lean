/- A world, and two maps of a law beside it. Each request has one end at the most: TopOnce. -/
import Derived.Test.YtkmdndhjobckiaiGreatDoorPkWldPlay
import Derived.Test.YtkmdndhjobckiaiGreatDoorPkMapInt
import Derived.Test.YtkmdndhjobckiaiGreatDoorPkWldHand
import Derived.Test.YtkmdndhjobckiaiGreatDoorPkTak
import Derived.BigQuiet
import Derived.Deep.RegionHeld
namespace Go.Proofs.YtkmdndhjobckiaiGreatDoor
namespace Wld
open Go.RowKit Plain Pln Frm Lpp Crn Lop
set_option maxRecDepth 8000

theorem map_kept {w w' : World} {b n : Nat} {f : Int → Int} (h : Mp.MapAt w b n f) (hb : w'.heap[b]? = w.heap[b]?) : Mp.MapAt w' b n f := by
 obtain ⟨D, h1, h2, h3⟩ := h
 obtain ⟨es, clock, hh, F, hs, hD⟩ := h3
 exact ⟨D, h1, h2, es, clock, hb.trans hh, F, hs, hD⟩
structure MpAt (w : World) (B : Nat) (c : Pc) (p : Pd) (ts : List Tr) (S : WS) (b1 b2 n : Nat) (f g : Int → Int) : Prop where
 wa : WAt w B c p ts S
 n1 : ¬ bk c ts b1
 n2 : ¬ bk c ts b2
 ne : b1 ≠ b2
 l1 : B ≤ b1
 l2 : B ≤ b2
 m1 : Mp.MapAt w b1 n f
 m2 : Mp.MapAt w b2 n g
section
variable {w w' : World} {B : Nat} {c c' : Pc} {p : Pd} {ts : List Tr} {S S' : WS} {b1 b2 n : Nat} {f g : Int → Int}
theorem MpAt.new (h : WAt w B c p ts S) : MpAt ((w.alloc (.map #[] 0)).alloc (.map #[] 0)) B c p ts S w.heap.size (w.alloc (.map #[] 0)).heap.size 0 (fun _ => 0) (fun _ => 0) := by
 have h1 : Below w.heap.size w (w.alloc (.map #[] 0)) := (Below.refl _ _).alloc (Nat.le_refl _) _
 have h2 : Below (w.alloc (.map #[] 0)).heap.size (w.alloc (.map #[] 0)) ((w.alloc (.map #[] 0)).alloc (.map #[] 0)) := (Below.refl _ _).alloc (Nat.le_refl _) _
 have hB := Nat.le_trans h.bD (Nat.le_of_lt h.lt)
 have hz : (w.alloc (.map #[] 0)).heap.size = w.heap.size + 1 := by simp
 refine ⟨(h.below h1).below h2, fun e => ?_, fun e => ?_, by omega, hB, by omega, (Mp.MapAt.new w).below h2, Mp.MapAt.new _⟩
 ·have := (h.low e).2; omega
 ·have := (h.low e).2; omega
theorem MpAt.below (h : MpAt w B c p ts S b1 b2 n f g) (hb : Below w.heap.size w w') : MpAt w' B c p ts S b1 b2 n f g :=
 ⟨h.wa.below hb, h.n1, h.n2, h.ne, h.l1, h.l2, h.m1.below hb, h.m2.below hb⟩
theorem MpAt.same {f' g' : Int → Int} (h : MpAt w B c p ts S b1 b2 n f g) (hf : ∀ i, f' i = f i) (hg : ∀ i, g' i = g i) : MpAt w B c p ts S b1 b2 n f' g' :=
 ⟨h.wa, h.n1, h.n2, h.ne, h.l1, h.l2, h.m1.same hf, h.m2.same hg⟩
theorem MpAt.mono {m : Nat} (h : MpAt w B c p ts S b1 b2 n f g) (hn : n ≤ m) : MpAt w B c p ts S b1 b2 m f g :=
 ⟨h.wa, h.n1, h.n2, h.ne, h.l1, h.l2, h.m1.mono hn, h.m2.mono hn⟩
theorem MpAt.moved (h : MpAt w B c p ts S b1 b2 n f g) (ha : WAt w' B c' p ts S') (m : Mm.Mv (bk c ts) (bk c' ts) w w') : MpAt w' B c' p ts S' b1 b2 n f g :=
 ⟨ha, m.off h.m1.lt h.n1, m.off h.m2.lt h.n2, h.ne, h.l1, h.l2, map_kept h.m1 (m.block _ h.m1.lt h.n1), map_kept h.m2 (m.block _ h.m2.lt h.n2)⟩
theorem wat_grown {b : Nat} (h : WAt w B c p ts S) (hn : ¬ bk c ts b) (hl : B ≤ b) (hg : w.grownBy w' (some b)) : WAt w' B c p ts S := by
 refine h.kept (fun k hk => hg.block k (h.low hk).2 (fun e => hn (by cases e; exact hk))) hg.size ?_
 obtain ⟨w0, a, e, d⟩ := h.ba
 have hz := Nat.le_trans h.bD (Nat.le_of_lt h.lt)
 exact ⟨w0, a, e, d.grown hg (by omega) (fun k hk => by cases hk; omega)⟩
theorem MpAt.put1 (h : MpAt w B c p ts S b1 b2 n f g) (hn : n < maxLen) {i x : Int} (hi : -9223372036854775808 ≤ i ∧ i ≤ 9223372036854775807) (hx : -9223372036854775808 ≤ x ∧ x ≤ 9223372036854775807) :
  ∃ w', (Instr.mapUpdate 77 (.map (some b1)) (.int .i64 i) (.int .i64 x)).run Tryz.prog w = .ok () w' ∧ MpAt w' B c p ts S b1 b2 (n + 1) (Mp.upd f i x) g ∧ w.grownBy w' (some b1) := by
 obtain ⟨w', hr, hm, hg⟩ := h.m1.put hn hi hx
 refine ⟨w', hr, ⟨wat_grown h.wa h.n1 h.l1 hg, h.n1, h.n2, h.ne, h.l1, h.l2, hm, ?_⟩, hg⟩
 exact map_kept (h.m2.mono (by omega)) (hg.block _ h.m2.lt (fun e => h.ne (by cases e; rfl)))
theorem MpAt.put2 (h : MpAt w B c p ts S b1 b2 n f g) (hn : n < maxLen) {i x : Int} (hi : -9223372036854775808 ≤ i ∧ i ≤ 9223372036854775807) (hx : -9223372036854775808 ≤ x ∧ x ≤ 9223372036854775807) :
  ∃ w', (Instr.mapUpdate 77 (.map (some b2)) (.int .i64 i) (.int .i64 x)).run Tryz.prog w = .ok () w' ∧ MpAt w' B c p ts S b1 b2 (n + 1) f (Mp.upd g i x) ∧ w.grownBy w' (some b2) := by
 obtain ⟨w', hr, hm, hg⟩ := h.m2.put hn hi hx
 refine ⟨w', hr, ⟨wat_grown h.wa h.n2 h.l2 hg, h.n1, h.n2, h.ne, h.l1, h.l2, ?_, hm⟩, hg⟩
 exact map_kept (h.m1.mono (by omega)) (hg.block _ h.m1.lt (fun e => h.ne (by cases e; rfl)))
end
end Wld
namespace Wld
open Go.RowKit Plain Pln Frm Lpp Crn Lop
set_option maxRecDepth 8000

theorem row_kept {w w' : World} {G : Nat} {L : List Buf.Rq} (h : Rec.RowAt Buf.rK w (some ⟨G, 0, none⟩) L) (hb : w'.heap[G]? = w.heap[G]?) (hz : w.heap.size ≤ w'.heap.size) : Rec.RowAt Buf.rK w' (some ⟨G, 0, none⟩) L := by
 intro hl
 obtain ⟨g, e, hg, hc⟩ := h hl
 cases e
 exact ⟨_, rfl, Nat.lt_of_lt_of_le hg hz, fun i m hm j v hv => (World.cell?_of_block (w := w) (a := ⟨G, _, none⟩) hb).trans (hc i m hm j v hv)⟩
structure CtR (w : World) (B b1 G C : Nat) (c : Pc) (p : Pd) (ts : List Tr) (S : WS) (n : Nat) (f g : Int → Int) (r : Buf.Rq) (wx : World) : Prop where
 m : MpAt wx B c p ts S b1 (b1 + 1) n f g
 row : Rec.RowAt Buf.rK wx (some ⟨G, 0, none⟩) S.R
 g1 : G ≠ b1
 g2 : G ≠ b1 + 1
 k1 : C ≠ b1
 k2 : C ≠ b1 + 1
 b : Below w.heap.size w wx
 c0 : wx.cell? ⟨C, 0, none⟩ = some (.int .i64 r.id)
 c1 : wx.cell? ⟨C, 1, none⟩ = some (.int .i64 r.src)
 c3 : wx.cell? ⟨C, 3, none⟩ = some (.int .i64 r.fat)
 c4 : wx.cell? ⟨C, 4, none⟩ = some (.int .i64 r.pod)
section
variable {w wx wy : World} {B b1 G C n : Nat} {c : Pc} {p : Pd} {ts : List Tr} {S : WS} {f g : Int → Int} {r : Buf.Rq}
theorem CtR.grown {b n' : Nat} {f' g' : Int → Int} (h : CtR w B b1 G C c p ts S n f g r wx) (hm : MpAt wy B c p ts S b1 (b1 + 1) n' f' g') (hg : wx.grownBy wy (some b)) (hb : b = b1 ∨ b = b1 + 1) (hB : w.heap.size ≤ B) (hl : S.R ≠ []) : CtR w B b1 G C c p ts S n' f' g' r wy := by
 have hC : C < wx.heap.size := World.block_lt_of_cell? wx _ h.c0
 have e : wy.heap[C]? = wx.heap[C]? := hg.block C hC (fun e => by cases e; rcases hb with x | x; exact h.k1 x; exact h.k2 x)
 have hGl : G < wx.heap.size := by
  obtain ⟨g, e2, hg2, _⟩ := h.row (List.length_pos_iff.2 hl)
  cases e2
  exact hg2
 have e2 : wy.heap[G]? = wx.heap[G]? := hg.block G hGl (fun e => by cases e; rcases hb with x | x; exact h.g1 x; exact h.g2 x)
 have k : ∀ j, wy.cell? ⟨C, j, none⟩ = wx.cell? ⟨C, j, none⟩ := fun j => World.cell?_of_block (w := wx) (a := ⟨C, j, none⟩) e
 exact ⟨hm, row_kept h.row e2 hg.size, h.g1, h.g2, h.k1, h.k2, h.b.grown hg h.b.size (fun q hq => by cases hq; have := h.m.l1; have := h.m.l2; omega), (k 0).trans h.c0, (k 1).trans h.c1, (k 3).trans h.c3, (k 4).trans h.c4⟩
theorem CtR.same {f' g' : Int → Int} {n' : Nat} (h : CtR w B b1 G C c p ts S n f g r wx) (hn : n ≤ n') (hf : ∀ i, f' i = f i) (hg : ∀ i, g' i = g i) : CtR w B b1 G C c p ts S n' f' g' r wx :=
 ⟨(h.m.same hf hg).mono hn, h.row, h.g1, h.g2, h.k1, h.k2, h.b, h.c0, h.c1, h.c3, h.c4⟩
end
theorem Ord.play {p : Pd} {ts : List Tr} {S : WS} (hP : PlOk p ts) (g : WI ts S 0 0) (b : LaI S) (o : Ord S.R) (X : Nat → Nat → Int) : ∀ j, Ord (playW p ts X S j).R
 | 0 => o
 | j + 1 => (OnI.do hP (WI.play hP g X j) (LaI.play hP g b X j) _ _ _).o (Ord.play hP g b o X j)
theorem nv_nil (f : Buf.Rq → Int) (id : Int) : nv f [] id = 0 := by
 unfold nv
 rw [Buf.reqAt_no (by simp; omega)]
def TnR (w : World) (B D b1 b2 : Nat) (p : Pd) (ts : List Tr) (S : WS) (X : Nat → Nat → Int) (m : Nat) (i : Value) (wr : World) : Prop :=
 ∃ (j : Nat) (c : Pc), j ≤ m ∧ i = .int .i64 j ∧ MpAt wr B c p ts (playW p ts X S j) b1 b2 (400 * j) (nv podV (playW p ts X S j).R) (nv endV (playW p ts X S j).R) ∧ c.x.D = D ∧ Below w.heap.size w wr
def IkR (k : Nat) (w : World) (i : Value) (wr : World) : Prop := ∃ q : Nat, q ≤ k ∧ i = .int .i64 q ∧ Below w.heap.size w wr
def TiR (w : World) (B b1 b2 G N0 : Nat) (c : Pc) (p : Pd) (ts : List Tr) (S : WS) (R : List Buf.Rq) (i : Value) (wr : World) : Prop :=
 ∃ k : Nat, k ≤ S.R.length ∧ i = .int .i64 k ∧ MpAt wr B c p ts S b1 b2 (N0 + 2 * k) (mid podV R S.R k) (mid endV R S.R k) ∧ Rec.RowAt Buf.rK wr (some ⟨G, 0, none⟩) S.R ∧ Below w.heap.size w wr
section
variable (p : Pd) (ta : Option Addr) (tc : Nat) (ts : List Tr) (parts most sec : Int) (ao : Option Addr) (m cap : Nat) (X : Nat → Nat → Int) (w : World)
set_option maxHeartbeats 4000000 in
theorem to_no (hB : Lai.BdsAt w) (hi : PdI p) (hl : p.nm.length ≤ 9223372036854775807) (hT : TrsAt w ta ts) (hc : newE p ts parts sec ≠ 0) :
  Calls Tryz.prog 7 #[planV p (.slice ta ts.length tc), .int .i64 parts, .int .i64 most, .int .i64 sec, .slice ao m cap] w fun e w' => e = .returned (.bool true) ∧ Below w.heap.size w w' := by
 obtain ⟨W, hW⟩ : ∃ W, W = w.alloc (.cells (planC p (.slice ta ts.length tc)) 32) := ⟨_, rfl⟩
 have hPl : PlAt W w.heap.size p (.slice ta ts.length tc) := by rw [hW]; exact plan_new _ _ _ _
 have hbW : Below w.heap.size w W := by rw [hW]; exact (Below.refl _ _).alloc (Nat.le_refl _) _
 have hzW : w.heap.size < W.heap.size := by rw [hW]; simp
 have HW : Hid (W = w.alloc (.cells (planC p (.slice ta ts.length tc)) 32)) := hW
 have cW := said_any W (hB.below hbW (Nat.le_refl _))
 have HB : Hid (Below w.heap.size w W) := hbW
 have HN : Hid (∀ w', Below w.heap.size w w' → Calls Tryz.prog 15 #[planV p (.slice ta ts.length tc), .int .i64 parts, .int .i64 most, .int .i64 sec] w' fun e w'' => e = .returned (.tuple #[.pointer none, .int .i64 (newE p ts parts sec)]) ∧ Below w'.heap.size w' w'') := fun w' hb => new_no p ta tc ts parts most sec w' (hB.below hb (Nat.le_refl _)) hi hl (hT.below hb (Nat.le_refl _)) hc
 have dne : (newE p ts parts sec != 0) = true := by rw [bne_iff_ne]; exact hc
 clear hW hbW hB hi hl hT hc
 generalize newE p ts parts sec = E at *
 go_enter Tryz.func7, Tryz.ntmps7
 go_upto_region 1 with fail
 rw [← HW.out]
 clear HW
 go_wp2_with (first
  | (go_at_call 32; (with_reducible refine cW.mono ?_); rintro e w1 ⟨rfl, hb1⟩; clear cW; have hP1 := hPl.on hb1 hzW; have hz1 := Nat.lt_of_lt_of_le hzW hb1.size; have HB1 : Hid (Below w.heap.size w w1) := HB.out.trans (hb1.mono HB.out.size); clear hPl)
  | (with_reducible refine wp_plan hP1 (by with_unfolding_all rfl) ?_)
  | (go_at_call 15; have cN := HN.out w1 HB1.out; (with_reducible refine cN.mono ?_); rintro e w2 ⟨rfl, hb2⟩; clear cN))
 go_ret
 exact ⟨rfl, HB1.out.trans (hb2.mono HB1.out.size)⟩
set_option maxHeartbeats 4000000 in
theorem to_many (N : Nat) (hB : Lai.BdsAt w) (hi : PdI p) (hl : p.nm.length ≤ 9223372036854775807) (hT : TrsAt w ta ts) (hc : chkP p ts = 0) (hn : 1 ≤ N ∧ N ≤ 20) (hs : -10000000000 ≤ sec ∧ sec ≤ 10000000000) (hm : 60 < m) :
  Calls Tryz.prog 7 #[planV p (.slice ta ts.length tc), .int .i64 (N : Int), .int .i64 most, .int .i64 sec, .slice ao m cap] w fun e w' => e = .returned (.bool true) ∧ Below w.heap.size w w' := by
 obtain ⟨W, hW⟩ : ∃ W, W = w.alloc (.cells (planC p (.slice ta ts.length tc)) 32) := ⟨_, rfl⟩
 have hPl : PlAt W w.heap.size p (.slice ta ts.length tc) := by rw [hW]; exact plan_new _ _ _ _
 have hbW : Below w.heap.size w W := by rw [hW]; exact (Below.refl _ _).alloc (Nat.le_refl _) _
 have hzW : w.heap.size < W.heap.size := by rw [hW]; simp
 have HW : Hid (W = w.alloc (.cells (planC p (.slice ta ts.length tc)) 32)) := hW
 have cW := said_any W (hB.below hbW (Nat.le_refl _))
 have HB : Hid (Below w.heap.size w W) := hbW
 have HN : Hid (∀ w', Below w.heap.size w w' → Calls Tryz.prog 15 #[planV p (.slice ta ts.length tc), .int .i64 (N : Int), .int .i64 most, .int .i64 sec] w' (NewWA p ts N most sec w')) := fun w' hb => new_yes p ta tc ts N most sec w' (hB.below hb (Nat.le_refl _)) hi hl (hT.below hb (Nat.le_refl _)) hc hn hs
 have hm' : (60 : Int) < (m : Int) := by omega
 clear hW hbW hB hi hl hT hc
 go_enter Tryz.func7, Tryz.ntmps7
 go_upto_region 1 with fail
 rw [← HW.out]
 clear HW
 go_wp2_with (first
  | (go_at_call 32; (with_reducible refine cW.mono ?_); rintro e w1 ⟨rfl, hb1⟩; clear cW; have hP1 := hPl.on hb1 hzW; have hz1 := Nat.lt_of_lt_of_le hzW hb1.size; have HB1 : Hid (Below w.heap.size w w1) := HB.out.trans (hb1.mono HB.out.size); clear hPl)
  | (with_reducible refine wp_plan hP1 (by with_unfolding_all rfl) ?_)
  | (go_at_call 15; have cN := HN.out w1 HB1.out; (with_reducible refine cN.mono ?_); rintro e w2 ⟨c, rfl, hA2, hb2⟩; clear cN; have HA2 : Hid (WAt w2 w1.heap.size c (noN p) ts (newW (noN p) ts N most sec)) := hA2; clear hA2; have hP2 := hP1.on hb2 hz1; have HB2 : Hid (Below w.heap.size w w2) := HB1.out.trans (hb2.mono HB1.out.size)))
 go_ret
 exact ⟨rfl, HB2.out⟩
set_option maxHeartbeats 16000000 in
theorem to_yes (N : Nat) (hB : Lai.BdsAt w) (hi : PdI p) (hl : p.nm.length ≤ 9223372036854775807) (hT : TrsAt w ta ts) (hc : chkP p ts = 0) (hU : ∀ t ∈ ts, TrU t) (hn : 1 ≤ N ∧ N ≤ 20) (hs : -10000000000 ≤ sec ∧ sec ≤ 10000000000) (hm : m ≤ 60) (hH : Frm.RowsIn w ao m 3 X) :
  Calls Tryz.prog 7 #[planV p (.slice ta ts.length tc), .int .i64 (N : Int), .int .i64 most, .int .i64 sec, .slice ao m cap] w fun e w' => e = .returned (.bool true) ∧ Below w.heap.size w w' := by
 obtain ⟨W, hW⟩ : ∃ W, W = w.alloc (.cells (planC p (.slice ta ts.length tc)) 32) := ⟨_, rfl⟩
 have hPl : PlAt W w.heap.size p (.slice ta ts.length tc) := by rw [hW]; exact plan_new _ _ _ _
 have hbW : Below w.heap.size w W := by rw [hW]; exact (Below.refl _ _).alloc (Nat.le_refl _) _
 have hzW : w.heap.size < W.heap.size := by rw [hW]; simp
 have HW : Hid (W = w.alloc (.cells (planC p (.slice ta ts.length tc)) 32)) := hW
 have cW := said_any W (hB.below hbW (Nat.le_refl _))
 have HB : Hid (Below w.heap.size w W) := hbW
 have HN : Hid (∀ w', Below w.heap.size w w' → Calls Tryz.prog 15 #[planV p (.slice ta ts.length tc), .int .i64 (N : Int), .int .i64 most, .int .i64 sec] w' (NewWA p ts N most sec w')) := fun w' hb => new_yes p ta tc ts N most sec w' (hB.below hb (Nat.le_refl _)) hi hl (hT.below hb (Nat.le_refl _)) hc hn hs
 have hm' : ¬ (60 : Int) < (m : Int) := by omega
 have hP := ok_noN (plOk_of hc)
 have hI0 : WI ts (newW (noN p) ts N most sec) 0 0 := WI.new _ _ _ _ _ hn hs
 have hL0 : LaI (newW (noN p) ts N most sec) := fun r hr => by simp [newW] at hr
 have hO0 : Ord (newW (noN p) ts N most sec).R := fun i j r x h => by simp [newW] at h
 have hR0 : (newW (noN p) ts N most sec).R = [] := rfl
 have hQ0 : PoB (newW (noN p) ts N most sec).R := fun r hr => by simp [newW] at hr
 have HH : Hid (Frm.RowsIn w ao m 3 X) := hH
 clear hW hbW hB hi hl hT hc hH
 go_enter Tryz.func7, Tryz.ntmps7
 go_upto_region 1 with fail
 rw [← HW.out]
 clear HW
 have hmm := @run_makeMap Tryz.prog
 go_wp2_with (first
  | (go_at_call 32; (with_reducible refine cW.mono ?_); rintro e w1 ⟨rfl, hb1⟩; clear cW; have hP1 := hPl.on hb1 hzW; have hz1 := Nat.lt_of_lt_of_le hzW hb1.size; have HB1 : Hid (Below w.heap.size w w1) := HB.out.trans (hb1.mono HB.out.size); clear hPl)
  | (with_reducible refine wp_plan hP1 (by with_unfolding_all rfl) ?_)
  | (go_at_call 15; have cN := HN.out w1 HB1.out; (with_reducible refine cN.mono ?_); rintro e w2 ⟨c, rfl, hA2, hb2⟩; clear cN; have HA2 : Hid (WAt w2 w1.heap.size c (noN p) ts (newW (noN p) ts N most sec)) := hA2; clear hA2; have hP2 := hP1.on hb2 hz1; have HB2 : Hid (Below w.heap.size w w2) := HB1.out.trans (hb2.mono HB1.out.size)))
 have hM0 := (MpAt.new HA2.out).same (f' := nv podV (newW (noN p) ts N most sec).R) (g' := nv endV (newW (noN p) ts N most sec).R) (fun i => by rw [hR0]; exact nv_nil _ _) (fun i => by rw [hR0]; exact nv_nil _ _)
 rw [show (w2.alloc (.map #[] 0)).heap.size = w2.heap.size + 1 by simp] at hM0
 have hb3 : Below w.heap.size w ((w2.alloc (.map #[] 0)).alloc (.map #[] 0)) := (HB2.out.alloc HB2.out.size _).alloc (by have := HB2.out.size; simp; omega) _
 have HL1 : Hid (w.heap.size ≤ w1.heap.size) := HB1.out.size
 clear HN HA2 hb1 hb2 hP1 hP2 hz1 HB1 HB2 HB hmm hm' hzW hR0
 generalize newW (noN p) ts N most sec = S0 at *
 generalize hD : c.x.D = D at *
 generalize w2.heap.size = b1 at *
 go_loopw [43] (fun i wr => TnR w w1.heap.size D b1 (b1 + 1) (noN p) ts S0 X m i wr) (fun i _ => m - (intOf i).toNat)
 case atStart => exact ⟨0, c, by omega, rfl, hM0, hD, hb3⟩
 case round =>
  clear hD hM0 hb3 c
  obtain ⟨j, c1, hj, rfl, hA, hD1, hbr⟩ := hrel
  by_cases hlt : j < m
  ·have hlt' : (j : Int) < (m : Int) := by omega
   obtain ⟨g, off, rfl, hgl, hcx⟩ := (Frm.RowsIn.below HH.out hbr (Nat.le_refl _)) j hlt
   have x0 := (hcx 0 (by omega)).1
   have x1 := (hcx 1 (by omega)).1
   have x2 := (hcx 2 (by omega)).1
   simp only [Nat.add_zero] at x0
   rw [← Nat.add_assoc] at x1 x2
   obtain ⟨V, hV⟩ : ∃ V, V = wr.alloc (.cells #[.int .i64 (X j 0), .int .i64 (X j 1), .int .i64 (X j 2)] 49) := ⟨_, rfl⟩
   have hbV : Below wr.heap.size wr V := by rw [hV]; exact (Below.refl _ _).alloc (Nat.le_refl _) _
   have y0 : V.cell? ⟨wr.heap.size, 0, none⟩ = some (.int .i64 (X j 0)) := by rw [hV]; simp
   have y1 : V.cell? ⟨wr.heap.size, 1, none⟩ = some (.int .i64 (X j 1)) := by rw [hV]; simp
   have y2 : V.cell? ⟨wr.heap.size, 2, none⟩ = some (.int .i64 (X j 2)) := by rw [hV]; simp
   have HV : Hid (V = wr.alloc (.cells #[.int .i64 (X j 0), .int .i64 (X j 1), .int .i64 (X j 2)] 49)) := hV
   obtain ⟨R0, hR0⟩ : ∃ R0, R0 = (playW (noN p) ts X S0 j).R := ⟨_, rfl⟩
   rw [← hR0] at hA
   have HX1 : Hid (MpAt V w1.heap.size c1 (noN p) ts (playW (noN p) ts X S0 j) b1 (b1 + 1) (400 * j) (nv podV R0) (nv endV R0) ∧ Below w.heap.size w V) := ⟨hA.below hbV, hbr.trans (hbV.mono hbr.size)⟩
   have hIj := WI.play hP hI0 X j
   have hI1 := WI.play hP hI0 X (j + 1)
   have hLj := LaI.play hP hI0 hL0 X j
   have hL1 := LaI.play hP hI0 hL0 X (j + 1)
   have hK1 : Kps R0 (playW (noN p) ts X S0 (j + 1)).R := by rw [hR0]; exact (OnI.do hP hIj hLj (X j 0) (X j 1) (X j 2)).k
   have hQ1 := pods_play hP hI0 hQ0 X (j + 1) (by omega)
   have hO1 := Ord.play hP hI0 hL0 hO0 X (j + 1)
   have cD := do_any w1.heap.size c1 (noN p) ts (playW (noN p) ts X S0 j) j (1000 * j) (X j 0) (X j 1) (X j 2) V HX1.out.1.wa hIj (by omega) (by omega) hP hU
   rw [hD1] at cD
   clear hA hbr hbV hV hcx hR0
   go_upto_region 11 with fail
   rw [← HV.out]
   clear HV x0 x1 x2
   generalize wr.heap.size = C at *
   obtain ⟨S1, hS1⟩ : ∃ S1, S1 = playW (noN p) ts X S0 (j + 1) := ⟨_, rfl⟩
   rw [← hS1] at hI1 hL1 hK1 hO1 hQ1
   have hlR : S1.R.length ≤ 200 := hI1.r.len
   have HS1 : Hid (S1 = playW (noN p) ts X S0 (j + 1)) := hS1
   clear hS1
   go_wp2_with (first
    | (go_at_call 18; (with_reducible refine cD.mono ?_); rintro e w4 ⟨rfl, c4, a4, d4, m4⟩; clear cD; have HX4 : Hid (MpAt w4 w1.heap.size c4 (noN p) ts S1 b1 (b1 + 1) (400 * j) (nv podV R0) (nv endV R0) ∧ c4.x.D = D ∧ Below w.heap.size w w4) := ⟨HX1.out.1.moved (by rw [HS1.out]; exact a4) m4, d4.trans hD1, HX1.out.2.trans (m4.below (fun k hk => Nat.le_trans HL1.out (HX1.out.1.wa.low hk).1) HX1.out.2.size)⟩; clear a4 d4 m4)
    | (go_at_call 22; have cX := requests_any w1.heap.size c4 (noN p) ts S1 w4 HX4.out.1.wa hlR; rw [HX4.out.2.1] at cX; (with_reducible refine cX.mono ?_); rintro e w5 ⟨G, rfl, hG, hR5, hb5⟩; clear cX))
   have hM5 := ((HX4.out.1.below hb5).same (fun i => mid_zero podV R0 S1.R i) (fun i => mid_zero endV R0 S1.R i))
   have hb6 : Below w.heap.size w w5 := HX4.out.2.2.trans (hb5.mono HX4.out.2.2.size)
   have hG1 : G ≠ b1 ∧ G ≠ b1 + 1 := by have := HX4.out.1.m1.lt; have := HX4.out.1.m2.lt; omega
   have HX5 : Hid (c4.x.D = D) := HX4.out.2.1
   clear HX1 HX4 hb5 hLj hIj
   go_loopw [54] (fun i wr => TiR w w1.heap.size b1 (b1 + 1) G (400 * j) c4 (noN p) ts S1 R0 i wr) (fun i _ => S1.R.length - (intOf i).toNat)
   case atStart => exact ⟨0, by omega, rfl, hM5, hR5, hb6⟩
   case round =>
    clear hM5 hR5 hb6 hG
    obtain ⟨k, hk, rfl, hMk, hRk, hbk⟩ := hrel
    by_cases hlk : k < S1.R.length
    ·have hlk' : (k : Int) < (S1.R.length : Int) := by omega
     obtain ⟨r, hr⟩ : ∃ r, S1.R[k]? = some r := ⟨_, List.getElem?_eq_getElem hlk⟩
     obtain ⟨g5, e5, hg5, hc5⟩ := Buf.row_req hRk (by omega)
     cases e5
     obtain ⟨d0, d1, d2, d3, d4⟩ := hc5 k r hr
     have hok := hL1 r (List.mem_of_getElem? hr)
     have hbd := hI1.r.bd r (List.mem_of_getElem? hr)
     obtain ⟨W1, hW1⟩ : ∃ W1, W1 = wr.alloc (.cells #[.int .i64 r.id, .int .i64 r.src, .int .i64 r.til, .int .i64 r.fat, .int .i64 r.pod] 58) := ⟨_, rfl⟩
     have bW1 : Below wr.heap.size wr W1 := by rw [hW1]; exact (Below.refl _ _).alloc (Nat.le_refl _) _
     have hC1 : CtR w w1.heap.size b1 G wr.heap.size c4 (noN p) ts S1 (400 * j + 2 * k) (mid podV R0 S1.R k) (mid endV R0 S1.R k) r W1 := by
      have l1 := hMk.m1.lt
      have l2 := hMk.m2.lt
      refine ⟨hMk.below bW1, hRk.below bW1, hG1.1, hG1.2, by omega, by omega, hbk.trans (bW1.mono hbk.size), ?_, ?_, ?_, ?_⟩ <;> rw [hW1] <;> simp
     have HW1 : Hid (W1 = wr.alloc (.cells #[.int .i64 r.id, .int .i64 r.src, .int .i64 r.til, .int .i64 r.fat, .int .i64 r.pod] 58)) := hW1
     have HR : Hid (S1.R[k]? = some r) := hr
     clear hW1 hc5 hMk hRk bW1 hr
     go_upto_if 61 with fail
     rw [← HW1.out]
     clear HW1 d0 d1 d2 d3 d4 hg5 hbk
     generalize wr.heap.size = C at *
     have hid : r.id = (k : Int) + 1 := hI1.r.num k r HR.out
     have hne : S1.R ≠ [] := fun e => by rw [e] at hlk; simp at hlk
     have hfa : r.fat = 1 ∨ r.fat = 2 ∨ r.fat = 3 ∨ r.fat = 4 ∨ r.fat = 5 := by unfold Buf.Okr at hbd; omega
     have hpb : -9223372036854775808 ≤ r.pod ∧ r.pod ≤ 9223372036854775807 := by have := hQ1 r (List.mem_of_getElem? HR.out); omega
     go_cut [] (fun wx => CtR w w1.heap.size b1 G C c4 (noN p) ts S1 (400 * j + 2 * k + 1) (mid podV R0 S1.R (k + 1)) (mid endV R0 S1.R k) r wx)
     case first =>
      have e0 := hC1.c0
      have e4 := hC1.c4
      cases hp : (r.pod != 0)
      ·have HM : Hid (CtR w w1.heap.size b1 G C c4 (noN p) ts S1 (400 * j + 2 * k + 1) (mid podV R0 S1.R (k + 1)) (mid endV R0 S1.R k) r W1) := hC1.same (by omega) (pod_none hK1 HR.out (by simpa using hp)) (fun _ => rfl)
       clear hC1
       go_wp2
       go_meet
       exact HM.out
      ·have hlo := hC1.m.m1.look (i := r.id) (by omega)
       obtain ⟨w2, hup, hm2, hg2⟩ := hC1.m.put1 (i := r.id) (x := r.pod) (by unfold maxLen; omega) (by omega) hpb
       have HM : Hid (CtR w w1.heap.size b1 G C c4 (noN p) ts S1 (400 * j + 2 * k + 1) (mid podV R0 S1.R (k + 1)) (mid endV R0 S1.R k) r w2) := (hC1.grown hm2 hg2 (Or.inl rfl) HL1.out hne).same (Nat.le_refl _) (fun i => by rw [mid_step podV HR.out]; unfold Mp.upd; rw [hid]; rfl) (fun _ => rfl)
       have hz := pod_old hK1 HR.out
       rw [← hid] at hz
       have hq : (r.pod != r.pod) = false := by simp
       clear hC1 hm2 hg2 hid
       generalize mid podV R0 S1.R k r.id = v at *
       rcases hz with rfl | rfl
       all_goals
        go_wp2
        go_meet
        exact HM.out
     case rest =>
      clear hC1
      have z3 := hcut.c3
      go_upto_if 83 with fail
      go_cut [] (fun wx => CtR w w1.heap.size b1 G C c4 (noN p) ts S1 (400 * j + 2 * k + 2) (mid podV R0 S1.R (k + 1)) (mid endV R0 S1.R (k + 1)) r wx)
      case first =>
       have e0 := hcut.c0
       have e3 := hcut.c3
       have hlo := hcut.m.m2.look (i := r.id) (by omega)
       have hz := end_old hK1 HR.out
       rw [← hid] at hz
       by_cases h3 : 3 ≤ r.fat
       ·obtain ⟨w2, hup, hm2, hg2⟩ := hcut.m.put2 (i := r.id) (x := r.fat) (by unfold maxLen; omega) (by omega) (by omega)
        have HM : Hid (CtR w w1.heap.size b1 G C c4 (noN p) ts S1 (400 * j + 2 * k + 2) (mid podV R0 S1.R (k + 1)) (mid endV R0 S1.R (k + 1)) r w2) := (hcut.grown hm2 hg2 (Or.inr rfl) HL1.out hne).same (Nat.le_refl _) (fun _ => rfl) (fun i => by rw [mid_step endV HR.out]; unfold Mp.upd; rw [hid]; simp [endV, h3])
        have hq : (r.fat != r.fat) = false := by simp
        have hq0 : (r.fat != 0) = true := by simp; omega
        clear hcut hm2 hg2 hid hfa
        generalize mid endV R0 S1.R k r.id = v at *
        rcases hz with rfl | ⟨_, rfl⟩
        all_goals
         go_wp2
         go_meet
         exact HM.out
       ·have HM : Hid (CtR w w1.heap.size b1 G C c4 (noN p) ts S1 (400 * j + 2 * k + 2) (mid podV R0 S1.R (k + 1)) (mid endV R0 S1.R (k + 1)) r wc) := hcut.same (by omega) (fun _ => rfl) (end_none hK1 HR.out h3)
        have hv : mid endV R0 S1.R k r.id = 0 := by rcases hz with e | e; exact e; exact absurd e.1 h3
        rw [hv] at hlo
        clear hcut hid hfa hz hv
        go_wp2
        go_meet
        exact HM.out
      case rest =>
       clear z3
       have hT := hcut
       have e1 := hT.c1
       have e3 := hT.c3
       have HT : Hid (∀ wz, Below wc.heap.size wc wz → TiR w w1.heap.size b1 (b1 + 1) G (400 * j) c4 (noN p) ts S1 R0 (.int .i64 ((k + 1 : Nat) : Int)) wz) := fun wz hz => ⟨k + 1, hlk, rfl, hT.m.below hz, hT.row.below hz, hT.b.trans (hz.mono hT.b.size)⟩
       have HC : Hid (CtR w w1.heap.size b1 G C c4 (noN p) ts S1 (400 * j + 2 * k + 2) (mid podV R0 S1.R (k + 1)) (mid endV R0 S1.R (k + 1)) r wc) := hT
       by_cases hw : r.fat = 1 ∨ r.fat = 4
       ·clear hT hid hcut
        rcases hw with hw | hw
        all_goals
         rw [hw] at e3
         go_wp2
         go_roundw
         case rel => exact HT.out _ (Below.refl _ _)
         case measure => simp [intOf]; omega
       ·have f1 : (r.fat == 1) = false := by simp; omega
        have f4 : (r.fat == 4) = false := by simp; omega
        have hhas : has r := by unfold has; omega
        have HO : Hid (∀ (q : Nat) (x : Buf.Rq), q < k → S1.R[q]? = some x → x.src = r.src → x.fat ≠ 1 ∧ x.fat ≠ 2) := fun q x hq hx hs => hO1 k q r x HR.out hx hq hs hhas
        have hkd : (k : Int) ≤ (S1.R.length : Int) := by omega
        clear hT hid hcut hw hfa hhas
        go_wp2
        go_loopw [120] (fun i wr2 => IkR k wc i wr2) (fun i _ => k - (intOf i).toNat)
        case atStart => exact ⟨0, by omega, rfl, Below.refl _ _⟩
        case round =>
         obtain ⟨q, hq, rfl, hbq⟩ := hrel
         by_cases hlq : q < k
         ·have hlq' : (q : Int) < (k : Int) := by omega
          obtain ⟨g2, hg20, hg2, hc2⟩ := Buf.row_req (HC.out.row.below hbq) (by omega)
          cases hg20
          obtain ⟨x, hx⟩ : ∃ x, S1.R[q]? = some x := ⟨S1.R[q]'(by omega), by simp⟩
          obtain ⟨x0, x1, x2, x3, x4⟩ := hc2 q x hx
          have y1 : wr.cell? ⟨C, 1, none⟩ = some (.int .i64 r.src) := (hbq.cell (p := ⟨C, 1, none⟩) (World.block_lt_of_cell? wc _ HC.out.c1)).trans HC.out.c1
          have hCl := World.block_lt_of_cell? wr _ y1
          simp only at hCl
          have HB : Hid (Below wc.heap.size wc wr ∧ Below wc.heap.size wc (wr.alloc (.cells #[.int .i64 x.id, .int .i64 x.src, .int .i64 x.til, .int .i64 x.fat, .int .i64 x.pod] 58))) := ⟨hbq, hbq.alloc hbq.size _⟩
          have hno := HO.out q x hlq hx
          clear hc2 hx hbq e1 e3
          cases hs : (x.src == r.src)
          ·clear hno
           go_wp2
           go_roundw
           case rel => first | exact ⟨q + 1, by omega, rfl, HB.out.1⟩ | exact ⟨q + 1, by omega, rfl, HB.out.2⟩
           case measure => simp [intOf]; omega
          ·have hf1 : (x.fat == 1) = false := by rw [beq_eq_false_iff_ne]; exact (hno (by simpa using hs)).1
           have hf2 : (x.fat == 2) = false := by rw [beq_eq_false_iff_ne]; exact (hno (by simpa using hs)).2
           clear hno
           go_wp2
           go_roundw
           case rel => first | exact ⟨q + 1, by omega, rfl, HB.out.1⟩ | exact ⟨q + 1, by omega, rfl, HB.out.2⟩
           case measure => simp [intOf]; omega
         ·obtain rfl : q = k := by omega
          clear e1 e3
          go_wp2
          go_roundw
          case rel => exact HT.out _ hbq
          case measure => simp [intOf]; omega
    ·obtain rfl : k = S1.R.length := by omega
     have HE : Hid (TnR w w1.heap.size D b1 (b1 + 1) (noN p) ts S0 X m (.int .i64 ((j + 1 : Nat) : Int)) wr) := ⟨j + 1, c4, hlt, rfl, by rw [← HS1.out]; exact (hMk.same (fun i => (mid_all podV hK1 i).symm) (fun i => (mid_all endV hK1 i).symm)).mono (by omega), HX5.out, hbk⟩
     clear hMk hRk hbk
     go_wp2
     go_roundw
     case rel => exact HE.out
     case measure => simp [intOf]; omega
  ·obtain rfl : j = m := by omega
   go_wp2
   go_ret
   exact ⟨rfl, hbr⟩
end
theorem topOnce_any (p : Pd) (ta : Option Addr) (tc : Nat) (ts : List Tr) (parts most sec : Int) (ao : Option Addr) (m cap : Nat) (X : Nat → Nat → Int) (w : World) (hB : Lai.BdsAt w) (hi : PdI p) (hl : p.nm.length ≤ 9223372036854775807) (hT : TrsAt w ta ts) (hU : ∀ t ∈ ts, TrU t) (hH : Frm.RowsIn w ao m 3 X) :
  Calls Tryz.prog 7 #[planV p (.slice ta ts.length tc), .int .i64 parts, .int .i64 most, .int .i64 sec, .slice ao m cap] w fun e w' => e = .returned (.bool true) ∧ Below w.heap.size w w' := by
 by_cases hc : newE p ts parts sec = 0
 ·obtain ⟨h1, h2, h3⟩ := newE_ok hc
  obtain ⟨N, rfl⟩ : ∃ N : Nat, parts = (N : Int) := ⟨parts.toNat, by omega⟩
  by_cases hm : m ≤ 60
  ·exact to_yes p ta tc ts most sec ao m cap X w N hB hi hl hT h1 hU (by omega) h3 hm hH
  ·exact to_many p ta tc ts most sec ao m cap w N hB hi hl hT h1 (by omega) h3 (by omega)
 ·exact to_no p ta tc ts parts most sec ao m cap w hB hi hl hT hc
end Wld
end Go.Proofs.YtkmdndhjobckiaiGreatDoor
