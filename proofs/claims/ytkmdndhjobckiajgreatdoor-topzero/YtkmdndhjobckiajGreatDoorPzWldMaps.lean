/- A world, and two maps of a law beside it. TopZero: the set of triggers that fail, beside a world; is a request there that waits or runs? Is a request there that runs, or waits behind the next tick? (the closure of TopZero) To zero only without need: TopZero. -/
import Derived.Test.YtkmdndhjobckiajGreatDoorPzWldPlay
import Derived.Test.YtkmdndhjobckiajGreatDoorPzMapInt
import Derived.Test.YtkmdndhjobckiajGreatDoorPzAr
import Derived.Test.YtkmdndhjobckiajGreatDoorPzTak
import Derived.BigQuiet
import Derived.Deep.RegionHeld
import Derived.Test.YtkmdndhjobckiajGreatDoorPzWldHand
namespace Go.Proofs.YtkmdndhjobckiajGreatDoor
namespace Wld
open Go.RowKit Plain Pln Frm Lpp Crn Lop
set_option maxRecDepth 8000

theorem map_kept {w w' : World} {b n : Nat} {f : Int → Int} (h : Mp.MapAt w b n f) (hb : w'.heap[b]? = w.heap[b]?) : Mp.MapAt w' b n f := by
 obtain ⟨D, h1, h2, h3⟩ := h
 obtain ⟨es, clock, hh, F, hs, hD⟩ := h3
 exact ⟨D, h1, h2, es, clock, hb.trans hh, F, hs, hD⟩
structure MpAt (w : World) (B : Nat) (c : Pc) (p : Pd) (ts : List Tr) (S : WS) (b1 b2 n : Nat) (f g : Int → Int) : Prop where
 wa : WAt w B c p ts S
 n1 : ¬ bk c ts b1
 n2 : ¬ bk c ts b2
 ne : b1 ≠ b2
 l1 : B ≤ b1
 l2 : B ≤ b2
 m1 : Mp.MapAt w b1 n f
 m2 : Mp.MapAt w b2 n g
section
variable {w w' : World} {B : Nat} {c c' : Pc} {p : Pd} {ts : List Tr} {S S' : WS} {b1 b2 n : Nat} {f g : Int → Int}
theorem MpAt.new (h : WAt w B c p ts S) : MpAt ((w.alloc (.map #[] 0)).alloc (.map #[] 0)) B c p ts S w.heap.size (w.alloc (.map #[] 0)).heap.size 0 (fun _ => 0) (fun _ => 0) := by
 have h1 : Below w.heap.size w (w.alloc (.map #[] 0)) := (Below.refl _ _).alloc (Nat.le_refl _) _
 have h2 : Below (w.alloc (.map #[] 0)).heap.size (w.alloc (.map #[] 0)) ((w.alloc (.map #[] 0)).alloc (.map #[] 0)) := (Below.refl _ _).alloc (Nat.le_refl _) _
 have hB := Nat.le_trans h.bD (Nat.le_of_lt h.lt)
 have hz : (w.alloc (.map #[] 0)).heap.size = w.heap.size + 1 := by simp
 refine ⟨(h.below h1).below h2, fun e => ?_, fun e => ?_, by omega, hB, by omega, (Mp.MapAt.new w).below h2, Mp.MapAt.new _⟩
 ·have := (h.low e).2; omega
 ·have := (h.low e).2; omega
theorem MpAt.below (h : MpAt w B c p ts S b1 b2 n f g) (hb : Below w.heap.size w w') : MpAt w' B c p ts S b1 b2 n f g :=
 ⟨h.wa.below hb, h.n1, h.n2, h.ne, h.l1, h.l2, h.m1.below hb, h.m2.below hb⟩
theorem MpAt.same {f' g' : Int → Int} (h : MpAt w B c p ts S b1 b2 n f g) (hf : ∀ i, f' i = f i) (hg : ∀ i, g' i = g i) : MpAt w B c p ts S b1 b2 n f' g' :=
 ⟨h.wa, h.n1, h.n2, h.ne, h.l1, h.l2, h.m1.same hf, h.m2.same hg⟩
theorem MpAt.mono {m : Nat} (h : MpAt w B c p ts S b1 b2 n f g) (hn : n ≤ m) : MpAt w B c p ts S b1 b2 m f g :=
 ⟨h.wa, h.n1, h.n2, h.ne, h.l1, h.l2, h.m1.mono hn, h.m2.mono hn⟩
theorem MpAt.moved (h : MpAt w B c p ts S b1 b2 n f g) (ha : WAt w' B c' p ts S') (m : Mm.Mv (bk c ts) (bk c' ts) w w') : MpAt w' B c' p ts S' b1 b2 n f g :=
 ⟨ha, m.off h.m1.lt h.n1, m.off h.m2.lt h.n2, h.ne, h.l1, h.l2, map_kept h.m1 (m.block _ h.m1.lt h.n1), map_kept h.m2 (m.block _ h.m2.lt h.n2)⟩
theorem wat_grown {b : Nat} (h : WAt w B c p ts S) (hn : ¬ bk c ts b) (hl : B ≤ b) (hg : w.grownBy w' (some b)) : WAt w' B c p ts S := by
 refine h.kept (fun k hk => hg.block k (h.low hk).2 (fun e => hn (by cases e; exact hk))) hg.size ?_
 obtain ⟨w0, a, e, d⟩ := h.ba
 have hz := Nat.le_trans h.bD (Nat.le_of_lt h.lt)
 exact ⟨w0, a, e, d.grown hg (by omega) (fun k hk => by cases hk; omega)⟩
end
end Wld
namespace Wld
open Go.RowKit Plain Pln Frm Lpp Crn Lop
set_option maxRecDepth 8000

def skF (ts : List Tr) (fl : List Bool) (i : Nat) : Bool := match ts[i]?, fl[i]? with
 | some t, some f => f && t.k != 3
 | _, _ => false
theorem skF_fz {ts : List Tr} {fl : List Bool} {i : Nat} (h : skF ts fl i = true) : Fz ts fl i := by
 unfold skF at h
 split at h
 ·rename_i t f h1 h2
  rw [Bool.and_eq_true] at h
  exact ⟨t, h1, by simpa using h.2, by rw [h2, h.1]⟩
 ·cases h
theorem skF_none {ts : List Tr} {fl : List Bool} (h : ∀ i, ¬ Fz ts fl i) (N : Nat) : (List.range N).countP (skF ts fl) = 0 := by
 rw [List.countP_eq_zero]
 intro i _ e
 exact h i (skF_fz e)
theorem skF_set {ts : List Tr} {fl : List Bool} {a : Nat} {t : Tr} (v : Bool) (ht : ts[a]? = some t) (ha : a < fl.length) (hk : t.k ≠ 3) (i : Nat) : skF ts (fl.set a v) i = Mp.setK (skF ts fl) a v i := by
 unfold Mp.setK
 by_cases e : i = a
 ·subst e
  have hk' : (t.k != 3) = true := by simp [hk]
  unfold skF
  rw [if_pos rfl, ht, List.getElem?_set_self ha]
  simp [hk']
 ·rw [if_neg e]
  unfold skF
  rw [List.getElem?_set_ne (fun h => e h.symm)]
theorem skF_span {ts : List Tr} {fl : List Bool} {a : Nat} {t : Tr} (v : Bool) (ht : ts[a]? = some t) (ha : a < fl.length) (hk : t.k = 3) (i : Nat) : skF ts (fl.set a v) i = skF ts fl i := by
 by_cases e : i = a
 ·subst e
  have hk' : (t.k != 3) = false := by simp [hk]
  obtain ⟨f, hf⟩ : ∃ f, fl[i]? = some f := ⟨_, List.getElem?_eq_getElem ha⟩
  unfold skF
  rw [ht, List.getElem?_set_self ha, hf]
  simp [hk']
 ·unfold skF
  rw [List.getElem?_set_ne (fun h => e h.symm)]
theorem skF_new (ts : List Tr) (n i : Nat) : skF ts (List.replicate n false) i = false := by
 unfold skF
 split
 ·rename_i t f h1 h2
  rw [List.getElem?_replicate] at h2
  split at h2
  ·cases h2; rfl
  ·cases h2
 ·rfl
structure ZAt (w1 wx : World) (c : Pc) (p : Pd) (ts : List Tr) (S : WS) (C b n D : Nat) (K : Nat → Bool) : Prop where
 wa : WAt wx w1.heap.size c p ts S
 d : c.x.D = D
 cw : wx.cell? ⟨C, 0, none⟩ = some (.pointer (some ⟨D, 0, none⟩))
 nc : ¬ bk c ts C
 nb : ¬ bk c ts b
 lb : w1.heap.size ≤ b
 ne : C ≠ b
 mp : Mp.MapB wx b n K ts.length
 be : Below w1.heap.size w1 wx
section
variable {w1 wx wy : World} {c c' : Pc} {p : Pd} {ts : List Tr} {S S' : WS} {C b n D : Nat} {K : Nat → Bool}
theorem ZAt.lc (h : ZAt w1 wx c p ts S C b n D K) : C < wx.heap.size := World.block_lt_of_cell? wx _ h.cw
theorem ZAt.below (h : ZAt w1 wx c p ts S C b n D K) (g : Below wx.heap.size wx wy) : ZAt w1 wy c p ts S C b n D K :=
 ⟨h.wa.below g, h.d, (g.cell (p := ⟨C, 0, none⟩) h.lc).trans h.cw, h.nc, h.nb, h.lb, h.ne, h.mp.below g, h.be.trans (g.mono h.be.size)⟩
theorem ZAt.moved (h : ZAt w1 wx c p ts S C b n D K) (ha : WAt wy w1.heap.size c' p ts S') (hd : c'.x.D = c.x.D) (m : Mm.Mv (bk c ts) (bk c' ts) wx wy) : ZAt w1 wy c' p ts S' C b n D K :=
 ⟨ha, hd.trans h.d, (World.cell?_of_block (w := wx) (a := ⟨C, 0, none⟩) (m.block C h.lc h.nc)).trans h.cw, m.off h.lc h.nc, m.off h.mp.lt h.nb, h.lb, h.ne, h.mp.kept (m.block b h.mp.lt h.nb), h.be.trans (m.below (fun _ hk => (h.wa.low hk).1) h.be.size)⟩
theorem ZAt.same {K' : Nat → Bool} (h : ZAt w1 wx c p ts S C b n D K) (hk : ∀ i, K' i = K i) : ZAt w1 wx c p ts S C b n D K' :=
 ⟨h.wa, h.d, h.cw, h.nc, h.nb, h.lb, h.ne, h.mp.same hk, h.be⟩
theorem ZAt.mono {n' : Nat} (h : ZAt w1 wx c p ts S C b n D K) (hn : n ≤ n') : ZAt w1 wx c p ts S C b n' D K :=
 ⟨h.wa, h.d, h.cw, h.nc, h.nb, h.lb, h.ne, h.mp.mono hn, h.be⟩
theorem ZAt.grown {n' : Nat} {K' : Nat → Bool} (h : ZAt w1 wx c p ts S C b n D K) (hm : Mp.MapB wy b n' K' ts.length) (g : wx.grownBy wy (some b)) : ZAt w1 wy c p ts S C b n' D K' :=
 ⟨wat_grown h.wa h.nb h.lb g, h.d, (World.cell?_of_block (w := wx) (a := ⟨C, 0, none⟩) (g.block C h.lc (fun e => h.ne (by cases e; rfl)))).trans h.cw, h.nc, h.nb, h.lb, h.ne, hm, h.be.grown g h.be.size (fun q hq => by cases hq; exact h.lb)⟩
end
end Wld
namespace Wld
open Go.RowKit Plain Pln Frm Lpp Crn Lop
set_option maxRecDepth 8000

section
variable (B : Nat) (c : Pc) (p : Pd) (ts : List Tr) (S : WS) (C D : Nat)
set_option maxHeartbeats 4000000 in
theorem bz1 (id src til pod : Int) (w : World) (hA : WAt w B c p ts S) (hD : c.x.D = D) (hC : w.cell? ⟨C, 0, none⟩ = some (.pointer (some ⟨D, 0, none⟩))) (hn : 0 ≤ S.now ∧ S.now ≤ 1099511627776) :
  Calls Tryz.prog 13 #[.agg #[.int .i64 id, .int .i64 src, .int .i64 til, .int .i64 1, .int .i64 pod], .pointer (some ⟨C, 0, none⟩)] w fun e w' => e = .returned (.bool (decide (S.now + 1 < til))) ∧ Below w.heap.size w w' := by
 obtain ⟨W, hW⟩ : ∃ W, W = w.alloc (.cells #[.int .i64 id, .int .i64 src, .int .i64 til, .int .i64 1, .int .i64 pod] 41) := ⟨_, rfl⟩
 have hbW : Below w.heap.size w W := by rw [hW]; exact (Below.refl _ _).alloc (Nat.le_refl _) _
 have z3 : W.cell? ⟨w.heap.size, 3, none⟩ = some (.int .i64 1) := by rw [hW]; simp
 have z2 : W.cell? ⟨w.heap.size, 2, none⟩ = some (.int .i64 til) := by rw [hW]; simp
 have z0 : W.cell? ⟨C, 0, none⟩ = some (.pointer (some ⟨D, 0, none⟩)) := (hbW.cell (p := ⟨C, 0, none⟩) (World.block_lt_of_cell? w _ hC)).trans hC
 have HW : Hid (W = w.alloc (.cells #[.int .i64 id, .int .i64 src, .int .i64 til, .int .i64 1, .int .i64 pod] 41)) := hW
 have HAX : Hid (WAt W.drew B c p ts S) := (hA.below hbW).below (Mm.bdrew W)
 have HB : Hid (Below w.heap.size w W.drew) := hbW.drew
 have cN : ∀ W, WAt W B c p ts S → Calls Tryz.prog 14 #[.pointer (some ⟨D, 0, none⟩)] W fun e w' => e = .returned (.int .i64 S.now) ∧ w' = W := fun W hW => by
  have h9 := now_any B c p ts S W hW
  rw [hD] at h9
  exact h9
 clear hA hC hW hbW
 go_enter Tryz.func13, Tryz.ntmps13
 go_upto_region 1 with fail
 rw [← HW.out]
 clear HW
 refine Tk.st 17 [false, false, false, false, false, false, false, false, false, false, false, false, false, false, false, false, false] (S := (fun w' : World => w'.cell? ⟨w.heap.size, 3, none⟩ = some (.int .i64 1) ∧ w'.cell? ⟨w.heap.size, 2, none⟩ = some (.int .i64 til) ∧ w'.cell? ⟨C, 0, none⟩ = some (.pointer (some ⟨D, 0, none⟩)))) (by kernel_rfl) (by kernel_rfl) (⟨z3, z2, z0⟩) (fun hHeld => ?_)
 iterate 11
  refine Tk.tk (v := ?_) rfl (by kernel_rfl) (fun _ _ _ h => h) (Or.inl ⟨by rfl, ?_⟩) (by assumption) ?_
  rotate_left
  ·intro w' hSw
   (try dsimp only at hSw)
   (try simp only [Tk.nx, ag])
   go_simp
   all_goals with_reducible rfl
  (try simp only [Tk.nx, Act.put, ar, ag])
 refine wpAnyH_ready (rs := [11]) (by kernel_rfl) (by simp) ?_
 refine AllReadyH.cons rfl (fun K hK => ?_) AllReadyH.nil
 go_simp
 go_wp2_with ((go_at_call 14; (with_reducible refine (cN _ HAX.out).mono ?_); rintro e w' ⟨rfl, h9⟩; have h8 := h9.symm; clear h9; subst h8))
 refine hK.out _ _ (⟨z3, z2, z0⟩) (fun hHeld => ?_)
 clear hK K
 (try simp only [ar])
 iterate 5
  refine Tk.tk (v := ?_) rfl (by kernel_rfl) (fun _ _ _ h => h) (Or.inl ⟨by rfl, ?_⟩) (by assumption) ?_
  rotate_left
  ·intro w' hSw
   (try dsimp only at hSw)
   (try simp only [Tk.nx, ag])
   go_simp
   all_goals with_reducible rfl
  (try simp only [Tk.nx, Act.put, ar, ag])
 refine wpAnyH_done (by kernel_rfl) ?_ _
 go_wp2
 go_ret
 refine ⟨?_, HB.out⟩
 have hwr : IntKind.i64.wrap (S.now + 1) = S.now + 1 := by rw [IntKind.wrap_i64]; omega
 show Ending.returned (.bool (decide (IntKind.i64.wrap (S.now + 1) < til))) = _
 rw [hwr]
set_option maxHeartbeats 4000000 in
theorem bz2 (id src til pod : Int) (w : World) (hA : WAt w B c p ts S) (hD : c.x.D = D) (hC : w.cell? ⟨C, 0, none⟩ = some (.pointer (some ⟨D, 0, none⟩))) (_hn : 0 ≤ S.now ∧ S.now ≤ 1099511627776) :
  Calls Tryz.prog 13 #[.agg #[.int .i64 id, .int .i64 src, .int .i64 til, .int .i64 2, .int .i64 pod], .pointer (some ⟨C, 0, none⟩)] w fun e w' => e = .returned (.bool (true)) ∧ Below w.heap.size w w' := by
 obtain ⟨W, hW⟩ : ∃ W, W = w.alloc (.cells #[.int .i64 id, .int .i64 src, .int .i64 til, .int .i64 2, .int .i64 pod] 41) := ⟨_, rfl⟩
 have hbW : Below w.heap.size w W := by rw [hW]; exact (Below.refl _ _).alloc (Nat.le_refl _) _
 have z3 : W.cell? ⟨w.heap.size, 3, none⟩ = some (.int .i64 2) := by rw [hW]; simp
 have z2 : W.cell? ⟨w.heap.size, 2, none⟩ = some (.int .i64 til) := by rw [hW]; simp
 have z0 : W.cell? ⟨C, 0, none⟩ = some (.pointer (some ⟨D, 0, none⟩)) := (hbW.cell (p := ⟨C, 0, none⟩) (World.block_lt_of_cell? w _ hC)).trans hC
 have HW : Hid (W = w.alloc (.cells #[.int .i64 id, .int .i64 src, .int .i64 til, .int .i64 2, .int .i64 pod] 41)) := hW
 have HAX : Hid (WAt W.drew B c p ts S) := (hA.below hbW).below (Mm.bdrew W)
 have HB : Hid (Below w.heap.size w W.drew) := hbW.drew
 have cN : ∀ W, WAt W B c p ts S → Calls Tryz.prog 14 #[.pointer (some ⟨D, 0, none⟩)] W fun e w' => e = .returned (.int .i64 S.now) ∧ w' = W := fun W hW => by
  have h9 := now_any B c p ts S W hW
  rw [hD] at h9
  exact h9
 clear hA hC hW hbW
 go_enter Tryz.func13, Tryz.ntmps13
 go_upto_region 1 with fail
 rw [← HW.out]
 clear HW
 refine Tk.st 17 [false, false, false, false, false, false, false, false, false, false, false, false, false, false, false, false, false] (S := (fun w' : World => w'.cell? ⟨w.heap.size, 3, none⟩ = some (.int .i64 2) ∧ w'.cell? ⟨w.heap.size, 2, none⟩ = some (.int .i64 til) ∧ w'.cell? ⟨C, 0, none⟩ = some (.pointer (some ⟨D, 0, none⟩)))) (by kernel_rfl) (by kernel_rfl) (⟨z3, z2, z0⟩) (fun hHeld => ?_)
 iterate 4
  refine Tk.tk (v := ?_) rfl (by kernel_rfl) (fun _ _ _ h => h) (Or.inl ⟨by rfl, ?_⟩) (by assumption) ?_
  rotate_left
  ·intro w' hSw
   (try dsimp only at hSw)
   (try simp only [Tk.nx, ag])
   go_simp
   all_goals with_reducible rfl
  (try simp only [Tk.nx, Act.put, ar, ag])
 iterate 11
  refine Tk.tk (v := undef) rfl (by kernel_rfl) (fun _ _ _ h => h) (Or.inr ⟨by rfl, rfl⟩) (by assumption) ?_
  (try simp only [Tk.nx, Act.put, ar, ag])
 iterate 2
  refine Tk.tk (v := ?_) rfl (by kernel_rfl) (fun _ _ _ h => h) (Or.inl ⟨by rfl, ?_⟩) (by assumption) ?_
  rotate_left
  ·intro w' hSw
   (try dsimp only at hSw)
   (try simp only [Tk.nx, ag])
   go_simp
   all_goals with_reducible rfl
  (try simp only [Tk.nx, Act.put, ar, ag])
 refine wpAnyH_done (by kernel_rfl) ?_ _
 go_wp2
 go_ret
 exact ⟨rfl, HB.out⟩
set_option maxHeartbeats 4000000 in
theorem bz3 (id src til pod : Int) (w : World) (hA : WAt w B c p ts S) (hD : c.x.D = D) (hC : w.cell? ⟨C, 0, none⟩ = some (.pointer (some ⟨D, 0, none⟩))) (_hn : 0 ≤ S.now ∧ S.now ≤ 1099511627776) :
  Calls Tryz.prog 13 #[.agg #[.int .i64 id, .int .i64 src, .int .i64 til, .int .i64 3, .int .i64 pod], .pointer (some ⟨C, 0, none⟩)] w fun e w' => e = .returned (.bool (false)) ∧ Below w.heap.size w w' := by
 obtain ⟨W, hW⟩ : ∃ W, W = w.alloc (.cells #[.int .i64 id, .int .i64 src, .int .i64 til, .int .i64 3, .int .i64 pod] 41) := ⟨_, rfl⟩
 have hbW : Below w.heap.size w W := by rw [hW]; exact (Below.refl _ _).alloc (Nat.le_refl _) _
 have z3 : W.cell? ⟨w.heap.size, 3, none⟩ = some (.int .i64 3) := by rw [hW]; simp
 have z2 : W.cell? ⟨w.heap.size, 2, none⟩ = some (.int .i64 til) := by rw [hW]; simp
 have z0 : W.cell? ⟨C, 0, none⟩ = some (.pointer (some ⟨D, 0, none⟩)) := (hbW.cell (p := ⟨C, 0, none⟩) (World.block_lt_of_cell? w _ hC)).trans hC
 have HW : Hid (W = w.alloc (.cells #[.int .i64 id, .int .i64 src, .int .i64 til, .int .i64 3, .int .i64 pod] 41)) := hW
 have HAX : Hid (WAt W.drew B c p ts S) := (hA.below hbW).below (Mm.bdrew W)
 have HB : Hid (Below w.heap.size w W.drew) := hbW.drew
 have cN : ∀ W, WAt W B c p ts S → Calls Tryz.prog 14 #[.pointer (some ⟨D, 0, none⟩)] W fun e w' => e = .returned (.int .i64 S.now) ∧ w' = W := fun W hW => by
  have h9 := now_any B c p ts S W hW
  rw [hD] at h9
  exact h9
 clear hA hC hW hbW
 go_enter Tryz.func13, Tryz.ntmps13
 go_upto_region 1 with fail
 rw [← HW.out]
 clear HW
 refine Tk.st 17 [false, false, false, false, false, false, false, false, false, false, false, false, false, false, false, false, false] (S := (fun w' : World => w'.cell? ⟨w.heap.size, 3, none⟩ = some (.int .i64 3) ∧ w'.cell? ⟨w.heap.size, 2, none⟩ = some (.int .i64 til) ∧ w'.cell? ⟨C, 0, none⟩ = some (.pointer (some ⟨D, 0, none⟩)))) (by kernel_rfl) (by kernel_rfl) (⟨z3, z2, z0⟩) (fun hHeld => ?_)
 iterate 8
  refine Tk.tk (v := ?_) rfl (by kernel_rfl) (fun _ _ _ h => h) (Or.inl ⟨by rfl, ?_⟩) (by assumption) ?_
  rotate_left
  ·intro w' hSw
   (try dsimp only at hSw)
   (try simp only [Tk.nx, ag])
   go_simp
   all_goals with_reducible rfl
  (try simp only [Tk.nx, Act.put, ar, ag])
 iterate 6
  refine Tk.tk (v := undef) rfl (by kernel_rfl) (fun _ _ _ h => h) (Or.inr ⟨by rfl, rfl⟩) (by assumption) ?_
  (try simp only [Tk.nx, Act.put, ar, ag])
 iterate 3
  refine Tk.tk (v := ?_) rfl (by kernel_rfl) (fun _ _ _ h => h) (Or.inl ⟨by rfl, ?_⟩) (by assumption) ?_
  rotate_left
  ·intro w' hSw
   (try dsimp only at hSw)
   (try simp only [Tk.nx, ag])
   go_simp
   all_goals with_reducible rfl
  (try simp only [Tk.nx, Act.put, ar, ag])
 refine wpAnyH_done (by kernel_rfl) ?_ _
 go_wp2
 go_ret
 exact ⟨rfl, HB.out⟩
set_option maxHeartbeats 4000000 in
theorem bz4 (id src til pod : Int) (w : World) (hA : WAt w B c p ts S) (hD : c.x.D = D) (hC : w.cell? ⟨C, 0, none⟩ = some (.pointer (some ⟨D, 0, none⟩))) (_hn : 0 ≤ S.now ∧ S.now ≤ 1099511627776) :
  Calls Tryz.prog 13 #[.agg #[.int .i64 id, .int .i64 src, .int .i64 til, .int .i64 4, .int .i64 pod], .pointer (some ⟨C, 0, none⟩)] w fun e w' => e = .returned (.bool (false)) ∧ Below w.heap.size w w' := by
 obtain ⟨W, hW⟩ : ∃ W, W = w.alloc (.cells #[.int .i64 id, .int .i64 src, .int .i64 til, .int .i64 4, .int .i64 pod] 41) := ⟨_, rfl⟩
 have hbW : Below w.heap.size w W := by rw [hW]; exact (Below.refl _ _).alloc (Nat.le_refl _) _
 have z3 : W.cell? ⟨w.heap.size, 3, none⟩ = some (.int .i64 4) := by rw [hW]; simp
 have z2 : W.cell? ⟨w.heap.size, 2, none⟩ = some (.int .i64 til) := by rw [hW]; simp
 have z0 : W.cell? ⟨C, 0, none⟩ = some (.pointer (some ⟨D, 0, none⟩)) := (hbW.cell (p := ⟨C, 0, none⟩) (World.block_lt_of_cell? w _ hC)).trans hC
 have HW : Hid (W = w.alloc (.cells #[.int .i64 id, .int .i64 src, .int .i64 til, .int .i64 4, .int .i64 pod] 41)) := hW
 have HAX : Hid (WAt W.drew B c p ts S) := (hA.below hbW).below (Mm.bdrew W)
 have HB : Hid (Below w.heap.size w W.drew) := hbW.drew
 have cN : ∀ W, WAt W B c p ts S → Calls Tryz.prog 14 #[.pointer (some ⟨D, 0, none⟩)] W fun e w' => e = .returned (.int .i64 S.now) ∧ w' = W := fun W hW => by
  have h9 := now_any B c p ts S W hW
  rw [hD] at h9
  exact h9
 clear hA hC hW hbW
 go_enter Tryz.func13, Tryz.ntmps13
 go_upto_region 1 with fail
 rw [← HW.out]
 clear HW
 refine Tk.st 17 [false, false, false, false, false, false, false, false, false, false, false, false, false, false, false, false, false] (S := (fun w' : World => w'.cell? ⟨w.heap.size, 3, none⟩ = some (.int .i64 4) ∧ w'.cell? ⟨w.heap.size, 2, none⟩ = some (.int .i64 til) ∧ w'.cell? ⟨C, 0, none⟩ = some (.pointer (some ⟨D, 0, none⟩)))) (by kernel_rfl) (by kernel_rfl) (⟨z3, z2, z0⟩) (fun hHeld => ?_)
 iterate 8
  refine Tk.tk (v := ?_) rfl (by kernel_rfl) (fun _ _ _ h => h) (Or.inl ⟨by rfl, ?_⟩) (by assumption) ?_
  rotate_left
  ·intro w' hSw
   (try dsimp only at hSw)
   (try simp only [Tk.nx, ag])
   go_simp
   all_goals with_reducible rfl
  (try simp only [Tk.nx, Act.put, ar, ag])
 iterate 6
  refine Tk.tk (v := undef) rfl (by kernel_rfl) (fun _ _ _ h => h) (Or.inr ⟨by rfl, rfl⟩) (by assumption) ?_
  (try simp only [Tk.nx, Act.put, ar, ag])
 iterate 3
  refine Tk.tk (v := ?_) rfl (by kernel_rfl) (fun _ _ _ h => h) (Or.inl ⟨by rfl, ?_⟩) (by assumption) ?_
  rotate_left
  ·intro w' hSw
   (try dsimp only at hSw)
   (try simp only [Tk.nx, ag])
   go_simp
   all_goals with_reducible rfl
  (try simp only [Tk.nx, Act.put, ar, ag])
 refine wpAnyH_done (by kernel_rfl) ?_ _
 go_wp2
 go_ret
 exact ⟨rfl, HB.out⟩
set_option maxHeartbeats 4000000 in
theorem bz5 (id src til pod : Int) (w : World) (hA : WAt w B c p ts S) (hD : c.x.D = D) (hC : w.cell? ⟨C, 0, none⟩ = some (.pointer (some ⟨D, 0, none⟩))) (_hn : 0 ≤ S.now ∧ S.now ≤ 1099511627776) :
  Calls Tryz.prog 13 #[.agg #[.int .i64 id, .int .i64 src, .int .i64 til, .int .i64 5, .int .i64 pod], .pointer (some ⟨C, 0, none⟩)] w fun e w' => e = .returned (.bool (false)) ∧ Below w.heap.size w w' := by
 obtain ⟨W, hW⟩ : ∃ W, W = w.alloc (.cells #[.int .i64 id, .int .i64 src, .int .i64 til, .int .i64 5, .int .i64 pod] 41) := ⟨_, rfl⟩
 have hbW : Below w.heap.size w W := by rw [hW]; exact (Below.refl _ _).alloc (Nat.le_refl _) _
 have z3 : W.cell? ⟨w.heap.size, 3, none⟩ = some (.int .i64 5) := by rw [hW]; simp
 have z2 : W.cell? ⟨w.heap.size, 2, none⟩ = some (.int .i64 til) := by rw [hW]; simp
 have z0 : W.cell? ⟨C, 0, none⟩ = some (.pointer (some ⟨D, 0, none⟩)) := (hbW.cell (p := ⟨C, 0, none⟩) (World.block_lt_of_cell? w _ hC)).trans hC
 have HW : Hid (W = w.alloc (.cells #[.int .i64 id, .int .i64 src, .int .i64 til, .int .i64 5, .int .i64 pod] 41)) := hW
 have HAX : Hid (WAt W.drew B c p ts S) := (hA.below hbW).below (Mm.bdrew W)
 have HB : Hid (Below w.heap.size w W.drew) := hbW.drew
 have cN : ∀ W, WAt W B c p ts S → Calls Tryz.prog 14 #[.pointer (some ⟨D, 0, none⟩)] W fun e w' => e = .returned (.int .i64 S.now) ∧ w' = W := fun W hW => by
  have h9 := now_any B c p ts S W hW
  rw [hD] at h9
  exact h9
 clear hA hC hW hbW
 go_enter Tryz.func13, Tryz.ntmps13
 go_upto_region 1 with fail
 rw [← HW.out]
 clear HW
 refine Tk.st 17 [false, false, false, false, false, false, false, false, false, false, false, false, false, false, false, false, false] (S := (fun w' : World => w'.cell? ⟨w.heap.size, 3, none⟩ = some (.int .i64 5) ∧ w'.cell? ⟨w.heap.size, 2, none⟩ = some (.int .i64 til) ∧ w'.cell? ⟨C, 0, none⟩ = some (.pointer (some ⟨D, 0, none⟩)))) (by kernel_rfl) (by kernel_rfl) (⟨z3, z2, z0⟩) (fun hHeld => ?_)
 iterate 8
  refine Tk.tk (v := ?_) rfl (by kernel_rfl) (fun _ _ _ h => h) (Or.inl ⟨by rfl, ?_⟩) (by assumption) ?_
  rotate_left
  ·intro w' hSw
   (try dsimp only at hSw)
   (try simp only [Tk.nx, ag])
   go_simp
   all_goals with_reducible rfl
  (try simp only [Tk.nx, Act.put, ar, ag])
 iterate 6
  refine Tk.tk (v := undef) rfl (by kernel_rfl) (fun _ _ _ h => h) (Or.inr ⟨by rfl, rfl⟩) (by assumption) ?_
  (try simp only [Tk.nx, Act.put, ar, ag])
 iterate 3
  refine Tk.tk (v := ?_) rfl (by kernel_rfl) (fun _ _ _ h => h) (Or.inl ⟨by rfl, ?_⟩) (by assumption) ?_
  rotate_left
  ·intro w' hSw
   (try dsimp only at hSw)
   (try simp only [Tk.nx, ag])
   go_simp
   all_goals with_reducible rfl
  (try simp only [Tk.nx, Act.put, ar, ag])
 refine wpAnyH_done (by kernel_rfl) ?_ _
 go_wp2
 go_ret
 exact ⟨rfl, HB.out⟩
theorem bz_any (r : Buf.Rq) (w : World) (hA : WAt w B c p ts S) (hD : c.x.D = D) (hC : w.cell? ⟨C, 0, none⟩ = some (.pointer (some ⟨D, 0, none⟩))) (hn : 0 ≤ S.now ∧ S.now ≤ 1099511627776) (hr : 1 ≤ r.fat ∧ r.fat ≤ 5) :
  Calls Tryz.prog 13 #[.agg #[.int .i64 r.id, .int .i64 r.src, .int .i64 r.til, .int .i64 r.fat, .int .i64 r.pod], .pointer (some ⟨C, 0, none⟩)] w fun e w' => e = .returned (.bool (busyR S.now r)) ∧ Below w.heap.size w w' := by
 obtain ⟨id, src, til, fat, pod⟩ := r
 have hf : fat = 1 ∨ fat = 2 ∨ fat = 3 ∨ fat = 4 ∨ fat = 5 := by simp only at hr; omega
 rcases hf with rfl | rfl | rfl | rfl | rfl
 ·exact bz1 B c p ts S C D id src til pod w hA hD hC hn
 ·exact bz2 B c p ts S C D id src til pod w hA hD hC hn
 ·exact bz3 B c p ts S C D id src til pod w hA hD hC hn
 ·exact bz4 B c p ts S C D id src til pod w hA hD hC hn
 ·exact bz5 B c p ts S C D id src til pod w hA hD hC hn
def IzP (R : List Buf.Rq) (now : Int) (r : Int) : Prop := (r = -1 ∧ R.any (busyR now) = false) ∨ (0 ≤ r ∧ R.any (busyR now) = true)
def IzR (R : List Buf.Rq) (now : Int) (w : World) (i : Value) (wr : World) : Prop := ∃ j : Nat, j ≤ R.length ∧ i = .int .i64 j ∧ (∀ q r, q < j → R[q]? = some r → busyR now r = false) ∧ Below w.heap.size w wr
set_option maxHeartbeats 4000000 in
theorem izf_any (G : Nat) (w : World) (hA : WAt w B c p ts S) (hD : c.x.D = D) (hC : w.cell? ⟨C, 0, none⟩ = some (.pointer (some ⟨D, 0, none⟩))) (hn : 0 ≤ S.now ∧ S.now ≤ 1099511627776) (hR : Rec.RowAt Buf.rK w (some ⟨G, 0, none⟩) S.R) (hI : Buf.Inv S.R) :
  Calls Tryz.prog 34 #[.slice (some ⟨G, 0, none⟩) S.R.length S.R.length, .func (.func 13) #[] #[.pointer (some ⟨C, 0, none⟩)]] w fun e w' => ∃ r, e = .returned (.int .i64 r) ∧ IzP S.R S.now r ∧ Below w.heap.size w w' := by
 have HA : Hid (WAt w B c p ts S ∧ w.cell? ⟨C, 0, none⟩ = some (.pointer (some ⟨D, 0, none⟩)) ∧ Rec.RowAt Buf.rK w (some ⟨G, 0, none⟩) S.R) := ⟨hA, hC, hR⟩
 have hl := hI.len
 clear hA hC hR
 go_enter Tryz.func34, Tryz.ntmps34
 go_wp2_with fail
 go_loopw [8] (fun i wr => IzR S.R S.now w i wr) (fun i _ => S.R.length - (intOf i).toNat)
 case atStart => exact ⟨0, by omega, rfl, fun q _ hq => absurd hq (by omega), Below.refl _ _⟩
 case round =>
  obtain ⟨j, hj, rfl, hno, hbr⟩ := hrel
  have HNo : Hid (∀ q r, q < j → S.R[q]? = some r → busyR S.now r = false) := hno
  have HBr : Hid (Below w.heap.size w wr) := hbr
  by_cases hlt : j < S.R.length
  ·have hlt' : (j : Int) < (S.R.length : Int) := by omega
   obtain ⟨r, hr⟩ : ∃ r, S.R[j]? = some r := ⟨_, List.getElem?_eq_getElem hlt⟩
   obtain ⟨g5, e5, hg5, hc5⟩ := Buf.row_req (HA.out.2.2.below hbr) (by omega)
   cases e5
   obtain ⟨d0, d1, d2, d3, d4⟩ := hc5 j r hr
   have hbd := hI.bd r (List.mem_of_getElem? hr)
   have HR : Hid (S.R[j]? = some r) := hr
   have cP : ∀ w2, Below wr.heap.size wr w2 → Calls Tryz.prog 13 #[.agg #[.int .i64 r.id, .int .i64 r.src, .int .i64 r.til, .int .i64 r.fat, .int .i64 r.pod], .pointer (some ⟨C, 0, none⟩)] w2 fun e w' => e = .returned (.bool (busyR S.now r)) ∧ Below w2.heap.size w2 w' := fun w2 hb2 => by
    have hbx := HBr.out.trans (hb2.mono HBr.out.size)
    exact bz_any B c p ts S C D r w2 (HA.out.1.below hbx) hD ((hbx.cell (p := ⟨C, 0, none⟩) (World.block_lt_of_cell? w _ HA.out.2.1)).trans HA.out.2.1) hn (by unfold Buf.Okr at hbd; omega)
   clear hc5 hr hno hbr hbd
   cases hz : busyR S.now r
   ·rw [hz] at cP
    have HZ : Hid (busyR S.now r = false) := hz
    clear hz
    go_wp2_with (go_at_call 13; first | (with_reducible refine (cP _ (Below.refl _ _)).mono ?_); rintro e w2 ⟨rfl, hb2⟩; have HB2 : Hid (Below w.heap.size w w2) := HBr.out.trans (hb2.mono HBr.out.size))
    go_roundw
    case rel =>
     refine ⟨j + 1, hlt, rfl, fun q x hq hx => ?_, HB2.out⟩
     by_cases e : q = j
     ·subst e; rw [HR.out] at hx; cases hx; exact HZ.out
     ·exact HNo.out q x (by omega) hx
    case measure => simp [intOf]; omega
   ·rw [hz] at cP
    have HZ : Hid (busyR S.now r = true) := hz
    clear hz
    go_wp2_with (go_at_call 13; (with_reducible refine (cP _ (Below.refl _ _)).mono ?_); rintro e w2 ⟨rfl, hb2⟩; have HB2 : Hid (Below w.heap.size w w2) := HBr.out.trans (hb2.mono HBr.out.size))
    go_ret
    exact ⟨_, rfl, Or.inr ⟨by omega, List.any_eq_true.2 ⟨r, List.mem_of_getElem? HR.out, HZ.out⟩⟩, HB2.out⟩
  ·obtain rfl : j = S.R.length := by omega
   go_wp2
   go_ret
   refine ⟨-1, rfl, Or.inl ⟨rfl, ?_⟩, HBr.out⟩
   rw [List.any_eq_false]
   intro r hr
   obtain ⟨q, hq⟩ := List.getElem?_of_mem hr
   have := HNo.out q r (List.getElem?_eq_some_iff.1 hq).1 hq
   simp [this]
set_option maxHeartbeats 2000000 in
theorem czf_any (G : Nat) (w : World) (hA : WAt w B c p ts S) (hD : c.x.D = D) (hC : w.cell? ⟨C, 0, none⟩ = some (.pointer (some ⟨D, 0, none⟩))) (hn : 0 ≤ S.now ∧ S.now ≤ 1099511627776) (hR : Rec.RowAt Buf.rK w (some ⟨G, 0, none⟩) S.R) (hI : Buf.Inv S.R) :
  Calls Tryz.prog 11 #[.slice (some ⟨G, 0, none⟩) S.R.length S.R.length, .func (.func 13) #[] #[.pointer (some ⟨C, 0, none⟩)]] w fun e w' => e = .returned (.bool (S.R.any (busyR S.now))) ∧ Below w.heap.size w w' := by
 have cI := izf_any B c p ts S C D G w hA hD hC hn hR hI
 clear hA hC hR hI
 go_enter Tryz.func11, Tryz.ntmps11
 go_wp2_with (go_at_call 34; (with_reducible refine cI.mono ?_); rintro e w2 ⟨r, rfl, hr, hb2⟩; have HR : Hid (IzP S.R S.now r) := hr; clear hr)
 go_ret
 refine ⟨?_, hb2⟩
 show Ending.returned (.bool (decide (0 ≤ r))) = _
 rcases HR.out with ⟨h1, h2⟩ | ⟨h1, h2⟩
 ·rw [h2, h1]; rfl
 ·rw [h2, decide_eq_true h1]
end
end Wld
namespace Wld
open Go.RowKit Plain Pln Frm Lpp Crn Lop
set_option maxRecDepth 8000

def ZoR (w w1 : World) (C b D : Nat) (p : Pd) (ts : List Tr) (m : Nat) (i : Value) (wr : World) : Prop :=
 ∃ (j n : Nat) (c : Pc) (S : WS), j ≤ m ∧ i = .int .i64 j ∧ ZAt w1 wr c p ts S C b n D (skF ts S.fl) ∧ n ≤ j ∧ WI ts S j (1000 * j) ∧ BI p S ∧ S.now ≤ 1000 * (j : Int) ∧ Below w.heap.size w wr
def ZiR (w w1 : World) (C b n D : Nat) (p : Pd) (ts : List Tr) (j M : Nat) (i : Value) (wr : World) : Prop :=
 ∃ (q : Nat) (c : Pc) (S : WS), q ≤ M ∧ i = .int .i64 q ∧ ZAt w1 wr c p ts S C b n D (skF ts S.fl) ∧ WI ts S j (1000 * j + q) ∧ BI p S ∧ S.now ≤ 1000 * (j : Int) + q ∧ Below w.heap.size w wr
theorem do_tickZ (p : Pd) (ts : List Tr) (S : WS) (h : S.now + 1 ≤ 1099511627776) : doW p ts S 1 0 1 = tick1 p ts S := by
 unfold doW
 rw [if_pos rfl, if_pos (by unfold tickE; rw [if_pos ⟨by omega, h⟩])]
 rfl
section
variable (p : Pd) (ta : Option Addr) (tc : Nat) (ts : List Tr) (parts most sec : Int) (ao : Option Addr) (m cap : Nat) (X : Nat → Nat → Int) (w : World)
set_option maxHeartbeats 4000000 in
theorem zt_no (hB : Lai.BdsAt w) (hi : PdI p) (hl : p.nm.length ≤ 9223372036854775807) (hT : TrsAt w ta ts) (hc : newE p ts parts sec ≠ 0) :
  Calls Tryz.prog 3 #[planV p (.slice ta ts.length tc), .int .i64 parts, .int .i64 most, .int .i64 sec, .slice ao m cap] w fun e w' => e = .returned (.bool true) ∧ Below w.heap.size w w' := by
 obtain ⟨W, hW⟩ : ∃ W, W = w.alloc (.cells (planC p (.slice ta ts.length tc)) 26) := ⟨_, rfl⟩
 have hPl : PlAt W w.heap.size p (.slice ta ts.length tc) := by rw [hW]; exact plan_new _ _ _ _
 have hbW : Below w.heap.size w W := by rw [hW]; exact (Below.refl _ _).alloc (Nat.le_refl _) _
 have hzW : w.heap.size < W.heap.size := by rw [hW]; simp
 have HW : Hid (W = w.alloc (.cells (planC p (.slice ta ts.length tc)) 26)) := hW
 have cW := said_any W (hB.below hbW (Nat.le_refl _))
 have HB : Hid (Below w.heap.size w W) := hbW
 have HN : Hid (∀ w', Below w.heap.size w w' → Calls Tryz.prog 8 #[planV p (.slice ta ts.length tc), .int .i64 parts, .int .i64 most, .int .i64 sec] w' fun e w'' => e = .returned (.tuple #[.pointer none, .int .i64 (newE p ts parts sec)]) ∧ Below w'.heap.size w' w'') := fun w' hb => new_no p ta tc ts parts most sec w' (hB.below hb (Nat.le_refl _)) hi hl (hT.below hb (Nat.le_refl _)) hc
 have dne : (newE p ts parts sec != 0) = true := by rw [bne_iff_ne]; exact hc
 clear hW hbW hB hi hl hT hc
 generalize newE p ts parts sec = E at *
 go_enter Tryz.func3, Tryz.ntmps3
 go_upto_region 1 with fail
 rw [← HW.out]
 clear HW
 go_wp2_with (first
  | (go_at_call 7; (with_reducible refine cW.mono ?_); rintro e w1 ⟨rfl, hb1⟩; clear cW; have hP1 := hPl.on hb1 hzW; have hz1 := Nat.lt_of_lt_of_le hzW hb1.size; have HB1 : Hid (Below w.heap.size w w1) := HB.out.trans (hb1.mono HB.out.size); clear hPl)
  | (with_reducible refine wp_plan hP1 (by with_unfolding_all rfl) ?_)
  | (go_at_call 8; have cN := HN.out w1 HB1.out; (with_reducible refine cN.mono ?_); rintro e w2 ⟨rfl, hb2⟩; clear cN))
 go_ret
 exact ⟨rfl, (HB1.out.trans (hb2.mono HB1.out.size)).alloc (Nat.le_trans HB1.out.size hb2.size) _⟩
set_option maxHeartbeats 4000000 in
theorem zt_many (N : Nat) (hB : Lai.BdsAt w) (hi : PdI p) (hl : p.nm.length ≤ 9223372036854775807) (hT : TrsAt w ta ts) (hc : chkP p ts = 0) (hn : 1 ≤ N ∧ N ≤ 20) (hs : -10000000000 ≤ sec ∧ sec ≤ 10000000000) (hm : 60 < m) :
  Calls Tryz.prog 3 #[planV p (.slice ta ts.length tc), .int .i64 (N : Int), .int .i64 most, .int .i64 sec, .slice ao m cap] w fun e w' => e = .returned (.bool true) ∧ Below w.heap.size w w' := by
 obtain ⟨W, hW⟩ : ∃ W, W = w.alloc (.cells (planC p (.slice ta ts.length tc)) 26) := ⟨_, rfl⟩
 have hPl : PlAt W w.heap.size p (.slice ta ts.length tc) := by rw [hW]; exact plan_new _ _ _ _
 have hbW : Below w.heap.size w W := by rw [hW]; exact (Below.refl _ _).alloc (Nat.le_refl _) _
 have hzW : w.heap.size < W.heap.size := by rw [hW]; simp
 have HW : Hid (W = w.alloc (.cells (planC p (.slice ta ts.length tc)) 26)) := hW
 have cW := said_any W (hB.below hbW (Nat.le_refl _))
 have HB : Hid (Below w.heap.size w W) := hbW
 have HN : Hid (∀ w', Below w.heap.size w w' → Calls Tryz.prog 8 #[planV p (.slice ta ts.length tc), .int .i64 (N : Int), .int .i64 most, .int .i64 sec] w' (NewWA p ts N most sec w')) := fun w' hb => new_yes p ta tc ts N most sec w' (hB.below hb (Nat.le_refl _)) hi hl (hT.below hb (Nat.le_refl _)) hc hn hs
 have hm' : (60 : Int) < (m : Int) := by omega
 clear hW hbW hB hi hl hT hc
 go_enter Tryz.func3, Tryz.ntmps3
 go_upto_region 1 with fail
 rw [← HW.out]
 clear HW
 go_wp2_with (first
  | (go_at_call 7; (with_reducible refine cW.mono ?_); rintro e w1 ⟨rfl, hb1⟩; clear cW; have hP1 := hPl.on hb1 hzW; have hz1 := Nat.lt_of_lt_of_le hzW hb1.size; have HB1 : Hid (Below w.heap.size w w1) := HB.out.trans (hb1.mono HB.out.size); clear hPl)
  | (with_reducible refine wp_plan hP1 (by with_unfolding_all rfl) ?_)
  | (go_at_call 8; have cN := HN.out w1 HB1.out; (with_reducible refine cN.mono ?_); rintro e w2 ⟨c, rfl, hA2, hb2⟩; clear cN; have HA2 : Hid (WAt w2 w1.heap.size c (noN p) ts (newW (noN p) ts N most sec)) := hA2; clear hA2; have HB2 : Hid (Below w.heap.size w w2 ∧ Below w1.heap.size w1 w2) := ⟨HB1.out.trans (hb2.mono HB1.out.size), hb2⟩; clear hb2))
 go_ret
 exact ⟨rfl, HB2.out.1.alloc HB2.out.1.size _⟩
set_option maxHeartbeats 16000000 in
theorem zt_yes (N : Nat) (hB : Lai.BdsAt w) (hi : PdI p) (hl : p.nm.length ≤ 9223372036854775807) (hT : TrsAt w ta ts) (hc : chkP p ts = 0) (hU : ∀ t ∈ ts, TrU t) (hn : 1 ≤ N ∧ N ≤ 20) (hs : -10000000000 ≤ sec ∧ sec ≤ 10000000000) (hm : m ≤ 60) (hH : Frm.RowsIn w ao m 3 X) :
  Calls Tryz.prog 3 #[planV p (.slice ta ts.length tc), .int .i64 (N : Int), .int .i64 most, .int .i64 sec, .slice ao m cap] w fun e w' => e = .returned (.bool true) ∧ Below w.heap.size w w' := by
 obtain ⟨W, hW⟩ : ∃ W, W = w.alloc (.cells (planC p (.slice ta ts.length tc)) 26) := ⟨_, rfl⟩
 have hPl : PlAt W w.heap.size p (.slice ta ts.length tc) := by rw [hW]; exact plan_new _ _ _ _
 have hbW : Below w.heap.size w W := by rw [hW]; exact (Below.refl _ _).alloc (Nat.le_refl _) _
 have hzW : w.heap.size < W.heap.size := by rw [hW]; simp
 have HW : Hid (W = w.alloc (.cells (planC p (.slice ta ts.length tc)) 26)) := hW
 have cW := said_any W (hB.below hbW (Nat.le_refl _))
 have HB : Hid (Below w.heap.size w W) := hbW
 have HN : Hid (∀ w', Below w.heap.size w w' → Calls Tryz.prog 8 #[planV p (.slice ta ts.length tc), .int .i64 (N : Int), .int .i64 most, .int .i64 sec] w' (NewWA p ts N most sec w')) := fun w' hb => new_yes p ta tc ts N most sec w' (hB.below hb (Nat.le_refl _)) hi hl (hT.below hb (Nat.le_refl _)) hc hn hs
 have hm' : ¬ (60 : Int) < (m : Int) := by omega
 have hP := ok_noN (plOk_of hc)
 have hI0 : WI ts (newW (noN p) ts N most sec) 0 0 := WI.new _ _ _ _ _ hn hs
 have hB0 : BI (noN p) (newW (noN p) ts N most sec) := BI.new _ _ hP _ _ _
 have hf0 : (newW (noN p) ts N most sec).fl = List.replicate ts.length false := rfl
 have hn0 : (newW (noN p) ts N most sec).now = 0 := rfl
 have HH : Hid (Frm.RowsIn w ao m 3 X ∧ TrsAt w ta ts) := ⟨hH, hT⟩
 have cPz : ∀ w', Below w.heap.size w w' → Calls Tryz.prog 9 #[.slice ao m cap] w' (PzA X m w') := fun w' hb => paused_any ao m cap X w' (Frm.RowsIn.below hH hb (Nat.le_refl _)) (by omega)
 clear hW hbW hB hi hl hT hc hH
 go_enter Tryz.func3, Tryz.ntmps3
 go_upto_region 1 with fail
 rw [← HW.out]
 clear HW
 go_upto_if 38 with (first
  | (go_at_call 7; (with_reducible refine cW.mono ?_); rintro e w1 ⟨rfl, hb1⟩; clear cW; have hP1 := hPl.on hb1 hzW; have hz1 := Nat.lt_of_lt_of_le hzW hb1.size; have HB1 : Hid (Below w.heap.size w w1) := HB.out.trans (hb1.mono HB.out.size); clear hPl)
  | (with_reducible refine wp_plan hP1 (by with_unfolding_all rfl) ?_)
  | (go_at_call 8; have cN := HN.out w1 HB1.out; (with_reducible refine cN.mono ?_); rintro e w2 ⟨c, rfl, hA2, hb2⟩; clear cN; have HA2 : Hid (WAt w2 w1.heap.size c (noN p) ts (newW (noN p) ts N most sec)) := hA2; clear hA2; have HB2 : Hid (Below w.heap.size w w2 ∧ Below w1.heap.size w1 w2) := ⟨HB1.out.trans (hb2.mono HB1.out.size), hb2⟩; clear hb2)
  | (go_at_call 9; (with_reducible refine (cPz _ (HB2.out.1.alloc HB2.out.1.size _)).mono ?_); rintro e w3 ⟨b, rfl, hb, hb3⟩; clear cPz; have HZ : Hid (PzB X m b) := hb; clear hb))
 have hcw : w3.cell? ⟨w2.heap.size, 0, none⟩ = some (.pointer (some ⟨c.x.D, 0, none⟩)) := (hb3.cell (p := ⟨w2.heap.size, 0, none⟩) (by simp)).trans (by simp)
 have hbal : Below w2.heap.size w2 w3 := ((Below.refl _ _).alloc (Nat.le_refl _) _).trans (hb3.mono (by simp))
 have HX3 : Hid (WAt w3 w1.heap.size c (noN p) ts (newW (noN p) ts N most sec) ∧ Below w.heap.size w w3 ∧ Below w1.heap.size w1 w3 ∧ ¬ bk c ts w2.heap.size) := ⟨HA2.out.below hbal, HB2.out.1.trans (hbal.mono HB2.out.1.size), HB2.out.2.trans (hbal.mono HB2.out.2.size), fun e => by have := (HA2.out.low e).2; omega⟩
 have HCl : Hid (w2.heap.size < w3.heap.size) := World.block_lt_of_cell? w3 _ hcw
 cases b with
 | true =>
  go_wp2
  ·go_ret
   exact ⟨rfl, HX3.out.2.1⟩
  ·rename _ ∧ _ => h9
   exact absurd h9.2 (by decide)
 | false =>
  have hno : ∀ i, i < m → X i 0 ≠ 13 := HZ.out rfl
  have HP1 : Hid (PlAt w1 w.heap.size p (.slice ta ts.length tc) ∧ TrsAt w1 ta ts ∧ Frm.RowsIn w1 ao m 3 X) := ⟨hP1, HH.out.2.below HB1.out (Nat.le_refl _), Frm.RowsIn.below HH.out.1 HB1.out (Nat.le_refl _)⟩
  have HL1 : Hid (w.heap.size ≤ w1.heap.size) := HB1.out.size
  have HZ0 : Hid (ZAt w1 (w3.alloc (.map #[] 0)) c (noN p) ts (newW (noN p) ts N most sec) w2.heap.size w3.heap.size 0 c.x.D (skF ts (newW (noN p) ts N most sec).fl)) := by
   have hbm : Below w3.heap.size w3 (w3.alloc (.map #[] 0)) := (Below.refl _ _).alloc (Nat.le_refl _) _
   exact ⟨HX3.out.1.below hbm, rfl, (hbm.cell (p := ⟨w2.heap.size, 0, none⟩) HCl.out).trans hcw, HX3.out.2.2.2, fun e => by have := (HX3.out.1.low e).2; omega, HX3.out.2.2.1.size, by have := HCl.out; omega, (Mp.MapB.new w3 ts.length).same (fun i => by rw [hf0]; exact skF_new ts ts.length i), HX3.out.2.2.1.trans (hbm.mono HX3.out.2.2.1.size)⟩
  have HB3 : Hid (Below w.heap.size w (w3.alloc (.map #[] 0))) := HX3.out.2.1.alloc HX3.out.2.1.size _
  clear HN HA2 hb1 hb3 hP1 HB1 HB2 HB HZ HX3 hcw hbal HCl HH hf0
  have hmm := @run_makeMap Tryz.prog
  generalize newW (noN p) ts N most sec = S0 at *
  generalize c.x.D = D at *
  go_wp2_with fail
  ·rename_i h9
   rcases h9 with h9 | h9
   ·omega
   ·cases h9
  clear hm' hmm
  (try simp only [Bool.or_false])
  generalize w2.heap.size = C at *
  generalize w3.heap.size = b at *
  go_loopw [42] (fun i wr => ZoR w w1 C b D (noN p) ts m i wr) (fun i _ => m - (intOf i).toNat)
  case atStart => exact ⟨0, 0, c, S0, by omega, rfl, HZ0.out, by omega, hI0, hB0, by omega, HB3.out⟩
  case round =>
   clear HZ0 HB3 hI0 hB0 hn0 c
   obtain ⟨j, n, c1, S, hj, rfl, hA, hnj, hI, hBi, hnw, hbr⟩ := hrel
   by_cases hlt : j < m
   ·have hlt' : (j : Int) < (m : Int) := by omega
    obtain ⟨g, off, rfl, hgl, hcx⟩ := (Frm.RowsIn.below HP1.out.2.2 hA.be (Nat.le_refl _)) j hlt
    have x0 := (hcx 0 (by omega)).1
    have x1 := (hcx 1 (by omega)).1
    have x2 := (hcx 2 (by omega)).1
    simp only [Nat.add_zero] at x0
    rw [← Nat.add_assoc] at x1 x2
    obtain ⟨V, hV⟩ : ∃ V, V = wr.alloc (.cells #[.int .i64 (X j 0), .int .i64 (X j 1), .int .i64 (X j 2)] 36) := ⟨_, rfl⟩
    have hbV : Below wr.heap.size wr V := by rw [hV]; exact (Below.refl _ _).alloc (Nat.le_refl _) _
    have y0 : V.cell? ⟨wr.heap.size, 0, none⟩ = some (.int .i64 (X j 0)) := by rw [hV]; simp
    have y1 : V.cell? ⟨wr.heap.size, 1, none⟩ = some (.int .i64 (X j 1)) := by rw [hV]; simp
    have y2 : V.cell? ⟨wr.heap.size, 2, none⟩ = some (.int .i64 (X j 2)) := by rw [hV]; simp
    have HV : Hid (V = wr.alloc (.cells #[.int .i64 (X j 0), .int .i64 (X j 1), .int .i64 (X j 2)] 36)) := hV
    have HX1 : Hid (ZAt w1 V c1 (noN p) ts S C b n D (skF ts S.fl) ∧ Below w.heap.size w V ∧ ¬ bk c1 ts wr.heap.size) := ⟨hA.below hbV, hbr.trans (hbV.mono hbr.size), fun e => by have := (hA.wa.low e).2; omega⟩
    have h13 := hno j hlt
    clear hbr hbV hV hcx hA
    go_upto_if 48 with fail
    rw [← HV.out]
    clear HV x0 x1 x2 hgl
    generalize wr.heap.size = Q at *
    generalize hx0 : X j 0 = k0 at *
    generalize hx1 : X j 1 = a0 at *
    generalize hx2 : X j 2 = n0 at *
    clear hx0 hx1 hx2 hno
    by_cases hk : k0 = 1
    ·subst hk
     obtain ⟨M, hM, hM40⟩ : ∃ M : Nat, min (max n0 0) 40 = (M : Int) ∧ M ≤ 40 := ⟨(min (max n0 0) 40).toNat, by omega, by omega⟩
     have hz := HX1.out.1
     have hbz := HX1.out.2.1
     clear HX1
     go_upto_region 12 with fail
     clear y0 y1 y2 hM
     go_loopw [53] (fun i wr => ZiR w w1 C b n D (noN p) ts j M i wr) (fun i _ => M - (intOf i).toNat)
     case atStart => exact ⟨0, c1, S, by omega, rfl, hz, hI, hBi, by omega, hbz⟩
     case round =>
      clear hz hbz hI hBi hnw c1 S
      obtain ⟨q, c2, S, hq, rfl, hA, hI, hBi, hnw, hbr⟩ := hrel
      by_cases hlq : q < M
      ·have hlq' : (q : Int) < (M : Int) := by omega
       have hnb : S.now + 1 ≤ 1099511627776 := by omega
       have hI1 := hI.tick1 hP hnb
       have hB1 := BI.tick1 hP hBi
       have hn1 : (tick1 (noN p) ts S).now = S.now + 1 := tick1_now S
       have hf1 : (tick1 (noN p) ts S).fl = S.fl := tick1_fl
       have hzero : 0 < S.tg → (tick1 (noN p) ts S).tg = 0 → S.R.any (busyR S.now) = false ∧ (List.range ts.length).countP (skF ts (tick1 (noN p) ts S).fl) = 0 ∧ p.mn ≤ 0 := fun h1 h2 => by
        obtain ⟨g1, g2, g3⟩ := tick_zero hP (hI.late hnb) hBi h1 h2
        refine ⟨?_, ?_, g3⟩
        ·rw [List.any_eq_false]
         intro r hr
         simp [g1 r hr]
        ·rw [hf1]
         exact skF_none g2 _
       have hlR : S.R.length ≤ 200 := hI.r.len
       have q0 := hA.cw
       have HZ : Hid (ZAt w1 wr c2 (noN p) ts S C b n D (skF ts S.fl) ∧ Below w.heap.size w wr) := ⟨hA, hbr⟩
       have hdd := hA.d
       have hmf : ∀ (fn : Fn) (first cap : Array Value) (w : World), (Instr.makeFunc fn first cap).run Tryz.prog w = .ok (.func fn first cap) w := fun _ _ _ _ => rfl
       have cTg := target_any w1.heap.size c2 (noN p) ts S wr hA.wa
       rw [hdd] at cTg
       have cRq := requests_any w1.heap.size c2 (noN p) ts S wr hA.wa hlR
       rw [hdd] at cRq
       have HC : Hid (∀ (G : Nat) (w5 : World), Below wr.heap.size wr w5 → Rec.RowAt Buf.rK w5 (some ⟨G, 0, none⟩) S.R → Calls Tryz.prog 11 #[.slice (some ⟨G, 0, none⟩) S.R.length S.R.length, .func (.func 13) #[] #[.pointer (some ⟨C, 0, none⟩)]] w5 fun e w' => e = .returned (.bool (S.R.any (busyR S.now))) ∧ Below w5.heap.size w5 w') := fun G w5 hb5 hR5 => czf_any w1.heap.size c2 (noN p) ts S C D G w5 (HZ.out.1.below hb5).wa hdd (HZ.out.1.below hb5).cw hI.nw hR5 hI.r
       clear hA hbr
       go_upto_region 15 with (first
        | (go_at_call 10; (with_reducible refine cTg.mono ?_); rintro e w' ⟨rfl, h9⟩; have h8 := h9.symm; clear h9; subst h8; clear cTg)
        | (go_at_call 12; (with_reducible refine cRq.mono ?_); rintro e w5 ⟨G, rfl, hG, hR5, hb5⟩; clear cRq)
        | (go_at_call 11; have cX := HC.out G w5 hb5 hR5; (with_reducible refine cX.mono ?_); rintro e w6 ⟨rfl, hb6⟩; clear cX))
       have HZ6 : Hid (ZAt w1 w6.drew c2 (noN p) ts S C b n D (skF ts S.fl) ∧ Below w.heap.size w w6.drew) := by
        have hbx := hb5.trans (hb6.mono hb5.size)
        exact ⟨(HZ.out.1.below hbx).below (Mm.bdrew w6), (HZ.out.2.trans (hbx.mono HZ.out.2.size)).drew⟩
       clear q0
       have q0 : w6.cell? ⟨C, 0, none⟩ = some (.pointer (some ⟨D, 0, none⟩)) := HZ6.out.1.cw
       have q0d : w6.drew.cell? ⟨C, 0, none⟩ = some (.pointer (some ⟨D, 0, none⟩)) := HZ6.out.1.cw
       have cT := tickf_any 1
       obtain ⟨S1, hS1⟩ : ∃ S1, S1 = tick1 (noN p) ts S := ⟨_, rfl⟩
       rw [← hS1] at hI1 hB1 hn1 hf1 hzero
       have cD : ∀ w7, Below w6.drew.heap.size w6.drew w7 → Calls Tryz.prog 15 #[.pointer (some ⟨D, 0, none⟩), .agg #[.int .i64 1, .int .i64 0, .int .i64 1]] w7 fun e w' => ∃ E, e = .returned (.int .i64 E) ∧ ∃ c', ZAt w1 w' c' (noN p) ts S1 C b n D (skF ts S1.fl) ∧ Below w.heap.size w w' := fun w7 hb7 => by
        have hA7 := HZ6.out.1.below hb7
        have hbx : Below w.heap.size w w7 := HZ6.out.2.trans (hb7.mono HZ6.out.2.size)
        have cX := do_any w1.heap.size c2 (noN p) ts S j (1000 * j + q) 1 0 1 w7 hA7.wa hI (by omega) (by omega) hP hU
        rw [hdd, do_tickZ _ _ _ hnb, ← hS1] at cX
        refine cX.mono ?_
        rintro e w8 ⟨rfl, c4, a4, d4, m4⟩
        exact ⟨_, rfl, c4, (hA7.moved a4 d4 m4).same (fun i => by rw [hf1]), hbx.trans (m4.below (fun k hk => Nat.le_trans HL1.out (hA7.wa.low hk).1) hbx.size)⟩
       clear HZ HC hb5 hb6 hR5 hG hS1 hmf
       refine Tk.st 3 [false, false, false] (S := (fun w' : World => w'.cell? ⟨C, 0, none⟩ = some (.pointer (some ⟨D, 0, none⟩)))) (by kernel_rfl) (by kernel_rfl) (q0) (fun hHeld => ?_)
       refine wpAnyH_take (i := 0) (oi := _) (v := ?_) rfl (by kernel_rfl) (by kernel_rfl) (by kernel_rfl) (fun _ _ _ h => h) (Or.inl ⟨by rfl, ?_⟩) (by assumption) ?_
       rotate_left
       ·intro w' hSw
        (try dsimp only at hSw)
        skip
        go_simp
        all_goals with_reducible rfl
       (try simp only [Act.put, ar, ag])
       refine wpAnyH_ready (rs := [1]) (by kernel_rfl) (by simp) ?_
       refine AllReadyH.cons rfl (fun K hK => ?_) AllReadyH.nil
       go_simp
       go_wp2_with ((go_at_call 16; (with_reducible refine (cT _).mono ?_); rintro e w7 ⟨rfl, hb7⟩))
       refine hK.out _ _ (hb7.cell (p := ⟨C, 0, none⟩) (World.block_lt_of_cell? _ _ q0d) ▸ q0d) (fun hHeld => ?_)
       clear hK K
       (try simp only [ar])
       refine wpAnyH_ready (rs := [2]) (by kernel_rfl) (by simp) ?_
       refine AllReadyH.cons rfl (fun K hK => ?_) AllReadyH.nil
       go_simp
       go_wp2_with ((go_at_call 15; (with_reducible refine (cD w7 hb7).mono ?_); rintro e w8 ⟨E9, rfl, c4, z4, b4⟩; have HX4 : Hid (ZAt w1 w8 c4 (noN p) ts S1 C b n D (skF ts S1.fl) ∧ Below w.heap.size w w8) := ⟨z4, b4⟩; clear z4 b4))
       refine hK.out _ _ (HX4.out.1.cw) (fun hHeld => ?_)
       clear hK K
       (try simp only [ar])
       refine wpAnyH_done (by kernel_rfl) ?_ _
       have HE : Hid (ZiR w w1 C b n D (noN p) ts j M (.int .i64 ((q + 1 : Nat) : Int)) w8) := ⟨q + 1, c4, S1, hlq, rfl, HX4.out.1, hI1, hB1, by omega, HX4.out.2⟩
       have p0 := HX4.out.1.cw
       have p1 := (HP1.out.1.on HX4.out.1.be hz1).c1
       have hlen := HX4.out.1.mp.len
       have cT2 := target_any w1.heap.size c4 (noN p) ts S1 w8 HX4.out.1.wa
       rw [HX4.out.1.d] at cT2
       clear q0 q0d cT cD HZ6 hI hBi hI1 hB1 hn1 hf1
       by_cases h1 : 0 < S.tg
       ·by_cases h2 : S1.tg = 0
        ·obtain ⟨g1, g2, g3⟩ := hzero h1 h2
         rw [h2] at cT2
         rw [g2] at hlen
         have g3' : ¬ 0 < p.mn := by omega
         clear hzero g2
         generalize hany : S.R.any (busyR S.now) = bb at *
         subst g1
         go_wp2_with (go_at_call 10; (with_reducible refine cT2.mono ?_); rintro e w' ⟨rfl, h9⟩; have h8 := h9.symm; clear h9; subst h8)
         go_roundw
         case rel =>
          repeat' first | exact HE.out | exact rfl | apply And.intro | apply Exists.intro
         case measure => simp [intOf]; omega
        ·have h2' : (S1.tg == 0) = false := by rw [beq_eq_false_iff_ne]; exact h2
         clear hzero hlen
         go_wp2_with (go_at_call 10; (with_reducible refine cT2.mono ?_); rintro e w' ⟨rfl, h9⟩; have h8 := h9.symm; clear h9; subst h8)
         go_roundw
         case rel =>
          repeat' first | exact HE.out | exact rfl | apply And.intro | apply Exists.intro
         case measure => simp [intOf]; omega
       ·clear hzero hlen
        go_wp2
        go_roundw
        case rel =>
         repeat' first | exact HE.out | exact rfl | apply And.intro | apply Exists.intro
        case measure => simp [intOf]; omega
      ·obtain rfl : q = M := by omega
       have HE : Hid (ZoR w w1 C b D (noN p) ts m (.int .i64 ((j + 1 : Nat) : Int)) wr) := ⟨j + 1, n, c2, S, hlt, rfl, hA, by omega, hI.mono (by omega) (by omega), hBi, by omega, hbr⟩
       clear hA hbr
       go_wp2
       go_roundw
       case rel => exact HE.out
       case measure => simp [intOf]; omega
    ·have hk' : (k0 == 1) = false := by rw [beq_eq_false_iff_ne]; exact hk
     have HQ : Hid (Q < V.heap.size) := World.block_lt_of_cell? V _ y0
     have z0 := HX1.out.1.cw
     have hlf := hI.fl
     have hlt5 : ts.length ≤ 1000000 := by have := hP.len; omega
     have hI1 := hI.do hP k0 a0 n0
     have hB1 := hBi.do hP k0 a0 n0 h13
     have hn1 := (do_now (noN p) ts S k0 a0 n0).1
     have hf7 := fail_fl (p := noN p) (ts := ts) (S := S) a0 n0
     have hfn := fun h => do_fl (p := noN p) (ts := ts) (S := S) k0 a0 n0 h
     have hok := fun h : doE S 7 a0 n0 = 0 => fail_ok h
     have cD := do_any w1.heap.size c1 (noN p) ts S j (1000 * j) k0 a0 n0 V HX1.out.1.wa hI (by omega) (by omega) hP hU
     rw [HX1.out.1.d] at cD
     obtain ⟨S1, hS1⟩ : ∃ S1, S1 = doW (noN p) ts S k0 a0 n0 := ⟨_, rfl⟩
     obtain ⟨E, hE⟩ : ∃ E, E = doE S k0 a0 n0 := ⟨_, rfl⟩
     rw [← hS1] at hI1 hB1 hn1 hfn cD
     rw [← hE] at cD
     have HN9 : Hid (WI ts S1 (j + 1) (1000 * (j + 1)) ∧ BI (noN p) S1 ∧ S1.now ≤ 1000 * ((j + 1 : Nat) : Int)) := ⟨hI1.mono (by omega) (by omega), hB1, by omega⟩
     have HZE : Hid (∀ wz c4 n', ZAt w1 wz c4 (noN p) ts S1 C b n' D (skF ts S1.fl) → n' ≤ j + 1 → Below w.heap.size w wz → ZoR w w1 C b D (noN p) ts m (.int .i64 ((j + 1 : Nat) : Int)) wz) := fun wz c4 n' hz hn' hb => ⟨j + 1, n', c4, S1, hlt, rfl, hz, hn', HN9.out.1, HN9.out.2.1, HN9.out.2.2, hb⟩
     clear hI hBi hI1 hB1 hn1 h13 hnw
     by_cases hall : E = 0 ∧ k0 = 7
     ·obtain ⟨hE0, rfl⟩ := hall
      rw [hE0] at hE
      obtain ⟨⟨ha0, ha1⟩, hn01⟩ := hok hE.symm
      obtain ⟨A, rfl⟩ : ∃ A : Nat, a0 = (A : Int) := ⟨a0.toNat, by omega⟩
      have hAt : A < ts.length := by omega
      have hAt' : (A : Int) < (ts.length : Int) := by omega
      rw [if_pos hE.symm, ← hS1, Int.toNat_natCast] at hf7
      obtain ⟨tt, htt⟩ : ∃ tt, ts[A]? = some tt := ⟨_, List.getElem?_eq_getElem hAt⟩
      obtain ⟨gt, ot, hta, hgt, hct⟩ := HP1.out.2.1 A tt htt
      subst hta
      have HT : Hid (∀ wz, Below w1.heap.size w1 wz → wz.cell? ⟨gt, ot + A * 17, none⟩ = some (.int .i64 tt.k)) := fun wz hb => (hb.cell (p := ⟨gt, ot + A * 17, none⟩) hgt).trans (by have := hct 0 (by omega); simp only [Nat.add_zero] at this; exact this)
      have HS1 : Hid (S1.fl = S.fl.set A (n0 == 1)) := hf7
      subst hE0
      clear hE hS1 hfn hok hf7 hct hgt
      by_cases h3 : tt.k = 3
      ·have HE1 : Hid (∀ i, skF ts S1.fl i = skF ts S.fl i) := fun i => by rw [HS1.out]; exact skF_span _ htt (by omega) h3 i
       have hk3 : (tt.k != 3) = false := by simp [h3]
       clear htt h3
       go_wp2_with ((go_at_call 15; (with_reducible refine cD.mono ?_); rintro e w4 ⟨rfl, c4, a4, d4, m4⟩; clear cD; have HX4 : Hid (ZAt w1 w4 c4 (noN p) ts S1 C b n D (skF ts S.fl) ∧ Below w.heap.size w w4) := ⟨HX1.out.1.moved a4 d4 m4, HX1.out.2.1.trans (m4.below (fun k hk => Nat.le_trans HL1.out (HX1.out.1.wa.low hk).1) HX1.out.2.1.size)⟩; have p0 := (World.cell?_of_block (w := V) (a := ⟨Q, 0, none⟩) (m4.block Q HQ.out HX1.out.2.2)).trans y0; have p1 := (World.cell?_of_block (w := V) (a := ⟨Q, 1, none⟩) (m4.block Q HQ.out HX1.out.2.2)).trans y1; have p2 := (World.cell?_of_block (w := V) (a := ⟨Q, 2, none⟩) (m4.block Q HQ.out HX1.out.2.2)).trans y2; have pT := HT.out w4 HX4.out.1.be; have p17 := (HP1.out.1.on HX4.out.1.be hz1).c17; clear y0 y1 y2 a4 d4 m4))
       have HE := HZE.out w4 c4 n (HX4.out.1.same HE1.out) (by omega) HX4.out.2
       go_roundw
       case rel => exact HE
       case measure => simp [intOf]; omega
      ·have hk3 : (tt.k != 3) = true := by simp [h3]
       have HE1 : Hid (∀ i, skF ts S1.fl i = Mp.setK (skF ts S.fl) A (n0 == 1) i) := fun i => by rw [HS1.out]; exact skF_set _ htt (by omega) h3 i
       clear htt h3
       go_upto_if 103 with ((go_at_call 15; (with_reducible refine cD.mono ?_); rintro e w4 ⟨rfl, c4, a4, d4, m4⟩; clear cD; have HX4 : Hid (ZAt w1 w4 c4 (noN p) ts S1 C b n D (skF ts S.fl) ∧ Below w.heap.size w w4) := ⟨HX1.out.1.moved a4 d4 m4, HX1.out.2.1.trans (m4.below (fun k hk => Nat.le_trans HL1.out (HX1.out.1.wa.low hk).1) HX1.out.2.1.size)⟩; have p0 := (World.cell?_of_block (w := V) (a := ⟨Q, 0, none⟩) (m4.block Q HQ.out HX1.out.2.2)).trans y0; have p1 := (World.cell?_of_block (w := V) (a := ⟨Q, 1, none⟩) (m4.block Q HQ.out HX1.out.2.2)).trans y1; have p2 := (World.cell?_of_block (w := V) (a := ⟨Q, 2, none⟩) (m4.block Q HQ.out HX1.out.2.2)).trans y2; have pT := HT.out w4 HX4.out.1.be; have p17 := (HP1.out.1.on HX4.out.1.be hz1).c17; clear y0 y1 y2 a4 d4 m4))
       rcases hn01 with rfl | rfl
       ·obtain ⟨w5, hdl, hm5, hg5⟩ := HX4.out.1.mp.del hAt hlt5 0
        have HE : Hid (ZoR w w1 C b D (noN p) ts m (.int .i64 ((j + 1 : Nat) : Int)) w5) := HZE.out w5 c4 n ((HX4.out.1.grown hm5 hg5).same HE1.out) (by omega) (HX4.out.2.grown hg5 HX4.out.2.size (fun q hq => by cases hq; have := HX4.out.1.lb; have := HL1.out; omega))
        clear hm5 hg5
        go_wp2
        go_roundw
        case rel => exact HE.out
        case measure => simp [intOf]; omega
       ·obtain ⟨w5, hup, hm5, hg5⟩ := HX4.out.1.mp.put (by unfold maxLen; omega) hAt hlt5
        have HE : Hid (ZoR w w1 C b D (noN p) ts m (.int .i64 ((j + 1 : Nat) : Int)) w5) := HZE.out w5 c4 (n + 1) ((HX4.out.1.grown hm5 hg5).same HE1.out) (by omega) (HX4.out.2.grown hg5 HX4.out.2.size (fun q hq => by cases hq; have := HX4.out.1.lb; have := HL1.out; omega))
        clear hm5 hg5
        go_wp2
        go_roundw
        case rel => exact HE.out
        case measure => simp [intOf]; omega
     ·have HS1 : Hid (S1.fl = S.fl) := by
       show S1.fl = S.fl
       by_cases h7 : k0 = 7
       ·subst h7
        rw [hS1, hf7, if_neg (by rw [← hE]; exact fun h => hall ⟨h, rfl⟩)]
       ·exact hfn h7
      clear hS1 hfn hok hf7 hE
      by_cases hE0 : E = 0
      ·have h7' : (k0 == 7) = false := by rw [beq_eq_false_iff_ne]; exact fun h => hall ⟨hE0, h⟩
       subst hE0
       clear hall
       go_wp2_with ((go_at_call 15; (with_reducible refine cD.mono ?_); rintro e w4 ⟨rfl, c4, a4, d4, m4⟩; clear cD; have HX4 : Hid (ZAt w1 w4 c4 (noN p) ts S1 C b n D (skF ts S.fl) ∧ Below w.heap.size w w4) := ⟨HX1.out.1.moved a4 d4 m4, HX1.out.2.1.trans (m4.below (fun k hk => Nat.le_trans HL1.out (HX1.out.1.wa.low hk).1) HX1.out.2.1.size)⟩; have p0 := (World.cell?_of_block (w := V) (a := ⟨Q, 0, none⟩) (m4.block Q HQ.out HX1.out.2.2)).trans y0; have p1 := (World.cell?_of_block (w := V) (a := ⟨Q, 1, none⟩) (m4.block Q HQ.out HX1.out.2.2)).trans y1; have p2 := (World.cell?_of_block (w := V) (a := ⟨Q, 2, none⟩) (m4.block Q HQ.out HX1.out.2.2)).trans y2; have p17 := (HP1.out.1.on HX4.out.1.be hz1).c17; clear y0 y1 y2 a4 d4 m4))
       have HE := HZE.out w4 c4 n (HX4.out.1.same (fun i => by rw [HS1.out])) (by omega) HX4.out.2
       go_roundw
       case rel => exact HE
       case measure => simp [intOf]; omega
      ·have hE0' : (E == 0) = false := by rw [beq_eq_false_iff_ne]; exact hE0
       clear hall
       go_wp2_with ((go_at_call 15; (with_reducible refine cD.mono ?_); rintro e w4 ⟨rfl, c4, a4, d4, m4⟩; clear cD; have HX4 : Hid (ZAt w1 w4 c4 (noN p) ts S1 C b n D (skF ts S.fl) ∧ Below w.heap.size w w4) := ⟨HX1.out.1.moved a4 d4 m4, HX1.out.2.1.trans (m4.below (fun k hk => Nat.le_trans HL1.out (HX1.out.1.wa.low hk).1) HX1.out.2.1.size)⟩; have p0 := (World.cell?_of_block (w := V) (a := ⟨Q, 0, none⟩) (m4.block Q HQ.out HX1.out.2.2)).trans y0; have p1 := (World.cell?_of_block (w := V) (a := ⟨Q, 1, none⟩) (m4.block Q HQ.out HX1.out.2.2)).trans y1; have p2 := (World.cell?_of_block (w := V) (a := ⟨Q, 2, none⟩) (m4.block Q HQ.out HX1.out.2.2)).trans y2; have p17 := (HP1.out.1.on HX4.out.1.be hz1).c17; clear y0 y1 y2 a4 d4 m4))
       have HE := HZE.out w4 c4 n (HX4.out.1.same (fun i => by rw [HS1.out])) (by omega) HX4.out.2
       go_roundw
       case rel => exact HE
       case measure => simp [intOf]; omega
   ·obtain rfl : j = m := by omega
    go_wp2
    go_ret
    exact ⟨rfl, hbr⟩
end
theorem topZero_any (p : Pd) (ta : Option Addr) (tc : Nat) (ts : List Tr) (parts most sec : Int) (ao : Option Addr) (m cap : Nat) (X : Nat → Nat → Int) (w : World) (hB : Lai.BdsAt w) (hi : PdI p) (hl : p.nm.length ≤ 9223372036854775807) (hT : TrsAt w ta ts) (hU : ∀ t ∈ ts, TrU t) (hH : Frm.RowsIn w ao m 3 X) :
  Calls Tryz.prog 3 #[planV p (.slice ta ts.length tc), .int .i64 parts, .int .i64 most, .int .i64 sec, .slice ao m cap] w fun e w' => e = .returned (.bool true) ∧ Below w.heap.size w w' := by
 by_cases hc : newE p ts parts sec = 0
 ·obtain ⟨h1, h2, h3⟩ := newE_ok hc
  obtain ⟨N, rfl⟩ : ∃ N : Nat, parts = (N : Int) := ⟨parts.toNat, by omega⟩
  by_cases hm : m ≤ 60
  ·exact zt_yes p ta tc ts most sec ao m cap X w N hB hi hl hT h1 hU (by omega) h3 hm hH
  ·exact zt_many p ta tc ts most sec ao m cap w N hB hi hl hT h1 (by omega) h3 (by omega)
 ·exact zt_no p ta tc ts parts most sec ao m cap w hB hi hl hT hc
end Wld
end Go.Proofs.YtkmdndhjobckiajGreatDoor
