/- What a block takes of a plan; what plainPlan and depth answer. A row that is written over: tidekeep.spoil. Nothing but its block turns. -/
import Derived.Test.YtohbnchfjphaeaaGreatDoorPsLopNew
import Derived.Test.YtohbnchfjphaeaaGreatDoorPsPlanMem
import Derived.Deep.MidRow
import Derived.BigQuiet
namespace Go.Proofs.YtohbnchfjphaeaaGreatDoor
namespace Lop
open Go.RowKit Rw Rec Plain Pln Frm Lpp Crn
set_option maxRecDepth 8000

theorem PX.again {w : World} {R : Nat} {p p' : Pd} {v v' : Value} (h : PX w R p v) : PX (w.setCells R 0 (planC p' v').toList) R p' v' := by
 have o := OnlyQ.sets R (planC p' v').toList w 0
 refine ⟨Nat.lt_of_lt_of_le h.lt o.size, ?_, fun j => (o.fz j).trans (h.fz j)⟩
 have e : setRow (planC p v) 0 (planC p' v').toList = planC p' v' := by simp [setRow]
 have := cells_sets (planC p' v').toList 0 h.cel (by simp)
 rw [e] at this
 exact this
theorem wp_setPx {ops : Array Oper} {rest : List Oper} {x y : Operand} {ps : String} {af : Array Edge} {A : Act} {Q : Exit → Act → World → Prop} {w : World} {R : Nat} {p p' : Pd} {v v' : Value} (h : PX w R p v) (hv : v'.oneCell' = true) (hx : A.eval x = .pointer (some ⟨R, 0, none⟩)) (hy : A.eval y = planV p' v')
  (g : ∀ w', PX w' R p' v' → OnlyQ R w w' → wpList Tryz.prog ops Q rest (A.put none undef) w') :
  wpList Tryz.prog ops Q ({ dst := none, op := .store 26 x y, type := 0, pos := ps, after := af, guard := none } :: rest) A w :=
 wpList_store_mid rfl 26 x y rfl R 0 (planC p' v') hx hy (fun j hj => ⟨by rw [h.cel]; simp at hj ⊢; omega, h.fz _⟩) (by kernel_rfl) (by simp [Value.oneCell']; exact hv) (g _ h.again (OnlyQ.sets R _ _ _))
def pz : Pd := ⟨[], 0, 0, 0, 0, 0, 0, 0, 0, 0, 0, 0, 0, 0, 0, 0, 0⟩
theorem px_new (w : World) (ta : TypeId) : PX (w.alloc (.cells #[.string ⟨#[]⟩, .int .i64 0, .int .i64 0, .int .i64 0, .int .i64 0, .int .i64 0, .int .i64 0, .int .i64 0, .int .i64 0, .int .i64 0, .int .i64 0, .int .i64 0, .int .i64 0, .int .i64 0, .int .i64 0, .int .i64 0, .int .i64 0, .slice none 0 0] ta)) w.heap.size pz (.slice none 0 0) := ⟨by simp, fun o => by simp [planC, pz], fun o => by simp⟩
theorem wp_newPx {ops : Array Oper} {rest : List Oper} {x y : Operand} {ps : String} {af : Array Edge} {A : Act} {Q : Exit → Act → World → Prop} {w : World} {p' : Pd} {v' : Value} (hv : v'.oneCell' = true) (hx : A.eval x = .pointer (some ⟨w.heap.size, 0, none⟩)) (hy : A.eval y = planV p' v')
  (g : ∀ w', PX w' w.heap.size p' v' → Below w.heap.size w w' → wpList Tryz.prog ops Q rest (A.put none undef) w') :
  wpList Tryz.prog ops Q ({ dst := none, op := .store 26 x y, type := 0, pos := ps, after := af, guard := none } :: rest) A (w.alloc (.cells #[.string ⟨#[]⟩, .int .i64 0, .int .i64 0, .int .i64 0, .int .i64 0, .int .i64 0, .int .i64 0, .int .i64 0, .int .i64 0, .int .i64 0, .int .i64 0, .int .i64 0, .int .i64 0, .int .i64 0, .int .i64 0, .int .i64 0, .int .i64 0, .slice none 0 0] 26)) :=
 wp_setPx (px_new w 26) hv hx hy fun w' h1 h2 => g w' h1 (((Below.refl _ _).alloc (Nat.le_refl _) _).trans (h2.below (Nat.le_refl _) (by simp)))
theorem finPx {fn : Func} {q : Tmp} {Q : Ending → World → Prop} (hres : fn.results = #[.cell q 26]) {ex : Exit} (hex : ex = .ret ∨ ex = .normal) {a : Act} {Wf : World} {C : Nat} {p : Pd} {v : Value} (hp : a.tmps[q]? = some (.pointer (some ⟨C, 0, none⟩))) (ha : a.defers = [])
  (h : PX Wf C p v) (hQ : Q (.returned (planV p v)) Wf) : bodyPost Tryz.prog fn Q ex a Wf := by
 have hl := run_loadVar_mid (P := Tryz.prog) Wf C 0 26 _ _ (range_plan h.plat) Tryz.underlying26 rfl (by kernel_rfl)
 have hr : (results fn a.tmps).run Tryz.prog Wf = .ok (planV p v) Wf := by
  simp only [results, hres]
  simp [hp, asAddr, hl]
 rcases hex with rfl | rfl
 ·exact bodyPost_ret hr ha hQ
 ·exact bodyPost_end hr ha hQ
def k0 : K := ⟨0, 0, 0, 0, 0, false, false⟩
def t0 : Tr := ⟨2, 10, 0, k0, k0⟩
def p0 : Pd := ⟨[112], 0, 9, 2, 6, 0, 0, 0, 0, 0, 0, 0, 0, 0, 0, 0, 0⟩
theorem trs_one {w : World} {b : Nat} {t : Tr} (hb : b < w.heap.size) (h : ∀ j, w.cell? ⟨b, j, none⟩ = (trC t)[j]?) : TrsAt w (some ⟨b, 0, none⟩) [t] := by
 intro i t' hi
 cases i with
 | zero => simp at hi; subst hi; exact ⟨b, 0, rfl, hb, fun j _ => by rw [show 0 + (0 * 17 + j) = j by omega]; exact h j⟩
 | succ i => simp at hi
set_option maxHeartbeats 4000000 in
theorem plpl_any (w : World) : Calls Tryz.prog 47 #[] w fun e w' => ∃ b, e = .returned (planV p0 (.slice (some ⟨b, 0, none⟩) 1 1)) ∧ TrsAt w' (some ⟨b, 0, none⟩) [t0] ∧ w.heap.size ≤ b ∧ Below w.heap.size w w' := by
 have hX := px_new w 26
 have hb2 : ∀ o : Obj, Below (w.alloc (.cells #[.string ⟨#[]⟩, .int .i64 0, .int .i64 0, .int .i64 0, .int .i64 0, .int .i64 0, .int .i64 0, .int .i64 0, .int .i64 0, .int .i64 0, .int .i64 0, .int .i64 0, .int .i64 0, .int .i64 0, .int .i64 0, .int .i64 0, .int .i64 0, .slice none 0 0] 26)).heap.size (w.alloc (.cells #[.string ⟨#[]⟩, .int .i64 0, .int .i64 0, .int .i64 0, .int .i64 0, .int .i64 0, .int .i64 0, .int .i64 0, .int .i64 0, .int .i64 0, .int .i64 0, .int .i64 0, .int .i64 0, .int .i64 0, .int .i64 0, .int .i64 0, .int .i64 0, .slice none 0 0] 26)) ((w.alloc (.cells #[.string ⟨#[]⟩, .int .i64 0, .int .i64 0, .int .i64 0, .int .i64 0, .int .i64 0, .int .i64 0, .int .i64 0, .int .i64 0, .int .i64 0, .int .i64 0, .int .i64 0, .int .i64 0, .int .i64 0, .int .i64 0, .int .i64 0, .int .i64 0, .slice none 0 0] 26)).alloc o) := fun o => (Below.refl _ _).alloc (Nat.le_refl _) o
 have hX2 := fun o => hX.below (hb2 o) (by simp)
 go_enter Tryz.func47, Tryz.ntmps47
 go_wp2_with (with_reducible refine wp_setPx (hX2 _) (p' := p0) (v' := .slice (some ⟨w.heap.size + 1, 0, none⟩) 1 1) rfl (by with_unfolding_all rfl) (by with_unfolding_all rfl) ?_; intro w9 hX9 ho9)
 refine finPx Tryz.results47 (Or.inl rfl) rfl rfl hX9 ⟨w.heap.size + 1, rfl, ?_, Nat.le_succ _, ?_⟩
 ·refine trs_one (Nat.lt_of_lt_of_le (by simp) ho9.size) (fun j => ?_)
  rw [ho9.cell (a := ⟨w.heap.size + 1, j, none⟩) (by simp) (by simp)]
  simp
  rfl
 ·exact (((Below.refl _ _).alloc (Nat.le_refl _) _).alloc (by simp) _).trans (ho9.below (Nat.le_refl _) (by simp; omega))
theorem ints_one {w : World} {c : Nat} {z : Int} (h : w.cell? ⟨c, 0, none⟩ = some (.int .i64 z)) (h1 : -9223372036854775808 ≤ z) (h2 : z ≤ 9223372036854775807) : Ned.IntsAt w (some ⟨c, 0, none⟩) 1 (fun _ => z) := by
 intro i hi
 have : i = 0 := by omega
 subst this
 exact ⟨c, 0, rfl, World.block_lt_of_cell? w _ h, h, h1, h2⟩
structure One (w : World) (b c : Nat) (f : Bool) (n : Nat) (z : Int) : Prop where
 r0 : w.cell? ⟨b, 0, none⟩ = some (.bool f)
 r1 : w.cell? ⟨b, 1, none⟩ = some (if n = 0 then .slice none 0 0 else .slice (some ⟨c, 0, none⟩) 1 1)
 r2 : n ≠ 0 → w.cell? ⟨c, 0, none⟩ = some (.int .i64 z)
 n1 : n ≤ 1
theorem One.rds {w : World} {b c : Nat} {f : Bool} {n : Nat} {z : Int} (h : One w b c f n z) (h1 : -9223372036854775808 ≤ z) (h2 : z ≤ 9223372036854775807) : RdsAt w (some ⟨b, 0, none⟩) [⟨f, n, fun _ => z⟩] := by
 intro i r hi
 cases i with
 | succ i => simp at hi
 | zero =>
  simp at hi
  subst hi
  have hn := h.n1
  by_cases h0 : n = 0
  ·subst h0
   exact ⟨b, 0, none, 0, rfl, World.block_lt_of_cell? w _ h.r0, h.r0, h.r1, by simp, fun i hi => by simp at hi⟩
  ·have e : n = 1 := by omega
   subst e
   exact ⟨b, 0, some ⟨c, 0, none⟩, 1, rfl, World.block_lt_of_cell? w _ h.r0, h.r0, h.r1, by simp [maxLen], ints_one (h.r2 h0) h1 h2⟩
theorem One.mv {w w' : World} {b c : Nat} {f : Bool} {n : Nat} {z : Int} {B B' : Nat → Prop} (h : One w b c f n z) (m : Mv B B' w w') (hb : ¬ B b) (hc : ¬ B c) : One w' b c f n z :=
 ⟨mv_cell m h.r0 hb, mv_cell m h.r1 hb, fun e => mv_cell m (h.r2 e) hc, h.n1⟩
end Lop
namespace Wld
open Go.RowKit Pln
set_option maxRecDepth 8000

structure Wri (w : World) (G n : Nat) : Prop where
 lt : G < w.heap.size
 c : ∀ o, o < n → (w.cell? ⟨G, o, none⟩).isSome = true
 f : ∀ o, w.frozen? ⟨G, o, none⟩ = false
theorem Wri.set {w : World} {G n : Nat} (h : Wri w G n) (o : Nat) (u : Value) : Wri (w.setCell ⟨G, o, none⟩ u) G n := by
 refine ⟨by simpa using h.lt, fun j hj => ?_, fun j => by rw [World.frozen?_setCell]; exact h.f j⟩
 by_cases e : o = j
 ·subst e
  obtain ⟨x, hx⟩ := Option.isSome_iff_exists.1 (h.c o hj)
  rw [World.cell?_setCell_same _ _ _ hx]
  rfl
 ·rw [World.cell?_setCell_other (h := fun e2 => e (congrArg Addr.off e2))]
  exact h.c j hj
theorem Wri.sets {G n : Nat} : ∀ (cs : List Value) {w : World} (o : Nat), Wri w G n → Wri (w.setCells G o cs) G n
 | [], _, _, h => h
 | u :: r, _, o, h => Wri.sets r (o + 1) (h.set o u)
theorem Wri.there {w : World} {G n : Nat} (h : Wri w G n) {o k : Nat} (ho : o + k ≤ n) : w.there G o k := fun j hj => ⟨h.c (o + j) (by omega), h.f (o + j)⟩
theorem Wri.below {w w' : World} {G n : Nat} (h : Wri w G n) (hb : Below w.heap.size w w') : Wri w' G n :=
 ⟨Nat.lt_of_lt_of_le h.lt hb.size, fun o ho => by rw [World.cell?_of_block (w := w) (a := ⟨G, o, none⟩) (hb.block G h.lt)]; exact h.c o ho, fun o => by rw [World.frozen?_of_block (w := w) (a := ⟨G, o, none⟩) (hb.block G h.lt)]; exact h.f o⟩
def SpR (G n k : Nat) (w : World) (i : Value) (wr : World) : Prop := ∃ j : Nat, j ≤ n ∧ i = .int .i64 j ∧ Wri wr G (n * k) ∧ OnlyQ G w wr
set_option maxHeartbeats 4000000 in
theorem spoilPod (G m n : Nat) (a0 a1 a2 : Int) (w : World) (hW : Wri w G (n * 3)) (hn : n ≤ 1000000000) :
  Calls Tryz.prog 9 #[.slice (some ⟨G, 0, none⟩) m n, .agg #[.int .i64 a0, .int .i64 a1, .int .i64 a2]] w fun e w' => e = .returned (.tuple #[]) ∧ OnlyQ G w w' := by
 obtain ⟨W, hX⟩ : ∃ W, W = w.alloc (.cells #[.int .i64 a0, .int .i64 a1, .int .i64 a2] 47) := ⟨_, rfl⟩
 have hbW : Below w.heap.size w W := by rw [hX]; exact (Below.refl _ _).alloc (Nat.le_refl _) _
 have hl := hW.lt
 have z0 : W.cell? ⟨w.heap.size, 0, none⟩ = some (.int .i64 a0) := by rw [hX]; simp
 have z1 : W.cell? ⟨w.heap.size, 1, none⟩ = some (.int .i64 a1) := by rw [hX]; simp
 have z2 : W.cell? ⟨w.heap.size, 2, none⟩ = some (.int .i64 a2) := by rw [hX]; simp
 have hWW := hW.below hbW
 have hzW : w.heap.size < W.heap.size := World.block_lt_of_cell? W _ z0
 have HX : Hid (W = w.alloc (.cells #[.int .i64 a0, .int .i64 a1, .int .i64 a2] 47)) := hX
 clear hX hW
 go_enter Tryz.func9, Tryz.ntmps9
 go_upto_region 1 with fail
 rw [← HX.out]
 clear HX
 go_wp2_with fail
 go_loopw [11] (fun i wr => SpR G n 3 W i wr) (fun i _ => n - (intOf i).toNat)
 case atStart => exact ⟨0, by omega, rfl, hWW, OnlyQ.refl _ _⟩
 case round =>
  obtain ⟨j, hj, rfl, hr, ho⟩ := hrel
  by_cases hlt : j < n
  ·have hlt' : (j : Int) < (n : Int) := by omega
   have y0 := (ho.cell (a := ⟨w.heap.size, 0, none⟩) hzW (by simp only; omega)).trans z0
   have y1 := (ho.cell (a := ⟨w.heap.size, 1, none⟩) hzW (by simp only; omega)).trans z1
   have y2 := (ho.cell (a := ⟨w.heap.size, 2, none⟩) hzW (by simp only; omega)).trans z2
   have hbo : j * 3 + (#[.int .i64 a0, .int .i64 a1, .int .i64 a2] : Array Value).size ≤ n * 3 := by have : (j + 1) * 3 ≤ n * 3 := Nat.mul_le_mul_right _ hlt; simp; omega
   simp only [List.size_toArray, List.length_cons, List.length_nil] at hbo
   obtain ⟨v0, c0⟩ := Option.isSome_iff_exists.1 (hr.c (j * 3) (by omega))
   have f0 := hr.f (j * 3)
   obtain ⟨v1, c1⟩ := Option.isSome_iff_exists.1 (hr.c (j * 3 + 1) (by omega))
   have f1 := hr.f (j * 3 + 1)
   obtain ⟨v2, c2⟩ := Option.isSome_iff_exists.1 (hr.c (j * 3 + 2) (by omega))
   have f2 := hr.f (j * 3 + 2)
   have HE : Hid (SpR G n 3 W (.int .i64 ((j + 1 : Nat) : Int)) (wr.setCells G (j * 3) (#[.int .i64 a0, .int .i64 a1, .int .i64 a2] : Array Value).toList)) := ⟨j + 1, hlt, rfl, hr.sets _ _, ho.trans (OnlyQ.sets G _ _ _)⟩
   clear hr ho
   clear hbo
   go_wp2
   go_roundw
   case rel => exact HE.out
   case measure => simp [intOf]; omega
  ·obtain rfl : j = n := by omega
   go_wp2
   refine bodyPost_end (results_none rfl _ _ _) rfl ⟨rfl, (OnlyQ.of_below hbW hl).trans ho⟩
set_option maxHeartbeats 4000000 in
theorem spoilRequest (G m n : Nat) (a0 a1 a2 a3 a4 : Int) (w : World) (hW : Wri w G (n * 5)) (hn : n ≤ 1000000000) :
  Calls Tryz.prog 11 #[.slice (some ⟨G, 0, none⟩) m n, .agg #[.int .i64 a0, .int .i64 a1, .int .i64 a2, .int .i64 a3, .int .i64 a4]] w fun e w' => e = .returned (.tuple #[]) ∧ OnlyQ G w w' := by
 obtain ⟨W, hX⟩ : ∃ W, W = w.alloc (.cells #[.int .i64 a0, .int .i64 a1, .int .i64 a2, .int .i64 a3, .int .i64 a4] 52) := ⟨_, rfl⟩
 have hbW : Below w.heap.size w W := by rw [hX]; exact (Below.refl _ _).alloc (Nat.le_refl _) _
 have hl := hW.lt
 have z0 : W.cell? ⟨w.heap.size, 0, none⟩ = some (.int .i64 a0) := by rw [hX]; simp
 have z1 : W.cell? ⟨w.heap.size, 1, none⟩ = some (.int .i64 a1) := by rw [hX]; simp
 have z2 : W.cell? ⟨w.heap.size, 2, none⟩ = some (.int .i64 a2) := by rw [hX]; simp
 have z3 : W.cell? ⟨w.heap.size, 3, none⟩ = some (.int .i64 a3) := by rw [hX]; simp
 have z4 : W.cell? ⟨w.heap.size, 4, none⟩ = some (.int .i64 a4) := by rw [hX]; simp
 have hWW := hW.below hbW
 have hzW : w.heap.size < W.heap.size := World.block_lt_of_cell? W _ z0
 have HX : Hid (W = w.alloc (.cells #[.int .i64 a0, .int .i64 a1, .int .i64 a2, .int .i64 a3, .int .i64 a4] 52)) := hX
 clear hX hW
 go_enter Tryz.func11, Tryz.ntmps11
 go_upto_region 1 with fail
 rw [← HX.out]
 clear HX
 go_wp2_with fail
 go_loopw [11] (fun i wr => SpR G n 5 W i wr) (fun i _ => n - (intOf i).toNat)
 case atStart => exact ⟨0, by omega, rfl, hWW, OnlyQ.refl _ _⟩
 case round =>
  obtain ⟨j, hj, rfl, hr, ho⟩ := hrel
  by_cases hlt : j < n
  ·have hlt' : (j : Int) < (n : Int) := by omega
   have y0 := (ho.cell (a := ⟨w.heap.size, 0, none⟩) hzW (by simp only; omega)).trans z0
   have y1 := (ho.cell (a := ⟨w.heap.size, 1, none⟩) hzW (by simp only; omega)).trans z1
   have y2 := (ho.cell (a := ⟨w.heap.size, 2, none⟩) hzW (by simp only; omega)).trans z2
   have y3 := (ho.cell (a := ⟨w.heap.size, 3, none⟩) hzW (by simp only; omega)).trans z3
   have y4 := (ho.cell (a := ⟨w.heap.size, 4, none⟩) hzW (by simp only; omega)).trans z4
   have hbo : j * 5 + (#[.int .i64 a0, .int .i64 a1, .int .i64 a2, .int .i64 a3, .int .i64 a4] : Array Value).size ≤ n * 5 := by have : (j + 1) * 5 ≤ n * 5 := Nat.mul_le_mul_right _ hlt; simp; omega
   simp only [List.size_toArray, List.length_cons, List.length_nil] at hbo
   obtain ⟨v0, c0⟩ := Option.isSome_iff_exists.1 (hr.c (j * 5) (by omega))
   have f0 := hr.f (j * 5)
   obtain ⟨v1, c1⟩ := Option.isSome_iff_exists.1 (hr.c (j * 5 + 1) (by omega))
   have f1 := hr.f (j * 5 + 1)
   obtain ⟨v2, c2⟩ := Option.isSome_iff_exists.1 (hr.c (j * 5 + 2) (by omega))
   have f2 := hr.f (j * 5 + 2)
   obtain ⟨v3, c3⟩ := Option.isSome_iff_exists.1 (hr.c (j * 5 + 3) (by omega))
   have f3 := hr.f (j * 5 + 3)
   obtain ⟨v4, c4⟩ := Option.isSome_iff_exists.1 (hr.c (j * 5 + 4) (by omega))
   have f4 := hr.f (j * 5 + 4)
   have HE : Hid (SpR G n 5 W (.int .i64 ((j + 1 : Nat) : Int)) (wr.setCells G (j * 5) (#[.int .i64 a0, .int .i64 a1, .int .i64 a2, .int .i64 a3, .int .i64 a4] : Array Value).toList)) := ⟨j + 1, hlt, rfl, hr.sets _ _, ho.trans (OnlyQ.sets G _ _ _)⟩
   clear hr ho
   clear hbo
   go_wp2
   go_roundw
   case rel => exact HE.out
   case measure => simp [intOf]; omega
  ·obtain rfl : j = n := by omega
   go_wp2
   refine bodyPost_end (results_none rfl _ _ _) rfl ⟨rfl, (OnlyQ.of_below hbW hl).trans ho⟩
set_option maxHeartbeats 4000000 in
theorem spoilMessage (G m n : Nat) (a0 a1 : Int) (a2 : Bool) (w : World) (hW : Wri w G (n * 3)) (hn : n ≤ 1000000000) :
  Calls Tryz.prog 15 #[.slice (some ⟨G, 0, none⟩) m n, .agg #[.int .i64 a0, .int .i64 a1, .bool a2]] w fun e w' => e = .returned (.tuple #[]) ∧ OnlyQ G w w' := by
 obtain ⟨W, hX⟩ : ∃ W, W = w.alloc (.cells #[.int .i64 a0, .int .i64 a1, .bool a2] 60) := ⟨_, rfl⟩
 have hbW : Below w.heap.size w W := by rw [hX]; exact (Below.refl _ _).alloc (Nat.le_refl _) _
 have hl := hW.lt
 have z0 : W.cell? ⟨w.heap.size, 0, none⟩ = some (.int .i64 a0) := by rw [hX]; simp
 have z1 : W.cell? ⟨w.heap.size, 1, none⟩ = some (.int .i64 a1) := by rw [hX]; simp
 have z2 : W.cell? ⟨w.heap.size, 2, none⟩ = some (.bool a2) := by rw [hX]; simp
 have hWW := hW.below hbW
 have hzW : w.heap.size < W.heap.size := World.block_lt_of_cell? W _ z0
 have HX : Hid (W = w.alloc (.cells #[.int .i64 a0, .int .i64 a1, .bool a2] 60)) := hX
 clear hX hW
 go_enter Tryz.func15, Tryz.ntmps15
 go_upto_region 1 with fail
 rw [← HX.out]
 clear HX
 go_wp2_with fail
 go_loopw [11] (fun i wr => SpR G n 3 W i wr) (fun i _ => n - (intOf i).toNat)
 case atStart => exact ⟨0, by omega, rfl, hWW, OnlyQ.refl _ _⟩
 case round =>
  obtain ⟨j, hj, rfl, hr, ho⟩ := hrel
  by_cases hlt : j < n
  ·have hlt' : (j : Int) < (n : Int) := by omega
   have y0 := (ho.cell (a := ⟨w.heap.size, 0, none⟩) hzW (by simp only; omega)).trans z0
   have y1 := (ho.cell (a := ⟨w.heap.size, 1, none⟩) hzW (by simp only; omega)).trans z1
   have y2 := (ho.cell (a := ⟨w.heap.size, 2, none⟩) hzW (by simp only; omega)).trans z2
   have hbo : j * 3 + (#[.int .i64 a0, .int .i64 a1, .bool a2] : Array Value).size ≤ n * 3 := by have : (j + 1) * 3 ≤ n * 3 := Nat.mul_le_mul_right _ hlt; simp; omega
   simp only [List.size_toArray, List.length_cons, List.length_nil] at hbo
   obtain ⟨v0, c0⟩ := Option.isSome_iff_exists.1 (hr.c (j * 3) (by omega))
   have f0 := hr.f (j * 3)
   obtain ⟨v1, c1⟩ := Option.isSome_iff_exists.1 (hr.c (j * 3 + 1) (by omega))
   have f1 := hr.f (j * 3 + 1)
   obtain ⟨v2, c2⟩ := Option.isSome_iff_exists.1 (hr.c (j * 3 + 2) (by omega))
   have f2 := hr.f (j * 3 + 2)
   have HE : Hid (SpR G n 3 W (.int .i64 ((j + 1 : Nat) : Int)) (wr.setCells G (j * 3) (#[.int .i64 a0, .int .i64 a1, .bool a2] : Array Value).toList)) := ⟨j + 1, hlt, rfl, hr.sets _ _, ho.trans (OnlyQ.sets G _ _ _)⟩
   clear hr ho
   clear hbo
   go_wp2
   go_roundw
   case rel => exact HE.out
   case measure => simp [intOf]; omega
  ·obtain rfl : j = n := by omega
   go_wp2
   refine bodyPost_end (results_none rfl _ _ _) rfl ⟨rfl, (OnlyQ.of_below hbW hl).trans ho⟩
set_option maxHeartbeats 4000000 in
theorem spoilTrigger (G m n : Nat) (a0 a1 a2 a3 a4 a5 a6 a7 : Int) (a8 a9 : Bool) (a10 a11 a12 a13 a14 : Int) (a15 a16 : Bool) (w : World) (hW : Wri w G (n * 17)) (hn : n ≤ 1000000000) :
  Calls Tryz.prog 7 #[.slice (some ⟨G, 0, none⟩) m n, .agg #[.int .i64 a0, .int .i64 a1, .int .i64 a2, .int .u64 a3, .int .u64 a4, .int .u64 a5, .int .u64 a6, .int .u64 a7, .bool a8, .bool a9, .int .u64 a10, .int .u64 a11, .int .u64 a12, .int .u64 a13, .int .u64 a14, .bool a15, .bool a16]] w fun e w' => e = .returned (.tuple #[]) ∧ OnlyQ G w w' := by
 obtain ⟨W, hX⟩ : ∃ W, W = w.alloc (.cells #[.int .i64 a0, .int .i64 a1, .int .i64 a2, .int .u64 a3, .int .u64 a4, .int .u64 a5, .int .u64 a6, .int .u64 a7, .bool a8, .bool a9, .int .u64 a10, .int .u64 a11, .int .u64 a12, .int .u64 a13, .int .u64 a14, .bool a15, .bool a16] 35) := ⟨_, rfl⟩
 have hbW : Below w.heap.size w W := by rw [hX]; exact (Below.refl _ _).alloc (Nat.le_refl _) _
 have hl := hW.lt
 have z0 : W.cell? ⟨w.heap.size, 0, none⟩ = some (.int .i64 a0) := by rw [hX]; simp
 have z1 : W.cell? ⟨w.heap.size, 1, none⟩ = some (.int .i64 a1) := by rw [hX]; simp
 have z2 : W.cell? ⟨w.heap.size, 2, none⟩ = some (.int .i64 a2) := by rw [hX]; simp
 have z3 : W.cell? ⟨w.heap.size, 3, none⟩ = some (.int .u64 a3) := by rw [hX]; simp
 have z4 : W.cell? ⟨w.heap.size, 4, none⟩ = some (.int .u64 a4) := by rw [hX]; simp
 have z5 : W.cell? ⟨w.heap.size, 5, none⟩ = some (.int .u64 a5) := by rw [hX]; simp
 have z6 : W.cell? ⟨w.heap.size, 6, none⟩ = some (.int .u64 a6) := by rw [hX]; simp
 have z7 : W.cell? ⟨w.heap.size, 7, none⟩ = some (.int .u64 a7) := by rw [hX]; simp
 have z8 : W.cell? ⟨w.heap.size, 8, none⟩ = some (.bool a8) := by rw [hX]; simp
 have z9 : W.cell? ⟨w.heap.size, 9, none⟩ = some (.bool a9) := by rw [hX]; simp
 have z10 : W.cell? ⟨w.heap.size, 10, none⟩ = some (.int .u64 a10) := by rw [hX]; simp
 have z11 : W.cell? ⟨w.heap.size, 11, none⟩ = some (.int .u64 a11) := by rw [hX]; simp
 have z12 : W.cell? ⟨w.heap.size, 12, none⟩ = some (.int .u64 a12) := by rw [hX]; simp
 have z13 : W.cell? ⟨w.heap.size, 13, none⟩ = some (.int .u64 a13) := by rw [hX]; simp
 have z14 : W.cell? ⟨w.heap.size, 14, none⟩ = some (.int .u64 a14) := by rw [hX]; simp
 have z15 : W.cell? ⟨w.heap.size, 15, none⟩ = some (.bool a15) := by rw [hX]; simp
 have z16 : W.cell? ⟨w.heap.size, 16, none⟩ = some (.bool a16) := by rw [hX]; simp
 have hWW := hW.below hbW
 have hzW : w.heap.size < W.heap.size := World.block_lt_of_cell? W _ z0
 have HX : Hid (W = w.alloc (.cells #[.int .i64 a0, .int .i64 a1, .int .i64 a2, .int .u64 a3, .int .u64 a4, .int .u64 a5, .int .u64 a6, .int .u64 a7, .bool a8, .bool a9, .int .u64 a10, .int .u64 a11, .int .u64 a12, .int .u64 a13, .int .u64 a14, .bool a15, .bool a16] 35)) := hX
 clear hX hW
 go_enter Tryz.func7, Tryz.ntmps7
 go_upto_region 1 with fail
 rw [← HX.out]
 clear HX
 go_wp2_with fail
 go_loopw [11] (fun i wr => SpR G n 17 W i wr) (fun i _ => n - (intOf i).toNat)
 case atStart => exact ⟨0, by omega, rfl, hWW, OnlyQ.refl _ _⟩
 case round =>
  obtain ⟨j, hj, rfl, hr, ho⟩ := hrel
  by_cases hlt : j < n
  ·have hlt' : (j : Int) < (n : Int) := by omega
   have y0 := (ho.cell (a := ⟨w.heap.size, 0, none⟩) hzW (by simp only; omega)).trans z0
   have y1 := (ho.cell (a := ⟨w.heap.size, 1, none⟩) hzW (by simp only; omega)).trans z1
   have y2 := (ho.cell (a := ⟨w.heap.size, 2, none⟩) hzW (by simp only; omega)).trans z2
   have y3 := (ho.cell (a := ⟨w.heap.size, 3, none⟩) hzW (by simp only; omega)).trans z3
   have y4 := (ho.cell (a := ⟨w.heap.size, 4, none⟩) hzW (by simp only; omega)).trans z4
   have y5 := (ho.cell (a := ⟨w.heap.size, 5, none⟩) hzW (by simp only; omega)).trans z5
   have y6 := (ho.cell (a := ⟨w.heap.size, 6, none⟩) hzW (by simp only; omega)).trans z6
   have y7 := (ho.cell (a := ⟨w.heap.size, 7, none⟩) hzW (by simp only; omega)).trans z7
   have y8 := (ho.cell (a := ⟨w.heap.size, 8, none⟩) hzW (by simp only; omega)).trans z8
   have y9 := (ho.cell (a := ⟨w.heap.size, 9, none⟩) hzW (by simp only; omega)).trans z9
   have y10 := (ho.cell (a := ⟨w.heap.size, 10, none⟩) hzW (by simp only; omega)).trans z10
   have y11 := (ho.cell (a := ⟨w.heap.size, 11, none⟩) hzW (by simp only; omega)).trans z11
   have y12 := (ho.cell (a := ⟨w.heap.size, 12, none⟩) hzW (by simp only; omega)).trans z12
   have y13 := (ho.cell (a := ⟨w.heap.size, 13, none⟩) hzW (by simp only; omega)).trans z13
   have y14 := (ho.cell (a := ⟨w.heap.size, 14, none⟩) hzW (by simp only; omega)).trans z14
   have y15 := (ho.cell (a := ⟨w.heap.size, 15, none⟩) hzW (by simp only; omega)).trans z15
   have y16 := (ho.cell (a := ⟨w.heap.size, 16, none⟩) hzW (by simp only; omega)).trans z16
   have hbo : j * 17 + (#[.int .i64 a0, .int .i64 a1, .int .i64 a2, .int .u64 a3, .int .u64 a4, .int .u64 a5, .int .u64 a6, .int .u64 a7, .bool a8, .bool a9, .int .u64 a10, .int .u64 a11, .int .u64 a12, .int .u64 a13, .int .u64 a14, .bool a15, .bool a16] : Array Value).size ≤ n * 17 := by have : (j + 1) * 17 ≤ n * 17 := Nat.mul_le_mul_right _ hlt; simp; omega
   simp only [List.size_toArray, List.length_cons, List.length_nil] at hbo
   obtain ⟨v0, c0⟩ := Option.isSome_iff_exists.1 (hr.c (j * 17) (by omega))
   have f0 := hr.f (j * 17)
   obtain ⟨v1, c1⟩ := Option.isSome_iff_exists.1 (hr.c (j * 17 + 1) (by omega))
   have f1 := hr.f (j * 17 + 1)
   obtain ⟨v2, c2⟩ := Option.isSome_iff_exists.1 (hr.c (j * 17 + 2) (by omega))
   have f2 := hr.f (j * 17 + 2)
   obtain ⟨v3, c3⟩ := Option.isSome_iff_exists.1 (hr.c (j * 17 + 3) (by omega))
   have f3 := hr.f (j * 17 + 3)
   obtain ⟨v4, c4⟩ := Option.isSome_iff_exists.1 (hr.c (j * 17 + 4) (by omega))
   have f4 := hr.f (j * 17 + 4)
   obtain ⟨v5, c5⟩ := Option.isSome_iff_exists.1 (hr.c (j * 17 + 5) (by omega))
   have f5 := hr.f (j * 17 + 5)
   obtain ⟨v6, c6⟩ := Option.isSome_iff_exists.1 (hr.c (j * 17 + 6) (by omega))
   have f6 := hr.f (j * 17 + 6)
   obtain ⟨v7, c7⟩ := Option.isSome_iff_exists.1 (hr.c (j * 17 + 7) (by omega))
   have f7 := hr.f (j * 17 + 7)
   obtain ⟨v8, c8⟩ := Option.isSome_iff_exists.1 (hr.c (j * 17 + 8) (by omega))
   have f8 := hr.f (j * 17 + 8)
   obtain ⟨v9, c9⟩ := Option.isSome_iff_exists.1 (hr.c (j * 17 + 9) (by omega))
   have f9 := hr.f (j * 17 + 9)
   obtain ⟨v10, c10⟩ := Option.isSome_iff_exists.1 (hr.c (j * 17 + 10) (by omega))
   have f10 := hr.f (j * 17 + 10)
   obtain ⟨v11, c11⟩ := Option.isSome_iff_exists.1 (hr.c (j * 17 + 11) (by omega))
   have f11 := hr.f (j * 17 + 11)
   obtain ⟨v12, c12⟩ := Option.isSome_iff_exists.1 (hr.c (j * 17 + 12) (by omega))
   have f12 := hr.f (j * 17 + 12)
   obtain ⟨v13, c13⟩ := Option.isSome_iff_exists.1 (hr.c (j * 17 + 13) (by omega))
   have f13 := hr.f (j * 17 + 13)
   obtain ⟨v14, c14⟩ := Option.isSome_iff_exists.1 (hr.c (j * 17 + 14) (by omega))
   have f14 := hr.f (j * 17 + 14)
   obtain ⟨v15, c15⟩ := Option.isSome_iff_exists.1 (hr.c (j * 17 + 15) (by omega))
   have f15 := hr.f (j * 17 + 15)
   obtain ⟨v16, c16⟩ := Option.isSome_iff_exists.1 (hr.c (j * 17 + 16) (by omega))
   have f16 := hr.f (j * 17 + 16)
   have HE : Hid (SpR G n 17 W (.int .i64 ((j + 1 : Nat) : Int)) (wr.setCells G (j * 17) (#[.int .i64 a0, .int .i64 a1, .int .i64 a2, .int .u64 a3, .int .u64 a4, .int .u64 a5, .int .u64 a6, .int .u64 a7, .bool a8, .bool a9, .int .u64 a10, .int .u64 a11, .int .u64 a12, .int .u64 a13, .int .u64 a14, .bool a15, .bool a16] : Array Value).toList)) := ⟨j + 1, hlt, rfl, hr.sets _ _, ho.trans (OnlyQ.sets G _ _ _)⟩
   clear hr ho
   clear hbo
   go_wp2
   go_roundw
   case rel => exact HE.out
   case measure => simp [intOf]; omega
  ·obtain rfl : j = n := by omega
   go_wp2
   refine bodyPost_end (results_none rfl _ _ _) rfl ⟨rfl, (OnlyQ.of_below hbW hl).trans ho⟩
set_option maxHeartbeats 4000000 in
theorem spoilInt (G m n : Nat) (a0 : Int) (w : World) (hW : Wri w G (n * 1)) (hn : n ≤ 1000000000) :
  Calls Tryz.prog 13 #[.slice (some ⟨G, 0, none⟩) m n, .int .i64 a0] w fun e w' => e = .returned (.tuple #[]) ∧ OnlyQ G w w' := by
 have hl := hW.lt
 go_enter Tryz.func13, Tryz.ntmps13
 go_wp2_with fail
 go_loopw [11] (fun i wr => SpR G n 1 w i wr) (fun i _ => n - (intOf i).toNat)
 case atStart => exact ⟨0, by omega, rfl, hW, OnlyQ.refl _ _⟩
 case round =>
  obtain ⟨j, hj, rfl, hr, ho⟩ := hrel
  by_cases hlt : j < n
  ·have hlt' : (j : Int) < (n : Int) := by omega
   obtain ⟨v0, c0⟩ := Option.isSome_iff_exists.1 (hr.c j (by omega))
   have f0 := hr.f j
   have HE : Hid (SpR G n 1 w (.int .i64 ((j + 1 : Nat) : Int)) (wr.setCell ⟨G, j, none⟩ (.int .i64 a0))) := ⟨j + 1, hlt, rfl, hr.set _ _, ho.trans (OnlyQ.set G _ _ _)⟩
   clear hr ho
   go_wp2
   go_roundw
   case rel => exact HE.out
   case measure => simp [intOf]; omega
  ·obtain rfl : j = n := by omega
   go_wp2
   refine bodyPost_end (results_none rfl _ _ _) rfl ⟨rfl, ho⟩
end Wld
end Go.Proofs.YtohbnchfjphaeaaGreatDoor
