/- Plans that lie in blocks of their own; what plainPlan and depth answer. A loop of one plain trigger; what looks answers. The law: a trigger that fails holds what there is, till it has failed so often as the plan says. -/
import Derived.Test.YtbnnplfmhmmbnahDoorPk17
import Derived.Test.YtbnnplfmhmmbnahDoorPlanMem
import Derived.Test.YtbnnplfmhmmbnahDoorPk2
namespace Go.Proofs.YtbnnplfmhmmbnahDoor
namespace Lop
open Go.RowKit Rw Rec Plain Pln Frm Lpp Crn
set_option maxRecDepth 8000

/-- a plan in a block of its own -/
structure PX (w : World) (R : Nat) (p : Pd) (v : Value) : Prop where
  lt : R < w.heap.size
  cel : ∀ o, w.cell? ⟨R, o, none⟩ = (planC p v)[o]?
  fz : ∀ o, w.frozen? ⟨R, o, none⟩ = false
theorem PX.below {w w' : World} {R n : Nat} {p : Pd} {v : Value} (h : PX w R p v) (hb : Below n w w') (hn : R < n) : PX w' R p v :=
  ⟨Nat.lt_of_lt_of_le h.lt hb.size, fun o => (World.cell?_of_block (w := w) (a := ⟨R, o, none⟩) (hb.block R hn)).trans (h.cel o), fun o => (World.frozen?_of_block (w := w) (a := ⟨R, o, none⟩) (hb.block R hn)).trans (h.fz o)⟩
theorem PX.plat {w : World} {R : Nat} {p : Pd} {v : Value} (h : PX w R p v) : PlAt w R p v := PlAt.of h.cel
theorem PX.again {w : World} {R : Nat} {p p' : Pd} {v v' : Value} (h : PX w R p v) : PX (w.setCells R 0 (planC p' v').toList) R p' v' := by
  have o := OnlyQ.sets R (planC p' v').toList w 0
  refine ⟨Nat.lt_of_lt_of_le h.lt o.size, ?_, fun j => (o.fz j).trans (h.fz j)⟩
  have e : setRow (planC p v) 0 (planC p' v').toList = planC p' v' := by simp [setRow]
  have := cells_sets (planC p' v').toList 0 h.cel (by simp)
  rw [e] at this
  exact this
theorem PX.kept {w w' : World} {R : Nat} {p : Pd} {v : Value} (h : PX w R p v) (hb : w'.heap[R]? = w.heap[R]?) : PX w' R p v :=
  ⟨by have := h.lt; rw [Array.getElem?_eq_getElem this] at hb; exact (Array.getElem?_eq_some_iff.1 hb).1, fun o => (World.cell?_of_block (w := w) (a := ⟨R, o, none⟩) hb).trans (h.cel o), fun o => (World.frozen?_of_block (w := w) (a := ⟨R, o, none⟩) hb).trans (h.fz o)⟩
/-- a cell of a plan is told anew -/
theorem PX.set {w : World} {R j : Nat} {p p' : Pd} {v v' u : Value} (h : PX w R p v) (hp : planC p' v' = (planC p v).setIfInBounds j u) (hj : j < 18) : PX (w.setCell ⟨R, j, none⟩ u) R p' v' := by
  have hs : (planC p v).size = 18 := rfl
  refine ⟨by simpa using h.lt, fun o => ?_, fun o => by rw [World.frozen?_setCell]; exact h.fz o⟩
  rw [hp, Array.getElem?_setIfInBounds]
  by_cases e : j = o
  · subst e
    rw [if_pos rfl, if_pos (by omega)]
    have : ∃ x, w.cell? ⟨R, j, none⟩ = some x := ⟨(planC p v)[j]'(by omega), by rw [h.cel]; simp [hj]⟩
    obtain ⟨x, hx⟩ := this
    exact World.cell?_setCell_same _ _ _ hx
  · rw [if_neg e, World.cell?_setCell_other (h := fun e2 => e (congrArg Addr.off e2))]
    exact h.cel o
/-- a plan is laid into a block, by one step of a walk -/
theorem wp_setPx {ops : Array Oper} {rest : List Oper} {x y : Operand} {ps : String} {af : Array Edge} {A : Act} {Q : Exit → Act → World → Prop} {w : World} {R : Nat} {p p' : Pd} {v v' : Value} (h : PX w R p v) (hv : v'.oneCell' = true) (hx : A.eval x = .pointer (some ⟨R, 0, none⟩)) (hy : A.eval y = planV p' v')
    (g : ∀ w', PX w' R p' v' → OnlyQ R w w' → wpList Tryd.prog ops Q rest (A.put none undef) w') :
    wpList Tryd.prog ops Q ({ dst := none, op := .store 26 x y, type := 0, pos := ps, after := af, guard := none } :: rest) A w :=
  wpList_store_mid rfl 26 x y rfl R 0 (planC p' v') hx hy (fun j hj => ⟨by rw [h.cel]; simp at hj ⊢; omega, h.fz _⟩) (by kernel_rfl) (by simp [Value.oneCell']; exact hv) (g _ h.again (OnlyQ.sets R _ _ _))
def pz : Pd := ⟨[], 0, 0, 0, 0, 0, 0, 0, 0, 0, 0, 0, 0, 0, 0, 0, 0⟩
theorem px_new (w : World) (ta : TypeId) : PX (w.alloc (.cells #[.string ⟨#[]⟩, .int .i64 0, .int .i64 0, .int .i64 0, .int .i64 0, .int .i64 0, .int .i64 0, .int .i64 0, .int .i64 0, .int .i64 0, .int .i64 0, .int .i64 0, .int .i64 0, .int .i64 0, .int .i64 0, .int .i64 0, .int .i64 0, .slice none 0 0] ta)) w.heap.size pz (.slice none 0 0) := ⟨by simp, fun o => by simp [planC, pz], fun o => by simp⟩
theorem wp_newPx {ops : Array Oper} {rest : List Oper} {x y : Operand} {ps : String} {af : Array Edge} {A : Act} {Q : Exit → Act → World → Prop} {w : World} {p' : Pd} {v' : Value} (hv : v'.oneCell' = true) (hx : A.eval x = .pointer (some ⟨w.heap.size, 0, none⟩)) (hy : A.eval y = planV p' v')
    (g : ∀ w', PX w' w.heap.size p' v' → Below w.heap.size w w' → wpList Tryd.prog ops Q rest (A.put none undef) w') :
    wpList Tryd.prog ops Q ({ dst := none, op := .store 26 x y, type := 0, pos := ps, after := af, guard := none } :: rest) A (w.alloc (.cells #[.string ⟨#[]⟩, .int .i64 0, .int .i64 0, .int .i64 0, .int .i64 0, .int .i64 0, .int .i64 0, .int .i64 0, .int .i64 0, .int .i64 0, .int .i64 0, .int .i64 0, .int .i64 0, .int .i64 0, .int .i64 0, .int .i64 0, .int .i64 0, .slice none 0 0] 26)) :=
  wp_setPx (px_new w 26) hv hx hy fun w' h1 h2 => g w' h1 (((Below.refl _ _).alloc (Nat.le_refl _) _).trans (h2.below (Nat.le_refl _) (by simp)))
/-- a plan is told out of its cells -/
theorem finPx {fn : Func} {q : Tmp} {Q : Ending → World → Prop} (hres : fn.results = #[.cell q 26]) {ex : Exit} (hex : ex = .ret ∨ ex = .normal) {a : Act} {Wf : World} {C : Nat} {p : Pd} {v : Value} (hp : a.tmps[q]? = some (.pointer (some ⟨C, 0, none⟩))) (ha : a.defers = [])
    (h : PX Wf C p v) (hQ : Q (.returned (planV p v)) Wf) : bodyPost Tryd.prog fn Q ex a Wf := by
  have hl := run_loadVar_mid (P := Tryd.prog) Wf C 0 26 _ _ (range_plan h.plat) Tryd.underlying26 rfl (by kernel_rfl)
  have hr : (results fn a.tmps).run Tryd.prog Wf = .ok (planV p v) Wf := by
    simp only [results, hres]
    simp [hp, asAddr, hl]
  rcases hex with rfl | rfl
  · exact bodyPost_ret hr ha hQ
  · exact bodyPost_end hr ha hQ
def k0 : K := ⟨0, 0, 0, 0, 0, false, false⟩
def t0 : Tr := ⟨2, 10, 0, k0, k0⟩
def p0 : Pd := ⟨[112], 0, 9, 2, 6, 0, 0, 0, 0, 0, 0, 0, 0, 0, 0, 0, 0⟩
theorem trs_one {w : World} {b : Nat} {t : Tr} (hb : b < w.heap.size) (h : ∀ j, w.cell? ⟨b, j, none⟩ = (trC t)[j]?) : TrsAt w (some ⟨b, 0, none⟩) [t] := by
  intro i t' hi
  cases i with
  | zero => simp at hi; subst hi; exact ⟨b, 0, rfl, hb, fun j _ => by rw [show 0 + (0 * 17 + j) = j by omega]; exact h j⟩
  | succ i => simp at hi
set_option maxHeartbeats 4000000 in
theorem pplan_any (w : World) : Calls Tryd.prog 16 #[] w fun e w' => ∃ b, e = .returned (planV p0 (.slice (some ⟨b, 0, none⟩) 1 1)) ∧ TrsAt w' (some ⟨b, 0, none⟩) [t0] ∧ w.heap.size ≤ b ∧ Below w.heap.size w w' := by
  have hX := px_new w 26
  have hb2 : ∀ o : Obj, Below (w.alloc (.cells #[.string ⟨#[]⟩, .int .i64 0, .int .i64 0, .int .i64 0, .int .i64 0, .int .i64 0, .int .i64 0, .int .i64 0, .int .i64 0, .int .i64 0, .int .i64 0, .int .i64 0, .int .i64 0, .int .i64 0, .int .i64 0, .int .i64 0, .int .i64 0, .slice none 0 0] 26)).heap.size (w.alloc (.cells #[.string ⟨#[]⟩, .int .i64 0, .int .i64 0, .int .i64 0, .int .i64 0, .int .i64 0, .int .i64 0, .int .i64 0, .int .i64 0, .int .i64 0, .int .i64 0, .int .i64 0, .int .i64 0, .int .i64 0, .int .i64 0, .int .i64 0, .int .i64 0, .slice none 0 0] 26)) ((w.alloc (.cells #[.string ⟨#[]⟩, .int .i64 0, .int .i64 0, .int .i64 0, .int .i64 0, .int .i64 0, .int .i64 0, .int .i64 0, .int .i64 0, .int .i64 0, .int .i64 0, .int .i64 0, .int .i64 0, .int .i64 0, .int .i64 0, .int .i64 0, .int .i64 0, .slice none 0 0] 26)).alloc o) := fun o => (Below.refl _ _).alloc (Nat.le_refl _) o
  have hX2 := fun o => hX.below (hb2 o) (by simp)
  go_enter Tryd.func16, Tryd.ntmps16
  go_wp2_with (with_reducible refine wp_setPx (hX2 _) (p' := p0) (v' := .slice (some ⟨w.heap.size + 1, 0, none⟩) 1 1) rfl (by with_unfolding_all rfl) (by with_unfolding_all rfl) ?_; intro w9 hX9 ho9)
  refine finPx Tryd.results16 (Or.inl rfl) rfl rfl hX9 ⟨w.heap.size + 1, rfl, ?_, Nat.le_succ _, ?_⟩
  · refine trs_one (Nat.lt_of_lt_of_le (by simp) ho9.size) (fun j => ?_)
    rw [ho9.cell (a := ⟨w.heap.size + 1, j, none⟩) (by simp) (by simp)]
    simp
    rfl
  · exact (((Below.refl _ _).alloc (Nat.le_refl _) _).alloc (by simp) _).trans (ho9.below (Nat.le_refl _) (by simp; omega))
theorem ints_one {w : World} {c : Nat} {z : Int} (h : w.cell? ⟨c, 0, none⟩ = some (.int .i64 z)) (h1 : -9223372036854775808 ≤ z) (h2 : z ≤ 9223372036854775807) : Ned.IntsAt w (some ⟨c, 0, none⟩) 1 (fun _ => z) := by
  intro i hi
  have : i = 0 := by omega
  subst this
  exact ⟨c, 0, rfl, World.block_lt_of_cell? w _ h, h, h1, h2⟩
/-- one reading, made by the law itself -/
structure One (w : World) (b c : Nat) (f : Bool) (n : Nat) (z : Int) : Prop where
  r0 : w.cell? ⟨b, 0, none⟩ = some (.bool f)
  r1 : w.cell? ⟨b, 1, none⟩ = some (if n = 0 then .slice none 0 0 else .slice (some ⟨c, 0, none⟩) 1 1)
  r2 : n ≠ 0 → w.cell? ⟨c, 0, none⟩ = some (.int .i64 z)
  n1 : n ≤ 1
theorem One.rds {w : World} {b c : Nat} {f : Bool} {n : Nat} {z : Int} (h : One w b c f n z) (h1 : -9223372036854775808 ≤ z) (h2 : z ≤ 9223372036854775807) : RdsAt w (some ⟨b, 0, none⟩) [⟨f, n, fun _ => z⟩] := by
  intro i r hi
  cases i with
  | succ i => simp at hi
  | zero =>
    simp at hi
    subst hi
    have hn := h.n1
    by_cases h0 : n = 0
    · subst h0
      exact ⟨b, 0, none, 0, rfl, World.block_lt_of_cell? w _ h.r0, h.r0, h.r1, by simp, fun i hi => by simp at hi⟩
    · have e : n = 1 := by omega
      subst e
      exact ⟨b, 0, some ⟨c, 0, none⟩, 1, rfl, World.block_lt_of_cell? w _ h.r0, h.r0, h.r1, by simp [maxLen], ints_one (h.r2 h0) h1 h2⟩
theorem One.mv {w w' : World} {b c : Nat} {f : Bool} {n : Nat} {z : Int} {B B' : Nat → Prop} (h : One w b c f n z) (m : Mv B B' w w') (hb : ¬ B b) (hc : ¬ B c) : One w' b c f n z :=
  ⟨mv_cell m h.r0 hb, mv_cell m h.r1 hb, fun e => mv_cell m (h.r2 e) hc, h.n1⟩
set_option maxHeartbeats 4000000 in
theorem depth_any (z : Int) (w : World) : Calls Tryd.prog 18 #[.int .i64 z] w fun e w' => ∃ b c, e = .returned (.slice (some ⟨b, 0, none⟩) 1 1) ∧ One w' b c false 1 z ∧ w.heap.size ≤ b ∧ w.heap.size ≤ c ∧ Below w.heap.size w w' := by
  go_enter Tryd.func18, Tryd.ntmps18
  go_wp2
  go_ret
  refine ⟨w.heap.size + 1, w.heap.size, rfl, ⟨by simp [go_sem], by simp [go_sem], fun _ => by simp [go_sem], by decide⟩, by simp, by simp, ((Below.refl _ _).alloc (Nat.le_refl _) _).alloc (by simp) _⟩
end Lop
end Go.Proofs.YtbnnplfmhmmbnahDoor
namespace Go.Proofs.YtbnnplfmhmmbnahDoor
namespace Lop
open Go.RowKit Rw Rec Plain Pln Frm Lpp Crn
set_option maxRecDepth 8000

theorem pick_in (sec sh : Int) : ∃ inF : Tr → Bool, ∀ t, inF t = true ↔ InP (mt t.a) (mt t.b) (minOf sec sh) sh :=
  ⟨fun t => @decide _ (Classical.propDecidable (InP (mt t.a) (mt t.b) (minOf sec sh) sh)), fun t => by simp⟩
/-- a loop of one plain trigger, without windows and paces, behind k looks -/
def LZ (w0 : World) (B : Nat) (x : Pl) (p : Pd) (ta : Option Addr) (tc : Nat) (lk : Bool) (f la nd : Int) (k : Nat) (wr : World) : Prop :=
  ∃ st H, LAt wr B x p ta tc [t0] ⟨[f], lk, la, nd, -1⟩ st ∧ LI [t0] ⟨[f], lk, la, nd, -1⟩ st k ∧ Stb.SI H st ∧ st.u = ⟨0, 0, 0, 0⟩ ∧ st.d = ⟨0, 0, 0, 0⟩ ∧ Below w0.heap.size w0 wr ∧ w0.heap.size ≤ B
theorem LZ.below {w0 : World} {B : Nat} {x : Pl} {p : Pd} {ta : Option Addr} {tc : Nat} {lk : Bool} {f la nd : Int} {k : Nat} {wr wy : World} (h : LZ w0 B x p ta tc lk f la nd k wr) (hb : Below wr.heap.size wr wy) : LZ w0 B x p ta tc lk f la nd k wy := by
  obtain ⟨st, H, h1, h2, h3, h4, h5, h6, h7⟩ := h
  exact ⟨st, H, h1.below hb, h2, h3, h4, h5, h6.trans (hb.mono h6.size), h7⟩
theorem k0_u : Us k0 := by constructor <;> simp [U, k0]
theorem t0_u : TrU t0 := ⟨by simp [I, t0], by simp [I, t0], by simp [I, t0], k0_u, k0_u⟩
theorem p0_i : PdI p0 := by constructor <;> simp [I, p0]
theorem t0_N (p : Pd) (hv : Int) (inF : Tr → Bool) (r : Rd) (f : Int) : stepN p hv inF t0 r f = stepN p hv (fun _ => false) t0 r f := by
  unfold stepN
  split
  · rfl
  · rw [if_neg (by decide), if_neg (by decide)]
theorem t0_A (inF : Tr → Bool) (r : Rd) (f : Int) : stepA inF t0 r f = stepA (fun _ => false) t0 r f := by
  unfold stepA
  rw [if_neg (by decide), if_neg (by decide)]
def zF (fl : Bool) (n : Nat) (z f : Int) : Int := stepF t0 ⟨fl, n, fun _ => z⟩ f
def zW (p : Pd) (hv : Int) (fl : Bool) (n : Nat) (z f : Int) : Int := max 0 (stepN p hv (fun _ => false) t0 ⟨fl, n, fun _ => z⟩ (zF fl n z f))
def zA (fl : Bool) (n : Nat) (z f : Int) : Bool := stepA (fun _ => false) t0 ⟨fl, n, fun _ => z⟩ (zF fl n z f)
def zN (p : Pd) (hv now nd : Int) (fl : Bool) (n : Nat) (z f : Int) : Int := min (max (zW p hv fl n z f) (lowF p hv now nd (zA fl n z f))) p.mx
theorem zlook (w0 : World) (B : Nat) (x : Pl) (p : Pd) (ta : Option Addr) (tc : Nat) (lk : Bool) (f la nd : Int) (k b c : Nat) (fl : Bool) (n : Nat) (z now hv : Int) (w : World) (h : LZ w0 B x p ta tc lk f la nd k w) (hB0 : Lai.BdsAt w0) (hP : PlOk p [t0]) (hO : One w b c fl n z) (hz1 : -9223372036854775808 ≤ z) (hz2 : z ≤ 9223372036854775807) (hb : ¬ blk x b) (hc : ¬ blk x c)
    (hk : k ≤ 400) (hn : la ≤ now ∧ now ≤ 1099511627776) (hh : 0 ≤ hv ∧ hv ≤ 50) :
    Calls Tryd.prog 9 #[.pointer (some ⟨x.D, 0, none⟩), .int .i64 now, .int .i64 0, .int .i64 hv, .slice (some ⟨b, 0, none⟩) 1 1, .bool false] w fun e w' => ∃ V', e = .returned (.tuple #[.int .i64 (zN p hv now nd fl n z f), .int .i64 0]) ∧ LZ w0 B ⟨x.D, x.vF, V'⟩ p ta tc true (zF fl n z f) now (if zA fl n z f = true then now else nd) (k + 1) w' ∧ Mv (blk x) (blk ⟨x.D, x.vF, V'⟩) w w' := by
  obtain ⟨st, H, h1, h2, h3, h4, h5, h6, h7⟩ := h
  obtain ⟨inF, hin⟩ := pick_in 0 p.sh
  have hBk : ∀ j, blk x j → w0.heap.size ≤ j := fun j hj => Nat.le_trans h7 (h1.blt hj).1
  have c1 := plook_any B x p ta (some ⟨b, 0, none⟩) tc 1 [t0] [⟨fl, n, fun _ => z⟩] ⟨[f], lk, la, nd, -1⟩ st now 0 hv false inF w h1 (fun wr m => hB0.below (h6.trans (m.below hBk h6.size)) (Nat.le_refl _)) hP (fun t ht => by simp at ht; subst ht; exact t0_u) h2.fl (h2.big (by omega)) (fun wr m => (hO.mv m hb hc).rds hz1 hz2) rfl (fun t _ _ => hin t) hn (by decide) hh h2.nd h2.la.1 (2 * k) h2.fi (by omega)
  refine c1.mono ?_
  rintro e w' ⟨rfl, V', hA', hm⟩
  have hW : wK p hv inF [t0] [⟨fl, n, fun _ => z⟩] [f] 1 = zW p hv fl n z f := by
    rw [wK_step (t := t0) (r := ⟨fl, n, fun _ => z⟩) (f := f) rfl rfl rfl, t0_N]
    rfl
  have hAk : aK false inF [t0] [⟨fl, n, fun _ => z⟩] [f] 1 = zA fl n z f := by
    rw [aK_step (t := t0) (r := ⟨fl, n, fun _ => z⟩) (f := f) rfl rfl rfl, t0_A]
    simp [aK, zA, zF]
  have hlen : ([t0] : List Tr).length = 1 := rfl
  rw [hlen, hW, hAk] at hA' ⊢
  have hfr := look_free (WK := zW p hv fl n z f) (AK := zA fl n z f) h3 h2 hP hn hh h4 h5 (show (-1 : Int) < 0 by decide)
  have hsi := si_look (WK := zW p hv fl n z f) (AK := zA fl n z f) h3 h2 hP hn hh
  have hli := h2.look (rs := [⟨fl, n, fun _ => z⟩]) (WK := zW p hv fl n z f) (AK := zA fl n z f) hP hn hh
  have hnx : nextL ⟨[f], lk, la, nd, -1⟩ [t0] [⟨fl, n, fun _ => z⟩] now (zA fl n z f) = ⟨[zF fl n z f], true, now, if zA fl n z f = true then now else nd, -1⟩ := by
    unfold nextL
    cases zA fl n z f <;> simp [fsK, zF]
  obtain ⟨⟨H', hH'⟩, hu', hd'⟩ := hsi
  rw [hnx] at hA' hli
  rw [hfr]
  exact ⟨V', rfl, ⟨_, H', hA', hli, hH', hu'.trans h4, hd'.trans h5, h6.trans (hm.below hBk h6.size), h7⟩, hm⟩
theorem zdue (w0 : World) (B : Nat) (x : Pl) (p : Pd) (ta : Option Addr) (tc : Nat) (lk : Bool) (f la nd : Int) (k : Nat) (now : Int) (w : World) (h : LZ w0 B x p ta tc lk f la nd k w) (hP : PlOk p [t0]) :
    Calls Tryd.prog 19 #[.pointer (some ⟨x.D, 0, none⟩), .int .i64 now] w fun e w' => e = .returned (.bool (!lk || decide (la + p.po ≤ now))) ∧ Below w.heap.size w w' := by
  obtain ⟨st, H, h1, h2, -⟩ := h
  exact due_any B x p ta tc [t0] ⟨[f], lk, la, nd, -1⟩ st now w h1 h2.la hP.po
theorem zfails (w0 : World) (B : Nat) (x : Pl) (p : Pd) (ta : Option Addr) (tc : Nat) (lk : Bool) (f la nd : Int) (k : Nat) (w : World) (h : LZ w0 B x p ta tc lk f la nd k w) :
    Calls Tryd.prog 17 #[.pointer (some ⟨x.D, 0, none⟩), .int .i64 0] w fun e w' => e = .returned (.int .i64 f) ∧ w' = w := by
  obtain ⟨st, H, h1, h2, -⟩ := h
  exact fails_any B x p ta tc [t0] ⟨[f], lk, la, nd, -1⟩ st 0 w h1
/-- a new one -/
theorem znew (p : Pd) (b : Nat) (w : World) (hB : Lai.BdsAt w) (hi : PdI p) (hl : p.nm.length ≤ 9223372036854775807) (hT : TrsAt w (some ⟨b, 0, none⟩) [t0]) (hc : chkP p [t0] = 0) (hu : nU p = ⟨0, 0, 0, 0⟩) (hd : nD p = ⟨0, 0, 0, 0⟩) :
    Calls Tryd.prog 7 #[planV p (.slice (some ⟨b, 0, none⟩) 1 1)] w fun e w' => ∃ x tb tcb, e = .returned (.tuple #[.pointer (some ⟨x.D, 0, none⟩), .int .i64 0]) ∧ LZ w w.heap.size x (noN p) tb tcb false 0 0 0 0 w' := by
  refine (lnew_yes p (some ⟨b, 0, none⟩) 1 [t0] w hB hi hl hT hc).mono ?_
  rintro e w' ⟨D, vF, tb, tcb, rfl, hA, hb, -⟩
  refine ⟨⟨D, vF, Stb.nilV⟩, tb, tcb, rfl, ⟨_, [], hA, LI.new [t0] _ _, si_new _ _, ?_, ?_, hb, Nat.le_refl _⟩⟩
  · rw [hu]; rfl
  · rw [hd]; rfl
theorem LZ.blk {w0 : World} {B : Nat} {x : Pl} {p : Pd} {ta : Option Addr} {tc : Nat} {lk : Bool} {f la nd : Int} {k : Nat} {wr : World} (h : LZ w0 B x p ta tc lk f la nd k wr) {j : Nat} (hj : wr.heap.size ≤ j) : ¬ blk x j := by
  obtain ⟨st, H, h1, -⟩ := h
  exact fun e => by have := (h1.blt e).2; omega
theorem LZ.bw {w0 : World} {B : Nat} {x : Pl} {p : Pd} {ta : Option Addr} {tc : Nat} {lk : Bool} {f la nd : Int} {k : Nat} {wr : World} (h : LZ w0 B x p ta tc lk f la nd k wr) : Below w0.heap.size w0 wr := by
  obtain ⟨st, H, h1, h2, h3, h4, h5, h6, h7⟩ := h
  exact h6
/-- one look of the plain plan -/
theorem dlook (w0 : World) (B D : Nat) (vF : Value) (ta : Option Addr) (tc : Nat) (lk : Bool) (la nd : Int) (k b c : Nat) (V : Nat → Value) (z now hv R : Int) (A : Bool) (w wd : World) (h : LZ w0 B ⟨D, vF, V⟩ (noN p0) ta tc lk 0 la nd k w) (hB0 : Lai.BdsAt w0) (hO : One wd b c false 1 z) (hb : w.heap.size ≤ b) (hc : w.heap.size ≤ c) (hbw : Below w.heap.size w wd) (hz1 : -9223372036854775808 ≤ z) (hz2 : z ≤ 9223372036854775807) (hk : k ≤ 400) (hn : la ≤ now ∧ now ≤ 1099511627776) (hh : 0 ≤ hv ∧ hv ≤ 50)
    (hR : zN (noN p0) hv now nd false 1 z 0 = R) (hA : zA false 1 z 0 = A) (hF : zF false 1 z 0 = 0) :
    Calls Tryd.prog 9 #[.pointer (some ⟨D, 0, none⟩), .int .i64 now, .int .i64 0, .int .i64 hv, .slice (some ⟨b, 0, none⟩) 1 1, .bool false] wd fun e w' => ∃ V', e = .returned (.tuple #[.int .i64 R, .int .i64 0]) ∧ LZ w0 B ⟨D, vF, V'⟩ (noN p0) ta tc true 0 now (if A = true then now else nd) (k + 1) w' := by
  have hP : PlOk (noN p0) [t0] := ok_noN (plOk_of (by decide))
  have c1 := zlook w0 B ⟨D, vF, V⟩ (noN p0) ta tc lk 0 la nd k b c false 1 z now hv wd (h.below hbw) hB0 hP hO hz1 hz2 (h.blk hb) (h.blk hc) hk hn hh
  rw [hR, hA, hF] at c1
  refine c1.mono ?_
  rintro e w' ⟨V', rfl, h', -⟩
  exact ⟨V', rfl, h'⟩
set_option maxHeartbeats 8000000 in
theorem looks_any (w : World) (hB : Lai.BdsAt w) : Calls Tryd.prog 6 #[] w fun e w' => e = .returned (.bool true) ∧ Below w.heap.size w w' := by
  have cP := pplan_any w
  have cD := fun z w => depth_any z w
  have hP : PlOk (noN p0) [t0] := ok_noN (plOk_of (by decide))
  have q1 : zN (noN p0) 0 1 0 false 1 25 0 = 3 ∧ zA false 1 25 0 = true ∧ zF false 1 25 0 = 0 := ⟨by decide, by decide, by decide⟩
  have q2 : zN (noN p0) 3 3 1 false 1 0 0 = 1 ∧ zA false 1 0 0 = false ∧ zF false 1 0 0 = 0 := ⟨by decide, by decide, by decide⟩
  have q3 : zN (noN p0) 1 7 1 false 1 0 0 = 0 := by decide
  have HB : Hid (Lai.BdsAt w) := hB
  have HQ1 : Hid (zN (noN p0) 0 1 0 false 1 25 0 = 3 ∧ zA false 1 25 0 = true ∧ zF false 1 25 0 = 0) := q1
  have HQ2 : Hid (zN (noN p0) 3 3 1 false 1 0 0 = 1 ∧ zA false 1 0 0 = false ∧ zF false 1 0 0 = 0) := q2
  have HQ3 : Hid (zN (noN p0) 1 7 1 false 1 0 0 = 0) := q3
  have HP : Hid (PlOk (noN p0) [t0]) := hP
  clear q1 q2 q3 hB hP
  go_enter Tryd.func6, Tryd.ntmps6
  go_wp2_with (first
    | (go_at_call 16; (with_reducible refine cP.mono ?_); rintro e w1 ⟨tb1, rfl, hT1, hl1, hb1⟩; have cN := znew p0 tb1 w1 (HB.out.below hb1 (Nat.le_refl _)) p0_i (by decide) hT1 (by decide) rfl rfl; have HB1 : Hid (Below w.heap.size w w1 ∧ Lai.BdsAt w1) := ⟨hb1, HB.out.below hb1 (Nat.le_refl _)⟩; clear hT1 hl1 hb1)
    | (go_at_call 7; (with_reducible refine cN.mono ?_); rintro e w2 ⟨⟨D, vF, V2⟩, ta, tc, rfl, h2⟩; dsimp only; have H2 : Hid (LZ w1 w1.heap.size ⟨D, vF, V2⟩ (noN p0) ta tc false 0 0 0 0 w2) := h2; clear h2 cN)
    | (go_at_call 18; (with_reducible refine (cD 25 w2).mono ?_); rintro e w3 ⟨b3, c3, rfl, hO3, hb3, hc3, hw3⟩; have cL1 := dlook w1 w1.heap.size D vF ta tc false 0 0 0 b3 c3 V2 25 1 0 3 true w2 w3 H2.out HB1.out.2 hO3 hb3 hc3 hw3 (by decide) (by decide) (by decide) (by decide) (by decide) HQ1.out.1 HQ1.out.2.1 HQ1.out.2.2; clear hO3 hb3 hc3 hw3)
    | (go_at_call 9; (with_reducible refine cL1.mono ?_); rintro e w4 ⟨V4, rfl, h4⟩; have H4 : Hid (LZ w1 w1.heap.size ⟨D, vF, V4⟩ (noN p0) ta tc true 0 1 1 1 w4) := h4; clear h4 cL1)
    | (go_at_call 18; (with_reducible refine (cD 0 w4).mono ?_); rintro e w5 ⟨b5, c5, rfl, hO5, hb5, hc5, hw5⟩; have cL2 := dlook w1 w1.heap.size D vF ta tc true 1 1 1 b5 c5 V4 0 3 3 1 false w4 w5 H4.out HB1.out.2 hO5 hb5 hc5 hw5 (by decide) (by decide) (by decide) (by decide) (by decide) HQ2.out.1 HQ2.out.2.1 HQ2.out.2.2; clear hO5 hb5 hc5 hw5)
    | (go_at_call 9; (with_reducible refine cL2.mono ?_); rintro e w6 ⟨V6, rfl, h6⟩; have H6 : Hid (LZ w1 w1.heap.size ⟨D, vF, V6⟩ (noN p0) ta tc true 0 3 1 2 w6) := h6; clear h6 cL2)
    | (go_at_call 18; (with_reducible refine (cD 0 w6).mono ?_); rintro e w7 ⟨b7, c7, rfl, hO7, hb7, hc7, hw7⟩; have cL3 := dlook w1 w1.heap.size D vF ta tc true 3 1 2 b7 c7 V6 0 7 1 0 false w6 w7 H6.out HB1.out.2 hO7 hb7 hc7 hw7 (by decide) (by decide) (by decide) (by decide) (by decide) HQ3.out HQ2.out.2.1 HQ2.out.2.2; clear hO7 hb7 hc7 hw7)
    | (go_at_call 9; (with_reducible refine cL3.mono ?_); rintro e w8 ⟨V8, rfl, h8⟩; have cD9 := zdue w1 w1.heap.size ⟨D, vF, V8⟩ (noN p0) ta tc true 0 7 1 3 9 w8 h8 HP.out; have H8 : Hid (LZ w1 w1.heap.size ⟨D, vF, V8⟩ (noN p0) ta tc true 0 7 1 3 w8) := h8; clear h8 cL3; dsimp only at cD9)
    | (go_at_call 19; (with_reducible refine cD9.mono ?_); rintro e w9 ⟨rfl, hb9⟩; have cD8 := zdue w1 w1.heap.size ⟨D, vF, V8⟩ (noN p0) ta tc true 0 7 1 3 8 w9 (H8.out.below hb9) HP.out; dsimp only at cD8; have H9 : Hid (Below w8.heap.size w8 w9) := hb9; clear hb9)
    | (go_at_call 19; (with_reducible refine cD8.mono ?_); rintro e w10 ⟨rfl, hb10⟩; have H10 : Hid (Below w9.heap.size w9 w10) := hb10; clear hb10))
  go_ret
  refine ⟨by rfl, ?_⟩
  have hh := HB1.out.1.trans ((H8.out.below H9.out).below H10.out |>.bw |>.mono HB1.out.1.size)
  exact hh
end Lop
end Go.Proofs.YtbnnplfmhmmbnahDoor
namespace Go.Proofs.YtbnnplfmhmmbnahDoor
namespace Lop
open Go.RowKit Rw Rec Plain Pln Frm Lpp Crn
set_option maxRecDepth 8000

def pF (m b a : Int) : Pd := ⟨[112], m, 9, 2, 6, 0, b, a, 0, 0, 0, 0, 0, 0, 0, 0, 0⟩
theorem pF_chk {m b a : Int} (hm : 0 ≤ m ∧ m < 5) (hb : 0 ≤ b ∧ b < 15) (ha : 0 ≤ a ∧ a < 6) : chkP (pF m b a) [t0] = 0 := by
  have h1 : nmB (pF m b a).nm = true := by simp only [pF]; decide
  have h2 : okP (pF m b a) = true := by
    have e1 : rg m 0 50 = true := by simp [rg]; omega
    have e2 : rg 9 (max 1 m) 50 = true := by simp [rg]; omega
    have e3 : rg b 0 50 = true := by simp [rg]; omega
    have e4 : rg a 0 100 = true := by simp [rg]; omega
    simp only [okP, numB, pF, e1, e2, e3, e4]
    decide
  have h3 : [t0].all trB = true := by decide
  unfold chkP
  rw [h1, h2, h3]
  simp
theorem pF_i {m b a : Int} (hm : 0 ≤ m ∧ m < 5) (hb : 0 ≤ b ∧ b < 15) (ha : 0 ≤ a ∧ a < 6) : PdI (pF m b a) := by
  constructor <;> simp [I, pF] <;> omega
theorem max3 {P : Program} {ts : Array TypeId} {t : TypeId} {x y z R : Int} (h : max (max x y) z = R) (w : World) : (Builtin.max_ ts t #[.int .i64 x, .int .i64 y, .int .i64 z]).run P w = .ok (.int .i64 R) w := by
  have e : (if z > (if y > x then y else x) then z else (if y > x then y else x)) = R := by rw [← h]; repeat (first | omega | split)
  simp [Builtin.max_, Builtin.max2]
  exact e
def FlR (w1 : World) (B D : Nat) (vF : Value) (p : Pd) (ta : Option Addr) (tc : Nat) (i : Value) (wr : World) : Prop :=
  ∃ (k : Nat) (V : Nat → Value) (lk : Bool) (la nd : Int), k ≤ 7 ∧ i = .int .i64 k ∧ la ≤ k ∧ LZ w1 B ⟨D, vF, V⟩ p ta tc lk k la nd k wr
theorem LZ.nb {w0 : World} {B : Nat} {x : Pl} {p : Pd} {ta : Option Addr} {tc : Nat} {lk : Bool} {f la nd : Int} {k : Nat} {wr : World} (h : LZ w0 B x p ta tc lk f la nd k wr) {j : Nat} (hj : j < w0.heap.size) : ¬ Lop.blk x j := by
  obtain ⟨st, H, h1, h2, h3, h4, h5, h6, h7⟩ := h
  exact fun e => by have := (h1.blt e).1; omega
theorem zN_fail {m b a h now nd f : Int} (hm : 0 ≤ m) (hb : 0 ≤ b) (hh : 0 ≤ h) (hf : 0 ≤ f) : zF true 0 0 f = f + 1 ∧ zA true 0 0 f = true ∧ zN (noN (pF m b a)) h now nd true 0 0 f = min (max (max (if a ≠ 0 ∧ a ≤ f + 1 then b else h) m) 1) 9 := by
  have h1 : zF true 0 0 f = f + 1 := by simp [zF, stepF, failed, t0]
  have hp : 0 < f + 1 := by omega
  have h2 : zA true 0 0 f = true := by simp [zA, stepA, h1, hp]
  refine ⟨h1, h2, ?_⟩
  unfold zN zW
  rw [h1, h2]
  have h3 : stepN (noN (pF m b a)) h (fun _ => false) t0 ⟨true, 0, fun _ => 0⟩ (f + 1) = if a ≠ 0 ∧ a ≤ f + 1 then b else h := by unfold stepN; rw [if_pos hp]; rfl
  rw [h3]
  have h4 : lowF (noN (pF m b a)) h now nd true = max m 1 := by unfold lowF; rw [if_pos rfl]; rfl
  rw [h4]
  show min _ 9 = _
  split <;> omega
set_option maxHeartbeats 16000000 in
theorem loopFails_any (q0 q1 q2 q3 : Int) (w : World) (hB : Lai.BdsAt w) : Calls Tryd.prog 5 #[.int .i64 q0, .int .i64 q1, .int .i64 q2, .int .i64 q3] w fun e w' => e = .returned (.bool true) ∧ Below w.heap.size w w' := by
  have cLs := looks_any w hB
  have cP := fun w => pplan_any w
  have cD := fun z w => depth_any z w
  have r0 := fun w => Rsw.rest_any q0 5 w (by decide) (by decide)
  have r1 := fun w => Rsw.rest_any q1 15 w (by decide) (by decide)
  have r2 := fun w => Rsw.rest_any q2 6 w (by decide) (by decide)
  have r3 := fun w => Rsw.rest_any q3 12 w (by decide) (by decide)
  have b0 : 0 ≤ q0 % 5 ∧ q0 % 5 < 5 := by omega
  have b1 : 0 ≤ q1 % 15 ∧ q1 % 15 < 15 := by omega
  have b2 : 0 ≤ q2 % 6 ∧ q2 % 6 < 6 := by omega
  have b3 : 0 ≤ q3 % 12 ∧ q3 % 12 < 12 := by omega
  have HB : Hid (Lai.BdsAt w) := hB
  generalize q0 % 5 = m at *
  generalize q1 % 15 = b at *
  generalize q2 % 6 = a at *
  generalize q3 % 12 = h at *
  clear hB
  go_enter Tryd.func5, Tryd.ntmps5
  go_upto_region 4 with (first
    | (go_at_call 6; (with_reducible refine cLs.mono ?_); rintro e w1 ⟨rfl, hb1⟩)
    | (go_at_call 16; (with_reducible refine (cP _).mono ?_); rintro e w2 ⟨tb, rfl, hT2, hl2, hb2⟩)
    | (with_reducible refine wp_newPx (p' := p0) (v' := .slice (some ⟨tb, 0, none⟩) 1 1) rfl (by with_unfolding_all rfl) (by with_unfolding_all rfl) ?_; intro w3 hX3 hb3))
  have hX4 : PX (((w3.setCell ⟨w2.heap.size, 1, none⟩ (.int .i64 m)).setCell ⟨w2.heap.size, 6, none⟩ (.int .i64 b)).setCell ⟨w2.heap.size, 7, none⟩ (.int .i64 a)) w2.heap.size (pF m b a) (.slice (some ⟨tb, 0, none⟩) 1 1) :=
    ((hX3.set (p' := ⟨[112], m, 9, 2, 6, 0, 0, 0, 0, 0, 0, 0, 0, 0, 0, 0, 0⟩) rfl (by decide)).set (p' := ⟨[112], m, 9, 2, 6, 0, b, 0, 0, 0, 0, 0, 0, 0, 0, 0, 0⟩) rfl (by decide)).set (p' := pF m b a) rfl (by decide)
  have hb4 : Below w2.heap.size w2 (((w3.setCell ⟨w2.heap.size, 1, none⟩ (.int .i64 m)).setCell ⟨w2.heap.size, 6, none⟩ (.int .i64 b)).setCell ⟨w2.heap.size, 7, none⟩ (.int .i64 a)) := ((hb3.setCell (p := ⟨w2.heap.size, 1, none⟩) (Nat.le_refl _) _).setCell (p := ⟨w2.heap.size, 6, none⟩) (Nat.le_refl _) _).setCell (p := ⟨w2.heap.size, 7, none⟩) (Nat.le_refl _) _
  have c1 := hX3.plat.c1
  have c6 := hX3.plat.c6
  have c7 := hX3.plat.c7
  have f1 := hX3.fz 1
  have f6 := hX3.fz 6
  have f7 := hX3.fz 7
  dsimp only [p0] at c1 c6 c7
  have HT4 : Hid (TrsAt (((w3.setCell ⟨w2.heap.size, 1, none⟩ (.int .i64 m)).setCell ⟨w2.heap.size, 6, none⟩ (.int .i64 b)).setCell ⟨w2.heap.size, 7, none⟩ (.int .i64 a)) (some ⟨tb, 0, none⟩) [t0]) := hT2.below hb4 (Nat.le_refl _)
  have HB4 : Hid (Below w.heap.size w (((w3.setCell ⟨w2.heap.size, 1, none⟩ (.int .i64 m)).setCell ⟨w2.heap.size, 6, none⟩ (.int .i64 b)).setCell ⟨w2.heap.size, 7, none⟩ (.int .i64 a))) := hb1.trans ((hb2.trans (hb4.mono hb2.size)).mono hb1.size)
  have HX4 : Hid (PX (((w3.setCell ⟨w2.heap.size, 1, none⟩ (.int .i64 m)).setCell ⟨w2.heap.size, 6, none⟩ (.int .i64 b)).setCell ⟨w2.heap.size, 7, none⟩ (.int .i64 a)) w2.heap.size (pF m b a) (.slice (some ⟨tb, 0, none⟩) 1 1)) := hX4
  clear hX3 hb3 hb2 hb1 hT2 hl2 cLs cP hX4 hb4
  go_upto_region 5 with (first
    | (go_at_call 15; (with_reducible refine (r0 _).mono ?_); rintro e w' ⟨rfl, h9⟩; have h8 := h9.symm; clear h9; subst h8)
    | (go_at_call 15; (with_reducible refine (r1 _).mono ?_); rintro e w' ⟨rfl, h9⟩; have h8 := h9.symm; clear h9; subst h8)
    | (go_at_call 15; (with_reducible refine (r2 _).mono ?_); rintro e w' ⟨rfl, h9⟩; have h8 := h9.symm; clear h9; subst h8))
  clear c1 c6 c7 f1 f6 f7 r0 r1 r2
  generalize ((w3.setCell ⟨w2.heap.size, 1, none⟩ (.int .i64 m)).setCell ⟨w2.heap.size, 6, none⟩ (.int .i64 b)).setCell ⟨w2.heap.size, 7, none⟩ (.int .i64 a) = W4 at *
  generalize w2.heap.size = P at *
  have hPl := HX4.out.lt
  have hpl := HX4.out.plat
  have HBd : Hid (Lai.BdsAt W4) := HB.out.below HB4.out (Nat.le_refl _)
  have hchk := pF_chk b0 b1 b2
  have HP : Hid (PlOk (noN (pF m b a)) [t0]) := ok_noN (plOk_of hchk)
  have cN := znew (pF m b a) tb W4 HBd.out (pF_i b0 b1 b2) (by simp [pF]) HT4.out hchk rfl rfl
  clear hchk
  go_upto_region 9 with (first
    | (go_at_call 15; (with_reducible refine (r3 _).mono ?_); rintro e w' ⟨rfl, h9⟩; have h8 := h9.symm; clear h9; subst h8)
    | (with_reducible refine wp_plan hpl (by with_unfolding_all rfl) ?_)
    | (go_at_call 7; (with_reducible refine cN.mono ?_); rintro e w5 ⟨⟨D, vF, V5⟩, ta, tc, rfl, h5⟩; dsimp only; have H5 : Hid (LZ W4 W4.heap.size ⟨D, vF, V5⟩ (noN (pF m b a)) ta tc false 0 0 0 0 w5) := h5; clear h5))
  clear cN hpl r3
  generalize hBB : W4.heap.size = B at *
  (try simp only [Act.put])
  go_wp2_with fail
  go_loopw [38] (fun i wr => FlR W4 B D vF (noN (pF m b a)) ta tc i wr) (fun i _ => 7 - (intOf i).toNat)
  case atStart => exact ⟨0, V5, false, 0, 0, by omega, rfl, by omega, H5.out⟩
  case round =>
    clear H5
    obtain ⟨k, V, lk, la, nd, hk, rfl, hla, hz⟩ := hrel
    by_cases hlt : k < 7
    · have hlt' : (k : Int) < 7 := by omega
      have hO : One (wr.alloc (.cells #[.bool true, .slice none 0 0] 52)) wr.heap.size wr.heap.size true 0 0 := ⟨by simp, by simp, fun e => absurd rfl e, by decide⟩
      have cL := zlook W4 B ⟨D, vF, V⟩ (noN (pF m b a)) ta tc lk k la nd k wr.heap.size wr.heap.size true 0 0 k h (wr.alloc (.cells #[.bool true, .slice none 0 0] 52)) (hz.below ((Below.refl _ _).alloc (Nat.le_refl _) _)) HBd.out HP.out hO (by decide) (by decide) (hz.blk (Nat.le_refl _)) (hz.blk (Nat.le_refl _)) (by omega) ⟨hla, by omega⟩ (by omega)
      obtain ⟨z1, z2, z3⟩ := zN_fail (m := m) (b := b) (a := a) (h := h) (now := k) (nd := nd) (f := k) b0.1 b1.1 b3.1 (by omega)
      rw [z1, z2, z3, if_pos rfl] at cL
      dsimp only at cL
      clear z1 z2 z3 hO hz
      by_cases ha : 0 < a
      · by_cases hc : a ≤ (k : Int) + 1
        · have HR : Hid ((if a ≠ 0 ∧ a ≤ (k : Int) + 1 then b else h) = b) := if_pos ⟨by omega, hc⟩
          obtain ⟨M0, hM0⟩ : ∃ M0, max b m = M0 := ⟨_, rfl⟩
          obtain ⟨M1, hM1⟩ : ∃ M1, max M0 1 = M1 := ⟨_, rfl⟩
          have e3 : ∀ w, (Builtin.max_ #[3, 3, 3] 3 #[.int .i64 b, .int .i64 m, .int .i64 1]).run Tryd.prog w = .ok (.int .i64 M1) w := fun w => max3 (by rw [hM0, hM1]) w
          rw [HR.out, hM0, hM1] at cL
          clear hM0 hM1
          go_wp2_with (first
            | (go_at_call 9; (with_reducible refine cL.mono ?_); rintro e w8 ⟨V8, rfl, hz8, -⟩; have cF := zfails W4 B ⟨D, vF, V8⟩ (noN (pF m b a)) ta tc true ((k : Int) + 1) (k : Int) (k : Int) (k + 1) w8 hz8; have px8 := HX4.out.below hz8.bw HX4.out.lt; have a1 := px8.plat.c1; have a2 := px8.plat.c2; have a6 := px8.plat.c6; have a7 := px8.plat.c7; have HZ : Hid (FlR W4 B D vF (noN (pF m b a)) ta tc (.int .i64 ((k + 1 : Nat) : Int)) w8) := ⟨k + 1, V8, true, k, k, hlt, rfl, by omega, hz8⟩; clear hz8 px8; dsimp only [pF] at cF a1 a2 a6 a7)
            | (go_at_call 17; (with_reducible refine cF.mono ?_); rintro e w9 ⟨rfl, h9⟩; have h8 := h9.symm; clear h9; subst h8))
          go_roundw
          case rel => exact HZ.out
          case measure => simp [intOf]; omega
        · have HR : Hid ((if a ≠ 0 ∧ a ≤ (k : Int) + 1 then b else h) = h) := if_neg (fun e => hc e.2)
          obtain ⟨M0, hM0⟩ : ∃ M0, max h m = M0 := ⟨_, rfl⟩
          obtain ⟨M1, hM1⟩ : ∃ M1, max M0 1 = M1 := ⟨_, rfl⟩
          have e3 : ∀ w, (Builtin.max_ #[3, 3, 3] 3 #[.int .i64 h, .int .i64 m, .int .i64 1]).run Tryd.prog w = .ok (.int .i64 M1) w := fun w => max3 (by rw [hM0, hM1]) w
          rw [HR.out, hM0, hM1] at cL
          clear hM0 hM1
          go_wp2_with (first
            | (go_at_call 9; (with_reducible refine cL.mono ?_); rintro e w8 ⟨V8, rfl, hz8, -⟩; have cF := zfails W4 B ⟨D, vF, V8⟩ (noN (pF m b a)) ta tc true ((k : Int) + 1) (k : Int) (k : Int) (k + 1) w8 hz8; have px8 := HX4.out.below hz8.bw HX4.out.lt; have a1 := px8.plat.c1; have a2 := px8.plat.c2; have a6 := px8.plat.c6; have a7 := px8.plat.c7; have HZ : Hid (FlR W4 B D vF (noN (pF m b a)) ta tc (.int .i64 ((k + 1 : Nat) : Int)) w8) := ⟨k + 1, V8, true, k, k, hlt, rfl, by omega, hz8⟩; clear hz8 px8; dsimp only [pF] at cF a1 a2 a6 a7)
            | (go_at_call 17; (with_reducible refine cF.mono ?_); rintro e w9 ⟨rfl, h9⟩; have h8 := h9.symm; clear h9; subst h8))
          go_roundw
          case rel => exact HZ.out
          case measure => simp [intOf]; omega
      · have HR : Hid ((if a ≠ 0 ∧ a ≤ (k : Int) + 1 then b else h) = h) := if_neg (fun e => e.1 (by omega))
        obtain ⟨M0, hM0⟩ : ∃ M0, max h m = M0 := ⟨_, rfl⟩
        obtain ⟨M1, hM1⟩ : ∃ M1, max M0 1 = M1 := ⟨_, rfl⟩
        have e3 : ∀ w, (Builtin.max_ #[3, 3, 3] 3 #[.int .i64 h, .int .i64 m, .int .i64 1]).run Tryd.prog w = .ok (.int .i64 M1) w := fun w => max3 (by rw [hM0, hM1]) w
        rw [HR.out, hM0, hM1] at cL
        clear hM0 hM1
        go_wp2_with (first
          | (go_at_call 9; (with_reducible refine cL.mono ?_); rintro e w8 ⟨V8, rfl, hz8, -⟩; have cF := zfails W4 B ⟨D, vF, V8⟩ (noN (pF m b a)) ta tc true ((k : Int) + 1) (k : Int) (k : Int) (k + 1) w8 hz8; have px8 := HX4.out.below hz8.bw HX4.out.lt; have a1 := px8.plat.c1; have a2 := px8.plat.c2; have a6 := px8.plat.c6; have a7 := px8.plat.c7; have HZ : Hid (FlR W4 B D vF (noN (pF m b a)) ta tc (.int .i64 ((k + 1 : Nat) : Int)) w8) := ⟨k + 1, V8, true, k, k, hlt, rfl, by omega, hz8⟩; clear hz8 px8; dsimp only [pF] at cF a1 a2 a6 a7)
          | (go_at_call 17; (with_reducible refine cF.mono ?_); rintro e w9 ⟨rfl, h9⟩; have h8 := h9.symm; clear h9; subst h8))
        go_roundw
        case rel => exact HZ.out
        case measure => simp [intOf]; omega
    · obtain rfl : k = 7 := by omega
      have Hz : Hid (LZ W4 B ⟨D, vF, V⟩ (noN (pF m b a)) ta tc lk 7 la nd 7 wr) := hz
      have cD7 := cD 0 wr
      clear hz
      go_wp2_with (first
        | (go_at_call 18; (with_reducible refine cD7.mono ?_); rintro e w7 ⟨b7, c7, rfl, hO7, hb7, hc7, hw7⟩; have cL3 := zlook W4 B ⟨D, vF, V⟩ (noN (pF m b a)) ta tc lk 7 la nd 7 b7 c7 false 1 0 9 h w7 (Hz.out.below hw7) HBd.out HP.out hO7 (by decide) (by decide) (Hz.out.blk hb7) (Hz.out.blk hc7) (by decide) ⟨by omega, by decide⟩ (by omega); clear hO7 hb7 hc7 hw7; dsimp only at cL3)
        | (go_at_call 9; (with_reducible refine cL3.mono ?_); rintro e w8 ⟨V8, rfl, hz8, -⟩; have cF := zfails W4 B ⟨D, vF, V8⟩ (noN (pF m b a)) ta tc true _ _ _ 8 w8 hz8; have HF : Hid (Below w.heap.size w w8) := HB4.out.trans (hz8.bw.mono HB4.out.size); clear hz8; have ez : zF false 1 0 7 = 0 := (by decide); rw [ez] at cF; clear ez; dsimp only at cF)
        | (go_at_call 17; (with_reducible refine cF.mono ?_); rintro e w9 ⟨rfl, h9⟩; have h8 := h9.symm; clear h9; subst h8))
      go_ret
      exact ⟨rfl, HF.out⟩
end Lop
end Go.Proofs.YtbnnplfmhmmbnahDoor
