/- What a block takes of a plan; what plainPlan and depth answer. A loop of one plain trigger; what looks answers. A loop between a law's calls: what is known of it, and what a look of it answers. What LoopBounds' closures and rows answer. The law: never more than Max, never fewer than Min, but in a pause; with a need there is one at least. -/
import Derived.Test.YtbnnplfmhmmbnahDoorPkLopNew
import Derived.Test.YtbnnplfmhmmbnahDoorPkPlanMem
namespace Go.Proofs.YtbnnplfmhmmbnahDoor
namespace Lop
open Go.RowKit Rw Rec Plain Pln Frm Lpp Crn
set_option maxRecDepth 8000

theorem PX.again {w : World} {R : Nat} {p p' : Pd} {v v' : Value} (h : PX w R p v) : PX (w.setCells R 0 (planC p' v').toList) R p' v' := by
  have o := OnlyQ.sets R (planC p' v').toList w 0
  refine ⟨Nat.lt_of_lt_of_le h.lt o.size, ?_, fun j => (o.fz j).trans (h.fz j)⟩
  have e : setRow (planC p v) 0 (planC p' v').toList = planC p' v' := by simp [setRow]
  have := cells_sets (planC p' v').toList 0 h.cel (by simp)
  rw [e] at this
  exact this
/-- a plan is laid into a block, by one step of a walk -/
theorem wp_setPx {ops : Array Oper} {rest : List Oper} {x y : Operand} {ps : String} {af : Array Edge} {A : Act} {Q : Exit → Act → World → Prop} {w : World} {R : Nat} {p p' : Pd} {v v' : Value} (h : PX w R p v) (hv : v'.oneCell' = true) (hx : A.eval x = .pointer (some ⟨R, 0, none⟩)) (hy : A.eval y = planV p' v')
    (g : ∀ w', PX w' R p' v' → OnlyQ R w w' → wpList Tryd.prog ops Q rest (A.put none undef) w') :
    wpList Tryd.prog ops Q ({ dst := none, op := .store 26 x y, type := 0, pos := ps, after := af, guard := none } :: rest) A w :=
  wpList_store_mid rfl 26 x y rfl R 0 (planC p' v') hx hy (fun j hj => ⟨by rw [h.cel]; simp at hj ⊢; omega, h.fz _⟩) (by kernel_rfl) (by simp [Value.oneCell']; exact hv) (g _ h.again (OnlyQ.sets R _ _ _))
def pz : Pd := ⟨[], 0, 0, 0, 0, 0, 0, 0, 0, 0, 0, 0, 0, 0, 0, 0, 0⟩
theorem px_new (w : World) (ta : TypeId) : PX (w.alloc (.cells #[.string ⟨#[]⟩, .int .i64 0, .int .i64 0, .int .i64 0, .int .i64 0, .int .i64 0, .int .i64 0, .int .i64 0, .int .i64 0, .int .i64 0, .int .i64 0, .int .i64 0, .int .i64 0, .int .i64 0, .int .i64 0, .int .i64 0, .int .i64 0, .slice none 0 0] ta)) w.heap.size pz (.slice none 0 0) := ⟨by simp, fun o => by simp [planC, pz], fun o => by simp⟩
theorem wp_newPx {ops : Array Oper} {rest : List Oper} {x y : Operand} {ps : String} {af : Array Edge} {A : Act} {Q : Exit → Act → World → Prop} {w : World} {p' : Pd} {v' : Value} (hv : v'.oneCell' = true) (hx : A.eval x = .pointer (some ⟨w.heap.size, 0, none⟩)) (hy : A.eval y = planV p' v')
    (g : ∀ w', PX w' w.heap.size p' v' → Below w.heap.size w w' → wpList Tryd.prog ops Q rest (A.put none undef) w') :
    wpList Tryd.prog ops Q ({ dst := none, op := .store 26 x y, type := 0, pos := ps, after := af, guard := none } :: rest) A (w.alloc (.cells #[.string ⟨#[]⟩, .int .i64 0, .int .i64 0, .int .i64 0, .int .i64 0, .int .i64 0, .int .i64 0, .int .i64 0, .int .i64 0, .int .i64 0, .int .i64 0, .int .i64 0, .int .i64 0, .int .i64 0, .int .i64 0, .int .i64 0, .int .i64 0, .slice none 0 0] 26)) :=
  wp_setPx (px_new w 26) hv hx hy fun w' h1 h2 => g w' h1 (((Below.refl _ _).alloc (Nat.le_refl _) _).trans (h2.below (Nat.le_refl _) (by simp)))
/-- a plan is told out of its cells -/
theorem finPx {fn : Func} {q : Tmp} {Q : Ending → World → Prop} (hres : fn.results = #[.cell q 26]) {ex : Exit} (hex : ex = .ret ∨ ex = .normal) {a : Act} {Wf : World} {C : Nat} {p : Pd} {v : Value} (hp : a.tmps[q]? = some (.pointer (some ⟨C, 0, none⟩))) (ha : a.defers = [])
    (h : PX Wf C p v) (hQ : Q (.returned (planV p v)) Wf) : bodyPost Tryd.prog fn Q ex a Wf := by
  have hl := run_loadVar_mid (P := Tryd.prog) Wf C 0 26 _ _ (range_plan h.plat) Tryd.underlying26 rfl (by kernel_rfl)
  have hr : (results fn a.tmps).run Tryd.prog Wf = .ok (planV p v) Wf := by
    simp only [results, hres]
    simp [hp, asAddr, hl]
  rcases hex with rfl | rfl
  · exact bodyPost_ret hr ha hQ
  · exact bodyPost_end hr ha hQ
def k0 : K := ⟨0, 0, 0, 0, 0, false, false⟩
def t0 : Tr := ⟨2, 10, 0, k0, k0⟩
def p0 : Pd := ⟨[112], 0, 9, 2, 6, 0, 0, 0, 0, 0, 0, 0, 0, 0, 0, 0, 0⟩
theorem trs_one {w : World} {b : Nat} {t : Tr} (hb : b < w.heap.size) (h : ∀ j, w.cell? ⟨b, j, none⟩ = (trC t)[j]?) : TrsAt w (some ⟨b, 0, none⟩) [t] := by
  intro i t' hi
  cases i with
  | zero => simp at hi; subst hi; exact ⟨b, 0, rfl, hb, fun j _ => by rw [show 0 + (0 * 17 + j) = j by omega]; exact h j⟩
  | succ i => simp at hi
set_option maxHeartbeats 4000000 in
theorem pplan_any (w : World) : Calls Tryd.prog 16 #[] w fun e w' => ∃ b, e = .returned (planV p0 (.slice (some ⟨b, 0, none⟩) 1 1)) ∧ TrsAt w' (some ⟨b, 0, none⟩) [t0] ∧ w.heap.size ≤ b ∧ Below w.heap.size w w' := by
  have hX := px_new w 26
  have hb2 : ∀ o : Obj, Below (w.alloc (.cells #[.string ⟨#[]⟩, .int .i64 0, .int .i64 0, .int .i64 0, .int .i64 0, .int .i64 0, .int .i64 0, .int .i64 0, .int .i64 0, .int .i64 0, .int .i64 0, .int .i64 0, .int .i64 0, .int .i64 0, .int .i64 0, .int .i64 0, .int .i64 0, .slice none 0 0] 26)).heap.size (w.alloc (.cells #[.string ⟨#[]⟩, .int .i64 0, .int .i64 0, .int .i64 0, .int .i64 0, .int .i64 0, .int .i64 0, .int .i64 0, .int .i64 0, .int .i64 0, .int .i64 0, .int .i64 0, .int .i64 0, .int .i64 0, .int .i64 0, .int .i64 0, .int .i64 0, .slice none 0 0] 26)) ((w.alloc (.cells #[.string ⟨#[]⟩, .int .i64 0, .int .i64 0, .int .i64 0, .int .i64 0, .int .i64 0, .int .i64 0, .int .i64 0, .int .i64 0, .int .i64 0, .int .i64 0, .int .i64 0, .int .i64 0, .int .i64 0, .int .i64 0, .int .i64 0, .int .i64 0, .slice none 0 0] 26)).alloc o) := fun o => (Below.refl _ _).alloc (Nat.le_refl _) o
  have hX2 := fun o => hX.below (hb2 o) (by simp)
  go_enter Tryd.func16, Tryd.ntmps16
  go_wp2_with (with_reducible refine wp_setPx (hX2 _) (p' := p0) (v' := .slice (some ⟨w.heap.size + 1, 0, none⟩) 1 1) rfl (by with_unfolding_all rfl) (by with_unfolding_all rfl) ?_; intro w9 hX9 ho9)
  refine finPx Tryd.results16 (Or.inl rfl) rfl rfl hX9 ⟨w.heap.size + 1, rfl, ?_, Nat.le_succ _, ?_⟩
  · refine trs_one (Nat.lt_of_lt_of_le (by simp) ho9.size) (fun j => ?_)
    rw [ho9.cell (a := ⟨w.heap.size + 1, j, none⟩) (by simp) (by simp)]
    simp
    rfl
  · exact (((Below.refl _ _).alloc (Nat.le_refl _) _).alloc (by simp) _).trans (ho9.below (Nat.le_refl _) (by simp; omega))
theorem ints_one {w : World} {c : Nat} {z : Int} (h : w.cell? ⟨c, 0, none⟩ = some (.int .i64 z)) (h1 : -9223372036854775808 ≤ z) (h2 : z ≤ 9223372036854775807) : Ned.IntsAt w (some ⟨c, 0, none⟩) 1 (fun _ => z) := by
  intro i hi
  have : i = 0 := by omega
  subst this
  exact ⟨c, 0, rfl, World.block_lt_of_cell? w _ h, h, h1, h2⟩
/-- one reading, made by the law itself -/
structure One (w : World) (b c : Nat) (f : Bool) (n : Nat) (z : Int) : Prop where
  r0 : w.cell? ⟨b, 0, none⟩ = some (.bool f)
  r1 : w.cell? ⟨b, 1, none⟩ = some (if n = 0 then .slice none 0 0 else .slice (some ⟨c, 0, none⟩) 1 1)
  r2 : n ≠ 0 → w.cell? ⟨c, 0, none⟩ = some (.int .i64 z)
  n1 : n ≤ 1
theorem One.rds {w : World} {b c : Nat} {f : Bool} {n : Nat} {z : Int} (h : One w b c f n z) (h1 : -9223372036854775808 ≤ z) (h2 : z ≤ 9223372036854775807) : RdsAt w (some ⟨b, 0, none⟩) [⟨f, n, fun _ => z⟩] := by
  intro i r hi
  cases i with
  | succ i => simp at hi
  | zero =>
    simp at hi
    subst hi
    have hn := h.n1
    by_cases h0 : n = 0
    · subst h0
      exact ⟨b, 0, none, 0, rfl, World.block_lt_of_cell? w _ h.r0, h.r0, h.r1, by simp, fun i hi => by simp at hi⟩
    · have e : n = 1 := by omega
      subst e
      exact ⟨b, 0, some ⟨c, 0, none⟩, 1, rfl, World.block_lt_of_cell? w _ h.r0, h.r0, h.r1, by simp [maxLen], ints_one (h.r2 h0) h1 h2⟩
theorem One.mv {w w' : World} {b c : Nat} {f : Bool} {n : Nat} {z : Int} {B B' : Nat → Prop} (h : One w b c f n z) (m : Mv B B' w w') (hb : ¬ B b) (hc : ¬ B c) : One w' b c f n z :=
  ⟨mv_cell m h.r0 hb, mv_cell m h.r1 hb, fun e => mv_cell m (h.r2 e) hc, h.n1⟩
set_option maxHeartbeats 4000000 in
theorem depth_any (z : Int) (w : World) : Calls Tryd.prog 18 #[.int .i64 z] w fun e w' => ∃ b c, e = .returned (.slice (some ⟨b, 0, none⟩) 1 1) ∧ One w' b c false 1 z ∧ w.heap.size ≤ b ∧ w.heap.size ≤ c ∧ Below w.heap.size w w' := by
  go_enter Tryd.func18, Tryd.ntmps18
  go_wp2
  go_ret
  refine ⟨w.heap.size + 1, w.heap.size, rfl, ⟨by simp [go_sem], by simp [go_sem], fun _ => by simp [go_sem], by decide⟩, by simp, by simp, ((Below.refl _ _).alloc (Nat.le_refl _) _).alloc (by simp) _⟩
end Lop
end Go.Proofs.YtbnnplfmhmmbnahDoor
namespace Go.Proofs.YtbnnplfmhmmbnahDoor
namespace Lop
open Go.RowKit Rw Rec Plain Pln Frm Lpp Crn
set_option maxRecDepth 8000

theorem pick_in (sec sh : Int) : ∃ inF : Tr → Bool, ∀ t, inF t = true ↔ InP (mt t.a) (mt t.b) (minOf sec sh) sh :=
  ⟨fun t => @decide _ (Classical.propDecidable (InP (mt t.a) (mt t.b) (minOf sec sh) sh)), fun t => by simp⟩
/-- a loop of one plain trigger, without windows and paces, behind k looks -/
def LZ (w0 : World) (B : Nat) (x : Pl) (p : Pd) (ta : Option Addr) (tc : Nat) (lk : Bool) (f la nd : Int) (k : Nat) (wr : World) : Prop :=
  ∃ st H, LAt wr B x p ta tc [t0] ⟨[f], lk, la, nd, -1⟩ st ∧ LI [t0] ⟨[f], lk, la, nd, -1⟩ st k ∧ Stb.SI H st ∧ st.u = ⟨0, 0, 0, 0⟩ ∧ st.d = ⟨0, 0, 0, 0⟩ ∧ Below w0.heap.size w0 wr ∧ w0.heap.size ≤ B
theorem LZ.below {w0 : World} {B : Nat} {x : Pl} {p : Pd} {ta : Option Addr} {tc : Nat} {lk : Bool} {f la nd : Int} {k : Nat} {wr wy : World} (h : LZ w0 B x p ta tc lk f la nd k wr) (hb : Below wr.heap.size wr wy) : LZ w0 B x p ta tc lk f la nd k wy := by
  obtain ⟨st, H, h1, h2, h3, h4, h5, h6, h7⟩ := h
  exact ⟨st, H, h1.below hb, h2, h3, h4, h5, h6.trans (hb.mono h6.size), h7⟩
theorem k0_u : Us k0 := by constructor <;> simp [U, k0]
theorem t0_u : TrU t0 := ⟨by simp [I, t0], by simp [I, t0], by simp [I, t0], k0_u, k0_u⟩
theorem p0_i : PdI p0 := by constructor <;> simp [I, p0]
theorem t0_N (p : Pd) (hv : Int) (inF : Tr → Bool) (r : Rd) (f : Int) : stepN p hv inF t0 r f = stepN p hv (fun _ => false) t0 r f := by
  unfold stepN
  split
  · rfl
  · rw [if_neg (by decide), if_neg (by decide)]
theorem t0_A (inF : Tr → Bool) (r : Rd) (f : Int) : stepA inF t0 r f = stepA (fun _ => false) t0 r f := by
  unfold stepA
  rw [if_neg (by decide), if_neg (by decide)]
def zF (fl : Bool) (n : Nat) (z f : Int) : Int := stepF t0 ⟨fl, n, fun _ => z⟩ f
def zW (p : Pd) (hv : Int) (fl : Bool) (n : Nat) (z f : Int) : Int := max 0 (stepN p hv (fun _ => false) t0 ⟨fl, n, fun _ => z⟩ (zF fl n z f))
def zA (fl : Bool) (n : Nat) (z f : Int) : Bool := stepA (fun _ => false) t0 ⟨fl, n, fun _ => z⟩ (zF fl n z f)
def zN (p : Pd) (hv now nd : Int) (fl : Bool) (n : Nat) (z f : Int) : Int := min (max (zW p hv fl n z f) (lowF p hv now nd (zA fl n z f))) p.mx
theorem zlook (w0 : World) (B : Nat) (x : Pl) (p : Pd) (ta : Option Addr) (tc : Nat) (lk : Bool) (f la nd : Int) (k b c : Nat) (fl : Bool) (n : Nat) (z now hv : Int) (w : World) (h : LZ w0 B x p ta tc lk f la nd k w) (hB0 : Lai.BdsAt w0) (hP : PlOk p [t0]) (hO : One w b c fl n z) (hz1 : -9223372036854775808 ≤ z) (hz2 : z ≤ 9223372036854775807) (hb : ¬ blk x b) (hc : ¬ blk x c)
    (hk : k ≤ 400) (hn : la ≤ now ∧ now ≤ 1099511627776) (hh : 0 ≤ hv ∧ hv ≤ 50) :
    Calls Tryd.prog 9 #[.pointer (some ⟨x.D, 0, none⟩), .int .i64 now, .int .i64 0, .int .i64 hv, .slice (some ⟨b, 0, none⟩) 1 1, .bool false] w fun e w' => ∃ V', e = .returned (.tuple #[.int .i64 (zN p hv now nd fl n z f), .int .i64 0]) ∧ LZ w0 B ⟨x.D, x.vF, V'⟩ p ta tc true (zF fl n z f) now (if zA fl n z f = true then now else nd) (k + 1) w' ∧ Mv (blk x) (blk ⟨x.D, x.vF, V'⟩) w w' := by
  obtain ⟨st, H, h1, h2, h3, h4, h5, h6, h7⟩ := h
  obtain ⟨inF, hin⟩ := pick_in 0 p.sh
  have hBk : ∀ j, blk x j → w0.heap.size ≤ j := fun j hj => Nat.le_trans h7 (h1.blt hj).1
  have c1 := plook_any B x p ta (some ⟨b, 0, none⟩) tc 1 [t0] [⟨fl, n, fun _ => z⟩] ⟨[f], lk, la, nd, -1⟩ st now 0 hv false inF w h1 (fun wr m => hB0.below (h6.trans (m.below hBk h6.size)) (Nat.le_refl _)) hP (fun t ht => by simp at ht; subst ht; exact t0_u) h2.fl (h2.big (by omega)) (fun wr m => (hO.mv m hb hc).rds hz1 hz2) rfl (fun t _ _ => hin t) hn (by decide) hh h2.nd h2.la.1 (2 * k) h2.fi (by omega)
  refine c1.mono ?_
  rintro e w' ⟨rfl, V', hA', hm⟩
  have hW : wK p hv inF [t0] [⟨fl, n, fun _ => z⟩] [f] 1 = zW p hv fl n z f := by
    rw [wK_step (t := t0) (r := ⟨fl, n, fun _ => z⟩) (f := f) rfl rfl rfl, t0_N]
    rfl
  have hAk : aK false inF [t0] [⟨fl, n, fun _ => z⟩] [f] 1 = zA fl n z f := by
    rw [aK_step (t := t0) (r := ⟨fl, n, fun _ => z⟩) (f := f) rfl rfl rfl, t0_A]
    simp [aK, zA, zF]
  have hlen : ([t0] : List Tr).length = 1 := rfl
  rw [hlen, hW, hAk] at hA' ⊢
  have hfr := look_free (WK := zW p hv fl n z f) (AK := zA fl n z f) h3 h2 hP hn hh h4 h5 (show (-1 : Int) < 0 by decide)
  have hsi := si_look (WK := zW p hv fl n z f) (AK := zA fl n z f) h3 h2 hP hn hh
  have hli := h2.look (rs := [⟨fl, n, fun _ => z⟩]) (WK := zW p hv fl n z f) (AK := zA fl n z f) hP hn hh
  have hnx : nextL ⟨[f], lk, la, nd, -1⟩ [t0] [⟨fl, n, fun _ => z⟩] now (zA fl n z f) = ⟨[zF fl n z f], true, now, if zA fl n z f = true then now else nd, -1⟩ := by
    unfold nextL
    cases zA fl n z f <;> simp [fsK, zF]
  obtain ⟨⟨H', hH'⟩, hu', hd'⟩ := hsi
  rw [hnx] at hA' hli
  rw [hfr]
  exact ⟨V', rfl, ⟨_, H', hA', hli, hH', hu'.trans h4, hd'.trans h5, h6.trans (hm.below hBk h6.size), h7⟩, hm⟩
theorem zdue (w0 : World) (B : Nat) (x : Pl) (p : Pd) (ta : Option Addr) (tc : Nat) (lk : Bool) (f la nd : Int) (k : Nat) (now : Int) (w : World) (h : LZ w0 B x p ta tc lk f la nd k w) (hP : PlOk p [t0]) :
    Calls Tryd.prog 19 #[.pointer (some ⟨x.D, 0, none⟩), .int .i64 now] w fun e w' => e = .returned (.bool (!lk || decide (la + p.po ≤ now))) ∧ Below w.heap.size w w' := by
  obtain ⟨st, H, h1, h2, -⟩ := h
  exact due_any B x p ta tc [t0] ⟨[f], lk, la, nd, -1⟩ st now w h1 h2.la hP.po
theorem zfails (w0 : World) (B : Nat) (x : Pl) (p : Pd) (ta : Option Addr) (tc : Nat) (lk : Bool) (f la nd : Int) (k : Nat) (w : World) (h : LZ w0 B x p ta tc lk f la nd k w) :
    Calls Tryd.prog 17 #[.pointer (some ⟨x.D, 0, none⟩), .int .i64 0] w fun e w' => e = .returned (.int .i64 f) ∧ w' = w := by
  obtain ⟨st, H, h1, h2, -⟩ := h
  exact fails_any B x p ta tc [t0] ⟨[f], lk, la, nd, -1⟩ st 0 w h1
/-- a new one -/
theorem znew (p : Pd) (b : Nat) (w : World) (hB : Lai.BdsAt w) (hi : PdI p) (hl : p.nm.length ≤ 9223372036854775807) (hT : TrsAt w (some ⟨b, 0, none⟩) [t0]) (hc : chkP p [t0] = 0) (hu : nU p = ⟨0, 0, 0, 0⟩) (hd : nD p = ⟨0, 0, 0, 0⟩) :
    Calls Tryd.prog 7 #[planV p (.slice (some ⟨b, 0, none⟩) 1 1)] w fun e w' => ∃ x tb tcb, e = .returned (.tuple #[.pointer (some ⟨x.D, 0, none⟩), .int .i64 0]) ∧ LZ w w.heap.size x (noN p) tb tcb false 0 0 0 0 w' := by
  refine (lnew_yes p (some ⟨b, 0, none⟩) 1 [t0] w hB hi hl hT hc).mono ?_
  rintro e w' ⟨D, vF, tb, tcb, rfl, hA, hb, -⟩
  refine ⟨⟨D, vF, Stb.nilV⟩, tb, tcb, rfl, ⟨_, [], hA, LI.new [t0] _ _, si_new _ _, ?_, ?_, hb, Nat.le_refl _⟩⟩
  · rw [hu]; rfl
  · rw [hd]; rfl
theorem LZ.blk {w0 : World} {B : Nat} {x : Pl} {p : Pd} {ta : Option Addr} {tc : Nat} {lk : Bool} {f la nd : Int} {k : Nat} {wr : World} (h : LZ w0 B x p ta tc lk f la nd k wr) {j : Nat} (hj : wr.heap.size ≤ j) : ¬ blk x j := by
  obtain ⟨st, H, h1, -⟩ := h
  exact fun e => by have := (h1.blt e).2; omega
theorem LZ.bw {w0 : World} {B : Nat} {x : Pl} {p : Pd} {ta : Option Addr} {tc : Nat} {lk : Bool} {f la nd : Int} {k : Nat} {wr : World} (h : LZ w0 B x p ta tc lk f la nd k wr) : Below w0.heap.size w0 wr := by
  obtain ⟨st, H, h1, h2, h3, h4, h5, h6, h7⟩ := h
  exact h6
/-- one look of the plain plan -/
theorem dlook (w0 : World) (B D : Nat) (vF : Value) (ta : Option Addr) (tc : Nat) (lk : Bool) (la nd : Int) (k b c : Nat) (V : Nat → Value) (z now hv R : Int) (A : Bool) (w wd : World) (h : LZ w0 B ⟨D, vF, V⟩ (noN p0) ta tc lk 0 la nd k w) (hB0 : Lai.BdsAt w0) (hO : One wd b c false 1 z) (hb : w.heap.size ≤ b) (hc : w.heap.size ≤ c) (hbw : Below w.heap.size w wd) (hz1 : -9223372036854775808 ≤ z) (hz2 : z ≤ 9223372036854775807) (hk : k ≤ 400) (hn : la ≤ now ∧ now ≤ 1099511627776) (hh : 0 ≤ hv ∧ hv ≤ 50)
    (hR : zN (noN p0) hv now nd false 1 z 0 = R) (hA : zA false 1 z 0 = A) (hF : zF false 1 z 0 = 0) :
    Calls Tryd.prog 9 #[.pointer (some ⟨D, 0, none⟩), .int .i64 now, .int .i64 0, .int .i64 hv, .slice (some ⟨b, 0, none⟩) 1 1, .bool false] wd fun e w' => ∃ V', e = .returned (.tuple #[.int .i64 R, .int .i64 0]) ∧ LZ w0 B ⟨D, vF, V'⟩ (noN p0) ta tc true 0 now (if A = true then now else nd) (k + 1) w' := by
  have hP : PlOk (noN p0) [t0] := ok_noN (plOk_of (by decide))
  have c1 := zlook w0 B ⟨D, vF, V⟩ (noN p0) ta tc lk 0 la nd k b c false 1 z now hv wd (h.below hbw) hB0 hP hO hz1 hz2 (h.blk hb) (h.blk hc) hk hn hh
  rw [hR, hA, hF] at c1
  refine c1.mono ?_
  rintro e w' ⟨V', rfl, h', -⟩
  exact ⟨V', rfl, h'⟩
set_option maxHeartbeats 8000000 in
theorem looks_any (w : World) (hB : Lai.BdsAt w) : Calls Tryd.prog 6 #[] w fun e w' => e = .returned (.bool true) ∧ Below w.heap.size w w' := by
  have cP := pplan_any w
  have cD := fun z w => depth_any z w
  have hP : PlOk (noN p0) [t0] := ok_noN (plOk_of (by decide))
  have q1 : zN (noN p0) 0 1 0 false 1 25 0 = 3 ∧ zA false 1 25 0 = true ∧ zF false 1 25 0 = 0 := ⟨by decide, by decide, by decide⟩
  have q2 : zN (noN p0) 3 3 1 false 1 0 0 = 1 ∧ zA false 1 0 0 = false ∧ zF false 1 0 0 = 0 := ⟨by decide, by decide, by decide⟩
  have q3 : zN (noN p0) 1 7 1 false 1 0 0 = 0 := by decide
  have HB : Hid (Lai.BdsAt w) := hB
  have HQ1 : Hid (zN (noN p0) 0 1 0 false 1 25 0 = 3 ∧ zA false 1 25 0 = true ∧ zF false 1 25 0 = 0) := q1
  have HQ2 : Hid (zN (noN p0) 3 3 1 false 1 0 0 = 1 ∧ zA false 1 0 0 = false ∧ zF false 1 0 0 = 0) := q2
  have HQ3 : Hid (zN (noN p0) 1 7 1 false 1 0 0 = 0) := q3
  have HP : Hid (PlOk (noN p0) [t0]) := hP
  clear q1 q2 q3 hB hP
  go_enter Tryd.func6, Tryd.ntmps6
  go_wp2_with (first
    | (go_at_call 16; (with_reducible refine cP.mono ?_); rintro e w1 ⟨tb1, rfl, hT1, hl1, hb1⟩; have cN := znew p0 tb1 w1 (HB.out.below hb1 (Nat.le_refl _)) p0_i (by decide) hT1 (by decide) rfl rfl; have HB1 : Hid (Below w.heap.size w w1 ∧ Lai.BdsAt w1) := ⟨hb1, HB.out.below hb1 (Nat.le_refl _)⟩; clear hT1 hl1 hb1)
    | (go_at_call 7; (with_reducible refine cN.mono ?_); rintro e w2 ⟨⟨D, vF, V2⟩, ta, tc, rfl, h2⟩; dsimp only; have H2 : Hid (LZ w1 w1.heap.size ⟨D, vF, V2⟩ (noN p0) ta tc false 0 0 0 0 w2) := h2; clear h2 cN)
    | (go_at_call 18; (with_reducible refine (cD 25 w2).mono ?_); rintro e w3 ⟨b3, c3, rfl, hO3, hb3, hc3, hw3⟩; have cL1 := dlook w1 w1.heap.size D vF ta tc false 0 0 0 b3 c3 V2 25 1 0 3 true w2 w3 H2.out HB1.out.2 hO3 hb3 hc3 hw3 (by decide) (by decide) (by decide) (by decide) (by decide) HQ1.out.1 HQ1.out.2.1 HQ1.out.2.2; clear hO3 hb3 hc3 hw3)
    | (go_at_call 9; (with_reducible refine cL1.mono ?_); rintro e w4 ⟨V4, rfl, h4⟩; have H4 : Hid (LZ w1 w1.heap.size ⟨D, vF, V4⟩ (noN p0) ta tc true 0 1 1 1 w4) := h4; clear h4 cL1)
    | (go_at_call 18; (with_reducible refine (cD 0 w4).mono ?_); rintro e w5 ⟨b5, c5, rfl, hO5, hb5, hc5, hw5⟩; have cL2 := dlook w1 w1.heap.size D vF ta tc true 1 1 1 b5 c5 V4 0 3 3 1 false w4 w5 H4.out HB1.out.2 hO5 hb5 hc5 hw5 (by decide) (by decide) (by decide) (by decide) (by decide) HQ2.out.1 HQ2.out.2.1 HQ2.out.2.2; clear hO5 hb5 hc5 hw5)
    | (go_at_call 9; (with_reducible refine cL2.mono ?_); rintro e w6 ⟨V6, rfl, h6⟩; have H6 : Hid (LZ w1 w1.heap.size ⟨D, vF, V6⟩ (noN p0) ta tc true 0 3 1 2 w6) := h6; clear h6 cL2)
    | (go_at_call 18; (with_reducible refine (cD 0 w6).mono ?_); rintro e w7 ⟨b7, c7, rfl, hO7, hb7, hc7, hw7⟩; have cL3 := dlook w1 w1.heap.size D vF ta tc true 3 1 2 b7 c7 V6 0 7 1 0 false w6 w7 H6.out HB1.out.2 hO7 hb7 hc7 hw7 (by decide) (by decide) (by decide) (by decide) (by decide) HQ3.out HQ2.out.2.1 HQ2.out.2.2; clear hO7 hb7 hc7 hw7)
    | (go_at_call 9; (with_reducible refine cL3.mono ?_); rintro e w8 ⟨V8, rfl, h8⟩; have cD9 := zdue w1 w1.heap.size ⟨D, vF, V8⟩ (noN p0) ta tc true 0 7 1 3 9 w8 h8 HP.out; have H8 : Hid (LZ w1 w1.heap.size ⟨D, vF, V8⟩ (noN p0) ta tc true 0 7 1 3 w8) := h8; clear h8 cL3; dsimp only at cD9)
    | (go_at_call 19; (with_reducible refine cD9.mono ?_); rintro e w9 ⟨rfl, hb9⟩; have cD8 := zdue w1 w1.heap.size ⟨D, vF, V8⟩ (noN p0) ta tc true 0 7 1 3 8 w9 (H8.out.below hb9) HP.out; dsimp only at cD8; have H9 : Hid (Below w8.heap.size w8 w9) := hb9; clear hb9)
    | (go_at_call 19; (with_reducible refine cD8.mono ?_); rintro e w10 ⟨rfl, hb10⟩; have H10 : Hid (Below w9.heap.size w9 w10) := hb10; clear hb10))
  go_ret
  refine ⟨by rfl, ?_⟩
  have hh := HB1.out.1.trans ((H8.out.below H9.out).below H10.out |>.bw |>.mono HB1.out.1.size)
  exact hh
end Lop
end Go.Proofs.YtbnnplfmhmmbnahDoor
namespace Go.Proofs.YtbnnplfmhmmbnahDoor
namespace Lop
open Go.RowKit Rw Rec Plain Pln Frm Lpp Crn
set_option maxRecDepth 8000

structure LS (w0 : World) (B : Nat) (x : Pl) (p : Pd) (ta : Option Addr) (tc : Nat) (ts : List Tr) (s : Lp) (st : Stb.St) (k : Nat) (wr : World) : Prop where
  a : LAt wr B x p ta tc ts s st
  i : LI ts s st k
  b : Below w0.heap.size w0 wr
  g : w0.heap.size ≤ B
section
variable {w0 : World} {B : Nat} {x : Pl} {p : Pd} {ta : Option Addr} {tc : Nat} {ts : List Tr} {s : Lp} {st : Stb.St} {k : Nat} {wr wy : World}
theorem LS.below (h : LS w0 B x p ta tc ts s st k wr) (hb : Below wr.heap.size wr wy) : LS w0 B x p ta tc ts s st k wy := ⟨h.a.below hb, h.i, h.b.trans (hb.mono h.b.size), h.g⟩
theorem LS.lo (h : LS w0 B x p ta tc ts s st k wr) {j : Nat} (hj : blk x j) : w0.heap.size ≤ j := Nat.le_trans h.g (h.a.blt hj).1
theorem LS.nb (h : LS w0 B x p ta tc ts s st k wr) {j : Nat} (hj : j < w0.heap.size) : ¬ blk x j := fun e => by have := h.lo e; omega
theorem LS.hi (h : LS w0 B x p ta tc ts s st k wr) {j : Nat} (hj : wr.heap.size ≤ j) : ¬ blk x j := fun e => by have := (h.a.blt e).2; omega
theorem LS.mv {b' : Nat → Prop} (h : LS w0 B x p ta tc ts s st k wr) (m : Mv (blk x) b' wr wy) : Below w0.heap.size w0 wy := h.b.trans (m.below (fun _ hj => h.lo hj) h.b.size)
end
/-- what a look comes to between a law's calls -/
def LsA (w0 : World) (B : Nat) (x : Pl) (p : Pd) (ta : Option Addr) (tc : Nat) (ts : List Tr) (rs : List Rd) (s : Lp) (st : Stb.St) (k : Nat) (now hv : Int) (busy : Bool) (wr : World) (e : Ending) (w' : World) : Prop :=
  ∃ (inF : Tr → Bool) (V' : Nat → Value), e = .returned (.tuple #[.int .i64 (lookP p s st now hv (wK p hv inF ts rs s.fs ts.length) (aK busy inF ts rs s.fs ts.length)), .int .i64 0]) ∧
    LS w0 B ⟨x.D, x.vF, V'⟩ p ta tc ts (nextL s ts rs now (aK busy inF ts rs s.fs ts.length)) (nextS p s st now hv (wK p hv inF ts rs s.fs ts.length) (aK busy inF ts rs s.fs ts.length)) (k + 1) w' ∧ Mv (blk x) (blk ⟨x.D, x.vF, V'⟩) wr w'
theorem ls_look (w0 : World) (B : Nat) (x : Pl) (p : Pd) (ta ra : Option Addr) (tc rc : Nat) (ts : List Tr) (rs : List Rd) (s : Lp) (st : Stb.St) (k : Nat) (now sec hv : Int) (busy : Bool) (wr : World) (h : LS w0 B x p ta tc ts s st k wr) (hB0 : Lai.BdsAt w0) (hP : PlOk p ts) (hU : ∀ t ∈ ts, TrU t) (hR : ∀ wy, Mv (blk x) (blk x) wr wy → RdsAt wy ra rs)
    (hrl : rs.length = ts.length) (hk : k ≤ 400) (hn : s.la ≤ now ∧ now ≤ 1099511627776) (hs : -100000000000 ≤ sec ∧ sec ≤ 100000000000) (hh : 0 ≤ hv ∧ hv ≤ 50) :
    Calls Tryd.prog 9 #[.pointer (some ⟨x.D, 0, none⟩), .int .i64 now, .int .i64 sec, .int .i64 hv, .slice ra rs.length rc, .bool busy] wr (LsA w0 B x p ta tc ts rs s st k now hv busy wr) := by
  obtain ⟨inF, hin⟩ := pick_in sec p.sh
  have c := plook_any B x p ta ra tc rc ts rs s st now sec hv busy inF wr h.a (fun wy m => hB0.below (h.mv m) (Nat.le_refl _)) hP hU h.i.fl (h.i.big (by omega)) hR hrl (fun t _ _ => hin t) hn hs hh h.i.nd h.i.la.1 (2 * k) h.i.fi (by omega)
  refine c.mono ?_
  rintro e w' ⟨rfl, V', hA', hm⟩
  exact ⟨inF, V', rfl, ⟨hA', h.i.look hP hn hh, h.mv hm, h.g⟩, hm⟩
theorem ls_no (w0 : World) (B : Nat) (x : Pl) (p : Pd) (ta ra : Option Addr) (tc rc n : Nat) (ts : List Tr) (s : Lp) (st : Stb.St) (k : Nat) (now sec hv : Int) (busy : Bool) (wr : World) (h : LS w0 B x p ta tc ts s st k wr)
    (hno : ¬ ((s.la ≤ now ∧ now ≤ 1099511627776) ∧ (-100000000000 ≤ sec ∧ sec ≤ 100000000000) ∧ (0 ≤ hv ∧ hv ≤ 50) ∧ n = ts.length)) :
    Calls Tryd.prog 9 #[.pointer (some ⟨x.D, 0, none⟩), .int .i64 now, .int .i64 sec, .int .i64 hv, .slice ra n rc, .bool busy] wr fun e w' => e = .returned (.tuple #[.int .i64 0, .int .i64 1]) ∧ LS w0 B x p ta tc ts s st k w' ∧ Below wr.heap.size wr w' := by
  refine (plook_no B x p ta ra tc rc n ts s st now sec hv busy wr h.a hno).mono ?_
  rintro e w' ⟨rfl, hb⟩
  exact ⟨rfl, h.below hb, hb⟩
theorem ls_pause (w0 : World) (B : Nat) (x : Pl) (p : Pd) (ta : Option Addr) (tc : Nat) (ts : List Tr) (s : Lp) (st : Stb.St) (k : Nat) (n : Int) (wr : World) (h : LS w0 B x p ta tc ts s st k wr) (h1 : -1 ≤ n) (h2 : n ≤ 50) :
    Calls Tryd.prog 8 #[.pointer (some ⟨x.D, 0, none⟩), .int .i64 n] wr fun e w' => e = .returned (.int .i64 0) ∧ LS w0 B x p ta tc ts ⟨s.fs, s.lk, s.la, s.nd, n⟩ st k w' ∧ Mv (blk x) (blk x) wr w' := by
  refine (pause_yes B x p ta tc ts s st n wr h.a h1 h2).mono ?_
  rintro e w' ⟨rfl, hA, hm⟩
  exact ⟨rfl, ⟨hA, h.i.pause n, h.mv hm, h.g⟩, hm⟩
/-- a new one -/
theorem ls_new (p : Pd) (ta : Option Addr) (tc : Nat) (ts : List Tr) (w : World) (hB : Lai.BdsAt w) (hi : PdI p) (hl : p.nm.length ≤ 9223372036854775807) (hT : TrsAt w ta ts) (hc : chkP p ts = 0) :
    Calls Tryd.prog 7 #[planV p (.slice ta ts.length tc)] w fun e w' => ∃ x tb tcb, e = .returned (.tuple #[.pointer (some ⟨x.D, 0, none⟩), .int .i64 0]) ∧ LS w w.heap.size x (noN p) tb tcb ts (newL ts.length) (Stb.new (nU p) (nD p)) 0 w' := by
  refine (lnew_yes p ta tc ts w hB hi hl hT hc).mono ?_
  rintro e w' ⟨D, vF, tb, tcb, rfl, hA, hb, -⟩
  exact ⟨⟨D, vF, Stb.nilV⟩, tb, tcb, rfl, ⟨hA, LI.new ts _ _, hb, Nat.le_refl _⟩⟩
theorem rds_nil (w : World) (a : Option Addr) : RdsAt w a [] := fun i r h => by simp at h
end Lop
end Go.Proofs.YtbnnplfmhmmbnahDoor
namespace Go.Proofs.YtbnnplfmhmmbnahDoor
namespace Lop
open Go.RowKit Rw Rec Plain Pln Frm Lpp Crn
set_option maxRecDepth 8000

theorem lb1_any (t : Tr) (w : World) : Calls Tryd.prog 11 #[trV t] w fun e w' => (∃ b, e = .returned (.bool b)) ∧ Below w.heap.size w w' := by
  have HB : Hid (Below w.heap.size w (w.alloc (.cells (trC t) 46))) := (Below.refl _ _).alloc (Nat.le_refl _) _
  go_enter Tryd.func11, Tryd.ntmps11
  go_wp2
  go_ret
  exact ⟨⟨_, rfl⟩, HB.out⟩
def IxR (n : Nat) (w : World) (i : Value) (wr : World) : Prop := ∃ k : Nat, k ≤ n ∧ i = .int .i64 k ∧ Below w.heap.size w wr
set_option maxHeartbeats 4000000 in
theorem ift_any (ta : Option Addr) (tc : Nat) (ts : List Tr) (w : World) (hT : TrsAt w ta ts) (hl : ts.length ≤ 5) :
    Calls Tryd.prog 31 #[.slice ta ts.length tc, .func (.func 11) #[] #[]] w fun e w' => (∃ z : Int, e = .returned (.int .i64 z)) ∧ Below w.heap.size w w' := by
  go_enter Tryd.func31, Tryd.ntmps31
  go_wp2_with fail
  go_loopw [8] (fun i wr => IxR ts.length w i wr) (fun i _ => ts.length - (intOf i).toNat)
  case atStart => exact ⟨0, by omega, rfl, Below.refl _ _⟩
  case round =>
    obtain ⟨k, hk, rfl, hb⟩ := hrel
    by_cases hlt : k < ts.length
    · have hlt' : (k : Int) < (ts.length : Int) := by omega
      have hk5 : k < 5 := by omega
      obtain ⟨tr, htr⟩ : ∃ tr, ts[k]? = some tr := ⟨ts[k], by simp [hlt]⟩
      obtain ⟨tb, toff, rfl, htl, hTr⟩ := TrsAt.elem (hT.below hb (Nat.le_refl _)) htr
      have c1 := lb1_any tr wr
      have HB : Hid (Below w.heap.size w wr) := hb
      clear hb hT
      go_upto_if 16 with (first
        | (with_reducible refine wp_tr hTr (by with_unfolding_all rfl) ?_)
        | (go_at_call 11; (with_reducible refine c1.mono ?_); rintro e w8 ⟨⟨b, rfl⟩, hb8⟩))
      have HX : Hid (Below w.heap.size w w8) := HB.out.trans (hb8.mono HB.out.size)
      clear c1 hTr hb8 HB
      cases b
      · go_wp2
        go_roundw
        case rel => exact ⟨k + 1, hlt, rfl, HX.out⟩
        case measure => simp [intOf]; omega
      · go_wp2
        go_ret
        exact ⟨⟨_, rfl⟩, HX.out⟩
    · obtain rfl : k = ts.length := by omega
      have HB : Hid (Below w.heap.size w wr) := hb
      clear hb hT
      go_wp2
      go_ret
      exact ⟨⟨_, rfl⟩, HB.out⟩
theorem cft_any (ta : Option Addr) (tc : Nat) (ts : List Tr) (w : World) (hT : TrsAt w ta ts) (hl : ts.length ≤ 5) :
    Calls Tryd.prog 10 #[.slice ta ts.length tc, .func (.func 11) #[] #[]] w fun e w' => (∃ b : Bool, e = .returned (.bool b)) ∧ Below w.heap.size w w' := by
  have c := ift_any ta tc ts w hT hl
  clear hT
  go_enter Tryd.func10, Tryd.ntmps10
  go_wp2_with (go_at_call 31; (with_reducible refine c.mono ?_); rintro e w8 ⟨⟨z, rfl⟩, hb8⟩)
  go_ret
  exact ⟨⟨_, rfl⟩, hb8⟩
/-- the numbers from 0 on -/
def upN (n : Nat) : List Int := (List.range n).map fun i : Nat => (i : Int)
theorem upN_succ (n : Nat) : cels iK.c (upN (n + 1)) = cels iK.c (upN n) ++ [.int .i64 (n : Int)] := by
  unfold upN
  rw [List.range_succ, List.map_append, cels_append]
  rfl
def IdR (n : Nat) (w : World) (v i : Value) (wr : World) : Prop := ∃ (k : Nat) (a : Option Addr) (c : Nat), k ≤ n ∧ v = .slice a k c ∧ i = .int .i64 k ∧ wr.ownsRow w.heap.size 3 1 (.slice a k c) k (cels iK.c (upN k)) ∧ Below w.heap.size w wr
theorem own_shape {w : World} {B n s : Nat} {e : TypeId} {v : Value} {xs : List Value} (h : w.ownsRow B e s v n xs) : ∃ a c, v = .slice a n c := by
  rcases h.2 with ⟨h1, h2⟩ | ⟨g, cap, cur, h1, _⟩
  · exact ⟨none, 0, by rw [h1, h2]⟩
  · exact ⟨_, cap, h1⟩
set_option maxHeartbeats 4000000 in
theorem indices_any (n : Nat) (w : World) (hn : n ≤ 5) : Calls Tryd.prog 13 #[.int .i64 (n : Int)] w fun e w' => ∃ a c, e = .returned (.slice a n c) ∧ Ned.IntsAt w' a n (fun i => (i : Int)) ∧ Below w.heap.size w w' := by
  obtain ⟨i0, hi, hz0, hz1, hz2⟩ := info_parts info_i
  go_enter Tryd.func13, Tryd.ntmps13
  go_wp2_with fail
  go_loopw [3, 6] (fun v i wr => IdR n w v i wr) (fun _ i _ => n - (intOf i).toNat)
  case atStart => exact ⟨0, none, 0, by omega, rfl, rfl, ⟨rfl, Or.inl ⟨rfl, rfl⟩⟩, Below.refl _ _⟩
  case round =>
    obtain ⟨k, va, vc, hk, rfl, rfl, ho, hb⟩ := hrel
    by_cases hlt : k < n
    · have hlt' : (k : Int) < (n : Int) := by omega
      have hk5 : k < 5 := by omega
      have ho1 := ho.alloc (.cells #[.int .i64 (k : Int)] 3)
      have hb1 : Below w.heap.size w (wr.alloc (.cells #[.int .i64 (k : Int)] 3)) := hb.alloc hb.size _
      have HB : Hid (Below w.heap.size w (wr.alloc (.cells #[.int .i64 (k : Int)] 3)) ∧ w.heap.size ≤ wr.heap.size) := ⟨hb1, hb.size⟩
      have HV : Hid (∀ g, (Value.slice va k vc).ownBlock = some g → w.heap.size ≤ g) := fun g hg => (ho.lt g hg).1
      clear ho hb hb1
      go_wp2_with (at_builtin; (refine wpList_append_own _ rfl _ _ 49 rfl w.heap.size 3 i0 (.int .i64 0) 1 8 Tryd.underlying49 hi hz0 hz1 hz2 rfl (by decide) _ _ _ rfl ho1 ⟨wr.heap.size, 0, none⟩ 1 1 [.int .i64 (k : Int)] rfl ?qc1 ?qc2 ?qc3 ?qc4 ?qc5 ?qc6 ?_))
      case qc1 => rfl
      case qc2 =>
        intro j u hj
        cases j with
        | zero => simp at hj; subst hj; simp [Addr.add]
        | succ j => simp at hj
      case qc3 => intro u hu; simp at hu; subst hu; rfl
      case qc4 => unfold maxLen; omega
      case qc5 => omega
      case qc6 => have := HB.out.2; simp; omega
      intro v' w9 hown hgrow hnil
      obtain ⟨va9, vc9, rfl⟩ := own_shape hown
      have HX : Hid (IdR n w (.slice va9 (k + 1) vc9) (.int .i64 ((k + 1 : Nat) : Int)) w9) := by
        refine ⟨k + 1, va9, vc9, hlt, rfl, rfl, by rw [upN_succ]; exact hown, HB.out.1.grown hgrow HB.out.1.size HV.out⟩
      clear hown hgrow hnil
      go_wp2
      go_roundw
      case rel => exact HX.out
      case measure => simp [intOf]; omega
    · obtain rfl : k = n := by omega
      have HX2 : Hid (Ned.IntsAt wr va k (fun i => (i : Int)) ∧ Below w.heap.size w wr) := by
        refine ⟨fun i hi => ?_, hb⟩
        rcases ho.2 with ⟨h1, h2⟩ | ⟨g, cap, cur, h1, _⟩
        · omega
        · cases h1
          refine ⟨g, 0, rfl, (ho.lt g rfl).2, ?_, by show _ ≤ (i : Int); omega, by show (i : Int) ≤ _; omega⟩
          rw [Nat.zero_add, ho.cellAt i (by omega)]
          have := Rw.cels_get iK.len (upN k) i 0 (i : Int) (by simp [upN, hi]) (by decide)
          simpa [iK] using this
      clear ho hb
      go_wp2
      go_ret
      exact ⟨va, vc, rfl, HX2.out⟩
/-- where the closure of LoopBounds looks: the glance in block C, the plan in block P -/
structure Clo (w : World) (C P : Nat) (ra ta : Option Addr) (rc tc : Nat) (rs : List Rd) (ts : List Tr) : Prop where
  g : w.cell? ⟨C, 5, none⟩ = some (.slice ra rs.length rc)
  p : w.cell? ⟨P, 17, none⟩ = some (.slice ta ts.length tc)
  r : RdsAt w ra rs
  t : TrsAt w ta ts
  l : rs.length = ts.length
  n : ts.length ≤ 5
theorem Clo.below {w w' : World} {C P : Nat} {ra ta : Option Addr} {rc tc : Nat} {rs : List Rd} {ts : List Tr} (h : Clo w C P ra ta rc tc rs ts) (hb : Below w.heap.size w w') : Clo w' C P ra ta rc tc rs ts :=
  ⟨(hb.cell (World.block_lt_of_cell? w _ h.g)).trans h.g, (hb.cell (World.block_lt_of_cell? w _ h.p)).trans h.p, h.r.below hb (Nat.le_refl _), h.t.below hb (Nat.le_refl _), h.l, h.n⟩
set_option maxHeartbeats 4000000 in
theorem lb2_any (C P : Nat) (ra ta : Option Addr) (rc tc : Nat) (rs : List Rd) (ts : List Tr) (i : Nat) (t : Tr) (r : Rd) (w : World) (h : Clo w C P ra ta rc tc rs ts) (ht : ts[i]? = some t) (hr : rs[i]? = some r) :
    Calls Tryd.prog 14 #[.int .i64 (i : Int), .pointer (some ⟨C, 0, none⟩), .pointer (some ⟨P, 0, none⟩)] w fun e w' => e = .returned (.bool (failed t r)) ∧ w' = w := by
  have hi : i < ts.length := (List.getElem?_eq_some_iff.1 ht).1
  have hi' : (i : Int) < (ts.length : Int) := by omega
  have hir : (i : Int) < (rs.length : Int) := by have := h.l; omega
  obtain ⟨rb, roff, la, lc, rfl, -, r0, -, -, -⟩ := h.r i r hr
  obtain ⟨tb, toff, rfl, -, hTr⟩ := TrsAt.elem h.t ht
  have t0 := hTr.c0
  have g := h.g
  have p := h.p
  have HF : Hid (failed t r = (r.f && t.k != 3)) := rfl
  clear h hTr
  cases hf : r.f
  · rw [hf] at r0
    have HE : Hid (failed t r = false) := by unfold Hid; rw [HF.out, hf]; rfl
    go_enter Tryd.func14, Tryd.ntmps14
    go_wp2
    go_ret
    exact ⟨by rw [HE.out]; rfl, rfl⟩
  · rw [hf] at r0
    have HE : Hid (failed t r = (t.k != 3)) := by unfold Hid; rw [HF.out, hf]; rfl
    go_enter Tryd.func14, Tryd.ntmps14
    go_wp2
    go_ret
    exact ⟨by rw [HE.out]; rfl, rfl⟩
def SomeF (rs : List Rd) (ts : List Tr) : Prop := ∃ (i : Nat) (t : Tr) (r : Rd), ts[i]? = some t ∧ rs[i]? = some r ∧ failed t r = true
def IiR (n : Nat) (w : World) (i : Value) (wr : World) : Prop := ∃ k : Nat, k ≤ n ∧ i = .int .i64 k ∧ wr = w
def IfA (rs : List Rd) (ts : List Tr) (w : World) (e : Ending) (w' : World) : Prop := ∃ z : Int, e = .returned (.int .i64 z) ∧ (0 ≤ z → SomeF rs ts) ∧ w' = w
set_option maxHeartbeats 4000000 in
theorem ifi_any (C P : Nat) (ra ta va : Option Addr) (rc tc vc : Nat) (rs : List Rd) (ts : List Tr) (w : World) (h : Clo w C P ra ta rc tc rs ts) (hV : Ned.IntsAt w va ts.length (fun i => (i : Int))) :
    Calls Tryd.prog 32 #[.slice va ts.length vc, .func (.func 14) #[] #[.pointer (some ⟨C, 0, none⟩), .pointer (some ⟨P, 0, none⟩)]] w (IfA rs ts w) := by
  have hl5 := h.n
  go_enter Tryd.func32, Tryd.ntmps32
  go_wp2_with fail
  go_loopw [8] (fun i wr => IiR ts.length w i wr) (fun i _ => ts.length - (intOf i).toNat)
  case atStart => exact ⟨0, by omega, rfl, rfl⟩
  case round =>
    obtain ⟨k, hk, rfl, hwr⟩ := hrel
    subst hwr
    by_cases hlt : k < ts.length
    · have hlt' : (k : Int) < (ts.length : Int) := by omega
      have hk5 : k < 5 := by omega
      obtain ⟨tr, htr⟩ : ∃ tr, ts[k]? = some tr := ⟨ts[k], by simp [hlt]⟩
      obtain ⟨rd, hrd⟩ : ∃ rd, rs[k]? = some rd := ⟨rs[k]'(by have := h.l; omega), by simp⟩
      obtain ⟨vb, vo, rfl, -, vc0, -⟩ := hV k hlt
      have c := lb2_any C P ra ta rc tc rs ts k tr rd wr h htr hrd
      have HS : Hid (failed tr rd = true → SomeF rs ts) := fun e => ⟨k, tr, rd, htr, hrd, e⟩
      clear h hV htr hrd
      cases hf : failed tr rd
      · rw [hf] at c
        go_wp2_with (go_at_call 14; (with_reducible refine c.mono ?_); rintro e w9 ⟨rfl, h9⟩; have h8 := h9.symm; clear h9; subst h8)
        go_roundw
        case rel => exact ⟨k + 1, hlt, rfl, rfl⟩
        case measure => simp [intOf]; omega
      · rw [hf] at c HS
        go_wp2_with (go_at_call 14; (with_reducible refine c.mono ?_); rintro e w9 ⟨rfl, h9⟩; have h8 := h9.symm; clear h9; subst h8)
        go_ret
        exact ⟨_, rfl, fun _ => HS.out (by trivial), rfl⟩
    · obtain rfl : k = ts.length := by omega
      clear h hV
      go_wp2
      go_ret
      exact ⟨-1, rfl, fun e => absurd e (by decide), rfl⟩
theorem cfi_any (C P : Nat) (ra ta va : Option Addr) (rc tc vc : Nat) (rs : List Rd) (ts : List Tr) (w : World) (h : Clo w C P ra ta rc tc rs ts) (hV : Ned.IntsAt w va ts.length (fun i => (i : Int))) :
    Calls Tryd.prog 12 #[.slice va ts.length vc, .func (.func 14) #[] #[.pointer (some ⟨C, 0, none⟩), .pointer (some ⟨P, 0, none⟩)]] w fun e w' => ∃ b : Bool, e = .returned (.bool b) ∧ (b = true → SomeF rs ts) ∧ w' = w := by
  have c := ifi_any C P ra ta va rc tc vc rs ts w h hV
  clear h hV
  go_enter Tryd.func12, Tryd.ntmps12
  go_wp2_with (go_at_call 32; (with_reducible refine c.mono ?_); rintro e w9 ⟨z, rfl, hz, h9⟩; have h8 := h9.symm; clear h9; subst h8; have HZ : Hid (0 ≤ z → SomeF rs ts) := hz; clear hz)
  go_ret
  exact ⟨_, rfl, fun e => HZ.out (by simpa using e), rfl⟩
/-- a trigger that failed makes a need -/
theorem aK_failed {b : Bool} {inF : Tr → Bool} {ts : List Tr} {rs : List Rd} {fs : List Int} {n : Int} (hf : FsOk fs n) (hl : fs.length = ts.length) (h : SomeF rs ts) : aK b inF ts rs fs ts.length = true := by
  obtain ⟨i, t, r, ht, hr, hfl⟩ := h
  have hi : i < ts.length := (List.getElem?_eq_some_iff.1 ht).1
  obtain ⟨f, hff⟩ : ∃ f, fs[i]? = some f := ⟨fs[i]'(by omega), by simp⟩
  have h0 := hf f (List.mem_of_getElem? hff)
  have hs : stepA inF t r (stepF t r f) = true := by
    have : 0 < stepF t r f := by unfold stepF; rw [hfl]; simp; omega
    unfold stepA
    simp [this]
  have hk : ∀ k, i < k → aK b inF ts rs fs k = true := by
    intro k
    induction k with
    | zero => intro h; omega
    | succ k ih =>
      intro hik
      by_cases e : i = k
      · subst e; rw [aK_step ht hr hff, hs]; simp
      · have := ih (by omega)
        simp only [aK]
        split
        · rw [this]; rfl
        · exact this
  exact hk _ hi
theorem aK_busy (inF : Tr → Bool) (ts : List Tr) (rs : List Rd) (fs : List Int) (k : Nat) : aK true inF ts rs fs k = true := by
  rw [aK_or]; simp
end Lop
end Go.Proofs.YtbnnplfmhmmbnahDoor
namespace Go.Proofs.YtbnnplfmhmmbnahDoor
namespace Lop
open Go.RowKit Rw Rec Plain Pln Frm Lpp Crn
set_option maxRecDepth 8000

def FvR (N : Int) (w9 : World) (fv : Value) (wx : World) : Prop := ∃ F : Bool, fv = .bool F ∧ (F = true → 1 ≤ N) ∧ Below w9.heap.size w9 wx
def BlR (w1 : World) (B D : Nat) (vF : Value) (p : Pd) (tb : Option Addr) (tcb : Nat) (ts : List Tr) (n : Nat) (paused i : Value) (wr : World) : Prop :=
  ∃ (k : Nat) (V : Nat → Value) (s : Lp) (st : Stb.St), k ≤ n ∧ i = .int .i64 k ∧ paused = .bool (decide (0 ≤ s.pa)) ∧ -1 ≤ s.pa ∧ LS w1 B ⟨D, vF, V⟩ p tb tcb ts s st k wr
theorem LS.mono {w0 : World} {B : Nat} {x : Pl} {p : Pd} {ta : Option Addr} {tc : Nat} {ts : List Tr} {s : Lp} {st : Stb.St} {k l : Nat} {wr : World} (h : LS w0 B x p ta tc ts s st k wr) (hk : k ≤ l) : LS w0 B x p ta tc ts s st l wr := ⟨h.a, h.i.mono hk, h.b, h.g⟩
set_option maxHeartbeats 16000000 in
theorem loopBounds_any (p : Pd) (ta ga : Option Addr) (tc gc : Nat) (ts : List Tr) (gs : List Gl) (w : World) (hB : Lai.BdsAt w) (hi : PdI p) (hl : p.nm.length ≤ 9223372036854775807) (hT : TrsAt w ta ts) (hU : ∀ t ∈ ts, TrU t) (hG : GlsAt w ga gs) :
    Calls Tryd.prog 3 #[planV p (.slice ta ts.length tc), .slice ga gs.length gc] w fun e w' => e = .returned (.bool true) ∧ Below w.heap.size w w' := by
  obtain ⟨W0, hW0⟩ : ∃ W0, W0 = w.alloc (.cells (planC p (.slice ta ts.length tc)) 26) := ⟨_, rfl⟩
  have hX0 : PX W0 w.heap.size p (.slice ta ts.length tc) := by rw [hW0]; exact ⟨by simp, fun o => by simp, fun o => by simp⟩
  have hb0 : Below w.heap.size w W0 := by rw [hW0]; exact (Below.refl _ _).alloc (Nat.le_refl _) _
  have HW0 : Hid (W0 = w.alloc (.cells (planC p (.slice ta ts.length tc)) 26)) := hW0
  have cLs := looks_any W0 (hB.below hb0 (Nat.le_refl _))
  clear hW0
  go_enter Tryd.func3, Tryd.ntmps3
  go_upto_region 1 with fail
  rw [← HW0.out]
  clear HW0
  go_upto_region 3 with (go_at_call 6; (with_reducible refine cLs.mono ?_); rintro e W2 ⟨rfl, hb1⟩)
  clear cLs
  have hP2 := hX0.below hb1 hX0.lt
  have hB2 : Below w.heap.size w W2 := hb0.trans (hb1.mono hb0.size)
  have hpl := hP2.plat
  have HB2 : Hid (Below w.heap.size w W2) := hB2
  have HBd : Hid (Lai.BdsAt W2) := hB.below hB2 (Nat.le_refl _)
  have HT : Hid (TrsAt W2 ta ts) := hT.below hB2 (Nat.le_refl _)
  have HG : Hid (GlsAt W2 ga gs) := hG.below hB2 (Nat.le_refl _)
  have HPx : Hid (PX W2 w.heap.size p (.slice ta ts.length tc)) := hP2
  clear hX0 hb0 hb1 hB2 hB hT hG hP2
  by_cases hc : chkP p ts = 0
  · have hP0 := plOk_of hc
    have HP : Hid (PlOk (noN p) ts) := ok_noN hP0
    have hl5 := hP0.len
    have cN := ls_new p ta tc ts W2 HBd.out hi hl HT.out hc
    by_cases h60 : 60 < gs.length
    · have h60' : (60 : Int) < (gs.length : Int) := by omega
      go_wp2_with (first
        | (with_reducible refine wp_plan hpl (by with_unfolding_all rfl) ?_)
        | (go_at_call 7; (with_reducible refine cN.mono ?_); rintro e w5 ⟨⟨D, vF, V5⟩, tb, tcb, rfl, h5⟩; dsimp only; have H5 : Hid (Below W2.heap.size W2 w5) := h5.b; clear h5))
      go_ret
      exact ⟨rfl, HB2.out.trans (H5.out.mono HB2.out.size)⟩
    · have h60' : ¬ (60 : Int) < (gs.length : Int) := by omega
      go_upto_region 7 with (first
        | (with_reducible refine wp_plan hpl (by with_unfolding_all rfl) ?_)
        | (go_at_call 7; (with_reducible refine cN.mono ?_); rintro e w5 ⟨⟨D, vF, V5⟩, tb, tcb, rfl, h5⟩; dsimp only; have H5 : Hid (LS W2 W2.heap.size ⟨D, vF, V5⟩ (noN p) tb tcb ts (newL ts.length) (Stb.new (nU p) (nD p)) 0 w5) := h5; clear h5))
      clear cN hpl
      (try simp only [Act.put])
      go_wp2_with fail
      go_loopw [7, 35] (fun pv i wr => BlR W2 W2.heap.size D vF (noN p) tb tcb ts gs.length pv i wr) (fun _ i _ => gs.length - (intOf i).toNat)
      case atStart => exact ⟨0, V5, newL ts.length, _, by omega, rfl, rfl, by simp [newL], H5.out⟩
      case round =>
        clear H5
        obtain ⟨k, V, s, st, hk, rfl, rfl, hpa, h⟩ := hrel
        by_cases hlt : k < gs.length
        · have hlt' : (k : Int) < (gs.length : Int) := by omega
          have hk60 : k < 60 := by omega
          obtain ⟨g, hg⟩ : ∃ g, gs[k]? = some g := ⟨gs[k], by simp [hlt]⟩
          obtain ⟨hgB, gb, go, ra, rc, rfl, hgl, d0, d1, d2, d3, d4, d5, d6, hR⟩ := HG.out k g hg
          have hcl : ∀ o, wr.cell? ⟨gb, o, none⟩ = W2.cell? ⟨gb, o, none⟩ := fun o => h.b.cell (p := ⟨gb, o, none⟩) hgl
          have g0 := (hcl _).trans d0
          have g1 := (hcl _).trans d1
          have g2 := (hcl _).trans d2
          have g3 := (hcl _).trans d3
          have g4 := (hcl _).trans d4
          have g5 := (hcl _).trans d5
          have g6 := (hcl _).trans d6
          have HR : Hid (RdsAt W2 ra g.rs) := hR
          clear hcl d0 d1 d2 d3 d4 d5 d6
          obtain ⟨W8, hW8⟩ : ∃ W8, W8 = wr.alloc (.cells #[.int .i64 g.kd, .int .i64 g.now, .int .i64 g.sec, .int .i64 g.hv, .int .i64 g.n, .slice ra g.rs.length rc, .bool g.busy] 35) := ⟨_, rfl⟩
          have hb8 : Below wr.heap.size wr W8 := by rw [hW8]; exact (Below.refl _ _).alloc (Nat.le_refl _) _
          have hC : ∀ j u, (#[.int .i64 g.kd, .int .i64 g.now, .int .i64 g.sec, .int .i64 g.hv, .int .i64 g.n, .slice ra g.rs.length rc, .bool g.busy] : Array Value)[j]? = some u → W8.cell? ⟨wr.heap.size, j, none⟩ = some u := fun j u hu => by rw [hW8]; exact cellN rfl hu
          have HW8 : Hid (W8 = wr.alloc (.cells #[.int .i64 g.kd, .int .i64 g.now, .int .i64 g.sec, .int .i64 g.hv, .int .i64 g.n, .slice ra g.rs.length rc, .bool g.busy] 35)) := hW8
          have h8 := h.below hb8
          have hCn := h.hi (Nat.le_refl wr.heap.size)
          have k0 := hC 0 _ rfl
          have k1 := hC 1 _ rfl
          have k2 := hC 2 _ rfl
          have k3 := hC 3 _ rfl
          have k4 := hC 4 _ rfl
          have k5 := hC 5 _ rfl
          have k6 := hC 6 _ rfl
          have H8 : Hid (LS W2 W2.heap.size ⟨D, vF, V⟩ (noN p) tb tcb ts s st k W8) := h8
          clear hW8 hC h h8 hb8 hR
          go_upto_region 10 with fail
          rw [← HW8.out]
          clear HW8 g0 g1 g2 g3 g4 g5 g6
          generalize wr.heap.size = C at *
          by_cases h1 : g.kd = 1
          · rw [h1] at k0
            by_cases hN : -1 ≤ g.n ∧ g.n ≤ 50
            · have cP := ls_pause W2 W2.heap.size ⟨D, vF, V⟩ (noN p) tb tcb ts s st k g.n W8 H8.out hN.1 hN.2
              dsimp only at cP
              go_wp2_with (go_at_call 8; (with_reducible refine cP.mono ?_); rintro e w9 ⟨rfl, hS9, hm9⟩; have k0' := mv_cell hm9 k0 hCn; have k4' := mv_cell hm9 k4 hCn; have HX : Hid (BlR W2 W2.heap.size D vF (noN p) tb tcb ts gs.length (.bool (decide (0 ≤ g.n))) (.int .i64 ((k + 1 : Nat) : Int)) w9) := ⟨k + 1, V, ⟨s.fs, s.lk, s.la, s.nd, g.n⟩, st, hlt, rfl, rfl, hN.1, hS9.mono (Nat.le_succ _)⟩; clear hS9 hm9)
              go_roundw
              case rel => exact HX.out
              case measure => simp [intOf]; omega
            · have cP := pause_no ⟨D, vF, V⟩ g.n W8 hN
              dsimp only at cP
              have HX : Hid (BlR W2 W2.heap.size D vF (noN p) tb tcb ts gs.length (.bool (decide (0 ≤ s.pa))) (.int .i64 ((k + 1 : Nat) : Int)) W8) := ⟨k + 1, V, s, st, hlt, rfl, rfl, hpa, H8.out.mono (Nat.le_succ _)⟩
              generalize decide (0 ≤ s.pa) = PV at *
              go_wp2_with (go_at_call 8; (with_reducible refine cP.mono ?_); rintro e w9 ⟨rfl, h9⟩; have h8 := h9.symm; clear h9; subst h8)
              go_roundw
              case rel => exact HX.out
              case measure => simp [intOf]; omega
          · have d1 : (g.kd == 1) = false := by rw [beq_eq_false_iff_ne]; exact h1
            by_cases h0 : g.kd = 0
            · rw [h0] at k0 d1
              by_cases hok : (s.la ≤ g.now ∧ g.now ≤ 1099511627776) ∧ (-100000000000 ≤ g.sec ∧ g.sec ≤ 100000000000) ∧ (0 ≤ g.hv ∧ g.hv ≤ 50) ∧ g.rs.length = ts.length
              · obtain ⟨q1, q2, q3, hrl⟩ := hok
                have hU' := hU
                have cL := ls_look W2 W2.heap.size ⟨D, vF, V⟩ (noN p) tb ra tcb rc ts g.rs s st k g.now g.sec g.hv g.busy W8 H8.out HBd.out HP.out hU' (fun wy m => HR.out.below (H8.out.mv m) (Nat.le_refl _)) hrl (by omega) q1 q2 q3
                dsimp only at cL
                rw [hrl] at cL
                have hfo := H8.out.i.fo
                have hfl := H8.out.i.fl
                by_cases hp0 : 0 ≤ s.pa
                · have dpa : decide (0 ≤ s.pa) = true := by simp [hp0]
                  have HN : Hid (∀ e w9, LsA W2 W2.heap.size ⟨D, vF, V⟩ (noN p) tb tcb ts g.rs s st k g.now g.hv g.busy W8 e w9 → ∃ N, e = .returned (.tuple #[.int .i64 N, .int .i64 0]) ∧ BlR W2 W2.heap.size D vF (noN p) tb tcb ts gs.length (.bool true) (.int .i64 ((k + 1 : Nat) : Int)) w9) := by
                    rintro e w9 ⟨inF, V9, rfl, hS9, hm9⟩
                    exact ⟨_, rfl, k + 1, V9, (nextL s ts g.rs g.now (aK g.busy inF ts g.rs s.fs ts.length)), (nextS (noN p) s st g.now g.hv (wK (noN p) g.hv inF ts g.rs s.fs ts.length) (aK g.busy inF ts g.rs s.fs ts.length)), hlt, rfl, by show Value.bool true = .bool (decide (0 ≤ s.pa)); rw [dpa], hpa, hS9⟩
                  rw [dpa]
                  clear hfo hfl hU'
                  go_wp2_with (go_at_call 9; (with_reducible refine cL.mono ?_); rintro e w9 hL; obtain ⟨N, rfl, hX⟩ := HN.out e w9 hL; have HX : Hid (BlR W2 W2.heap.size D vF (noN p) tb tcb ts gs.length (.bool true) (.int .i64 ((k + 1 : Nat) : Int)) w9) := hX; clear hX hL)
                  go_roundw
                  case rel => exact HX.out
                  case measure => simp [intOf]; omega
                · have dpa : decide (0 ≤ s.pa) = false := by simp; omega
                  have HN : Hid (∀ e w9, LsA W2 W2.heap.size ⟨D, vF, V⟩ (noN p) tb tcb ts g.rs s st k g.now g.hv g.busy W8 e w9 → ∃ N, e = .returned (.tuple #[.int .i64 N, .int .i64 0]) ∧ p.mn ≤ N ∧ N ≤ p.mx ∧ (g.busy = true → 1 ≤ N) ∧ (SomeF g.rs ts → 1 ≤ N) ∧ Below W2.heap.size W2 w9 ∧ w9.cell? ⟨C, 5, none⟩ = some (.slice ra ts.length rc) ∧ w9.cell? ⟨C, 6, none⟩ = some (.bool g.busy) ∧ ∀ wy, Below w9.heap.size w9 wy → BlR W2 W2.heap.size D vF (noN p) tb tcb ts gs.length (.bool false) (.int .i64 ((k + 1 : Nat) : Int)) wy) := by
                    rintro e w9 ⟨inF, V9, rfl, hS9, hm9⟩
                    have hbd := look_bds (p := noN p) (ts := ts) (s := s) (st := st) (now := g.now) (hv := g.hv) (WK := wK (noN p) g.hv inF ts g.rs s.fs ts.length) (AK := aK g.busy inF ts g.rs s.fs ts.length) HP.out (by omega)
                    refine ⟨_, rfl, hbd.1, hbd.2.1, fun e => hbd.2.2.1 (by rw [e]; exact aK_busy _ _ _ _ _), fun e => hbd.2.2.1 (aK_failed hfo hfl e), hS9.b, by rw [← hrl]; exact mv_cell hm9 k5 hCn, mv_cell hm9 k6 hCn, fun wy hb => ⟨k + 1, V9, (nextL s ts g.rs g.now (aK g.busy inF ts g.rs s.fs ts.length)), (nextS (noN p) s st g.now g.hv (wK (noN p) g.hv inF ts g.rs s.fs ts.length) (aK g.busy inF ts g.rs s.fs ts.length)), hlt, rfl, by show Value.bool false = .bool (decide (0 ≤ s.pa)); rw [dpa], hpa, hS9.below hb⟩⟩
                  rw [dpa]
                  clear hfo hfl hU'
                  go_upto_region 15 with (go_at_call 9; (with_reducible refine cL.mono ?_); rintro e w9 hL; obtain ⟨N, rfl, n1, n2, n3, n4, n5, m5, m6, hX⟩ := HN.out e w9 hL; clear hL)
                  have px9 := (HPx.out.below n5 HPx.out.lt)
                  have hT9 := HT.out.below n5 (Nat.le_refl _)
                  have hR9 := HR.out.below n5 (Nat.le_refl _)
                  have hClo : Clo w9 C w.heap.size ra ta rc tc g.rs ts := ⟨by rw [hrl]; exact m5, px9.plat.c17, hR9, hT9, hrl, hl5⟩
                  have a17 := px9.plat.c17
                  have HX : Hid (∀ wy, Below w9.heap.size w9 wy → BlR W2 W2.heap.size D vF (noN p) tb tcb ts gs.length (.bool false) (.int .i64 ((k + 1 : Nat) : Int)) wy) := hX
                  have H9 : Hid (Below W2.heap.size W2 w9) := n5
                  have hCl9 := World.block_lt_of_cell? w9 _ m5
                  have cF := cft_any ta tc ts w9 hT9 hl5
                  have HClo : Hid (Clo w9 C w.heap.size ra ta rc tc g.rs ts) := hClo
                  have HPx9 : Hid (PX w9 w.heap.size p (.slice ta ts.length tc)) := px9
                  clear hX n5 hT9 hR9 cL HN hClo px9 k0 k1 k2 k3 k4 k5 k6
                  go_cut [12] (fun fv wx => FvR N w9 fv wx)
                  case first =>
                    have HN4 : Hid (SomeF g.rs ts → 1 ≤ N) := n4
                    clear n1 n2 n3 n4
                    go_wp2_with (first
                      | (go_at_call 10; (with_reducible refine cF.mono ?_); rintro e w10 ⟨⟨b1, rfl⟩, hb10⟩; have hClo10 := HClo.out.below hb10; have g5' := hClo10.g; rw [hrl] at g5'; have cI := indices_any ts.length w10 hl5; have HB10 : Hid (Below w9.heap.size w9 w10) := hb10; have HClo10 : Hid (Clo w10 C w.heap.size ra ta rc tc g.rs ts) := hClo10; clear hb10 hClo10; cases b1)
                      | (go_at_call 13; (with_reducible refine cI.mono ?_); rintro e w11 ⟨va, vc, rfl, hV, hb11⟩; have cC := cfi_any C w.heap.size ra ta va rc tc vc g.rs ts w11 (HClo10.out.below hb11) hV; have HB11 : Hid (Below w9.heap.size w9 w11) := HB10.out.trans (hb11.mono HB10.out.size); clear hV hb11)
                      | (go_at_call 12; (with_reducible refine cC.mono ?_); rintro e w12 ⟨b2, rfl, hb2, h9⟩; have h8 := h9.symm; clear h9; subst h8; have HB2' : Hid (b2 = true → SomeF g.rs ts) := hb2; clear hb2))
                    · go_meet
                      exact ⟨false, rfl, fun e => by simp at e, HB10.out⟩
                    · go_meet
                      exact ⟨b2, rfl, fun e => HN4.out (HB2'.out e), HB11.out⟩
                  case rest =>
                    obtain ⟨F, rfl, hF, hbx⟩ := hcut
                    have HX2 := HX.out wc hbx
                    have HX3 : Hid (BlR W2 W2.heap.size D vF (noN p) tb tcb ts gs.length (.bool false) (.int .i64 ((k + 1 : Nat) : Int)) wc) := HX2
                    have pxc := (HPx9.out.below hbx HPx9.out.lt).plat
                    have e1 := pxc.c1
                    have e2 := pxc.c2
                    have e6 := (hbx.cell (p := ⟨C, 6, none⟩) hCl9).trans m6
                    have nmx : ¬ p.mx < N := by omega
                    have nmn : ¬ N < p.mn := by omega
                    clear HX2 pxc hbx m5 m6 a17 HX cF
                    cases hbu : g.busy
                    · rw [hbu] at e6
                      cases F
                      · clear hF n3 n4
                        go_wp2
                        go_roundw
                        case rel => exact HX3.out
                        case measure => simp [intOf]; omega
                      · have n9 : ¬ N < 1 := by have := hF rfl; omega
                        clear hF n3 n4
                        go_wp2
                        go_roundw
                        case rel => exact HX3.out
                        case measure => simp [intOf]; omega
                    · rw [hbu] at e6
                      have n9 : ¬ N < 1 := by have := n3 hbu; omega
                      clear hF n3 n4
                      go_wp2
                      go_roundw
                      case rel => exact HX3.out
                      case measure => simp [intOf]; omega
              · have cL := ls_no W2 W2.heap.size ⟨D, vF, V⟩ (noN p) tb ra tcb rc g.rs.length ts s st k g.now g.sec g.hv g.busy W8 H8.out hok
                dsimp only at cL
                have HPV : Hid (-1 ≤ s.pa) := hpa
                go_wp2_with (go_at_call 9; (with_reducible refine cL.mono ?_); rintro e w9 ⟨rfl, hS9, hb9⟩; have HX : Hid (BlR W2 W2.heap.size D vF (noN p) tb tcb ts gs.length (.bool (decide (0 ≤ s.pa))) (.int .i64 ((k + 1 : Nat) : Int)) w9) := ⟨k + 1, V, s, st, hlt, rfl, rfl, hpa, hS9.mono (Nat.le_succ _)⟩; clear hS9 hb9)
                go_roundw
                case rel => exact HX.out
                case measure => simp [intOf]; omega
            · have d0 : (g.kd != 0) = true := by rw [bne_iff_ne]; exact h0
              have HX : Hid (BlR W2 W2.heap.size D vF (noN p) tb tcb ts gs.length (.bool (decide (0 ≤ s.pa))) (.int .i64 ((k + 1 : Nat) : Int)) W8) := ⟨k + 1, V, s, st, hlt, rfl, rfl, hpa, H8.out.mono (Nat.le_succ _)⟩
              generalize decide (0 ≤ s.pa) = PV at *
              clear h0 h1
              go_wp2
              go_roundw
              case rel => exact HX.out
              case measure => simp [intOf]; omega
        · obtain rfl : k = gs.length := by omega
          have HF : Hid (Below w.heap.size w wr) := HB2.out.trans (h.b.mono HB2.out.size)
          clear h
          go_wp2
          go_ret
          exact ⟨rfl, HF.out⟩
  · have cN := lnew_no p ta tc ts W2 HBd.out hi hl HT.out hc
    have dne : (chkP p ts != 0) = true := by rw [bne_iff_ne]; exact hc
    have deq : (chkP p ts == 0) = false := by rw [beq_eq_false_iff_ne]; exact hc
    generalize chkP p ts = E at *
    go_wp2_with (first
      | (with_reducible refine wp_plan hpl (by with_unfolding_all rfl) ?_)
      | (go_at_call 7; (with_reducible refine cN.mono ?_); rintro e w5 ⟨rfl, hb5⟩; have H5 : Hid (Below W2.heap.size W2 w5) := hb5; clear hb5))
    go_ret
    exact ⟨rfl, HB2.out.trans (H5.out.mono HB2.out.size)⟩
end Lop
end Go.Proofs.YtbnnplfmhmmbnahDoor
