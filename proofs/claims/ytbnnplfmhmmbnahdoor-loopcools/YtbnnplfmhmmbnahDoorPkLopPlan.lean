/- What a block takes of a plan; what plainPlan and depth answer. A loop of one plain trigger; what looks answers. A loop between a law's calls: what is known of it, and what a look of it answers. The law: to zero it goes just when nothing was needed for so long as the plan says. -/
import Derived.Test.YtbnnplfmhmmbnahDoorPkLopNew
import Derived.Test.YtbnnplfmhmmbnahDoorPkPlanMem
import Derived.Test.YtbnnplfmhmmbnahDoorPkNumWalks
namespace Go.Proofs.YtbnnplfmhmmbnahDoor
namespace Lop
open Go.RowKit Rw Rec Plain Pln Frm Lpp Crn
set_option maxRecDepth 8000

theorem PX.again {w : World} {R : Nat} {p p' : Pd} {v v' : Value} (h : PX w R p v) : PX (w.setCells R 0 (planC p' v').toList) R p' v' := by
  have o := OnlyQ.sets R (planC p' v').toList w 0
  refine ⟨Nat.lt_of_lt_of_le h.lt o.size, ?_, fun j => (o.fz j).trans (h.fz j)⟩
  have e : setRow (planC p v) 0 (planC p' v').toList = planC p' v' := by simp [setRow]
  have := cells_sets (planC p' v').toList 0 h.cel (by simp)
  rw [e] at this
  exact this
/-- a plan is laid into a block, by one step of a walk -/
theorem wp_setPx {ops : Array Oper} {rest : List Oper} {x y : Operand} {ps : String} {af : Array Edge} {A : Act} {Q : Exit → Act → World → Prop} {w : World} {R : Nat} {p p' : Pd} {v v' : Value} (h : PX w R p v) (hv : v'.oneCell' = true) (hx : A.eval x = .pointer (some ⟨R, 0, none⟩)) (hy : A.eval y = planV p' v')
    (g : ∀ w', PX w' R p' v' → OnlyQ R w w' → wpList Tryd.prog ops Q rest (A.put none undef) w') :
    wpList Tryd.prog ops Q ({ dst := none, op := .store 26 x y, type := 0, pos := ps, after := af, guard := none } :: rest) A w :=
  wpList_store_mid rfl 26 x y rfl R 0 (planC p' v') hx hy (fun j hj => ⟨by rw [h.cel]; simp at hj ⊢; omega, h.fz _⟩) (by kernel_rfl) (by simp [Value.oneCell']; exact hv) (g _ h.again (OnlyQ.sets R _ _ _))
def pz : Pd := ⟨[], 0, 0, 0, 0, 0, 0, 0, 0, 0, 0, 0, 0, 0, 0, 0, 0⟩
theorem px_new (w : World) (ta : TypeId) : PX (w.alloc (.cells #[.string ⟨#[]⟩, .int .i64 0, .int .i64 0, .int .i64 0, .int .i64 0, .int .i64 0, .int .i64 0, .int .i64 0, .int .i64 0, .int .i64 0, .int .i64 0, .int .i64 0, .int .i64 0, .int .i64 0, .int .i64 0, .int .i64 0, .int .i64 0, .slice none 0 0] ta)) w.heap.size pz (.slice none 0 0) := ⟨by simp, fun o => by simp [planC, pz], fun o => by simp⟩
theorem wp_newPx {ops : Array Oper} {rest : List Oper} {x y : Operand} {ps : String} {af : Array Edge} {A : Act} {Q : Exit → Act → World → Prop} {w : World} {p' : Pd} {v' : Value} (hv : v'.oneCell' = true) (hx : A.eval x = .pointer (some ⟨w.heap.size, 0, none⟩)) (hy : A.eval y = planV p' v')
    (g : ∀ w', PX w' w.heap.size p' v' → Below w.heap.size w w' → wpList Tryd.prog ops Q rest (A.put none undef) w') :
    wpList Tryd.prog ops Q ({ dst := none, op := .store 26 x y, type := 0, pos := ps, after := af, guard := none } :: rest) A (w.alloc (.cells #[.string ⟨#[]⟩, .int .i64 0, .int .i64 0, .int .i64 0, .int .i64 0, .int .i64 0, .int .i64 0, .int .i64 0, .int .i64 0, .int .i64 0, .int .i64 0, .int .i64 0, .int .i64 0, .int .i64 0, .int .i64 0, .int .i64 0, .int .i64 0, .slice none 0 0] 26)) :=
  wp_setPx (px_new w 26) hv hx hy fun w' h1 h2 => g w' h1 (((Below.refl _ _).alloc (Nat.le_refl _) _).trans (h2.below (Nat.le_refl _) (by simp)))
/-- a plan is told out of its cells -/
theorem finPx {fn : Func} {q : Tmp} {Q : Ending → World → Prop} (hres : fn.results = #[.cell q 26]) {ex : Exit} (hex : ex = .ret ∨ ex = .normal) {a : Act} {Wf : World} {C : Nat} {p : Pd} {v : Value} (hp : a.tmps[q]? = some (.pointer (some ⟨C, 0, none⟩))) (ha : a.defers = [])
    (h : PX Wf C p v) (hQ : Q (.returned (planV p v)) Wf) : bodyPost Tryd.prog fn Q ex a Wf := by
  have hl := run_loadVar_mid (P := Tryd.prog) Wf C 0 26 _ _ (range_plan h.plat) Tryd.underlying26 rfl (by kernel_rfl)
  have hr : (results fn a.tmps).run Tryd.prog Wf = .ok (planV p v) Wf := by
    simp only [results, hres]
    simp [hp, asAddr, hl]
  rcases hex with rfl | rfl
  · exact bodyPost_ret hr ha hQ
  · exact bodyPost_end hr ha hQ
def k0 : K := ⟨0, 0, 0, 0, 0, false, false⟩
def t0 : Tr := ⟨2, 10, 0, k0, k0⟩
def p0 : Pd := ⟨[112], 0, 9, 2, 6, 0, 0, 0, 0, 0, 0, 0, 0, 0, 0, 0, 0⟩
theorem trs_one {w : World} {b : Nat} {t : Tr} (hb : b < w.heap.size) (h : ∀ j, w.cell? ⟨b, j, none⟩ = (trC t)[j]?) : TrsAt w (some ⟨b, 0, none⟩) [t] := by
  intro i t' hi
  cases i with
  | zero => simp at hi; subst hi; exact ⟨b, 0, rfl, hb, fun j _ => by rw [show 0 + (0 * 17 + j) = j by omega]; exact h j⟩
  | succ i => simp at hi
set_option maxHeartbeats 4000000 in
theorem pplan_any (w : World) : Calls Tryd.prog 16 #[] w fun e w' => ∃ b, e = .returned (planV p0 (.slice (some ⟨b, 0, none⟩) 1 1)) ∧ TrsAt w' (some ⟨b, 0, none⟩) [t0] ∧ w.heap.size ≤ b ∧ Below w.heap.size w w' := by
  have hX := px_new w 26
  have hb2 : ∀ o : Obj, Below (w.alloc (.cells #[.string ⟨#[]⟩, .int .i64 0, .int .i64 0, .int .i64 0, .int .i64 0, .int .i64 0, .int .i64 0, .int .i64 0, .int .i64 0, .int .i64 0, .int .i64 0, .int .i64 0, .int .i64 0, .int .i64 0, .int .i64 0, .int .i64 0, .int .i64 0, .slice none 0 0] 26)).heap.size (w.alloc (.cells #[.string ⟨#[]⟩, .int .i64 0, .int .i64 0, .int .i64 0, .int .i64 0, .int .i64 0, .int .i64 0, .int .i64 0, .int .i64 0, .int .i64 0, .int .i64 0, .int .i64 0, .int .i64 0, .int .i64 0, .int .i64 0, .int .i64 0, .int .i64 0, .slice none 0 0] 26)) ((w.alloc (.cells #[.string ⟨#[]⟩, .int .i64 0, .int .i64 0, .int .i64 0, .int .i64 0, .int .i64 0, .int .i64 0, .int .i64 0, .int .i64 0, .int .i64 0, .int .i64 0, .int .i64 0, .int .i64 0, .int .i64 0, .int .i64 0, .int .i64 0, .int .i64 0, .slice none 0 0] 26)).alloc o) := fun o => (Below.refl _ _).alloc (Nat.le_refl _) o
  have hX2 := fun o => hX.below (hb2 o) (by simp)
  go_enter Tryd.func16, Tryd.ntmps16
  go_wp2_with (with_reducible refine wp_setPx (hX2 _) (p' := p0) (v' := .slice (some ⟨w.heap.size + 1, 0, none⟩) 1 1) rfl (by with_unfolding_all rfl) (by with_unfolding_all rfl) ?_; intro w9 hX9 ho9)
  refine finPx Tryd.results16 (Or.inl rfl) rfl rfl hX9 ⟨w.heap.size + 1, rfl, ?_, Nat.le_succ _, ?_⟩
  · refine trs_one (Nat.lt_of_lt_of_le (by simp) ho9.size) (fun j => ?_)
    rw [ho9.cell (a := ⟨w.heap.size + 1, j, none⟩) (by simp) (by simp)]
    simp
    rfl
  · exact (((Below.refl _ _).alloc (Nat.le_refl _) _).alloc (by simp) _).trans (ho9.below (Nat.le_refl _) (by simp; omega))
theorem ints_one {w : World} {c : Nat} {z : Int} (h : w.cell? ⟨c, 0, none⟩ = some (.int .i64 z)) (h1 : -9223372036854775808 ≤ z) (h2 : z ≤ 9223372036854775807) : Ned.IntsAt w (some ⟨c, 0, none⟩) 1 (fun _ => z) := by
  intro i hi
  have : i = 0 := by omega
  subst this
  exact ⟨c, 0, rfl, World.block_lt_of_cell? w _ h, h, h1, h2⟩
/-- one reading, made by the law itself -/
structure One (w : World) (b c : Nat) (f : Bool) (n : Nat) (z : Int) : Prop where
  r0 : w.cell? ⟨b, 0, none⟩ = some (.bool f)
  r1 : w.cell? ⟨b, 1, none⟩ = some (if n = 0 then .slice none 0 0 else .slice (some ⟨c, 0, none⟩) 1 1)
  r2 : n ≠ 0 → w.cell? ⟨c, 0, none⟩ = some (.int .i64 z)
  n1 : n ≤ 1
theorem One.rds {w : World} {b c : Nat} {f : Bool} {n : Nat} {z : Int} (h : One w b c f n z) (h1 : -9223372036854775808 ≤ z) (h2 : z ≤ 9223372036854775807) : RdsAt w (some ⟨b, 0, none⟩) [⟨f, n, fun _ => z⟩] := by
  intro i r hi
  cases i with
  | succ i => simp at hi
  | zero =>
    simp at hi
    subst hi
    have hn := h.n1
    by_cases h0 : n = 0
    · subst h0
      exact ⟨b, 0, none, 0, rfl, World.block_lt_of_cell? w _ h.r0, h.r0, h.r1, by simp, fun i hi => by simp at hi⟩
    · have e : n = 1 := by omega
      subst e
      exact ⟨b, 0, some ⟨c, 0, none⟩, 1, rfl, World.block_lt_of_cell? w _ h.r0, h.r0, h.r1, by simp [maxLen], ints_one (h.r2 h0) h1 h2⟩
theorem One.mv {w w' : World} {b c : Nat} {f : Bool} {n : Nat} {z : Int} {B B' : Nat → Prop} (h : One w b c f n z) (m : Mv B B' w w') (hb : ¬ B b) (hc : ¬ B c) : One w' b c f n z :=
  ⟨mv_cell m h.r0 hb, mv_cell m h.r1 hb, fun e => mv_cell m (h.r2 e) hc, h.n1⟩
set_option maxHeartbeats 4000000 in
theorem depth_any (z : Int) (w : World) : Calls Tryd.prog 18 #[.int .i64 z] w fun e w' => ∃ b c, e = .returned (.slice (some ⟨b, 0, none⟩) 1 1) ∧ One w' b c false 1 z ∧ w.heap.size ≤ b ∧ w.heap.size ≤ c ∧ Below w.heap.size w w' := by
  go_enter Tryd.func18, Tryd.ntmps18
  go_wp2
  go_ret
  refine ⟨w.heap.size + 1, w.heap.size, rfl, ⟨by simp [go_sem], by simp [go_sem], fun _ => by simp [go_sem], by decide⟩, by simp, by simp, ((Below.refl _ _).alloc (Nat.le_refl _) _).alloc (by simp) _⟩
end Lop
end Go.Proofs.YtbnnplfmhmmbnahDoor
namespace Go.Proofs.YtbnnplfmhmmbnahDoor
namespace Lop
open Go.RowKit Rw Rec Plain Pln Frm Lpp Crn
set_option maxRecDepth 8000

theorem pick_in (sec sh : Int) : ∃ inF : Tr → Bool, ∀ t, inF t = true ↔ InP (mt t.a) (mt t.b) (minOf sec sh) sh :=
  ⟨fun t => @decide _ (Classical.propDecidable (InP (mt t.a) (mt t.b) (minOf sec sh) sh)), fun t => by simp⟩
/-- a loop of one plain trigger, without windows and paces, behind k looks -/
def LZ (w0 : World) (B : Nat) (x : Pl) (p : Pd) (ta : Option Addr) (tc : Nat) (lk : Bool) (f la nd : Int) (k : Nat) (wr : World) : Prop :=
  ∃ st H, LAt wr B x p ta tc [t0] ⟨[f], lk, la, nd, -1⟩ st ∧ LI [t0] ⟨[f], lk, la, nd, -1⟩ st k ∧ Stb.SI H st ∧ st.u = ⟨0, 0, 0, 0⟩ ∧ st.d = ⟨0, 0, 0, 0⟩ ∧ Below w0.heap.size w0 wr ∧ w0.heap.size ≤ B
theorem LZ.below {w0 : World} {B : Nat} {x : Pl} {p : Pd} {ta : Option Addr} {tc : Nat} {lk : Bool} {f la nd : Int} {k : Nat} {wr wy : World} (h : LZ w0 B x p ta tc lk f la nd k wr) (hb : Below wr.heap.size wr wy) : LZ w0 B x p ta tc lk f la nd k wy := by
  obtain ⟨st, H, h1, h2, h3, h4, h5, h6, h7⟩ := h
  exact ⟨st, H, h1.below hb, h2, h3, h4, h5, h6.trans (hb.mono h6.size), h7⟩
theorem k0_u : Us k0 := by constructor <;> simp [U, k0]
theorem t0_u : TrU t0 := ⟨by simp [I, t0], by simp [I, t0], by simp [I, t0], k0_u, k0_u⟩
theorem p0_i : PdI p0 := by constructor <;> simp [I, p0]
theorem t0_N (p : Pd) (hv : Int) (inF : Tr → Bool) (r : Rd) (f : Int) : stepN p hv inF t0 r f = stepN p hv (fun _ => false) t0 r f := by
  unfold stepN
  split
  · rfl
  · rw [if_neg (by decide), if_neg (by decide)]
theorem t0_A (inF : Tr → Bool) (r : Rd) (f : Int) : stepA inF t0 r f = stepA (fun _ => false) t0 r f := by
  unfold stepA
  rw [if_neg (by decide), if_neg (by decide)]
def zF (fl : Bool) (n : Nat) (z f : Int) : Int := stepF t0 ⟨fl, n, fun _ => z⟩ f
def zW (p : Pd) (hv : Int) (fl : Bool) (n : Nat) (z f : Int) : Int := max 0 (stepN p hv (fun _ => false) t0 ⟨fl, n, fun _ => z⟩ (zF fl n z f))
def zA (fl : Bool) (n : Nat) (z f : Int) : Bool := stepA (fun _ => false) t0 ⟨fl, n, fun _ => z⟩ (zF fl n z f)
def zN (p : Pd) (hv now nd : Int) (fl : Bool) (n : Nat) (z f : Int) : Int := min (max (zW p hv fl n z f) (lowF p hv now nd (zA fl n z f))) p.mx
theorem zlook (w0 : World) (B : Nat) (x : Pl) (p : Pd) (ta : Option Addr) (tc : Nat) (lk : Bool) (f la nd : Int) (k b c : Nat) (fl : Bool) (n : Nat) (z now hv : Int) (w : World) (h : LZ w0 B x p ta tc lk f la nd k w) (hB0 : Lai.BdsAt w0) (hP : PlOk p [t0]) (hO : One w b c fl n z) (hz1 : -9223372036854775808 ≤ z) (hz2 : z ≤ 9223372036854775807) (hb : ¬ blk x b) (hc : ¬ blk x c)
    (hk : k ≤ 400) (hn : la ≤ now ∧ now ≤ 1099511627776) (hh : 0 ≤ hv ∧ hv ≤ 50) :
    Calls Tryd.prog 9 #[.pointer (some ⟨x.D, 0, none⟩), .int .i64 now, .int .i64 0, .int .i64 hv, .slice (some ⟨b, 0, none⟩) 1 1, .bool false] w fun e w' => ∃ V', e = .returned (.tuple #[.int .i64 (zN p hv now nd fl n z f), .int .i64 0]) ∧ LZ w0 B ⟨x.D, x.vF, V'⟩ p ta tc true (zF fl n z f) now (if zA fl n z f = true then now else nd) (k + 1) w' ∧ Mv (blk x) (blk ⟨x.D, x.vF, V'⟩) w w' := by
  obtain ⟨st, H, h1, h2, h3, h4, h5, h6, h7⟩ := h
  obtain ⟨inF, hin⟩ := pick_in 0 p.sh
  have hBk : ∀ j, blk x j → w0.heap.size ≤ j := fun j hj => Nat.le_trans h7 (h1.blt hj).1
  have c1 := plook_any B x p ta (some ⟨b, 0, none⟩) tc 1 [t0] [⟨fl, n, fun _ => z⟩] ⟨[f], lk, la, nd, -1⟩ st now 0 hv false inF w h1 (fun wr m => hB0.below (h6.trans (m.below hBk h6.size)) (Nat.le_refl _)) hP (fun t ht => by simp at ht; subst ht; exact t0_u) h2.fl (h2.big (by omega)) (fun wr m => (hO.mv m hb hc).rds hz1 hz2) rfl (fun t _ _ => hin t) hn (by decide) hh h2.nd h2.la.1 (2 * k) h2.fi (by omega)
  refine c1.mono ?_
  rintro e w' ⟨rfl, V', hA', hm⟩
  have hW : wK p hv inF [t0] [⟨fl, n, fun _ => z⟩] [f] 1 = zW p hv fl n z f := by
    rw [wK_step (t := t0) (r := ⟨fl, n, fun _ => z⟩) (f := f) rfl rfl rfl, t0_N]
    rfl
  have hAk : aK false inF [t0] [⟨fl, n, fun _ => z⟩] [f] 1 = zA fl n z f := by
    rw [aK_step (t := t0) (r := ⟨fl, n, fun _ => z⟩) (f := f) rfl rfl rfl, t0_A]
    simp [aK, zA, zF]
  have hlen : ([t0] : List Tr).length = 1 := rfl
  rw [hlen, hW, hAk] at hA' ⊢
  have hfr := look_free (WK := zW p hv fl n z f) (AK := zA fl n z f) h3 h2 hP hn hh h4 h5 (show (-1 : Int) < 0 by decide)
  have hsi := si_look (WK := zW p hv fl n z f) (AK := zA fl n z f) h3 h2 hP hn hh
  have hli := h2.look (rs := [⟨fl, n, fun _ => z⟩]) (WK := zW p hv fl n z f) (AK := zA fl n z f) hP hn hh
  have hnx : nextL ⟨[f], lk, la, nd, -1⟩ [t0] [⟨fl, n, fun _ => z⟩] now (zA fl n z f) = ⟨[zF fl n z f], true, now, if zA fl n z f = true then now else nd, -1⟩ := by
    unfold nextL
    cases zA fl n z f <;> simp [fsK, zF]
  obtain ⟨⟨H', hH'⟩, hu', hd'⟩ := hsi
  rw [hnx] at hA' hli
  rw [hfr]
  exact ⟨V', rfl, ⟨_, H', hA', hli, hH', hu'.trans h4, hd'.trans h5, h6.trans (hm.below hBk h6.size), h7⟩, hm⟩
theorem zdue (w0 : World) (B : Nat) (x : Pl) (p : Pd) (ta : Option Addr) (tc : Nat) (lk : Bool) (f la nd : Int) (k : Nat) (now : Int) (w : World) (h : LZ w0 B x p ta tc lk f la nd k w) (hP : PlOk p [t0]) :
    Calls Tryd.prog 19 #[.pointer (some ⟨x.D, 0, none⟩), .int .i64 now] w fun e w' => e = .returned (.bool (!lk || decide (la + p.po ≤ now))) ∧ Below w.heap.size w w' := by
  obtain ⟨st, H, h1, h2, -⟩ := h
  exact due_any B x p ta tc [t0] ⟨[f], lk, la, nd, -1⟩ st now w h1 h2.la hP.po
theorem zfails (w0 : World) (B : Nat) (x : Pl) (p : Pd) (ta : Option Addr) (tc : Nat) (lk : Bool) (f la nd : Int) (k : Nat) (w : World) (h : LZ w0 B x p ta tc lk f la nd k w) :
    Calls Tryd.prog 17 #[.pointer (some ⟨x.D, 0, none⟩), .int .i64 0] w fun e w' => e = .returned (.int .i64 f) ∧ w' = w := by
  obtain ⟨st, H, h1, h2, -⟩ := h
  exact fails_any B x p ta tc [t0] ⟨[f], lk, la, nd, -1⟩ st 0 w h1
/-- a new one -/
theorem znew (p : Pd) (b : Nat) (w : World) (hB : Lai.BdsAt w) (hi : PdI p) (hl : p.nm.length ≤ 9223372036854775807) (hT : TrsAt w (some ⟨b, 0, none⟩) [t0]) (hc : chkP p [t0] = 0) (hu : nU p = ⟨0, 0, 0, 0⟩) (hd : nD p = ⟨0, 0, 0, 0⟩) :
    Calls Tryd.prog 7 #[planV p (.slice (some ⟨b, 0, none⟩) 1 1)] w fun e w' => ∃ x tb tcb, e = .returned (.tuple #[.pointer (some ⟨x.D, 0, none⟩), .int .i64 0]) ∧ LZ w w.heap.size x (noN p) tb tcb false 0 0 0 0 w' := by
  refine (lnew_yes p (some ⟨b, 0, none⟩) 1 [t0] w hB hi hl hT hc).mono ?_
  rintro e w' ⟨D, vF, tb, tcb, rfl, hA, hb, -⟩
  refine ⟨⟨D, vF, Stb.nilV⟩, tb, tcb, rfl, ⟨_, [], hA, LI.new [t0] _ _, si_new _ _, ?_, ?_, hb, Nat.le_refl _⟩⟩
  · rw [hu]; rfl
  · rw [hd]; rfl
theorem LZ.blk {w0 : World} {B : Nat} {x : Pl} {p : Pd} {ta : Option Addr} {tc : Nat} {lk : Bool} {f la nd : Int} {k : Nat} {wr : World} (h : LZ w0 B x p ta tc lk f la nd k wr) {j : Nat} (hj : wr.heap.size ≤ j) : ¬ blk x j := by
  obtain ⟨st, H, h1, -⟩ := h
  exact fun e => by have := (h1.blt e).2; omega
theorem LZ.bw {w0 : World} {B : Nat} {x : Pl} {p : Pd} {ta : Option Addr} {tc : Nat} {lk : Bool} {f la nd : Int} {k : Nat} {wr : World} (h : LZ w0 B x p ta tc lk f la nd k wr) : Below w0.heap.size w0 wr := by
  obtain ⟨st, H, h1, h2, h3, h4, h5, h6, h7⟩ := h
  exact h6
/-- one look of the plain plan -/
theorem dlook (w0 : World) (B D : Nat) (vF : Value) (ta : Option Addr) (tc : Nat) (lk : Bool) (la nd : Int) (k b c : Nat) (V : Nat → Value) (z now hv R : Int) (A : Bool) (w wd : World) (h : LZ w0 B ⟨D, vF, V⟩ (noN p0) ta tc lk 0 la nd k w) (hB0 : Lai.BdsAt w0) (hO : One wd b c false 1 z) (hb : w.heap.size ≤ b) (hc : w.heap.size ≤ c) (hbw : Below w.heap.size w wd) (hz1 : -9223372036854775808 ≤ z) (hz2 : z ≤ 9223372036854775807) (hk : k ≤ 400) (hn : la ≤ now ∧ now ≤ 1099511627776) (hh : 0 ≤ hv ∧ hv ≤ 50)
    (hR : zN (noN p0) hv now nd false 1 z 0 = R) (hA : zA false 1 z 0 = A) (hF : zF false 1 z 0 = 0) :
    Calls Tryd.prog 9 #[.pointer (some ⟨D, 0, none⟩), .int .i64 now, .int .i64 0, .int .i64 hv, .slice (some ⟨b, 0, none⟩) 1 1, .bool false] wd fun e w' => ∃ V', e = .returned (.tuple #[.int .i64 R, .int .i64 0]) ∧ LZ w0 B ⟨D, vF, V'⟩ (noN p0) ta tc true 0 now (if A = true then now else nd) (k + 1) w' := by
  have hP : PlOk (noN p0) [t0] := ok_noN (plOk_of (by decide))
  have c1 := zlook w0 B ⟨D, vF, V⟩ (noN p0) ta tc lk 0 la nd k b c false 1 z now hv wd (h.below hbw) hB0 hP hO hz1 hz2 (h.blk hb) (h.blk hc) hk hn hh
  rw [hR, hA, hF] at c1
  refine c1.mono ?_
  rintro e w' ⟨V', rfl, h', -⟩
  exact ⟨V', rfl, h'⟩
set_option maxHeartbeats 8000000 in
theorem looks_any (w : World) (hB : Lai.BdsAt w) : Calls Tryd.prog 6 #[] w fun e w' => e = .returned (.bool true) ∧ Below w.heap.size w w' := by
  have cP := pplan_any w
  have cD := fun z w => depth_any z w
  have hP : PlOk (noN p0) [t0] := ok_noN (plOk_of (by decide))
  have q1 : zN (noN p0) 0 1 0 false 1 25 0 = 3 ∧ zA false 1 25 0 = true ∧ zF false 1 25 0 = 0 := ⟨by decide, by decide, by decide⟩
  have q2 : zN (noN p0) 3 3 1 false 1 0 0 = 1 ∧ zA false 1 0 0 = false ∧ zF false 1 0 0 = 0 := ⟨by decide, by decide, by decide⟩
  have q3 : zN (noN p0) 1 7 1 false 1 0 0 = 0 := by decide
  have HB : Hid (Lai.BdsAt w) := hB
  have HQ1 : Hid (zN (noN p0) 0 1 0 false 1 25 0 = 3 ∧ zA false 1 25 0 = true ∧ zF false 1 25 0 = 0) := q1
  have HQ2 : Hid (zN (noN p0) 3 3 1 false 1 0 0 = 1 ∧ zA false 1 0 0 = false ∧ zF false 1 0 0 = 0) := q2
  have HQ3 : Hid (zN (noN p0) 1 7 1 false 1 0 0 = 0) := q3
  have HP : Hid (PlOk (noN p0) [t0]) := hP
  clear q1 q2 q3 hB hP
  go_enter Tryd.func6, Tryd.ntmps6
  go_wp2_with (first
    | (go_at_call 16; (with_reducible refine cP.mono ?_); rintro e w1 ⟨tb1, rfl, hT1, hl1, hb1⟩; have cN := znew p0 tb1 w1 (HB.out.below hb1 (Nat.le_refl _)) p0_i (by decide) hT1 (by decide) rfl rfl; have HB1 : Hid (Below w.heap.size w w1 ∧ Lai.BdsAt w1) := ⟨hb1, HB.out.below hb1 (Nat.le_refl _)⟩; clear hT1 hl1 hb1)
    | (go_at_call 7; (with_reducible refine cN.mono ?_); rintro e w2 ⟨⟨D, vF, V2⟩, ta, tc, rfl, h2⟩; dsimp only; have H2 : Hid (LZ w1 w1.heap.size ⟨D, vF, V2⟩ (noN p0) ta tc false 0 0 0 0 w2) := h2; clear h2 cN)
    | (go_at_call 18; (with_reducible refine (cD 25 w2).mono ?_); rintro e w3 ⟨b3, c3, rfl, hO3, hb3, hc3, hw3⟩; have cL1 := dlook w1 w1.heap.size D vF ta tc false 0 0 0 b3 c3 V2 25 1 0 3 true w2 w3 H2.out HB1.out.2 hO3 hb3 hc3 hw3 (by decide) (by decide) (by decide) (by decide) (by decide) HQ1.out.1 HQ1.out.2.1 HQ1.out.2.2; clear hO3 hb3 hc3 hw3)
    | (go_at_call 9; (with_reducible refine cL1.mono ?_); rintro e w4 ⟨V4, rfl, h4⟩; have H4 : Hid (LZ w1 w1.heap.size ⟨D, vF, V4⟩ (noN p0) ta tc true 0 1 1 1 w4) := h4; clear h4 cL1)
    | (go_at_call 18; (with_reducible refine (cD 0 w4).mono ?_); rintro e w5 ⟨b5, c5, rfl, hO5, hb5, hc5, hw5⟩; have cL2 := dlook w1 w1.heap.size D vF ta tc true 1 1 1 b5 c5 V4 0 3 3 1 false w4 w5 H4.out HB1.out.2 hO5 hb5 hc5 hw5 (by decide) (by decide) (by decide) (by decide) (by decide) HQ2.out.1 HQ2.out.2.1 HQ2.out.2.2; clear hO5 hb5 hc5 hw5)
    | (go_at_call 9; (with_reducible refine cL2.mono ?_); rintro e w6 ⟨V6, rfl, h6⟩; have H6 : Hid (LZ w1 w1.heap.size ⟨D, vF, V6⟩ (noN p0) ta tc true 0 3 1 2 w6) := h6; clear h6 cL2)
    | (go_at_call 18; (with_reducible refine (cD 0 w6).mono ?_); rintro e w7 ⟨b7, c7, rfl, hO7, hb7, hc7, hw7⟩; have cL3 := dlook w1 w1.heap.size D vF ta tc true 3 1 2 b7 c7 V6 0 7 1 0 false w6 w7 H6.out HB1.out.2 hO7 hb7 hc7 hw7 (by decide) (by decide) (by decide) (by decide) (by decide) HQ3.out HQ2.out.2.1 HQ2.out.2.2; clear hO7 hb7 hc7 hw7)
    | (go_at_call 9; (with_reducible refine cL3.mono ?_); rintro e w8 ⟨V8, rfl, h8⟩; have cD9 := zdue w1 w1.heap.size ⟨D, vF, V8⟩ (noN p0) ta tc true 0 7 1 3 9 w8 h8 HP.out; have H8 : Hid (LZ w1 w1.heap.size ⟨D, vF, V8⟩ (noN p0) ta tc true 0 7 1 3 w8) := h8; clear h8 cL3; dsimp only at cD9)
    | (go_at_call 19; (with_reducible refine cD9.mono ?_); rintro e w9 ⟨rfl, hb9⟩; have cD8 := zdue w1 w1.heap.size ⟨D, vF, V8⟩ (noN p0) ta tc true 0 7 1 3 8 w9 (H8.out.below hb9) HP.out; dsimp only at cD8; have H9 : Hid (Below w8.heap.size w8 w9) := hb9; clear hb9)
    | (go_at_call 19; (with_reducible refine cD8.mono ?_); rintro e w10 ⟨rfl, hb10⟩; have H10 : Hid (Below w9.heap.size w9 w10) := hb10; clear hb10))
  go_ret
  refine ⟨by rfl, ?_⟩
  have hh := HB1.out.1.trans ((H8.out.below H9.out).below H10.out |>.bw |>.mono HB1.out.1.size)
  exact hh
end Lop
end Go.Proofs.YtbnnplfmhmmbnahDoor
namespace Go.Proofs.YtbnnplfmhmmbnahDoor
namespace Lop
open Go.RowKit Rw Rec Plain Pln Frm Lpp Crn
set_option maxRecDepth 8000

structure LS (w0 : World) (B : Nat) (x : Pl) (p : Pd) (ta : Option Addr) (tc : Nat) (ts : List Tr) (s : Lp) (st : Stb.St) (k : Nat) (wr : World) : Prop where
  a : LAt wr B x p ta tc ts s st
  i : LI ts s st k
  b : Below w0.heap.size w0 wr
  g : w0.heap.size ≤ B
section
variable {w0 : World} {B : Nat} {x : Pl} {p : Pd} {ta : Option Addr} {tc : Nat} {ts : List Tr} {s : Lp} {st : Stb.St} {k : Nat} {wr wy : World}
theorem LS.below (h : LS w0 B x p ta tc ts s st k wr) (hb : Below wr.heap.size wr wy) : LS w0 B x p ta tc ts s st k wy := ⟨h.a.below hb, h.i, h.b.trans (hb.mono h.b.size), h.g⟩
theorem LS.lo (h : LS w0 B x p ta tc ts s st k wr) {j : Nat} (hj : blk x j) : w0.heap.size ≤ j := Nat.le_trans h.g (h.a.blt hj).1
theorem LS.nb (h : LS w0 B x p ta tc ts s st k wr) {j : Nat} (hj : j < w0.heap.size) : ¬ blk x j := fun e => by have := h.lo e; omega
theorem LS.hi (h : LS w0 B x p ta tc ts s st k wr) {j : Nat} (hj : wr.heap.size ≤ j) : ¬ blk x j := fun e => by have := (h.a.blt e).2; omega
theorem LS.mv {b' : Nat → Prop} (h : LS w0 B x p ta tc ts s st k wr) (m : Mv (blk x) b' wr wy) : Below w0.heap.size w0 wy := h.b.trans (m.below (fun _ hj => h.lo hj) h.b.size)
end
/-- what a look comes to between a law's calls -/
def LsA (w0 : World) (B : Nat) (x : Pl) (p : Pd) (ta : Option Addr) (tc : Nat) (ts : List Tr) (rs : List Rd) (s : Lp) (st : Stb.St) (k : Nat) (now hv : Int) (busy : Bool) (wr : World) (e : Ending) (w' : World) : Prop :=
  ∃ (inF : Tr → Bool) (V' : Nat → Value), e = .returned (.tuple #[.int .i64 (lookP p s st now hv (wK p hv inF ts rs s.fs ts.length) (aK busy inF ts rs s.fs ts.length)), .int .i64 0]) ∧
    LS w0 B ⟨x.D, x.vF, V'⟩ p ta tc ts (nextL s ts rs now (aK busy inF ts rs s.fs ts.length)) (nextS p s st now hv (wK p hv inF ts rs s.fs ts.length) (aK busy inF ts rs s.fs ts.length)) (k + 1) w' ∧ Mv (blk x) (blk ⟨x.D, x.vF, V'⟩) wr w'
theorem ls_look (w0 : World) (B : Nat) (x : Pl) (p : Pd) (ta ra : Option Addr) (tc rc : Nat) (ts : List Tr) (rs : List Rd) (s : Lp) (st : Stb.St) (k : Nat) (now sec hv : Int) (busy : Bool) (wr : World) (h : LS w0 B x p ta tc ts s st k wr) (hB0 : Lai.BdsAt w0) (hP : PlOk p ts) (hU : ∀ t ∈ ts, TrU t) (hR : ∀ wy, Mv (blk x) (blk x) wr wy → RdsAt wy ra rs)
    (hrl : rs.length = ts.length) (hk : k ≤ 400) (hn : s.la ≤ now ∧ now ≤ 1099511627776) (hs : -100000000000 ≤ sec ∧ sec ≤ 100000000000) (hh : 0 ≤ hv ∧ hv ≤ 50) :
    Calls Tryd.prog 9 #[.pointer (some ⟨x.D, 0, none⟩), .int .i64 now, .int .i64 sec, .int .i64 hv, .slice ra rs.length rc, .bool busy] wr (LsA w0 B x p ta tc ts rs s st k now hv busy wr) := by
  obtain ⟨inF, hin⟩ := pick_in sec p.sh
  have c := plook_any B x p ta ra tc rc ts rs s st now sec hv busy inF wr h.a (fun wy m => hB0.below (h.mv m) (Nat.le_refl _)) hP hU h.i.fl (h.i.big (by omega)) hR hrl (fun t _ _ => hin t) hn hs hh h.i.nd h.i.la.1 (2 * k) h.i.fi (by omega)
  refine c.mono ?_
  rintro e w' ⟨rfl, V', hA', hm⟩
  exact ⟨inF, V', rfl, ⟨hA', h.i.look hP hn hh, h.mv hm, h.g⟩, hm⟩
theorem ls_no (w0 : World) (B : Nat) (x : Pl) (p : Pd) (ta ra : Option Addr) (tc rc n : Nat) (ts : List Tr) (s : Lp) (st : Stb.St) (k : Nat) (now sec hv : Int) (busy : Bool) (wr : World) (h : LS w0 B x p ta tc ts s st k wr)
    (hno : ¬ ((s.la ≤ now ∧ now ≤ 1099511627776) ∧ (-100000000000 ≤ sec ∧ sec ≤ 100000000000) ∧ (0 ≤ hv ∧ hv ≤ 50) ∧ n = ts.length)) :
    Calls Tryd.prog 9 #[.pointer (some ⟨x.D, 0, none⟩), .int .i64 now, .int .i64 sec, .int .i64 hv, .slice ra n rc, .bool busy] wr fun e w' => e = .returned (.tuple #[.int .i64 0, .int .i64 1]) ∧ LS w0 B x p ta tc ts s st k w' ∧ Below wr.heap.size wr w' := by
  refine (plook_no B x p ta ra tc rc n ts s st now sec hv busy wr h.a hno).mono ?_
  rintro e w' ⟨rfl, hb⟩
  exact ⟨rfl, h.below hb, hb⟩
theorem ls_pause (w0 : World) (B : Nat) (x : Pl) (p : Pd) (ta : Option Addr) (tc : Nat) (ts : List Tr) (s : Lp) (st : Stb.St) (k : Nat) (n : Int) (wr : World) (h : LS w0 B x p ta tc ts s st k wr) (h1 : -1 ≤ n) (h2 : n ≤ 50) :
    Calls Tryd.prog 8 #[.pointer (some ⟨x.D, 0, none⟩), .int .i64 n] wr fun e w' => e = .returned (.int .i64 0) ∧ LS w0 B x p ta tc ts ⟨s.fs, s.lk, s.la, s.nd, n⟩ st k w' ∧ Mv (blk x) (blk x) wr w' := by
  refine (pause_yes B x p ta tc ts s st n wr h.a h1 h2).mono ?_
  rintro e w' ⟨rfl, hA, hm⟩
  exact ⟨rfl, ⟨hA, h.i.pause n, h.mv hm, h.g⟩, hm⟩
/-- a new one -/
theorem ls_new (p : Pd) (ta : Option Addr) (tc : Nat) (ts : List Tr) (w : World) (hB : Lai.BdsAt w) (hi : PdI p) (hl : p.nm.length ≤ 9223372036854775807) (hT : TrsAt w ta ts) (hc : chkP p ts = 0) :
    Calls Tryd.prog 7 #[planV p (.slice ta ts.length tc)] w fun e w' => ∃ x tb tcb, e = .returned (.tuple #[.pointer (some ⟨x.D, 0, none⟩), .int .i64 0]) ∧ LS w w.heap.size x (noN p) tb tcb ts (newL ts.length) (Stb.new (nU p) (nD p)) 0 w' := by
  refine (lnew_yes p ta tc ts w hB hi hl hT hc).mono ?_
  rintro e w' ⟨D, vF, tb, tcb, rfl, hA, hb, -⟩
  exact ⟨⟨D, vF, Stb.nilV⟩, tb, tcb, rfl, ⟨hA, LI.new ts _ _, hb, Nat.le_refl _⟩⟩
theorem rds_nil (w : World) (a : Option Addr) : RdsAt w a [] := fun i r h => by simp at h
end Lop
end Go.Proofs.YtbnnplfmhmmbnahDoor
namespace Go.Proofs.YtbnnplfmhmmbnahDoor
namespace Lop
open Go.RowKit Rw Rec Plain Pln Frm Lpp Crn
set_option maxRecDepth 8000

def ClR (w1 : World) (B D : Nat) (vF : Value) (p : Pd) (ta : Option Addr) (tc n : Nat) (now needed have_ i : Value) (wr : World) : Prop :=
  ∃ (k : Nat) (V : Nat → Value) (s : Lp) (st : Stb.St) (hv : Int), k ≤ n ∧ i = .int .i64 k ∧ now = .int .i64 s.la ∧ needed = .int .i64 s.nd ∧ have_ = .int .i64 hv ∧ 1 ≤ hv ∧ hv ≤ 50 ∧ s.la ≤ 200000 * k ∧ s.nd ≤ s.la ∧ s.pa = -1 ∧ LS w1 B ⟨D, vF, V⟩ p ta tc [] s st k wr
set_option maxHeartbeats 16000000 in
theorem loopCools_any (p : Pd) (v : Value) (a1 a2 : Option Addr) (n1 c1 n2 c2 : Nat) (X : Nat → Int) (Y : Nat → Bool) (w : World) (hB : Lai.BdsAt w) (hi : PdI p) (hl : p.nm.length ≤ 9223372036854775807) (hX : Ned.IntsAt w a1 n1 X) (hY : BlsAt w a2 n2 Y) :
    Calls Tryd.prog 4 #[planV p v, .slice a1 n1 c1, .slice a2 n2 c2] w fun e w' => e = .returned (.bool true) ∧ Below w.heap.size w w' := by
  obtain ⟨W0, hW0⟩ : ∃ W0, W0 = w.alloc (.cells (planC p v) 26) := ⟨_, rfl⟩
  have hX0 : PX W0 w.heap.size p v := by rw [hW0]; exact ⟨by simp, fun o => by simp, fun o => by simp⟩
  have hb0 : Below w.heap.size w W0 := by rw [hW0]; exact (Below.refl _ _).alloc (Nat.le_refl _) _
  have HW0 : Hid (W0 = w.alloc (.cells (planC p v) 26)) := hW0
  have cLs := looks_any W0 (hB.below hb0 (Nat.le_refl _))
  clear hW0
  go_enter Tryd.func4, Tryd.ntmps4
  go_upto_region 1 with fail
  rw [← HW0.out]
  clear HW0
  go_upto_region 3 with (go_at_call 6; (with_reducible refine cLs.mono ?_); rintro e w1 ⟨rfl, hb1⟩)
  clear cLs
  have hX1 := hX0.below hb1 hX0.lt
  have hB1 : Below w.heap.size w w1 := hb0.trans (hb1.mono hb0.size)
  have hP2 : PX (w1.setCell ⟨w.heap.size, 17, none⟩ (.slice none 0 0)) w.heap.size p (.slice none 0 0) := hX1.set (v' := .slice none 0 0) rfl (by decide)
  have hB2 : Below w.heap.size w (w1.setCell ⟨w.heap.size, 17, none⟩ (.slice none 0 0)) := hB1.setCell (p := ⟨w.heap.size, 17, none⟩) (Nat.le_refl _) _
  have a17 := hX1.plat.c17
  have f17 := hX1.fz 17
  clear hX0 hb0 hb1 hX1 hB1
  go_upto_region 4 with fail
  clear a17 f17
  generalize w1.setCell ⟨w.heap.size, 17, none⟩ (.slice none 0 0) = W2 at *
  have hpl := hP2.plat
  have HB2 : Hid (Below w.heap.size w W2) := hB2
  have HBd : Hid (Lai.BdsAt W2) := hB.below hB2 (Nat.le_refl _)
  have HX : Hid (Ned.IntsAt W2 a1 n1 X) := hX.below hB2 (Nat.le_refl _)
  have HY : Hid (BlsAt W2 a2 n2 Y) := hY.below hB2 (Nat.le_refl _)
  clear hB2 hX hY hB
  by_cases hc : chkP p [] = 0
  · have hP0 := plOk_of hc
    have HP : Hid (PlOk (noN p) []) := ok_noN hP0
    have hco := hP0.co
    have hmn := hP0.mn
    have cN := ls_new p none 0 [] W2 HBd.out hi hl (trs_nil _ _) hc
    simp only [List.length_nil] at cN
    by_cases h60 : 60 < n1
    · have h60' : (60 : Int) < (n1 : Int) := by omega
      go_wp2_with (first
        | (with_reducible refine wp_plan hpl (by with_unfolding_all rfl) ?_)
        | (go_at_call 7; (with_reducible refine cN.mono ?_); rintro e w5 ⟨⟨D, vF, V5⟩, ta, tc, rfl, h5⟩; dsimp only; have H5 : Hid (Below W2.heap.size W2 w5) := h5.b; clear h5))
      go_ret
      exact ⟨rfl, HB2.out.trans (H5.out.mono HB2.out.size)⟩
    · have h60' : ¬ (60 : Int) < (n1 : Int) := by omega
      go_upto_region 8 with (first
        | (with_reducible refine wp_plan hpl (by with_unfolding_all rfl) ?_)
        | (go_at_call 7; (with_reducible refine cN.mono ?_); rintro e w5 ⟨⟨D, vF, V5⟩, ta, tc, rfl, h5⟩; dsimp only; have H5 : Hid (LS W2 W2.heap.size ⟨D, vF, V5⟩ (noN p) ta tc [] (newL 0) (Stb.new (nU p) (nD p)) 0 w5) := h5; clear h5))
      clear cN hpl
      (try simp only [Act.put])
      go_wp2_with fail
      go_loopw [9, 10, 11, 34] (fun nw nd hv i wr => ClR W2 W2.heap.size D vF (noN p) ta tc n1 nw nd hv i wr) (fun _ _ _ i _ => n1 - (intOf i).toNat)
      case atStart => exact ⟨0, V5, newL 0, _, 1, by omega, rfl, rfl, rfl, rfl, by decide, by decide, by decide, by decide, rfl, H5.out⟩
      case round =>
        clear H5
        obtain ⟨k, V, s, st, hv, hk, rfl, rfl, rfl, rfl, hh1, hh2, hla, hnd, hpa, h⟩ := hrel
        have hla0 := h.i.la.1
        have hnd0 := h.i.nd.1
        by_cases hlt : k < n1
        · have hlt' : (k : Int) < (n1 : Int) := by omega
          have hk60 : k < 60 := by omega
          have px := (hP2.below h.b hP2.lt).plat
          have p1 := px.c1
          have p4 := px.c4
          obtain ⟨xb, xo, rfl, hxl, xc, -⟩ := (HX.out.below h.b (Nat.le_refl _)) k hlt
          have rR := fun w => Rsw.rest_any (X k) (2 * p.co) w (by omega) (by omega)
          have hr : 0 ≤ X k % (2 * p.co) ∧ X k % (2 * p.co) < 2 * p.co := ⟨Int.emod_nonneg _ (by omega), Int.emod_lt_of_pos _ (by omega)⟩
          generalize X k % (2 * p.co) = r at *
          have ww : IntKind.i64.wrap (2 * p.co) = 2 * p.co := by rw [IntKind.wrap_i64] <;> omega
          have wl : IntKind.i64.wrap (s.la + r) = s.la + r := by rw [IntKind.wrap_i64] <;> omega
          have cL := fun is => ls_look W2 W2.heap.size ⟨D, vF, V⟩ (noN p) ta none tc 0 [] [] s st k (s.la + r) 0 hv is wr h HBd.out HP.out (fun t ht => by simp at ht) (fun wy _ => rds_nil _ _) rfl (by omega) ⟨by omega, by omega⟩ (by decide) ⟨by omega, hh2⟩
          simp only [List.length_nil] at cL
          have HL : Hid (∀ (is : Bool) (w' : World) (e : Ending), LsA W2 W2.heap.size ⟨D, vF, V⟩ (noN p) ta tc [] [] s st k (s.la + r) hv is wr e w' → ∃ N, e = .returned (.tuple #[.int .i64 N, .int .i64 0]) ∧ (is = true → 1 ≤ N) ∧ (s.la + r - s.nd < p.co → 1 ≤ N) ∧ p.mn ≤ N ∧ 0 ≤ N ∧ N ≤ 50 ∧ ∃ V', LS W2 W2.heap.size ⟨D, vF, V'⟩ (noN p) ta tc [] ⟨s.fs, true, s.la + r, if is = true then s.la + r else s.nd, s.pa⟩ (nextS (noN p) s st (s.la + r) hv 0 is) (k + 1) w' ∧ Below W2.heap.size W2 w') := by
            rintro is w' e ⟨inF, V', rfl, hS, hm⟩
            have hbd := look_bds (p := noN p) (ts := []) (s := s) (st := st) (now := s.la + r) (hv := hv) (WK := 0) (AK := is) HP.out (by omega)
            have hnx : nextL s [] [] (s.la + r) is = ⟨s.fs, true, s.la + r, if is = true then s.la + r else s.nd, s.pa⟩ := by
              have e0 : fsK ([] : List Tr) ([] : List Rd) s.fs ([] : List Tr).length = s.fs := fsK_zero _ _ _
              unfold nextL
              rw [e0]
              cases is <;> simp [hpa]
            refine ⟨_, rfl, hbd.2.2.1, fun e => hbd.2.2.2 e hh1, hbd.1, ?_, ?_, V', ?_, hS.b⟩
            · have := hbd.1; have := hmn.1; have : (noN p).mn = p.mn := rfl; show 0 ≤ lookP (noN p) s st (s.la + r) hv 0 is; omega
            · have h1 := hbd.2.1; have := hP0.mx; show lookP (noN p) s st (s.la + r) hv 0 is ≤ 50; have : (noN p).mx = p.mx := rfl; omega
            · have := hS
              rw [← hnx]
              exact this
          have HYw : Hid (BlsAt wr a2 n2 Y) := HY.out.below h.b (Nat.le_refl _)
          clear h px HX HY
          have HPx : Hid (PX W2 w.heap.size p (.slice none 0 0)) := hP2
          have wd : IntKind.i64.wrap (s.la + r - s.nd) = s.la + r - s.nd := by rw [IntKind.wrap_i64] <;> omega
          cases hkb : decide (k < n2)
          · have hkb' : ¬ (k : Int) < (n2 : Int) := by have := of_decide_eq_false hkb; omega
            clear hkb
            go_upto_region 18 with (first
              | (go_at_call 15; (with_reducible refine (rR _).mono ?_); rintro e w' ⟨rfl, h9⟩; have h8 := h9.symm; clear h9; subst h8)
              | (go_at_call 9; (with_reducible refine (cL false).mono ?_); rintro e w8 hL; obtain ⟨N, rfl, q1, q2, q3, q4, q5, V8, hS8, hb8⟩ := HL.out false w8 e hL; have px8 := (HPx.out.below hb8 HPx.out.lt).plat; have p1' := px8.c1; have p4' := px8.c4; clear hL px8))
            have HX : Hid (ClR W2 W2.heap.size D vF (noN p) ta tc n1 (.int .i64 (s.la + r)) (.int .i64 s.nd) (.int .i64 (max N 1)) (.int .i64 ((k + 1 : Nat) : Int)) w8) := ⟨k + 1, V8, ⟨s.fs, true, s.la + r, s.nd, s.pa⟩, nextS (noN p) s st (s.la + r) hv 0 false, max N 1, hlt, rfl, rfl, rfl, rfl, by omega, by omega, by show s.la + r ≤ _; omega, by show s.nd ≤ s.la + r; omega, hpa, hS8⟩
            clear hS8 q1 p1 p4
            by_cases hN : N = 0
            · have n1' : ¬ s.la + r - s.nd < p.co := fun e => by have := q2 e; omega
              have n2' : ¬ 0 < p.mn := by omega
              subst hN
              clear q2 q3
              go_wp2
              go_roundw
              case rel => exact HX.out
              case measure => simp [intOf]; omega
            · clear q2 q3
              go_wp2
              go_roundw
              case rel => exact HX.out
              case measure => simp [intOf]; omega
          · have hkb' : (k : Int) < (n2 : Int) := by have := of_decide_eq_true hkb; omega
            have hkn : k < n2 := by omega
            clear hkb
            obtain ⟨yb, yo, rfl, hyl, yc⟩ := HYw.out k hkn
            cases hy : Y k
            · rw [hy] at yc
              go_upto_region 18 with (first
                | (go_at_call 15; (with_reducible refine (rR _).mono ?_); rintro e w' ⟨rfl, h9⟩; have h8 := h9.symm; clear h9; subst h8)
                | (go_at_call 9; (with_reducible refine (cL false).mono ?_); rintro e w8 hL; obtain ⟨N, rfl, q1, q2, q3, q4, q5, V8, hS8, hb8⟩ := HL.out false w8 e hL; have px8 := (HPx.out.below hb8 HPx.out.lt).plat; have p1' := px8.c1; have p4' := px8.c4; clear hL px8))
              have HX : Hid (ClR W2 W2.heap.size D vF (noN p) ta tc n1 (.int .i64 (s.la + r)) (.int .i64 s.nd) (.int .i64 (max N 1)) (.int .i64 ((k + 1 : Nat) : Int)) w8) := ⟨k + 1, V8, ⟨s.fs, true, s.la + r, s.nd, s.pa⟩, nextS (noN p) s st (s.la + r) hv 0 false, max N 1, hlt, rfl, rfl, rfl, rfl, by omega, by omega, by show s.la + r ≤ _; omega, by show s.nd ≤ s.la + r; omega, hpa, hS8⟩
              clear hS8 q1 p1 p4
              by_cases hN : N = 0
              · have n1' : ¬ s.la + r - s.nd < p.co := fun e => by have := q2 e; omega
                have n2' : ¬ 0 < p.mn := by omega
                subst hN
                clear q2 q3
                go_wp2
                go_roundw
                case rel => exact HX.out
                case measure => simp [intOf]; omega
              · clear q2 q3
                go_wp2
                go_roundw
                case rel => exact HX.out
                case measure => simp [intOf]; omega
            · rw [hy] at yc
              go_upto_region 18 with (first
                | (go_at_call 15; (with_reducible refine (rR _).mono ?_); rintro e w' ⟨rfl, h9⟩; have h8 := h9.symm; clear h9; subst h8)
                | (go_at_call 9; (with_reducible refine (cL true).mono ?_); rintro e w8 hL; obtain ⟨N, rfl, q1, q2, q3, q4, q5, V8, hS8, hb8⟩ := HL.out true w8 e hL; have px8 := (HPx.out.below hb8 HPx.out.lt).plat; have p1' := px8.c1; have p4' := px8.c4; clear hL px8))
              have HX : Hid (ClR W2 W2.heap.size D vF (noN p) ta tc n1 (.int .i64 (s.la + r)) (.int .i64 (s.la + r)) (.int .i64 (max N 1)) (.int .i64 ((k + 1 : Nat) : Int)) w8) := ⟨k + 1, V8, ⟨s.fs, true, s.la + r, s.la + r, s.pa⟩, nextS (noN p) s st (s.la + r) hv 0 true, max N 1, hlt, rfl, rfl, rfl, rfl, by omega, by omega, by show s.la + r ≤ _; omega, by show s.la + r ≤ s.la + r; omega, hpa, hS8⟩
              have hN : ¬ N = 0 := by have := q1 (by trivial); omega
              clear hS8 p1 p4 q1 q2 q3
              go_wp2
              go_roundw
              case rel => exact HX.out
              case measure => simp [intOf]; omega
        · obtain rfl : k = n1 := by omega
          have HF : Hid (Below w.heap.size w wr) := HB2.out.trans (h.b.mono HB2.out.size)
          clear h
          go_wp2
          go_ret
          exact ⟨rfl, HF.out⟩
  · have cN := lnew_no p none 0 [] W2 HBd.out hi hl (trs_nil _ _) hc
    simp only [List.length_nil] at cN
    have dne : (chkP p [] != 0) = true := by rw [bne_iff_ne]; exact hc
    generalize chkP p [] = E at *
    go_wp2_with (first
      | (with_reducible refine wp_plan hpl (by with_unfolding_all rfl) ?_)
      | (go_at_call 7; (with_reducible refine cN.mono ?_); rintro e w5 ⟨rfl, hb5⟩; have H5 : Hid (Below W2.heap.size W2 w5) := hb5; clear hb5))
    go_ret
    exact ⟨rfl, HB2.out.trans (H5.out.mono HB2.out.size)⟩
end Lop
end Go.Proofs.YtbnnplfmhmmbnahDoor
