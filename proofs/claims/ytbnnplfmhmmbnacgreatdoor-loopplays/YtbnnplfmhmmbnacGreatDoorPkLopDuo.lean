/- The program's loop and the document's, side by side. The law: a loop does what the document says, glance by glance. -/
import Derived.Test.YtbnnplfmhmmbnacGreatDoorPkLopNew
import Derived.Test.YtbnnplfmhmmbnacGreatDoorPkWatLook
import Derived.Test.YtbnnplfmhmmbnacGreatDoorPkWatchAt
import Derived.Test.YtbnnplfmhmmbnacGreatDoorPkWatNew
import Derived.Test.YtbnnplfmhmmbnacGreatDoorPkStbKnow
import Derived.Test.YtbnnplfmhmmbnacGreatDoorPkRefPlanA
import Derived.Deep.CutBlock
namespace Go.Proofs.YtbnnplfmhmmbnacGreatDoor
namespace Lop
open Go.RowKit Rw Rec Plain Pln Frm Lpp Crn
set_option maxRecDepth 8000

theorem rows_base {w : World} {A B : Nat} {e : TypeId} {s n : Nat} {v : Value} {xs : List Value} (h : w.ownsRow B e s v n xs) (hAB : A ≤ B) : w.ownsRow A e s v n xs := by
  refine ⟨h.1, ?_⟩
  rcases h.2 with a | ⟨g, cap, cur, h1, h2, h3⟩
  · exact Or.inl a
  · exact Or.inr ⟨g, cap, cur, h1, Nat.le_trans hAB h2, h3⟩
theorem LAt.base {w : World} {A B : Nat} {x : Pl} {p : Pd} {ta : Option Addr} {tc : Nat} {ts : List Tr} {s : Lp} {st : Stb.St} (h : LAt w B x p ta tc ts s st) (hAB : A ≤ B) : LAt w A x p ta tc ts s st := by
  have q := h.st
  exact ⟨h.c, h.cF, h.lk, h.la, h.nd, h.pd, h.pa, rows_base h.own hAB, ⟨q.lt, Nat.le_trans hAB q.bQ, q.fz, q.num, q.row, fun i hi => Wat.own_base (q.own i hi) hAB, q.ne, q.ap⟩, h.aF, h.t, h.tb⟩
theorem wat_base {w : World} {A B : Nat} {y : Wat.Pl} {p : Pd} {ta : Option Addr} {tc : Nat} {ts : List Tr} {s : Lp} {c : Stb.Cm} (h : Wat.WAt w B y p ta tc ts s c) (hAB : A ≤ B) (ht : 0 < ts.length → ∀ b off, ta = some ⟨b, off, none⟩ → b < A) : Wat.WAt w A y p ta tc ts s c := by
  have q := h.r
  exact ⟨⟨q.lt, Nat.le_trans hAB q.bQ, q.cQ, q.cS, q.fz, rows_base q.own hAB, q.ne⟩, Wat.cat_base h.c hAB, h.t, ht, h.aD, h.aF⟩
/-- both lie apart -/
structure DS (w0 : World) (x : Pl) (y : Wat.Pl) (p : Pd) (tb ta : Option Addr) (tcb tc : Nat) (ts : List Tr) (s1 s2 : Lp) (st : Stb.St) (c : Stb.Cm) (wr : World) : Prop where
  l : LAt wr w0.heap.size x (noN p) tb tcb ts s1 st
  d : Wat.WAt wr w0.heap.size y p ta tc ts s2 c
  f : ∀ j, blk x j → ¬ Wat.blk y j
  ft : ∀ b off, 0 < ts.length → tb = some ⟨b, off, none⟩ → ¬ Wat.blk y b
  b : Below w0.heap.size w0 wr
section
variable {w0 : World} {x x' : Pl} {y y' : Wat.Pl} {p : Pd} {tb ta : Option Addr} {tcb tc : Nat} {ts : List Tr} {s1 s2 s1' s2' : Lp} {st st' : Stb.St} {c c' : Stb.Cm} {wr wy : World}
theorem DS.below (h : DS w0 x y p tb ta tcb tc ts s1 s2 st c wr) (hb : Below wr.heap.size wr wy) : DS w0 x y p tb ta tcb tc ts s1 s2 st c wy := ⟨h.l.below hb, h.d.below hb, h.f, h.ft, h.b.trans (hb.mono h.b.size)⟩
theorem DS.loop (h : DS w0 x y p tb ta tcb tc ts s1 s2 st c wr) (hl : LAt wy w0.heap.size x' (noN p) tb tcb ts s1' st') (m : Mv (blk x) (blk x') wr wy) : DS w0 x' y p tb ta tcb tc ts s1' s2 st' c wy := by
  refine ⟨hl, h.d.kept (fun k hk => ?_) m.size, fun j hj hn => ?_, h.ft, h.b.trans (m.below (fun k hk => (h.l.blt hk).1) h.b.size)⟩
  · rcases hk with a | a
    · exact m.block k (Nat.lt_of_lt_of_le a h.b.size) (fun e => by have := (h.l.blt e).1; omega)
    · exact m.block k (h.d.blt a).2 (fun e => h.f k e a)
  · rcases m.loc j hj with a | a
    · exact h.f j a hn
    · have := (h.d.blt hn).2; omega
theorem DS.watch (h : DS w0 x y p tb ta tcb tc ts s1 s2 st c wr) (hd : Wat.WAt wy w0.heap.size y' p ta tc ts s2' c') (m : Wat.WStep y y' wr wy) : DS w0 x y' p tb ta tcb tc ts s1 s2' st c' wy := by
  have mm : Mv (Wat.blk y) (Wat.blk y') wr wy := ⟨m.os, m.tape, m.output, m.size, m.block, m.loc⟩
  refine ⟨h.l.other mm h.f (fun k off hp e => h.ft k off hp e), hd, fun j hj hn => ?_, fun b off hp e hn => ?_, h.b.trans (mm.below (fun k hk => (h.d.blt hk).1) h.b.size)⟩
  · rcases m.loc j hn with a | a
    · exact h.f j hj a
    · have := (h.l.blt hj).2; omega
  · rcases m.loc b hn with a | a
    · exact h.ft b off hp e a
    · have := h.l.tlt hp e; omega
theorem DS.low (h : DS w0 x y p tb ta tcb tc ts s1 s2 st c wr) {j : Nat} (hj : j < w0.heap.size) : ¬ blk x j ∧ ¬ Wat.blk y j := ⟨fun e => by have := (h.l.blt e).1; omega, fun e => by have := (h.d.blt e).1; omega⟩
theorem DS.hi (h : DS w0 x y p tb ta tcb tc ts s1 s2 st c wr) {j : Nat} (hj : wr.heap.size ≤ j) : ¬ blk x j ∧ ¬ Wat.blk y j := ⟨fun e => by have := (h.l.blt e).2; omega, fun e => by have := (h.d.blt e).2; omega⟩
end
theorem pick_duo (sec sh : Int) : ∃ inF : Tr → Bool, ∀ t, inF t = true ↔ InP (mt t.a) (mt t.b) (minOf sec sh) sh :=
  ⟨fun t => @decide _ (Classical.propDecidable (InP (mt t.a) (mt t.b) (minOf sec sh) sh)), fun t => by simp⟩
theorem wK_noN (p : Pd) (hv : Int) (inF : Tr → Bool) (ts : List Tr) (rs : List Rd) (fs : List Int) : ∀ k, wK (noN p) hv inF ts rs fs k = wK p hv inF ts rs fs k
  | 0 => rfl
  | k + 1 => by
    have ih := wK_noN p hv inF ts rs fs k
    simp only [wK]
    split
    · rw [ih]; rfl
    · exact ih
/-- what is known between the calls -/
structure DI (p : Pd) (ts : List Tr) (s : Lp) (st : Stb.St) (c : Stb.Cm) (k : Nat) : Prop where
  i : LI ts s st k
  sm : Stb.Sim st c
  cf : Stb.CFit c k
theorem DI.mono {p : Pd} {ts : List Tr} {s : Lp} {st : Stb.St} {c : Stb.Cm} {k l : Nat} (h : DI p ts s st c k) (hk : k ≤ l) : DI p ts s st c l :=
  ⟨h.i.mono hk, h.sm, ⟨h.cf.u, h.cf.d, h.cf.last, h.cf.ws, h.cf.ms, Nat.le_trans h.cf.wl hk, Nat.le_trans h.cf.ml hk⟩⟩
section
variable {p : Pd} {ts : List Tr} {rs : List Rd} {s : Lp} {st : Stb.St} {c : Stb.Cm} {k : Nat} {now hv WK : Int} {AK : Bool}
theorem look_same (h : DI p ts s st c k) : Wat.lookN p s c now hv WK AK = lookP (noN p) s st now hv WK AK := by
  unfold Wat.lookN lookP
  split
  · rfl
  · rw [(h.sm.n h.i.fi now hv (askF p WK (lowF p hv now s.nd AK))).1]
    rfl
theorem di_look (h : DI p ts s st c k) (hP : PlOk (noN p) ts) (hn : s.la ≤ now ∧ now ≤ 1099511627776) (hh : 0 ≤ hv ∧ hv ≤ 50) : DI p ts (nextL s ts rs now AK) (nextS (noN p) s st now hv WK AK) (Wat.nextC p s c now hv WK AK) (k + 1) := by
  refine ⟨h.i.look hP hn hh, ?_, ?_⟩
  · unfold nextS Wat.nextC
    split
    · exact h.sm
    · exact h.sm.step h.i.fi now hv _
  · unfold Wat.nextC
    split
    · exact (h.mono (Nat.le_succ _)).cf
    · exact Stb.cfit_step h.sm h.i.fi h.cf now hv _
end
theorem due_same {p : Pd} {s : Lp} (h : 1 ≤ p.po) (now : Int) : Wat.dueF p s now = dueP (noN p) s now := by
  unfold Wat.dueF dueP
  have e : (decide (s.la < now) && decide (p.po ≤ now - s.la)) = decide (s.la + (noN p).po ≤ now) := by
    have hq : (noN p).po = p.po := rfl
    rw [hq]
    by_cases h1 : s.la + p.po ≤ now
    · have h2 : s.la < now := by omega
      have h3 : p.po ≤ now - s.la := by omega
      simp [h1, h2, h3]
    · by_cases h2 : s.la < now
      · have h3 : ¬ p.po ≤ now - s.la := by omega
        simp [h1, h3]
      · simp [h1, h2]
  rw [e]
/-- a look of either -/
theorem duo_look (w0 : World) (x : Pl) (y : Wat.Pl) (p : Pd) (tb ta ra : Option Addr) (tcb tc rc : Nat) (ts : List Tr) (rs : List Rd) (s : Lp) (st : Stb.St) (c : Stb.Cm) (k : Nat) (now sec hv : Int) (busy : Bool) (wr : World) (h : DS w0 x y p tb ta tcb tc ts s s st c wr) (hI : DI p ts s st c k) (hB0 : Lai.BdsAt w0) (hP : PlOk p ts) (hU : ∀ t ∈ ts, TrU t) (hR : RdsAt w0 ra rs)
    (hrl : rs.length = ts.length) (hk : k ≤ 100) (hn : s.la ≤ now ∧ now ≤ 1099511627776) (hs : -100000000000 ≤ sec ∧ sec ≤ 100000000000) (hh : 0 ≤ hv ∧ hv ≤ 50) :
    ∃ (N WK : Int) (AK : Bool), Calls Tryz.prog 7 #[.pointer (some ⟨x.D, 0, none⟩), .int .i64 now, .int .i64 sec, .int .i64 hv, .slice ra rs.length rc, .bool busy] wr (fun e w' => e = .returned (.tuple #[.int .i64 N, .int .i64 0]) ∧ ∃ V', DS w0 ⟨x.D, x.vF, V'⟩ y p tb ta tcb tc ts (nextL s ts rs now AK) s (nextS (noN p) s st now hv WK AK) c w' ∧ Mv (blk x) (blk ⟨x.D, x.vF, V'⟩) wr w') ∧
      (∀ V' w', DS w0 ⟨x.D, x.vF, V'⟩ y p tb ta tcb tc ts (nextL s ts rs now AK) s (nextS (noN p) s st now hv WK AK) c w' → Calls Tryz.prog 8 #[.pointer (some ⟨y.D, 0, none⟩), .int .i64 now, .int .i64 sec, .int .i64 hv, .slice ra rs.length rc, .bool busy] w' (fun e w'' => e = .returned (.tuple #[.int .i64 N, .int .i64 0]) ∧ ∃ vw vm, DS w0 ⟨x.D, x.vF, V'⟩ ⟨y.D, y.S, y.vF, vw, vm⟩ p tb ta tcb tc ts (nextL s ts rs now AK) (nextL s ts rs now AK) (nextS (noN p) s st now hv WK AK) (Wat.nextC p s c now hv WK AK) w'' ∧ Mv (Wat.blk y) (Wat.blk ⟨y.D, y.S, y.vF, vw, vm⟩) w' w'')) ∧
      DI p ts (nextL s ts rs now AK) (nextS (noN p) s st now hv WK AK) (Wat.nextC p s c now hv WK AK) (k + 1) := by
  obtain ⟨inF, hin⟩ := pick_duo sec p.sh
  have hP' := ok_noN hP
  refine ⟨lookP (noN p) s st now hv (wK p hv inF ts rs s.fs ts.length) (aK busy inF ts rs s.fs ts.length), wK p hv inF ts rs s.fs ts.length, aK busy inF ts rs s.fs ts.length, ?_, fun V' w' h' => ?_, di_look hI hP' hn hh⟩
  · have hlo : ∀ j, blk x j → w0.heap.size ≤ j := fun j hj => (h.l.blt hj).1
    have c1 := plook_any w0.heap.size x (noN p) tb ra tcb rc ts rs s st now sec hv busy inF wr h.l (fun wy m => hB0.below (h.b.trans (m.below hlo h.b.size)) (Nat.le_refl _)) hP' hU hI.i.fl (hI.i.big (by omega)) (fun wy m => hR.below (h.b.trans (m.below hlo h.b.size)) (Nat.le_refl _)) hrl (fun t _ _ => hin t) hn hs hh hI.i.nd hI.i.la.1 (2 * k) hI.i.fi (by omega)
    rw [wK_noN] at c1
    refine c1.mono ?_
    rintro e w' ⟨rfl, V', hA', hm⟩
    exact ⟨rfl, V', h.loop hA' hm, hm⟩
  · have hlo : ∀ j, Wat.blk y j → w0.heap.size ≤ j := fun j hj => (h'.d.blt hj).1
    have mb : ∀ wy, Wat.WStep y y w' wy → Below w0.heap.size w0 wy := fun wy m => h'.b.trans ((⟨m.os, m.tape, m.output, m.size, m.block, m.loc⟩ : Mv (Wat.blk y) (Wat.blk y) w' wy).below hlo h'.b.size)
    have c1 := Wat.wlook_any w0.heap.size y p ta ra tc rc ts rs s c now sec hv busy inF w' h'.d hP hU hI.i.fl (hI.i.big (by omega)) (fun wy m => hR.below (mb wy m) (Nat.le_refl _)) hrl (fun t _ _ => hin t) hn hs hh hI.i.nd hI.i.la.1 k hI.cf (by omega)
    refine c1.mono ?_
    rintro e w'' ⟨rfl, vw, vm, hA', hm⟩
    refine ⟨by rw [look_same hI], vw, vm, h'.watch hA' hm, ⟨hm.os, hm.tape, hm.output, hm.size, hm.block, hm.loc⟩⟩
end Lop
end Go.Proofs.YtbnnplfmhmmbnacGreatDoor
namespace Go.Proofs.YtbnnplfmhmmbnacGreatDoor
namespace Lop
open Go.RowKit Rw Rec Plain Pln Frm Lpp Crn
set_option maxRecDepth 8000

def PlR (W0 : World) (D Dy Sy : Nat) (vF vFy : Value) (p : Pd) (tb ta : Option Addr) (tcb tc : Nat) (ts : List Tr) (n : Nat) (i : Value) (wr : World) : Prop :=
  ∃ (k : Nat) (V : Nat → Value) (vw vm : Value) (s : Lp) (st : Stb.St) (c : Stb.Cm), k ≤ n ∧ i = .int .i64 k ∧ DS W0 ⟨D, vF, V⟩ ⟨Dy, Sy, vFy, vw, vm⟩ p tb ta tcb tc ts s s st c wr ∧ DI p ts s st c k
/-- behind a glance's kind -/
def KdR (W0 : World) (D Dy Sy : Nat) (vF vFy : Value) (p : Pd) (tb ta : Option Addr) (tcb tc : Nat) (ts : List Tr) (k C : Nat) (gn : Int) (ok : Value) (wx : World) : Prop :=
  ∃ (V : Nat → Value) (vw vm : Value) (s : Lp) (st : Stb.St) (c : Stb.Cm), ok = .bool true ∧ DS W0 ⟨D, vF, V⟩ ⟨Dy, Sy, vFy, vw, vm⟩ p tb ta tcb tc ts s s st c wx ∧ DI p ts s st c (k + 1) ∧ wx.cell? ⟨C, 4, none⟩ = some (.int .i64 gn)
theorem lplays_bad (p : Pd) (ta ga : Option Addr) (tc gc gl : Nat) (ts : List Tr) (w : World) (hB : Lai.BdsAt w) (hi : PdI p) (hl : p.nm.length ≤ 9223372036854775807) (hT : TrsAt w ta ts) (hU : ∀ t ∈ ts, TrU t) (hc : ¬ chkP p ts = 0) :
    Calls Tryz.prog 3 #[planV p (.slice ta ts.length tc), .slice ga gl gc] w fun e w' => e = .returned (.bool true) ∧ Below w.heap.size w w' := by
  obtain ⟨W0, hW0⟩ : ∃ W0, W0 = w.alloc (.cells (planC p (.slice ta ts.length tc)) 26) := ⟨_, rfl⟩
  have hX0 : PX W0 w.heap.size p (.slice ta ts.length tc) := by rw [hW0]; exact ⟨by simp, fun o => by simp, fun o => by simp⟩
  have hb0 : Below w.heap.size w W0 := by rw [hW0]; exact (Below.refl _ _).alloc (Nat.le_refl _) _
  have HW0 : Hid (W0 = w.alloc (.cells (planC p (.slice ta ts.length tc)) 26)) := hW0
  have cN := lnew_no p ta tc ts W0 (hB.below hb0 (Nat.le_refl _)) hi hl (hT.below hb0 (Nat.le_refl _)) hc
  have dne : (chkP p ts != 0) = true := by rw [bne_iff_ne]; exact hc
  have hpl := hX0.plat
  have HB0 : Hid (Below w.heap.size w W0) := hb0
  have HX0 : Hid (PX W0 w.heap.size p (.slice ta ts.length tc)) := hX0
  have cP := fun w1 hb => rplan_any p ts ta tc w1 hl (hT.below hb (Nat.le_refl _)) hU
  clear hW0 hX0 hb0 hT hB
  generalize chkP p ts = E at *
  go_enter Tryz.func3, Tryz.ntmps3
  go_upto_region 1 with fail
  rw [← HW0.out]
  clear HW0
  go_wp2_with (first
    | (with_reducible refine wp_plan hpl (by with_unfolding_all rfl) ?_)
    | (go_at_call 4; (with_reducible refine cN.mono ?_); rintro e w1 ⟨rfl, hb1⟩; have hpl1 := (HX0.out.below hb1 HX0.out.lt).plat; have HB1 : Hid (Below w.heap.size w w1) := HB0.out.trans (hb1.mono HB0.out.size); have cP1 := cP w1 HB1.out; clear hb1)
    | (with_reducible refine wp_plan hpl1 (by with_unfolding_all rfl) ?_)
    | (go_at_call 5; (with_reducible refine cP1.mono ?_); rintro e w2 ⟨rfl, hb2⟩; have HB2 : Hid (Below w.heap.size w w2) := HB1.out.trans (hb2.mono HB1.out.size); clear hb2))
  go_ret
  exact ⟨by simp, HB2.out⟩
set_option maxHeartbeats 16000000 in
theorem lplays_good (p : Pd) (ta ga : Option Addr) (tc gc : Nat) (ts : List Tr) (gs : List Gl) (w : World) (hB : Lai.BdsAt w) (hi : PdI p) (hl : p.nm.length ≤ 9223372036854775807) (hT : TrsAt w ta ts) (hU : ∀ t ∈ ts, TrU t) (hG : GlsAt w ga gs) (hc : chkP p ts = 0) :
    Calls Tryz.prog 3 #[planV p (.slice ta ts.length tc), .slice ga gs.length gc] w fun e w' => e = .returned (.bool true) ∧ Below w.heap.size w w' := by
  obtain ⟨W0, hW0⟩ : ∃ W0, W0 = w.alloc (.cells (planC p (.slice ta ts.length tc)) 26) := ⟨_, rfl⟩
  have hX0 : PX W0 w.heap.size p (.slice ta ts.length tc) := by rw [hW0]; exact ⟨by simp, fun o => by simp, fun o => by simp⟩
  have hb0 : Below w.heap.size w W0 := by rw [hW0]; exact (Below.refl _ _).alloc (Nat.le_refl _) _
  have HW0 : Hid (W0 = w.alloc (.cells (planC p (.slice ta ts.length tc)) 26)) := hW0
  have cN := lnew_yes p ta tc ts W0 (hB.below hb0 (Nat.le_refl _)) hi hl (hT.below hb0 (Nat.le_refl _)) hc
  have hP := plOk_of hc
  have hl5 := hP.len
  have HP : Hid (PlOk p ts) := hP
  have hpl := hX0.plat
  have HB0 : Hid (Below w.heap.size w W0) := hb0
  have HX0 : Hid (PX W0 w.heap.size p (.slice ta ts.length tc)) := hX0
  have HT0 : Hid (TrsAt W0 ta ts) := hT.below hb0 (Nat.le_refl _)
  have HG0 : Hid (GlsAt W0 ga gs) := hG.below hb0 (Nat.le_refl _)
  have HBd : Hid (Lai.BdsAt W0) := hB.below hb0 (Nat.le_refl _)
  have HU : Hid (∀ t ∈ ts, TrU t) := hU
  have cP := fun w1 hb => rplan_any p ts ta tc w1 hl (HT0.out.below hb (Nat.le_refl _)) HU.out
  rw [hc] at cP
  clear hW0 hX0 hb0 hT hB hG hU hP hc
  go_enter Tryz.func3, Tryz.ntmps3
  go_upto_region 1 with fail
  rw [← HW0.out]
  clear HW0
  go_upto_region 5 with (first
    | (with_reducible refine wp_plan hpl (by with_unfolding_all rfl) ?_)
    | (go_at_call 4; (with_reducible refine cN.mono ?_); rintro e w1 ⟨D, vF, tb, tcb, rfl, hA1, hb1, htb⟩; have hpl1 := (HX0.out.below hb1 HX0.out.lt).plat; have HB1 : Hid (Below W0.heap.size W0 w1) := hb1; have cP1 := cP w1 hb1; have HA1 : Hid (LAt w1 W0.heap.size ⟨D, vF, Stb.nilV⟩ (noN p) tb tcb ts (newL ts.length) (Stb.new (nU p) (nD p)) ∧ ∀ b off, 0 < ts.length → tb = some ⟨b, off, none⟩ → W0.heap.size ≤ b) := ⟨hA1, htb⟩; clear hb1 hA1 htb)
    | (with_reducible refine wp_plan hpl1 (by with_unfolding_all rfl) ?_)
    | (go_at_call 5; (with_reducible refine cP1.mono ?_); rintro e w2 ⟨rfl, hb2⟩; have HB2 : Hid (Below w1.heap.size w1 w2) := hb2; clear hb2))
  clear cN cP cP1 hpl hpl1
  have HB02 : Hid (Below W0.heap.size W0 w2) := HB1.out.trans (HB2.out.mono HB1.out.size)
  by_cases h60 : 60 < gs.length
  · have h60' : (60 : Int) < (gs.length : Int) := by omega
    go_wp2
    go_ret
    exact ⟨rfl, HB0.out.trans (HB02.out.mono HB0.out.size)⟩
  · have h60' : ¬ (60 : Int) < (gs.length : Int) := by omega
    have hpl2 := (HX0.out.below HB02.out HX0.out.lt).plat
    have cW := Wat.wnew_any p ta tc ts w2 hl5 (HT0.out.below HB02.out (Nat.le_refl _))
    go_upto_region 8 with (first
      | (with_reducible refine wp_plan hpl2 (by with_unfolding_all rfl) ?_)
      | (go_at_call 6; (with_reducible refine cW.mono ?_); rintro e w3 ⟨Dy, Sy, vFy, rfl, hA3, hb3⟩))
    have hA2 := HA1.out.1.below HB2.out
    have H3 : Hid (DS W0 ⟨D, vF, Stb.nilV⟩ ⟨Dy, Sy, vFy, .slice none 0 0, .slice none 0 0⟩ p tb ta tcb tc ts (newL ts.length) (newL ts.length) (Stb.new (nU p) (nD p)) ⟨Stb.clP (nU p), Stb.clP (nD p), 0, [], []⟩ w3) := by
      refine ⟨hA2.below hb3, wat_base hA3 HB02.out.size (fun hp b off e => ?_), fun j hj hn => ?_, fun b off hp e hn => ?_, HB02.out.trans (hb3.mono HB02.out.size)⟩
      · obtain ⟨t, ht⟩ : ∃ t, ts[0]? = some t := ⟨ts[0], by simp⟩
        obtain ⟨b', off', e', hlt, _⟩ := HT0.out 0 t ht
        rw [e] at e'
        cases e'
        exact hlt
      · have h1 := (hA2.blt hj).2
        have h2 := (hA3.blt hn).1
        omega
      · have h1 := hA2.tlt hp e
        have h2 := (hA3.blt hn).1
        omega
    have HI : Hid (DI p ts (newL ts.length) (Stb.new (nU p) (nD p)) ⟨Stb.clP (nU p), Stb.clP (nD p), 0, [], []⟩ 0) := ⟨LI.new ts _ _, Stb.Sim.new _ _, ⟨Stb.clP_ok _, Stb.clP_ok _, ⟨Int.le_refl 0, by simp⟩, by simp, by simp, by simp, by simp⟩⟩
    clear cW hpl2 hA2 hA3 hb3 HA1 HB1 HB2
    (try simp only [Act.put])
    go_wp2_with fail
    go_loopw [45] (fun i wr => PlR W0 D Dy Sy vF vFy p tb ta tcb tc ts gs.length i wr) (fun i _ => gs.length - (intOf i).toNat)
    case atStart => exact ⟨0, Stb.nilV, .slice none 0 0, .slice none 0 0, newL ts.length, _, _, by omega, rfl, H3.out, HI.out⟩
    case round =>
      clear H3 HI
      obtain ⟨k, V, vw, vm, s, st, c, hk, rfl, h, hI⟩ := hrel
      by_cases hlt : k < gs.length
      · have hlt' : (k : Int) < (gs.length : Int) := by omega
        have hk60 : k < 60 := by omega
        obtain ⟨g, hg⟩ : ∃ g, gs[k]? = some g := ⟨gs[k], by simp [hlt]⟩
        obtain ⟨hgB, gb, go, ra, rc, rfl, hgl, d0, d1, d2, d3, d4, d5, d6, hR⟩ := HG0.out k g hg
        obtain ⟨gkd, gnow, gsec, ghv, gn, grs, gbusy⟩ := g
        dsimp only at d0 d1 d2 d3 d4 d5 d6 hR
        have hcl : ∀ o, wr.cell? ⟨gb, o, none⟩ = W0.cell? ⟨gb, o, none⟩ := fun o => h.b.cell (p := ⟨gb, o, none⟩) hgl
        have g0 := (hcl _).trans d0
        have g1 := (hcl _).trans d1
        have g2 := (hcl _).trans d2
        have g3 := (hcl _).trans d3
        have g4 := (hcl _).trans d4
        have g5 := (hcl _).trans d5
        have g6 := (hcl _).trans d6
        have HR : Hid (RdsAt W0 ra grs) := hR
        have HGb : Hid (gnow ≤ 9223372036854775807) := hgB.now.2
        obtain ⟨W8, hW8⟩ : ∃ W8, W8 = wr.alloc (.cells #[.int .i64 gkd, .int .i64 gnow, .int .i64 gsec, .int .i64 ghv, .int .i64 gn, .slice ra grs.length rc, .bool gbusy] 37) := ⟨_, rfl⟩
        have hb8 : Below wr.heap.size wr W8 := by rw [hW8]; exact (Below.refl _ _).alloc (Nat.le_refl _) _
        have hC : ∀ j u, (#[.int .i64 gkd, .int .i64 gnow, .int .i64 gsec, .int .i64 ghv, .int .i64 gn, .slice ra grs.length rc, .bool gbusy] : Array Value)[j]? = some u → W8.cell? ⟨wr.heap.size, j, none⟩ = some u := fun j u hu => by rw [hW8]; exact cellN rfl hu
        have HW8 : Hid (W8 = wr.alloc (.cells #[.int .i64 gkd, .int .i64 gnow, .int .i64 gsec, .int .i64 ghv, .int .i64 gn, .slice ra grs.length rc, .bool gbusy] 37)) := hW8
        obtain ⟨hCn, hCy⟩ := h.hi (Nat.le_refl wr.heap.size)
        have k0 := hC 0 _ rfl
        have k1 := hC 1 _ rfl
        have k2 := hC 2 _ rfl
        have k3 := hC 3 _ rfl
        have k4 := hC 4 _ rfl
        have k5 := hC 5 _ rfl
        have k6 := hC 6 _ rfl
        have H8 : Hid (DS W0 ⟨D, vF, V⟩ ⟨Dy, Sy, vFy, vw, vm⟩ p tb ta tcb tc ts (s) (s) (st) (c) W8) := h.below hb8
        have HI0 : Hid (DI p ts s st c k) := hI
        have HI1 : Hid (DI p ts s st c (k + 1)) := hI.mono (Nat.le_succ _)
        have hCl := World.block_lt_of_cell? W8 _ k4
        clear hW8 hC h hb8 hR hcl d0 d1 d2 d3 d4 d5 d6 hI hgB
        go_upto_region 11 with fail
        rw [← HW8.out]
        clear HW8 g0 g1 g2 g3 g4 g5 g6
        generalize wr.heap.size = C at *
        go_upto_block 2 with fail
        go_cut [11] (fun ok wx => KdR W0 D Dy Sy vF vFy p tb ta tcb tc ts k C gn ok wx)
        case first =>
          by_cases h0 : gkd = 0
          · subst h0
            by_cases hok : (s.la ≤ gnow ∧ gnow ≤ 1099511627776) ∧ (-100000000000 ≤ gsec ∧ gsec ≤ 100000000000) ∧ (0 ≤ ghv ∧ ghv ≤ 50) ∧ grs.length = ts.length
            · obtain ⟨q1, q2, q3, hrl⟩ := hok
              obtain ⟨N, WK, AK, cL1, cL2, hDI⟩ := duo_look W0 ⟨D, vF, V⟩ ⟨Dy, Sy, vFy, vw, vm⟩ p tb ta ra tcb tc rc ts grs s st c k gnow gsec ghv gbusy W8 H8.out HI0.out HBd.out HP.out HU.out HR.out hrl (by omega) q1 q2 q3
              dsimp only at cL1 cL2
              clear hrl
              have HDI : Hid (DI p ts (nextL s ts grs gnow AK) (nextS (noN p) s st gnow ghv WK AK) (Wat.nextC p s c gnow ghv WK AK) (k + 1)) := hDI
              have HL2 : Hid (∀ V' w', DS W0 ⟨D, vF, V'⟩ ⟨Dy, Sy, vFy, vw, vm⟩ p tb ta tcb tc ts (nextL s ts grs gnow AK) (s) (nextS (noN p) s st gnow ghv WK AK) (c) w' → Calls Tryz.prog 8 #[.pointer (some ⟨Dy, 0, none⟩), .int .i64 gnow, .int .i64 gsec, .int .i64 ghv, .slice ra grs.length rc, .bool gbusy] w' (fun e w'' => e = .returned (.tuple #[.int .i64 N, .int .i64 0]) ∧ ∃ vq vr, DS W0 ⟨D, vF, V'⟩ ⟨Dy, Sy, vFy, vq, vr⟩ p tb ta tcb tc ts (nextL s ts grs gnow AK) (nextL s ts grs gnow AK) (nextS (noN p) s st gnow ghv WK AK) (Wat.nextC p s c gnow ghv WK AK) w'' ∧ Mv (Wat.blk ⟨Dy, Sy, vFy, vw, vm⟩) (Wat.blk ⟨Dy, Sy, vFy, vq, vr⟩) w' w'')) := cL2
              clear hDI cL2
              go_wp2_with (first
                | (go_at_call 7; (with_reducible refine cL1.mono ?_); rintro e w9 ⟨rfl, V9, hd9, hm9⟩; have e1 := mv_cell hm9 k1 hCn; have e2 := mv_cell hm9 k2 hCn; have e3 := mv_cell hm9 k3 hCn; have e4 := mv_cell hm9 k4 hCn; have e5 := mv_cell hm9 k5 hCn; have e6 := mv_cell hm9 k6 hCn; have cL2 := HL2.out V9 w9 hd9; clear hd9 hm9)
                | (go_at_call 8; (with_reducible refine cL2.mono ?_); rintro e w10 ⟨rfl, vw9, vm9, hd10, hm10⟩; have HX : Hid (KdR W0 D Dy Sy vF vFy p tb ta tcb tc ts k C gn (.bool true) w10) := ⟨V9, vw9, vm9, _, _, _, rfl, hd10, HDI.out, mv_cell hm10 e4 hCy⟩; clear hd10 hm10 cL2))
              go_meet
              exact HX.out
            · have cL1 := plook_no W0.heap.size ⟨D, vF, V⟩ (noN p) tb ra tcb rc grs.length ts s st gnow gsec ghv gbusy W8 H8.out.l hok
              have cL2 := fun W hA => Wat.wlook_no W0.heap.size ⟨Dy, Sy, vFy, vw, vm⟩ p ta ra tc rc grs.length ts s c gnow gsec ghv gbusy W hA hok
              dsimp only at cL1 cL2
              clear hok
              have HC4 : Hid (W8.cell? ⟨C, 4, none⟩ = some (.int .i64 gn)) := k4
              go_wp2_with (first
                | (go_at_call 7; (with_reducible refine cL1.mono ?_); rintro e w9 ⟨rfl, hb9⟩; have e1 := (hb9.cell (p := ⟨C, 1, none⟩) hCl).trans k1; have e2 := (hb9.cell (p := ⟨C, 2, none⟩) hCl).trans k2; have e3 := (hb9.cell (p := ⟨C, 3, none⟩) hCl).trans k3; have e4 := (hb9.cell (p := ⟨C, 4, none⟩) hCl).trans k4; have e5 := (hb9.cell (p := ⟨C, 5, none⟩) hCl).trans k5; have e6 := (hb9.cell (p := ⟨C, 6, none⟩) hCl).trans k6; have H9 : Hid (DS W0 ⟨D, vF, V⟩ ⟨Dy, Sy, vFy, vw, vm⟩ p tb ta tcb tc ts (s) (s) (st) (c) w9) := H8.out.below hb9; clear hb9)
                | (go_at_call 8; (with_reducible refine (cL2 _ H9.out.d).mono ?_); rintro e w10 ⟨rfl, h9⟩; have h8 := h9.symm; clear h9; subst h8))
              go_meet
              exact ⟨V, vw, vm, s, st, c, rfl, H9.out, HI1.out, e4⟩
          · have d0 : (gkd == 0) = false := by rw [beq_eq_false_iff_ne]; exact h0
            by_cases h1 : gkd = 1
            · subst h1
              clear d0
              have cI := fun w => RCiv.in_any gn (-1) 50 w
              by_cases hN : -1 ≤ gn ∧ gn ≤ 50
              · have ei : RCiv.inB gn (-1) 50 = true := by unfold RCiv.inB; simp; exact hN
                rw [ei] at cI
                have hw9 : DS W0 ⟨D, vF, V⟩ ⟨Dy, Sy, vFy, vw, vm⟩ p tb ta tcb tc ts (s) (⟨s.fs, s.lk, s.la, s.nd, gn⟩) (st) (c) (W8.setCell ⟨Dy, 23, none⟩ (.int .i64 gn)).drew := by
                  have hd := H8.out
                  exact (hd.watch (hd.d.turned (s' := ⟨s.fs, s.lk, s.la, s.nd, gn⟩) (Turn.setQ 23 (.int .i64 gn)) (Wat.set_pa hd.d.r gn)) (Wat.WStep.of_turn (x := ⟨Dy, Sy, vFy, vw, vm⟩) (Turn.setQ 23 (.int .i64 gn)))).below (bdrew _)
                have hCD : C ≠ Dy := fun e => hCy (Or.inl e)
                have e4 : (W8.setCell ⟨Dy, 23, none⟩ (.int .i64 gn)).drew.cell? ⟨C, 4, none⟩ = some (.int .i64 gn) := by
                  show (W8.setCell ⟨Dy, 23, none⟩ (.int .i64 gn)).cell? ⟨C, 4, none⟩ = _
                  rw [World.cell?_setCell_other (h := fun e => hCD (congrArg Addr.block e).symm)]; exact k4
                have cP := pause_yes W0.heap.size ⟨D, vF, V⟩ (noN p) tb tcb ts s st gn (W8.setCell ⟨Dy, 23, none⟩ (.int .i64 gn)).drew hw9.l hN.1 hN.2
                dsimp only at cP
                have q23 := (Wat.cel_of H8.out.d.r).pa
                have f23 := H8.out.d.r.fz 23
                dsimp only at q23 f23
                have H9 : Hid (DS W0 ⟨D, vF, V⟩ ⟨Dy, Sy, vFy, vw, vm⟩ p tb ta tcb tc ts (s) (⟨s.fs, s.lk, s.la, s.nd, gn⟩) (st) (c) (W8.setCell ⟨Dy, 23, none⟩ (.int .i64 gn)).drew) := hw9
                clear hw9 ei
                go_upto_region 20 with (go_at_call 9; (with_reducible refine (cI _).mono ?_); rintro e w' ⟨rfl, h9⟩; have h8 := h9.symm; clear h9; subst h8)
                go_region
                all_goals
                  go_wp2_with (go_at_call 10; (with_reducible refine cP.mono ?_); rintro e w10 ⟨rfl, hA10, hm10⟩; have HX : Hid (KdR W0 D Dy Sy vF vFy p tb ta tcb tc ts k C gn (.bool true) w10) := ⟨V, vw, vm, _, _, _, rfl, H9.out.loop hA10 hm10, ⟨HI1.out.i.pause gn, HI1.out.sm, HI1.out.cf⟩, mv_cell hm10 e4 hCn⟩; clear hA10 hm10)
                  go_meet
                  exact HX.out
              · have ei : RCiv.inB gn (-1) 50 = false := by cases e : RCiv.inB gn (-1) 50; rfl; exact absurd (by unfold RCiv.inB at e; simpa using e) hN
                rw [ei] at cI
                have cP := pause_no ⟨D, vF, V⟩ gn W8 hN
                dsimp only at cP
                clear ei
                have HX : Hid (KdR W0 D Dy Sy vF vFy p tb ta tcb tc ts k C gn (.bool true) W8) := ⟨V, vw, vm, s, st, c, rfl, H8.out, HI1.out, k4⟩
                go_wp2_with (first
                  | (go_at_call 9; (with_reducible refine (cI _).mono ?_); rintro e w' ⟨rfl, h9⟩; have h8 := h9.symm; clear h9; subst h8)
                  | (go_at_call 10; (with_reducible refine cP.mono ?_); rintro e w' ⟨rfl, h9⟩; have h8 := h9.symm; clear h9; subst h8))
                go_meet
                exact HX.out
            · have d1 : (gkd == 1) = false := by rw [beq_eq_false_iff_ne]; exact h1
              by_cases h2 : gkd = 2
              · subst h2
                clear d0 d1
                have hpo := HP.out.po
                have cD1 := fun W (hd : DS W0 ⟨D, vF, V⟩ ⟨Dy, Sy, vFy, vw, vm⟩ p tb ta tcb tc ts (s) (s) (st) (c) W) => due_any W0.heap.size ⟨D, vF, V⟩ (noN p) tb tcb ts s st gnow W hd.l HI0.out.i.la hpo
                have cD2 := fun W (hd : DS W0 ⟨D, vF, V⟩ ⟨Dy, Sy, vFy, vw, vm⟩ p tb ta tcb tc ts (s) (s) (st) (c) W) => Wat.wdue_any W0.heap.size ⟨Dy, Sy, vFy, vw, vm⟩ p ta tc ts s c gnow W hd.d HI0.out.i.la HGb.out
                simp only [due_same hpo.1] at cD2
                dsimp only at cD1 cD2
                generalize dueP (noN p) s gnow = DV at *
                have HdD : Hid (DS W0 ⟨D, vF, V⟩ ⟨Dy, Sy, vFy, vw, vm⟩ p tb ta tcb tc ts (s) (s) (st) (c) W8.drew) := H8.out.below (bdrew W8)
                clear h1 h0
                go_upto_region 23 with fail
                refine wp_region_held_drew (S := fun w' => w'.cell? ⟨C, 1, none⟩ = some (.int .i64 gnow)) (by kernel_rfl) (k1) (fun hHeld => ?_)
                refine wpAnyH_take (i := 0) (oi := _) (v := ?_) rfl (by kernel_rfl) (by kernel_rfl) (by kernel_rfl) (fun _ _ _ h => h) (Or.inl ⟨by rfl, ?_⟩) (by assumption) ?_
                rotate_left
                · intro w' hSw
                  (try dsimp only at hSw)
                  go_simp
                  all_goals with_reducible rfl
                (try simp only [Act.put, List.setIfInBounds_toArray, List.set_cons_zero, List.set_cons_succ, List.getElem_toArray, List.getElem_cons_zero])
                refine wpAnyH_take (i := 1) (oi := _) (v := ?_) rfl (by kernel_rfl) (by kernel_rfl) (by kernel_rfl) (fun _ _ _ h => h) (Or.inl ⟨by rfl, ?_⟩) (by assumption) ?_
                rotate_left
                · intro w' hSw
                  (try dsimp only at hSw)
                  go_simp
                  all_goals with_reducible rfl
                (try simp only [Act.put, List.setIfInBounds_toArray, List.set_cons_zero, List.set_cons_succ, List.getElem_toArray, List.getElem_cons_zero, List.getElem_cons_succ])
                refine wpAnyH_take (i := 2) (oi := _) (v := ?_) rfl (by kernel_rfl) (by kernel_rfl) (by kernel_rfl) (fun _ _ _ h => h) (Or.inl ⟨by rfl, ?_⟩) (by assumption) ?_
                rotate_left
                · intro w' hSw
                  (try dsimp only at hSw)
                  go_simp
                  all_goals with_reducible rfl
                (try simp only [Act.put, List.setIfInBounds_toArray, List.set_cons_zero, List.set_cons_succ, List.getElem_toArray, List.getElem_cons_zero, List.getElem_cons_succ])
                refine wpAnyH_take (i := 4) (oi := _) (v := ?_) rfl (by kernel_rfl) (by kernel_rfl) (by kernel_rfl) (fun _ _ _ h => h) (Or.inl ⟨by rfl, ?_⟩) (by assumption) ?_
                rotate_left
                · intro w' hSw
                  (try dsimp only at hSw)
                  go_simp
                  all_goals with_reducible rfl
                (try simp only [Act.put, List.setIfInBounds_toArray, List.set_cons_zero, List.set_cons_succ, List.getElem_toArray, List.getElem_cons_zero, List.getElem_cons_succ])
                refine wpAnyH_take (i := 5) (oi := _) (v := ?_) rfl (by kernel_rfl) (by kernel_rfl) (by kernel_rfl) (fun _ _ _ h => h) (Or.inl ⟨by rfl, ?_⟩) (by assumption) ?_
                rotate_left
                · intro w' hSw
                  (try dsimp only at hSw)
                  go_simp
                  all_goals with_reducible rfl
                (try simp only [Act.put, List.setIfInBounds_toArray, List.set_cons_zero, List.set_cons_succ, List.getElem_toArray, List.getElem_cons_zero, List.getElem_cons_succ])
                refine wpAnyH_take (i := 6) (oi := _) (v := ?_) rfl (by kernel_rfl) (by kernel_rfl) (by kernel_rfl) (fun _ _ _ h => h) (Or.inl ⟨by rfl, ?_⟩) (by assumption) ?_
                rotate_left
                · intro w' hSw
                  (try dsimp only at hSw)
                  go_simp
                  all_goals with_reducible rfl
                (try simp only [Act.put, List.setIfInBounds_toArray, List.set_cons_zero, List.set_cons_succ, List.getElem_toArray, List.getElem_cons_zero, List.getElem_cons_succ])
                refine wpAnyH_ready (rs := [3]) (by kernel_rfl) (by simp) ?_
                refine AllReadyH.cons rfl (fun K hK => ?_) AllReadyH.nil
                · go_simp
                  go_wp2_with (go_at_call 11; (with_reducible refine (cD1 _ HdD.out).mono ?_); rintro e w5 ⟨rfl, hb5⟩; have k15 := (hb5.cell hCl).trans k1; have Hd5 : Hid (DS W0 ⟨D, vF, V⟩ ⟨Dy, Sy, vFy, vw, vm⟩ p tb ta tcb tc ts (s) (s) (st) (c) w5) := HdD.out.below hb5; have HB5 : Hid (Below W8.heap.size W8 w5) := (bdrew W8).trans hb5; have hC5 := Nat.lt_of_lt_of_le hCl hb5.size; clear hb5)
                  refine hK.out _ _ k15 (fun hHeld => ?_)
                  clear hK K
                  refine wpAnyH_ready (rs := [7]) (by kernel_rfl) (by simp) ?_
                  refine AllReadyH.cons rfl (fun K hK => ?_) AllReadyH.nil
                  go_simp
                  go_wp2_with (go_at_call 12; (with_reducible refine (cD2 _ Hd5.out).mono ?_); rintro e w6 ⟨rfl, hb6⟩; have k16 := (hb6.cell hC5).trans k15; have Hd6 : Hid (DS W0 ⟨D, vF, V⟩ ⟨Dy, Sy, vFy, vw, vm⟩ p tb ta tcb tc ts (s) (s) (st) (c) w6) := Hd5.out.below hb6; have HB6 : Hid (Below W8.heap.size W8 w6) := HB5.out.trans (hb6.mono HB5.out.size); clear hb6)
                  refine hK.out _ _ k16 (fun hHeld => ?_)
                  clear hK K
                  refine wpAnyH_take (i := 8) (oi := _) (v := ?_) rfl (by kernel_rfl) (by kernel_rfl) (by kernel_rfl) (fun _ _ _ h => h) (Or.inl ⟨by rfl, ?_⟩) (by assumption) ?_
                  rotate_left
                  · intro w' hSw
                    (try dsimp only at hSw)
                    go_simp
                    all_goals with_reducible rfl
                  (try simp only [Act.put, List.setIfInBounds_toArray, List.set_cons_zero, List.set_cons_succ, List.getElem_toArray, List.getElem_cons_zero, List.getElem_cons_succ])
                  refine wpAnyH_take (i := 9) (oi := _) (v := ?_) rfl (by kernel_rfl) (by kernel_rfl) (by kernel_rfl) (fun _ _ _ h => h) (Or.inl ⟨by rfl, ?_⟩) (by assumption) ?_
                  rotate_left
                  · intro w' hSw
                    (try dsimp only at hSw)
                    go_simp
                    all_goals with_reducible rfl
                  (try simp only [Act.put, List.setIfInBounds_toArray, List.set_cons_zero, List.set_cons_succ, List.getElem_toArray, List.getElem_cons_zero, List.getElem_cons_succ])
                  refine wpAnyH_done (by kernel_rfl) ?_ _
                  (try go_wp2)
                  go_meet
                  exact ⟨V, vw, vm, s, st, c, rfl, Hd6.out, HI1.out, by
                    have := HB6.out.cell (p := ⟨C, 4, none⟩) hCl
                    exact this.trans k4⟩
              · have d2 : (gkd == 2) = false := by rw [beq_eq_false_iff_ne]; exact h2
                have HX : Hid (KdR W0 D Dy Sy vF vFy p tb ta tcb tc ts k C gn (.bool true) W8) := ⟨V, vw, vm, s, st, c, rfl, H8.out, HI1.out, k4⟩
                clear h0 h1 h2
                go_wp2
                go_meet
                exact HX.out
        case rest =>
          obtain ⟨V9, vw9, vm9, s', st', c', rfl, hd, hI, m4⟩ := hcut
          clear k0 k1 k2 k3 k4 k5 k6 hCl H8 HI0 HI1
          have k4 := m4
          clear m4
          have hfl := hI.i.fl
          have qF := (Wat.cel_of hd.d.r).fs
          obtain ⟨fa, fc, hvf, _, _, hfg⟩ := hd.d.r.form
          dsimp only at qF hvf
          rw [hvf] at qF
          have cFa := fails_any W0.heap.size ⟨D, vF, V9⟩ (noN p) tb tcb ts s' st' gn wc hd.l
          have cFd := fails_any W0.heap.size ⟨D, vF, V9⟩ (noN p) tb tcb ts s' st' gn wc.drew (hd.below (bdrew wc)).l
          have cFdd := fails_any W0.heap.size ⟨D, vF, V9⟩ (noN p) tb tcb ts s' st' gn wc.drew.drew ((hd.below (bdrew wc)).below (bdrew wc.drew)).l
          dsimp only at cFa cFd cFdd
          have HX : Hid (PlR W0 D Dy Sy vF vFy p tb ta tcb tc ts gs.length (.int .i64 ((k + 1 : Nat) : Int)) wc.drew ∧ PlR W0 D Dy Sy vF vFy p tb ta tcb tc ts gs.length (.int .i64 ((k + 1 : Nat) : Int)) wc.drew.drew) := ⟨⟨k + 1, V9, vw9, vm9, s', st', c', hlt, rfl, hd.below (bdrew wc), hI⟩, ⟨k + 1, V9, vw9, vm9, s', st', c', hlt, rfl, (hd.below (bdrew wc)).below (bdrew wc.drew), hI⟩⟩
          have hfb : (s'.fs.length : Int) ≤ 5 := by rw [hfl]; omega
          have hwl : IntKind.i64.wrap ((s'.fs.length : Int) - 1) = (s'.fs.length : Int) - 1 := by rw [IntKind.wrap_i64] <;> omega
          clear hfl
          have cI := fun w => RCiv.in_any gn 0 ((s'.fs.length : Int) - 1) w
          by_cases hin : 0 ≤ gn ∧ gn ≤ (s'.fs.length : Int) - 1
          · obtain ⟨i, hgi⟩ : ∃ i : Nat, gn = (i : Int) := ⟨gn.toNat, by omega⟩
            have hil : i < s'.fs.length := by omega
            obtain ⟨f, hf⟩ : ∃ f, s'.fs[i]? = some f := ⟨s'.fs[i], by simp [hil]⟩
            obtain ⟨gf, rfl⟩ := hfg (by omega)
            have hr := hd.d.r
            rw [hvf] at hr
            obtain ⟨c1, -, -⟩ := Wat.get_fs hr rfl hf
            have ei : RCiv.inB gn 0 ((s'.fs.length : Int) - 1) = true := by unfold RCiv.inB; simp; omega
            rw [ei] at cI
            have ef : failsF s'.fs gn = f := by unfold failsF; rw [hgi, if_pos (by omega)]; simp [hf]
            rw [ef] at cFdd
            have hi' : (i : Int) < (s'.fs.length : Int) := by omega
            rw [hgi] at k4 cI cFdd
            clear ei ef hr hfg hin hd hI hvf cFa cFd hf
            go_upto_region 25 with fail
            refine wp_region_held_drew (S := fun w' => w'.cell? ⟨C, 4, none⟩ = some (.int .i64 (i : Int)) ∧ w'.cell? ⟨Dy, 19, none⟩ = some (.slice (some ⟨gf, 0, none⟩) s'.fs.length fc)) (by kernel_rfl) (⟨k4, qF⟩) (fun hHeld => ?_)
            refine wpAnyH_take (i := 0) (oi := _) (v := ?_) rfl (by kernel_rfl) (by kernel_rfl) (by kernel_rfl) (fun _ _ _ h => h) (Or.inl ⟨by rfl, ?_⟩) (by assumption) ?_
            rotate_left
            · intro w' hSw
              (try dsimp only at hSw)
              go_simp
              all_goals with_reducible rfl
            (try simp only [Act.put, List.setIfInBounds_toArray, List.set_cons_zero, List.set_cons_succ, List.getElem_toArray, List.getElem_cons_zero])
            refine wpAnyH_take (i := 1) (oi := _) (v := ?_) rfl (by kernel_rfl) (by kernel_rfl) (by kernel_rfl) (fun _ _ _ h => h) (Or.inl ⟨by rfl, ?_⟩) (by assumption) ?_
            rotate_left
            · intro w' hSw
              (try dsimp only at hSw)
              go_simp
              all_goals with_reducible rfl
            (try simp only [Act.put, List.setIfInBounds_toArray, List.set_cons_zero, List.set_cons_succ, List.getElem_toArray, List.getElem_cons_zero, List.getElem_cons_succ])
            refine wpAnyH_take (i := 2) (oi := _) (v := ?_) rfl (by kernel_rfl) (by kernel_rfl) (by kernel_rfl) (fun _ _ _ h => h) (Or.inl ⟨by rfl, ?_⟩) (by assumption) ?_
            rotate_left
            · intro w' hSw
              (try dsimp only at hSw)
              go_simp
              all_goals with_reducible rfl
            (try simp only [Act.put, List.setIfInBounds_toArray, List.set_cons_zero, List.set_cons_succ, List.getElem_toArray, List.getElem_cons_zero, List.getElem_cons_succ])
            refine wpAnyH_take (i := 3) (oi := _) (v := ?_) rfl (by kernel_rfl) (by kernel_rfl) (by kernel_rfl) (fun _ _ _ h => h) (Or.inl ⟨by rfl, ?_⟩) (by assumption) ?_
            rotate_left
            · intro w' hSw
              (try dsimp only at hSw)
              go_simp
              all_goals with_reducible rfl
            (try simp only [Act.put, List.setIfInBounds_toArray, List.set_cons_zero, List.set_cons_succ, List.getElem_toArray, List.getElem_cons_zero, List.getElem_cons_succ])
            refine wpAnyH_take (i := 4) (oi := _) (v := ?_) rfl (by kernel_rfl) (by kernel_rfl) (by kernel_rfl) (fun _ _ _ h => h) (Or.inl ⟨by rfl, ?_⟩) (by assumption) ?_
            rotate_left
            · intro w' hSw
              (try dsimp only at hSw)
              go_simp
              all_goals with_reducible rfl
            (try simp only [Act.put, List.setIfInBounds_toArray, List.set_cons_zero, List.set_cons_succ, List.getElem_toArray, List.getElem_cons_zero, List.getElem_cons_succ])
            refine wpAnyH_take (i := 5) (oi := _) (v := ?_) rfl (by kernel_rfl) (by kernel_rfl) (by kernel_rfl) (fun _ _ _ h => h) (Or.inl ⟨by rfl, ?_⟩) (by assumption) ?_
            rotate_left
            · intro w' hSw
              (try dsimp only at hSw)
              go_simp
              all_goals with_reducible rfl
            (try simp only [Act.put, List.setIfInBounds_toArray, List.set_cons_zero, List.set_cons_succ, List.getElem_toArray, List.getElem_cons_zero, List.getElem_cons_succ])
            refine wpAnyH_take (i := 6) (oi := _) (v := ?_) rfl (by kernel_rfl) (by kernel_rfl) (by kernel_rfl) (fun _ _ _ h => h) (Or.inl ⟨by rfl, ?_⟩) (by assumption) ?_
            rotate_left
            · intro w' hSw
              (try dsimp only at hSw)
              go_simp
              all_goals with_reducible rfl
            (try simp only [Act.put, List.setIfInBounds_toArray, List.set_cons_zero, List.set_cons_succ, List.getElem_toArray, List.getElem_cons_zero, List.getElem_cons_succ])
            refine wpAnyH_take (i := 7) (oi := _) (v := ?_) rfl (by kernel_rfl) (by kernel_rfl) (by kernel_rfl) (fun _ _ _ h => h) (Or.inl ⟨by rfl, ?_⟩) (by assumption) ?_
            rotate_left
            · intro w' hSw
              (try dsimp only at hSw)
              go_simp
              all_goals with_reducible rfl
            (try simp only [Act.put, List.setIfInBounds_toArray, List.set_cons_zero, List.set_cons_succ, List.getElem_toArray, List.getElem_cons_zero, List.getElem_cons_succ])
            refine wpAnyH_ready (rs := [8]) (by kernel_rfl) (by simp) ?_
            refine AllReadyH.cons rfl (fun K hK => ?_) AllReadyH.nil
            go_simp
            go_wp2_with ((go_at_call 9; (with_reducible refine (cI _).mono ?_); rintro e w' ⟨rfl, h9⟩; have h8 := h9.symm; clear h9; subst h8))
            refine hK.out _ _ (⟨k4, qF⟩) (fun hHeld => ?_)
            clear hK K
            refine wpAnyH_done (by kernel_rfl) ?_ _
            (try go_wp2_with fail)
            refine wp_region_held_drew (S := fun w' => w'.cell? ⟨C, 4, none⟩ = some (.int .i64 (i : Int)) ∧ w'.cell? ⟨Dy, 19, none⟩ = some (.slice (some ⟨gf, 0, none⟩) s'.fs.length fc) ∧ w'.cell? ⟨gf, i, none⟩ = some (.int .i64 f)) (by kernel_rfl) (⟨k4, qF, c1⟩) (fun hHeld => ?_)
            refine wpAnyH_take (i := 0) (oi := _) (v := ?_) rfl (by kernel_rfl) (by kernel_rfl) (by kernel_rfl) (fun _ _ _ h => h) (Or.inl ⟨by rfl, ?_⟩) (by assumption) ?_
            rotate_left
            · intro w' hSw
              (try dsimp only at hSw)
              go_simp
              all_goals with_reducible rfl
            (try simp only [Act.put, List.setIfInBounds_toArray, List.set_cons_zero, List.set_cons_succ, List.getElem_toArray, List.getElem_cons_zero])
            refine wpAnyH_take (i := 1) (oi := _) (v := ?_) rfl (by kernel_rfl) (by kernel_rfl) (by kernel_rfl) (fun _ _ _ h => h) (Or.inl ⟨by rfl, ?_⟩) (by assumption) ?_
            rotate_left
            · intro w' hSw
              (try dsimp only at hSw)
              go_simp
              all_goals with_reducible rfl
            (try simp only [Act.put, List.setIfInBounds_toArray, List.set_cons_zero, List.set_cons_succ, List.getElem_toArray, List.getElem_cons_zero, List.getElem_cons_succ])
            refine wpAnyH_take (i := 2) (oi := _) (v := ?_) rfl (by kernel_rfl) (by kernel_rfl) (by kernel_rfl) (fun _ _ _ h => h) (Or.inl ⟨by rfl, ?_⟩) (by assumption) ?_
            rotate_left
            · intro w' hSw
              (try dsimp only at hSw)
              go_simp
              all_goals with_reducible rfl
            (try simp only [Act.put, List.setIfInBounds_toArray, List.set_cons_zero, List.set_cons_succ, List.getElem_toArray, List.getElem_cons_zero, List.getElem_cons_succ])
            refine wpAnyH_take (i := 3) (oi := _) (v := ?_) rfl (by kernel_rfl) (by kernel_rfl) (by kernel_rfl) (fun _ _ _ h => h) (Or.inl ⟨by rfl, ?_⟩) (by assumption) ?_
            rotate_left
            · intro w' hSw
              (try dsimp only at hSw)
              go_simp
              all_goals with_reducible rfl
            (try simp only [Act.put, List.setIfInBounds_toArray, List.set_cons_zero, List.set_cons_succ, List.getElem_toArray, List.getElem_cons_zero, List.getElem_cons_succ])
            refine wpAnyH_take (i := 4) (oi := _) (v := ?_) rfl (by kernel_rfl) (by kernel_rfl) (by kernel_rfl) (fun _ _ _ h => h) (Or.inl ⟨by rfl, ?_⟩) (by assumption) ?_
            rotate_left
            · intro w' hSw
              (try dsimp only at hSw)
              go_simp
              all_goals with_reducible rfl
            (try simp only [Act.put, List.setIfInBounds_toArray, List.set_cons_zero, List.set_cons_succ, List.getElem_toArray, List.getElem_cons_zero, List.getElem_cons_succ])
            refine wpAnyH_take (i := 5) (oi := _) (v := ?_) rfl (by kernel_rfl) (by kernel_rfl) (by kernel_rfl) (fun _ _ _ h => h) (Or.inl ⟨by rfl, ?_⟩) (by assumption) ?_
            rotate_left
            · intro w' hSw
              (try dsimp only at hSw)
              go_simp
              all_goals with_reducible rfl
            (try simp only [Act.put, List.setIfInBounds_toArray, List.set_cons_zero, List.set_cons_succ, List.getElem_toArray, List.getElem_cons_zero, List.getElem_cons_succ])
            refine wpAnyH_take (i := 6) (oi := _) (v := ?_) rfl (by kernel_rfl) (by kernel_rfl) (by kernel_rfl) (fun _ _ _ h => h) (Or.inl ⟨by rfl, ?_⟩) (by assumption) ?_
            rotate_left
            · intro w' hSw
              (try dsimp only at hSw)
              go_simp
              all_goals with_reducible rfl
            (try simp only [Act.put, List.setIfInBounds_toArray, List.set_cons_zero, List.set_cons_succ, List.getElem_toArray, List.getElem_cons_zero, List.getElem_cons_succ])
            refine wpAnyH_take (i := 7) (oi := _) (v := ?_) rfl (by kernel_rfl) (by kernel_rfl) (by kernel_rfl) (fun _ _ _ h => h) (Or.inl ⟨by rfl, ?_⟩) (by assumption) ?_
            rotate_left
            · intro w' hSw
              (try dsimp only at hSw)
              go_simp
              all_goals with_reducible rfl
            (try simp only [Act.put, List.setIfInBounds_toArray, List.set_cons_zero, List.set_cons_succ, List.getElem_toArray, List.getElem_cons_zero, List.getElem_cons_succ])
            refine wpAnyH_take (i := 8) (oi := _) (v := ?_) rfl (by kernel_rfl) (by kernel_rfl) (by kernel_rfl) (fun _ _ _ h => h) (Or.inl ⟨by rfl, ?_⟩) (by assumption) ?_
            rotate_left
            · intro w' hSw
              (try dsimp only at hSw)
              go_simp
              all_goals with_reducible rfl
            (try simp only [Act.put, List.setIfInBounds_toArray, List.set_cons_zero, List.set_cons_succ, List.getElem_toArray, List.getElem_cons_zero, List.getElem_cons_succ])
            refine wpAnyH_done (by kernel_rfl) ?_ _
            go_wp2_with (go_at_call 13; (with_reducible refine cFdd.mono ?_); rintro e w' ⟨rfl, h9⟩; have h8 := h9.symm; clear h9; subst h8)
            go_roundw
            case rel => exact HX.out.2
            case measure => simp [intOf]; omega
          · have ei : RCiv.inB gn 0 ((s'.fs.length : Int) - 1) = false := by cases e : RCiv.inB gn 0 ((s'.fs.length : Int) - 1); rfl; exact absurd (by unfold RCiv.inB at e; simpa using e) hin
            rw [ei] at cI
            have ef : failsF s'.fs gn = 0 := by
              unfold failsF
              split
              · rw [List.getElem?_eq_none (by omega)]; rfl
              · rfl
            rw [ef] at cFd
            clear ei ef hfg hin hd hI hvf cFa cFdd
            go_upto_region 25 with fail
            refine wp_region_held_drew (S := fun w' => w'.cell? ⟨C, 4, none⟩ = some (.int .i64 gn) ∧ w'.cell? ⟨Dy, 19, none⟩ = some (.slice (fa) s'.fs.length fc)) (by kernel_rfl) (⟨k4, qF⟩) (fun hHeld => ?_)
            refine wpAnyH_take (i := 0) (oi := _) (v := ?_) rfl (by kernel_rfl) (by kernel_rfl) (by kernel_rfl) (fun _ _ _ h => h) (Or.inl ⟨by rfl, ?_⟩) (by assumption) ?_
            rotate_left
            · intro w' hSw
              (try dsimp only at hSw)
              go_simp
              all_goals with_reducible rfl
            (try simp only [Act.put, List.setIfInBounds_toArray, List.set_cons_zero, List.set_cons_succ, List.getElem_toArray, List.getElem_cons_zero])
            refine wpAnyH_take (i := 1) (oi := _) (v := ?_) rfl (by kernel_rfl) (by kernel_rfl) (by kernel_rfl) (fun _ _ _ h => h) (Or.inl ⟨by rfl, ?_⟩) (by assumption) ?_
            rotate_left
            · intro w' hSw
              (try dsimp only at hSw)
              go_simp
              all_goals with_reducible rfl
            (try simp only [Act.put, List.setIfInBounds_toArray, List.set_cons_zero, List.set_cons_succ, List.getElem_toArray, List.getElem_cons_zero, List.getElem_cons_succ])
            refine wpAnyH_take (i := 2) (oi := _) (v := ?_) rfl (by kernel_rfl) (by kernel_rfl) (by kernel_rfl) (fun _ _ _ h => h) (Or.inl ⟨by rfl, ?_⟩) (by assumption) ?_
            rotate_left
            · intro w' hSw
              (try dsimp only at hSw)
              go_simp
              all_goals with_reducible rfl
            (try simp only [Act.put, List.setIfInBounds_toArray, List.set_cons_zero, List.set_cons_succ, List.getElem_toArray, List.getElem_cons_zero, List.getElem_cons_succ])
            refine wpAnyH_take (i := 3) (oi := _) (v := ?_) rfl (by kernel_rfl) (by kernel_rfl) (by kernel_rfl) (fun _ _ _ h => h) (Or.inl ⟨by rfl, ?_⟩) (by assumption) ?_
            rotate_left
            · intro w' hSw
              (try dsimp only at hSw)
              go_simp
              all_goals with_reducible rfl
            (try simp only [Act.put, List.setIfInBounds_toArray, List.set_cons_zero, List.set_cons_succ, List.getElem_toArray, List.getElem_cons_zero, List.getElem_cons_succ])
            refine wpAnyH_take (i := 4) (oi := _) (v := ?_) rfl (by kernel_rfl) (by kernel_rfl) (by kernel_rfl) (fun _ _ _ h => h) (Or.inl ⟨by rfl, ?_⟩) (by assumption) ?_
            rotate_left
            · intro w' hSw
              (try dsimp only at hSw)
              go_simp
              all_goals with_reducible rfl
            (try simp only [Act.put, List.setIfInBounds_toArray, List.set_cons_zero, List.set_cons_succ, List.getElem_toArray, List.getElem_cons_zero, List.getElem_cons_succ])
            refine wpAnyH_take (i := 5) (oi := _) (v := ?_) rfl (by kernel_rfl) (by kernel_rfl) (by kernel_rfl) (fun _ _ _ h => h) (Or.inl ⟨by rfl, ?_⟩) (by assumption) ?_
            rotate_left
            · intro w' hSw
              (try dsimp only at hSw)
              go_simp
              all_goals with_reducible rfl
            (try simp only [Act.put, List.setIfInBounds_toArray, List.set_cons_zero, List.set_cons_succ, List.getElem_toArray, List.getElem_cons_zero, List.getElem_cons_succ])
            refine wpAnyH_take (i := 6) (oi := _) (v := ?_) rfl (by kernel_rfl) (by kernel_rfl) (by kernel_rfl) (fun _ _ _ h => h) (Or.inl ⟨by rfl, ?_⟩) (by assumption) ?_
            rotate_left
            · intro w' hSw
              (try dsimp only at hSw)
              go_simp
              all_goals with_reducible rfl
            (try simp only [Act.put, List.setIfInBounds_toArray, List.set_cons_zero, List.set_cons_succ, List.getElem_toArray, List.getElem_cons_zero, List.getElem_cons_succ])
            refine wpAnyH_take (i := 7) (oi := _) (v := ?_) rfl (by kernel_rfl) (by kernel_rfl) (by kernel_rfl) (fun _ _ _ h => h) (Or.inl ⟨by rfl, ?_⟩) (by assumption) ?_
            rotate_left
            · intro w' hSw
              (try dsimp only at hSw)
              go_simp
              all_goals with_reducible rfl
            (try simp only [Act.put, List.setIfInBounds_toArray, List.set_cons_zero, List.set_cons_succ, List.getElem_toArray, List.getElem_cons_zero, List.getElem_cons_succ])
            refine wpAnyH_ready (rs := [8]) (by kernel_rfl) (by simp) ?_
            refine AllReadyH.cons rfl (fun K hK => ?_) AllReadyH.nil
            go_simp
            go_wp2_with ((go_at_call 9; (with_reducible refine (cI _).mono ?_); rintro e w' ⟨rfl, h9⟩; have h8 := h9.symm; clear h9; subst h8))
            refine hK.out _ _ (⟨k4, qF⟩) (fun hHeld => ?_)
            clear hK K
            refine wpAnyH_done (by kernel_rfl) ?_ _
            go_wp2_with (go_at_call 13; (with_reducible refine cFd.mono ?_); rintro e w' ⟨rfl, h9⟩; have h8 := h9.symm; clear h9; subst h8)
            go_roundw
            case rel => exact HX.out.1
            case measure => simp [intOf]; omega
      · obtain rfl : k = gs.length := by omega
        have HF : Hid (Below w.heap.size w wr) := HB0.out.trans (h.b.mono HB0.out.size)
        clear h hI
        go_wp2
        go_ret
        exact ⟨rfl, HF.out⟩
end Lop
end Go.Proofs.YtbnnplfmhmmbnacGreatDoor
