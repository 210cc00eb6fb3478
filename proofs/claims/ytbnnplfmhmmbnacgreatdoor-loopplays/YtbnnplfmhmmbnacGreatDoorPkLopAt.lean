/- The program's loop as it lies, and what a call of it turns. -/
import Derived.Test.YtbnnplfmhmmbnacGreatDoorPkFrameGl
import Derived.Test.YtbnnplfmhmmbnacGreatDoorPkRecMem
import Derived.Test.YtbnnplfmhmmbnacGreatDoorPkPlanCheck
import Derived.Test.YtbnnplfmhmmbnacGreatDoorPkStbKnow
namespace Go.Proofs.YtbnnplfmhmmbnacGreatDoor
namespace Lop
open Go.RowKit Rw Rec Plain Pln Frm Lpp
set_option maxRecDepth 8000

/-- numbers, a cell each -/
def iK : Kd Int := ⟨fun n => [.int .i64 n], 1, fun _ => rfl, fun m u hu => by simp at hu; subst hu; rfl, by decide⟩
/-- nothing but the blocks b has turned; the blocks are b' now -/
structure Mv (b b' : Nat → Prop) (w w' : World) : Prop where
  os : w'.os = w.os
  tape : w'.tape = w.tape
  output : w'.output = w.output
  size : w.heap.size ≤ w'.heap.size
  block : ∀ k, k < w.heap.size → ¬ b k → w'.heap[k]? = w.heap[k]?
  loc : ∀ k, b' k → b k ∨ w.heap.size ≤ k
section
variable {w w' w'' : World} {b b' b'' : Nat → Prop}
theorem Mv.refl (b : Nat → Prop) (w : World) : Mv b b w w := ⟨rfl, rfl, rfl, Nat.le_refl _, fun _ _ _ => rfl, fun _ h => Or.inl h⟩
theorem Mv.trans (h : Mv b b' w w') (g : Mv b' b'' w' w'') : Mv b b'' w w'' := by
  refine ⟨g.os.trans h.os, g.tape.trans h.tape, g.output.trans h.output, Nat.le_trans h.size g.size, fun k hk hn => ?_, fun k hk => ?_⟩
  · refine (g.block k (Nat.lt_of_lt_of_le hk h.size) (fun e => ?_)).trans (h.block k hk hn)
    rcases h.loc k e with a | a
    · exact hn a
    · omega
  · rcases g.loc k hk with a | a
    · exact h.loc k a
    · exact Or.inr (Nat.le_trans h.size a)
theorem Mv.of_below (hb : Below w.heap.size w w') : Mv b b w w' := ⟨hb.os, hb.tape, hb.output, hb.size, fun k hk _ => hb.block k hk, fun _ h => Or.inl h⟩
theorem Mv.drew (h : Mv b b' w w') : Mv b b' w w'.drew := ⟨h.os, h.tape, h.output, h.size, h.block, h.loc⟩
theorem Mv.set {k j : Nat} (h : b k) (u : Value) : Mv b b w (w.setCell ⟨k, j, none⟩ u) :=
  ⟨rfl, rfl, rfl, by simp, fun i _ hn => Below.heap_setCell w ⟨k, j, none⟩ u i (fun e => hn (e ▸ h)), fun _ h => Or.inl h⟩
theorem Mv.below {n : Nat} (h : Mv b b' w w') (hb : ∀ k, b k → n ≤ k) (hn : n ≤ w.heap.size) : Below n w w' :=
  ⟨h.os, h.tape, h.output, h.size, fun k hk => h.block k (by omega) (fun e => by have := hb k e; omega)⟩
/-- what is not among the blocks stays so -/
theorem Mv.off {k : Nat} (h : Mv b b' w w') (hk : k < w.heap.size) (hn : ¬ b k) : ¬ b' k := fun e => by
  rcases h.loc k e with a | a
  · exact hn a
  · omega
end
theorem bdrew (w : World) : Below w.heap.size w w.drew := ⟨rfl, rfl, rfl, Nat.le_refl _, fun _ _ => rfl⟩
theorem trs_kept {w w' : World} {a : Option Addr} {ts : List Tr} (h : TrsAt w a ts) (hb : ∀ b off, 0 < ts.length → a = some ⟨b, off, none⟩ → w'.heap[b]? = w.heap[b]?) (hz : w.heap.size ≤ w'.heap.size) : TrsAt w' a ts := by
  intro i t hi
  obtain ⟨b, off, rfl, hlt, hc⟩ := h i t hi
  have hp : 0 < ts.length := by have := (List.getElem?_eq_some_iff.1 hi).1; omega
  refine ⟨b, off, rfl, Nat.lt_of_lt_of_le hlt hz, fun j hj => ?_⟩
  rw [← hc j hj]
  exact World.cell?_of_block (w := w) (a := ⟨b, off + (i * 17 + j), none⟩) (hb b off hp rfl)
/-- the plan's cells -/
def pC (p : Pd) (sl : Value) : List Value := [.string ⟨p.nm.toArray⟩, .int .i64 p.mn, .int .i64 p.mx, .int .i64 p.po, .int .i64 p.co, .int .i64 p.tl, .int .i64 p.bk, .int .i64 p.af, .int .i64 p.sh, .int .i64 p.uw, .int .i64 p.up, .int .i64 p.uc, .int .i64 p.ue, .int .i64 p.dw, .int .i64 p.dp, .int .i64 p.dc, .int .i64 p.de, sl]
/-- where it lies: its block, its fails, its Stable's rows -/
structure Pl where
  D : Nat
  vF : Value
  V : Nat → Value
def blk (x : Pl) (k : Nat) : Prop := x.vF.ownBlock = some k ∨ Stb.blk x.D x.V k
structure LAt (w : World) (B : Nat) (x : Pl) (p : Pd) (ta : Option Addr) (tc : Nat) (ts : List Tr) (s : Lp) (st : Stb.St) : Prop where
  c : ∀ j u, (pC p (.slice ta ts.length tc))[j]? = some u → w.cell? ⟨x.D, j, none⟩ = some u
  cF : w.cell? ⟨x.D, 33, none⟩ = some x.vF
  lk : w.cell? ⟨x.D, 34, none⟩ = some (.bool s.lk)
  la : w.cell? ⟨x.D, 35, none⟩ = some (.int .i64 s.la)
  nd : w.cell? ⟨x.D, 36, none⟩ = some (.int .i64 s.nd)
  pd : w.cell? ⟨x.D, 37, none⟩ = some (.bool (decide (0 ≤ s.pa)))
  pa : ∃ z : Int, w.cell? ⟨x.D, 38, none⟩ = some (.int .i64 z) ∧ (0 ≤ s.pa → z = s.pa)
  own : w.ownsRow B 3 iK.s x.vF s.fs.length (cels iK.c s.fs)
  st : Stb.SAt w B x.D 18 x.V st
  aF : ∀ g, x.vF.ownBlock = some g → ¬ Stb.blk x.D x.V g
  t : TrsAt w ta ts
  tb : ∀ b off, 0 < ts.length → ta = some ⟨b, off, none⟩ → ¬ blk x b
section
variable {w w' : World} {B : Nat} {x : Pl} {p : Pd} {ta : Option Addr} {tc : Nat} {ts : List Tr} {s : Lp} {st : Stb.St}
theorem LAt.lt (h : LAt w B x p ta tc ts s st) : x.D < w.heap.size := h.st.lt
theorem LAt.fz (h : LAt w B x p ta tc ts s st) (j : Nat) : w.frozen? ⟨x.D, j, none⟩ = false := h.st.fz j
theorem LAt.bD (h : LAt w B x p ta tc ts s st) : B ≤ x.D := h.st.bQ
theorem LAt.ne (h : LAt w B x p ta tc ts s st) : x.vF.ownBlock ≠ some x.D := fun e => h.aF _ e (Or.inl rfl)
theorem LAt.blt (h : LAt w B x p ta tc ts s st) {k : Nat} (hk : blk x k) : B ≤ k ∧ k < w.heap.size := by
  rcases hk with a | a
  · exact h.own.lt k a
  · exact h.st.blt a
theorem LAt.tlt (h : LAt w B x p ta tc ts s st) {b off : Nat} (hp : 0 < ts.length) (e : ta = some ⟨b, off, none⟩) : b < w.heap.size := by
  obtain ⟨t, ht⟩ : ∃ t, ts[0]? = some t := ⟨ts[0], by simp⟩
  obtain ⟨b', off', e', hlt, _⟩ := h.t 0 t ht
  rw [e] at e'
  cases e'
  exact hlt
theorem LAt.kept (h : LAt w B x p ta tc ts s st) (hb : ∀ k, blk x k ∨ (∃ off, 0 < ts.length ∧ ta = some ⟨k, off, none⟩) → w'.heap[k]? = w.heap[k]?) (hz : w.heap.size ≤ w'.heap.size) : LAt w' B x p ta tc ts s st := by
  have hD : w'.heap[x.D]? = w.heap[x.D]? := hb _ (Or.inl (Or.inr (Or.inl rfl)))
  have e : ∀ j, w'.cell? ⟨x.D, j, none⟩ = w.cell? ⟨x.D, j, none⟩ := fun j => World.cell?_of_block (w := w) (a := ⟨x.D, j, none⟩) hD
  obtain ⟨z, hz1, hz2⟩ := h.pa
  exact ⟨fun j u hu => (e j).trans (h.c j u hu), (e _).trans h.cF, (e _).trans h.lk, (e _).trans h.la, (e _).trans h.nd, (e _).trans h.pd, ⟨z, (e _).trans hz1, hz2⟩, owns_block h.own (fun g hg => hb g (Or.inl (Or.inl hg))), h.st.kept (fun k hk => hb k (Or.inl (Or.inr hk))), h.aF, trs_kept h.t (fun b off hp ha => hb b (Or.inr ⟨off, hp, ha⟩)) hz, h.tb⟩
theorem LAt.below (h : LAt w B x p ta tc ts s st) (hb : Below w.heap.size w w') : LAt w' B x p ta tc ts s st :=
  h.kept (fun k hk => hb.block k (by
    rcases hk with a | ⟨off, hp, e⟩
    · exact (h.blt a).2
    · exact h.tlt hp e)) hb.size
/-- what another one turns leaves it as it was -/
theorem LAt.other {b b' : Nat → Prop} (h : LAt w B x p ta tc ts s st) (m : Mv b b' w w') (h1 : ∀ k, blk x k → ¬ b k) (h2 : ∀ k off, 0 < ts.length → ta = some ⟨k, off, none⟩ → ¬ b k) : LAt w' B x p ta tc ts s st :=
  h.kept (fun k hk => by
    rcases hk with a | ⟨off, hp, e⟩
    · exact m.block k (h.blt a).2 (h1 k a)
    · exact m.block k (h.tlt hp e) (h2 k off hp e)) m.size
theorem LAt.drew (h : LAt w B x p ta tc ts s st) : LAt w.drew B x p ta tc ts s st := h.below (bdrew w)
/-- a cell of the loop's own numbers is told anew -/
theorem LAt.setN {j : Nat} {u : Value} {s' : Lp} (h : LAt w B x p ta tc ts s st) (hj : 33 < j)
    (hfs : s'.fs = s.fs) (hlk : (w.setCell ⟨x.D, j, none⟩ u).cell? ⟨x.D, 34, none⟩ = some (.bool s'.lk)) (hla : (w.setCell ⟨x.D, j, none⟩ u).cell? ⟨x.D, 35, none⟩ = some (.int .i64 s'.la)) (hnd : (w.setCell ⟨x.D, j, none⟩ u).cell? ⟨x.D, 36, none⟩ = some (.int .i64 s'.nd))
    (hpd : (w.setCell ⟨x.D, j, none⟩ u).cell? ⟨x.D, 37, none⟩ = some (.bool (decide (0 ≤ s'.pa)))) (hpa : ∃ z : Int, (w.setCell ⟨x.D, j, none⟩ u).cell? ⟨x.D, 38, none⟩ = some (.int .i64 z) ∧ (0 ≤ s'.pa → z = s'.pa)) :
    LAt (w.setCell ⟨x.D, j, none⟩ u) B x p ta tc ts s' st := by
  have e : ∀ i, i ≠ j → (w.setCell ⟨x.D, j, none⟩ u).cell? ⟨x.D, i, none⟩ = w.cell? ⟨x.D, i, none⟩ := fun i hi => by
    rw [World.cell?_setCell_other (h := fun e => hi (congrArg Addr.off e).symm)]
  have hne := h.ne
  refine ⟨fun i v hv => (e i ?_).trans (h.c i v hv), (e 33 (by omega)).trans h.cF, hlk, hla, hnd, hpd, hpa, ?_, ?_, h.aF, trs_kept h.t (fun b off hp ha => Below.heap_setCell w _ _ b (fun e => h.tb b off hp ha (Or.inr (Or.inl e)))) (by simp), h.tb⟩
  · have := (List.getElem?_eq_some_iff.1 hv).1
    simp [pC] at this
    omega
  · rw [hfs]
    exact owns_block h.own (fun g hg => Below.heap_setCell w _ _ g (fun e => hne (by rw [hg]; exact congrArg some e)))
  · have q := h.st
    refine ⟨by simpa using q.lt, q.bQ, fun i => by rw [World.frozen?_setCell]; exact q.fz i, fun i hi => (e _ ?_).trans (q.num i hi), fun i hi => (e _ ?_).trans (q.row i hi), fun i hi => Stb.own_set (q.own i hi) (q.ne i hi), q.ne, q.ap⟩
    · have := Stb.num_lt hi; omega
    · have := Stb.pos_lt i; omega
/-- it has looked -/
theorem LAt.setLk (h : LAt w B x p ta tc ts s st) (now : Int) : LAt ((w.setCell ⟨x.D, 34, none⟩ (.bool true)).setCell ⟨x.D, 35, none⟩ (.int .i64 now)) B x p ta tc ts ⟨s.fs, true, now, s.nd, s.pa⟩ st := by
  obtain ⟨z, hz1, hz2⟩ := h.pa
  have h1 : LAt (w.setCell ⟨x.D, 34, none⟩ (.bool true)) B x p ta tc ts ⟨s.fs, true, s.la, s.nd, s.pa⟩ st :=
    h.setN (by decide) rfl (by simp [go_sem, h.lk]) (by simp [go_sem, h.la]) (by simp [go_sem, h.nd]) (by simp [go_sem, h.pd]) ⟨z, by simp [go_sem, hz1], hz2⟩
  exact h1.setN (by decide) rfl (by simp [go_sem, h.lk]) (by simp [go_sem, h.la]) (by simp [go_sem, h.nd]) (by simp [go_sem, h.pd]) ⟨z, by simp [go_sem, hz1], hz2⟩
theorem LAt.setNd (h : LAt w B x p ta tc ts s st) (now : Int) : LAt (w.setCell ⟨x.D, 36, none⟩ (.int .i64 now)) B x p ta tc ts ⟨s.fs, s.lk, s.la, now, s.pa⟩ st := by
  obtain ⟨z, hz1, hz2⟩ := h.pa
  exact h.setN (by decide) rfl (by simp [go_sem, h.lk]) (by simp [go_sem, h.la]) (by simp [go_sem, h.nd]) (by simp [go_sem, h.pd]) ⟨z, by simp [go_sem, hz1], hz2⟩
theorem LAt.setPa (h : LAt w B x p ta tc ts s st) (n : Int) (hn : -1 ≤ n) : LAt ((w.setCell ⟨x.D, 37, none⟩ (.bool (n != -1))).setCell ⟨x.D, 38, none⟩ (.int .i64 n)) B x p ta tc ts ⟨s.fs, s.lk, s.la, s.nd, n⟩ st := by
  obtain ⟨z, hz1, hz2⟩ := h.pa
  have hd : (n != -1) = decide (0 ≤ n) := by
    by_cases e : n = -1
    · subst e; decide
    · have : 0 ≤ n := by omega
      simp [e, this]
  rw [hd]
  have e : ∀ i u, i ≠ 38 → ((w.setCell ⟨x.D, 37, none⟩ u).setCell ⟨x.D, 38, none⟩ (.int .i64 n)).cell? ⟨x.D, i, none⟩ = (w.setCell ⟨x.D, 37, none⟩ u).cell? ⟨x.D, i, none⟩ := fun i u hi => by
    rw [World.cell?_setCell_other (h := fun e => hi (congrArg Addr.off e).symm)]
  have hD := h.lt
  refine ⟨fun j u hu => ?_, ?_, ?_, ?_, ?_, ?_, ?_, ?_, ?_, h.aF, ?_, h.tb⟩
  · have hj := (List.getElem?_eq_some_iff.1 hu).1
    simp [pC] at hj
    rw [World.cell?_setCell_other (h := fun e => by have := congrArg Addr.off e; simp at this; omega), World.cell?_setCell_other (h := fun e => by have := congrArg Addr.off e; simp at this; omega)]
    exact h.c j u hu
  · simp [go_sem, h.cF]
  · simp [go_sem, h.lk]
  · simp [go_sem, h.la]
  · simp [go_sem, h.nd]
  · simp [go_sem, h.pd]
  · exact ⟨n, by simp [go_sem, hz1], fun _ => rfl⟩
  · exact owns_block h.own (fun g hg => by rw [Below.heap_setCell _ _ _ g (fun e => h.ne (by rw [hg]; exact congrArg some e)), Below.heap_setCell _ _ _ g (fun e => h.ne (by rw [hg]; exact congrArg some e))])
  · have q := h.st
    refine ⟨by simpa using q.lt, q.bQ, fun i => by rw [World.frozen?_setCell, World.frozen?_setCell]; exact q.fz i, fun i hi => ?_, fun i hi => ?_, fun i hi => Stb.own_set (Stb.own_set (q.own i hi) (q.ne i hi)) (q.ne i hi), q.ne, q.ap⟩
    · have := Stb.num_lt hi
      rw [World.cell?_setCell_other (h := fun e => by have := congrArg Addr.off e; simp at this; omega), World.cell?_setCell_other (h := fun e => by have := congrArg Addr.off e; simp at this; omega)]
      exact q.num i hi
    · have := Stb.pos_lt i
      rw [World.cell?_setCell_other (h := fun e => by have := congrArg Addr.off e; simp at this; omega), World.cell?_setCell_other (h := fun e => by have := congrArg Addr.off e; simp at this; omega)]
      exact q.row i hi
  · exact trs_kept h.t (fun b off hp ha => by rw [Below.heap_setCell _ _ _ b (fun e => h.tb b off hp ha (Or.inr (Or.inl e))), Below.heap_setCell _ _ _ b (fun e => h.tb b off hp ha (Or.inr (Or.inl e)))]) (by simp)
/-- the fails as they lie -/
theorem LAt.form (h : LAt w B x p ta tc ts s st) (hp : 0 < s.fs.length) : ∃ g cap, x.vF = .slice (some ⟨g, 0, none⟩) s.fs.length cap := by
  rcases h.own.2 with ⟨_, b⟩ | ⟨g, cap, cur, a, _⟩
  · omega
  · exact ⟨g, cap, a⟩
theorem LAt.shape (h : LAt w B x p ta tc ts s st) : ∃ ao cap, x.vF = .slice ao s.fs.length cap := by
  rcases h.own.2 with ⟨a, b⟩ | ⟨g, cap, cur, a, _⟩
  · exact ⟨none, 0, by rw [a, b]⟩
  · exact ⟨_, cap, a⟩
theorem LAt.getF {g n cap i : Nat} {f : Int} (h : LAt w B x p ta tc ts s st) (hv : x.vF = .slice (some ⟨g, 0, none⟩) n cap) (hn : n = s.fs.length) (hf : s.fs[i]? = some f) : w.cell? ⟨g, i, none⟩ = some (.int .i64 f) ∧ (∀ j, w.frozen? ⟨g, j, none⟩ = false) ∧ g ≠ x.D := by
  have ho := h.own
  rw [hv] at ho
  have hi : i < s.fs.length := (List.getElem?_eq_some_iff.1 hf).1
  subst hn
  refine ⟨?_, fun j => ho.frozenAt j, fun e => h.ne (by rw [hv, e]; rfl)⟩
  rw [ho.cellAt i (by simpa [iK] using hi)]
  have := Rw.cels_get iK.len s.fs i 0 f hf (by decide)
  simpa [iK] using this
/-- a fail is told anew -/
theorem LAt.setF {g n cap i : Nat} {f f' : Int} (h : LAt w B x p ta tc ts s st) (hv : x.vF = .slice (some ⟨g, 0, none⟩) n cap) (hn : n = s.fs.length) (hf : s.fs[i]? = some f) : LAt (w.setCell ⟨g, i, none⟩ (.int .i64 f')) B x p ta tc ts ⟨s.fs.set i f', s.lk, s.la, s.nd, s.pa⟩ st := by
  have hgo : x.vF.ownBlock = some g := by rw [hv]; rfl
  have hgD : g ≠ x.D := fun e => h.ne (by rw [hgo, e])
  have e : ∀ j, (w.setCell ⟨g, i, none⟩ (.int .i64 f')).cell? ⟨x.D, j, none⟩ = w.cell? ⟨x.D, j, none⟩ := fun j => by
    rw [World.cell?_setCell_other (h := fun e => hgD (congrArg Addr.block e))]
  obtain ⟨z, hz1, hz2⟩ := h.pa
  refine ⟨fun j u hu => (e j).trans (h.c j u hu), (e _).trans h.cF, (e _).trans h.lk, (e _).trans h.la, (e _).trans h.nd, (e _).trans h.pd, ⟨z, (e _).trans hz1, hz2⟩, ?_, h.st.kept (fun k hk => Below.heap_setCell w _ _ k (fun e => h.aF g hgo ((show k = g from e) ▸ hk))), h.aF, trs_kept h.t (fun b off hp ha => Below.heap_setCell w _ _ b (fun e => h.tb b off hp ha (Or.inl (by rw [hgo]; exact congrArg some e.symm)))) (by simp), h.tb⟩
  have ho := h.own
  rw [hv] at ho ⊢
  subst hn
  have hs := (ho.stored (i * iK.s + 0) (.int .i64 f')).1
  rw [← cels_set iK s.fs i 0 f f' (.int .i64 f') hf (by decide) rfl] at hs
  rw [List.length_set]
  simpa [iK] using hs
/-- its Stable has turned -/
theorem LAt.stab {V' : Nat → Value} {st' : Stb.St} (h : LAt w B x p ta tc ts s st) (m : Stb.Step x.D 18 x.V V' w w') (hs : Stb.SAt w' B x.D 18 V' st') : LAt w' B ⟨x.D, x.vF, V'⟩ p ta tc ts s st' ∧ Mv (blk x) (blk ⟨x.D, x.vF, V'⟩) w w' := by
  have off : ∀ k, k < w.heap.size → ¬ Stb.blk x.D x.V k → ¬ Stb.blk x.D V' k := fun k hk hn e => by
    rcases m.loc k e with a | a
    · exact hn a
    · omega
  obtain ⟨z, hz1, hz2⟩ := h.pa
  refine ⟨⟨fun j u hu => (m.cell j (Or.inl ?_)).trans (h.c j u hu), (m.cell _ (Or.inr (by decide))).trans h.cF, (m.cell _ (Or.inr (by decide))).trans h.lk, (m.cell _ (Or.inr (by decide))).trans h.la, (m.cell _ (Or.inr (by decide))).trans h.nd, (m.cell _ (Or.inr (by decide))).trans h.pd, ⟨z, (m.cell _ (Or.inr (by decide))).trans hz1, hz2⟩, ?_, hs, ?_, ?_, ?_⟩, ⟨m.os, m.tape, m.output, m.size, fun k hk hn => m.block k hk (fun e => hn (Or.inr e)), fun k hk => ?_⟩⟩
  · have := (List.getElem?_eq_some_iff.1 hu).1
    simp [pC] at this
    omega
  · exact owns_block h.own (fun g hg => m.block g (h.own.lt g hg).2 (h.aF g hg))
  · exact fun g hg => off g (h.own.lt g hg).2 (h.aF g hg)
  · exact trs_kept h.t (fun b o hp ha => m.block b (h.tlt hp ha) (fun e => h.tb b o hp ha (Or.inr e))) m.size
  · intro b o hp ha e
    rcases e with a | a
    · exact h.tb b o hp ha (Or.inl a)
    · exact off b (h.tlt hp ha) (fun e => h.tb b o hp ha (Or.inr e)) a
  · rcases hk with a | a
    · exact Or.inl (Or.inl a)
    · rcases m.loc k a with b | b
      · exact Or.inl (Or.inr b)
      · exact Or.inr b
end
end Lop
end Go.Proofs.YtbnnplfmhmmbnacGreatDoor
