/- Some happenings, one behind the other. Without a pause: never out of bounds. To zero only without need: what TopZero asks, of plain records. The clock of a world behind a happening. Is a pause among happenings? What stands at the head of the laws of the whole: some, tick, said. -/
import Derived.Test.YtkmdndhjobckiajGreatDoorPzWldHand
import Derived.Test.YtkmdndhjobckiajGreatDoorPzLopPlan
import Derived.Test.YtkmdndhjobckiajGreatDoorPzFrame
namespace Go.Proofs.YtkmdndhjobckiajGreatDoor
namespace Wld
open Go.RowKit Plain Pln Frm Lpp Crn Lop
set_option maxRecDepth 8000

end Wld
namespace Wld
open Plain Pln Frm Lpp Crn Lop
set_option maxRecDepth 8000

structure BI (p : Pd) (S : WS) : Prop where
 pa : S.lp.pa < 0
 cn : (Flt.cnt S.F.L : Int) ≤ p.mx
 tg : S.tg ≤ p.mx
 mn : S.lp.lk = true → p.mn ≤ S.tg
 nw : S.lp.lk = false → S.now ≤ 0
section
variable {p : Pd} {ts : List Tr} {S : WS} {h k : Nat}
theorem told_in (hP : PlOk p ts) (hpa : S.lp.pa < 0) : p.mn ≤ toldW p ts S ∧ toldW p ts S ≤ p.mx := by
 have := Lop.look_bds (st := S.st) (now := S.now) (hv := (Flt.cnt S.F.L : Int)) (WK := wantW p ts S) (AK := needW p ts S) hP hpa
 unfold toldW
 exact ⟨this.1, this.2.1⟩
theorem BI.fr (b : BI p S) {F : Flt.FS} {R : List Buf.Rq} (hc : Flt.cnt F.L ≤ Flt.cnt S.F.L) : BI p { S with F := F, R := R } :=
 ⟨b.pa, by have := b.cn; show (Flt.cnt F.L : Int) ≤ _; omega, b.tg, b.mn, b.nw⟩
theorem on_cnt : ∀ (m : Nat) (F : Flt.FS) (R : List Buf.Rq), Flt.cnt (onF m F R).1.L = Flt.cnt F.L
 | 0, _, _ => rfl
 | m + 1, F, R => by
  unfold onF
  split
  ·rw [on_cnt m, (give_cnt F).1]
  ·rfl
theorem BI.on (b : BI p S) : BI p (onW S) := b.fr (Nat.le_of_eq (on_cnt _ _ _))
theorem BI.look (hP : PlOk p ts) (b : BI p S) : BI p (lookW p ts S) := by
 obtain ⟨h1, h2⟩ := told_in (ts := ts) hP b.pa
 have h3 := hP.mn
 have h4 := hP.mx
 refine ⟨b.pa, ?_, h2, fun _ => h1, fun e => by cases e⟩
 show (Flt.cnt (Flt.scaleF S.F (toldW p ts S)).L : Int) ≤ _
 unfold Flt.scaleF
 rw [if_pos (by omega), Flt.scale_cnt (by omega)]
 exact h2
theorem BI.tick1 (hP : PlOk p ts) (b : BI p S) : BI p (tick1 p ts S) := by
 refine BI.on ?_
 unfold dueW
 split
 ·have hb : BI p { lateW S with now := S.now } := ⟨b.pa, b.cn, b.tg, b.mn, b.nw⟩
  have h1 := told_in (p := p) (ts := ts) (S := lateW S) hP b.pa
  have h3 := hP.mn
  have h4 := hP.mx
  refine ⟨b.pa, ?_, h1.2, fun _ => h1.1, fun e => by cases e⟩
  show (Flt.cnt (Flt.scaleF S.F (toldW p ts (lateW S))).L : Int) ≤ _
  unfold Flt.scaleF
  rw [if_pos (by omega), Flt.scale_cnt (by omega)]
  exact h1.2
 ·rename_i e
  refine ⟨b.pa, b.cn, b.tg, b.mn, fun e2 => ?_⟩
  refine absurd ?_ e
  show Lop.dueP p S.lp (S.now + 1) = true
  unfold Lop.dueP
  rw [show S.lp.lk = false from e2]
  rfl
theorem BI.ticks (hP : PlOk p ts) : ∀ (m : Nat) {S : WS}, BI p S → BI p (tickW p ts m S)
 | 0, _, b => b
 | m + 1, _, b => BI.ticks hP m (b.tick1 hP)
theorem BI.same (b : BI p S) {S' : WS} (h1 : S'.lp = S.lp) (h2 : S'.tg = S.tg) (h3 : S'.F = S.F) (h4 : S'.now = S.now) : BI p S' :=
 ⟨by rw [h1]; exact b.pa, by rw [h3]; exact b.cn, by rw [h2]; exact b.tg, by rw [h1, h2]; exact b.mn, by rw [h1, h4]; exact b.nw⟩
theorem BI.do (hP : PlOk p ts) (b : BI p S) (x a n : Int) (hx : x ≠ 13) : BI p (doW p ts S x a n) := by
 unfold doW
 by_cases h1 : x = 1
 ·rw [if_pos h1]
  split
  ·exact b.ticks hP _
  ·exact b
 rw [if_neg h1]
 by_cases h2 : x = 2
 ·rw [if_pos h2]; unfold makeW; split
  ·exact b.same rfl rfl rfl rfl
  ·exact b
 rw [if_neg h2]
 by_cases h3 : x = 3
 ·rw [if_pos h3]; unfold takeW; split
  ·exact b.same rfl rfl rfl rfl
  ·exact b
 rw [if_neg h3]
 by_cases h4 : x = 4
 ·rw [if_pos h4]; unfold putW; split
  ·exact b.same rfl rfl rfl rfl
  ·exact b
 rw [if_neg h4]
 by_cases h5 : x = 5
 ·rw [if_pos h5]; exact b.same rfl rfl rfl rfl
 rw [if_neg h5]
 by_cases h6 : x = 6
 ·rw [if_pos h6]; exact b.same rfl rfl rfl rfl
 rw [if_neg h6]
 by_cases h7 : x = 7
 ·rw [if_pos h7]; unfold failW; split
  ·exact b.same rfl rfl rfl rfl
  ·exact b
 rw [if_neg h7]
 by_cases h8 : x = 8
 ·rw [if_pos h8]; exact b.fr (R := S.R) (Nat.le_of_eq (turn_cnt S.F.L n 1 (Or.inl rfl)))
 rw [if_neg h8]
 by_cases h9 : x = 9
 ·rw [if_pos h9]; unfold readyW; split
  ·exact (b.fr (F := Flt.turnS S.F n 2) (R := S.R) (Nat.le_of_eq (turn_cnt S.F.L n 2 (Or.inr rfl)))).on
  ·exact b
 rw [if_neg h9]
 by_cases h10 : x = 10
 ·rw [if_pos h10]; unfold crashW; split
  ·exact (b.fr (F := Flt.crashS S.F n) (crash_cnt S.F.L n)).on
  ·exact b
 rw [if_neg h10]
 by_cases h11 : x = 11
 ·rw [if_pos h11]; unfold askW; split
  ·exact (b.fr (F := S.F) (Nat.le_refl _)).on
  ·exact b
 rw [if_neg h11]
 by_cases h12 : x = 12
 ·rw [if_pos h12]; unfold doneW; split
  ·exact (b.fr (F := Flt.doneS S.F (Buf.doneN S.R n)) (done_cnt S.F.L _)).on
  ·exact b
 rw [if_neg h12, if_neg hx]
 exact b
theorem BI.new (p : Pd) (ts : List Tr) (hP : PlOk p ts) (n : Nat) (most sec : Int) : BI p (newW p ts n most sec) := by
 have h1 := hP.mx
 exact ⟨by simp [newW, Lop.newL], by simp [newW, Flt.cnt]; omega, by show (0 : Int) ≤ _; omega, fun e => (by cases e), fun _ => Int.le_refl _⟩
end
end Wld
namespace Wld
open Plain Pln Frm Lpp Crn Lop
set_option maxRecDepth 8000

def busyR (now : Int) (r : Buf.Rq) : Bool := r.fat == 2 || (r.fat == 1 && decide (now + 1 < r.til))
def Fz (ts : List Tr) (fl : List Bool) (i : Nat) : Prop := ∃ t, ts[i]? = some t ∧ t.k ≠ 3 ∧ fl[i]? = some true
section
variable {p : Pd} {ts : List Tr} {S : WS} {h k : Nat}
theorem aK_up {b : Bool} {inF : Tr → Bool} {ts : List Tr} {rs : List Rd} {fs : List Int} {i : Nat} (h : aK b inF ts rs fs i = true) : ∀ j, aK b inF ts rs fs (i + j) = true
 | 0 => h
 | j + 1 => by
  have ih := aK_up h j
  show (match ts[i + j]?, rs[i + j]?, fs[i + j]? with
   | some t, some r, some f => aK b inF ts rs fs (i + j) || stepA inF t r (stepF t r f)
   | _, _, _ => aK b inF ts rs fs (i + j)) = true
  split
  ·rw [ih]; rfl
  ·exact ih
theorem need_busy (hb : busyW S = true) : needW p ts S = true := by
 unfold needW
 rw [hb]
 have := aK_up (b := true) (inF := inW (secW S) p.sh) (ts := ts) (rs := rdsW ts S) (fs := S.lp.fs) (i := 0) rfl ts.length
 rwa [Nat.zero_add] at this
theorem busy_of {r : Buf.Rq} (hr : r ∈ S.R) (hb : busyR S.now r = true) : busyW (lateW S) = true := by
 have hm : r ∈ (lateW S).R := by
  show r ∈ Buf.turnL (Buf.isLate (S.now + 1)) 4 S.R
  unfold Buf.turnL
  refine List.mem_map.2 ⟨r, hr, ?_⟩
  unfold Buf.turnF
  rw [if_neg]
  unfold busyR at hb
  unfold Buf.isLate
  simp at hb ⊢
  omega
 have hf : r.fat = 1 ∨ r.fat = 2 := by
  unfold busyR at hb
  simp at hb
  omega
 unfold busyW
 have key : ∀ f, r.fat = f → 0 < Buf.many (-1) f (lateW S).R := fun f e => by
  unfold Buf.many
  refine List.countP_pos_iff.2 ⟨r, hm, ?_⟩
  unfold Buf.isOf
  simp [e]
 rcases hf with e | e
 ·simp [key 1 e]
 ·simp [key 2 e]
theorem need_fails (g : WI ts S h k) {i : Nat} (hz : Fz ts S.fl i) : needW p ts S = true := by
 obtain ⟨t, h1, h2, h3⟩ := hz
 have hi : i < ts.length := (List.getElem?_eq_some_iff.1 h1).1
 have hl : S.lp.fs.length = ts.length := g.lp.fl
 obtain ⟨f, hf⟩ : ∃ f, S.lp.fs[i]? = some f := ⟨_, List.getElem?_eq_getElem (by omega)⟩
 have hr : (rdsW ts S)[i]? = some (rdOf S t true) := by
  unfold rdsW
  rw [List.getElem?_zipWith, h1, h3]
 have hf0 : 0 ≤ f := (g.lp.fo f (List.mem_of_getElem? hf)).1
 have h4 : aK (busyW S) (inW (secW S) p.sh) ts (rdsW ts S) S.lp.fs (i + 1) = true := by
  rw [aK_step h1 hr hf]
  have e1 : failed t (rdOf S t true) = true := by
   unfold failed rdOf
   split
   ·simp [h2]
   ·split <;> simp [h2]
  have : stepA (inW (secW S) p.sh) t (rdOf S t true) (stepF t (rdOf S t true) f) = true := by
   unfold stepA stepF
   rw [e1, if_pos rfl]
   have : 0 < f + 1 := by omega
   simp [this]
  rw [this, Bool.or_true]
 have h5 := aK_up h4 (ts.length - (i + 1))
 rw [show i + 1 + (ts.length - (i + 1)) = ts.length by omega] at h5
 exact h5
theorem tick_zero (hP : PlOk p ts) (g : WI ts (lateW S) h k) (b : BI p S) (h0 : 0 < S.tg) (h1 : (tick1 p ts S).tg = 0) : (∀ r ∈ S.R, busyR S.now r = false) ∧ (∀ i, ¬ Fz ts S.fl i) ∧ p.mn ≤ 0 := by
 have h2 : (dueW p ts (lateW S)).tg = 0 := h1
 unfold dueW at h2
 split at h2
 ·have h3 : toldW p ts (lateW S) = 0 := h2
  have h4 := Lop.look_bds (st := S.st) (now := S.now + 1) (hv := (Flt.cnt S.F.L : Int)) (WK := wantW p ts (lateW S)) (AK := needW p ts (lateW S)) hP b.pa
  have h5 : Lop.lookP p S.lp S.st (S.now + 1) (Flt.cnt S.F.L) (wantW p ts (lateW S)) (needW p ts (lateW S)) = 0 := h3
  rw [h5] at h4
  have hN : needW p ts (lateW S) ≠ true := fun e => by have := h4.2.2.1 e; omega
  refine ⟨fun r hr => ?_, fun i hz => hN (need_fails g hz), h4.1⟩
  cases hb : busyR S.now r with
  | false => rfl
  | true => exact absurd (need_busy (busy_of hr hb)) hN
 ·have h3 : S.tg = 0 := h2
  omega
theorem tick1_fl : (tick1 p ts S).fl = S.fl := by
 show (dueW p ts (lateW S)).fl = _
 unfold dueW
 split <;> rfl
theorem tick_fl : ∀ (m : Nat) (S : WS), (tickW p ts m S).fl = S.fl
 | 0, _ => rfl
 | m + 1, S => by rw [tickW, tick_fl m, tick1_fl]
theorem do_fl (x a n : Int) (hx : x ≠ 7) : (doW p ts S x a n).fl = S.fl := by
 unfold doW
 by_cases h1 : x = 1
 ·rw [if_pos h1]
  split
  ·exact tick_fl _ _
  ·rfl
 rw [if_neg h1]
 by_cases h2 : x = 2
 ·rw [if_pos h2]; unfold makeW; split <;> rfl
 rw [if_neg h2]
 by_cases h3 : x = 3
 ·rw [if_pos h3]; unfold takeW; split <;> rfl
 rw [if_neg h3]
 by_cases h4 : x = 4
 ·rw [if_pos h4]; unfold putW; split <;> rfl
 rw [if_neg h4]
 by_cases h5 : x = 5
 ·rw [if_pos h5]
 rw [if_neg h5]
 by_cases h6 : x = 6
 ·rw [if_pos h6]
 rw [if_neg h6, if_neg hx]
 by_cases h8 : x = 8
 ·rw [if_pos h8]
 rw [if_neg h8]
 by_cases h9 : x = 9
 ·rw [if_pos h9]; unfold readyW; split <;> rfl
 rw [if_neg h9]
 by_cases h10 : x = 10
 ·rw [if_pos h10]; unfold crashW; split <;> rfl
 rw [if_neg h10]
 by_cases h11 : x = 11
 ·rw [if_pos h11]; unfold askW; split <;> rfl
 rw [if_neg h11]
 by_cases h12 : x = 12
 ·rw [if_pos h12]; unfold doneW; split <;> rfl
 rw [if_neg h12]
 by_cases h13 : x = 13
 ·rw [if_pos h13]; unfold pauseW; split <;> rfl
 rw [if_neg h13]
theorem fail_fl (a n : Int) : (doW p ts S 7 a n).fl = if doE S 7 a n = 0 then S.fl.set a.toNat (n == 1) else S.fl := by
 have e1 : doW p ts S 7 a n = failW S a n := rfl
 have e2 : doE S 7 a n = failE S a n := rfl
 rw [e1, e2]
 unfold failW
 split <;> rfl
theorem fail_ok {a n : Int} (h : doE S 7 a n = 0) : (0 ≤ a ∧ a < (S.fl.length : Int)) ∧ (n = 0 ∨ n = 1) := by
 have e2 : doE S 7 a n = failE S a n := rfl
 rw [e2] at h
 unfold failE at h
 split at h
 ·rename_i e
  split at h
  ·rename_i e3; exact ⟨e, e3⟩
  ·cases h
 ·cases h
theorem Fz.set {fl : List Bool} {a : Nat} {v : Bool} (ha : a < fl.length) (i : Nat) : Fz ts (fl.set a v) i ↔ (if i = a then v = true ∧ (∃ t, ts[i]? = some t ∧ t.k ≠ 3) else Fz ts fl i) := by
 unfold Fz
 by_cases e : i = a
 ·subst e
  rw [if_pos rfl]
  constructor
  ·rintro ⟨t, h1, h2, h3⟩
   rw [List.getElem?_set_self ha] at h3
   exact ⟨by simpa using h3, t, h1, h2⟩
  ·rintro ⟨h1, t, h2, h3⟩
   exact ⟨t, h2, h3, by rw [List.getElem?_set_self ha, h1]⟩
 ·rw [if_neg e]
  constructor
  ·rintro ⟨t, h1, h2, h3⟩
   rw [List.getElem?_set_ne (fun e2 => e e2.symm)] at h3
   exact ⟨t, h1, h2, h3⟩
  ·rintro ⟨t, h1, h2, h3⟩
   exact ⟨t, h1, h2, by rw [List.getElem?_set_ne (fun e2 => e e2.symm)]; exact h3⟩
end
end Wld
namespace Wld
open Go.RowKit Plain Pln Frm Lpp Crn Lop
set_option maxRecDepth 8000

theorem do_now (p : Pd) (ts : List Tr) (S : WS) (x a n : Int) : (doW p ts S x a n).now ≤ S.now + 1000 ∧ S.now ≤ (doW p ts S x a n).now := by
 unfold doW
 by_cases h1 : x = 1
 ·rw [if_pos h1]
  split
  ·rename_i e
   have hn : (1 ≤ n ∧ n ≤ 1000) ∧ S.now + n ≤ 1099511627776 := by
    unfold tickE at e
    split at e
    ·assumption
    ·cases e
   rw [tickW_now]
   omega
  ·omega
 rw [if_neg h1]
 by_cases h2 : x = 2
 ·rw [if_pos h2, make_now]; omega
 rw [if_neg h2]
 by_cases h3 : x = 3
 ·rw [if_pos h3, take_now]; omega
 rw [if_neg h3]
 by_cases h4 : x = 4
 ·rw [if_pos h4, put_now]; omega
 rw [if_neg h4]
 by_cases h5 : x = 5
 ·rw [if_pos h5]; exact ⟨by show S.now ≤ _; omega, Int.le_refl _⟩
 rw [if_neg h5]
 by_cases h6 : x = 6
 ·rw [if_pos h6]; exact ⟨by show S.now ≤ _; omega, Int.le_refl _⟩
 rw [if_neg h6]
 by_cases h7 : x = 7
 ·rw [if_pos h7]
  have : (failW S a n).now = S.now := by unfold failW; split <;> rfl
  rw [this]; omega
 rw [if_neg h7]
 by_cases h8 : x = 8
 ·rw [if_pos h8]; exact ⟨by show S.now ≤ _; omega, Int.le_refl _⟩
 rw [if_neg h8]
 by_cases h9 : x = 9
 ·rw [if_pos h9]
  have : (readyW S n).now = S.now := by unfold readyW; split <;> rfl
  rw [this]; omega
 rw [if_neg h9]
 by_cases h10 : x = 10
 ·rw [if_pos h10]
  have : (crashW S n).now = S.now := by unfold crashW; split <;> rfl
  rw [this]; omega
 rw [if_neg h10]
 by_cases h11 : x = 11
 ·rw [if_pos h11]
  have : (askW S a n).now = S.now := by unfold askW; split <;> rfl
  rw [this]; omega
 rw [if_neg h11]
 by_cases h12 : x = 12
 ·rw [if_pos h12]
  have : (doneW S n).now = S.now := by unfold doneW; split <;> rfl
  rw [this]; omega
 rw [if_neg h12]
 by_cases h13 : x = 13
 ·rw [if_pos h13, pause_now]; omega
 rw [if_neg h13]
 omega
end Wld
namespace Wld
open Go.RowKit Plain Pln Frm Lpp Crn Lop
set_option maxRecDepth 8000

def IxP (X : Nat → Nat → Int) (m : Nat) (r : Int) : Prop := (r = -1 ∧ ∀ i, i < m → X i 0 ≠ 13) ∨ (0 ≤ r ∧ ∃ i, i < m ∧ X i 0 = 13)
def IfR (X : Nat → Nat → Int) (m : Nat) (w : World) (i : Value) (wr : World) : Prop := ∃ j : Nat, j ≤ m ∧ i = .int .i64 j ∧ (∀ q, q < j → X q 0 ≠ 13) ∧ Below w.heap.size w wr
theorem pz_any (k a n : Int) (w : World) : Calls Tryz.prog 33 #[.agg #[.int .i64 k, .int .i64 a, .int .i64 n]] w fun e w' => e = .returned (.bool (k == 13)) ∧ Below w.heap.size w w' := by
 go_enter Tryz.func33, Tryz.ntmps33
 go_wp2
 go_ret
 exact ⟨rfl, (Below.refl _ _).alloc (Nat.le_refl _) _⟩
set_option maxHeartbeats 4000000 in
theorem ixf_any (ao : Option Addr) (m cap : Nat) (X : Nat → Nat → Int) (w : World) (hH : Frm.RowsIn w ao m 3 X) (hm : m ≤ 1000000) :
  Calls Tryz.prog 59 #[.slice ao m cap, .func (.func 33) #[] #[]] w fun e w' => ∃ r, e = .returned (.int .i64 r) ∧ IxP X m r ∧ Below w.heap.size w w' := by
 have HH : Hid (Frm.RowsIn w ao m 3 X) := hH
 clear hH
 go_enter Tryz.func59, Tryz.ntmps59
 go_wp2_with fail
 go_loopw [8] (fun i wr => IfR X m w i wr) (fun i _ => m - (intOf i).toNat)
 case atStart => exact ⟨0, by omega, rfl, fun q hq => absurd hq (by omega), Below.refl _ _⟩
 case round =>
  obtain ⟨j, hj, rfl, hno, hbr⟩ := hrel
  have HNo : Hid (∀ q, q < j → X q 0 ≠ 13) := hno
  have HBr : Hid (Below w.heap.size w wr) := hbr
  by_cases hlt : j < m
  ·have hlt' : (j : Int) < (m : Int) := by omega
   obtain ⟨g, off, rfl, hgl, hcx⟩ := (Frm.RowsIn.below HH.out hbr (Nat.le_refl _)) j hlt
   have x0 := (hcx 0 (by omega)).1
   have x1 := (hcx 1 (by omega)).1
   have x2 := (hcx 2 (by omega)).1
   simp only [Nat.add_zero] at x0
   rw [← Nat.add_assoc] at x1 x2
   clear hcx hno hbr
   have cP := pz_any (X j 0) (X j 1) (X j 2)
   by_cases h13 : X j 0 = 13
   ·have e13 : (X j 0 == 13) = true := by simp [h13]
    have H13 : Hid (X j 0 = 13) := h13
    rw [e13] at cP
    clear h13 e13
    go_wp2_with (go_at_call 33; (with_reducible refine (cP _).mono ?_); rintro e w2 ⟨rfl, hb2⟩)
    go_ret
    exact ⟨_, rfl, Or.inr ⟨by omega, j, hlt, H13.out⟩, HBr.out.trans (hb2.mono HBr.out.size)⟩
   ·have e13 : (X j 0 == 13) = false := by simp [h13]
    have H13 : Hid (X j 0 ≠ 13) := h13
    rw [e13] at cP
    clear h13 e13
    go_wp2_with (go_at_call 33; (with_reducible refine (cP _).mono ?_); rintro e w2 ⟨rfl, hb2⟩)
    go_roundw
    case rel =>
     refine ⟨j + 1, hlt, rfl, fun q hq => ?_, HBr.out.trans (hb2.mono HBr.out.size)⟩
     by_cases e : q = j
     ·rw [e]; exact H13.out
     ·exact HNo.out q (by omega)
    case measure => simp [intOf]; omega
  ·obtain rfl : j = m := by omega
   go_wp2
   go_ret
   exact ⟨-1, rfl, Or.inl ⟨rfl, HNo.out⟩, HBr.out⟩
def PzB (X : Nat → Nat → Int) (m : Nat) (b : Bool) : Prop := b = false → ∀ i, i < m → X i 0 ≠ 13
def PzA (X : Nat → Nat → Int) (m : Nat) (w : World) (e : Ending) (w' : World) : Prop := ∃ b : Bool, e = .returned (.bool b) ∧ PzB X m b ∧ Below w.heap.size w w'
set_option maxHeartbeats 2000000 in
theorem cfh_any (ao : Option Addr) (m cap : Nat) (X : Nat → Nat → Int) (w : World) (hH : Frm.RowsIn w ao m 3 X) (hm : m ≤ 1000000) :
  Calls Tryz.prog 32 #[.slice ao m cap, .func (.func 33) #[] #[]] w (PzA X m w) := by
 have c := ixf_any ao m cap X w hH hm
 clear hH
 go_enter Tryz.func32, Tryz.ntmps32
 go_wp2_with (go_at_call 59; (with_reducible refine c.mono ?_); rintro e w2 ⟨r, rfl, hr, hb2⟩; have HR : Hid (IxP X m r) := hr; clear hr)
 go_ret
 refine ⟨_, rfl, fun e => ?_, hb2⟩
 rcases HR.out with ⟨_, hno⟩ | ⟨h0, _⟩
 ·exact hno
 ·simp at e
  omega
set_option maxHeartbeats 2000000 in
theorem paused_any (ao : Option Addr) (m cap : Nat) (X : Nat → Nat → Int) (w : World) (hH : Frm.RowsIn w ao m 3 X) (hm : m ≤ 1000000) :
  Calls Tryz.prog 9 #[.slice ao m cap] w (PzA X m w) := by
 have c := cfh_any ao m cap X w hH hm
 clear hH
 go_enter Tryz.func9, Tryz.ntmps9
 go_wp2_with (go_at_call 32; (with_reducible refine c.mono ?_); rintro e w2 ⟨b, rfl, hb, hb2⟩; have HBB : Hid (PzB X m b) := hb; clear hb)
 go_ret
 exact ⟨b, rfl, HBB.out, hb2⟩
end Wld
namespace Wld
open Go.RowKit Plain Pln Frm Lpp Crn Lop
set_option maxRecDepth 8000

theorem r0_chk : chkP Lop.p0 [Lop.t0] = 0 := by kernel_rfl
theorem r0_I : PdI Lop.p0 := by constructor <;> simp [I, Lop.p0]
theorem r0_ok : PlOk (noN Lop.p0) [Lop.t0] := ok_noN (plOk_of r0_chk)
theorem r0_k : Us Lop.k0 := by constructor <;> simp [U, Lop.k0]
theorem r0_U : ∀ t ∈ [Lop.t0], TrU t := by
 intro t ht
 simp at ht
 subst ht
 exact ⟨by simp [I, Lop.t0], by simp [I, Lop.t0], by simp [I, Lop.t0], r0_k, r0_k⟩
theorem some_any (w : World) : Calls Tryz.prog 18 #[] w fun e w' => ∃ b, e = .returned (planV Lop.p0 (.slice (some ⟨b, 0, none⟩) 1 1)) ∧ TrsAt w' (some ⟨b, 0, none⟩) [Lop.t0] ∧ w.heap.size ≤ b ∧ Below w.heap.size w w' := by
 have hX := px_new w 26
 have hb2 : ∀ o : Obj, Below (w.alloc (.cells #[.string ⟨#[]⟩, .int .i64 0, .int .i64 0, .int .i64 0, .int .i64 0, .int .i64 0, .int .i64 0, .int .i64 0, .int .i64 0, .int .i64 0, .int .i64 0, .int .i64 0, .int .i64 0, .int .i64 0, .int .i64 0, .int .i64 0, .int .i64 0, .slice none 0 0] 26)).heap.size (w.alloc (.cells #[.string ⟨#[]⟩, .int .i64 0, .int .i64 0, .int .i64 0, .int .i64 0, .int .i64 0, .int .i64 0, .int .i64 0, .int .i64 0, .int .i64 0, .int .i64 0, .int .i64 0, .int .i64 0, .int .i64 0, .int .i64 0, .int .i64 0, .int .i64 0, .slice none 0 0] 26)) ((w.alloc (.cells #[.string ⟨#[]⟩, .int .i64 0, .int .i64 0, .int .i64 0, .int .i64 0, .int .i64 0, .int .i64 0, .int .i64 0, .int .i64 0, .int .i64 0, .int .i64 0, .int .i64 0, .int .i64 0, .int .i64 0, .int .i64 0, .int .i64 0, .int .i64 0, .slice none 0 0] 26)).alloc o) := fun o => (Below.refl _ _).alloc (Nat.le_refl _) o
 have hX2 := fun o => hX.below (hb2 o) (by simp)
 go_enter Tryz.func18, Tryz.ntmps18
 go_wp2_with (with_reducible refine wp_setPx (hX2 _) (p' := Lop.p0) (v' := .slice (some ⟨w.heap.size + 1, 0, none⟩) 1 1) rfl (by with_unfolding_all rfl) (by with_unfolding_all rfl) ?_; intro w9 hX9 ho9)
 refine finPx Tryz.results18 (Or.inl rfl) rfl rfl hX9 ⟨w.heap.size + 1, rfl, ?_, Nat.le_succ _, ?_⟩
 ·refine trs_one (Nat.lt_of_lt_of_le (by simp) ho9.size) (fun j => ?_)
  rw [ho9.cell (a := ⟨w.heap.size + 1, j, none⟩) (by simp) (by simp)]
  simp
  rfl
 ·exact (((Below.refl _ _).alloc (Nat.le_refl _) _).alloc (by simp) _).trans (ho9.below (Nat.le_refl _) (by simp; omega))
theorem tickf_any (n : Int) (w : World) : Calls Tryz.prog 16 #[.int .i64 n] w fun e w' => e = .returned (.agg #[.int .i64 1, .int .i64 0, .int .i64 n]) ∧ Below w.heap.size w w' := by
 go_enter Tryz.func16, Tryz.ntmps16
 go_wp2
 (try simp only [Exit.inBlock, Exit.then])
 refine bodyPost_ret (v := .agg #[.int .i64 1, .int .i64 0, .int .i64 n]) ?_ rfl ⟨rfl, (Below.refl _ _).alloc (Nat.le_refl _) _⟩
 simp [results, Tryz.results16, go_sem]
noncomputable def s0 : WS := newW (noN Lop.p0) [Lop.t0] 1 2 0
noncomputable def s1 : WS := doW (noN Lop.p0) [Lop.t0] s0 4 0 25
noncomputable def s2 : WS := doW (noN Lop.p0) [Lop.t0] s1 1 0 1
noncomputable def sK (k : Nat) : WS := { s2 with qL := (Que.news 0 25).drop k }
noncomputable def sE : WS := doW (noN Lop.p0) [Lop.t0] (sK 25) 1 0 9
theorem s1_def : doW (noN Lop.p0) [Lop.t0] s0 4 0 25 = s1 := by unfold s1; rfl
theorem s2_def : doW (noN Lop.p0) [Lop.t0] s1 1 0 1 = s2 := by unfold s2; rfl
theorem sE_def : doW (noN Lop.p0) [Lop.t0] (sK 25) 1 0 9 = sE := by unfold sE; rfl
theorem s_E1 : doE s0 4 0 25 = 0 := by kernel_rfl
theorem s_E2 : doE s1 1 0 1 = 0 := by kernel_rfl
theorem s_tg : s2.tg = 3 := by kernel_rfl
theorem s_len : s2.F.L.length = 3 := by kernel_rfl
theorem s_q : s2.qL = Que.news 0 25 := by kernel_rfl
theorem s_zero : sK 0 = s2 := by
 have e : (Que.news 0 25).drop 0 = s2.qL := by rw [s_q]; rfl
 unfold sK
 rw [e]
theorem sE_tg : sE.tg = 0 := by kernel_rfl
theorem sE_len : sE.F.L.length = 0 := by kernel_rfl
theorem s_I0 : WI [Lop.t0] s0 0 0 := WI.new _ _ _ _ _ (by omega) (by omega)
theorem s_I1 : WI [Lop.t0] s1 1 1000 := by rw [← s1_def]; exact s_I0.do r0_ok 4 0 25
theorem s_I2 : WI [Lop.t0] s2 2 2000 := by rw [← s2_def]; exact s_I1.do r0_ok 1 0 1
theorem back_free {L : List Que.M} (now : Int) (h : ∀ x ∈ L, x.tk = false) : Que.backL now L = L := by
 unfold Que.backL
 conv => rhs; rw [← List.map_id L]
 refine List.map_congr_left (fun x hx => ?_)
 unfold Que.back
 rw [if_neg (by rw [h x hx]; simp)]
 rfl
theorem lease_first {m : Que.M} {L : List Que.M} {now n : Int} (h : ∀ x ∈ m :: L, x.tk = false) (hn : 1 ≤ n ∧ n ≤ 100000) : leaseE (m :: L) now n = 0 ∧ leaseL (m :: L) now n = ⟨m.id, now + n, true⟩ :: L := by
 have hf : (m :: L).findIdx? Que.free = some 0 := by rw [List.findIdx?_cons]; simp [Que.free, h m (by simp)]
 unfold leaseE leaseL
 rw [if_neg (by simpa using hn), if_neg (by simpa using hn), back_free now h, hf]
 simp
theorem ack_first {id : Int} {L : List Que.M} {now n : Int} (h : ∀ x ∈ L, x.tk = false) (hn : 1 ≤ n) : ackE (⟨id, now + n, true⟩ :: L) now id = 0 ∧ ackL (⟨id, now + n, true⟩ :: L) now id = L := by
 have hb : Que.backL now (⟨id, now + n, true⟩ :: L) = ⟨id, now + n, true⟩ :: L := by
  have := back_free now h
  unfold Que.backL at *
  rw [List.map_cons, this]
  unfold Que.back
  rw [if_neg (by simp; omega)]
 have hf : (⟨id, now + n, true⟩ :: L : List Que.M).findIdx? (Que.isId id) = some 0 := by rw [List.findIdx?_cons]; simp [Que.isId]
 unfold ackE ackL
 rw [hb, hf]
 simp
theorem news_free {x : Que.M} (h : x ∈ Que.news 0 25) : x.tk = false := by
 unfold Que.news at h
 simp at h
 obtain ⟨_, _, rfl⟩ := h
 rfl
theorem news_at {k : Nat} (hk : k < 25) : (Que.news 0 25).drop k = ⟨(k : Int) + 1, 0, false⟩ :: (Que.news 0 25).drop (k + 1) := by
 have hl : (Que.news 0 25).length = 25 := Que.news_len 0 25
 rw [List.drop_eq_getElem_cons (by omega)]
 congr 1
 unfold Que.news
 simp
 omega
theorem round_any {k : Nat} (hk : k < 25) : doE (sK k) 5 0 5 = 0 ∧ doE (doW (noN Lop.p0) [Lop.t0] (sK k) 5 0 5) 6 0 ((k : Int) + 1) = 0 ∧ doW (noN Lop.p0) [Lop.t0] (doW (noN Lop.p0) [Lop.t0] (sK k) 5 0 5) 6 0 ((k : Int) + 1) = sK (k + 1) := by
 have e0 := news_at hk
 have hf : ∀ x ∈ (⟨(k : Int) + 1, 0, false⟩ : Que.M) :: (Que.news 0 25).drop (k + 1), x.tk = false := fun x hx => by
  rw [← e0] at hx
  exact news_free (List.mem_of_mem_drop hx)
 obtain ⟨a1, a2⟩ := lease_first (now := s2.now) (n := 5) hf (by omega)
 obtain ⟨b1, b2⟩ := ack_first (id := (k : Int) + 1) (now := s2.now) (n := 5) (fun x hx => hf x (List.mem_cons_of_mem _ hx)) (by omega)
 have c1 : doE (sK k) 5 0 5 = leaseE ((Que.news 0 25).drop k) s2.now 5 := rfl
 have c2 : doW (noN Lop.p0) [Lop.t0] (sK k) 5 0 5 = { s2 with qL := leaseL ((Que.news 0 25).drop k) s2.now 5 } := rfl
 rw [c1, c2, e0, a1, a2]
 refine ⟨rfl, ?_, ?_⟩
 ·show ackE (⟨(k : Int) + 1, s2.now + 5, true⟩ :: (Que.news 0 25).drop (k + 1)) s2.now ((k : Int) + 1) = 0
  exact b1
 ·show ({ s2 with qL := ackL (⟨(k : Int) + 1, s2.now + 5, true⟩ :: (Que.news 0 25).drop (k + 1)) s2.now ((k : Int) + 1) } : WS) = sK (k + 1)
  rw [b2]
  rfl
theorem newr (b : Nat) (w : World) (hB : Lai.BdsAt w) (hT : TrsAt w (some ⟨b, 0, none⟩) [Lop.t0]) : Calls Tryz.prog 8 #[planV Lop.p0 (.slice (some ⟨b, 0, none⟩) 1 1), .int .i64 1, .int .i64 2, .int .i64 0] w (NewWA Lop.p0 [Lop.t0] 1 2 0 w) :=
 new_yes Lop.p0 (some ⟨b, 0, none⟩) 1 [Lop.t0] 1 2 0 w hB r0_I (by simp [Lop.p0]) hT r0_chk (by omega) (by omega)
theorem doS {w0 : World} (B : Nat) (c : Pc) (S : WS) (h k : Nat) (x a n E : Int) (w : World) (hA : WAt w B c (noN Lop.p0) [Lop.t0] S) (hI : WI [Lop.t0] S h k) (hh : h ≤ 1000) (hk : k ≤ 100000) (hE : doE S x a n = E) (hB : w0.heap.size ≤ B) (hb : Below w0.heap.size w0 w) :
  Calls Tryz.prog 15 #[.pointer (some ⟨c.x.D, 0, none⟩), .agg #[.int .i64 x, .int .i64 a, .int .i64 n]] w fun e w' => e = .returned (.int .i64 E) ∧ ∃ c', WAt w' B c' (noN Lop.p0) [Lop.t0] (doW (noN Lop.p0) [Lop.t0] S x a n) ∧ c'.x.D = c.x.D ∧ Below w0.heap.size w0 w' := by
 refine (do_any B c (noN Lop.p0) [Lop.t0] S h k x a n w hA hI hh hk r0_ok r0_U).mono ?_
 rintro e w' ⟨rfl, c', a', d', m'⟩
 exact ⟨by rw [hE], c', a', d', hb.trans (m'.below (fun k hk => Nat.le_trans hB (hA.low hk).1) hb.size)⟩
def SdR (w : World) (B D : Nat) (i : Value) (wr : World) : Prop := ∃ (k : Nat) (c1 : Pc), k ≤ 25 ∧ i = .int .i64 ((k : Int) + 1) ∧ WAt wr B c1 (noN Lop.p0) [Lop.t0] (sK k) ∧ WI [Lop.t0] (sK k) (2 + 2 * k) (1000 * (2 + 2 * k)) ∧ c1.x.D = D ∧ Below w.heap.size w wr
set_option maxHeartbeats 8000000 in
theorem said_any (w : World) (hB : Lai.BdsAt w) : Calls Tryz.prog 7 #[] w fun e w' => e = .returned (.bool true) ∧ Below w.heap.size w w' := by
 have cS := some_any w
 have HB : Hid (Lai.BdsAt w) := hB
 clear hB
 go_enter Tryz.func7, Tryz.ntmps7
 go_wp2_with (first
  | (go_at_call 18; (with_reducible refine cS.mono ?_); rintro e w1 ⟨b, rfl, hT1, hb, hb1⟩; clear cS)
  | (go_at_call 8; have cN := newr b w1 (HB.out.below hb1 (Nat.le_refl _)) hT1; (with_reducible refine cN.mono ?_); rintro e w2 ⟨c, rfl, hA2, hb2⟩; clear cN; have HX2 : Hid (WAt w2 w1.heap.size c (noN Lop.p0) [Lop.t0] s0 ∧ w.heap.size ≤ w1.heap.size ∧ Below w.heap.size w w2) := ⟨hA2, hb1.size, hb1.trans (hb2.mono hb1.size)⟩; clear hA2 hb2 hT1; generalize hD : c.x.D = D at *)
  | (go_at_call 15; have cD := doS (w0 := w) w1.heap.size c3 s1 1 1000 1 0 1 0 w4 HX4.out.1 s_I1 (by omega) (by omega) s_E2 HX2.out.2.1 HX4.out.2; rw [hD3, s2_def] at cD; (with_reducible refine cD.mono ?_); rintro e w5 ⟨rfl, c5, a5, d5, b5⟩; clear cD; have HX5 : Hid (WAt w5 w1.heap.size c5 (noN Lop.p0) [Lop.t0] s2 ∧ Below w.heap.size w w5) := ⟨a5, b5⟩; have hD5 : c5.x.D = D := d5; clear a5 d5 b5)
  | (go_at_call 15; have cD := doS (w0 := w) w1.heap.size c s0 0 0 4 0 25 0 w2 HX2.out.1 s_I0 (by omega) (by omega) s_E1 HX2.out.2.1 HX2.out.2.2; rw [hD, s1_def] at cD; (with_reducible refine cD.mono ?_); rintro e w3 ⟨rfl, c3, a3, d3, b3⟩; clear cD; have HX3 : Hid (WAt w3 w1.heap.size c3 (noN Lop.p0) [Lop.t0] s1 ∧ Below w.heap.size w w3) := ⟨a3, b3⟩; have hD3 : c3.x.D = D := d3; clear a3 d3 b3)
  | (go_at_call 16; have cT := tickf_any 1 w3; (with_reducible refine cT.mono ?_); rintro e w4 ⟨rfl, hb4⟩; clear cT; have HX4 : Hid (WAt w4 w1.heap.size c3 (noN Lop.p0) [Lop.t0] s1 ∧ Below w.heap.size w w4) := ⟨HX3.out.1.below hb4, HX3.out.2.trans (hb4.mono HX3.out.2.size)⟩; clear hb4)
  | (go_at_call 10; have cX := target_any w1.heap.size c5 (noN Lop.p0) [Lop.t0] s2 w5 HX5.out.1; rw [hD5, s_tg] at cX; (with_reducible refine cX.mono ?_); rintro e w' ⟨rfl, h9⟩; have h8 := h9.symm; clear h9; subst h8; clear cX)
  | (go_at_call 19; have cX := pods_any w1.heap.size c5 (noN Lop.p0) [Lop.t0] s2 w5 HX5.out.1 (by rw [s_len]; omega); rw [hD5, s_len] at cX; (with_reducible refine cX.mono ?_); rintro e w6 ⟨rfl, hR6, hb6⟩; clear cX; have HX6 : Hid (WAt w6 w1.heap.size c5 (noN Lop.p0) [Lop.t0] s2 ∧ Below w.heap.size w w6) := ⟨HX5.out.1.below hb6, HX5.out.2.trans (hb6.mono HX5.out.2.size)⟩; clear hR6 hb6))
 have HL : Hid (w.heap.size ≤ w1.heap.size) := HX2.out.2.1
 clear hb1 hD hD3
 go_loopw [3] (fun i wr => SdR w w1.heap.size D i wr) (fun i _ => 26 - (intOf i).toNat)
 case atStart => exact ⟨0, c5, by omega, rfl, by rw [s_zero]; exact HX6.out.1, by rw [s_zero]; exact s_I2, hD5, HX6.out.2⟩
 case round =>
  clear hD5 HX6 HX5 HX4 HX3 HX2
  obtain ⟨k, c1, hk, rfl, hA, hI, hD1, hbr⟩ := hrel
  by_cases hlt : k < 25
  ·have hlt' : (k : Int) + 1 ≤ 25 := by omega
   obtain ⟨r1, r2, r3⟩ := round_any hlt
   have hI2 := hI.do r0_ok 5 0 5
   have hI3 := hI2.do r0_ok 6 0 ((k : Int) + 1)
   rw [r3] at hI3
   have HX1 : Hid (WAt wr w1.heap.size c1 (noN Lop.p0) [Lop.t0] (sK k) ∧ Below w.heap.size w wr) := ⟨hA, hbr⟩
   have HI1 : Hid (WI [Lop.t0] (sK k) (2 + 2 * k) (1000 * (2 + 2 * k))) := hI
   have HI2 : Hid (WI [Lop.t0] (doW (noN Lop.p0) [Lop.t0] (sK k) 5 0 5) (2 + 2 * k + 1) (1000 * (2 + 2 * k) + 1000)) := hI2
   have HI3 : Hid (WI [Lop.t0] (sK (k + 1)) (2 + 2 * (k + 1)) (1000 * (2 + 2 * (k + 1)))) := hI3.mono (by omega) (by omega)
   have HR : Hid (doE (sK k) 5 0 5 = 0 ∧ doE (doW (noN Lop.p0) [Lop.t0] (sK k) 5 0 5) 6 0 ((k : Int) + 1) = 0 ∧ doW (noN Lop.p0) [Lop.t0] (doW (noN Lop.p0) [Lop.t0] (sK k) 5 0 5) 6 0 ((k : Int) + 1) = sK (k + 1)) := ⟨r1, r2, r3⟩
   clear hA hI hbr hI2 hI3 r1 r2 r3
   go_wp2_with (first
    | (go_at_call 15; have cD := doS (w0 := w) w1.heap.size c3 (doW (noN Lop.p0) [Lop.t0] (sK k) 5 0 5) (2 + 2 * k + 1) (1000 * (2 + 2 * k) + 1000) 6 0 ((k : Int) + 1) 0 w3 HX3.out.1 HI2.out (by omega) (by omega) HR.out.2.1 HL.out HX3.out.2; rw [hD3, HR.out.2.2] at cD; (with_reducible refine cD.mono ?_); rintro e w5 ⟨rfl, c5, a5, d5, b5⟩; clear cD; have HX5 : Hid (WAt w5 w1.heap.size c5 (noN Lop.p0) [Lop.t0] (sK (k + 1)) ∧ c5.x.D = D ∧ Below w.heap.size w w5) := ⟨a5, d5, b5⟩; clear a5 d5 b5)
    | (go_at_call 15; have cD := doS (w0 := w) w1.heap.size c1 (sK k) (2 + 2 * k) (1000 * (2 + 2 * k)) 5 0 5 0 wr HX1.out.1 HI1.out (by omega) (by omega) HR.out.1 HL.out HX1.out.2; rw [hD1] at cD; (with_reducible refine cD.mono ?_); rintro e w3 ⟨rfl, c3, a3, d3, b3⟩; clear cD; have HX3 : Hid (WAt w3 w1.heap.size c3 (noN Lop.p0) [Lop.t0] (doW (noN Lop.p0) [Lop.t0] (sK k) 5 0 5) ∧ Below w.heap.size w w3) := ⟨a3, b3⟩; have hD3 : c3.x.D = D := d3; clear a3 d3 b3))
   go_roundw
   case rel => exact ⟨k + 1, c5, hlt, by simp, HX5.out.1, HI3.out, HX5.out.2.1, HX5.out.2.2⟩
   case measure => simp [intOf]; omega
  ·obtain rfl : k = 25 := by omega
   have HX1 : Hid (WAt wr w1.heap.size c1 (noN Lop.p0) [Lop.t0] (sK 25) ∧ Below w.heap.size w wr) := ⟨hA, hbr⟩
   have HI1 : Hid (WI [Lop.t0] (sK 25) 52 52000) := hI
   clear hA hI hbr
   go_wp2_with (first
    | (go_at_call 16; have cT := tickf_any 9 wr; (with_reducible refine cT.mono ?_); rintro e w4 ⟨rfl, hb4⟩; clear cT; have HX4 : Hid (WAt w4 w1.heap.size c1 (noN Lop.p0) [Lop.t0] (sK 25) ∧ Below w.heap.size w w4) := ⟨HX1.out.1.below hb4, HX1.out.2.trans (hb4.mono HX1.out.2.size)⟩; clear hb4)
    | (go_at_call 15; have cD := doS (w0 := w) w1.heap.size c1 (sK 25) 52 52000 1 0 9 _ w4 HX4.out.1 HI1.out (by omega) (by omega) rfl HL.out HX4.out.2; rw [hD1, sE_def] at cD; (with_reducible refine cD.mono ?_); rintro e w5 ⟨rfl, c5, a5, d5, b5⟩; clear cD; have HX5 : Hid (WAt w5 w1.heap.size c5 (noN Lop.p0) [Lop.t0] sE ∧ Below w.heap.size w w5) := ⟨a5, b5⟩; have hD5 : c5.x.D = D := d5; clear a5 d5 b5)
    | (go_at_call 10; have cX := target_any w1.heap.size c5 (noN Lop.p0) [Lop.t0] sE w5 HX5.out.1; rw [hD5, sE_tg] at cX; (with_reducible refine cX.mono ?_); rintro e w' ⟨rfl, h9⟩; have h8 := h9.symm; clear h9; subst h8; clear cX)
    | (go_at_call 19; have cX := pods_any w1.heap.size c5 (noN Lop.p0) [Lop.t0] sE w5 HX5.out.1 (by rw [sE_len]; omega); rw [hD5, sE_len] at cX; (with_reducible refine cX.mono ?_); rintro e w6 ⟨rfl, hR6, hb6⟩; clear cX))
   go_ret
   exact ⟨rfl, HX5.out.2.trans (hb6.mono HX5.out.2.size)⟩
end Wld
end Go.Proofs.YtkmdndhjobckiajGreatDoor
