/- Some happenings, one behind the other. With a queue alone, without tolerance, windows and paces: as many pods as its messages need. Without a pause: never out of bounds. To zero only without need: what TopZero asks, of plain records. What stands at the head of the laws of the whole: some, tick, said. One source, a pod that is ready at once, requests that are done at once: who waits is served. The rounds of TopServed, of plain records. Who waits is served: TopServed. -/
import Derived.Test.YtkmdndhjobckiajGreatDoorPsWldHand
import Derived.Test.YtkmdndhjobckiajGreatDoorPsLopPlan
import Derived.Test.YtkmdndhjobckiajGreatDoorPsFrame
import Derived.Test.YtkmdndhjobckiajGreatDoorPsNumWalks
import Derived.BigQuiet
import Derived.Deep.RegionHeld
namespace Go.Proofs.YtkmdndhjobckiajGreatDoor
namespace Wld
open Go.RowKit Plain Pln Frm Lpp Crn Lop
set_option maxRecDepth 8000

end Wld
namespace Wld
open Plain Pln Ned Frm Lpp Crn
set_option maxRecDepth 8000

def pN : Pd := ⟨[], 0, 50, 1, 6, 0, 0, 0, 0, 0, 0, 0, 0, 0, 0, 0, 0⟩
def tN (k : Int) : Tr := ⟨2, k, 0, Lop.k0, Lop.k0⟩
theorem up_unique {a b q : Int} (hb : 1 ≤ b) (h1 : a ≤ q * b) (h2 : (q - 1) * b < a) : up a b = q := by
 obtain ⟨g1, g2⟩ := up_ok a b hb
 have e1 : (q - 1) * b < up a b * b := by omega
 have e2 : (up a b - 1) * b < q * b := by omega
 have f1 := Int.lt_of_mul_lt_mul_right e1 (by omega)
 have f2 := Int.lt_of_mul_lt_mul_right e2 (by omega)
 omega
theorem want_depth {hv k d : Int} (hk : 1 ≤ k ∧ k ≤ 30) (hd : 0 ≤ d ∧ d ≤ 200) (hh : 0 ≤ hv ∧ hv ≤ 50) : wantF hv 0 2 k 1 (fun _ => d) = up d k := by
 have em : metF 2 1 (fun _ => d) = d := by
  unfold metF
  rw [if_neg (by decide), if_neg (by decide)]
  exact atz_pos hd.1
 have ep : podF 2 k 1 (fun _ => d) = up d k := by
  unfold podF
  rw [if_neg (by decide), em, clip_in (by omega) (by omega), clip_in (by omega) (by omega)]
 have hm0 : 0 ≤ hv * k := Int.mul_nonneg hh.1 (by omega)
 have hm1 : hv * k ≤ 50 * 30 := Int.mul_le_mul hh.2 hk.2 (by omega) (by omega)
 have et : mulc (clip hv) (clip k) = hv * k := by
  unfold mulc
  rw [clip_in (n := hv) (by omega) (by omega), clip_in (n := k) (by omega) (by omega), clip_in (by omega) (by omega)]
 unfold wantF
 rw [em, et, ep]
 split
 ·rename_i e
  have hn := e.2
  unfold nearF at hn
  have es : share (atz (clip (hv * k))) (atz (clip 0)) = 0 := by
   have : atz (clip 0) = 0 := rfl
   rw [this]
   unfold share
   simp [clip]
  rw [es] at hn
  have hn := of_decide_eq_true hn
  have ed : d = hv * k := by omega
  refine (up_unique hk.1 (by omega) ?_).symm
  rw [Int.sub_mul, Int.one_mul]
  omega
 ·rfl
structure NdI (k : Int) (S : WS) (d : Nat) (h kk : Nat) : Prop where
 wi : WI [tN k] S h kk
 si : ∃ H, Stb.SI H S.st
 u0 : S.st.u = ⟨0, 0, 0, 0⟩
 d0 : S.st.d = ⟨0, 0, 0, 0⟩
 pa : S.lp.pa < 0
 fs : S.lp.fs = [0]
 fl : S.fl = [false]
 q : ∀ x ∈ S.qL, x.tk = false
 ql : S.qL.length = d
 r : S.R = []
 pd : ∀ x ∈ S.F.L, x.st = 1 ∧ x.ld = 0
theorem free_back {L : List Que.M} (now : Int) (h : ∀ x ∈ L, x.tk = false) : Que.backL now L = L := by
 unfold Que.backL
 conv => rhs; rw [← List.map_id L]
 refine List.map_congr_left (fun x hx => ?_)
 unfold Que.back
 rw [if_neg (by rw [h x hx]; simp)]
 rfl
theorem free_depth {L : List Que.M} (h : ∀ x ∈ L, x.tk = false) : Que.depth L = L.length := by
 unfold Que.depth
 rw [List.countP_eq_length]
 intro x hx
 unfold Que.free
 rw [h x hx]
 rfl
section
variable {k : Int} {S : WS} {d h kk : Nat}
theorem NdI.rds (b : NdI k S d h kk) : rdsW [tN k] S = [⟨false, 1, fun _ => (d : Int)⟩] := by
 unfold rdsW
 rw [b.fl]
 show [rdOf S (tN k) false] = _
 unfold rdOf
 rw [if_neg (by show ¬ (2 : Int) = 1; decide), if_pos (show (tN k).k = 2 from rfl), free_back S.now b.q, free_depth b.q, b.ql]
theorem NdI.want (b : NdI k S d h kk) (hk : 1 ≤ k ∧ k ≤ 30) : wantW pN [tN k] S = max 0 (up d k) := by
 have hl := b.wi.q.len
 have hd := b.ql
 unfold wantW
 rw [b.rds, b.fs]
 show max 0 (stepN pN (Flt.cnt S.F.L) (inW (secW S) pN.sh) (tN k) ⟨false, 1, fun _ => (d : Int)⟩ (stepF (tN k) ⟨false, 1, fun _ => (d : Int)⟩ 0)) = _
 have e1 : stepF (tN k) ⟨false, 1, fun _ => (d : Int)⟩ 0 = 0 := rfl
 rw [e1]
 unfold stepN
 rw [if_neg (by decide), if_neg (by show ¬ (2 : Int) = 3; decide)]
 show max 0 (wantF (Flt.cnt S.F.L) 0 2 k 1 (fun _ => (d : Int))) = _
 rw [want_depth hk (by omega) ⟨by omega, b.wi.cn⟩]
theorem NdI.need (b : NdI k S d h kk) (hd : 0 < d) : needW pN [tN k] S = true := by
 unfold needW
 rw [b.rds, b.fs]
 show (aK (busyW S) (inW (secW S) pN.sh) [tN k] [⟨false, 1, fun _ => (d : Int)⟩] [0] 0 || stepA (inW (secW S) pN.sh) (tN k) ⟨false, 1, fun _ => (d : Int)⟩ (stepF (tN k) ⟨false, 1, fun _ => (d : Int)⟩ 0)) = true
 have : stepA (inW (secW S) pN.sh) (tN k) ⟨false, 1, fun _ => (d : Int)⟩ (stepF (tN k) ⟨false, 1, fun _ => (d : Int)⟩ 0) = true := by
  unfold stepA
  rw [if_neg (by show ¬ (2 : Int) = 3; decide)]
  have : metF (tN k).k 1 (fun _ => (d : Int)) = (d : Int) := by
   unfold metF
   rw [if_neg (by show ¬ (2 : Int) = 1; decide), if_neg (by decide)]
   exact atz_pos (by show (0 : Int) ≤ (d : Int); omega)
  rw [this]
  have : (tN k).ac < (d : Int) := by show (0 : Int) < d; omega
  simp [this]
 rw [this, Bool.or_true]
theorem tN_ok (hk : 1 ≤ k ∧ k ≤ 30) : trB (tN k) = true := by
 have e : rg k 1 1000000 = true := by unfold rg; simp; omega
 unfold trB
 rw [if_neg (by show ¬ (2 : Int) = 3; decide)]
 show (_ && (rg k 1 1000000 && _)) = true
 rw [e]
 rfl
theorem pN_ok (hk : 1 ≤ k ∧ k ≤ 30) : PlOk pN [tN k] := by
 refine ⟨by decide, by decide, by decide, by decide, by decide, by decide, by decide, by decide, by simp, fun t ht => ?_⟩
 simp at ht
 subst ht
 exact tN_ok hk
theorem NdI.told (b : NdI k S d h kk) (hk : 1 ≤ k ∧ k ≤ 30) (hd : 0 < d) : toldW pN [tN k] S = min (up d k) 50 := by
 obtain ⟨H, hH⟩ := b.si
 have hP := pN_ok hk
 have h1 := Lop.look_free (p := pN) (WK := wantW pN [tN k] S) (AK := needW pN [tN k] S) (now := S.now) (hv := (Flt.cnt S.F.L : Int)) hH b.wi.lp hP ⟨b.wi.la, b.wi.nw.2⟩ ⟨by omega, b.wi.cn⟩ b.u0 b.d0 b.pa
 unfold toldW
 rw [h1, b.want hk, b.need hd]
 have hu : 1 ≤ up d k := by
  obtain ⟨g1, g2⟩ := up_ok (d : Int) k hk.1
  have h9 : ¬ up d k ≤ 0 := fun e => by
   have := Int.mul_le_mul_of_nonneg_right e (show 0 ≤ k by omega)
   rw [Int.zero_mul] at this
   omega
  omega
 have e : lowF pN (Flt.cnt S.F.L) S.now S.lp.nd true = 1 := rfl
 rw [e]
 show min (max (max 0 (up d k)) 1) 50 = _
 omega
theorem cnt_all {L : List Flt.Pd} (h : ∀ x ∈ L, x.st = 1 ∧ x.ld = 0) : Flt.cnt L = L.length := by
 unfold Flt.cnt
 rw [List.countP_eq_length]
 intro x hx
 unfold Flt.stays
 rw [(h x hx).1]
 rfl
theorem shrink_all : ∀ (n : Nat) {L : List Flt.Pd}, (∀ x ∈ L, x.st = 1 ∧ x.ld = 0) → ∀ x ∈ Flt.shrink n L, x.st = 1 ∧ x.ld = 0
 | 0, _, h => h
 | n + 1, L, h => by
  unfold Flt.shrink
  split
  ·exact h
  ·rename_i y hy
   refine shrink_all n (fun x hx => ?_)
   obtain ⟨_, h2, _⟩ := Flt.pick_mem hy
   have hl := (h y.2 (List.mem_of_getElem? h2)).2
   unfold Flt.letgo at hx
   rw [if_neg (by omega)] at hx
   exact h x (List.mem_of_mem_eraseIdx hx)
theorem scale_all {F : Flt.FS} {n : Int} (h : ∀ x ∈ F.L, x.st = 1 ∧ x.ld = 0) : ∀ x ∈ (Flt.scaleF F n).L, x.st = 1 ∧ x.ld = 0 := by
 unfold Flt.scaleF
 split
 ·refine shrink_all _ (fun x hx => ?_)
  rcases List.mem_append.1 hx with a | a
  ·exact h x a
  ·exact (Flt.news_mem a).2.2
 ·exact h
theorem NdI.late (b : NdI k S d h kk) (hn : S.now + 1 ≤ 1099511627776) : NdI k (lateW S) d h kk :=
 ⟨b.wi.late hn, b.si, b.u0, b.d0, b.pa, b.fs, b.fl, b.q, b.ql, by show Buf.turnL _ 4 S.R = []; rw [b.r]; rfl, b.pd⟩
theorem NdI.look (b : NdI k S d h kk) (hk : 1 ≤ k ∧ k ≤ 30) : NdI k (lookW pN [tN k] S) d h (kk + 1) := by
 have hP := pN_ok hk
 obtain ⟨H, hH⟩ := b.si
 obtain ⟨s1, s2, s3⟩ := Lop.si_look (p := pN) (WK := wantW pN [tN k] S) (AK := needW pN [tN k] S) (now := S.now) (hv := (Flt.cnt S.F.L : Int)) hH b.wi.lp hP ⟨b.wi.la, b.wi.nw.2⟩ ⟨by omega, b.wi.cn⟩
 have eq : readQ [tN k] S = S.qL := by
  unfold readQ
  split
  ·exact free_back S.now b.q
  ·rfl
 refine ⟨b.wi.look hP, s1, s2.trans b.u0, s3.trans b.d0, b.pa, ?_, b.fl, ?_, ?_, b.r, scale_all b.pd⟩
 ·show fsK [tN k] (rdsW [tN k] S) S.lp.fs 1 = [0]
  rw [b.rds, b.fs]
  rfl
 ·show ∀ x ∈ readQ [tN k] S, x.tk = false
  rw [eq]; exact b.q
 ·show (readQ [tN k] S).length = d
  rw [eq]; exact b.ql
theorem nd_due (k : Int) (S : WS) (hl : S.lp.la + 1 ≤ S.now) : dueW pN [tN k] S = lookW pN [tN k] S := by
 unfold dueW
 rw [if_pos]
 unfold Lop.dueP
 have : decide (S.lp.la + pN.po ≤ S.now) = true := by
  have : S.lp.la + 1 ≤ S.now := hl
  simp [pN, this]
 rw [this, Bool.or_true]
theorem on_none (hr : S.R = []) : onW S = S := by
 unfold onW
 rw [hr]
 show ({ S with F := S.F, R := [] } : WS) = S
 rw [← hr]
theorem NdI.tick (b : NdI k S d h kk) (hk : 1 ≤ k ∧ k ≤ 30) (hn : S.now + 1 ≤ 1099511627776) : NdI k (tick1 pN [tN k] S) d h (kk + 1) ∧ (0 < d → (tick1 pN [tN k] S).tg = min (up d k) 50 ∧ ((tick1 pN [tN k] S).F.L.length : Int) = min (up d k) 50) := by
 have bl := b.late hn
 have hd := nd_due k (lateW S) (by have := b.wi.la; show S.lp.la + 1 ≤ S.now + 1; omega)
 have bk := bl.look hk
 have e : tick1 pN [tN k] S = lookW pN [tN k] (lateW S) := by
  unfold tick1
  rw [hd]
  exact on_none bk.r
 rw [e]
 refine ⟨bk, fun h0 => ?_⟩
 have ht := bl.told hk h0
 have hu : 0 ≤ up d k := up_ge hk.1 (by omega)
 refine ⟨ht, ?_⟩
 rw [← cnt_all bk.pd]
 show (Flt.cnt (Flt.scaleF S.F (toldW pN [tN k] (lateW S))).L : Int) = _
 unfold Flt.scaleF
 rw [ht, if_pos (by omega), Flt.scale_cnt (by omega)]
theorem NdI.put (b : NdI k S d h kk) {n : Nat} (h1 : 1 ≤ n) (h2 : d + n ≤ 200) : NdI k (putW S n) (d + n) (h + 1) kk ∧ putE S.qL n = 0 := by
 have hl := b.ql
 have e : putE S.qL n = 0 := by unfold putE; rw [if_neg (by omega), if_neg (by omega)]
 have ew : putW S n = { S with ql := S.ql + n, qL := S.qL ++ Que.news S.ql n } := by unfold putW; rw [if_pos e]; rfl
 have hw := put_inv b.wi (n : Int)
 rw [ew] at hw ⊢
 refine ⟨⟨hw, b.si, b.u0, b.d0, b.pa, b.fs, b.fl, fun x hx => ?_, ?_, b.r, b.pd⟩, e⟩
 ·rcases List.mem_append.1 hx with a | a
  ·exact b.q x a
  ·unfold Que.news at a
   simp at a
   obtain ⟨_, _, rfl⟩ := a
   rfl
 ·show (S.qL ++ Que.news S.ql n).length = d + n
  rw [List.length_append, Que.news_len, hl]
theorem NdI.new (k : Int) : NdI k (newW pN [tN k] 1 1 0) 0 0 0 :=
 ⟨WI.new _ _ _ _ _ (by omega) (by omega), ⟨[], Lop.si_new _ _⟩, rfl, rfl, by simp [newW, Lop.newL], rfl, rfl, fun x hx => by simp [newW] at hx, rfl, rfl, fun x hx => by simp [newW] at hx⟩
end
end Wld
namespace Wld
open Plain Pln Frm Lpp Crn Lop
set_option maxRecDepth 8000

structure BI (p : Pd) (S : WS) : Prop where
 pa : S.lp.pa < 0
 cn : (Flt.cnt S.F.L : Int) ≤ p.mx
 tg : S.tg ≤ p.mx
 mn : S.lp.lk = true → p.mn ≤ S.tg
 nw : S.lp.lk = false → S.now ≤ 0
section
variable {p : Pd} {ts : List Tr} {S : WS} {h k : Nat}
theorem told_in (hP : PlOk p ts) (hpa : S.lp.pa < 0) : p.mn ≤ toldW p ts S ∧ toldW p ts S ≤ p.mx := by
 have := Lop.look_bds (st := S.st) (now := S.now) (hv := (Flt.cnt S.F.L : Int)) (WK := wantW p ts S) (AK := needW p ts S) hP hpa
 unfold toldW
 exact ⟨this.1, this.2.1⟩
theorem BI.fr (b : BI p S) {F : Flt.FS} {R : List Buf.Rq} (hc : Flt.cnt F.L ≤ Flt.cnt S.F.L) : BI p { S with F := F, R := R } :=
 ⟨b.pa, by have := b.cn; show (Flt.cnt F.L : Int) ≤ _; omega, b.tg, b.mn, b.nw⟩
theorem on_cnt : ∀ (m : Nat) (F : Flt.FS) (R : List Buf.Rq), Flt.cnt (onF m F R).1.L = Flt.cnt F.L
 | 0, _, _ => rfl
 | m + 1, F, R => by
  unfold onF
  split
  ·rw [on_cnt m, (give_cnt F).1]
  ·rfl
theorem BI.on (b : BI p S) : BI p (onW S) := b.fr (Nat.le_of_eq (on_cnt _ _ _))
theorem BI.look (hP : PlOk p ts) (b : BI p S) : BI p (lookW p ts S) := by
 obtain ⟨h1, h2⟩ := told_in (ts := ts) hP b.pa
 have h3 := hP.mn
 have h4 := hP.mx
 refine ⟨b.pa, ?_, h2, fun _ => h1, fun e => by cases e⟩
 show (Flt.cnt (Flt.scaleF S.F (toldW p ts S)).L : Int) ≤ _
 unfold Flt.scaleF
 rw [if_pos (by omega), Flt.scale_cnt (by omega)]
 exact h2
theorem BI.tick1 (hP : PlOk p ts) (b : BI p S) : BI p (tick1 p ts S) := by
 refine BI.on ?_
 unfold dueW
 split
 ·have hb : BI p { lateW S with now := S.now } := ⟨b.pa, b.cn, b.tg, b.mn, b.nw⟩
  have h1 := told_in (p := p) (ts := ts) (S := lateW S) hP b.pa
  have h3 := hP.mn
  have h4 := hP.mx
  refine ⟨b.pa, ?_, h1.2, fun _ => h1.1, fun e => by cases e⟩
  show (Flt.cnt (Flt.scaleF S.F (toldW p ts (lateW S))).L : Int) ≤ _
  unfold Flt.scaleF
  rw [if_pos (by omega), Flt.scale_cnt (by omega)]
  exact h1.2
 ·rename_i e
  refine ⟨b.pa, b.cn, b.tg, b.mn, fun e2 => ?_⟩
  refine absurd ?_ e
  show Lop.dueP p S.lp (S.now + 1) = true
  unfold Lop.dueP
  rw [show S.lp.lk = false from e2]
  rfl
theorem BI.ticks (hP : PlOk p ts) : ∀ (m : Nat) {S : WS}, BI p S → BI p (tickW p ts m S)
 | 0, _, b => b
 | m + 1, _, b => BI.ticks hP m (b.tick1 hP)
theorem BI.same (b : BI p S) {S' : WS} (h1 : S'.lp = S.lp) (h2 : S'.tg = S.tg) (h3 : S'.F = S.F) (h4 : S'.now = S.now) : BI p S' :=
 ⟨by rw [h1]; exact b.pa, by rw [h3]; exact b.cn, by rw [h2]; exact b.tg, by rw [h1, h2]; exact b.mn, by rw [h1, h4]; exact b.nw⟩
theorem BI.do (hP : PlOk p ts) (b : BI p S) (x a n : Int) (hx : x ≠ 13) : BI p (doW p ts S x a n) := by
 unfold doW
 by_cases h1 : x = 1
 ·rw [if_pos h1]
  split
  ·exact b.ticks hP _
  ·exact b
 rw [if_neg h1]
 by_cases h2 : x = 2
 ·rw [if_pos h2]; unfold makeW; split
  ·exact b.same rfl rfl rfl rfl
  ·exact b
 rw [if_neg h2]
 by_cases h3 : x = 3
 ·rw [if_pos h3]; unfold takeW; split
  ·exact b.same rfl rfl rfl rfl
  ·exact b
 rw [if_neg h3]
 by_cases h4 : x = 4
 ·rw [if_pos h4]; unfold putW; split
  ·exact b.same rfl rfl rfl rfl
  ·exact b
 rw [if_neg h4]
 by_cases h5 : x = 5
 ·rw [if_pos h5]; exact b.same rfl rfl rfl rfl
 rw [if_neg h5]
 by_cases h6 : x = 6
 ·rw [if_pos h6]; exact b.same rfl rfl rfl rfl
 rw [if_neg h6]
 by_cases h7 : x = 7
 ·rw [if_pos h7]; unfold failW; split
  ·exact b.same rfl rfl rfl rfl
  ·exact b
 rw [if_neg h7]
 by_cases h8 : x = 8
 ·rw [if_pos h8]; exact b.fr (R := S.R) (Nat.le_of_eq (turn_cnt S.F.L n 1 (Or.inl rfl)))
 rw [if_neg h8]
 by_cases h9 : x = 9
 ·rw [if_pos h9]; unfold readyW; split
  ·exact (b.fr (F := Flt.turnS S.F n 2) (R := S.R) (Nat.le_of_eq (turn_cnt S.F.L n 2 (Or.inr rfl)))).on
  ·exact b
 rw [if_neg h9]
 by_cases h10 : x = 10
 ·rw [if_pos h10]; unfold crashW; split
  ·exact (b.fr (F := Flt.crashS S.F n) (crash_cnt S.F.L n)).on
  ·exact b
 rw [if_neg h10]
 by_cases h11 : x = 11
 ·rw [if_pos h11]; unfold askW; split
  ·exact (b.fr (F := S.F) (Nat.le_refl _)).on
  ·exact b
 rw [if_neg h11]
 by_cases h12 : x = 12
 ·rw [if_pos h12]; unfold doneW; split
  ·exact (b.fr (F := Flt.doneS S.F (Buf.doneN S.R n)) (done_cnt S.F.L _)).on
  ·exact b
 rw [if_neg h12, if_neg hx]
 exact b
theorem BI.new (p : Pd) (ts : List Tr) (hP : PlOk p ts) (n : Nat) (most sec : Int) : BI p (newW p ts n most sec) := by
 have h1 := hP.mx
 exact ⟨by simp [newW, Lop.newL], by simp [newW, Flt.cnt]; omega, by show (0 : Int) ≤ _; omega, fun e => (by cases e), fun _ => Int.le_refl _⟩
end
end Wld
namespace Wld
open Plain Pln Frm Lpp Crn Lop
set_option maxRecDepth 8000

def Fz (ts : List Tr) (fl : List Bool) (i : Nat) : Prop := ∃ t, ts[i]? = some t ∧ t.k ≠ 3 ∧ fl[i]? = some true
section
variable {p : Pd} {ts : List Tr} {S : WS} {h k : Nat}
theorem aK_up {b : Bool} {inF : Tr → Bool} {ts : List Tr} {rs : List Rd} {fs : List Int} {i : Nat} (h : aK b inF ts rs fs i = true) : ∀ j, aK b inF ts rs fs (i + j) = true
 | 0 => h
 | j + 1 => by
  have ih := aK_up h j
  show (match ts[i + j]?, rs[i + j]?, fs[i + j]? with
   | some t, some r, some f => aK b inF ts rs fs (i + j) || stepA inF t r (stepF t r f)
   | _, _, _ => aK b inF ts rs fs (i + j)) = true
  split
  ·rw [ih]; rfl
  ·exact ih
theorem need_busy (hb : busyW S = true) : needW p ts S = true := by
 unfold needW
 rw [hb]
 have := aK_up (b := true) (inF := inW (secW S) p.sh) (ts := ts) (rs := rdsW ts S) (fs := S.lp.fs) (i := 0) rfl ts.length
 rwa [Nat.zero_add] at this
theorem Fz.set {fl : List Bool} {a : Nat} {v : Bool} (ha : a < fl.length) (i : Nat) : Fz ts (fl.set a v) i ↔ (if i = a then v = true ∧ (∃ t, ts[i]? = some t ∧ t.k ≠ 3) else Fz ts fl i) := by
 unfold Fz
 by_cases e : i = a
 ·subst e
  rw [if_pos rfl]
  constructor
  ·rintro ⟨t, h1, h2, h3⟩
   rw [List.getElem?_set_self ha] at h3
   exact ⟨by simpa using h3, t, h1, h2⟩
  ·rintro ⟨h1, t, h2, h3⟩
   exact ⟨t, h2, h3, by rw [List.getElem?_set_self ha, h1]⟩
 ·rw [if_neg e]
  constructor
  ·rintro ⟨t, h1, h2, h3⟩
   rw [List.getElem?_set_ne (fun e2 => e e2.symm)] at h3
   exact ⟨t, h1, h2, h3⟩
  ·rintro ⟨t, h1, h2, h3⟩
   exact ⟨t, h1, h2, by rw [List.getElem?_set_ne (fun e2 => e e2.symm)]; exact h3⟩
end
end Wld
namespace Wld
open Go.RowKit Plain Pln Frm Lpp Crn Lop
set_option maxRecDepth 8000

theorem r0_chk : chkP Lop.p0 [Lop.t0] = 0 := by kernel_rfl
theorem r0_I : PdI Lop.p0 := by constructor <;> simp [I, Lop.p0]
theorem r0_ok : PlOk (noN Lop.p0) [Lop.t0] := ok_noN (plOk_of r0_chk)
theorem r0_k : Us Lop.k0 := by constructor <;> simp [U, Lop.k0]
theorem r0_U : ∀ t ∈ [Lop.t0], TrU t := by
 intro t ht
 simp at ht
 subst ht
 exact ⟨by simp [I, Lop.t0], by simp [I, Lop.t0], by simp [I, Lop.t0], r0_k, r0_k⟩
theorem some_any (w : World) : Calls Tryz.prog 18 #[] w fun e w' => ∃ b, e = .returned (planV Lop.p0 (.slice (some ⟨b, 0, none⟩) 1 1)) ∧ TrsAt w' (some ⟨b, 0, none⟩) [Lop.t0] ∧ w.heap.size ≤ b ∧ Below w.heap.size w w' := by
 have hX := px_new w 26
 have hb2 : ∀ o : Obj, Below (w.alloc (.cells #[.string ⟨#[]⟩, .int .i64 0, .int .i64 0, .int .i64 0, .int .i64 0, .int .i64 0, .int .i64 0, .int .i64 0, .int .i64 0, .int .i64 0, .int .i64 0, .int .i64 0, .int .i64 0, .int .i64 0, .int .i64 0, .int .i64 0, .int .i64 0, .slice none 0 0] 26)).heap.size (w.alloc (.cells #[.string ⟨#[]⟩, .int .i64 0, .int .i64 0, .int .i64 0, .int .i64 0, .int .i64 0, .int .i64 0, .int .i64 0, .int .i64 0, .int .i64 0, .int .i64 0, .int .i64 0, .int .i64 0, .int .i64 0, .int .i64 0, .int .i64 0, .int .i64 0, .slice none 0 0] 26)) ((w.alloc (.cells #[.string ⟨#[]⟩, .int .i64 0, .int .i64 0, .int .i64 0, .int .i64 0, .int .i64 0, .int .i64 0, .int .i64 0, .int .i64 0, .int .i64 0, .int .i64 0, .int .i64 0, .int .i64 0, .int .i64 0, .int .i64 0, .int .i64 0, .int .i64 0, .slice none 0 0] 26)).alloc o) := fun o => (Below.refl _ _).alloc (Nat.le_refl _) o
 have hX2 := fun o => hX.below (hb2 o) (by simp)
 go_enter Tryz.func18, Tryz.ntmps18
 go_wp2_with (with_reducible refine wp_setPx (hX2 _) (p' := Lop.p0) (v' := .slice (some ⟨w.heap.size + 1, 0, none⟩) 1 1) rfl (by with_unfolding_all rfl) (by with_unfolding_all rfl) ?_; intro w9 hX9 ho9)
 refine finPx Tryz.results18 (Or.inl rfl) rfl rfl hX9 ⟨w.heap.size + 1, rfl, ?_, Nat.le_succ _, ?_⟩
 ·refine trs_one (Nat.lt_of_lt_of_le (by simp) ho9.size) (fun j => ?_)
  rw [ho9.cell (a := ⟨w.heap.size + 1, j, none⟩) (by simp) (by simp)]
  simp
  rfl
 ·exact (((Below.refl _ _).alloc (Nat.le_refl _) _).alloc (by simp) _).trans (ho9.below (Nat.le_refl _) (by simp; omega))
theorem tickf_any (n : Int) (w : World) : Calls Tryz.prog 16 #[.int .i64 n] w fun e w' => e = .returned (.agg #[.int .i64 1, .int .i64 0, .int .i64 n]) ∧ Below w.heap.size w w' := by
 go_enter Tryz.func16, Tryz.ntmps16
 go_wp2
 (try simp only [Exit.inBlock, Exit.then])
 refine bodyPost_ret (v := .agg #[.int .i64 1, .int .i64 0, .int .i64 n]) ?_ rfl ⟨rfl, (Below.refl _ _).alloc (Nat.le_refl _) _⟩
 simp [results, Tryz.results16, go_sem]
noncomputable def s0 : WS := newW (noN Lop.p0) [Lop.t0] 1 2 0
noncomputable def s1 : WS := doW (noN Lop.p0) [Lop.t0] s0 4 0 25
noncomputable def s2 : WS := doW (noN Lop.p0) [Lop.t0] s1 1 0 1
noncomputable def sK (k : Nat) : WS := { s2 with qL := (Que.news 0 25).drop k }
noncomputable def sE : WS := doW (noN Lop.p0) [Lop.t0] (sK 25) 1 0 9
theorem s1_def : doW (noN Lop.p0) [Lop.t0] s0 4 0 25 = s1 := by unfold s1; rfl
theorem s2_def : doW (noN Lop.p0) [Lop.t0] s1 1 0 1 = s2 := by unfold s2; rfl
theorem sE_def : doW (noN Lop.p0) [Lop.t0] (sK 25) 1 0 9 = sE := by unfold sE; rfl
theorem s_E1 : doE s0 4 0 25 = 0 := by kernel_rfl
theorem s_E2 : doE s1 1 0 1 = 0 := by kernel_rfl
theorem s_tg : s2.tg = 3 := by kernel_rfl
theorem s_len : s2.F.L.length = 3 := by kernel_rfl
theorem s_q : s2.qL = Que.news 0 25 := by kernel_rfl
theorem s_zero : sK 0 = s2 := by
 have e : (Que.news 0 25).drop 0 = s2.qL := by rw [s_q]; rfl
 unfold sK
 rw [e]
theorem sE_tg : sE.tg = 0 := by kernel_rfl
theorem sE_len : sE.F.L.length = 0 := by kernel_rfl
theorem s_I0 : WI [Lop.t0] s0 0 0 := WI.new _ _ _ _ _ (by omega) (by omega)
theorem s_I1 : WI [Lop.t0] s1 1 1000 := by rw [← s1_def]; exact s_I0.do r0_ok 4 0 25
theorem s_I2 : WI [Lop.t0] s2 2 2000 := by rw [← s2_def]; exact s_I1.do r0_ok 1 0 1
theorem back_free {L : List Que.M} (now : Int) (h : ∀ x ∈ L, x.tk = false) : Que.backL now L = L := by
 unfold Que.backL
 conv => rhs; rw [← List.map_id L]
 refine List.map_congr_left (fun x hx => ?_)
 unfold Que.back
 rw [if_neg (by rw [h x hx]; simp)]
 rfl
theorem lease_first {m : Que.M} {L : List Que.M} {now n : Int} (h : ∀ x ∈ m :: L, x.tk = false) (hn : 1 ≤ n ∧ n ≤ 100000) : leaseE (m :: L) now n = 0 ∧ leaseL (m :: L) now n = ⟨m.id, now + n, true⟩ :: L := by
 have hf : (m :: L).findIdx? Que.free = some 0 := by rw [List.findIdx?_cons]; simp [Que.free, h m (by simp)]
 unfold leaseE leaseL
 rw [if_neg (by simpa using hn), if_neg (by simpa using hn), back_free now h, hf]
 simp
theorem ack_first {id : Int} {L : List Que.M} {now n : Int} (h : ∀ x ∈ L, x.tk = false) (hn : 1 ≤ n) : ackE (⟨id, now + n, true⟩ :: L) now id = 0 ∧ ackL (⟨id, now + n, true⟩ :: L) now id = L := by
 have hb : Que.backL now (⟨id, now + n, true⟩ :: L) = ⟨id, now + n, true⟩ :: L := by
  have := back_free now h
  unfold Que.backL at *
  rw [List.map_cons, this]
  unfold Que.back
  rw [if_neg (by simp; omega)]
 have hf : (⟨id, now + n, true⟩ :: L : List Que.M).findIdx? (Que.isId id) = some 0 := by rw [List.findIdx?_cons]; simp [Que.isId]
 unfold ackE ackL
 rw [hb, hf]
 simp
theorem news_free {x : Que.M} (h : x ∈ Que.news 0 25) : x.tk = false := by
 unfold Que.news at h
 simp at h
 obtain ⟨_, _, rfl⟩ := h
 rfl
theorem news_at {k : Nat} (hk : k < 25) : (Que.news 0 25).drop k = ⟨(k : Int) + 1, 0, false⟩ :: (Que.news 0 25).drop (k + 1) := by
 have hl : (Que.news 0 25).length = 25 := Que.news_len 0 25
 rw [List.drop_eq_getElem_cons (by omega)]
 congr 1
 unfold Que.news
 simp
 omega
theorem round_any {k : Nat} (hk : k < 25) : doE (sK k) 5 0 5 = 0 ∧ doE (doW (noN Lop.p0) [Lop.t0] (sK k) 5 0 5) 6 0 ((k : Int) + 1) = 0 ∧ doW (noN Lop.p0) [Lop.t0] (doW (noN Lop.p0) [Lop.t0] (sK k) 5 0 5) 6 0 ((k : Int) + 1) = sK (k + 1) := by
 have e0 := news_at hk
 have hf : ∀ x ∈ (⟨(k : Int) + 1, 0, false⟩ : Que.M) :: (Que.news 0 25).drop (k + 1), x.tk = false := fun x hx => by
  rw [← e0] at hx
  exact news_free (List.mem_of_mem_drop hx)
 obtain ⟨a1, a2⟩ := lease_first (now := s2.now) (n := 5) hf (by omega)
 obtain ⟨b1, b2⟩ := ack_first (id := (k : Int) + 1) (now := s2.now) (n := 5) (fun x hx => hf x (List.mem_cons_of_mem _ hx)) (by omega)
 have c1 : doE (sK k) 5 0 5 = leaseE ((Que.news 0 25).drop k) s2.now 5 := rfl
 have c2 : doW (noN Lop.p0) [Lop.t0] (sK k) 5 0 5 = { s2 with qL := leaseL ((Que.news 0 25).drop k) s2.now 5 } := rfl
 rw [c1, c2, e0, a1, a2]
 refine ⟨rfl, ?_, ?_⟩
 ·show ackE (⟨(k : Int) + 1, s2.now + 5, true⟩ :: (Que.news 0 25).drop (k + 1)) s2.now ((k : Int) + 1) = 0
  exact b1
 ·show ({ s2 with qL := ackL (⟨(k : Int) + 1, s2.now + 5, true⟩ :: (Que.news 0 25).drop (k + 1)) s2.now ((k : Int) + 1) } : WS) = sK (k + 1)
  rw [b2]
  rfl
theorem newr (b : Nat) (w : World) (hB : Lai.BdsAt w) (hT : TrsAt w (some ⟨b, 0, none⟩) [Lop.t0]) : Calls Tryz.prog 8 #[planV Lop.p0 (.slice (some ⟨b, 0, none⟩) 1 1), .int .i64 1, .int .i64 2, .int .i64 0] w (NewWA Lop.p0 [Lop.t0] 1 2 0 w) :=
 new_yes Lop.p0 (some ⟨b, 0, none⟩) 1 [Lop.t0] 1 2 0 w hB r0_I (by simp [Lop.p0]) hT r0_chk (by omega) (by omega)
theorem doS {w0 : World} (B : Nat) (c : Pc) (S : WS) (h k : Nat) (x a n E : Int) (w : World) (hA : WAt w B c (noN Lop.p0) [Lop.t0] S) (hI : WI [Lop.t0] S h k) (hh : h ≤ 1000) (hk : k ≤ 100000) (hE : doE S x a n = E) (hB : w0.heap.size ≤ B) (hb : Below w0.heap.size w0 w) :
  Calls Tryz.prog 15 #[.pointer (some ⟨c.x.D, 0, none⟩), .agg #[.int .i64 x, .int .i64 a, .int .i64 n]] w fun e w' => e = .returned (.int .i64 E) ∧ ∃ c', WAt w' B c' (noN Lop.p0) [Lop.t0] (doW (noN Lop.p0) [Lop.t0] S x a n) ∧ c'.x.D = c.x.D ∧ Below w0.heap.size w0 w' := by
 refine (do_any B c (noN Lop.p0) [Lop.t0] S h k x a n w hA hI hh hk r0_ok r0_U).mono ?_
 rintro e w' ⟨rfl, c', a', d', m'⟩
 exact ⟨by rw [hE], c', a', d', hb.trans (m'.below (fun k hk => Nat.le_trans hB (hA.low hk).1) hb.size)⟩
def SdR (w : World) (B D : Nat) (i : Value) (wr : World) : Prop := ∃ (k : Nat) (c1 : Pc), k ≤ 25 ∧ i = .int .i64 ((k : Int) + 1) ∧ WAt wr B c1 (noN Lop.p0) [Lop.t0] (sK k) ∧ WI [Lop.t0] (sK k) (2 + 2 * k) (1000 * (2 + 2 * k)) ∧ c1.x.D = D ∧ Below w.heap.size w wr
set_option maxHeartbeats 8000000 in
theorem said_any (w : World) (hB : Lai.BdsAt w) : Calls Tryz.prog 7 #[] w fun e w' => e = .returned (.bool true) ∧ Below w.heap.size w w' := by
 have cS := some_any w
 have HB : Hid (Lai.BdsAt w) := hB
 clear hB
 go_enter Tryz.func7, Tryz.ntmps7
 go_wp2_with (first
  | (go_at_call 18; (with_reducible refine cS.mono ?_); rintro e w1 ⟨b, rfl, hT1, hb, hb1⟩; clear cS)
  | (go_at_call 8; have cN := newr b w1 (HB.out.below hb1 (Nat.le_refl _)) hT1; (with_reducible refine cN.mono ?_); rintro e w2 ⟨c, rfl, hA2, hb2⟩; clear cN; have HX2 : Hid (WAt w2 w1.heap.size c (noN Lop.p0) [Lop.t0] s0 ∧ w.heap.size ≤ w1.heap.size ∧ Below w.heap.size w w2) := ⟨hA2, hb1.size, hb1.trans (hb2.mono hb1.size)⟩; clear hA2 hb2 hT1; generalize hD : c.x.D = D at *)
  | (go_at_call 15; have cD := doS (w0 := w) w1.heap.size c3 s1 1 1000 1 0 1 0 w4 HX4.out.1 s_I1 (by omega) (by omega) s_E2 HX2.out.2.1 HX4.out.2; rw [hD3, s2_def] at cD; (with_reducible refine cD.mono ?_); rintro e w5 ⟨rfl, c5, a5, d5, b5⟩; clear cD; have HX5 : Hid (WAt w5 w1.heap.size c5 (noN Lop.p0) [Lop.t0] s2 ∧ Below w.heap.size w w5) := ⟨a5, b5⟩; have hD5 : c5.x.D = D := d5; clear a5 d5 b5)
  | (go_at_call 15; have cD := doS (w0 := w) w1.heap.size c s0 0 0 4 0 25 0 w2 HX2.out.1 s_I0 (by omega) (by omega) s_E1 HX2.out.2.1 HX2.out.2.2; rw [hD, s1_def] at cD; (with_reducible refine cD.mono ?_); rintro e w3 ⟨rfl, c3, a3, d3, b3⟩; clear cD; have HX3 : Hid (WAt w3 w1.heap.size c3 (noN Lop.p0) [Lop.t0] s1 ∧ Below w.heap.size w w3) := ⟨a3, b3⟩; have hD3 : c3.x.D = D := d3; clear a3 d3 b3)
  | (go_at_call 16; have cT := tickf_any 1 w3; (with_reducible refine cT.mono ?_); rintro e w4 ⟨rfl, hb4⟩; clear cT; have HX4 : Hid (WAt w4 w1.heap.size c3 (noN Lop.p0) [Lop.t0] s1 ∧ Below w.heap.size w w4) := ⟨HX3.out.1.below hb4, HX3.out.2.trans (hb4.mono HX3.out.2.size)⟩; clear hb4)
  | (go_at_call 10; have cX := target_any w1.heap.size c5 (noN Lop.p0) [Lop.t0] s2 w5 HX5.out.1; rw [hD5, s_tg] at cX; (with_reducible refine cX.mono ?_); rintro e w' ⟨rfl, h9⟩; have h8 := h9.symm; clear h9; subst h8; clear cX)
  | (go_at_call 19; have cX := pods_any w1.heap.size c5 (noN Lop.p0) [Lop.t0] s2 w5 HX5.out.1 (by rw [s_len]; omega); rw [hD5, s_len] at cX; (with_reducible refine cX.mono ?_); rintro e w6 ⟨rfl, hR6, hb6⟩; clear cX; have HX6 : Hid (WAt w6 w1.heap.size c5 (noN Lop.p0) [Lop.t0] s2 ∧ Below w.heap.size w w6) := ⟨HX5.out.1.below hb6, HX5.out.2.trans (hb6.mono HX5.out.2.size)⟩; clear hR6 hb6))
 have HL : Hid (w.heap.size ≤ w1.heap.size) := HX2.out.2.1
 clear hb1 hD hD3
 go_loopw [3] (fun i wr => SdR w w1.heap.size D i wr) (fun i _ => 26 - (intOf i).toNat)
 case atStart => exact ⟨0, c5, by omega, rfl, by rw [s_zero]; exact HX6.out.1, by rw [s_zero]; exact s_I2, hD5, HX6.out.2⟩
 case round =>
  clear hD5 HX6 HX5 HX4 HX3 HX2
  obtain ⟨k, c1, hk, rfl, hA, hI, hD1, hbr⟩ := hrel
  by_cases hlt : k < 25
  ·have hlt' : (k : Int) + 1 ≤ 25 := by omega
   obtain ⟨r1, r2, r3⟩ := round_any hlt
   have hI2 := hI.do r0_ok 5 0 5
   have hI3 := hI2.do r0_ok 6 0 ((k : Int) + 1)
   rw [r3] at hI3
   have HX1 : Hid (WAt wr w1.heap.size c1 (noN Lop.p0) [Lop.t0] (sK k) ∧ Below w.heap.size w wr) := ⟨hA, hbr⟩
   have HI1 : Hid (WI [Lop.t0] (sK k) (2 + 2 * k) (1000 * (2 + 2 * k))) := hI
   have HI2 : Hid (WI [Lop.t0] (doW (noN Lop.p0) [Lop.t0] (sK k) 5 0 5) (2 + 2 * k + 1) (1000 * (2 + 2 * k) + 1000)) := hI2
   have HI3 : Hid (WI [Lop.t0] (sK (k + 1)) (2 + 2 * (k + 1)) (1000 * (2 + 2 * (k + 1)))) := hI3.mono (by omega) (by omega)
   have HR : Hid (doE (sK k) 5 0 5 = 0 ∧ doE (doW (noN Lop.p0) [Lop.t0] (sK k) 5 0 5) 6 0 ((k : Int) + 1) = 0 ∧ doW (noN Lop.p0) [Lop.t0] (doW (noN Lop.p0) [Lop.t0] (sK k) 5 0 5) 6 0 ((k : Int) + 1) = sK (k + 1)) := ⟨r1, r2, r3⟩
   clear hA hI hbr hI2 hI3 r1 r2 r3
   go_wp2_with (first
    | (go_at_call 15; have cD := doS (w0 := w) w1.heap.size c3 (doW (noN Lop.p0) [Lop.t0] (sK k) 5 0 5) (2 + 2 * k + 1) (1000 * (2 + 2 * k) + 1000) 6 0 ((k : Int) + 1) 0 w3 HX3.out.1 HI2.out (by omega) (by omega) HR.out.2.1 HL.out HX3.out.2; rw [hD3, HR.out.2.2] at cD; (with_reducible refine cD.mono ?_); rintro e w5 ⟨rfl, c5, a5, d5, b5⟩; clear cD; have HX5 : Hid (WAt w5 w1.heap.size c5 (noN Lop.p0) [Lop.t0] (sK (k + 1)) ∧ c5.x.D = D ∧ Below w.heap.size w w5) := ⟨a5, d5, b5⟩; clear a5 d5 b5)
    | (go_at_call 15; have cD := doS (w0 := w) w1.heap.size c1 (sK k) (2 + 2 * k) (1000 * (2 + 2 * k)) 5 0 5 0 wr HX1.out.1 HI1.out (by omega) (by omega) HR.out.1 HL.out HX1.out.2; rw [hD1] at cD; (with_reducible refine cD.mono ?_); rintro e w3 ⟨rfl, c3, a3, d3, b3⟩; clear cD; have HX3 : Hid (WAt w3 w1.heap.size c3 (noN Lop.p0) [Lop.t0] (doW (noN Lop.p0) [Lop.t0] (sK k) 5 0 5) ∧ Below w.heap.size w w3) := ⟨a3, b3⟩; have hD3 : c3.x.D = D := d3; clear a3 d3 b3))
   go_roundw
   case rel => exact ⟨k + 1, c5, hlt, by simp, HX5.out.1, HI3.out, HX5.out.2.1, HX5.out.2.2⟩
   case measure => simp [intOf]; omega
  ·obtain rfl : k = 25 := by omega
   have HX1 : Hid (WAt wr w1.heap.size c1 (noN Lop.p0) [Lop.t0] (sK 25) ∧ Below w.heap.size w wr) := ⟨hA, hbr⟩
   have HI1 : Hid (WI [Lop.t0] (sK 25) 52 52000) := hI
   clear hA hI hbr
   go_wp2_with (first
    | (go_at_call 16; have cT := tickf_any 9 wr; (with_reducible refine cT.mono ?_); rintro e w4 ⟨rfl, hb4⟩; clear cT; have HX4 : Hid (WAt w4 w1.heap.size c1 (noN Lop.p0) [Lop.t0] (sK 25) ∧ Below w.heap.size w w4) := ⟨HX1.out.1.below hb4, HX1.out.2.trans (hb4.mono HX1.out.2.size)⟩; clear hb4)
    | (go_at_call 15; have cD := doS (w0 := w) w1.heap.size c1 (sK 25) 52 52000 1 0 9 _ w4 HX4.out.1 HI1.out (by omega) (by omega) rfl HL.out HX4.out.2; rw [hD1, sE_def] at cD; (with_reducible refine cD.mono ?_); rintro e w5 ⟨rfl, c5, a5, d5, b5⟩; clear cD; have HX5 : Hid (WAt w5 w1.heap.size c5 (noN Lop.p0) [Lop.t0] sE ∧ Below w.heap.size w w5) := ⟨a5, b5⟩; have hD5 : c5.x.D = D := d5; clear a5 d5 b5)
    | (go_at_call 10; have cX := target_any w1.heap.size c5 (noN Lop.p0) [Lop.t0] sE w5 HX5.out.1; rw [hD5, sE_tg] at cX; (with_reducible refine cX.mono ?_); rintro e w' ⟨rfl, h9⟩; have h8 := h9.symm; clear h9; subst h8; clear cX)
    | (go_at_call 19; have cX := pods_any w1.heap.size c5 (noN Lop.p0) [Lop.t0] sE w5 HX5.out.1 (by rw [sE_len]; omega); rw [hD5, sE_len] at cX; (with_reducible refine cX.mono ?_); rintro e w6 ⟨rfl, hR6, hb6⟩; clear cX))
   go_ret
   exact ⟨rfl, HX5.out.2.trans (hb6.mono HX5.out.2.size)⟩
end Wld
namespace Wld
open Plain Pln Ned Frm Lpp Crn
set_option maxRecDepth 8000

def rqS (k i : Nat) : Buf.Rq := if i < k then ⟨(i : Int) + 1, 2, 1000, 3, 1⟩ else if i = k then ⟨(i : Int) + 1, 2, 1000, 2, 1⟩ else ⟨(i : Int) + 1, 2, 1000, 1, 0⟩
def RS (n k : Nat) : List Buf.Rq := (List.range n).map (rqS k)
def rqW (k i : Nat) : Buf.Rq := if i < k then ⟨(i : Int) + 1, 2, 1000, 3, 1⟩ else ⟨(i : Int) + 1, 2, 1000, 1, 0⟩
def RW (n k : Nat) : List Buf.Rq := (List.range n).map (rqW k)
theorem RS_len (n k : Nat) : (RS n k).length = n := by simp [RS]
theorem RW_len (n k : Nat) : (RW n k).length = n := by simp [RW]
theorem RS_get {n k i : Nat} (h : i < n) : (RS n k)[i]? = some (rqS k i) := by simp [RS, h]
theorem RW_get {n k i : Nat} (h : i < n) : (RW n k)[i]? = some (rqW k i) := by simp [RW, h]
theorem RS_mem {n k : Nat} {r : Buf.Rq} (h : r ∈ RS n k) : ∃ i, i < n ∧ r = rqS k i := by
 unfold RS at h
 obtain ⟨i, hi, rfl⟩ := List.mem_map.1 h
 exact ⟨i, List.mem_range.1 hi, rfl⟩
theorem RW_mem {n k : Nat} {r : Buf.Rq} (h : r ∈ RW n k) : ∃ i, i < n ∧ r = rqW k i := by
 unfold RW at h
 obtain ⟨i, hi, rfl⟩ := List.mem_map.1 h
 exact ⟨i, List.mem_range.1 hi, rfl⟩
theorem rqS_src (k i : Nat) : (rqS k i).src = 2 ∧ (rqS k i).til = 1000 := by
 unfold rqS
 split
 ·exact ⟨rfl, rfl⟩
 ·split <;> exact ⟨rfl, rfl⟩
theorem rqW_src (k i : Nat) : (rqW k i).src = 2 ∧ (rqW k i).til = 1000 := by
 unfold rqW
 split <;> exact ⟨rfl, rfl⟩
theorem serve_busy {n k : Nat} (hk : k < n) : Buf.nextB (RS n k) = false := by
 have hm : Buf.many 2 2 (RS n k) ≠ 0 := by
  have : 0 < (RS n k).countP (Buf.isOf 2 2) := List.countP_pos_iff.2 ⟨rqS k k, List.mem_of_getElem? (RS_get hk), by simp [rqS, Buf.isOf]⟩
  unfold Buf.many
  omega
 have hf : (RS n k).findIdx? (Buf.mayRun (RS n k)) = none := by
  rw [List.findIdx?_eq_none_iff]
  intro r hr
  obtain ⟨i, _, rfl⟩ := RS_mem hr
  unfold Buf.mayRun
  rw [(rqS_src k i).1]
  simp [hm]
 unfold Buf.nextB
 rw [hf]
 rfl
theorem serve_end (n : Nat) : Buf.nextB (RW n n) = false := by
 have hf : (RW n n).findIdx? (Buf.mayRun (RW n n)) = none := by
  rw [List.findIdx?_eq_none_iff]
  intro r hr
  obtain ⟨i, hi, rfl⟩ := RW_mem hr
  unfold Buf.mayRun rqW
  rw [if_pos hi]
  rfl
 unfold Buf.nextB
 rw [hf]
 rfl
theorem serve_next {n k : Nat} (hk : k < n) : Buf.nextB (RW n k) = true ∧ Buf.runL (RW n k) (Buf.nextN (RW n k)) 1 = RS n k := by
 have hm : Buf.many 2 2 (RW n k) = 0 := by
  unfold Buf.many
  rw [List.countP_eq_zero]
  intro r hr
  obtain ⟨i, _, rfl⟩ := RW_mem hr
  unfold rqW
  split <;> simp [Buf.isOf]
 have hmy : ∀ i, Buf.mayRun (RW n k) (rqW k i) = decide (k ≤ i) := by
  intro i
  unfold Buf.mayRun
  rw [(rqW_src k i).1, hm]
  unfold rqW
  split
  ·simp; omega
  ·simp; omega
 have hf : (RW n k).findIdx? (Buf.mayRun (RW n k)) = some k := by
  refine Flt.find_at (fun j hj x hx => ?_) (RW_get hk) (by rw [hmy]; simp)
  rw [RW_get (by omega)] at hx
  cases hx
  rw [hmy]
  simp
  omega
 have hn : Buf.nextN (RW n k) = (k : Int) + 1 := by unfold Buf.nextN; rw [hf]
 refine ⟨by unfold Buf.nextB; rw [hf]; rfl, ?_⟩
 have ho : Buf.runOk (RW n k) k (rqW k k) = true := by
  unfold Buf.runOk
  rw [hmy, Bool.and_eq_true, List.all_eq_true]
  refine ⟨by simp, fun x hx => ?_⟩
  obtain ⟨j, hj⟩ := List.getElem?_of_mem hx
  rw [List.getElem?_take] at hj
  split at hj
  ·rename_i hjk
   rw [RW_get (by omega)] at hj
   cases hj
   unfold rqW
   rw [if_pos hjk]
   simp
  ·cases hj
 rw [hn, (Buf.run_ok (pod := 1) (RW_get hk) ho).2]
 refine List.ext_getElem? (fun i => ?_)
 by_cases h1 : i < n
 ·rw [RS_get h1]
  by_cases h2 : i = k
  ·subst h2
   rw [List.getElem?_set_self (by rw [RW_len]; exact hk)]
   unfold rqW rqS
   simp
  ·rw [List.getElem?_set_ne (fun e => h2 e.symm), RW_get h1]
   unfold rqW rqS
   split
   ·rfl
   ·simp
 ·rw [List.getElem?_eq_none (by simp [RW_len]; omega), List.getElem?_eq_none (by simp [RS_len]; omega)]
theorem serve_done {n k : Nat} (hk : k < n) : Buf.doneE (RS n k) ((k : Int) + 1) = 0 ∧ Buf.doneN (RS n k) ((k : Int) + 1) = 1 ∧ Buf.doneL (RS n k) ((k : Int) + 1) = RW n (k + 1) := by
 have e : rqS k k = ⟨(k : Int) + 1, 2, 1000, 2, 1⟩ := by unfold rqS; simp
 have hg := RS_get (k := k) hk
 rw [e] at hg
 obtain ⟨a, b, c⟩ := Buf.done_ok hg rfl
 refine ⟨a, b, c.trans ?_⟩
 refine List.ext_getElem? (fun i => ?_)
 by_cases h1 : i < n
 ·rw [RW_get h1]
  by_cases h2 : i = k
  ·subst h2
   rw [List.getElem?_set_self (by rw [RS_len]; exact hk)]
   unfold rqW
   simp
  ·rw [List.getElem?_set_ne (fun e => h2 e.symm), RS_get h1]
   unfold rqW rqS
   by_cases h3 : i < k
   ·rw [if_pos h3, if_pos (by omega)]
   ·rw [if_neg h3, if_neg h2, if_neg (by omega)]
 ·rw [List.getElem?_eq_none (by simp [RS_len]; omega), List.getElem?_eq_none (by simp [RW_len]; omega)]
theorem serve_ask {n : Nat} (hn : n < 20) : Buf.askE (RW n 0) 0 2 1000 = 0 ∧ Buf.askL (RW n 0) 0 2 1000 = RW (n + 1) 0 := by
 have h1 : ∀ s f, Buf.many s f (RW n 0) ≤ n := fun s f => by have := Buf.many_le s f (RW n 0); rwa [RW_len] at this
 have e : Buf.askE (RW n 0) 0 2 1000 = 0 := by
  unfold Buf.askE
  have a := h1 2 1
  have b := h1 (-1) 1
  rw [if_neg (by simp), if_neg (by simp), if_neg (by rw [RW_len]; omega)]
 refine ⟨e, ?_⟩
 unfold Buf.askL
 rw [if_pos e, RW_len]
 unfold RW
 rw [List.range_succ, List.map_append]
 rfl
theorem serve_late {n k : Nat} {now : Int} (h : now < 1000) : Buf.turnL (Buf.isLate now) 4 (RS n k) = RS n k ∧ Buf.turnL (Buf.isLate now) 4 (RW n k) = RW n k := by
 have key : ∀ L : List Buf.Rq, (∀ r ∈ L, r.til = 1000) → Buf.turnL (Buf.isLate now) 4 L = L := fun L hL => by
  unfold Buf.turnL
  conv => rhs; rw [← List.map_id L]
  refine List.map_congr_left (fun r hr => ?_)
  unfold Buf.turnF
  rw [if_neg]
  ·rfl
  ·unfold Buf.isLate
   rw [hL r hr]
   simp
   omega
 refine ⟨key _ (fun r hr => ?_), key _ (fun r hr => ?_)⟩
 ·obtain ⟨i, _, rfl⟩ := RS_mem hr
  exact (rqS_src k i).2
 ·obtain ⟨i, _, rfl⟩ := RW_mem hr
  exact (rqW_src k i).2
theorem on_halt {R : List Buf.Rq} (h : Buf.nextB R = false) (F : Flt.FS) : ∀ m, onF m F R = (F, R)
 | 0 => rfl
 | m + 1 => by
  unfold onF
  rw [if_neg (by rw [h]; simp)]
theorem on_wait {F : Flt.FS} (h : ∀ x ∈ F.L, x.st ≠ 3) (R : List Buf.Rq) : ∀ m, onF m F R = (F, R)
 | 0 => rfl
 | m + 1 => by
  have hp : Flt.pick (Flt.room F.most) Flt.given F.L 0 none = none := by
   cases hp : Flt.pick (Flt.room F.most) Flt.given F.L 0 none with
   | none => rfl
   | some x =>
    obtain ⟨_, h2, h3⟩ := Flt.pick_mem hp
    have := h x.2 (List.mem_of_getElem? h2)
    unfold Flt.room at h3
    simp [this] at h3
  have hg := (Flt.give_none hp).2.2
  unfold onF
  rw [if_neg (by rw [hg]; simp)]
theorem on_give {n k : Nat} (hk : k < n) {most last : Int} (hm : 1 ≤ most) (m : Nat) : onF (m + 1) ⟨most, last, [⟨1, 3, 0⟩]⟩ (RW n k) = (⟨most, last, [⟨1, 3, 1⟩]⟩, RS n k) := by
 have hp : Flt.pick (Flt.room most) Flt.given [⟨1, 3, 0⟩] 0 none = some (0, ⟨1, 3, 0⟩) := by
  have : Flt.room most ⟨1, 3, 0⟩ = true := by unfold Flt.room; simp; omega
  unfold Flt.pick Flt.nxt
  rw [this]
  rfl
 obtain ⟨g1, g2, g3⟩ := Flt.give_some (F := ⟨most, last, [⟨1, 3, 0⟩]⟩) hp
 obtain ⟨s1, s2⟩ := serve_next hk
 unfold onF
 rw [if_pos ⟨s1, g3⟩, g1, g2, s2]
 exact on_halt (serve_busy hk) _ m
end Wld
namespace Wld
open Plain Pln Ned Frm Lpp Crn
set_option maxRecDepth 8000

structure SvI (S : WS) (h k : Nat) : Prop where
 wi : WI [Lop.t0] S h k
 si : ∃ H, Stb.SI H S.st
 u0 : S.st.u = ⟨0, 0, 0, 0⟩
 d0 : S.st.d = ⟨0, 0, 0, 0⟩
 pa : S.lp.pa < 0
 fs : S.lp.fs = [0]
 fl : S.fl = [false]
 q : S.qL = []
abbrev pS : Pd := Lop.noN Lop.p0
section
variable {S : WS} {n j h k : Nat}
theorem SvI.fr (b : SvI S h k) {F : Flt.FS} {R : List Buf.Rq} (g : WI [Lop.t0] { S with F := F, R := R } h k) : SvI { S with F := F, R := R } h k := ⟨g, b.si, b.u0, b.d0, b.pa, b.fs, b.fl, b.q⟩
theorem SvI.on (b : SvI S h k) : SvI (onW S) h k := b.fr b.wi.on
theorem SvI.late (b : SvI S h k) (hn : S.now + 1 ≤ 1099511627776) : SvI (lateW S) h k := ⟨b.wi.late hn, b.si, b.u0, b.d0, b.pa, b.fs, b.fl, b.q⟩
theorem SvI.start (b : SvI S h k) (id : Int) : SvI (doW pS [Lop.t0] S 8 0 id) h k := b.fr (F := Flt.turnS S.F id 1) (R := S.R) (b.wi.ready id 1 (Or.inl rfl))
theorem SvI.ready (b : SvI S h k) (id : Int) : SvI (doW pS [Lop.t0] S 9 0 id) h k := by
 show SvI (readyW S id) h k
 unfold readyW
 split
 ·exact (b.fr (F := Flt.turnS S.F id 2) (R := S.R) (b.wi.ready id 2 (Or.inr rfl))).on
 ·exact b
theorem SvI.ask (b : SvI S h k) (a t : Int) : SvI (doW pS [Lop.t0] S 11 a t) h k := by
 show SvI (askW S a t) h k
 unfold askW
 split
 ·exact (b.fr (F := S.F) (b.wi.ask a t)).on
 ·exact b
theorem SvI.done (b : SvI S h k) (id : Int) : SvI (doW pS [Lop.t0] S 12 0 id) h k := by
 show SvI (doneW S id) h k
 unfold doneW
 split
 ·exact (b.fr (b.wi.done id)).on
 ·exact b
theorem SvI.rds (b : SvI S h k) : rdsW [Lop.t0] S = [⟨false, 1, fun _ => 0⟩] := by
 unfold rdsW
 rw [b.fl]
 show [rdOf S Lop.t0 false] = _
 unfold rdOf
 rw [if_neg (by show ¬ (2 : Int) = 1; decide), if_pos (show Lop.t0.k = 2 from rfl), b.q]
 rfl
theorem SvI.want (b : SvI S h k) : wantW pS [Lop.t0] S = 0 := by
 unfold wantW
 rw [b.rds, b.fs]
 show max 0 (stepN pS (Flt.cnt S.F.L) (inW (secW S) pS.sh) Lop.t0 ⟨false, 1, fun _ => 0⟩ (stepF Lop.t0 ⟨false, 1, fun _ => 0⟩ 0)) = 0
 have e1 : stepF Lop.t0 ⟨false, 1, fun _ => 0⟩ 0 = 0 := rfl
 rw [e1]
 unfold stepN
 rw [if_neg (by decide), if_neg (by show ¬ (2 : Int) = 3; decide)]
 show max 0 (wantF (Flt.cnt S.F.L) 0 2 10 1 (fun _ => 0)) = 0
 rw [want_depth (by omega) (by omega) ⟨by omega, b.wi.cn⟩]
 rfl
theorem SvI.told (b : SvI S h k) : toldW pS [Lop.t0] S = min (max 0 (lowF pS (Flt.cnt S.F.L) S.now S.lp.nd (needW pS [Lop.t0] S))) 9 := by
 obtain ⟨H, hH⟩ := b.si
 have h1 := Lop.look_free (p := pS) (WK := wantW pS [Lop.t0] S) (AK := needW pS [Lop.t0] S) (now := S.now) (hv := (Flt.cnt S.F.L : Int)) hH b.wi.lp r0_ok ⟨b.wi.la, b.wi.nw.2⟩ ⟨by omega, b.wi.cn⟩ b.u0 b.d0 b.pa
 unfold toldW
 rw [h1, b.want]
 rfl
theorem SvI.told_busy (b : SvI S h k) (hb : busyW S = true) : toldW pS [Lop.t0] S = 1 := by
 rw [b.told, need_busy hb]
 rfl
theorem SvI.told_le (b : SvI S h k) : 0 ≤ toldW pS [Lop.t0] S ∧ toldW pS [Lop.t0] S ≤ 1 := by
 rw [b.told]
 have : lowF pS (Flt.cnt S.F.L) S.now S.lp.nd (needW pS [Lop.t0] S) ≤ 1 := by
  unfold lowF
  split
  ·show max (0 : Int) 1 ≤ 1; omega
  ·split
   ·show max (0 : Int) (min _ 1) ≤ 1; omega
   ·show (0 : Int) ≤ 1; omega
 omega
theorem SvI.look (b : SvI S h k) : SvI (lookW pS [Lop.t0] S) h (k + 1) := by
 obtain ⟨H, hH⟩ := b.si
 obtain ⟨s1, s2, s3⟩ := Lop.si_look (p := pS) (WK := wantW pS [Lop.t0] S) (AK := needW pS [Lop.t0] S) (now := S.now) (hv := (Flt.cnt S.F.L : Int)) hH b.wi.lp r0_ok ⟨b.wi.la, b.wi.nw.2⟩ ⟨by omega, b.wi.cn⟩
 refine ⟨b.wi.look r0_ok, s1, s2.trans b.u0, s3.trans b.d0, b.pa, ?_, b.fl, ?_⟩
 ·show fsK [Lop.t0] (rdsW [Lop.t0] S) S.lp.fs 1 = [0]
  rw [b.rds, b.fs]
  rfl
 ·show readQ [Lop.t0] S = []
  unfold readQ
  rw [b.q]
  split <;> rfl
theorem SvI.due (b : SvI S h k) : SvI (dueW pS [Lop.t0] S) h (k + 1) := by
 unfold dueW
 split
 ·exact b.look
 ·exact ⟨b.wi.mono (Nat.le_refl _) (by omega), b.si, b.u0, b.d0, b.pa, b.fs, b.fl, b.q⟩
theorem SvI.tick (b : SvI S h k) (hn : S.now + 1 ≤ 1099511627776) : SvI (tick1 pS [Lop.t0] S) h (k + 1) := (b.late hn).due.on
theorem SvI.more (b : SvI S h k) {h' k' : Nat} (h1 : h ≤ h') (h2 : k ≤ k') : SvI S h' k' := ⟨b.wi.mono h1 h2, b.si, b.u0, b.d0, b.pa, b.fs, b.fl, b.q⟩
theorem SvI.new (most : Int) : SvI (newW pS [Lop.t0] 1 most 0) 0 0 :=
 ⟨WI.new _ _ _ _ _ (by omega) (by omega), ⟨[], Lop.si_new _ _⟩, rfl, rfl, by simp [newW, Lop.newL], rfl, rfl, rfl⟩
theorem zero_len {F : Flt.FS} (hI : Flt.Inv F) (hz : ∀ x ∈ F.L, x.ld = 0) : Flt.cnt F.L = F.L.length := by
 unfold Flt.cnt
 rw [List.countP_eq_length]
 intro x hx
 have h1 := hI.bd x hx
 have h2 := hz x hx
 unfold Flt.Okp at h1
 unfold Flt.stays
 simp
 omega
theorem shrink_zero : ∀ (n : Nat) {L : List Flt.Pd}, (∀ x ∈ L, x.ld = 0) → ∀ x ∈ Flt.shrink n L, x.ld = 0
 | 0, _, h => h
 | n + 1, L, h => by
  unfold Flt.shrink
  split
  ·exact h
  ·rename_i y hy
   refine shrink_zero n (fun x hx => ?_)
   obtain ⟨_, h2, _⟩ := Flt.pick_mem hy
   have hl := h y.2 (List.mem_of_getElem? h2)
   unfold Flt.letgo at hx
   rw [if_neg (by omega)] at hx
   exact h x (List.mem_of_mem_eraseIdx hx)
theorem scale_zero {F : Flt.FS} {n : Int} (h : ∀ x ∈ F.L, x.ld = 0) : ∀ x ∈ (Flt.scaleF F n).L, x.ld = 0 := by
 unfold Flt.scaleF
 split
 ·refine shrink_zero _ (fun x hx => ?_)
  rcases List.mem_append.1 hx with a | a
  ·exact h x a
  ·exact (Flt.news_mem a).2.2.2
 ·exact h
theorem turn_zero {F : Flt.FS} {id fr : Int} (h : ∀ x ∈ F.L, x.ld = 0) : (Flt.turnS F id fr).L.length = F.L.length ∧ ∀ x ∈ (Flt.turnS F id fr).L, x.ld = 0 := by
 unfold Flt.turnS
 simp only
 cases hf : F.L.findIdx? (Flt.isId id) with
 | none => rw [(Flt.turn_none hf).2]; exact ⟨rfl, h⟩
 | some i =>
  obtain ⟨x, hx, _⟩ := Flt.find_get hf
  by_cases hs : x.st = fr
  ·rw [(Flt.turn_ok hf hx hs).2]
   refine ⟨by simp, fun z hz => ?_⟩
   rcases List.mem_or_eq_of_mem_set hz with g | rfl
   ·exact h z g
   ·exact h x (List.mem_of_getElem? hx)
  ·rw [(Flt.turn_state hf hx hs).2]; exact ⟨rfl, h⟩
structure Ph (n j : Nat) (S : WS) : Prop where
 a : j < n → S.F.L = [⟨1, 3, 1⟩] ∧ S.R = RS n j
 b : n ≤ j → S.R = RW n n ∧ S.F.L.length ≤ 1 ∧ ∀ x ∈ S.F.L, x.ld = 0
structure Ph0 (n : Nat) (S : WS) : Prop where
 f : S.F.L = []
 l : S.F.last = 0
 r : S.R = RW n 0
 k : S.lp.lk = false
structure Ph1 (n : Nat) (S : WS) : Prop where
 f : S.F.L = [⟨1, 1, 0⟩]
 r : S.R = RW n 0
theorem busy_mem {r : Buf.Rq} (hr : r ∈ S.R) (hf : r.fat = 1 ∨ r.fat = 2) : busyW S = true := by
 unfold busyW
 have key : ∀ f, r.fat = f → 0 < Buf.many (-1) f S.R := fun f e => by
  unfold Buf.many
  refine List.countP_pos_iff.2 ⟨r, hr, ?_⟩
  unfold Buf.isOf
  simp [e]
 rcases hf with e | e
 ·simp [key 1 e]
 ·simp [key 2 e]
theorem Ph0.ask (p : Ph0 n S) (hn : n < 20) (h0 : S.now = 0) : Buf.askE S.R S.now 2 1000 = 0 ∧ Ph0 (n + 1) (doW pS [Lop.t0] S 11 2 1000) ∧ (doW pS [Lop.t0] S 11 2 1000).now = 0 := by
 obtain ⟨a, b⟩ := serve_ask hn
 have ea : Buf.askE S.R S.now 2 1000 = 0 := by rw [p.r, h0]; exact a
 refine ⟨ea, ?_⟩
 have e : doW pS [Lop.t0] S 11 2 1000 = onW { S with R := Buf.askL S.R S.now 2 1000 } := by
  show askW S 2 1000 = _
  unfold askW
  rw [if_pos ea]
 have eo : onW { S with R := Buf.askL S.R S.now 2 1000 } = { S with R := RW (n + 1) 0 } := by
  unfold onW
  rw [p.r, h0, b]
  simp only
  rw [on_wait (F := S.F) (by rw [p.f]; simp)]
 rw [e, eo]
 exact ⟨⟨p.f, p.l, rfl, p.k⟩, h0⟩
theorem Ph0.tick (p : Ph0 n S) (b : SvI S h k) (hn : 1 ≤ n) (h0 : S.now = 0) : Ph1 n (tick1 pS [Lop.t0] S) := by
 have bl := b.late (by omega)
 have hr : (lateW S).R = RW n 0 := by
  show Buf.turnL (Buf.isLate (S.now + 1)) 4 S.R = _
  rw [p.r]
  exact (serve_late (by omega)).2
 have hb : busyW (lateW S) = true := busy_mem (r := rqW 0 0) (by rw [hr]; exact List.mem_of_getElem? (RW_get (by omega))) (by unfold rqW; simp)
 have ht := bl.told_busy hb
 have hd : dueW pS [Lop.t0] (lateW S) = lookW pS [Lop.t0] (lateW S) := by
  unfold dueW
  rw [if_pos]
  unfold Lop.dueP
  have : (lateW S).lp.lk = false := p.k
  rw [this]
  rfl
 have hF : (lookW pS [Lop.t0] (lateW S)).F = ⟨S.F.most, 1, [⟨1, 1, 0⟩]⟩ := by
  show Flt.scaleF S.F (toldW pS [Lop.t0] (lateW S)) = _
  rw [ht]
  unfold Flt.scaleF Flt.scaleS
  rw [if_pos (by omega), p.f, p.l]
  rfl
 have hR : (lookW pS [Lop.t0] (lateW S)).R = RW n 0 := hr
 have e : tick1 pS [Lop.t0] S = onW (lookW pS [Lop.t0] (lateW S)) := by unfold tick1; rw [hd]
 rw [e]
 have eo : onF (lookW pS [Lop.t0] (lateW S)).R.length (lookW pS [Lop.t0] (lateW S)).F (lookW pS [Lop.t0] (lateW S)).R = (⟨S.F.most, 1, [⟨1, 1, 0⟩]⟩, RW n 0) := by
  rw [hF, hR]
  exact on_wait (by simp) _ _
 unfold onW
 rw [eo]
 exact ⟨rfl, rfl⟩
theorem Ph1.pod (p : Ph1 n S) (b : SvI S h k) (hn : 1 ≤ n) : Ph n 0 (doW pS [Lop.t0] (doW pS [Lop.t0] S 8 0 1) 9 0 1) := by
 have hm := b.wi.f.m.1
 have e1 : (Flt.turnS S.F 1 1) = ⟨S.F.most, S.F.last, [⟨1, 2, 0⟩]⟩ := by unfold Flt.turnS; rw [p.f]; rfl
 have e2 : doW pS [Lop.t0] S 8 0 1 = { S with F := ⟨S.F.most, S.F.last, [⟨1, 2, 0⟩]⟩ } := by
  show ({ S with F := Flt.turnS S.F 1 1 } : WS) = _
  rw [e1]
 rw [e2]
 have e3 : doW pS [Lop.t0] { S with F := ⟨S.F.most, S.F.last, [⟨1, 2, 0⟩]⟩ } 9 0 1 = onW { S with F := ⟨S.F.most, S.F.last, [⟨1, 3, 0⟩]⟩ } := by
  show readyW { S with F := ⟨S.F.most, S.F.last, [⟨1, 2, 0⟩]⟩ } 1 = _
  unfold readyW
  rw [if_pos (by rfl)]
  rfl
 rw [e3]
 obtain ⟨m, rfl⟩ : ∃ m, n = m + 1 := ⟨n - 1, by omega⟩
 have eo : onF S.R.length ⟨S.F.most, S.F.last, [⟨1, 3, 0⟩]⟩ S.R = (⟨S.F.most, S.F.last, [⟨1, 3, 1⟩]⟩, RS (m + 1) 0) := by
  rw [p.r, RW_len]
  exact on_give (by omega) hm m
 unfold onW
 simp only
 rw [eo]
 exact ⟨fun _ => ⟨rfl, rfl⟩, fun h => by omega⟩
theorem Ph.pod (p : Ph n j S) (id : Int) (hid : j < n → id = 1) : Ph n j (doW pS [Lop.t0] (doW pS [Lop.t0] S 8 0 id) 9 0 id) := by
 by_cases hj : j < n
 ·obtain ⟨hF, hR⟩ := p.a hj
  rw [hid hj]
  have e1 : (Flt.turnS S.F 1 1) = S.F := by
   unfold Flt.turnS
   rw [hF]
   show (⟨S.F.most, S.F.last, [⟨1, 3, 1⟩]⟩ : Flt.FS) = S.F
   rw [← hF]
  have e2 : doW pS [Lop.t0] S 8 0 1 = S := by
   show ({ S with F := Flt.turnS S.F 1 1 } : WS) = _
   rw [e1]
  have e3 : doW pS [Lop.t0] S 9 0 1 = S := by
   show readyW S 1 = S
   unfold readyW
   rw [if_neg]
   rw [hF]
   decide
  rw [e2, e3]
  exact p
 ·obtain ⟨hR, hl, hz⟩ := p.b (by omega)
  obtain ⟨t1, t2⟩ := turn_zero (F := S.F) (id := id) (fr := 1) hz
  refine ⟨fun h => absurd h hj, fun _ => ?_⟩
  show (readyW { S with F := Flt.turnS S.F id 1 } id).R = _ ∧ (readyW { S with F := Flt.turnS S.F id 1 } id).F.L.length ≤ 1 ∧ ∀ x ∈ (readyW { S with F := Flt.turnS S.F id 1 } id).F.L, x.ld = 0
  unfold readyW
  split
  ·obtain ⟨u1, u2⟩ := turn_zero (F := Flt.turnS S.F id 1) (id := id) (fr := 2) t2
   unfold onW
   simp only
   rw [on_halt (by rw [hR]; exact serve_end n)]
   exact ⟨hR, by rw [u1, t1]; exact hl, u2⟩
  ·exact ⟨hR, by simp only; rw [t1]; exact hl, t2⟩
theorem Ph.tick (p : Ph n j S) (b : SvI S h k) (hn : S.now + 1 < 1000) : Ph n j (tick1 pS [Lop.t0] S) := by
 have bl := b.late (by omega)
 by_cases hj : j < n
 ·obtain ⟨hF, hR⟩ := p.a hj
  have hr : (lateW S).R = RS n j := by
   show Buf.turnL (Buf.isLate (S.now + 1)) 4 S.R = _
   rw [hR]
   exact (serve_late hn).1
  have hb : busyW (lateW S) = true := busy_mem (r := rqS j j) (by rw [hr]; exact List.mem_of_getElem? (RS_get hj)) (by unfold rqS; simp)
  have ht := bl.told_busy hb
  have hd : (dueW pS [Lop.t0] (lateW S)).F.L = [⟨1, 3, 1⟩] ∧ (dueW pS [Lop.t0] (lateW S)).R = RS n j := by
   unfold dueW
   split
   ·refine ⟨?_, hr⟩
    show (Flt.scaleF S.F (toldW pS [Lop.t0] (lateW S))).L = _
    rw [ht]
    unfold Flt.scaleF Flt.scaleS
    rw [if_pos (by omega), hF]
    rfl
   ·exact ⟨hF, hr⟩
  refine ⟨fun _ => ?_, fun h => by omega⟩
  show (onW (dueW pS [Lop.t0] (lateW S))).F.L = _ ∧ (onW (dueW pS [Lop.t0] (lateW S))).R = _
  unfold onW
  simp only
  rw [on_halt (by rw [hd.2]; exact serve_busy hj)]
  exact hd
 ·obtain ⟨hR, hl, hz⟩ := p.b (by omega)
  have hr : (lateW S).R = RW n n := by
   show Buf.turnL (Buf.isLate (S.now + 1)) 4 S.R = _
   rw [hR]
   exact (serve_late hn).2
  have hd : (dueW pS [Lop.t0] (lateW S)).R = RW n n ∧ (dueW pS [Lop.t0] (lateW S)).F.L.length ≤ 1 ∧ ∀ x ∈ (dueW pS [Lop.t0] (lateW S)).F.L, x.ld = 0 := by
   unfold dueW
   split
   ·have ht := bl.told_le
    have hz2 : ∀ x ∈ (Flt.scaleF S.F (toldW pS [Lop.t0] (lateW S))).L, x.ld = 0 := scale_zero hz
    refine ⟨hr, ?_, hz2⟩
    show (Flt.scaleF S.F (toldW pS [Lop.t0] (lateW S))).L.length ≤ 1
    rw [← zero_len (Flt.scaleF_inv b.wi.f _) hz2]
    have : (Flt.cnt (Flt.scaleF S.F (toldW pS [Lop.t0] (lateW S))).L : Int) = toldW pS [Lop.t0] (lateW S) := by
     unfold Flt.scaleF
     rw [if_pos (by omega), Flt.scale_cnt ht.1]
    omega
   ·exact ⟨hr, hl, hz⟩
  refine ⟨fun h => absurd h hj, fun _ => ?_⟩
  show (onW (dueW pS [Lop.t0] (lateW S))).R = _ ∧ (onW (dueW pS [Lop.t0] (lateW S))).F.L.length ≤ 1 ∧ ∀ x ∈ (onW (dueW pS [Lop.t0] (lateW S))).F.L, x.ld = 0
  unfold onW
  simp only
  rw [on_halt (by rw [hd.1]; exact serve_end n)]
  exact hd
theorem Ph.done (p : Ph n j S) (b : SvI S h k) (hj : j < n) : Buf.doneE S.R ((j : Int) + 1) = 0 ∧ Ph n (j + 1) (doW pS [Lop.t0] S 12 0 ((j : Int) + 1)) := by
 obtain ⟨hF, hR⟩ := p.a hj
 obtain ⟨d1, d2, d3⟩ := serve_done hj
 have hm := b.wi.f.m.1
 have e0 : Buf.doneE S.R ((j : Int) + 1) = 0 := by rw [hR]; exact d1
 refine ⟨e0, ?_⟩
 have eF : Flt.doneS S.F 1 = ⟨S.F.most, S.F.last, [⟨1, 3, 0⟩]⟩ := by unfold Flt.doneS; rw [hF]; rfl
 have e1 : doW pS [Lop.t0] S 12 0 ((j : Int) + 1) = onW { S with R := RW n (j + 1), F := ⟨S.F.most, S.F.last, [⟨1, 3, 0⟩]⟩ } := by
  show doneW S ((j : Int) + 1) = _
  unfold doneW
  rw [if_pos e0, hR, d2, d3, eF]
 rw [e1]
 by_cases hl : j + 1 < n
 ·obtain ⟨m, rfl⟩ : ∃ m, n = m + 1 := ⟨n - 1, by omega⟩
  unfold onW
  simp only
  rw [RW_len, on_give hl hm m]
  exact ⟨fun _ => ⟨rfl, rfl⟩, fun h => by omega⟩
 ·obtain rfl : n = j + 1 := by omega
  unfold onW
  simp only
  rw [on_halt (serve_end _)]
  exact ⟨fun h => by omega, fun _ => ⟨rfl, by simp, by simp⟩⟩
theorem Ph.next (p : Ph n j S) (hj : n ≤ j) : Ph n (j + 1) S := ⟨fun h => by omega, fun _ => p.b hj⟩
end
end Wld
namespace Wld
open Go.RowKit Plain Pln Frm Lpp Crn Lop
set_option maxRecDepth 8000

theorem row_mv {α : Type} {K : Rec.Kd α} {w w' : World} {G : Nat} {L : List α} {b b' : Nat → Prop} (h : Rec.RowAt K w (some ⟨G, 0, none⟩) L) (m : Mm.Mv b b' w w') (hb : ¬ b G) : Rec.RowAt K w' (some ⟨G, 0, none⟩) L := by
 intro hl
 obtain ⟨g, e, hg, hc⟩ := h hl
 cases e
 exact ⟨_, rfl, Nat.lt_of_lt_of_le hg m.size, fun i x hm j v hv => (World.cell?_of_block (w := w) (a := ⟨G, _, none⟩) (m.block G hg hb)).trans (hc i x hm j v hv)⟩
theorem row_off {α : Type} {K : Rec.Kd α} {w w' : World} {G : Nat} {L : List α} {b b' : Nat → Prop} (h : Rec.RowAt K w (some ⟨G, 0, none⟩) L) (hl : 0 < L.length) (m : Mm.Mv b b' w w') (hb : ¬ b G) : ¬ b' G := by
 obtain ⟨g, e, hg, _⟩ := h hl
 cases e
 exact m.off hg hb
theorem do_tickS (p : Pd) (ts : List Tr) (S : WS) (h : S.now + 1 ≤ 1099511627776) : doW p ts S 1 0 1 = tick1 p ts S := by
 unfold doW
 rw [if_pos rfl, if_pos (by unfold tickE; rw [if_pos ⟨by omega, h⟩])]
 rfl
theorem start_now (S : WS) (id : Int) : (doW pS [Lop.t0] S 8 0 id).now = S.now := rfl
theorem ready_nowS (S : WS) (id : Int) : (doW pS [Lop.t0] S 9 0 id).now = S.now := by
 show (readyW S id).now = _
 unfold readyW
 split <;> rfl
theorem done_nowS (S : WS) (id : Int) : (doW pS [Lop.t0] S 12 0 id).now = S.now := by
 show (doneW S id).now = _
 unfold doneW
 split <;> rfl
theorem sv_any (id src til fat pod : Int) (w : World) : Calls Tryz.prog 20 #[.agg #[.int .i64 id, .int .i64 src, .int .i64 til, .int .i64 fat, .int .i64 pod]] w fun e w' => e = .returned (.bool (fat != 3)) ∧ Below w.heap.size w w' := by
 go_enter Tryz.func20, Tryz.ntmps20
 go_wp2
 go_ret
 exact ⟨rfl, (Below.refl _ _).alloc (Nat.le_refl _) _⟩
def IsR (R : List Buf.Rq) (w : World) (i : Value) (wr : World) : Prop := ∃ j : Nat, j ≤ R.length ∧ i = .int .i64 j ∧ Below w.heap.size w wr
set_option maxHeartbeats 4000000 in
theorem isf_any (R : List Buf.Rq) (G : Nat) (w : World) (hR : Rec.RowAt Buf.rK w (some ⟨G, 0, none⟩) R) (hl : R.length ≤ 200) (h3 : ∀ r ∈ R, r.fat = 3) :
  Calls Tryz.prog 34 #[.slice (some ⟨G, 0, none⟩) R.length R.length, .func (.func 20) #[] #[]] w fun e w' => e = .returned (.int .i64 (-1)) ∧ Below w.heap.size w w' := by
 have HA : Hid (Rec.RowAt Buf.rK w (some ⟨G, 0, none⟩) R) := hR
 clear hR
 go_enter Tryz.func34, Tryz.ntmps34
 go_wp2_with fail
 go_loopw [8] (fun i wr => IsR R w i wr) (fun i _ => R.length - (intOf i).toNat)
 case atStart => exact ⟨0, by omega, rfl, Below.refl _ _⟩
 case round =>
  obtain ⟨j, hj, rfl, hbr⟩ := hrel
  have HBr : Hid (Below w.heap.size w wr) := hbr
  by_cases hlt : j < R.length
  ·have hlt' : (j : Int) < (R.length : Int) := by omega
   obtain ⟨r, hr⟩ : ∃ r, R[j]? = some r := ⟨_, List.getElem?_eq_getElem hlt⟩
   obtain ⟨g5, e5, hg5, hc5⟩ := Buf.row_req (HA.out.below hbr) (by omega)
   cases e5
   obtain ⟨d0, d1, d2, d3, d4⟩ := hc5 j r hr
   have cP := sv_any r.id r.src r.til r.fat r.pod
   rw [show (r.fat != 3) = false by simp [h3 r (List.mem_of_getElem? hr)]] at cP
   clear hc5 hr hbr
   go_wp2_with (go_at_call 20; (with_reducible refine (cP _).mono ?_); rintro e w2 ⟨rfl, hb2⟩; have HB2 : Hid (Below w.heap.size w w2) := HBr.out.trans (hb2.mono HBr.out.size))
   go_roundw
   case rel => exact ⟨j + 1, hlt, rfl, HB2.out⟩
   case measure => simp [intOf]; omega
  ·obtain rfl : j = R.length := by omega
   go_wp2
   go_ret
   exact ⟨rfl, HBr.out⟩
set_option maxHeartbeats 2000000 in
theorem csf_any (R : List Buf.Rq) (G : Nat) (w : World) (hR : Rec.RowAt Buf.rK w (some ⟨G, 0, none⟩) R) (hl : R.length ≤ 200) (h3 : ∀ r ∈ R, r.fat = 3) :
  Calls Tryz.prog 11 #[.slice (some ⟨G, 0, none⟩) R.length R.length, .func (.func 20) #[] #[]] w fun e w' => e = .returned (.bool false) ∧ Below w.heap.size w w' := by
 have cI := isf_any R G w hR hl h3
 clear hR h3
 go_enter Tryz.func11, Tryz.ntmps11
 go_wp2_with (go_at_call 34; (with_reducible refine cI.mono ?_); rintro e w2 ⟨rfl, hb2⟩)
 go_ret
 exact ⟨rfl, hb2⟩
def nxV (N j : Nat) : Int := ((min j N : Nat) : Int) + 1
theorem nxV_zero (N : Nat) : nxV N 0 = 1 := by simp [nxV]
theorem nxV_lt {N j : Nat} (h : j ≤ N) : nxV N j = (j : Int) + 1 := by unfold nxV; rw [Nat.min_eq_left h]
def S1R (w : World) (B D N : Nat) (i : Value) (wr : World) : Prop :=
 ∃ (j : Nat) (c : Pc) (S : WS), j ≤ N ∧ i = .int .i64 j ∧ WAt wr B c pS [Lop.t0] S ∧ SvI S 0 0 ∧ Ph0 j S ∧ S.now = 0 ∧ c.x.D = D ∧ Below w.heap.size w wr
def HdP (N j : Nat) (S : WS) : Prop := (j = 0 → Ph0 N S) ∧ (1 ≤ j → Ph N j S)
def S2R (w : World) (B D N : Nat) (nx i : Value) (wr : World) : Prop :=
 ∃ (j : Nat) (c : Pc) (S : WS), j ≤ N + 5 ∧ nx = .int .i64 (nxV N j) ∧ i = .int .i64 j ∧ WAt wr B c pS [Lop.t0] S ∧ SvI S 0 j ∧ HdP N j S ∧ S.now = j ∧ c.x.D = D ∧ Below w.heap.size w wr
def MdP (N j q : Nat) (S : WS) : Prop := (j = 0 ∧ q = 0 → Ph1 N S) ∧ (¬ (j = 0 ∧ q = 0) → Ph N j S)
def S3R (w : World) (B D G N j : Nat) (L : List Flt.Pd) (i : Value) (wr : World) : Prop :=
 ∃ (q : Nat) (c : Pc) (S : WS), q ≤ L.length ∧ i = .int .i64 q ∧ WAt wr B c pS [Lop.t0] S ∧ SvI S 0 (j + 1) ∧ MdP N j q S ∧ S.now = ((j + 1 : Nat) : Int) ∧ Rec.RowAt Flt.pK wr (some ⟨G, 0, none⟩) L ∧ (0 < L.length → ¬ bk c [Lop.t0] G) ∧ c.x.D = D ∧ Below w.heap.size w wr
def dnS (N j q : Nat) : Nat := if j < N ∧ j < q then j + 1 else j
def S4R (w : World) (B D G N j : Nat) (L : List Buf.Rq) (nx i : Value) (wr : World) : Prop :=
 ∃ (q : Nat) (c : Pc) (S : WS), q ≤ L.length ∧ nx = .int .i64 (nxV N (dnS N j q)) ∧ i = .int .i64 q ∧ WAt wr B c pS [Lop.t0] S ∧ SvI S 0 (j + 1) ∧ Ph N (dnS N j q) S ∧ S.now = ((j + 1 : Nat) : Int) ∧ Rec.RowAt Buf.rK wr (some ⟨G, 0, none⟩) L ∧ (0 < L.length → ¬ bk c [Lop.t0] G) ∧ c.x.D = D ∧ Below w.heap.size w wr
theorem doV {w0 : World} (B D : Nat) (c : Pc) (S : WS) (h k : Nat) (x a n : Int) (w : World) (hA : WAt w B c pS [Lop.t0] S) (hI : WI [Lop.t0] S h k) (hh : h ≤ 1000) (hk : k ≤ 100000) (hD : c.x.D = D) (hB : w0.heap.size ≤ B) (hb : Below w0.heap.size w0 w) :
  Calls Tryz.prog 15 #[.pointer (some ⟨D, 0, none⟩), .agg #[.int .i64 x, .int .i64 a, .int .i64 n]] w fun e w' => e = .returned (.int .i64 (doE S x a n)) ∧ ∃ c', WAt w' B c' pS [Lop.t0] (doW pS [Lop.t0] S x a n) ∧ c'.x.D = D ∧ Mm.Mv (bk c [Lop.t0]) (bk c' [Lop.t0]) w w' ∧ Below w0.heap.size w0 w' := by
 have c9 := do_any B c pS [Lop.t0] S h k x a n w hA hI hh hk r0_ok r0_U
 rw [hD] at c9
 refine c9.mono ?_
 rintro e w' ⟨rfl, c', a', d', m'⟩
 exact ⟨rfl, c', a', d'.trans hD, m', hb.trans (m'.below (fun k hk => Nat.le_trans hB (hA.low hk).1) hb.size)⟩
set_option maxHeartbeats 16000000 in
theorem ts_any (many most : Int) (w : World) (hB : Lai.BdsAt w) :
  Calls Tryz.prog 4 #[.int .i64 many, .int .i64 most] w fun e w' => e = .returned (.bool true) ∧ Below w.heap.size w w' := by
 have cW := said_any w hB
 have HB : Hid (Lai.BdsAt w) := hB
 have hk0 : 0 ≤ many % 20 ∧ many % 20 < 20 := by omega
 clear hB
 go_enter Tryz.func4, Tryz.ntmps4
 go_wp2_with (first
  | (go_at_call 7; (with_reducible refine cW.mono ?_); rintro e w1 ⟨rfl, hb1⟩; clear cW)
  | (go_at_call 17; have cR := Rsw.rest_any many 20 w1 (by omega) (by omega); (with_reducible refine cR.mono ?_); rintro e w' ⟨rfl, h9⟩; have h8 := h9.symm; clear h9; subst h8; clear cR; obtain ⟨t, ht⟩ : ∃ t : Nat, many % 20 = (t : Int) := ⟨(many % 20).toNat, by omega⟩; rw [ht] at hk0 ⊢; clear ht)
  | (go_at_call 18; have cM := some_any w1; (with_reducible refine cM.mono ?_); rintro e w2 ⟨b, rfl, hT2, hb, hb2⟩; clear cM; have HB2 : Hid (Below w.heap.size w w2) := hb1.trans (hb2.mono hb1.size); have cN : Calls Tryz.prog 8 #[planV Lop.p0 (.slice (some ⟨b, 0, none⟩) 1 1), .int .i64 1, .int .i64 most, .int .i64 0] w2 (NewWA Lop.p0 [Lop.t0] 1 most 0 w2) := new_yes Lop.p0 (some ⟨b, 0, none⟩) 1 [Lop.t0] 1 most 0 w2 (HB.out.below HB2.out (Nat.le_refl _)) r0_I (by simp [Lop.p0]) hT2 r0_chk (by omega) (by omega); clear hT2 hb hb1 hb2)
  | (go_at_call 8; (with_reducible refine cN.mono ?_); rintro e w3 ⟨c, rfl, hA3, hb3⟩; clear cN))
 obtain ⟨N, hN⟩ : ∃ N : Nat, (t : Int) + 1 = (N : Int) := ⟨t + 1, by omega⟩
 have hN1 : 1 ≤ N ∧ N ≤ 20 := by omega
 rw [hN]
 have HL : Hid (w.heap.size ≤ w2.heap.size) := HB2.out.size
 have hb4 : Below w.heap.size w w3 := HB2.out.trans (hb3.mono HB2.out.size)
 have hA4 : WAt w3 w2.heap.size c pS [Lop.t0] (newW pS [Lop.t0] 1 most 0) := hA3
 have hI4 := SvI.new most
 have hP4 : Ph0 0 (newW pS [Lop.t0] 1 most 0) := ⟨rfl, rfl, rfl, rfl⟩
 clear hb3 hA3 HB2 hk0 hN
 generalize w2.heap.size = B at *
 generalize hD : c.x.D = D at *
 go_loopw [27] (fun i wr => S1R w B D N i wr) (fun i _ => N - (intOf i).toNat)
 case atStart => exact ⟨0, c, _, by omega, rfl, hA4, hI4, hP4, rfl, hD, hb4⟩
 case round =>
  clear hb4 hA4 hI4 hP4 hD c
  obtain ⟨j, c1, S, hj, rfl, hA, hI, hP, hnow, hD1, hbr⟩ := hrel
  by_cases hlt : j < N
  ·have hlt' : (j : Int) < (N : Int) := by omega
   obtain ⟨e1, e2, e3⟩ := hP.ask (by omega) hnow
   have hI2 := hI.ask 2 1000
   have cD := doV (w0 := w) B D c1 S 0 0 11 2 1000 wr hA hI.wi (by omega) (by omega) hD1 HL.out hbr
   rw [show doE S 11 2 1000 = Buf.askE S.R S.now 2 1000 from rfl, e1] at cD
   clear hA hbr hI hP hnow
   go_wp2_with (go_at_call 15; (with_reducible refine cD.mono ?_); rintro e w4 ⟨rfl, c4, a4, d4, m4, b4⟩; clear cD; have HX : Hid (WAt w4 B c4 pS [Lop.t0] (doW pS [Lop.t0] S 11 2 1000) ∧ c4.x.D = D ∧ Below w.heap.size w w4) := ⟨a4, d4, b4⟩; clear a4 d4 m4 b4)
   go_roundw
   case rel => exact ⟨j + 1, c4, _, hlt, rfl, HX.out.1, hI2, e2, e3, HX.out.2.1, HX.out.2.2⟩
   case measure => simp [intOf]; omega
  ·obtain rfl : j = N := by omega
   have hI2 : SvI S 0 0 := hI
   go_wp2_with fail
   go_loopw [8, 36] (fun nx i wr => S2R w B D j nx i wr) (fun _ i _ => j + 5 - (intOf i).toNat)
   case atStart => exact ⟨0, c1, S, by omega, by rw [nxV_zero], rfl, hA, hI2, ⟨fun _ => hP, fun h => by omega⟩, hnow, hD1, hbr⟩
   case round =>
    obtain ⟨N, rfl⟩ : ∃ N, N = j := ⟨_, rfl⟩
    clear hA hI hP hnow hD1 hbr hI2 hj hlt c1 S
    obtain ⟨j, c1, S, hj, rfl, rfl, hA, hI, hH, hnow, hD1, hbr⟩ := hrel
    by_cases hlt : j < N + 5
    ·have hlt' : (j : Int) < (N : Int) + 5 := by omega
     have hnb : S.now + 1 ≤ 1099511627776 := by omega
     have hI1 := hI.tick hnb
     have hn1 : (tick1 pS [Lop.t0] S).now = ((j + 1 : Nat) : Int) := by rw [tick1_now, hnow]; omega
     have hM1 : MdP N j 0 (tick1 pS [Lop.t0] S) := by
      refine ⟨fun h => ?_, fun h => ?_⟩
      ·exact (hH.1 h.1).tick hI hN1.1 (by omega)
      ·exact (hH.2 (by omega)).tick hI (by omega)
     have hL1 : (j < N → ∀ x ∈ (tick1 pS [Lop.t0] S).F.L, x.id = 1) ∧ (tick1 pS [Lop.t0] S).F.L.length ≤ 1 ∧ (j = 0 → (tick1 pS [Lop.t0] S).F.L.length = 1) := by
      by_cases h0 : j = 0
      ·have h9 := (hM1.1 ⟨h0, rfl⟩).f
       rw [h9]
       exact ⟨fun _ x hx => by simp at hx; subst hx; rfl, by simp, fun _ => rfl⟩
      ·have h9 := hM1.2 (fun h => h0 h.1)
       by_cases h1 : j < N
       ·rw [(h9.a h1).1]
        exact ⟨fun _ x hx => by simp at hx; subst hx; rfl, by simp, fun h => absurd h h0⟩
       ·exact ⟨fun h => absurd h h1, (h9.b (by omega)).2.1, fun h => absurd h h0⟩
     have HA : Hid (WAt wr B c1 pS [Lop.t0] S ∧ Below w.heap.size w wr) := ⟨hA, hbr⟩
     have HD : Hid (∀ w7, Below wr.heap.size wr w7 → Calls Tryz.prog 15 #[.pointer (some ⟨D, 0, none⟩), .agg #[.int .i64 1, .int .i64 0, .int .i64 1]] w7 fun e w' => ∃ E, e = .returned (.int .i64 E) ∧ ∃ c', WAt w' B c' pS [Lop.t0] (tick1 pS [Lop.t0] S) ∧ c'.x.D = D ∧ Below w.heap.size w w') := fun w7 hb7 => by
      have c9 := doV (w0 := w) B D c1 S 0 j 1 0 1 w7 (HA.out.1.below hb7) hI.wi (by omega) (by omega) hD1 HL.out (HA.out.2.trans (hb7.mono HA.out.2.size))
      rw [do_tickS _ _ _ hnb] at c9
      refine c9.mono ?_
      rintro e w' ⟨rfl, c', a', d', _, b'⟩
      exact ⟨_, rfl, c', a', d', b'⟩
     generalize tick1 pS [Lop.t0] S = S1 at *
     have cT := tickf_any 1 wr
     clear hA hbr hI hH hnow
     go_wp2_with (first
      | (go_at_call 16; (with_reducible refine cT.mono ?_); rintro e w7 ⟨rfl, hb7⟩; clear cT)
      | (go_at_call 15; (with_reducible refine (HD.out w7 hb7).mono ?_); rintro e w8 ⟨E9, rfl, c4, a4, d4, b4⟩; have HX4 : Hid (WAt w8 B c4 pS [Lop.t0] S1 ∧ c4.x.D = D ∧ Below w.heap.size w w8) := ⟨a4, d4, b4⟩; clear a4 d4 b4)
      | (go_at_call 19; have cX := pods_any B c4 pS [Lop.t0] S1 w8 HX4.out.1 (by omega); rw [HX4.out.2.1] at cX; (with_reducible refine cX.mono ?_); rintro e w9 ⟨rfl, hR9, hb9⟩; clear cX))
     have hA9 := HX4.out.1.below hb9
     have hb10 : Below w.heap.size w w9 := HX4.out.2.2.trans (hb9.mono HX4.out.2.2.size)
     have hD9 := HX4.out.2.1
     have hG9 : ¬ bk c4 [Lop.t0] w8.heap.size := fun e => by have := (HX4.out.1.low e).2; omega
     obtain ⟨L1, hLL⟩ : ∃ L1, L1 = S1.F.L := ⟨_, rfl⟩
     rw [← hLL] at hL1 hR9 ⊢
     clear HX4 hb9 HD HA hb7 hLL
     generalize w8.heap.size = G1 at *
     go_loopw [44] (fun i wr => S3R w B D G1 N j L1 i wr) (fun i _ => L1.length - (intOf i).toNat)
     case atStart => exact ⟨0, c4, S1, by omega, rfl, hA9, hI1, hM1, hn1, hR9, fun _ => hG9, hD9, hb10⟩
     case round =>
      clear hA9 hI1 hM1 hn1 hR9 hG9 hD9 hb10 c4 S1
      obtain ⟨q, c2, S2, hq, rfl, hA, hI, hM, hnow, hR, hG, hD2, hbr⟩ := hrel
      by_cases hlq : q < L1.length
      ·have hlq' : (q : Int) < (L1.length : Int) := by omega
       obtain ⟨x, hx⟩ : ∃ x, L1[q]? = some x := ⟨_, List.getElem?_eq_getElem hlq⟩
       have hxi : j < N → x.id = 1 := fun h => hL1.1 h x (List.mem_of_getElem? hx)
       obtain ⟨g5, e5, hg5, hc5⟩ := Flt.row_pod hR (by omega)
       cases e5
       obtain ⟨d0, d1, d2⟩ := hc5 q x hx
       obtain ⟨W1, hW1⟩ : ∃ W1, W1 = wr.alloc (.cells #[.int .i64 x.id, .int .i64 x.st, .int .i64 x.ld] 59) := ⟨_, rfl⟩
       have bW1 : Below wr.heap.size wr W1 := by rw [hW1]; exact (Below.refl _ _).alloc (Nat.le_refl _) _
       have q0 : W1.cell? ⟨wr.heap.size, 0, none⟩ = some (.int .i64 x.id) := by rw [hW1]; simp
       have hQ : ¬ bk c2 [Lop.t0] wr.heap.size := fun e => by have := (hA.low e).2; omega
       have HW1 : Hid (W1 = wr.alloc (.cells #[.int .i64 x.id, .int .i64 x.st, .int .i64 x.ld] 59)) := hW1
       have hI2 := hI.start x.id
       have hI3 := hI2.ready x.id
       have hn3 : (doW pS [Lop.t0] (doW pS [Lop.t0] S2 8 0 x.id) 9 0 x.id).now = ((j + 1 : Nat) : Int) := by rw [ready_nowS, start_now]; exact hnow
       have hM3 : MdP N j (q + 1) (doW pS [Lop.t0] (doW pS [Lop.t0] S2 8 0 x.id) 9 0 x.id) := by
        refine ⟨fun h => by omega, fun _ => ?_⟩
        by_cases h0 : j = 0 ∧ q = 0
        ·have h9 := hM.1 h0
         rw [hxi (by omega), h0.1]
         exact h9.pod hI hN1.1
        ·exact (hM.2 h0).pod x.id hxi
       have cD1 := doV (w0 := w) B D c2 S2 0 (j + 1) 8 0 x.id W1 (hA.below bW1) hI.wi (by omega) (by omega) hD2 HL.out (hbr.trans (bW1.mono hbr.size))
       have HR1 : Hid (Rec.RowAt Flt.pK W1 (some ⟨G1, 0, none⟩) L1 ∧ ¬ bk c2 [Lop.t0] G1 ∧ ¬ bk c2 [Lop.t0] wr.heap.size ∧ wr.heap.size < W1.heap.size) := ⟨hR.below bW1, hG (by omega), hQ, World.block_lt_of_cell? W1 _ q0⟩
       clear hW1 hc5 bW1 hx hA hR hG hbr hQ hI hM hnow hD2
       go_upto_region 19 with fail
       rw [← HW1.out]
       clear HW1 d0 d1 d2 hg5
       generalize wr.heap.size = Q at *
       go_upto_region 20 with (go_at_call 15; (with_reducible refine cD1.mono ?_); rintro e w4 ⟨rfl, c4, a4, d4, m4, b4⟩; clear cD1; have q1 := (World.cell?_of_block (w := W1) (a := ⟨Q, 0, none⟩) (m4.block Q HR1.out.2.2.2 HR1.out.2.2.1)).trans q0; have HX : Hid (WAt w4 B c4 pS [Lop.t0] (doW pS [Lop.t0] S2 8 0 x.id) ∧ c4.x.D = D ∧ Below w.heap.size w w4 ∧ Rec.RowAt Flt.pK w4 (some ⟨G1, 0, none⟩) L1 ∧ ¬ bk c4 [Lop.t0] G1) := ⟨a4, d4, b4, row_mv HR1.out.1 m4 HR1.out.2.1, row_off HR1.out.1 (by omega) m4 HR1.out.2.1⟩; clear a4 d4 m4 b4 q0)
       have cD2 := doV (w0 := w) B D c4 (doW pS [Lop.t0] S2 8 0 x.id) 0 (j + 1) 9 0 x.id w4 HX.out.1 hI2.wi (by omega) (by omega) HX.out.2.1 HL.out HX.out.2.2.1
       go_wp2_with (go_at_call 15; (with_reducible refine cD2.mono ?_); rintro e w5 ⟨rfl, c5, a5, d5, m5, b5⟩; clear cD2; have HX5 : Hid (WAt w5 B c5 pS [Lop.t0] (doW pS [Lop.t0] (doW pS [Lop.t0] S2 8 0 x.id) 9 0 x.id) ∧ c5.x.D = D ∧ Below w.heap.size w w5 ∧ Rec.RowAt Flt.pK w5 (some ⟨G1, 0, none⟩) L1 ∧ ¬ bk c5 [Lop.t0] G1) := ⟨a5, d5, b5, row_mv HX.out.2.2.2.1 m5 HX.out.2.2.2.2, row_off HX.out.2.2.2.1 (by omega) m5 HX.out.2.2.2.2⟩; clear a5 d5 m5 b5)
       go_roundw
       case rel => exact ⟨q + 1, c5, _, hlq, rfl, HX5.out.1, hI3, hM3, hn3, HX5.out.2.2.2.1, fun _ => HX5.out.2.2.2.2, HX5.out.2.1, HX5.out.2.2.1⟩
       case measure => simp [intOf]; omega
      ·obtain rfl : q = L1.length := by omega
       have hPh : Ph N j S2 := hM.2 (fun h => by have := hL1.2.2 h.1; omega)
       have hlR : S2.R.length ≤ 200 := hI.wi.r.len
       have HA : Hid (WAt wr B c2 pS [Lop.t0] S2 ∧ Below w.heap.size w wr) := ⟨hA, hbr⟩
       have cX := requests_any B c2 pS [Lop.t0] S2 wr hA hlR
       rw [hD2] at cX
       clear hA hbr hR hG hM
       go_wp2_with (go_at_call 12; (with_reducible refine cX.mono ?_); rintro e w5 ⟨G, rfl, hG, hR5, hb5⟩; clear cX)
       have hA5 := HA.out.1.below hb5
       have hb6 : Below w.heap.size w w5 := HA.out.2.trans (hb5.mono HA.out.2.size)
       have hG5 : ¬ bk c2 [Lop.t0] G := fun e => by have := (HA.out.1.low e).2; omega
       have hLr : (j < N → S2.R = RS N j) ∧ (N ≤ j → S2.R = RW N N) := ⟨fun h => (hPh.a h).2, fun h => (hPh.b h).1⟩
       have hLn : S2.R.length = N := by
        by_cases h1 : j < N
        ·rw [hLr.1 h1, RS_len]
        ·rw [hLr.2 (by omega), RW_len]
       obtain ⟨L2, hL2⟩ : ∃ L2, L2 = S2.R := ⟨_, rfl⟩
       rw [← hL2] at hLr hLn hR5 hlR ⊢
       have hLn2 : L2.length ≤ N ∧ N ≤ L2.length := by omega
       clear hLn
       have HLr : Hid ((j < N → L2 = RS N j) ∧ (N ≤ j → L2 = RW N N)) := hLr
       clear hLr
       have hPd : Ph N (dnS N j 0) S2 := by unfold dnS; rw [if_neg (by omega)]; exact hPh
       have hnx : nxV N j = nxV N (dnS N j 0) := by unfold dnS; rw [if_neg (by omega)]
       rw [hnx]
       clear HA hb5 hG hL2 hPh hnx
       go_loopw [8, 62] (fun nx i wr => S4R w B D G N j L2 nx i wr) (fun _ i _ => L2.length - (intOf i).toNat)
       case atStart => exact ⟨0, c2, S2, by omega, rfl, rfl, hA5, hI, hPd, hnow, hR5, fun _ => hG5, hD2, hb6⟩
       case round =>
        clear hA5 hI hPd hnow hR5 hG5 hD2 hb6 c2 S2
        obtain ⟨q, c2, S2, hq, rfl, rfl, hA, hI, hPd, hnow, hR, hG, hD2, hbr⟩ := hrel
        by_cases hlq : q < L2.length
        ·have hlq' : (q : Int) < (L2.length : Int) := by omega
         obtain ⟨r, hr⟩ : ∃ r, L2[q]? = some r := ⟨_, List.getElem?_eq_getElem hlq⟩
         have hrf : (j < N ∧ q = j ∧ r = ⟨(j : Int) + 1, 2, 1000, 2, 1⟩) ∨ (¬ (j < N ∧ q = j) ∧ r.fat ≠ 2) := by
          by_cases h1 : j < N
          ·rw [HLr.out.1 h1, RS_get (by omega)] at hr
           cases hr
           by_cases h2 : q = j
           ·subst h2
            exact Or.inl ⟨h1, rfl, by unfold rqS; simp⟩
           ·refine Or.inr ⟨fun h => h2 h.2, ?_⟩
            unfold rqS
            split
            ·show (3 : Int) ≠ 2; decide
            ·(try rw [if_neg h2])
             show (1 : Int) ≠ 2
             decide
          ·rw [HLr.out.2 (by omega), RW_get (by omega)] at hr
           cases hr
           refine Or.inr ⟨fun h => h1 h.1, ?_⟩
           unfold rqW
           split
           ·show (3 : Int) ≠ 2; decide
           ·show (1 : Int) ≠ 2; decide
         obtain ⟨g5, e5, hg5, hc5⟩ := Buf.row_req hR (by omega)
         cases e5
         obtain ⟨d0, d1, d2, d3, d4⟩ := hc5 q r hr
         obtain ⟨W1, hW1⟩ : ∃ W1, W1 = wr.alloc (.cells #[.int .i64 r.id, .int .i64 r.src, .int .i64 r.til, .int .i64 r.fat, .int .i64 r.pod] 41) := ⟨_, rfl⟩
         have bW1 : Below wr.heap.size wr W1 := by rw [hW1]; exact (Below.refl _ _).alloc (Nat.le_refl _) _
         have q0 : W1.cell? ⟨wr.heap.size, 0, none⟩ = some (.int .i64 r.id) := by rw [hW1]; simp
         have q3 : W1.cell? ⟨wr.heap.size, 3, none⟩ = some (.int .i64 r.fat) := by rw [hW1]; simp
         have HW1 : Hid (W1 = wr.alloc (.cells #[.int .i64 r.id, .int .i64 r.src, .int .i64 r.til, .int .i64 r.fat, .int .i64 r.pod] 41)) := hW1
         have HR1 : Hid (WAt W1 B c2 pS [Lop.t0] S2 ∧ Rec.RowAt Buf.rK W1 (some ⟨G, 0, none⟩) L2 ∧ ¬ bk c2 [Lop.t0] G ∧ Below w.heap.size w W1) := ⟨hA.below bW1, hR.below bW1, hG (by omega), hbr.trans (bW1.mono hbr.size)⟩
         clear hW1 hc5 bW1 hr hA hR hG hbr
         go_upto_if 68 with fail
         rw [← HW1.out]
         clear HW1 d0 d1 d2 d3 d4 hg5
         generalize wr.heap.size = Q at *
         rcases hrf with ⟨h1, h2, h3⟩ | ⟨h1, h2⟩
         ·subst h2
          subst h3
          have e1 : dnS N q q = q := by unfold dnS; rw [if_neg (by omega)]
          have e2 : dnS N q (q + 1) = q + 1 := by unfold dnS; rw [if_pos (by omega)]
          rw [e1] at hPd ⊢
          obtain ⟨f1, f2⟩ := hPd.done hI h1
          have hI2 := hI.done ((q : Int) + 1)
          have hn2 : (doW pS [Lop.t0] S2 12 0 ((q : Int) + 1)).now = ((q + 1 : Nat) : Int) := by rw [done_nowS]; exact hnow
          have hnx : nxV N q = (q : Int) + 1 := nxV_lt (by omega)
          rw [hnx]
          have cD := doV (w0 := w) B D c2 S2 0 (q + 1) 12 0 ((q : Int) + 1) W1 HR1.out.1 hI.wi (by omega) (by omega) hD2 HL.out HR1.out.2.2.2
          rw [show doE S2 12 0 ((q : Int) + 1) = Buf.doneE S2.R ((q : Int) + 1) from rfl, f1] at cD
          have hne : ((q : Int) + 1 != (q : Int) + 1) = false := by simp
          simp only at q0 q3
          clear hI hPd hnow f1
          go_wp2_with (go_at_call 15; (with_reducible refine cD.mono ?_); rintro e w5 ⟨rfl, c5, a5, d5, m5, b5⟩; clear cD; have HX5 : Hid (WAt w5 B c5 pS [Lop.t0] (doW pS [Lop.t0] S2 12 0 ((q : Int) + 1)) ∧ c5.x.D = D ∧ Below w.heap.size w w5 ∧ Rec.RowAt Buf.rK w5 (some ⟨G, 0, none⟩) L2 ∧ ¬ bk c5 [Lop.t0] G) := ⟨a5, d5, b5, row_mv HR1.out.2.1 m5 HR1.out.2.2.1, row_off HR1.out.2.1 (by omega) m5 HR1.out.2.2.1⟩; clear a5 d5 m5 b5)
          have HE : Hid (S4R w B D G N q L2 (.int .i64 ((q : Int) + 1 + 1)) (.int .i64 ((q : Int) + 1)) w5) := ⟨q + 1, c5, _, hlq, by rw [e2, nxV_lt (by omega)]; rfl, rfl, HX5.out.1, hI2, by rw [e2]; exact f2, hn2, HX5.out.2.2.2.1, fun _ => HX5.out.2.2.2.2, HX5.out.2.1, HX5.out.2.2.1⟩
          go_roundw
          case rel => repeat' first | exact HE.out | exact rfl | apply And.intro | apply Exists.intro
          case measure => simp [intOf]; omega
         ·have hf2 : (r.fat == 2) = false := by rw [beq_eq_false_iff_ne]; exact h2
          have e2 : dnS N j (q + 1) = dnS N j q := by
           unfold dnS
           by_cases h3 : j < N ∧ j < q
           ·rw [if_pos h3, if_pos (by omega)]
           ·rw [if_neg h3, if_neg (by omega)]
          go_wp2
          go_roundw
          case rel => exact ⟨q + 1, c2, S2, hlq, by rw [e2], rfl, HR1.out.1, hI, by rw [e2]; exact hPd, hnow, HR1.out.2.1, fun _ => HR1.out.2.2.1, hD2, HR1.out.2.2.2⟩
          case measure => simp [intOf]; omega
        ·obtain rfl : q = N := by omega
         have hPn : Ph q (j + 1) S2 := by
          by_cases h1 : j < q
          ·have e : dnS q j q = j + 1 := by unfold dnS; rw [if_pos ⟨h1, h1⟩]
           rw [e] at hPd; exact hPd
          ·have e : dnS q j q = j := by unfold dnS; rw [if_neg (by omega)]
           rw [e] at hPd; exact hPd.next (by omega)
         have hnx : nxV q (dnS q j q) = nxV q (j + 1) := by
          unfold dnS
          by_cases h1 : j < q
          ·rw [if_pos ⟨h1, h1⟩]
          ·rw [if_neg (by omega)]; unfold nxV; omega
         rw [hnx]
         have HE : Hid (S2R w B D q (.int .i64 (nxV q (j + 1))) (.int .i64 ((j + 1 : Nat) : Int)) wr) := ⟨j + 1, c2, S2, hlt, rfl, rfl, hA, hI, ⟨fun h => by omega, fun _ => hPn⟩, hnow, hD2, hbr⟩
         clear hA hR hG hbr hPd
         go_wp2
         go_roundw
         case rel => exact HE.out
         case measure => simp [intOf]; omega
    ·obtain rfl : j = N + 5 := by omega
     have hPe := ((hH.2 (by omega)).b (by omega)).1
     have h3 : ∀ r ∈ S.R, r.fat = 3 := fun r hr => by
      rw [hPe] at hr
      obtain ⟨i, hi, rfl⟩ := RW_mem hr
      unfold rqW
      rw [if_pos hi]
     have hlR : S.R.length ≤ 200 := hI.wi.r.len
     have HA : Hid (WAt wr B c1 pS [Lop.t0] S ∧ Below w.heap.size w wr) := ⟨hA, hbr⟩
     have cX := requests_any B c1 pS [Lop.t0] S wr hA hlR
     rw [hD1] at cX
     have hmf : ∀ (fn : Fn) (first cap : Array Value) (w : World), (Instr.makeFunc fn first cap).run Tryz.prog w = .ok (.func fn first cap) w := fun _ _ _ _ => rfl
     clear hA hbr hI hH hPe
     go_wp2_with (first
      | (go_at_call 12; (with_reducible refine cX.mono ?_); rintro e w5 ⟨G, rfl, hG, hR5, hb5⟩; clear cX; have cC := csf_any S.R G w5 hR5 hlR h3)
      | (go_at_call 11; (with_reducible refine cC.mono ?_); rintro e w6 ⟨rfl, hb6⟩; clear cC))
     go_ret
     have hb7 := hb5.trans (hb6.mono hb5.size)
     exact ⟨rfl, HA.out.2.trans (hb7.mono HA.out.2.size)⟩
end Wld
end Go.Proofs.YtkmdndhjobckiajGreatDoor
