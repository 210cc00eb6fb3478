/- Some happenings, one behind the other. Without a pause: never out of bounds. Is a pause among happenings? What stands at the head of the laws of the whole: some, tick, said. Without a pause there are never more pods than Max, but those that go. -/
import Derived.Test.YtfmahbjidljhmaiGreatDoorPkWldHand
import Derived.Test.YtfmahbjidljhmaiGreatDoorPkLopPlan
import Derived.Test.YtfmahbjidljhmaiGreatDoorPkFrame
import Derived.Test.YtfmahbjidljhmaiGreatDoorPkTak
import Derived.BigQuiet
import Derived.Deep.RegionHeld
namespace Go.Proofs.YtfmahbjidljhmaiGreatDoor
namespace Wld
open Go.RowKit Plain Pln Frm Lpp Crn Lop
set_option maxRecDepth 8000

/-- the world behind the first j happenings -/
noncomputable def playW (p : Pd) (ts : List Tr) (X : Nat → Nat → Int) (S : WS) : Nat → WS
  | 0 => S
  | j + 1 => doW p ts (playW p ts X S j) (X j 0) (X j 1) (X j 2)
theorem WI.play {p : Pd} {ts : List Tr} {S : WS} (hP : PlOk p ts) (g : WI ts S 0 0) (X : Nat → Nat → Int) : ∀ j, WI ts (playW p ts X S j) j (1000 * j)
  | 0 => g
  | j + 1 => (WI.play hP g X j).do hP _ _ _
end Wld
end Go.Proofs.YtfmahbjidljhmaiGreatDoor
namespace Go.Proofs.YtfmahbjidljhmaiGreatDoor
namespace Wld
open Plain Pln Frm Lpp Crn Lop
set_option maxRecDepth 8000

structure BI (p : Pd) (S : WS) : Prop where
  pa : S.lp.pa < 0
  cn : (Flt.cnt S.F.L : Int) ≤ p.mx
  tg : S.tg ≤ p.mx
  mn : S.lp.lk = true → p.mn ≤ S.tg
  nw : S.lp.lk = false → S.now ≤ 0
section
variable {p : Pd} {ts : List Tr} {S : WS} {h k : Nat}
/-- what is told lies between Min and Max -/
theorem told_in (hP : PlOk p ts) (hpa : S.lp.pa < 0) : p.mn ≤ toldW p ts S ∧ toldW p ts S ≤ p.mx := by
  have := Lop.look_bds (st := S.st) (now := S.now) (hv := (Flt.cnt S.F.L : Int)) (WK := wantW p ts S) (AK := needW p ts S) hP hpa
  unfold toldW
  exact ⟨this.1, this.2.1⟩
/-- the fleet and the requests are others, with no more pods -/
theorem BI.fr (b : BI p S) {F : Flt.FS} {R : List Buf.Rq} (hc : Flt.cnt F.L ≤ Flt.cnt S.F.L) : BI p { S with F := F, R := R } :=
  ⟨b.pa, by have := b.cn; show (Flt.cnt F.L : Int) ≤ _; omega, b.tg, b.mn, b.nw⟩
theorem on_cnt : ∀ (m : Nat) (F : Flt.FS) (R : List Buf.Rq), Flt.cnt (onF m F R).1.L = Flt.cnt F.L
  | 0, _, _ => rfl
  | m + 1, F, R => by
    unfold onF
    split
    · rw [on_cnt m, (give_cnt F).1]
    · rfl
theorem BI.on (b : BI p S) : BI p (onW S) := b.fr (Nat.le_of_eq (on_cnt _ _ _))
theorem BI.look (hP : PlOk p ts) (b : BI p S) : BI p (lookW p ts S) := by
  obtain ⟨h1, h2⟩ := told_in (ts := ts) hP b.pa
  have h3 := hP.mn
  have h4 := hP.mx
  refine ⟨b.pa, ?_, h2, fun _ => h1, fun e => by cases e⟩
  show (Flt.cnt (Flt.scaleF S.F (toldW p ts S)).L : Int) ≤ _
  unfold Flt.scaleF
  rw [if_pos (by omega), Flt.scale_cnt (by omega)]
  exact h2
theorem BI.tick1 (hP : PlOk p ts) (b : BI p S) : BI p (tick1 p ts S) := by
  refine BI.on ?_
  unfold dueW
  split
  · have hb : BI p { lateW S with now := S.now } := ⟨b.pa, b.cn, b.tg, b.mn, b.nw⟩
    have h1 := told_in (p := p) (ts := ts) (S := lateW S) hP b.pa
    have h3 := hP.mn
    have h4 := hP.mx
    refine ⟨b.pa, ?_, h1.2, fun _ => h1.1, fun e => by cases e⟩
    show (Flt.cnt (Flt.scaleF S.F (toldW p ts (lateW S))).L : Int) ≤ _
    unfold Flt.scaleF
    rw [if_pos (by omega), Flt.scale_cnt (by omega)]
    exact h1.2
  · rename_i e
    refine ⟨b.pa, b.cn, b.tg, b.mn, fun e2 => ?_⟩
    refine absurd ?_ e
    show Lop.dueP p S.lp (S.now + 1) = true
    unfold Lop.dueP
    rw [show S.lp.lk = false from e2]
    rfl
theorem BI.ticks (hP : PlOk p ts) : ∀ (m : Nat) {S : WS}, BI p S → BI p (tickW p ts m S)
  | 0, _, b => b
  | m + 1, _, b => BI.ticks hP m (b.tick1 hP)
theorem BI.same (b : BI p S) {S' : WS} (h1 : S'.lp = S.lp) (h2 : S'.tg = S.tg) (h3 : S'.F = S.F) (h4 : S'.now = S.now) : BI p S' :=
  ⟨by rw [h1]; exact b.pa, by rw [h3]; exact b.cn, by rw [h2]; exact b.tg, by rw [h1, h2]; exact b.mn, by rw [h1, h4]; exact b.nw⟩
theorem BI.do (hP : PlOk p ts) (b : BI p S) (x a n : Int) (hx : x ≠ 13) : BI p (doW p ts S x a n) := by
  unfold doW
  by_cases h1 : x = 1
  · rw [if_pos h1]
    split
    · exact b.ticks hP _
    · exact b
  rw [if_neg h1]
  by_cases h2 : x = 2
  · rw [if_pos h2]; unfold makeW; split
    · exact b.same rfl rfl rfl rfl
    · exact b
  rw [if_neg h2]
  by_cases h3 : x = 3
  · rw [if_pos h3]; unfold takeW; split
    · exact b.same rfl rfl rfl rfl
    · exact b
  rw [if_neg h3]
  by_cases h4 : x = 4
  · rw [if_pos h4]; unfold putW; split
    · exact b.same rfl rfl rfl rfl
    · exact b
  rw [if_neg h4]
  by_cases h5 : x = 5
  · rw [if_pos h5]; exact b.same rfl rfl rfl rfl
  rw [if_neg h5]
  by_cases h6 : x = 6
  · rw [if_pos h6]; exact b.same rfl rfl rfl rfl
  rw [if_neg h6]
  by_cases h7 : x = 7
  · rw [if_pos h7]; unfold failW; split
    · exact b.same rfl rfl rfl rfl
    · exact b
  rw [if_neg h7]
  by_cases h8 : x = 8
  · rw [if_pos h8]; exact b.fr (R := S.R) (Nat.le_of_eq (turn_cnt S.F.L n 1 (Or.inl rfl)))
  rw [if_neg h8]
  by_cases h9 : x = 9
  · rw [if_pos h9]; unfold readyW; split
    · exact (b.fr (F := Flt.turnS S.F n 2) (R := S.R) (Nat.le_of_eq (turn_cnt S.F.L n 2 (Or.inr rfl)))).on
    · exact b
  rw [if_neg h9]
  by_cases h10 : x = 10
  · rw [if_pos h10]; unfold crashW; split
    · exact (b.fr (F := Flt.crashS S.F n) (crash_cnt S.F.L n)).on
    · exact b
  rw [if_neg h10]
  by_cases h11 : x = 11
  · rw [if_pos h11]; unfold askW; split
    · exact (b.fr (F := S.F) (Nat.le_refl _)).on
    · exact b
  rw [if_neg h11]
  by_cases h12 : x = 12
  · rw [if_pos h12]; unfold doneW; split
    · exact (b.fr (F := Flt.doneS S.F (Buf.doneN S.R n)) (done_cnt S.F.L _)).on
    · exact b
  rw [if_neg h12, if_neg hx]
  exact b
theorem BI.new (p : Pd) (ts : List Tr) (hP : PlOk p ts) (n : Nat) (most sec : Int) : BI p (newW p ts n most sec) := by
  have h1 := hP.mx
  exact ⟨by simp [newW, Lop.newL], by simp [newW, Flt.cnt]; omega, by show (0 : Int) ≤ _; omega, fun e => (by cases e), fun _ => Int.le_refl _⟩
theorem BI.play (hP : PlOk p ts) (b : BI p S) (X : Nat → Nat → Int) : ∀ j, (∀ i, i < j → X i 0 ≠ 13) → BI p (playW p ts X S j)
  | 0, _ => b
  | j + 1, hx => (BI.play hP b X j (fun i hi => hx i (by omega))).do hP _ _ _ (hx j (by omega))
end
end Wld
end Go.Proofs.YtfmahbjidljhmaiGreatDoor
namespace Go.Proofs.YtfmahbjidljhmaiGreatDoor
namespace Wld
open Go.RowKit Plain Pln Frm Lpp Crn Lop
set_option maxRecDepth 8000

/-- the first pause among the first m happenings -/
def IxP (X : Nat → Nat → Int) (m : Nat) (r : Int) : Prop := (r = -1 ∧ ∀ i, i < m → X i 0 ≠ 13) ∨ (0 ≤ r ∧ ∃ i, i < m ∧ X i 0 = 13)
def IfR (X : Nat → Nat → Int) (m : Nat) (w : World) (i : Value) (wr : World) : Prop := ∃ j : Nat, j ≤ m ∧ i = .int .i64 j ∧ (∀ q, q < j → X q 0 ≠ 13) ∧ Below w.heap.size w wr
theorem pz_any (k a n : Int) (w : World) : Calls Tryz.prog 57 #[.agg #[.int .i64 k, .int .i64 a, .int .i64 n]] w fun e w' => e = .returned (.bool (k == 13)) ∧ Below w.heap.size w w' := by
  go_enter Tryz.func57, Tryz.ntmps57
  go_wp2
  go_ret
  exact ⟨rfl, (Below.refl _ _).alloc (Nat.le_refl _) _⟩
set_option maxHeartbeats 4000000 in
theorem ixf_any (ao : Option Addr) (m cap : Nat) (X : Nat → Nat → Int) (w : World) (hH : Frm.RowsIn w ao m 3 X) (hm : m ≤ 1000000) :
    Calls Tryz.prog 80 #[.slice ao m cap, .func (.func 57) #[] #[]] w fun e w' => ∃ r, e = .returned (.int .i64 r) ∧ IxP X m r ∧ Below w.heap.size w w' := by
  have HH : Hid (Frm.RowsIn w ao m 3 X) := hH
  clear hH
  go_enter Tryz.func80, Tryz.ntmps80
  go_wp2_with fail
  go_loopw [8] (fun i wr => IfR X m w i wr) (fun i _ => m - (intOf i).toNat)
  case atStart => exact ⟨0, by omega, rfl, fun q hq => absurd hq (by omega), Below.refl _ _⟩
  case round =>
    obtain ⟨j, hj, rfl, hno, hbr⟩ := hrel
    have HNo : Hid (∀ q, q < j → X q 0 ≠ 13) := hno
    have HBr : Hid (Below w.heap.size w wr) := hbr
    by_cases hlt : j < m
    · have hlt' : (j : Int) < (m : Int) := by omega
      obtain ⟨g, off, rfl, hgl, hcx⟩ := (Frm.RowsIn.below HH.out hbr (Nat.le_refl _)) j hlt
      have x0 := (hcx 0 (by omega)).1
      have x1 := (hcx 1 (by omega)).1
      have x2 := (hcx 2 (by omega)).1
      simp only [Nat.add_zero] at x0
      rw [← Nat.add_assoc] at x1 x2
      clear hcx hno hbr
      have cP := pz_any (X j 0) (X j 1) (X j 2)
      by_cases h13 : X j 0 = 13
      · have e13 : (X j 0 == 13) = true := by simp [h13]
        have H13 : Hid (X j 0 = 13) := h13
        rw [e13] at cP
        clear h13 e13
        go_wp2_with (go_at_call 57; (with_reducible refine (cP _).mono ?_); rintro e w2 ⟨rfl, hb2⟩)
        go_ret
        exact ⟨_, rfl, Or.inr ⟨by omega, j, hlt, H13.out⟩, HBr.out.trans (hb2.mono HBr.out.size)⟩
      · have e13 : (X j 0 == 13) = false := by simp [h13]
        have H13 : Hid (X j 0 ≠ 13) := h13
        rw [e13] at cP
        clear h13 e13
        go_wp2_with (go_at_call 57; (with_reducible refine (cP _).mono ?_); rintro e w2 ⟨rfl, hb2⟩)
        go_roundw
        case rel =>
          refine ⟨j + 1, hlt, rfl, fun q hq => ?_, HBr.out.trans (hb2.mono HBr.out.size)⟩
          by_cases e : q = j
          · rw [e]; exact H13.out
          · exact HNo.out q (by omega)
        case measure => simp [intOf]; omega
    · obtain rfl : j = m := by omega
      go_wp2
      go_ret
      exact ⟨-1, rfl, Or.inl ⟨rfl, HNo.out⟩, HBr.out⟩
/-- what paused answers -/
def PzB (X : Nat → Nat → Int) (m : Nat) (b : Bool) : Prop := b = false → ∀ i, i < m → X i 0 ≠ 13
def PzA (X : Nat → Nat → Int) (m : Nat) (w : World) (e : Ending) (w' : World) : Prop := ∃ b : Bool, e = .returned (.bool b) ∧ PzB X m b ∧ Below w.heap.size w w'
set_option maxHeartbeats 2000000 in
theorem cfh_any (ao : Option Addr) (m cap : Nat) (X : Nat → Nat → Int) (w : World) (hH : Frm.RowsIn w ao m 3 X) (hm : m ≤ 1000000) :
    Calls Tryz.prog 56 #[.slice ao m cap, .func (.func 57) #[] #[]] w (PzA X m w) := by
  have c := ixf_any ao m cap X w hH hm
  clear hH
  go_enter Tryz.func56, Tryz.ntmps56
  go_wp2_with (go_at_call 80; (with_reducible refine c.mono ?_); rintro e w2 ⟨r, rfl, hr, hb2⟩; have HR : Hid (IxP X m r) := hr; clear hr)
  go_ret
  refine ⟨_, rfl, fun e => ?_, hb2⟩
  rcases HR.out with ⟨_, hno⟩ | ⟨h0, _⟩
  · exact hno
  · simp at e
    omega
set_option maxHeartbeats 2000000 in
theorem paused_any (ao : Option Addr) (m cap : Nat) (X : Nat → Nat → Int) (w : World) (hH : Frm.RowsIn w ao m 3 X) (hm : m ≤ 1000000) :
    Calls Tryz.prog 26 #[.slice ao m cap] w (PzA X m w) := by
  have c := cfh_any ao m cap X w hH hm
  clear hH
  go_enter Tryz.func26, Tryz.ntmps26
  go_wp2_with (go_at_call 56; (with_reducible refine c.mono ?_); rintro e w2 ⟨b, rfl, hb, hb2⟩; have HBB : Hid (PzB X m b) := hb; clear hb)
  go_ret
  exact ⟨b, rfl, HBB.out, hb2⟩
end Wld
end Go.Proofs.YtfmahbjidljhmaiGreatDoor
namespace Go.Proofs.YtfmahbjidljhmaiGreatDoor
namespace Wld
open Go.RowKit Plain Pln Frm Lpp Crn Lop
set_option maxRecDepth 8000

theorem r0_chk : chkP Lop.p0 [Lop.t0] = 0 := by kernel_rfl
theorem r0_I : PdI Lop.p0 := by constructor <;> simp [I, Lop.p0]
theorem r0_ok : PlOk (noN Lop.p0) [Lop.t0] := ok_noN (plOk_of r0_chk)
theorem r0_k : Us Lop.k0 := by constructor <;> simp [U, Lop.k0]
theorem r0_U : ∀ t ∈ [Lop.t0], TrU t := by
  intro t ht
  simp at ht
  subst ht
  exact ⟨by simp [I, Lop.t0], by simp [I, Lop.t0], by simp [I, Lop.t0], r0_k, r0_k⟩
theorem some_any (w : World) : Calls Tryz.prog 54 #[] w fun e w' => ∃ b, e = .returned (planV Lop.p0 (.slice (some ⟨b, 0, none⟩) 1 1)) ∧ TrsAt w' (some ⟨b, 0, none⟩) [Lop.t0] ∧ w.heap.size ≤ b ∧ Below w.heap.size w w' := by
  have hX := px_new w 26
  have hb2 : ∀ o : Obj, Below (w.alloc (.cells #[.string ⟨#[]⟩, .int .i64 0, .int .i64 0, .int .i64 0, .int .i64 0, .int .i64 0, .int .i64 0, .int .i64 0, .int .i64 0, .int .i64 0, .int .i64 0, .int .i64 0, .int .i64 0, .int .i64 0, .int .i64 0, .int .i64 0, .int .i64 0, .slice none 0 0] 26)).heap.size (w.alloc (.cells #[.string ⟨#[]⟩, .int .i64 0, .int .i64 0, .int .i64 0, .int .i64 0, .int .i64 0, .int .i64 0, .int .i64 0, .int .i64 0, .int .i64 0, .int .i64 0, .int .i64 0, .int .i64 0, .int .i64 0, .int .i64 0, .int .i64 0, .int .i64 0, .slice none 0 0] 26)) ((w.alloc (.cells #[.string ⟨#[]⟩, .int .i64 0, .int .i64 0, .int .i64 0, .int .i64 0, .int .i64 0, .int .i64 0, .int .i64 0, .int .i64 0, .int .i64 0, .int .i64 0, .int .i64 0, .int .i64 0, .int .i64 0, .int .i64 0, .int .i64 0, .int .i64 0, .slice none 0 0] 26)).alloc o) := fun o => (Below.refl _ _).alloc (Nat.le_refl _) o
  have hX2 := fun o => hX.below (hb2 o) (by simp)
  go_enter Tryz.func54, Tryz.ntmps54
  go_wp2_with (with_reducible refine wp_setPx (hX2 _) (p' := Lop.p0) (v' := .slice (some ⟨w.heap.size + 1, 0, none⟩) 1 1) rfl (by with_unfolding_all rfl) (by with_unfolding_all rfl) ?_; intro w9 hX9 ho9)
  refine finPx Tryz.results54 (Or.inl rfl) rfl rfl hX9 ⟨w.heap.size + 1, rfl, ?_, Nat.le_succ _, ?_⟩
  · refine trs_one (Nat.lt_of_lt_of_le (by simp) ho9.size) (fun j => ?_)
    rw [ho9.cell (a := ⟨w.heap.size + 1, j, none⟩) (by simp) (by simp)]
    simp
    rfl
  · exact (((Below.refl _ _).alloc (Nat.le_refl _) _).alloc (by simp) _).trans (ho9.below (Nat.le_refl _) (by simp; omega))
theorem tickf_any (n : Int) (w : World) : Calls Tryz.prog 55 #[.int .i64 n] w fun e w' => e = .returned (.agg #[.int .i64 1, .int .i64 0, .int .i64 n]) ∧ Below w.heap.size w w' := by
  go_enter Tryz.func55, Tryz.ntmps55
  go_wp2
  (try simp only [Exit.inBlock, Exit.then])
  refine bodyPost_ret (v := .agg #[.int .i64 1, .int .i64 0, .int .i64 n]) ?_ rfl ⟨rfl, (Below.refl _ _).alloc (Nat.le_refl _) _⟩
  simp [results, Tryz.results55, go_sem]
noncomputable def s0 : WS := newW (noN Lop.p0) [Lop.t0] 1 2 0
noncomputable def s1 : WS := doW (noN Lop.p0) [Lop.t0] s0 4 0 25
noncomputable def s2 : WS := doW (noN Lop.p0) [Lop.t0] s1 1 0 1
noncomputable def sK (k : Nat) : WS := { s2 with qL := (Que.news 0 25).drop k }
noncomputable def sE : WS := doW (noN Lop.p0) [Lop.t0] (sK 25) 1 0 9
theorem s1_def : doW (noN Lop.p0) [Lop.t0] s0 4 0 25 = s1 := by unfold s1; rfl
theorem s2_def : doW (noN Lop.p0) [Lop.t0] s1 1 0 1 = s2 := by unfold s2; rfl
theorem sE_def : doW (noN Lop.p0) [Lop.t0] (sK 25) 1 0 9 = sE := by unfold sE; rfl
theorem s_E1 : doE s0 4 0 25 = 0 := by kernel_rfl
theorem s_E2 : doE s1 1 0 1 = 0 := by kernel_rfl
theorem s_tg : s2.tg = 3 := by kernel_rfl
theorem s_len : s2.F.L.length = 3 := by kernel_rfl
theorem s_q : s2.qL = Que.news 0 25 := by kernel_rfl
theorem s_zero : sK 0 = s2 := by
  have e : (Que.news 0 25).drop 0 = s2.qL := by rw [s_q]; rfl
  unfold sK
  rw [e]
theorem sE_tg : sE.tg = 0 := by kernel_rfl
theorem sE_len : sE.F.L.length = 0 := by kernel_rfl
theorem s_I0 : WI [Lop.t0] s0 0 0 := WI.new _ _ _ _ _ (by omega) (by omega)
theorem s_I1 : WI [Lop.t0] s1 1 1000 := by rw [← s1_def]; exact s_I0.do r0_ok 4 0 25
theorem s_I2 : WI [Lop.t0] s2 2 2000 := by rw [← s2_def]; exact s_I1.do r0_ok 1 0 1
theorem back_free {L : List Que.M} (now : Int) (h : ∀ x ∈ L, x.tk = false) : Que.backL now L = L := by
  unfold Que.backL
  conv => rhs; rw [← List.map_id L]
  refine List.map_congr_left (fun x hx => ?_)
  unfold Que.back
  rw [if_neg (by rw [h x hx]; simp)]
  rfl
theorem lease_first {m : Que.M} {L : List Que.M} {now n : Int} (h : ∀ x ∈ m :: L, x.tk = false) (hn : 1 ≤ n ∧ n ≤ 100000) : leaseE (m :: L) now n = 0 ∧ leaseL (m :: L) now n = ⟨m.id, now + n, true⟩ :: L := by
  have hf : (m :: L).findIdx? Que.free = some 0 := by rw [List.findIdx?_cons]; simp [Que.free, h m (by simp)]
  unfold leaseE leaseL
  rw [if_neg (by simpa using hn), if_neg (by simpa using hn), back_free now h, hf]
  simp
theorem ack_first {id : Int} {L : List Que.M} {now n : Int} (h : ∀ x ∈ L, x.tk = false) (hn : 1 ≤ n) : ackE (⟨id, now + n, true⟩ :: L) now id = 0 ∧ ackL (⟨id, now + n, true⟩ :: L) now id = L := by
  have hb : Que.backL now (⟨id, now + n, true⟩ :: L) = ⟨id, now + n, true⟩ :: L := by
    have := back_free now h
    unfold Que.backL at *
    rw [List.map_cons, this]
    unfold Que.back
    rw [if_neg (by simp; omega)]
  have hf : (⟨id, now + n, true⟩ :: L : List Que.M).findIdx? (Que.isId id) = some 0 := by rw [List.findIdx?_cons]; simp [Que.isId]
  unfold ackE ackL
  rw [hb, hf]
  simp
theorem news_free {x : Que.M} (h : x ∈ Que.news 0 25) : x.tk = false := by
  unfold Que.news at h
  simp at h
  obtain ⟨_, _, rfl⟩ := h
  rfl
theorem news_at {k : Nat} (hk : k < 25) : (Que.news 0 25).drop k = ⟨(k : Int) + 1, 0, false⟩ :: (Que.news 0 25).drop (k + 1) := by
  have hl : (Que.news 0 25).length = 25 := Que.news_len 0 25
  rw [List.drop_eq_getElem_cons (by omega)]
  congr 1
  unfold Que.news
  simp
  omega
/-- a message is lent, and done -/
theorem round_any {k : Nat} (hk : k < 25) : doE (sK k) 5 0 5 = 0 ∧ doE (doW (noN Lop.p0) [Lop.t0] (sK k) 5 0 5) 6 0 ((k : Int) + 1) = 0 ∧ doW (noN Lop.p0) [Lop.t0] (doW (noN Lop.p0) [Lop.t0] (sK k) 5 0 5) 6 0 ((k : Int) + 1) = sK (k + 1) := by
  have e0 := news_at hk
  have hf : ∀ x ∈ (⟨(k : Int) + 1, 0, false⟩ : Que.M) :: (Que.news 0 25).drop (k + 1), x.tk = false := fun x hx => by
    rw [← e0] at hx
    exact news_free (List.mem_of_mem_drop hx)
  obtain ⟨a1, a2⟩ := lease_first (now := s2.now) (n := 5) hf (by omega)
  obtain ⟨b1, b2⟩ := ack_first (id := (k : Int) + 1) (now := s2.now) (n := 5) (fun x hx => hf x (List.mem_cons_of_mem _ hx)) (by omega)
  have c1 : doE (sK k) 5 0 5 = leaseE ((Que.news 0 25).drop k) s2.now 5 := rfl
  have c2 : doW (noN Lop.p0) [Lop.t0] (sK k) 5 0 5 = { s2 with qL := leaseL ((Que.news 0 25).drop k) s2.now 5 } := rfl
  rw [c1, c2, e0, a1, a2]
  refine ⟨rfl, ?_, ?_⟩
  · show ackE (⟨(k : Int) + 1, s2.now + 5, true⟩ :: (Que.news 0 25).drop (k + 1)) s2.now ((k : Int) + 1) = 0
    exact b1
  · show ({ s2 with qL := ackL (⟨(k : Int) + 1, s2.now + 5, true⟩ :: (Que.news 0 25).drop (k + 1)) s2.now ((k : Int) + 1) } : WS) = sK (k + 1)
    rw [b2]
    rfl
theorem newr (b : Nat) (w : World) (hB : Lai.BdsAt w) (hT : TrsAt w (some ⟨b, 0, none⟩) [Lop.t0]) : Calls Tryz.prog 8 #[planV Lop.p0 (.slice (some ⟨b, 0, none⟩) 1 1), .int .i64 1, .int .i64 2, .int .i64 0] w (NewWA Lop.p0 [Lop.t0] 1 2 0 w) :=
  new_yes Lop.p0 (some ⟨b, 0, none⟩) 1 [Lop.t0] 1 2 0 w hB r0_I (by simp [Lop.p0]) hT r0_chk (by omega) (by omega)
/-- what happens to the world of some -/
theorem doS {w0 : World} (B : Nat) (c : Pc) (S : WS) (h k : Nat) (x a n E : Int) (w : World) (hA : WAt w B c (noN Lop.p0) [Lop.t0] S) (hI : WI [Lop.t0] S h k) (hh : h ≤ 1000) (hk : k ≤ 100000) (hE : doE S x a n = E) (hB : w0.heap.size ≤ B) (hb : Below w0.heap.size w0 w) :
    Calls Tryz.prog 11 #[.pointer (some ⟨c.x.D, 0, none⟩), .agg #[.int .i64 x, .int .i64 a, .int .i64 n]] w fun e w' => e = .returned (.int .i64 E) ∧ ∃ c', WAt w' B c' (noN Lop.p0) [Lop.t0] (doW (noN Lop.p0) [Lop.t0] S x a n) ∧ c'.x.D = c.x.D ∧ Below w0.heap.size w0 w' := by
  refine (do_any B c (noN Lop.p0) [Lop.t0] S h k x a n w hA hI hh hk r0_ok r0_U).mono ?_
  rintro e w' ⟨rfl, c', a', d', m'⟩
  exact ⟨by rw [hE], c', a', d', hb.trans (m'.below (fun k hk => Nat.le_trans hB (hA.low hk).1) hb.size)⟩
def SdR (w : World) (B D : Nat) (i : Value) (wr : World) : Prop := ∃ (k : Nat) (c1 : Pc), k ≤ 25 ∧ i = .int .i64 ((k : Int) + 1) ∧ WAt wr B c1 (noN Lop.p0) [Lop.t0] (sK k) ∧ WI [Lop.t0] (sK k) (2 + 2 * k) (1000 * (2 + 2 * k)) ∧ c1.x.D = D ∧ Below w.heap.size w wr
set_option maxHeartbeats 8000000 in
theorem said_any (w : World) (hB : Lai.BdsAt w) : Calls Tryz.prog 25 #[] w fun e w' => e = .returned (.bool true) ∧ Below w.heap.size w w' := by
  have cS := some_any w
  have HB : Hid (Lai.BdsAt w) := hB
  clear hB
  go_enter Tryz.func25, Tryz.ntmps25
  go_wp2_with (first
    | (go_at_call 54; (with_reducible refine cS.mono ?_); rintro e w1 ⟨b, rfl, hT1, hb, hb1⟩; clear cS)
    | (go_at_call 8; have cN := newr b w1 (HB.out.below hb1 (Nat.le_refl _)) hT1; (with_reducible refine cN.mono ?_); rintro e w2 ⟨c, rfl, hA2, hb2⟩; clear cN; have HX2 : Hid (WAt w2 w1.heap.size c (noN Lop.p0) [Lop.t0] s0 ∧ w.heap.size ≤ w1.heap.size ∧ Below w.heap.size w w2) := ⟨hA2, hb1.size, hb1.trans (hb2.mono hb1.size)⟩; clear hA2 hb2 hT1; generalize hD : c.x.D = D at *)
    | (go_at_call 11; have cD := doS (w0 := w) w1.heap.size c3 s1 1 1000 1 0 1 0 w4 HX4.out.1 s_I1 (by omega) (by omega) s_E2 HX2.out.2.1 HX4.out.2; rw [hD3, s2_def] at cD; (with_reducible refine cD.mono ?_); rintro e w5 ⟨rfl, c5, a5, d5, b5⟩; clear cD; have HX5 : Hid (WAt w5 w1.heap.size c5 (noN Lop.p0) [Lop.t0] s2 ∧ Below w.heap.size w w5) := ⟨a5, b5⟩; have hD5 : c5.x.D = D := d5; clear a5 d5 b5)
    | (go_at_call 11; have cD := doS (w0 := w) w1.heap.size c s0 0 0 4 0 25 0 w2 HX2.out.1 s_I0 (by omega) (by omega) s_E1 HX2.out.2.1 HX2.out.2.2; rw [hD, s1_def] at cD; (with_reducible refine cD.mono ?_); rintro e w3 ⟨rfl, c3, a3, d3, b3⟩; clear cD; have HX3 : Hid (WAt w3 w1.heap.size c3 (noN Lop.p0) [Lop.t0] s1 ∧ Below w.heap.size w w3) := ⟨a3, b3⟩; have hD3 : c3.x.D = D := d3; clear a3 d3 b3)
    | (go_at_call 55; have cT := tickf_any 1 w3; (with_reducible refine cT.mono ?_); rintro e w4 ⟨rfl, hb4⟩; clear cT; have HX4 : Hid (WAt w4 w1.heap.size c3 (noN Lop.p0) [Lop.t0] s1 ∧ Below w.heap.size w w4) := ⟨HX3.out.1.below hb4, HX3.out.2.trans (hb4.mono HX3.out.2.size)⟩; clear hb4)
    | (go_at_call 20; have cX := target_any w1.heap.size c5 (noN Lop.p0) [Lop.t0] s2 w5 HX5.out.1; rw [hD5, s_tg] at cX; (with_reducible refine cX.mono ?_); rintro e w' ⟨rfl, h9⟩; have h8 := h9.symm; clear h9; subst h8; clear cX)
    | (go_at_call 13; have cX := pods_any w1.heap.size c5 (noN Lop.p0) [Lop.t0] s2 w5 HX5.out.1 (by rw [s_len]; omega); rw [hD5, s_len] at cX; (with_reducible refine cX.mono ?_); rintro e w6 ⟨rfl, hR6, hb6⟩; clear cX; have HX6 : Hid (WAt w6 w1.heap.size c5 (noN Lop.p0) [Lop.t0] s2 ∧ Below w.heap.size w w6) := ⟨HX5.out.1.below hb6, HX5.out.2.trans (hb6.mono HX5.out.2.size)⟩; clear hR6 hb6))
  have HL : Hid (w.heap.size ≤ w1.heap.size) := HX2.out.2.1
  clear hb1 hD hD3
  go_loopw [3] (fun i wr => SdR w w1.heap.size D i wr) (fun i _ => 26 - (intOf i).toNat)
  case atStart => exact ⟨0, c5, by omega, rfl, by rw [s_zero]; exact HX6.out.1, by rw [s_zero]; exact s_I2, hD5, HX6.out.2⟩
  case round =>
    clear hD5 HX6 HX5 HX4 HX3 HX2
    obtain ⟨k, c1, hk, rfl, hA, hI, hD1, hbr⟩ := hrel
    by_cases hlt : k < 25
    · have hlt' : (k : Int) + 1 ≤ 25 := by omega
      obtain ⟨r1, r2, r3⟩ := round_any hlt
      have hI2 := hI.do r0_ok 5 0 5
      have hI3 := hI2.do r0_ok 6 0 ((k : Int) + 1)
      rw [r3] at hI3
      have HX1 : Hid (WAt wr w1.heap.size c1 (noN Lop.p0) [Lop.t0] (sK k) ∧ Below w.heap.size w wr) := ⟨hA, hbr⟩
      have HI1 : Hid (WI [Lop.t0] (sK k) (2 + 2 * k) (1000 * (2 + 2 * k))) := hI
      have HI2 : Hid (WI [Lop.t0] (doW (noN Lop.p0) [Lop.t0] (sK k) 5 0 5) (2 + 2 * k + 1) (1000 * (2 + 2 * k) + 1000)) := hI2
      have HI3 : Hid (WI [Lop.t0] (sK (k + 1)) (2 + 2 * (k + 1)) (1000 * (2 + 2 * (k + 1)))) := hI3.mono (by omega) (by omega)
      have HR : Hid (doE (sK k) 5 0 5 = 0 ∧ doE (doW (noN Lop.p0) [Lop.t0] (sK k) 5 0 5) 6 0 ((k : Int) + 1) = 0 ∧ doW (noN Lop.p0) [Lop.t0] (doW (noN Lop.p0) [Lop.t0] (sK k) 5 0 5) 6 0 ((k : Int) + 1) = sK (k + 1)) := ⟨r1, r2, r3⟩
      clear hA hI hbr hI2 hI3 r1 r2 r3
      go_wp2_with (first
        | (go_at_call 11; have cD := doS (w0 := w) w1.heap.size c3 (doW (noN Lop.p0) [Lop.t0] (sK k) 5 0 5) (2 + 2 * k + 1) (1000 * (2 + 2 * k) + 1000) 6 0 ((k : Int) + 1) 0 w3 HX3.out.1 HI2.out (by omega) (by omega) HR.out.2.1 HL.out HX3.out.2; rw [hD3, HR.out.2.2] at cD; (with_reducible refine cD.mono ?_); rintro e w5 ⟨rfl, c5, a5, d5, b5⟩; clear cD; have HX5 : Hid (WAt w5 w1.heap.size c5 (noN Lop.p0) [Lop.t0] (sK (k + 1)) ∧ c5.x.D = D ∧ Below w.heap.size w w5) := ⟨a5, d5, b5⟩; clear a5 d5 b5)
        | (go_at_call 11; have cD := doS (w0 := w) w1.heap.size c1 (sK k) (2 + 2 * k) (1000 * (2 + 2 * k)) 5 0 5 0 wr HX1.out.1 HI1.out (by omega) (by omega) HR.out.1 HL.out HX1.out.2; rw [hD1] at cD; (with_reducible refine cD.mono ?_); rintro e w3 ⟨rfl, c3, a3, d3, b3⟩; clear cD; have HX3 : Hid (WAt w3 w1.heap.size c3 (noN Lop.p0) [Lop.t0] (doW (noN Lop.p0) [Lop.t0] (sK k) 5 0 5) ∧ Below w.heap.size w w3) := ⟨a3, b3⟩; have hD3 : c3.x.D = D := d3; clear a3 d3 b3))
      go_roundw
      case rel => exact ⟨k + 1, c5, hlt, by simp, HX5.out.1, HI3.out, HX5.out.2.1, HX5.out.2.2⟩
      case measure => simp [intOf]; omega
    · obtain rfl : k = 25 := by omega
      have HX1 : Hid (WAt wr w1.heap.size c1 (noN Lop.p0) [Lop.t0] (sK 25) ∧ Below w.heap.size w wr) := ⟨hA, hbr⟩
      have HI1 : Hid (WI [Lop.t0] (sK 25) 52 52000) := hI
      clear hA hI hbr
      go_wp2_with (first
        | (go_at_call 55; have cT := tickf_any 9 wr; (with_reducible refine cT.mono ?_); rintro e w4 ⟨rfl, hb4⟩; clear cT; have HX4 : Hid (WAt w4 w1.heap.size c1 (noN Lop.p0) [Lop.t0] (sK 25) ∧ Below w.heap.size w w4) := ⟨HX1.out.1.below hb4, HX1.out.2.trans (hb4.mono HX1.out.2.size)⟩; clear hb4)
        | (go_at_call 11; have cD := doS (w0 := w) w1.heap.size c1 (sK 25) 52 52000 1 0 9 _ w4 HX4.out.1 HI1.out (by omega) (by omega) rfl HL.out HX4.out.2; rw [hD1, sE_def] at cD; (with_reducible refine cD.mono ?_); rintro e w5 ⟨rfl, c5, a5, d5, b5⟩; clear cD; have HX5 : Hid (WAt w5 w1.heap.size c5 (noN Lop.p0) [Lop.t0] sE ∧ Below w.heap.size w w5) := ⟨a5, b5⟩; have hD5 : c5.x.D = D := d5; clear a5 d5 b5)
        | (go_at_call 20; have cX := target_any w1.heap.size c5 (noN Lop.p0) [Lop.t0] sE w5 HX5.out.1; rw [hD5, sE_tg] at cX; (with_reducible refine cX.mono ?_); rintro e w' ⟨rfl, h9⟩; have h8 := h9.symm; clear h9; subst h8; clear cX)
        | (go_at_call 13; have cX := pods_any w1.heap.size c5 (noN Lop.p0) [Lop.t0] sE w5 HX5.out.1 (by rw [sE_len]; omega); rw [hD5, sE_len] at cX; (with_reducible refine cX.mono ?_); rintro e w6 ⟨rfl, hR6, hb6⟩; clear cX))
      go_ret
      exact ⟨rfl, HX5.out.2.trans (hb6.mono HX5.out.2.size)⟩
end Wld
end Go.Proofs.YtfmahbjidljhmaiGreatDoor
namespace Go.Proofs.YtfmahbjidljhmaiGreatDoor
namespace Wld
open Go.RowKit Plain Pln Frm Lpp Crn Lop
set_option maxRecDepth 8000

theorem newE_nil {p : Pd} {ts : List Tr} {parts sec : Int} (h : newE p ts parts sec = 0) : chkP p ts = 0 ∧ (1 ≤ parts ∧ parts ≤ 20) ∧ (-10000000000 ≤ sec ∧ sec ≤ 10000000000) := by
  unfold newE at h
  split at h
  · rename_i e; exact absurd h e
  · rename_i e
    split at h
    · rename_i g; exact ⟨Decidable.of_not_not e, g⟩
    · cases h
def TbR (w : World) (B D : Nat) (p : Pd) (ts : List Tr) (S : WS) (X : Nat → Nat → Int) (m : Nat) (i : Value) (wr : World) : Prop :=
  ∃ (j : Nat) (c : Pc), j ≤ m ∧ i = .int .i64 j ∧ WAt wr B c p ts (playW p ts X S j) ∧ c.x.D = D ∧ Below w.heap.size w wr ∧ wr.cell? ⟨w.heap.size, 2, none⟩ = some (.int .i64 p.mx) ∧ wr.cell? ⟨w.heap.size, 1, none⟩ = some (.int .i64 p.mn)
def CnR (L : List Flt.Pd) (w : World) (n i : Value) (wr : World) : Prop := ∃ k : Nat, k ≤ L.length ∧ n = .int .i64 (Flt.cnt (L.take k) : Int) ∧ i = .int .i64 k ∧ Below w.heap.size w wr
section
variable (p : Pd) (ta : Option Addr) (tc : Nat) (ts : List Tr) (parts most sec : Int) (ao : Option Addr) (m cap : Nat) (X : Nat → Nat → Int) (w : World)
set_option maxHeartbeats 4000000 in
theorem tb_no (hB : Lai.BdsAt w) (hi : PdI p) (hl : p.nm.length ≤ 9223372036854775807) (hT : TrsAt w ta ts) (hc : newE p ts parts sec ≠ 0) :
    Calls Tryz.prog 4 #[planV p (.slice ta ts.length tc), .int .i64 parts, .int .i64 most, .int .i64 sec, .slice ao m cap] w fun e w' => e = .returned (.bool true) ∧ Below w.heap.size w w' := by
  obtain ⟨W, hW⟩ : ∃ W, W = w.alloc (.cells (planC p (.slice ta ts.length tc)) 26) := ⟨_, rfl⟩
  have hPl : PlAt W w.heap.size p (.slice ta ts.length tc) := by rw [hW]; exact plan_new _ _ _ _
  have hbW : Below w.heap.size w W := by rw [hW]; exact (Below.refl _ _).alloc (Nat.le_refl _) _
  have hzW : w.heap.size < W.heap.size := by rw [hW]; simp
  have HW : Hid (W = w.alloc (.cells (planC p (.slice ta ts.length tc)) 26)) := hW
  have cW := said_any W (hB.below hbW (Nat.le_refl _))
  have HB : Hid (Below w.heap.size w W) := hbW
  have HN : Hid (∀ w', Below w.heap.size w w' → Calls Tryz.prog 8 #[planV p (.slice ta ts.length tc), .int .i64 parts, .int .i64 most, .int .i64 sec] w' fun e w'' => e = .returned (.tuple #[.pointer none, .int .i64 (newE p ts parts sec)]) ∧ Below w'.heap.size w' w'') := fun w' hb => new_no p ta tc ts parts most sec w' (hB.below hb (Nat.le_refl _)) hi hl (hT.below hb (Nat.le_refl _)) hc
  have dne : (newE p ts parts sec != 0) = true := by rw [bne_iff_ne]; exact hc
  clear hW hbW hB hi hl hT hc
  generalize newE p ts parts sec = E at *
  go_enter Tryz.func4, Tryz.ntmps4
  go_upto_region 1 with fail
  rw [← HW.out]
  clear HW
  go_wp2_with (first
    | (go_at_call 25; (with_reducible refine cW.mono ?_); rintro e w1 ⟨rfl, hb1⟩; clear cW; have hP1 := hPl.on hb1 hzW; have hz1 := Nat.lt_of_lt_of_le hzW hb1.size; have HB1 : Hid (Below w.heap.size w w1) := HB.out.trans (hb1.mono HB.out.size); clear hPl)
    | (with_reducible refine wp_plan hP1 (by with_unfolding_all rfl) ?_)
    | (go_at_call 8; have cN := HN.out w1 HB1.out; (with_reducible refine cN.mono ?_); rintro e w2 ⟨rfl, hb2⟩; clear cN))
  go_ret
  exact ⟨rfl, HB1.out.trans (hb2.mono HB1.out.size)⟩
set_option maxHeartbeats 4000000 in
theorem tb_many (N : Nat) (hB : Lai.BdsAt w) (hi : PdI p) (hl : p.nm.length ≤ 9223372036854775807) (hT : TrsAt w ta ts) (hc : chkP p ts = 0) (hn : 1 ≤ N ∧ N ≤ 20) (hs : -10000000000 ≤ sec ∧ sec ≤ 10000000000) (hm : 60 < m) :
    Calls Tryz.prog 4 #[planV p (.slice ta ts.length tc), .int .i64 (N : Int), .int .i64 most, .int .i64 sec, .slice ao m cap] w fun e w' => e = .returned (.bool true) ∧ Below w.heap.size w w' := by
  obtain ⟨W, hW⟩ : ∃ W, W = w.alloc (.cells (planC p (.slice ta ts.length tc)) 26) := ⟨_, rfl⟩
  have hPl : PlAt W w.heap.size p (.slice ta ts.length tc) := by rw [hW]; exact plan_new _ _ _ _
  have hbW : Below w.heap.size w W := by rw [hW]; exact (Below.refl _ _).alloc (Nat.le_refl _) _
  have hzW : w.heap.size < W.heap.size := by rw [hW]; simp
  have HW : Hid (W = w.alloc (.cells (planC p (.slice ta ts.length tc)) 26)) := hW
  have cW := said_any W (hB.below hbW (Nat.le_refl _))
  have HB : Hid (Below w.heap.size w W) := hbW
  have HN : Hid (∀ w', Below w.heap.size w w' → Calls Tryz.prog 8 #[planV p (.slice ta ts.length tc), .int .i64 (N : Int), .int .i64 most, .int .i64 sec] w' (NewWA p ts N most sec w')) := fun w' hb => new_yes p ta tc ts N most sec w' (hB.below hb (Nat.le_refl _)) hi hl (hT.below hb (Nat.le_refl _)) hc hn hs
  have hm' : (60 : Int) < (m : Int) := by omega
  clear hW hbW hB hi hl hT hc
  go_enter Tryz.func4, Tryz.ntmps4
  go_upto_region 1 with fail
  rw [← HW.out]
  clear HW
  go_wp2_with (first
    | (go_at_call 25; (with_reducible refine cW.mono ?_); rintro e w1 ⟨rfl, hb1⟩; clear cW; have hP1 := hPl.on hb1 hzW; have hz1 := Nat.lt_of_lt_of_le hzW hb1.size; have HB1 : Hid (Below w.heap.size w w1) := HB.out.trans (hb1.mono HB.out.size); clear hPl)
    | (with_reducible refine wp_plan hP1 (by with_unfolding_all rfl) ?_)
    | (go_at_call 8; have cN := HN.out w1 HB1.out; (with_reducible refine cN.mono ?_); rintro e w2 ⟨c, rfl, hA2, hb2⟩; clear cN; have HA2 : Hid (WAt w2 w1.heap.size c (noN p) ts (newW (noN p) ts N most sec)) := hA2; clear hA2; have hP2 := hP1.on hb2 hz1; have HB2 : Hid (Below w.heap.size w w2) := HB1.out.trans (hb2.mono HB1.out.size)))
  go_ret
  exact ⟨rfl, HB2.out⟩
set_option maxHeartbeats 16000000 in
theorem tb_yes (N : Nat) (hB : Lai.BdsAt w) (hi : PdI p) (hl : p.nm.length ≤ 9223372036854775807) (hT : TrsAt w ta ts) (hc : chkP p ts = 0) (hU : ∀ t ∈ ts, TrU t) (hn : 1 ≤ N ∧ N ≤ 20) (hs : -10000000000 ≤ sec ∧ sec ≤ 10000000000) (hm : m ≤ 60) (hH : Frm.RowsIn w ao m 3 X) :
    Calls Tryz.prog 4 #[planV p (.slice ta ts.length tc), .int .i64 (N : Int), .int .i64 most, .int .i64 sec, .slice ao m cap] w fun e w' => e = .returned (.bool true) ∧ Below w.heap.size w w' := by
  obtain ⟨W, hW⟩ : ∃ W, W = w.alloc (.cells (planC p (.slice ta ts.length tc)) 26) := ⟨_, rfl⟩
  have hPl : PlAt W w.heap.size p (.slice ta ts.length tc) := by rw [hW]; exact plan_new _ _ _ _
  have hbW : Below w.heap.size w W := by rw [hW]; exact (Below.refl _ _).alloc (Nat.le_refl _) _
  have hzW : w.heap.size < W.heap.size := by rw [hW]; simp
  have HW : Hid (W = w.alloc (.cells (planC p (.slice ta ts.length tc)) 26)) := hW
  have cW := said_any W (hB.below hbW (Nat.le_refl _))
  have HB : Hid (Below w.heap.size w W) := hbW
  have HN : Hid (∀ w', Below w.heap.size w w' → Calls Tryz.prog 8 #[planV p (.slice ta ts.length tc), .int .i64 (N : Int), .int .i64 most, .int .i64 sec] w' (NewWA p ts N most sec w')) := fun w' hb => new_yes p ta tc ts N most sec w' (hB.below hb (Nat.le_refl _)) hi hl (hT.below hb (Nat.le_refl _)) hc hn hs
  have hm' : ¬ (60 : Int) < (m : Int) := by omega
  have hP := ok_noN (plOk_of hc)
  have hI0 : WI ts (newW (noN p) ts N most sec) 0 0 := WI.new _ _ _ _ _ hn hs
  have hB0 : BI (noN p) (newW (noN p) ts N most sec) := BI.new _ _ hP _ _ _
  have HH : Hid (Frm.RowsIn w ao m 3 X) := hH
  have cPz : ∀ w', Below w.heap.size w w' → Calls Tryz.prog 26 #[.slice ao m cap] w' (PzA X m w') := fun w' hb => paused_any ao m cap X w' (Frm.RowsIn.below hH hb (Nat.le_refl _)) (by omega)
  clear hW hbW hB hi hl hT hc hH
  go_enter Tryz.func4, Tryz.ntmps4
  go_upto_region 1 with fail
  rw [← HW.out]
  clear HW
  go_upto_if 38 with (first
    | (go_at_call 25; (with_reducible refine cW.mono ?_); rintro e w1 ⟨rfl, hb1⟩; clear cW; have hP1 := hPl.on hb1 hzW; have hz1 := Nat.lt_of_lt_of_le hzW hb1.size; have HB1 : Hid (Below w.heap.size w w1) := HB.out.trans (hb1.mono HB.out.size); clear hPl)
    | (with_reducible refine wp_plan hP1 (by with_unfolding_all rfl) ?_)
    | (go_at_call 8; have cN := HN.out w1 HB1.out; (with_reducible refine cN.mono ?_); rintro e w2 ⟨c, rfl, hA2, hb2⟩; clear cN; have HA2 : Hid (WAt w2 w1.heap.size c (noN p) ts (newW (noN p) ts N most sec)) := hA2; clear hA2; have hP2 := hP1.on hb2 hz1; have HB2 : Hid (Below w.heap.size w w2) := HB1.out.trans (hb2.mono HB1.out.size))
    | (go_at_call 26; (with_reducible refine (cPz _ HB2.out).mono ?_); rintro e w3 ⟨b, rfl, hb, hb3⟩; clear cPz; have HZ : Hid (PzB X m b) := hb; clear hb))
  have HX3 : Hid (WAt w3 w1.heap.size c (noN p) ts (newW (noN p) ts N most sec) ∧ Below w.heap.size w w3) := ⟨HA2.out.below hb3, HB2.out.trans (hb3.mono HB2.out.size)⟩
  cases b with
  | true =>
    go_wp2
    · go_ret
      exact ⟨rfl, HX3.out.2⟩
    · rename_i h9 _ _
      exact absurd h9.2 (by decide)
  | false =>
    have hno : ∀ i, i < m → X i 0 ≠ 13 := HZ.out rfl
    have hP3 := hP2.on hb3 (Nat.lt_of_lt_of_le hz1 hb2.size)
    have HL1 : Hid (w.heap.size ≤ w1.heap.size) := HB1.out.size
    have HL2 : Hid (w.heap.size < w1.heap.size) := hz1
    have hPz : w.heap.size < w3.heap.size := Nat.lt_of_lt_of_le hz1 (Nat.le_trans hb2.size hb3.size)
    have k1 := hP3.c1
    have k2 := hP3.c2
    clear HN HA2 hb1 hb2 hb3 hP1 hP2 hP3 hz1 HB1 HB2 HB HZ
    generalize newW (noN p) ts N most sec = S0 at *
    generalize hD : c.x.D = D at *
    go_wp2_with fail
    · rename_i h9
      rcases h9 with h9 | h9
      · omega
      · cases h9
    clear hm'
    (try simp only [Bool.or_false])
    go_loopw [41] (fun i wr => TbR w w1.heap.size D (noN p) ts S0 X m i wr) (fun i _ => m - (intOf i).toNat)
    case atStart => exact ⟨0, c, by omega, rfl, HX3.out.1, hD, HX3.out.2, k2, k1⟩
    case round =>
      clear hD HX3 k1 k2 hPz c
      obtain ⟨j, c1, hj, rfl, hA, hD1, hbr, z2, z1⟩ := hrel
      by_cases hlt : j < m
      · have hlt' : (j : Int) < (m : Int) := by omega
        obtain ⟨g, off, rfl, hgl, hcx⟩ := (Frm.RowsIn.below HH.out hbr (Nat.le_refl _)) j hlt
        have x0 := (hcx 0 (by omega)).1
        have x1 := (hcx 1 (by omega)).1
        have x2 := (hcx 2 (by omega)).1
        simp only [Nat.add_zero] at x0
        rw [← Nat.add_assoc] at x1 x2
        obtain ⟨V, hV⟩ : ∃ V, V = wr.alloc (.cells #[.int .i64 (X j 0), .int .i64 (X j 1), .int .i64 (X j 2)] 43) := ⟨_, rfl⟩
        have hbV : Below wr.heap.size wr V := by rw [hV]; exact (Below.refl _ _).alloc (Nat.le_refl _) _
        have y0 : V.cell? ⟨wr.heap.size, 0, none⟩ = some (.int .i64 (X j 0)) := by rw [hV]; simp
        have y1 : V.cell? ⟨wr.heap.size, 1, none⟩ = some (.int .i64 (X j 1)) := by rw [hV]; simp
        have y2 : V.cell? ⟨wr.heap.size, 2, none⟩ = some (.int .i64 (X j 2)) := by rw [hV]; simp
        have HV : Hid (V = wr.alloc (.cells #[.int .i64 (X j 0), .int .i64 (X j 1), .int .i64 (X j 2)] 43)) := hV
        have zl : w.heap.size < wr.heap.size := World.block_lt_of_cell? wr _ z2
        have HX1 : Hid (WAt V w1.heap.size c1 (noN p) ts (playW (noN p) ts X S0 j) ∧ Below w.heap.size w V ∧ V.cell? ⟨w.heap.size, 2, none⟩ = some (.int .i64 p.mx) ∧ V.cell? ⟨w.heap.size, 1, none⟩ = some (.int .i64 p.mn)) := ⟨hA.below hbV, hbr.trans (hbV.mono hbr.size), (hbV.cell (p := ⟨w.heap.size, 2, none⟩) zl).trans z2, (hbV.cell (p := ⟨w.heap.size, 1, none⟩) zl).trans z1⟩
        have hIj := WI.play hP hI0 X j
        have hI1 := WI.play hP hI0 X (j + 1)
        have hBj := BI.play hP hB0 X (j + 1) (fun i hi => hno i (by omega))
        have cD := do_any w1.heap.size c1 (noN p) ts (playW (noN p) ts X S0 j) j (1000 * j) (X j 0) (X j 1) (X j 2) V HX1.out.1 hIj (by omega) (by omega) hP hU
        rw [hD1] at cD
        have hPn : ¬ bk c1 ts w.heap.size := fun e => by have := (hA.low e).1; have := HL2.out; omega
        clear hA hbr hbV hV hcx z1 z2 zl
        go_upto_region 9 with fail
        rw [← HV.out]
        clear HV x0 x1 x2
        generalize wr.heap.size = C at *
        obtain ⟨S1, hS1⟩ : ∃ S1, S1 = playW (noN p) ts X S0 (j + 1) := ⟨_, rfl⟩
        rw [← hS1] at hI1 hBj
        have hlF : S1.F.L.length ≤ 1000000000 := by have := hI1.len; omega
        have HS1 : Hid (S1 = playW (noN p) ts X S0 (j + 1)) := hS1
        clear hS1
        go_wp2_with (first
          | (go_at_call 11; (with_reducible refine cD.mono ?_); rintro e w4 ⟨rfl, c4, a4, d4, m4⟩; clear cD; have HX4 : Hid (WAt w4 w1.heap.size c4 (noN p) ts S1 ∧ c4.x.D = D ∧ Below w.heap.size w w4 ∧ w4.cell? ⟨w.heap.size, 2, none⟩ = some (.int .i64 p.mx) ∧ w4.cell? ⟨w.heap.size, 1, none⟩ = some (.int .i64 p.mn)) := ⟨by rw [HS1.out]; exact a4, d4.trans hD1, HX1.out.2.1.trans (m4.below (fun k hk => Nat.le_trans HL1.out (HX1.out.1.low hk).1) HX1.out.2.1.size), m4.cell HX1.out.2.2.1 hPn, m4.cell HX1.out.2.2.2 hPn⟩; clear a4 d4 m4)
          | (go_at_call 13; have cX := pods_any w1.heap.size c4 (noN p) ts S1 w4 HX4.out.1 hlF; rw [HX4.out.2.1] at cX; (with_reducible refine cX.mono ?_); rintro e w5 ⟨rfl, hR5, hb5⟩; clear cX))
        have HR5 : Hid (Rec.RowAt Flt.pK w5 (some ⟨w4.heap.size, 0, none⟩) S1.F.L) := hR5
        have zl4 : w.heap.size < w4.heap.size := World.block_lt_of_cell? w4 _ HX4.out.2.2.2.1
        have HX5 : Hid (WAt w5 w1.heap.size c4 (noN p) ts S1 ∧ c4.x.D = D ∧ Below w.heap.size w w5 ∧ w5.cell? ⟨w.heap.size, 2, none⟩ = some (.int .i64 p.mx) ∧ w5.cell? ⟨w.heap.size, 1, none⟩ = some (.int .i64 p.mn)) := ⟨HX4.out.1.below hb5, HX4.out.2.1, HX4.out.2.2.1.trans (hb5.mono HX4.out.2.2.1.size), (hb5.cell (p := ⟨w.heap.size, 2, none⟩) zl4).trans HX4.out.2.2.2.1, (hb5.cell (p := ⟨w.heap.size, 1, none⟩) zl4).trans HX4.out.2.2.2.2⟩
        clear hR5 hb5 zl4
        go_loopw [15, 51] (fun n i wr => CnR S1.F.L w5 n i wr) (fun _ i _ => S1.F.L.length - (intOf i).toNat)
        case atStart => exact ⟨0, by omega, by simp [Flt.cnt], rfl, Below.refl _ _⟩
        case round =>
          obtain ⟨k, hk, rfl, rfl, hbq⟩ := hrel
          by_cases hk2 : k < S1.F.L.length
          · have hk' : (k : Int) < (S1.F.L.length : Int) := by omega
            obtain ⟨mm, hmm⟩ : ∃ mm, S1.F.L[k]? = some mm := ⟨_, List.getElem?_eq_getElem hk2⟩
            obtain ⟨g5, e5, hg5, hc5⟩ := Flt.row_pod (HR5.out.below hbq) (by omega)
            cases e5
            obtain ⟨d0, d1, d2⟩ := hc5 k mm hmm
            have hcs := Flt.cnt_step hmm
            have hcl : Flt.cnt (S1.F.L.take k) ≤ S1.F.L.length := Nat.le_trans (Flt.cnt_le _) (by rw [List.length_take]; omega)
            have HQ : Hid (Below w5.heap.size w5 wr ∧ Flt.cnt (S1.F.L.take (k + 1)) = Flt.cnt (S1.F.L.take k) + if Flt.stays mm then 1 else 0) := ⟨hbq, hcs⟩
            clear hbq hcs hc5 hmm hg5
            by_cases hs : mm.st = 4
            · have hst : (mm.st != 4) = false := by simp [hs]
              have HS : Hid (Flt.stays mm = false) := hst
              clear hs
              go_wp2
              go_roundw
              case rel => exact ⟨k + 1, hk2, by rw [HQ.out.2, HS.out]; simp, rfl, HQ.out.1.alloc HQ.out.1.size _⟩
              case measure => simp [intOf]; omega
            · have hst : (mm.st != 4) = true := by simp [hs]
              have HS : Hid (Flt.stays mm = true) := hst
              clear hs
              go_wp2
              go_roundw
              case rel => exact ⟨k + 1, hk2, by rw [HQ.out.2, HS.out]; simp, rfl, HQ.out.1.alloc HQ.out.1.size _⟩
              case measure => simp [intOf]; omega
          · obtain rfl : k = S1.F.L.length := by omega
            rw [List.take_length]
            have zl5 : w.heap.size < w5.heap.size := World.block_lt_of_cell? w5 _ HX5.out.2.2.2.1
            have z2 := (hbq.cell (p := ⟨w.heap.size, 2, none⟩) zl5).trans HX5.out.2.2.2.1
            have z1 := (hbq.cell (p := ⟨w.heap.size, 1, none⟩) zl5).trans HX5.out.2.2.2.2
            have HX6 : Hid (WAt wr w1.heap.size c4 (noN p) ts S1 ∧ Below w.heap.size w wr) := ⟨HX5.out.1.below hbq, HX5.out.2.2.1.trans (hbq.mono HX5.out.2.2.1.size)⟩
            have HAX : Hid (WAt wr.drew w1.heap.size c4 (noN p) ts S1) := HX6.out.1.below (Mm.bdrew wr)
            have g1 : decide (p.mx < (Flt.cnt S1.F.L : Int)) = false := by have h9 : (Flt.cnt S1.F.L : Int) ≤ p.mx := hBj.cn; simp; omega
            have g2 : decide (p.mx < S1.tg) = false := by have h9 : S1.tg ≤ p.mx := hBj.tg; simp; omega
            have cT : ∀ W, WAt W w1.heap.size c4 (noN p) ts S1 → Calls Tryz.prog 20 #[.pointer (some ⟨D, 0, none⟩)] W fun e w' => e = .returned (.int .i64 S1.tg) ∧ w' = W := fun W hW => by
              have h9 := target_any w1.heap.size c4 (noN p) ts S1 W hW
              rw [HX5.out.2.1] at h9
              exact h9
            have cN : ∀ W, WAt W w1.heap.size c4 (noN p) ts S1 → Calls Tryz.prog 27 #[.pointer (some ⟨D, 0, none⟩)] W fun e w' => e = .returned (.int .i64 S1.now) ∧ w' = W := fun W hW => by
              have h9 := now_any w1.heap.size c4 (noN p) ts S1 W hW
              rw [HX5.out.2.1] at h9
              exact h9
            have HZ1 : Hid (wr.cell? ⟨w.heap.size, 2, none⟩ = some (.int .i64 p.mx) ∧ wr.cell? ⟨w.heap.size, 1, none⟩ = some (.int .i64 p.mn)) := ⟨z2, z1⟩
            by_cases hnw : 0 < S1.now
            · have g4 : decide (0 < S1.now) = true := by simp [hnw]
              have g3 : decide (S1.tg < p.mn) = false := by
                have h9 : p.mn ≤ S1.tg := hBj.mn (by
                  cases e : S1.lp.lk with
                  | true => rfl
                  | false => have := hBj.nw e; omega)
                simp; omega
              clear hbq hBj hnw
              go_upto_region 17 with fail
              refine Tk.st 23 [false, false, false, false, false, false, false, false, false, false, false, false, false, false, false, false, false, false, false, false, false, false, false] (S := fun w' => w'.cell? ⟨w.heap.size, 2, none⟩ = some (.int .i64 p.mx) ∧ w'.cell? ⟨w.heap.size, 1, none⟩ = some (.int .i64 p.mn)) (by kernel_rfl) (by kernel_rfl) (⟨z2, z1⟩) (fun hHeld => ?_)
              iterate 6
                refine Tk.tk (v := ?_) rfl (by kernel_rfl) (fun _ _ _ h => h) (Or.inl ⟨by rfl, ?_⟩) (by assumption) ?_
                rotate_left
                · intro w' hSw
                  (try dsimp only at hSw)
                  (try simp only [Tk.nx, List.getElem_toArray, List.getElem_cons_zero, List.getElem_cons_succ])
                  go_simp
                  all_goals with_reducible rfl
                (try simp only [Tk.nx, Act.put, List.set_cons_zero, List.set_cons_succ, List.setIfInBounds_toArray, List.getElem_toArray, List.getElem_cons_zero, List.getElem_cons_succ])
              refine wpAnyH_take (i := 7) (oi := _) (v := ?_) rfl (by kernel_rfl) (by kernel_rfl) (by kernel_rfl) (fun _ _ _ h => h) (Or.inl ⟨by rfl, ?_⟩) (by assumption) ?_
              rotate_left
              · intro w' hSw
                (try dsimp only at hSw)
                go_simp
                all_goals with_reducible rfl
              (try simp only [Act.put, List.setIfInBounds_toArray, List.set_cons_zero, List.set_cons_succ, List.getElem_toArray, List.getElem_cons_zero, List.getElem_cons_succ])
              refine wpAnyH_take (i := 8) (oi := _) (v := ?_) rfl (by kernel_rfl) (by kernel_rfl) (by kernel_rfl) (fun _ _ _ h => h) (Or.inl ⟨by rfl, ?_⟩) (by assumption) ?_
              rotate_left
              · intro w' hSw
                (try dsimp only at hSw)
                go_simp
                all_goals with_reducible rfl
              (try simp only [Act.put, List.setIfInBounds_toArray, List.set_cons_zero, List.set_cons_succ, List.getElem_toArray, List.getElem_cons_zero, List.getElem_cons_succ])
              refine wpAnyH_ready (rs := [6]) (by kernel_rfl) (by simp) ?_
              refine AllReadyH.cons rfl (fun K hK => ?_) AllReadyH.nil
              go_simp
              go_wp2_with ((go_at_call 20; (with_reducible refine (cT _ HAX.out).mono ?_); rintro e w' ⟨rfl, h9⟩; have h8 := h9.symm; clear h9; subst h8))
              refine hK.out _ _ (⟨z2, z1⟩) (fun hHeld => ?_)
              clear hK K
              (try simp only [List.setIfInBounds_toArray, List.set_cons_zero, List.set_cons_succ])
              iterate 4
                refine Tk.tk (v := ?_) rfl (by kernel_rfl) (fun _ _ _ h => h) (Or.inl ⟨by rfl, ?_⟩) (by assumption) ?_
                rotate_left
                · intro w' hSw
                  (try dsimp only at hSw)
                  (try simp only [Tk.nx, List.getElem_toArray, List.getElem_cons_zero, List.getElem_cons_succ])
                  go_simp
                  all_goals with_reducible rfl
                (try simp only [Tk.nx, Act.put, List.set_cons_zero, List.set_cons_succ, List.setIfInBounds_toArray, List.getElem_toArray, List.getElem_cons_zero, List.getElem_cons_succ])
              refine wpAnyH_ready (rs := [13]) (by kernel_rfl) (by simp) ?_
              refine AllReadyH.cons rfl (fun K hK => ?_) AllReadyH.nil
              go_simp
              go_wp2_with ((go_at_call 27; (with_reducible refine (cN _ HAX.out).mono ?_); rintro e w' ⟨rfl, h9⟩; have h8 := h9.symm; clear h9; subst h8))
              refine hK.out _ _ (⟨z2, z1⟩) (fun hHeld => ?_)
              clear hK K
              (try simp only [List.setIfInBounds_toArray, List.set_cons_zero, List.set_cons_succ])
              iterate 3
                refine Tk.tk (v := ?_) rfl (by kernel_rfl) (fun _ _ _ h => h) (Or.inl ⟨by rfl, ?_⟩) (by assumption) ?_
                rotate_left
                · intro w' hSw
                  (try dsimp only at hSw)
                  (try simp only [Tk.nx, List.getElem_toArray, List.getElem_cons_zero, List.getElem_cons_succ])
                  go_simp
                  all_goals with_reducible rfl
                (try simp only [Tk.nx, Act.put, List.set_cons_zero, List.set_cons_succ, List.setIfInBounds_toArray, List.getElem_toArray, List.getElem_cons_zero, List.getElem_cons_succ])
              refine wpAnyH_take (i := 18) (oi := _) (v := ?_) rfl (by kernel_rfl) (by kernel_rfl) (by kernel_rfl) (fun _ _ _ h => h) (Or.inl ⟨by rfl, ?_⟩) (by assumption) ?_
              rotate_left
              · intro w' hSw
                (try dsimp only at hSw)
                go_simp
                all_goals with_reducible rfl
              (try simp only [Act.put, List.setIfInBounds_toArray, List.set_cons_zero, List.set_cons_succ, List.getElem_toArray, List.getElem_cons_zero, List.getElem_cons_succ])
              refine wpAnyH_take (i := 19) (oi := _) (v := ?_) rfl (by kernel_rfl) (by kernel_rfl) (by kernel_rfl) (fun _ _ _ h => h) (Or.inl ⟨by rfl, ?_⟩) (by assumption) ?_
              rotate_left
              · intro w' hSw
                (try dsimp only at hSw)
                go_simp
                all_goals with_reducible rfl
              (try simp only [Act.put, List.setIfInBounds_toArray, List.set_cons_zero, List.set_cons_succ, List.getElem_toArray, List.getElem_cons_zero, List.getElem_cons_succ])
              refine wpAnyH_ready (rs := [17]) (by kernel_rfl) (by simp) ?_
              refine AllReadyH.cons rfl (fun K hK => ?_) AllReadyH.nil
              go_simp
              go_wp2_with ((go_at_call 20; (with_reducible refine (cT _ HAX.out).mono ?_); rintro e w' ⟨rfl, h9⟩; have h8 := h9.symm; clear h9; subst h8))
              refine hK.out _ _ (⟨z2, z1⟩) (fun hHeld => ?_)
              clear hK K
              (try simp only [List.setIfInBounds_toArray, List.set_cons_zero, List.set_cons_succ])
              iterate 3
                refine Tk.tk (v := ?_) rfl (by kernel_rfl) (fun _ _ _ h => h) (Or.inl ⟨by rfl, ?_⟩) (by assumption) ?_
                rotate_left
                · intro w' hSw
                  (try dsimp only at hSw)
                  (try simp only [Tk.nx, List.getElem_toArray, List.getElem_cons_zero, List.getElem_cons_succ])
                  go_simp
                  all_goals with_reducible rfl
                (try simp only [Tk.nx, Act.put, List.set_cons_zero, List.set_cons_succ, List.setIfInBounds_toArray, List.getElem_toArray, List.getElem_cons_zero, List.getElem_cons_succ])
              refine wpAnyH_done (by kernel_rfl) ?_ _
              go_wp2
              go_roundw
              case rel => exact ⟨j + 1, c4, hlt, rfl, by rw [← HS1.out]; exact HAX.out, HX5.out.2.1, HX6.out.2.drew, HZ1.out.1, HZ1.out.2⟩
              case measure => simp [intOf]; omega
            · have g4 : decide (0 < S1.now) = false := by simp; omega
              clear hbq hBj hnw
              go_upto_region 17 with fail
              refine Tk.st 23 [false, false, false, false, false, false, false, false, false, false, false, false, false, false, false, false, false, false, false, false, false, false, false] (S := fun w' => w'.cell? ⟨w.heap.size, 2, none⟩ = some (.int .i64 p.mx) ∧ w'.cell? ⟨w.heap.size, 1, none⟩ = some (.int .i64 p.mn)) (by kernel_rfl) (by kernel_rfl) (⟨z2, z1⟩) (fun hHeld => ?_)
              iterate 6
                refine Tk.tk (v := ?_) rfl (by kernel_rfl) (fun _ _ _ h => h) (Or.inl ⟨by rfl, ?_⟩) (by assumption) ?_
                rotate_left
                · intro w' hSw
                  (try dsimp only at hSw)
                  (try simp only [Tk.nx, List.getElem_toArray, List.getElem_cons_zero, List.getElem_cons_succ])
                  go_simp
                  all_goals with_reducible rfl
                (try simp only [Tk.nx, Act.put, List.set_cons_zero, List.set_cons_succ, List.setIfInBounds_toArray, List.getElem_toArray, List.getElem_cons_zero, List.getElem_cons_succ])
              refine wpAnyH_take (i := 7) (oi := _) (v := ?_) rfl (by kernel_rfl) (by kernel_rfl) (by kernel_rfl) (fun _ _ _ h => h) (Or.inl ⟨by rfl, ?_⟩) (by assumption) ?_
              rotate_left
              · intro w' hSw
                (try dsimp only at hSw)
                go_simp
                all_goals with_reducible rfl
              (try simp only [Act.put, List.setIfInBounds_toArray, List.set_cons_zero, List.set_cons_succ, List.getElem_toArray, List.getElem_cons_zero, List.getElem_cons_succ])
              refine wpAnyH_take (i := 8) (oi := _) (v := ?_) rfl (by kernel_rfl) (by kernel_rfl) (by kernel_rfl) (fun _ _ _ h => h) (Or.inl ⟨by rfl, ?_⟩) (by assumption) ?_
              rotate_left
              · intro w' hSw
                (try dsimp only at hSw)
                go_simp
                all_goals with_reducible rfl
              (try simp only [Act.put, List.setIfInBounds_toArray, List.set_cons_zero, List.set_cons_succ, List.getElem_toArray, List.getElem_cons_zero, List.getElem_cons_succ])
              refine wpAnyH_ready (rs := [6]) (by kernel_rfl) (by simp) ?_
              refine AllReadyH.cons rfl (fun K hK => ?_) AllReadyH.nil
              go_simp
              go_wp2_with ((go_at_call 20; (with_reducible refine (cT _ HAX.out).mono ?_); rintro e w' ⟨rfl, h9⟩; have h8 := h9.symm; clear h9; subst h8))
              refine hK.out _ _ (⟨z2, z1⟩) (fun hHeld => ?_)
              clear hK K
              (try simp only [List.setIfInBounds_toArray, List.set_cons_zero, List.set_cons_succ])
              iterate 4
                refine Tk.tk (v := ?_) rfl (by kernel_rfl) (fun _ _ _ h => h) (Or.inl ⟨by rfl, ?_⟩) (by assumption) ?_
                rotate_left
                · intro w' hSw
                  (try dsimp only at hSw)
                  (try simp only [Tk.nx, List.getElem_toArray, List.getElem_cons_zero, List.getElem_cons_succ])
                  go_simp
                  all_goals with_reducible rfl
                (try simp only [Tk.nx, Act.put, List.set_cons_zero, List.set_cons_succ, List.setIfInBounds_toArray, List.getElem_toArray, List.getElem_cons_zero, List.getElem_cons_succ])
              refine wpAnyH_ready (rs := [13]) (by kernel_rfl) (by simp) ?_
              refine AllReadyH.cons rfl (fun K hK => ?_) AllReadyH.nil
              go_simp
              go_wp2_with ((go_at_call 27; (with_reducible refine (cN _ HAX.out).mono ?_); rintro e w' ⟨rfl, h9⟩; have h8 := h9.symm; clear h9; subst h8))
              refine hK.out _ _ (⟨z2, z1⟩) (fun hHeld => ?_)
              clear hK K
              (try simp only [List.setIfInBounds_toArray, List.set_cons_zero, List.set_cons_succ])
              iterate 2
                refine Tk.tk (v := ?_) rfl (by kernel_rfl) (fun _ _ _ h => h) (Or.inl ⟨by rfl, ?_⟩) (by assumption) ?_
                rotate_left
                · intro w' hSw
                  (try dsimp only at hSw)
                  (try simp only [Tk.nx, List.getElem_toArray, List.getElem_cons_zero, List.getElem_cons_succ])
                  go_simp
                  all_goals with_reducible rfl
                (try simp only [Tk.nx, Act.put, List.set_cons_zero, List.set_cons_succ, List.setIfInBounds_toArray, List.getElem_toArray, List.getElem_cons_zero, List.getElem_cons_succ])
              iterate 5
                refine Tk.tk (v := undef) rfl (by kernel_rfl) (fun _ _ _ h => h) (Or.inr ⟨by rfl, rfl⟩) (by assumption) ?_
                (try simp only [Tk.nx, Act.put, List.set_cons_zero, List.set_cons_succ, List.setIfInBounds_toArray, List.getElem_toArray, List.getElem_cons_zero, List.getElem_cons_succ])
              iterate 2
                refine Tk.tk (v := ?_) rfl (by kernel_rfl) (fun _ _ _ h => h) (Or.inl ⟨by rfl, ?_⟩) (by assumption) ?_
                rotate_left
                · intro w' hSw
                  (try dsimp only at hSw)
                  (try simp only [Tk.nx, List.getElem_toArray, List.getElem_cons_zero, List.getElem_cons_succ])
                  go_simp
                  all_goals with_reducible rfl
                (try simp only [Tk.nx, Act.put, List.set_cons_zero, List.set_cons_succ, List.setIfInBounds_toArray, List.getElem_toArray, List.getElem_cons_zero, List.getElem_cons_succ])
              refine wpAnyH_done (by kernel_rfl) ?_ _
              go_wp2
              go_roundw
              case rel => exact ⟨j + 1, c4, hlt, rfl, by rw [← HS1.out]; exact HAX.out, HX5.out.2.1, HX6.out.2.drew, HZ1.out.1, HZ1.out.2⟩
              case measure => simp [intOf]; omega
      · obtain rfl : j = m := by omega
        go_wp2
        go_ret
        exact ⟨rfl, hbr⟩
theorem topBounds_any (hB : Lai.BdsAt w) (hi : PdI p) (hl : p.nm.length ≤ 9223372036854775807) (hT : TrsAt w ta ts) (hU : ∀ t ∈ ts, TrU t) (hH : Frm.RowsIn w ao m 3 X) :
    Calls Tryz.prog 4 #[planV p (.slice ta ts.length tc), .int .i64 parts, .int .i64 most, .int .i64 sec, .slice ao m cap] w fun e w' => e = .returned (.bool true) ∧ Below w.heap.size w w' := by
  by_cases hc : newE p ts parts sec = 0
  · obtain ⟨h1, h2, h3⟩ := newE_nil hc
    obtain ⟨N, rfl⟩ : ∃ N : Nat, parts = (N : Int) := ⟨parts.toNat, by omega⟩
    by_cases hm : m ≤ 60
    · exact tb_yes p ta tc ts most sec ao m cap X w N hB hi hl hT h1 hU (by omega) h3 hm hH
    · exact tb_many p ta tc ts most sec ao m cap w N hB hi hl hT h1 (by omega) h3 (by omega)
  · exact tb_no p ta tc ts parts most sec ao m cap w hB hi hl hT hc
end
end Wld
end Go.Proofs.YtfmahbjidljhmaiGreatDoor
