/- Proved: tidekeep.CivilRight answers true for every api.Civil c and int shift (no condition): where civil.Seconds answers a sec, civil.Of of it is c again, its Week from 0 to 6; else the sec is 0. -/
import Derived.Test.YtdoblmgilinknadRows
import Derived.WalkKit
import Derived.ProofKit
import Derived.OpenShut
import Derived.ShutString
import Derived.ChangeOld
import Derived.Below
import Derived.Test.YtdoblmgilinknadFrame
import Derived.Test.YtdoblmgilinknadCivilFaces
namespace Go.Proofs.Ytdoblmgilinknad.civilRight
open Go.ChangeShapes Go.WideShapes Go.ChangeAt Go.RowKit
set_option linter.unusedVariables false

theorem own : ownKnob Try.prog.godebug = none := by kernel_rfl
theorem laidOut : laidOutB Try.prog = true := by kernel_rfl

theorem cells32 : Try.prog.cellTypes Try.prog.depth 32 = some [3, 3, 3, 3, 3, 3, 3] := by kernel_rfl
theorem count32 : Try.prog.cellsOf 32 = 7 := by kernel_rfl
theorem list7of32 {cs : List Value} (h : cs.length = 7) : ∃ c0 c1 c2 c3 c4 c5 c6, cs = [c0, c1, c2, c3, c4, c5, c6] := by
  match cs, h with | [c0, c1, c2, c3, c4, c5, c6], _ => exact ⟨c0, c1, c2, c3, c4, c5, c6, rfl⟩
theorem open32 {W : World} {r : Reach} {base : Nat} {v : Value} (h : Value.okWide Try.prog W r base 32 v) :
    ∃ (f0 : Int) (f1 : Int) (f2 : Int) (f3 : Int) (f4 : Int) (f5 : Int) (f6 : Int), v = .agg #[.int .i64 f0, .int .i64 f1, .int .i64 f2, .int .i64 f3, .int .i64 f4, .int .i64 f5, .int .i64 f6] ∧ (-9223372036854775808 ≤ f0 ∧ f0 ≤ 9223372036854775807) ∧ (-9223372036854775808 ≤ f1 ∧ f1 ≤ 9223372036854775807) ∧ (-9223372036854775808 ≤ f2 ∧ f2 ≤ 9223372036854775807) ∧ (-9223372036854775808 ≤ f3 ∧ f3 ≤ 9223372036854775807) ∧ (-9223372036854775808 ≤ f4 ∧ f4 ≤ 9223372036854775807) ∧ (-9223372036854775808 ≤ f5 ∧ f5 ≤ 9223372036854775807) ∧ (-9223372036854775808 ≤ f6 ∧ f6 ≤ 9223372036854775807) := by
  obtain ⟨cs, rfl, hn, hc⟩ := Frm.agg_cells Try.underlying32 cells32 (by rw [count32]; rfl) h
  obtain ⟨c0, c1, c2, c3, c4, c5, c6, rfl⟩ := list7of32 hn
  obtain ⟨f0, rfl, g0⟩ := Frm.cell_int Try.underlying3 (hc 0 _ _ rfl rfl)
  obtain ⟨f1, rfl, g1⟩ := Frm.cell_int Try.underlying3 (hc 1 _ _ rfl rfl)
  obtain ⟨f2, rfl, g2⟩ := Frm.cell_int Try.underlying3 (hc 2 _ _ rfl rfl)
  obtain ⟨f3, rfl, g3⟩ := Frm.cell_int Try.underlying3 (hc 3 _ _ rfl rfl)
  obtain ⟨f4, rfl, g4⟩ := Frm.cell_int Try.underlying3 (hc 4 _ _ rfl rfl)
  obtain ⟨f5, rfl, g5⟩ := Frm.cell_int Try.underlying3 (hc 5 _ _ rfl rfl)
  obtain ⟨f6, rfl, g6⟩ := Frm.cell_int Try.underlying3 (hc 6 _ _ rfl rfl)
  exact ⟨f0, f1, f2, f3, f4, f5, f6, rfl, Frm.bd_i64 g0, Frm.bd_i64 g1, Frm.bd_i64 g2, Frm.bd_i64 g3, Frm.bd_i64 g4, Frm.bd_i64 g5, Frm.bd_i64 g6⟩

open Cal Civ
theorem secs_c1 (w : World) : Calls Try.prog 17 #[civ 1970 1 2 0 0 0 0, .int .i64 60] w fun e w' => e = .returned (.tuple #[.int .i64 82800, .int .i64 0]) ∧ Below w.heap.size w w' :=
  secs_yes 1970 1 2 0 0 0 0 60 w (by decide)
theorem right_at (y m d h i s shift : Int) (hy : secB y m d h i s shift = true) :
    tmB (sv y m d h i s shift) = true ∧ shB shift = true ∧
    ofv (sc (sv y m d h i s shift) shift) = civ y m d h i s ((num y m d + 2180498 + 6) % 7) := by
  unfold secB at hy
  simp only [Bool.and_eq_true] at hy
  obtain ⟨hv, hs, hk, ht⟩ := hy
  have v := (vld_iff _ _ _).1 hv
  have k := (ck_iff _ _ _).1 hk
  have e0 : sc (sv y m d h i s shift) shift / 86400 = num y m d + 2180498 := by unfold sc sv; omega
  have e1 : sc (sv y m d h i s shift) shift % 86400 / 3600 = h := by unfold sc sv; omega
  have e2 : sc (sv y m d h i s shift) shift % 3600 / 60 = i := by unfold sc sv; omega
  have e3 : sc (sv y m d h i s shift) shift % 60 = s := by unfold sc sv; omega
  obtain ⟨d1, d2, d3⟩ := date_is (n := num y m d + 2180498) (y := y) (m := m) (d := d) ⟨v.2.2.1, v.2.2.2.1, v.2.2.2.2.1, v.2.2.2.2.2⟩ (by unfold num; omega)
  refine ⟨ht, hs, ?_⟩
  unfold ofv
  rw [e1, e2, e3, e0, d1, d2, d3]
theorem of_right (y m d h i s shift : Int) (w : World) (hy : secB y m d h i s shift = true) :
    Calls Try.prog 16 #[.int .i64 (sv y m d h i s shift), .int .i64 shift] w fun e w' => e = .returned (.tuple #[civ y m d h i s ((num y m d + 2180498 + 6) % 7), .int .i64 0]) ∧ Below w.heap.size w w' := by
  obtain ⟨ht, hs, e⟩ := right_at y m d h i s shift hy
  have := of_yes _ shift w ht hs
  rw [e] at this
  exact this

set_option maxHeartbeats 2000000 in
theorem walk (a0_Year : Int) (a0_Month : Int) (a0_Day : Int) (a0_Hour : Int) (a0_Minute : Int) (a0_Second : Int) (a0_Week : Int) (a1 : Int) (b0_Year : (-9223372036854775808 ≤ a0_Year ∧ a0_Year ≤ 9223372036854775807)) (b0_Month : (-9223372036854775808 ≤ a0_Month ∧ a0_Month ≤ 9223372036854775807)) (b0_Day : (-9223372036854775808 ≤ a0_Day ∧ a0_Day ≤ 9223372036854775807)) (b0_Hour : (-9223372036854775808 ≤ a0_Hour ∧ a0_Hour ≤ 9223372036854775807)) (b0_Minute : (-9223372036854775808 ≤ a0_Minute ∧ a0_Minute ≤ 9223372036854775807)) (b0_Second : (-9223372036854775808 ≤ a0_Second ∧ a0_Second ≤ 9223372036854775807)) (b0_Week : (-9223372036854775808 ≤ a0_Week ∧ a0_Week ≤ 9223372036854775807)) (b1 : (-9223372036854775808 ≤ a1 ∧ a1 ≤ 9223372036854775807)) (w : World) :
    Calls Try.prog 7 #[.agg #[.int .i64 a0_Year, .int .i64 a0_Month, .int .i64 a0_Day, .int .i64 a0_Hour, .int .i64 a0_Minute, .int .i64 a0_Second, .int .i64 a0_Week], .int .i64 a1] w fun e w' => e = .returned (.bool true) ∧ Below w.heap.size w w' := by
  cases hy : secB a0_Year a0_Month a0_Day a0_Hour a0_Minute a0_Second a1
  · go_enter Try.func7, Try.ntmps7
    go_wp2_with (first | (go_at_call 17; with_reducible refine (secs_c1 _).mono ?_; rintro e w1 ⟨rfl, hb1⟩; obtain ⟨hc1, hf1⟩ := bcell hb1; have hz1 : w.heap.size < w1.heap.size := (by have := hb1.size; simp at this; omega)) | (go_at_call 17; with_reducible refine (secs_no a0_Year a0_Month a0_Day a0_Hour a0_Minute a0_Second a0_Week a1 _ hy).mono ?_; rintro e w2 ⟨rfl, hb2⟩; obtain ⟨hc2, hf2⟩ := bcell hb2))
    go_ret
    exact ⟨rfl, bstep (bstep (bstepA (Below.refl _ _) _) hb1) hb2⟩
  · have q : 0 ≤ (num a0_Year a0_Month a0_Day + 2180498 + 6) % 7 ∧ (num a0_Year a0_Month a0_Day + 2180498 + 6) % 7 < 7 := by omega
    go_enter Try.func7, Try.ntmps7
    go_wp2_with (first | (go_at_call 17; with_reducible refine (secs_c1 _).mono ?_; rintro e w1 ⟨rfl, hb1⟩; obtain ⟨hc1, hf1⟩ := bcell hb1; have hz1 : w.heap.size < w1.heap.size := (by have := hb1.size; simp at this; omega)) | (go_at_call 17; with_reducible refine (secs_yes a0_Year a0_Month a0_Day a0_Hour a0_Minute a0_Second a0_Week a1 _ hy).mono ?_; rintro e w2 ⟨rfl, hb2⟩; obtain ⟨hc2, hf2⟩ := bcell hb2; have hz2 : w.heap.size < w2.heap.size := (by have := hb2.size; omega)) | (go_at_call 16; with_reducible refine (of_right a0_Year a0_Month a0_Day a0_Hour a0_Minute a0_Second a1 _ hy).mono ?_; rintro e w3 ⟨rfl, hb3⟩; obtain ⟨hc3, hf3⟩ := bcell hb3; have hz3 : w.heap.size < w3.heap.size := (by have := hb3.size; omega)))
    go_ret
    exact ⟨rfl, bstepA ((bstep (bstep (bstep (bstepA (Below.refl _ _) _) hb1) hb2) hb3).setCell (Nat.le_refl _) _) _⟩

set_option maxRecDepth 100000 in
theorem lifted (os : Os) (started : os.Started) (H : Type) (enc : TypeId × Value → H) :
    ReturnsInHanded {} Try.checked os 7 .any (Rows.civilRightSpec.pre6 enc Try.prog Try.f7 Rows.civilRightRow.domain false) (Rows.civilRightSpec.post enc Try.prog Try.f7 false true false false) := by
  refine returnsInHanded_of_change (C := Try.checked) own started (by kernel_rfl) Try.func7
    (ChangeSpec.witness6 (enc := enc) (C := Try.checked) false ⟨#[], #[.agg #[.int .i64 0, .int .i64 0, .int .i64 0, .int .i64 0, .int .i64 0, .int .i64 0, .int .i64 0], .int .i64 0], []⟩ 8 (by kernel_rfl) (by kernel_rfl) (by kernel_rfl) (by kernel_rfl)) ?_
  intro W base args ds gs before hval0 hW hcnd _
  have hval : ∀ (j : Nat) t v, Try.f7.params[j]? = some t → args[j]? = some v → Value.okWide Try.prog W .any base t v := hval0
  have hW' := hW
  obtain ⟨p, q, hA0, hV, rfl, hfz, hnd⟩ := hW
  have hA : DataW.TrodAll enc Try.prog W 0 (fun _ => true) true Try.f7.params.toList args.toList ds p := hA0
  rw [Try.params7] at hA hval
  obtain ⟨v0, vs0, d0, ds0, p0, q0, hargs, rfl, rfl, k0, r0⟩ := trodAll_cons hA
  obtain ⟨v1, vs1, d1, ds1, p1, q1, rfl, rfl, rfl, k1, r1⟩ := trodAll_cons r0
  obtain ⟨rfl, rfl, rfl⟩ := trodAll_nil r1
  obtain rfl : args = #[v0, v1] := by cases args; simp_all
  obtain ⟨rfl, rfl⟩ := trodVars_none hV
  have lt0 : ∀ x ∈ p0, x.block < W.heap.size := by obtain ⟨m, hm⟩ := k0; exact DataW.trod_lt m _ _ _ hm
  have lt1 : ∀ x ∈ p1, x.block < W.heap.size := by obtain ⟨m, hm⟩ := k1; exact DataW.trod_lt m _ _ _ hm
  obtain ⟨a0_Year, a0_Month, a0_Day, a0_Hour, a0_Minute, a0_Second, a0_Week, rfl, b0_Year, b0_Month, b0_Day, b0_Hour, b0_Minute, b0_Second, b0_Week⟩ := open32 (hval 0 32 v0 rfl rfl)
  obtain ⟨a1, rfl, g1⟩ := Frm.val_int Try.underlying3 (hval 1 3 v1 rfl rfl)
  clear hA0 hval0
  refine (walk a0_Year a0_Month a0_Day a0_Hour a0_Minute a0_Second a0_Week a1 b0_Year b0_Month b0_Day b0_Hour b0_Minute b0_Second b0_Week (Frm.bd_i64 g1) W).mono fun e W' ⟨he, bel⟩ => ?_
  subst he
  exact ⟨_, rfl, _, _, _, [], _, [], hW', trodAll_mk1 (shut_bool Try.underlying4 _), (trodAll_cons_mk (Below.trod laidOut (by kernel_rfl) (of_decide_eq_true (by kernel_rfl)) k0 bel lt0) (trodAll_cons_mk (Below.trod laidOut (by kernel_rfl) (of_decide_eq_true (by kernel_rfl)) k1 bel lt1) trodAll_mk0)), rfl, bel.frame _, fun h => by cases h⟩

theorem over : Rows.civilRightRow.holds Try.pinned (OpenSpec.ofChange Rows.civilRightSpec) :=
  OpenClaim.holds_of_wide 7 Try.f7 rfl rfl rfl rfl rfl rfl rfl ⟨rfl, rfl, rfl, rfl, rfl⟩ rfl rfl rfl rfl rfl (by kernel_rfl) Try.func7 (by kernel_rfl)
    (of_decide_eq_true (by kernel_rfl)) (by unfold Func.isWrapper; first | (rw [if_pos (by decide +kernel)]; kernel_rfl) | (rw [if_neg (by decide +kernel)]; exact ⟨rfl, rfl⟩))
    (fun os started H enc _ => lifted os started H enc)

theorem proved : Rows.CivilRightSaid :=
  over
#print axioms proved
end Go.Proofs.Ytdoblmgilinknad.civilRight
