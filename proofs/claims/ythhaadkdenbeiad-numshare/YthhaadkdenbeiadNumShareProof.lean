/- Proved: tidekeep.NumShare answers true for every three ints a, b, mille (no condition): num.Share of small numbers is the quotient rounded down; a share of a thousand is all; two shares are not more than the share of both, and at most one less. -/
import Derived.Test.YthhaadkdenbeiadRows
import Derived.WalkKit
import Derived.ProofKit
import Derived.OpenShut
import Derived.Test.YthhaadkdenbeiadNumWalks
namespace Go.Proofs.Ythhaadkdenbeiad.numShare
open Go.ChangeShapes Go.WideShapes Go.ChangeAt Go.RowKit
set_option linter.unusedVariables false      -- a walk need not use every 'w<i>' (that an integer argument fits its kind)

theorem own : ownKnob Try.prog.godebug = none := by kernel_rfl

open Plain Num
theorem rest_any (n m : Int) (w : World) (h1 : 1 ≤ m) (h2 : m ≤ 1000000000) :
    Calls Try.prog 12 #[.int .i64 n, .int .i64 m] w fun e w' => e = .returned (.int .i64 (n % m)) ∧ w' = w := by
  have hm : ¬ m = 0 := by omega
  have h3 := Int.tmod_lt_of_pos n (show 0 < m by omega)
  have h4 : -m < n.tmod m := by
    have := Int.tmod_lt_of_pos (-n) (show 0 < m by omega)
    rw [Int.neg_tmod] at this
    omega
  by_cases hr : n.tmod m < 0
  · have HE : Hid (n.tmod m + m = n % m) := by
      have := Int.emod_eq_add_self_emod (a := n.tmod m) (b := m)
      have h5 : (n.tmod m + m) % m = n.tmod m + m := Int.emod_eq_of_lt (by omega) (by omega)
      have h6 : n.tmod m % m = n % m := by
        have h7 := Int.tmod_add_mul_tdiv n m
        have h8 : n.tmod m = n + m * -(n.tdiv m) := by rw [Int.mul_neg]; omega
        rw [h8, Int.add_mul_emod_self_left]
      show n.tmod m + m = n % m
      omega
    go_enter Try.func12, Try.ntmps12
    go_wp2
    go_ret
    exact ⟨ret_int HE.out, rfl⟩
  · have HE : Hid (n.tmod m = n % m) := by
      have h5 : n.tmod m % m = n.tmod m := Int.emod_eq_of_lt (by omega) (by omega)
      have h6 : n.tmod m % m = n % m := by
        have h7 := Int.tmod_add_mul_tdiv n m
        have h8 : n.tmod m = n + m * -(n.tdiv m) := by rw [Int.mul_neg]; omega
        rw [h8, Int.add_mul_emod_self_left]
      show n.tmod m = n % m
      omega
    go_enter Try.func12, Try.ntmps12
    go_wp2
    go_ret
    exact ⟨ret_int HE.out, rfl⟩

theorem prod_bd (a m : Int) (ha : 0 ≤ a ∧ a ≤ 2000000000) (hm : 0 ≤ m ∧ m ≤ 100000) : 0 ≤ a * m ∧ a * m ≤ 200000000000000 := by
  have h1 := Int.mul_nonneg ha.1 hm.1
  have h2 : a * m ≤ 2000000000 * m := Int.mul_le_mul_of_nonneg_right ha.2 hm.1
  omega

theorem share_small (a m : Int) (w : World) (ha : 0 ≤ a ∧ a ≤ 2000000000) (hm : 0 ≤ m ∧ m ≤ 100000) :
    Calls Try.prog 11 #[.int .i64 a, .int .i64 m] w fun e w' => e = .returned (.int .i64 (a * m / 1000)) ∧ w' = w := by
  refine (share_any a m w).mono ?_
  rintro e w' ⟨rfl, rfl⟩
  refine ⟨ret_int ?_, rfl⟩
  have hp := prod_bd a m ha hm
  rw [clip_in (n := a) (by omega) (by omega), clip_in (n := m) (by omega) (by omega), atz_pos ha.1, atz_pos hm.1]
  unfold share
  exact clip_in (by omega) (by omega)
/-! ### STEP 1: THE WALK: the Go text returns true. 'Grown w w'': the world has at most new blocks (Derived/RowKit3.lean). Part the cases AHEAD of 'go_enter' where a test parts the walk; take each callee by a contract of your own. -/
theorem walk (a0 : Int) (a1 : Int) (a2 : Int) (w0 : (Lit.int .i64 a0).wf = true) (w1 : (Lit.int .i64 a1).wf = true) (w2 : (Lit.int .i64 a2).wf = true) (w : World) :
    Calls Try.prog 5 #[.int .i64 a0, .int .i64 a1, .int .i64 a2] w fun e w' => e = .returned (.bool true) ∧ Grown w w' := by
  have ha : 0 ≤ a0 % 1000000000 ∧ a0 % 1000000000 ≤ 1000000000 := by omega
  have hb : 0 ≤ a1 % 1000000000 ∧ a1 % 1000000000 ≤ 1000000000 := by omega
  have hm : 0 ≤ a2 % 100000 ∧ a2 % 100000 ≤ 100000 := by omega
  have pa := prod_bd (a0 % 1000000000) (a2 % 100000) (by omega) hm
  have pb := prod_bd (a1 % 1000000000) (a2 % 100000) (by omega) hm
  have pe : (a0 % 1000000000 + a1 % 1000000000) * (a2 % 100000) = a0 % 1000000000 * (a2 % 100000) + a1 % 1000000000 * (a2 % 100000) := Int.add_mul _ _ _
  have p1 : a0 % 1000000000 * (a2 % 100000) / 1000 + a1 % 1000000000 * (a2 % 100000) / 1000 ≤ (a0 % 1000000000 + a1 % 1000000000) * (a2 % 100000) / 1000 := by omega
  have p2 : (a0 % 1000000000 + a1 % 1000000000) * (a2 % 100000) / 1000 ≤ a0 % 1000000000 * (a2 % 100000) / 1000 + a1 % 1000000000 * (a2 % 100000) / 1000 + 1 := by omega
  clear pe
  go_enter Try.func5, Try.ntmps5
  go_wp2_with (first | (go_at_call 12; refine (rest_any _ _ _ (by omega) (by omega)).mono ?_; rintro e w' ⟨rfl, rfl⟩) | (go_at_call 11; refine (share_small _ _ _ (by omega) (by omega)).mono ?_; rintro e w' ⟨rfl, rfl⟩))
  go_ret
  exact ⟨rfl, Grown.refl _⟩

/-! ### THE ROW's STEP: WRITTEN OUT: LEAVE IT -/
set_option maxRecDepth 100000 in
theorem lifted (os : Os) (started : os.Started) (H : Type) (enc : TypeId × Value → H) :
    ReturnsInHanded {} Try.checked os 5 .any (Rows.numShareSpec.pre6 enc Try.prog Try.f5 Rows.numShareRow.domain false) (Rows.numShareSpec.post enc Try.prog Try.f5 false true false false) := by
  refine returnsInHanded_of_change (C := Try.checked) own started (by kernel_rfl) Try.func5
    (ChangeSpec.witness6 (enc := enc) (C := Try.checked) false ⟨#[], #[.int .i64 0, .int .i64 0, .int .i64 0], []⟩ 8 (by kernel_rfl) (by kernel_rfl) (by kernel_rfl) (by kernel_rfl)) ?_
  intro W base args ds gs before hval0 hW hcnd _
  have hval : ∀ (j : Nat) t v, Try.f5.params[j]? = some t → args[j]? = some v → Value.okWide Try.prog W .any base t v := hval0
  have hW' := hW
  obtain ⟨p, q, hA0, hV, rfl, hfz, hnd⟩ := hW
  have hA : DataW.TrodAll enc Try.prog W 0 (fun _ => true) true Try.f5.params.toList args.toList ds p := hA0
  rw [Try.params5] at hA hval
  obtain ⟨v0, vs0, d0, ds0, p0, q0, hargs, rfl, rfl, h0, r0⟩ := trodAll_cons hA
  obtain ⟨v1, vs1, d1, ds1, p1, q1, rfl, rfl, rfl, h1, r1⟩ := trodAll_cons r0
  obtain ⟨v2, vs2, d2, ds2, p2, q2, rfl, rfl, rfl, h2, r2⟩ := trodAll_cons r1
  obtain ⟨rfl, rfl, rfl⟩ := trodAll_nil r2
  obtain rfl : args = #[v0, v1, v2] := by cases args; simp_all
  obtain ⟨rfl, rfl⟩ := trodVars_none hV
  obtain ⟨a0, rfl, rfl, rfl, w0⟩ := open_int Try.underlying3 (hval 0 3 v0 rfl rfl) h0
  obtain ⟨a1, rfl, rfl, rfl, w1⟩ := open_int Try.underlying3 (hval 1 3 v1 rfl rfl) h1
  obtain ⟨a2, rfl, rfl, rfl, w2⟩ := open_int Try.underlying3 (hval 2 3 v2 rfl rfl) h2
  clear hA0 hval0
  simp only [List.append_nil] at hW'
  refine (walk a0 a1 a2 w0 w1 w2 W).mono fun e W' ⟨he, hg⟩ => ?_
  subst he
  exact ⟨_, rfl, post_of_same (pa := []) (pv := []) hW' (fun _ _ _ => (trodAll_cons_mk (shut_bool Try.underlying4 _) trodAll_mk0)) (fun sp _ => (trodAll_cons_mk (shut_int Try.underlying3 w0) (trodAll_cons_mk (shut_int Try.underlying3 w1) (trodAll_cons_mk (shut_int Try.underlying3 w2) trodAll_mk0)))) (fun _ _ => rfl) rfl
    (hg.frame _) hg.2.1 (ok_one (by kernel_rfl) rfl (okWide_bool_mk Try.underlying4 _))⟩

theorem over : Rows.numShareRow.holds Try.pinned (OpenSpec.ofChange Rows.numShareSpec) :=
  OpenClaim.holds_of_wide 5 Try.f5 rfl rfl rfl rfl rfl rfl rfl ⟨rfl, rfl, rfl, rfl, rfl⟩ rfl rfl rfl rfl rfl (by kernel_rfl) Try.func5 (by kernel_rfl)
    (of_decide_eq_true (by kernel_rfl)) (by unfold Func.isWrapper; first | (rw [if_pos (by decide +kernel)]; kernel_rfl) | (rw [if_neg (by decide +kernel)]; exact ⟨rfl, rfl⟩))
    (fun os started H enc _ => lifted os started H enc)

/-- ████ THE STATEMENT ████ -/
theorem proved : Rows.NumShareSaid :=
  over
#print axioms proved
end Go.Proofs.Ythhaadkdenbeiad.numShare
