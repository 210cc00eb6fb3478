/- What plan.Check answers, of every plan. -/
import Derived.Test.YtcfncgjpbdkagabDoorPk4
namespace Go.Proofs.YtcfncgjpbdkagabDoor
namespace Pln
open Go.RowKit Lai Civ Crn
set_option maxRecDepth 8000

set_option maxHeartbeats 8000000 in
theorem check_good (p : Pd) (ts : List Tr) (a : Option Addr) (cap : Nat) (w : World) (hB : BdsAt w) (hi : PdI p) (hl : p.nm.length ≤ 9223372036854775807) (hT : TrsAt w a ts) (h1 : nmB p.nm = true) (h2 : ¬ 5 < ts.length) (hn : numB p = true) (hu : paceB p.uw p.up p.uc p.ue = true) (hd : paceB p.dw p.dp p.dc p.de = true) :
    Calls Tryd.prog 16 #[planV p (.slice a ts.length cap)] w fun e w' => e = .returned (.int .i64 (chkP p ts)) ∧ Below w.heap.size w w' := by
  have c1 := fun w => isName_any p.nm w hl
  rw [h1] at c1
  have h2' : ¬ (5 : Int) < ts.length := by omega
  have c2 := fun w => numbers_any p (.slice a ts.length cap) w hi
  rw [hn] at c2
  have c3 := fun w => pace_any p.uw p.up p.uc p.ue w
  rw [hu] at c3
  have c4 := fun w => pace_any p.dw p.dp p.dc p.de w
  rw [hd] at c4
  have h3 : okP p = true := by unfold okP; rw [hn, hu, hd]; rfl
  have HG : Hid (∀ k t, ts[k]? = some t → trB t = false → chkP p ts = 1) := fun k t hk ht => chk_bad h1 h2 h3 hk ht
  have HO : Hid ((∀ j t, j < ts.length → ts[j]? = some t → trB t = true) → chkP p ts = 0) := fun h => chk_good h1 h2 h3 h
  clear hn hu hd h1 h3 hi hl
  go_enter Tryd.func16, Tryd.ntmps16
  go_wp2_with (first
    | (with_reducible refine wp_plan hA1 (by with_unfolding_all rfl) ?_)
    | (go_at_call 35; (with_reducible refine (c1 _).mono ?_); rintro e w1 ⟨rfl, hb1⟩; obtain ⟨hA1, hz1, hw1⟩ := boxB hb1; have hq : PlAt w1 w.heap.size p (.slice a ts.length cap) := PlAt.of hA1; clear hA1; have hA1 := hq; clear hq; have p17 := hA1.c17)
    | (go_at_call 36; (with_reducible refine (c2 _).mono ?_); rintro e w2 ⟨rfl, hb2⟩; have hw2 : Below w.heap.size w w2 := hw1.trans (hb2.mono hw1.size); have hz2 := Nat.lt_of_lt_of_le hz1 hb2.size; have hA2 := hA1.on hb2 hz1; clear p17; have u9 := hA2.c9; have u10 := hA2.c10; have u11 := hA2.c11; have u12 := hA2.c12)
    | (go_at_call 37; (with_reducible refine (c3 w2).mono ?_); rintro e w3 ⟨rfl, hb3⟩; have hw3 : Below w.heap.size w w3 := hw2.trans (hb3.mono hw2.size); have hz3 := Nat.lt_of_lt_of_le hz2 hb3.size; have hA3 := hA2.on hb3 hz2; clear u9 u10 u11 u12; have d13 := hA3.c13; have d14 := hA3.c14; have d15 := hA3.c15; have d16 := hA3.c16)
    | (go_at_call 37; (with_reducible refine (c4 w3).mono ?_); rintro e w4 ⟨rfl, hb4⟩; have hw4 : Below w.heap.size w w4 := hw3.trans (hb4.mono hw3.size); have hz4 := Nat.lt_of_lt_of_le hz3 hb4.size; have hA4 := hA3.on hb4 hz3; clear d13 d14 d15 d16; have q17 := hA4.c17))
  clear c1 c2 c3 c4 hA1 hA2 hA3 hA4 q17
  go_loopw [32] (fun i wr => CkR ts w i wr) (fun i _ => ts.length - (intOf i).toNat)
  case atStart => exact ⟨0, Nat.zero_le _, rfl, (fun j x hj => absurd hj (by omega)), hw4⟩
  case round =>
    clear hb1 hw1 hb2 hw2 hb3 hw3 hb4 hw4 hz1 hz2 hz3 hz4
    obtain ⟨k, hk1, rfl, hd0, hbw⟩ := hrel
    have HD : Hid (∀ j t, j < k → ts[j]? = some t → trB t = true) := hd0
    clear hd0
    have hBr := hB.below hbw (Nat.le_refl _)
    by_cases hlt : k < ts.length
    · have hlt' : (k : Int) < ts.length := by omega
      obtain ⟨t, hx⟩ : ∃ x, ts[k]? = some x := ⟨ts[k], by simp [hlt]⟩
      obtain ⟨b, off, rfl, hbl, hA⟩ := (hT.below hbw (Nat.le_refl _)).elem hx
      have HX : Hid (ts[k]? = some t) := hx
      have hN := TrAt.new wr t 63
      have c6 := fun w hB => ctrig_any t w hB
      have hB6 := fun o => hBr.below (balloc o) (Nat.le_refl _)
      clear hx hT
      cases ht : trB t
      · rw [trE_bad ht] at c6
        have HR : Hid (chkP p ts = 1) := HG.out k t HX.out ht
        clear ht HG HO
        go_wp2_with (first
          | (with_reducible refine wp_tr hA (by with_unfolding_all rfl) ?_)
          | (with_reducible refine wp_tr hN (by with_unfolding_all rfl) ?_)
          | (go_at_call 38; (with_reducible refine (c6 _ (hB6 _)).mono ?_); rintro e w6 ⟨rfl, hb6⟩))
        go_ret
        exact ⟨ret_n HR.out.symm, hbw.trans ((balloc _).trans (hb6.mono (by simp)) |>.mono hbw.size)⟩
      · rw [trE_ok ht] at c6
        have HR : Hid (trB t = true) := ht
        clear ht HG HO
        go_wp2_with (first
          | (with_reducible refine wp_tr hA (by with_unfolding_all rfl) ?_)
          | (with_reducible refine wp_tr hN (by with_unfolding_all rfl) ?_)
          | (go_at_call 38; (with_reducible refine (c6 _ (hB6 _)).mono ?_); rintro e w6 ⟨rfl, hb6⟩))
        go_roundw
        case rel =>
          refine ⟨k + 1, by omega, rfl, fun j y hj hy => ?_, hbw.trans ((balloc _).trans (hb6.mono (by simp)) |>.mono hbw.size)⟩
          by_cases e : j = k
          · subst e; rw [HX.out] at hy; cases hy; exact HR.out
          · exact HD.out j y (by omega) hy
        case measure => simp [intOf]; omega
    · obtain rfl : k = ts.length := by omega
      have HR : Hid (chkP p ts = 0) := HO.out HD.out
      clear hT
      go_wp2
      go_ret
      exact ⟨ret_n HR.out.symm, hbw⟩
theorem check_any (p : Pd) (ts : List Tr) (a : Option Addr) (cap : Nat) (w : World) (hB : BdsAt w) (hi : PdI p) (hl : p.nm.length ≤ 9223372036854775807) (hT : TrsAt w a ts) :
    Calls Tryd.prog 16 #[planV p (.slice a ts.length cap)] w fun e w' => e = .returned (.int .i64 (chkP p ts)) ∧ Below w.heap.size w w' := by
  cases h1 : nmB p.nm
  · exact check_name p ts a cap w hl h1
  · by_cases h2 : 5 < ts.length
    · exact check_many p ts a cap w hl h1 h2
    · cases hn : numB p
      · exact check_num p ts a cap w hi hl h1 h2 hn
      · cases hu : paceB p.uw p.up p.uc p.ue
        · exact check_up p ts a cap w hi hl h1 h2 hn hu
        · cases hd : paceB p.dw p.dp p.dc p.de
          · exact check_down p ts a cap w hi hl h1 h2 hn hu hd
          · exact check_good p ts a cap w hB hi hl hT h1 h2 hn hu hd
end Pln
end Go.Proofs.YtcfncgjpbdkagabDoor
