/- What the document's answer (tideref) says of plans: Plan, its triggers. -/
import Derived.Test.YtbnnplfmhmmbnacGreatDoorPkRefPlan
namespace Go.Proofs.YtbnnplfmhmmbnacGreatDoor
namespace Pln
open Go.RowKit Lai Civ Crn RCrn
set_option maxRecDepth 8000

set_option maxHeartbeats 8000000 in
theorem rplan_bad3 (p : Pd) (ts : List Tr) (a : Option Addr) (cap : Nat) (w : World) (hl : p.nm.length ≤ 9223372036854775807) (hT : TrsAt w a ts) (hU : ∀ t ∈ ts, TrU t) (h1 : nmB p.nm = true) (h2 : ¬ 5 < ts.length) (h3 : okP p = true) (hbad : ¬ ∀ (j : Nat) (t : Tr), j < ts.length → ts[j]? = some t → trB t = true) (hkind : ∀ (k : Nat) (t : Tr), (∀ (j : Nat) (u : Tr), j < k → ts[j]? = some u → trB u = true) → ts[k]? = some t → trB t = false → t.k = 3) :
    Calls Tryz.prog 5 #[planV p (.slice a ts.length cap)] w fun e w' => e = .returned (.int .i64 (chkP p ts)) ∧ Below w.heap.size w w' := by
  have h2' : ¬ (5 : Int) < ts.length := by omega
  have h3' := h3
  unfold okP paceB at h3'
  simp only [Bool.and_eq_true] at h3'
  obtain ⟨hn, ⟨u0, u1, u3, u2⟩, ⟨d0', d1', d3', d2'⟩⟩ := h3'
  replace u0 : RCiv.inB p.uw 0 100000 = true := u0
  replace u1 : RCiv.inB p.up 0 50 = true := u1
  replace u2 : RCiv.inB p.ue 0 100000 = true := u2
  replace u3 : RCiv.inB p.uc 0 1000 = true := u3
  replace d0' : RCiv.inB p.dw 0 100000 = true := d0'
  replace d1' : RCiv.inB p.dp 0 50 = true := d1'
  replace d2' : RCiv.inB p.de 0 100000 = true := d2'
  replace d3' : RCiv.inB p.dc 0 1000 = true := d3'
  have pu1 : okK true p 1 = true := by unfold okK paceB; rw [show rg p.uw 0 100000 = true from u0, show rg p.up 0 50 = true from u1, show rg p.ue 0 100000 = true from u2, show rg p.uc 0 1000 = true from u3]; rfl
  have pu2 : okK true p 2 = true := by unfold okK paceB; rw [show rg p.uw 0 100000 = true from u0, show rg p.up 0 50 = true from u1, show rg p.ue 0 100000 = true from u2, show rg p.uc 0 1000 = true from u3, show rg p.dw 0 100000 = true from d0', show rg p.dp 0 50 = true from d1', show rg p.de 0 100000 = true from d2', show rg p.dc 0 1000 = true from d3']; rfl
  have HG : Hid (∀ k t, ts[k]? = some t → trB t = false → chkP p ts = 1) := fun k t hk ht => chk_bad h1 h2 h3 hk ht
  have HB : Hid (¬ ∀ (j : Nat) (t : Tr), j < ts.length → ts[j]? = some t → trB t = true) := hbad
  have HK2 : Hid (∀ (k : Nat) (t : Tr), (∀ (j : Nat) (u : Tr), j < k → ts[j]? = some u → trB u = true) → ts[k]? = some t → trB t = false → t.k = 3) := hkind
  clear hbad h3 hkind
  have hsz : (⟨p.nm.toArray⟩ : ByteArray).size = p.nm.length := rfl
  have cI := fun n lo hi w => RCiv.in_any n lo hi w
  have hA0 := PlAt.new w p (.slice a ts.length cap) 26
  have hz0 : w.heap.size < (w.alloc (.cells (planC p (.slice a ts.length cap)) 26)).heap.size := by simp
  have hw0 : Below w.heap.size w (w.alloc (.cells (planC p (.slice a ts.length cap)) 26)) := balloc _
  go_enter Tryz.func5, Tryz.ntmps5
  go_wp2_with (go_at_call 9; (with_reducible refine (cI _ _ _ _).mono ?_); rintro e w1 ⟨rfl, h9⟩; have h8 := h9.symm; clear h9; subst h8)
  generalize w.alloc (.cells (planC p (.slice a ts.length cap)) 26) = W0 at hA0 hz0 hw0 ⊢
  have q0 := hA0.c0
  have HB0 : Hid (RCiv.inB (p.nm.length : Int) 1 16 = decide (1 ≤ p.nm.length ∧ p.nm.length ≤ 16)) := inB_len _
  generalize hb0 : RCiv.inB (p.nm.length : Int) 1 16 = b0 at HB0 ⊢
  clear hb0
  go_loopw [3, 4] (fun ok i wr => RnR p.nm b0 W0 ok i wr) (fun _ i _ => p.nm.length - (intOf i).toNat)
  case atStart => exact ⟨0, Nat.zero_le _, rfl, by simp, rfl⟩
  case round =>
    obtain ⟨k, hk1, rfl, rfl, h9⟩ := hrel
    have h8 := h9.symm
    clear h9
    subst h8
    by_cases hlt : k < p.nm.length
    · have hlt' : (k : Int) < p.nm.length := by omega
      obtain ⟨x, hx⟩ : ∃ x, p.nm[k]? = some x := ⟨p.nm[k], by simp [hlt]⟩
      have hxk : (⟨p.nm.toArray⟩ : ByteArray)[k]'(by rw [hsz]; exact hlt) = x := by
        have : p.nm[k] = x := by simpa [hlt] using hx
        exact this
      have HT : Hid ((p.nm.take (k + 1)).all nmC = ((p.nm.take k).all nmC && nmC x)) := by unfold Hid; rw [List.take_add_one, hx, List.all_append]; simp
      have hxu : (x.toNat : Int) ≤ 255 := by have := x.toNat_lt; omega
      have hx0 : 0 ≤ (x.toNat : Int) := by omega
      clear hx
      generalize hB : (b0 && (p.nm.take k).all nmC) = B at *
      have HB : Hid ((b0 && (p.nm.take k).all nmC) = B) := hB
      clear hB
      cases B
      · have HR : Hid (RnR p.nm b0 W0 (.bool false) (.int .i64 (((k + 1 : Nat)) : Int)) W0) := ⟨k + 1, by omega, rfl, by rw [HT.out, ← Bool.and_assoc, HB.out]; rfl, rfl⟩
        go_wp2
        go_roundw
        case rel => exact HR.out
        case measure => simp [intOf]; omega
      · rcases nmC_cases x with ⟨hn0, hq⟩ | ⟨hn0, hq⟩
        · have HR : Hid (RnR p.nm b0 W0 (.bool true) (.int .i64 (((k + 1 : Nat)) : Int)) W0) := ⟨k + 1, by omega, rfl, by rw [HT.out, ← Bool.and_assoc, HB.out, hn0]; rfl, rfl⟩
          clear hn0
          rcases hq with hq | hq | hq
          all_goals
            go_wp2
            go_roundw
            case rel => exact HR.out
            case measure => simp [intOf]; omega
        · have HR : Hid (RnR p.nm b0 W0 (.bool false) (.int .i64 (((k + 1 : Nat)) : Int)) W0) := ⟨k + 1, by omega, rfl, by rw [HT.out, ← Bool.and_assoc, HB.out, hn0]; rfl, rfl⟩
          have hne : ((x.toNat : Int) == 45) = false := by rw [beq_eq_false_iff_ne]; omega
          clear hn0
          rcases hq with hq | hq | hq | hq
          all_goals
            go_wp2
            go_roundw
            case rel => first
              | exact HR.out
              | (rw [show decide ((x.toNat : Int) ≤ 57) = false from decide_eq_false (by omega)]; exact HR.out)
              | (rw [show decide ((x.toNat : Int) ≤ 122) = false from decide_eq_false (by omega), show decide ((x.toNat : Int) ≤ 57) = false from decide_eq_false (by omega)]; exact HR.out)
            case measure => simp [intOf]; omega
    · obtain rfl : k = p.nm.length := by omega
      have hnm : (b0 && (p.nm.take p.nm.length).all nmC) = nmB p.nm := by rw [List.take_length, HB0.out]; rfl
      rw [hnm]
      clear hnm HB0
      rw [h1]
      obtain ⟨-, c1, c2, c3, c4, c5, c6, c7, c8, c9, c10, c11, c12, c13, c14, c15, c16, c17⟩ := id hA0
      obtain ⟨i1, i2, i3, i4, i5, i6, i7, i8, i9⟩ := num_in hn
      go_wp2_with (first
        | (go_at_call 9; (with_reducible refine (cI _ _ _ _).mono ?_); rintro e w1 ⟨rfl, h9⟩; have h8 := h9.symm; clear h9; subst h8))
      clear c1 c2 c3 c4 c5 c6 c7 c8 c9 c10 c11 c12 c13 c14 c15 c16 c17 i1 i2 i3 i4 i5 i6 i7 i8 i9 hn
      have hD0 := Pc2.new W0 p 23
      have hA1 := hA0.on (balloc (.cells #[.int .i64 p.uw, .int .i64 p.up, .int .i64 p.uc, .int .i64 p.ue, .int .i64 p.dw, .int .i64 p.dp, .int .i64 p.dc, .int .i64 p.de] 23)) hz0
      have hw1 : Below w.heap.size w (W0.alloc (.cells #[.int .i64 p.uw, .int .i64 p.up, .int .i64 p.uc, .int .i64 p.ue, .int .i64 p.dw, .int .i64 p.dp, .int .i64 p.dc, .int .i64 p.de] 23)) := hw0.alloc hw0.size _
      have hz1 : W0.heap.size < (W0.alloc (.cells #[.int .i64 p.uw, .int .i64 p.up, .int .i64 p.uc, .int .i64 p.ue, .int .i64 p.dw, .int .i64 p.dp, .int .i64 p.dc, .int .i64 p.de] 23)).heap.size := by simp
      generalize W0.alloc (.cells #[.int .i64 p.uw, .int .i64 p.up, .int .i64 p.uc, .int .i64 p.ue, .int .i64 p.dw, .int .i64 p.dp, .int .i64 p.dc, .int .i64 p.de] 23) = W1 at hD0 hA1 hw1 hz1 ⊢
      generalize hDD : W0.heap.size = D at *
      have hwD : w.heap.size < D := by omega
      clear hDD hA0 hw0 q0
      go_loopw [3, 104] (fun ok i wr => PcR p (.slice a ts.length cap) true D w ok i wr) (fun _ i _ => 2 - (intOf i).toNat)
      case atStart => exact ⟨0, by omega, rfl, rfl, hA1, hD0, hz1, hw1⟩
      case round =>
        clear hA1 hD0 hz1 hw1
        obtain ⟨k, hk2, rfl, rfl, hA, hD, hzD, hbw⟩ := hrel
        have stp : ∀ o, PlAt (wr.alloc o) w.heap.size p (.slice a ts.length cap) ∧ Pc2 (wr.alloc o) D p ∧ D < (wr.alloc o).heap.size ∧ Below w.heap.size w (wr.alloc o) := fun o => ⟨hA.on (balloc o) (by omega), hD.on (balloc o) hzD, by simp; omega, hbw.alloc hbw.size _⟩
        have HS : Hid (∀ o, PlAt (wr.alloc o) w.heap.size p (.slice a ts.length cap) ∧ Pc2 (wr.alloc o) D p ∧ D < (wr.alloc o).heap.size ∧ Below w.heap.size w (wr.alloc o)) := stp
        clear stp
        have h3 : k = 0 ∨ k = 1 ∨ k = 2 := by omega
        rcases h3 with rfl | rfl | rfl
        · obtain ⟨d0, d1, d2, d3, -, -, -, -⟩ := hD
          have HK : Hid (okK true p 1 = true) := pu1
          rw [show okK true p 0 = true from rfl]
          go_wp2_with (first
            | (go_at_call 9; (with_reducible refine (cI _ _ _ _).mono ?_); rintro e w1 ⟨rfl, h9⟩; have h8 := h9.symm; clear h9; subst h8))
          all_goals
            go_roundw
            case rel => exact ⟨1, by omega, rfl, by rw [HK.out], HS.out _⟩
            case measure => simp [intOf]
        · obtain ⟨-, -, -, -, d4, d5, d6, d7⟩ := hD
          have HK : Hid (okK true p 2 = true) := pu2
          rw [show okK true p 1 = true from pu1]
          all_goals
            go_wp2_with (first
              | (go_at_call 9; (with_reducible refine (cI _ _ _ _).mono ?_); rintro e w1 ⟨rfl, h9⟩; have h8 := h9.symm; clear h9; subst h8))
            all_goals
              go_roundw
              case rel => exact ⟨2, by omega, rfl, by rw [HK.out], HS.out _⟩
              case measure => simp [intOf]
        · clear HS hD
          rw [pu2]
          have hzw : w.heap.size < wr.heap.size := by omega
          clear hzD u0 u1 u2 u3 d0' d1' d2' d3' pu1 pu2 hk2
          have hA7 := hA
          have hbw7 := hbw
          have hzw7 := hzw
          have q17 := hA.c17
          clear hA hbw hzw
          go_wp2_with fail
          clear q17
          go_loopw [8] (fun i wr => RtR ts p (.slice a ts.length cap) w i wr) (fun i _ => ts.length - (intOf i).toNat)
          case atStart => exact ⟨0, Nat.zero_le _, rfl, (fun j x hj => absurd hj (by omega)), hA7, hbw7, hzw7⟩
          case round =>
            clear hA7 hbw7 hzw7
            obtain ⟨k, hk1, rfl, hd0, hA, hbw, hzw⟩ := hrel
            have HD : Hid (∀ j t, j < k → ts[j]? = some t → trB t = true) := hd0
            clear hd0
            have q17 := hA.c17
            by_cases hlt : k < ts.length
            · have hlt' : (k : Int) < ts.length := by omega
              obtain ⟨t, hx⟩ : ∃ x, ts[k]? = some x := ⟨ts[k], by simp [hlt]⟩
              obtain ⟨b, off, rfl, hbl, hE⟩ := (hT.below hbw (Nat.le_refl _)).elem hx
              have hN := TrAt.new wr t 56
              have ut := hU t (List.mem_of_getElem? hx)
              have cS := fun w => rspan_any t.a t.b w ut.a ut.b
              have HX : Hid (ts[k]? = some t) := hx
              have HN : Hid (Below w.heap.size w (wr.alloc (.cells (trC t) 56)) ∧ PlAt (wr.alloc (.cells (trC t) 56)) w.heap.size p (.slice (some ⟨b, off, none⟩) ts.length cap) ∧ w.heap.size < (wr.alloc (.cells (trC t) 56)).heap.size) := ⟨hbw.alloc hbw.size _, hA.on (balloc _) hzw, by simp; omega⟩
              clear hx hT hU ut
              obtain ⟨tk, tg, ac, ka, kb⟩ := t
              dsimp only at cS
              cases ht : trB ⟨tk, tg, ac, ka, kb⟩
              · have HR : Hid (chkP p ts = 1) := HG.out k _ HX.out ht
                have hkd := HK2.out k _ HD.out HX.out ht
                dsimp only at hkd
                clear HG HD HB HK2
                subst hkd
                by_cases g1 : RCiv.inB tg 1 50 = true
                · by_cases g2 : ac = 0
                  · subst g2
                    have g3 : ¬ (kc ka = true ∧ kc kb = true) := fun q => by
                      unfold trB at ht
                      dsimp only at ht
                      rw [if_pos rfl, show rg tg 1 50 = true from g1, q.1, q.2] at ht
                      cases ht
                    rw [if_neg g3] at cS
                    clear ht g3
                    go_wp2_with (first
                      | (with_reducible refine wp_tr hE (by with_unfolding_all rfl) ?_)
                      | (with_reducible refine wp_newTr hN (by with_unfolding_all rfl) (by with_unfolding_all rfl) ?_)
                      | (with_reducible refine wp_tr hN (by with_unfolding_all rfl) ?_)
                      | (with_reducible refine wp_span hN (by with_unfolding_all rfl) ?_)
                      | (with_reducible refine wp_spanG hN (by with_unfolding_all rfl) (by with_unfolding_all rfl) ?_)
                      | (go_at_call 9; (with_reducible refine (cI _ _ _ _).mono ?_); rintro e w1 ⟨rfl, h9⟩; have h8 := h9.symm; clear h9; subst h8)
                      | (go_at_call 17; (with_reducible refine (cS _).mono ?_); rintro e w5 ⟨rfl, hb5⟩))
                    go_ret
                    exact ⟨ret_n HR.out.symm, HN.out.1.trans (hb5.mono HN.out.1.size)⟩
                  · have g2' : (ac != 0) = true := by rw [bne_iff_ne]; exact g2
                    clear ht
                    go_wp2_with (first
                      | (with_reducible refine wp_tr hE (by with_unfolding_all rfl) ?_)
                      | (with_reducible refine wp_newTr hN (by with_unfolding_all rfl) (by with_unfolding_all rfl) ?_)
                      | (with_reducible refine wp_tr hN (by with_unfolding_all rfl) ?_)
                      | (with_reducible refine wp_span hN (by with_unfolding_all rfl) ?_)
                      | (with_reducible refine wp_spanG hN (by with_unfolding_all rfl) (by with_unfolding_all rfl) ?_)
                      | (go_at_call 9; (with_reducible refine (cI _ _ _ _).mono ?_); rintro e w1 ⟨rfl, h9⟩; have h8 := h9.symm; clear h9; subst h8)
                      | (go_at_call 17; (with_reducible refine (cS _).mono ?_); rintro e w5 ⟨rfl, hb5⟩))
                    go_ret
                    exact ⟨ret_n HR.out.symm, HN.out.1⟩
                · have g1' : RCiv.inB tg 1 50 = false := by simpa using g1
                  clear ht g1
                  go_wp2_with (first
                    | (with_reducible refine wp_tr hE (by with_unfolding_all rfl) ?_)
                    | (with_reducible refine wp_newTr hN (by with_unfolding_all rfl) (by with_unfolding_all rfl) ?_)
                    | (with_reducible refine wp_tr hN (by with_unfolding_all rfl) ?_)
                    | (with_reducible refine wp_span hN (by with_unfolding_all rfl) ?_)
                    | (with_reducible refine wp_spanG hN (by with_unfolding_all rfl) (by with_unfolding_all rfl) ?_)
                    | (go_at_call 9; (with_reducible refine (cI _ _ _ _).mono ?_); rintro e w1 ⟨rfl, h9⟩; have h8 := h9.symm; clear h9; subst h8)
                    | (go_at_call 17; (with_reducible refine (cS _).mono ?_); rintro e w5 ⟨rfl, hb5⟩))
                  go_ret
                  exact ⟨ret_n HR.out.symm, HN.out.1⟩
              · have HD2 : Hid (∀ j t, j < k + 1 → ts[j]? = some t → trB t = true) := fun j y hj hy => by
                  by_cases e : j = k
                  · subst e; rw [HX.out] at hy; cases hy; exact ht
                  · exact HD.out j y (by omega) hy
                clear HD HB
                by_cases h3 : tk = 3
                · subst h3
                  obtain ⟨g1, g2, g3, g4⟩ : rg tg 1 50 = true ∧ ac = 0 ∧ kc ka = true ∧ kc kb = true := by
                    unfold trB at ht
                    dsimp only at ht
                    rw [if_pos rfl] at ht
                    simpa only [Bool.and_eq_true, decide_eq_true_eq] using ht
                  replace g1 : RCiv.inB tg 1 50 = true := g1
                  rw [if_pos ⟨g3, g4⟩] at cS
                  subst g2
                  clear ht g3 g4
                  go_wp2_with (first
                    | (with_reducible refine wp_tr hE (by with_unfolding_all rfl) ?_)
                    | (with_reducible refine wp_newTr hN (by with_unfolding_all rfl) (by with_unfolding_all rfl) ?_)
                    | (with_reducible refine wp_tr hN (by with_unfolding_all rfl) ?_)
                    | (with_reducible refine wp_span hN (by with_unfolding_all rfl) ?_)
                    | (with_reducible refine wp_spanG hN (by with_unfolding_all rfl) (by with_unfolding_all rfl) ?_)
                    | (go_at_call 9; (with_reducible refine (cI _ _ _ _).mono ?_); rintro e w1 ⟨rfl, h9⟩; have h8 := h9.symm; clear h9; subst h8)
                    | (go_at_call 17; (with_reducible refine (cS _).mono ?_); rintro e w5 ⟨rfl, hb5⟩))
                  refine ⟨?_, ?measure⟩
                  (repeat apply Exists.intro)
                  refine ⟨?rel, rfl⟩
                  case rel => exact ⟨k + 1, by omega, rfl, HD2.out, HN.out.2.1.on hb5 HN.out.2.2, HN.out.1.trans (hb5.mono HN.out.1.size), Nat.lt_of_lt_of_le HN.out.2.2 hb5.size⟩
                  case measure => simp [intOf]; omega
                · have h3' : (tk == 3) = false := by rw [beq_eq_false_iff_ne]; exact h3
                  obtain ⟨h12, g1, g2, g3, g4⟩ : (tk = 1 ∨ tk = 2) ∧ rg tg 1 1000000 = true ∧ rg ac 0 1000000 = true ∧ zK ka = true ∧ zK kb = true := by
                    unfold trB at ht
                    dsimp only at ht
                    rw [if_neg h3] at ht
                    simpa only [Bool.and_eq_true, decide_eq_true_eq] using ht
                  replace g1 : RCiv.inB tg 1 1000000 = true := g1
                  replace g2 : RCiv.inB ac 0 1000000 = true := g2
                  have e1 := zK_is' g3
                  have e2 := zK_is' g4
                  subst e1 e2
                  clear ht g3 g4
                  rcases h12 with rfl | rfl
                  all_goals
                    go_wp2_with (first
                      | (with_reducible refine wp_tr hE (by with_unfolding_all rfl) ?_)
                      | (with_reducible refine wp_newTr hN (by with_unfolding_all rfl) (by with_unfolding_all rfl) ?_)
                      | (with_reducible refine wp_tr hN (by with_unfolding_all rfl) ?_)
                      | (with_reducible refine wp_span hN (by with_unfolding_all rfl) ?_)
                      | (with_reducible refine wp_spanG hN (by with_unfolding_all rfl) (by with_unfolding_all rfl) ?_)
                      | (go_at_call 9; (with_reducible refine (cI _ _ _ _).mono ?_); rintro e w1 ⟨rfl, h9⟩; have h8 := h9.symm; clear h9; subst h8)
                      | (go_at_call 17; (with_reducible refine (cS _).mono ?_); rintro e w5 ⟨rfl, hb5⟩))
                    refine ⟨?_, ?measure⟩
                    (repeat apply Exists.intro)
                    refine ⟨?rel, rfl⟩
                    case rel => exact ⟨k + 1, by omega, rfl, HD2.out, HN.out.2.1, HN.out.1, HN.out.2.2⟩
                    case measure => simp [intOf]; omega
            · obtain rfl : k = ts.length := by omega
              clear hT
              exact absurd HD.out HB.out
end Pln
end Go.Proofs.YtbnnplfmhmmbnacGreatDoor
