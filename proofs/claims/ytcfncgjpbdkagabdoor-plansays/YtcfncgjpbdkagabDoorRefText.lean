/- What the document's answer (tideref) says of a cron's text: CronText, walked. -/
import Derived.Test.YtcfncgjpbdkagabDoorRefText1
namespace Go.Proofs.YtcfncgjpbdkagabDoor
namespace RCrn
open Go.RowKit Lai Civ Cal Crn RCiv
set_option maxRecDepth 8000

set_option maxHeartbeats 60000000 in
theorem rtext (mi ho da mn we : Int) (ad aw : Bool) (w : World) (b0 : U mi) (b1 : U ho) (b2 : U da) (b3 : U mn) (b4 : U we) (hc : chkB mi ho da mn we ad aw = true) (hlen : ∀ j, (wds mi ho da mn we ad aw j).length ≤ 1000) :
    Calls Tryd.prog 30 #[cronV mi ho da mn we ad aw] w fun e w' => e = .returned (strV (cronT (wds mi ho da mn we ad aw))) ∧ Below w.heap.size w w' := by
  obtain ⟨i0, hi0, hz0, hz1, hz2⟩ := info_parts info_str
  have HO : Hid (∀ (p q r k : Nat) (W : World), Laid3 mi ho da mn we ad aw p q r w W → k < 5 → _) := fun p q r k W hL hk => one_set b0 b1 b2 b3 b4 hc hL hk
  have HLen : Hid (∀ j, (wds mi ho da mn we ad aw j).length ≤ 1000) := hlen
  clear b0 b1 b2 b3 b4 hc hlen
  go_enter Tryd.func30, Tryd.ntmps30
  go_wp2_with (go_at_call 44; (with_reducible refine (rsets_any _ _ _ _ _ _ _ _).mono ?_); rintro e w1 ⟨p, q, r, rfl, hp, hq, hr, hP, hQ, hR, hb1⟩; have hL : Hid (Laid3 mi ho da mn we ad aw p q r w w1) := ⟨hp, hq, hr, hP, hQ, hR, (balloc _).trans (hb1.mono (by simp))⟩; clear hP hQ hR hb1)
  have hz1w : w.heap.size ≤ w1.heap.size := hL.out.2.2.2.2.2.2.size
  go_loopw [6, 7] (fun out i wr => OutB (wds mi ho da mn we ad aw) mi ho da mn we ad aw p q r w1.heap.size w out i wr) (fun _ i _ => 5 - (intOf i).toNat)
  case atStart => exact ⟨0, none, 0, by omega, rfl, rfl, World.ownsRow_nil _ _ _ _, Nat.le_refl _, hL.out⟩
  case round =>
    clear hL
    obtain ⟨k, ao, cv, hk, rfl, rfl, hown0, hzB, hL0⟩ := hrel
    have hOwn : Hid (wr.ownsRow w1.heap.size 9 1 (.slice ao k cv) k ((List.range k).map fun j => strV (wds mi ho da mn we ad aw j))) := hown0
    have hL : Hid (Laid3 mi ho da mn we ad aw p q r w wr) := hL0
    clear hown0
    obtain ⟨W, hW⟩ : ∃ W, W = wr := ⟨_, rfl⟩
    subst hW
    by_cases hk5 : k < 5
    · have hk5' : (k : Int) < 5 := by omega
      obtain ⟨s, lo, hi, an, star, cS, cLo, cHi, cAn, hs, hsub, hlim, hwd, hstar⟩ := HO.out p q r k W hL0 hk5
      have HS : Hid (U s) := hs
      have HSub : Hid (∀ n, inS s n = true → lo ≤ n ∧ n ≤ hi) := hsub
      have HWd : Hid (wds mi ho da mn we ad aw k = wordT s star) := hwd
      have HStar : Hid (∀ b : Bool, (b = true ↔ ∀ j, lo ≤ j → j < hi + 1 → inS s j = true) → (b && ((!decide (k = 2) && !decide (k = 4)) || an)) = star) := hstar
      clear hs hsub hwd hstar hL0
      obtain ⟨l0, l1, l2, l3⟩ := hlim
      have hpW : p < W.heap.size := by omega
      have hqW : q < W.heap.size := by omega
      have hrW : r < W.heap.size := by omega
      go_wp2
      go_loopw [8, 9, 10] (fun rows all n wr' => MidR s lo hi W rows all n wr') (fun _ _ n _ => (hi + 1 - intOf n).toNat)
      case atStart => exact ⟨lo, true, none, 0, by omega, by omega, rfl, rfl, ⟨fun _ j h1 h2 => absurd h1 (by omega), fun _ => rfl⟩, by rw [rows_zero l0 (fun n h => (HSub.out n h).1)]; rfl, by rw [rows_zero l0 (fun n h => (HSub.out n h).1)]; exact World.ownsRow_nil _ _ _ _, Below.refl _ _⟩
      case round =>
        obtain ⟨m, b, ao2, cv2, hm0, hm1, rfl, rfl, hb0, rfl, hown, hbw⟩ := hrel
        have hB : Hid (b = true ↔ ∀ j, lo ≤ j → j < m → inS s j = true) := hb0
        have hBW : Hid (Below W.heap.size W wr) := hbw
        have dS : wr.cell? ⟨p, k, none⟩ = some (.int .u64 s) := (hbw.cell hpW).trans cS
        have dLo : wr.cell? ⟨q, k * 2, none⟩ = some (.int .i64 lo) := (hbw.cell hqW).trans cLo
        have dHi : wr.cell? ⟨q, k * 2 + 1, none⟩ = some (.int .i64 hi) := (hbw.cell hqW).trans cHi
        have dAn : wr.cell? ⟨r, k, none⟩ = some (.bool an) := (hbw.cell hrW).trans cAn
        have hzb := hbw.size
        clear hb0 hbw cS cLo cHi cAn
        have hlr : (rowsT s m.toNat).length ≤ 64 := by unfold rowsT; rw [List.length_map]; have := rows_len s m.toNat; omega
        by_cases hle : m ≤ hi
        · cases hx : inS s m
          · have cH := has_dec HS.out hx
            have HR : Hid (rowsT s (m + 1).toNat = rowsT s m.toNat) := rows_same (by omega) (by unfold isSt; rw [hx]; rfl)
            have HA : Hid (_ ↔ _) := all_step hB.out hm0 hx
            clear hx
            go_wp2_with (go_at_call 45; (with_reducible refine (cH _).mono ?_); rintro e w' ⟨rfl, h9⟩; have h8 := h9.symm; clear h9; subst h8)
            go_roundw
            case rel => exact ⟨m + 1, false, ao2, cv2, by omega, by omega, rfl, rfl, by simpa using HA.out, by rw [HR.out], by rw [HR.out]; exact hown, hBW.out⟩
            case measure => simp [intOf]; omega
          · have cH := has_dec HS.out hx
            have HA : Hid (_ ↔ _) := all_step hB.out hm0 hx
            by_cases hst : lo < m ∧ inS s (m - 1) = true
            · have cI := has_dec HS.out hst.2
              have HR : Hid (rowsT s (m + 1).toNat = rowsT s m.toNat) := rows_same (by omega) (by unfold isSt; rw [hx, hst.2]; rfl)
              have hlm : lo < m := hst.1
              clear hx hst
              go_wp2_with (first
                | (go_at_call 45; (with_reducible refine (cH _).mono ?_); rintro e w' ⟨rfl, h9⟩; have h8 := h9.symm; clear h9; subst h8)
                | (go_at_call 45; (with_reducible refine (cI _).mono ?_); rintro e w' ⟨rfl, h9⟩; have h8 := h9.symm; clear h9; subst h8))
              go_roundw
              case rel => exact ⟨m + 1, b, ao2, cv2, by omega, by omega, rfl, rfl, by simpa using HA.out, by rw [HR.out], by rw [HR.out]; exact hown, hBW.out⟩
              case measure => simp [intOf]; omega
            · have hy : inS s (m - 1) = false := by
                cases g : inS s (m - 1)
                · rfl
                · exact absurd ⟨by have := HSub.out _ g; omega, g⟩ hst
              have cI := has_dec HS.out hy
              have hSt : Hid (isSt s m = true) := by unfold Hid isSt; rw [hx, hy]; rfl
              have hX : Hid (inS s m = true) := hx
              clear hx hy hst
              obtain ⟨V, hV⟩ : ∃ V, V = wr := ⟨_, rfl⟩
              subst hV
              by_cases hlm : lo < m
              · go_wp2_with (first
                  | (go_at_call 45; (with_reducible refine (cH _).mono ?_); rintro e w' ⟨rfl, h9⟩; have h8 := h9.symm; clear h9; subst h8)
                  | (go_at_call 45; (with_reducible refine (cI _).mono ?_); rintro e w' ⟨rfl, h9⟩; have h8 := h9.symm; clear h9; subst h8))
                clear cH cI
                go_loopw [11] (fun l wr' => LastQ s m hi V l wr') (fun l _ => (hi - intOf l).toNat)
                case atStart => exact ⟨m, rfl, by omega, hle, fun j h1 h2 => by obtain rfl : j = m := (by omega); exact hX.out, rfl⟩
                case round =>
                  obtain ⟨x, rfl, hx0, hx1, hall0, hwr⟩ := hrel
                  have hall : Hid (∀ j, m ≤ j → j ≤ x → inS s j = true) := hall0
                  clear hall0
                  have h7 := hwr.symm
                  clear hwr
                  subst h7
                  by_cases hgo : x < hi
                  · cases hy0 : inS s (x + 1)
                    · have cy := has_dec HS.out hy0
                      have hy : Hid (inS s (x + 1) = false) := hy0
                      clear hy0
                      have hend : endOf s m = x := end_is HS.out (fun n h => by have := HSub.out n h; omega) hx0 hall.out hy.out
                      have HR : Hid (rowsT s (m + 1).toNat = rowsT s m.toNat ++ [rowT (m, x)]) := by have := rows_more (s := s) (m := m) (by omega) hSt.out; rw [hend] at this; exact this
                      have c1 := fun w => itoa_c m (by omega) w
                      have c2 := fun w => itoa_c x (by omega) w
                      have la := dec_len m.toNat (by omega)
                      have lb := dec_len x.toNat (by omega)
                      clear hend
                      by_cases hxm : m < x
                      · have HV : Hid (Value.string (({ data := (Lib.decDigits m.toNat).toArray } : ByteArray) ++ (({ data := #[45] } : ByteArray) ++ { data := (Lib.decDigits x.toNat).toArray })) = strV (rowT (m, x))) := row_two (by omega)
                        go_wp2_with (first
                          | (go_at_call 45; (with_reducible refine (cy _).mono ?_); rintro e w' ⟨rfl, h9⟩; have h8 := h9.symm; clear h9; subst h8)
                          | (go_at_call 29; (with_reducible refine (c1 _).mono ?_); rintro e w' ⟨rfl, h9⟩; have h8 := h9.symm; clear h9; subst h8)
                          | (go_at_call 29; (with_reducible refine (c2 _).mono ?_); rintro e w' ⟨rfl, h9⟩; have h8 := h9.symm; clear h9; subst h8)
                          | (at_builtin; refine wpList_append_own _ rfl _ _ 67 rfl W.heap.size 9 i0 (.string ByteArray.empty) 1 16 Tryd.underlying67 hi0 hz0 hz1 hz2 rfl (by decide) _ _ _ rfl (hown.alloc _) ⟨V.heap.size, 0, none⟩ 1 1 [_] rfl rfl (cell_new1 _ _ _) (fun x hx => by simp at hx; subst hx; rfl) (by unfold maxLen; omega) (by omega) (by simp; omega) ?_; intro v' w3 hown3 hgrow3 hnil3))
                        go_roundw
                        case rel =>
                          rw [HV.out] at hown3
                          obtain ⟨g3, cap3, hv3⟩ : ∃ g3 cap3, v' = .slice (some ⟨g3, 0, none⟩) ((rowsT s m.toNat).length + 1) cap3 := by
                            rcases hown3.2 with ⟨_, h⟩ | ⟨g3, cap3, _, h, _⟩
                            · omega
                            · exact ⟨g3, cap3, h⟩
                          have hB3 : Below W.heap.size W w3 := (hBW.out.alloc hzb _).grown hgrow3 (by simp; omega) (fun q hq => (hown.lt q hq).1)
                          refine ⟨m + 1, b, some ⟨g3, 0, none⟩, cap3, by omega, by omega, rfl, rfl, by simpa using HA.out, ?_, ?_, hB3⟩
                          · rw [hv3, HR.out]; simp
                          · rw [HR.out, List.map_append, List.length_append]; exact hown3
                        case measure => simp [intOf]; omega
                      · obtain rfl : m = x := by omega
                        have HV : Hid (strV (Lib.decDigits m.toNat) = strV (rowT (m, m))) := row_one m
                        go_wp2_with (first
                          | (go_at_call 45; (with_reducible refine (cy _).mono ?_); rintro e w' ⟨rfl, h9⟩; have h8 := h9.symm; clear h9; subst h8)
                          | (go_at_call 29; (with_reducible refine (c1 _).mono ?_); rintro e w' ⟨rfl, h9⟩; have h8 := h9.symm; clear h9; subst h8)
                          | (at_builtin; refine wpList_append_own _ rfl _ _ 67 rfl W.heap.size 9 i0 (.string ByteArray.empty) 1 16 Tryd.underlying67 hi0 hz0 hz1 hz2 rfl (by decide) _ _ _ rfl (hown.alloc _) ⟨V.heap.size, 0, none⟩ 1 1 [_] rfl rfl (cell_new1 _ _ _) (fun x hx => by simp at hx; subst hx; rfl) (by unfold maxLen; omega) (by omega) (by simp; omega) ?_; intro v' w3 hown3 hgrow3 hnil3))
                        go_roundw
                        case rel =>
                          rw [HV.out] at hown3
                          obtain ⟨g3, cap3, hv3⟩ : ∃ g3 cap3, v' = .slice (some ⟨g3, 0, none⟩) ((rowsT s m.toNat).length + 1) cap3 := by
                            rcases hown3.2 with ⟨_, h⟩ | ⟨g3, cap3, _, h, _⟩
                            · omega
                            · exact ⟨g3, cap3, h⟩
                          have hB3 : Below W.heap.size W w3 := (hBW.out.alloc hzb _).grown hgrow3 (by simp; omega) (fun q hq => (hown.lt q hq).1)
                          refine ⟨m + 1, b, some ⟨g3, 0, none⟩, cap3, by omega, by omega, rfl, rfl, by simpa using HA.out, ?_, ?_, hB3⟩
                          · rw [hv3, HR.out]; simp
                          · rw [HR.out, List.map_append, List.length_append]; exact hown3
                        case measure => simp [intOf]; omega
                    · have cy := has_dec HS.out hy0
                      have hy : Hid (inS s (x + 1) = true) := hy0
                      clear hy0
                      go_wp2_with (go_at_call 45; (with_reducible refine (cy _).mono ?_); rintro e w' ⟨rfl, h9⟩; have h8 := h9.symm; clear h9; subst h8)
                      go_roundw
                      case rel => exact ⟨x + 1, rfl, by omega, by omega, fun j h1 h2 => by (by_cases e : j = x + 1); (rw [e]; exact hy.out); exact hall.out j h1 (by omega), rfl⟩
                      case measure => simp [intOf]; omega
                  · have hy : Hid (inS s (x + 1) = false) := by
                      unfold Hid
                      cases g : inS s (x + 1)
                      · rfl
                      · have := HSub.out _ g; omega
                    have hend : endOf s m = x := end_is HS.out (fun n h => by have := HSub.out n h; omega) hx0 hall.out hy.out 
                    have HR : Hid (rowsT s (m + 1).toNat = rowsT s m.toNat ++ [rowT (m, x)]) := by have := rows_more (s := s) (m := m) (by omega) hSt.out; rw [hend] at this; exact this
                    have c1 := fun w => itoa_c m (by omega) w
                    have c2 := fun w => itoa_c x (by omega) w
                    have la := dec_len m.toNat (by omega)
                    have lb := dec_len x.toNat (by omega)
                    clear hend
                    by_cases hxm : m < x
                    · have HV : Hid (Value.string (({ data := (Lib.decDigits m.toNat).toArray } : ByteArray) ++ (({ data := #[45] } : ByteArray) ++ { data := (Lib.decDigits x.toNat).toArray })) = strV (rowT (m, x))) := row_two (by omega)
                      go_wp2_with (first
                        | (go_at_call 29; (with_reducible refine (c1 _).mono ?_); rintro e w' ⟨rfl, h9⟩; have h8 := h9.symm; clear h9; subst h8)
                        | (go_at_call 29; (with_reducible refine (c2 _).mono ?_); rintro e w' ⟨rfl, h9⟩; have h8 := h9.symm; clear h9; subst h8)
                        | (at_builtin; refine wpList_append_own _ rfl _ _ 67 rfl W.heap.size 9 i0 (.string ByteArray.empty) 1 16 Tryd.underlying67 hi0 hz0 hz1 hz2 rfl (by decide) _ _ _ rfl (hown.alloc _) ⟨V.heap.size, 0, none⟩ 1 1 [_] rfl rfl (cell_new1 _ _ _) (fun x hx => by simp at hx; subst hx; rfl) (by unfold maxLen; omega) (by omega) (by simp; omega) ?_; intro v' w3 hown3 hgrow3 hnil3))
                      go_roundw
                      case rel =>
                        rw [HV.out] at hown3
                        obtain ⟨g3, cap3, hv3⟩ : ∃ g3 cap3, v' = .slice (some ⟨g3, 0, none⟩) ((rowsT s m.toNat).length + 1) cap3 := by
                          rcases hown3.2 with ⟨_, h⟩ | ⟨g3, cap3, _, h, _⟩
                          · omega
                          · exact ⟨g3, cap3, h⟩
                        have hB3 : Below W.heap.size W w3 := (hBW.out.alloc hzb _).grown hgrow3 (by simp; omega) (fun q hq => (hown.lt q hq).1)
                        refine ⟨m + 1, b, some ⟨g3, 0, none⟩, cap3, by omega, by omega, rfl, rfl, by simpa using HA.out, ?_, ?_, hB3⟩
                        · rw [hv3, HR.out]; simp
                        · rw [HR.out, List.map_append, List.length_append]; exact hown3
                      case measure => simp [intOf]; omega
                    · obtain rfl : m = x := by omega
                      have HV : Hid (strV (Lib.decDigits m.toNat) = strV (rowT (m, m))) := row_one m
                      go_wp2_with (first
                        | (go_at_call 29; (with_reducible refine (c1 _).mono ?_); rintro e w' ⟨rfl, h9⟩; have h8 := h9.symm; clear h9; subst h8)
                        | (at_builtin; refine wpList_append_own _ rfl _ _ 67 rfl W.heap.size 9 i0 (.string ByteArray.empty) 1 16 Tryd.underlying67 hi0 hz0 hz1 hz2 rfl (by decide) _ _ _ rfl (hown.alloc _) ⟨V.heap.size, 0, none⟩ 1 1 [_] rfl rfl (cell_new1 _ _ _) (fun x hx => by simp at hx; subst hx; rfl) (by unfold maxLen; omega) (by omega) (by simp; omega) ?_; intro v' w3 hown3 hgrow3 hnil3))
                      go_roundw
                      case rel =>
                        rw [HV.out] at hown3
                        obtain ⟨g3, cap3, hv3⟩ : ∃ g3 cap3, v' = .slice (some ⟨g3, 0, none⟩) ((rowsT s m.toNat).length + 1) cap3 := by
                          rcases hown3.2 with ⟨_, h⟩ | ⟨g3, cap3, _, h, _⟩
                          · omega
                          · exact ⟨g3, cap3, h⟩
                        have hB3 : Below W.heap.size W w3 := (hBW.out.alloc hzb _).grown hgrow3 (by simp; omega) (fun q hq => (hown.lt q hq).1)
                        refine ⟨m + 1, b, some ⟨g3, 0, none⟩, cap3, by omega, by omega, rfl, rfl, by simpa using HA.out, ?_, ?_, hB3⟩
                        · rw [hv3, HR.out]; simp
                        · rw [HR.out, List.map_append, List.length_append]; exact hown3
                      case measure => simp [intOf]; omega
              · go_wp2_with (first
                  | (go_at_call 45; (with_reducible refine (cH _).mono ?_); rintro e w' ⟨rfl, h9⟩; have h8 := h9.symm; clear h9; subst h8)
                  | (go_at_call 45; (with_reducible refine (cI _).mono ?_); rintro e w' ⟨rfl, h9⟩; have h8 := h9.symm; clear h9; subst h8))
                clear cH cI
                go_loopw [11] (fun l wr' => LastQ s m hi V l wr') (fun l _ => (hi - intOf l).toNat)
                case atStart => exact ⟨m, rfl, by omega, hle, fun j h1 h2 => by obtain rfl : j = m := (by omega); exact hX.out, rfl⟩
                case round =>
                  obtain ⟨x, rfl, hx0, hx1, hall0, hwr⟩ := hrel
                  have hall : Hid (∀ j, m ≤ j → j ≤ x → inS s j = true) := hall0
                  clear hall0
                  have h7 := hwr.symm
                  clear hwr
                  subst h7
                  by_cases hgo : x < hi
                  · cases hy0 : inS s (x + 1)
                    · have cy := has_dec HS.out hy0
                      have hy : Hid (inS s (x + 1) = false) := hy0
                      clear hy0
                      have hend : endOf s m = x := end_is HS.out (fun n h => by have := HSub.out n h; omega) hx0 hall.out hy.out
                      have HR : Hid (rowsT s (m + 1).toNat = rowsT s m.toNat ++ [rowT (m, x)]) := by have := rows_more (s := s) (m := m) (by omega) hSt.out; rw [hend] at this; exact this
                      have c1 := fun w => itoa_c m (by omega) w
                      have c2 := fun w => itoa_c x (by omega) w
                      have la := dec_len m.toNat (by omega)
                      have lb := dec_len x.toNat (by omega)
                      clear hend
                      by_cases hxm : m < x
                      · have HV : Hid (Value.string (({ data := (Lib.decDigits m.toNat).toArray } : ByteArray) ++ (({ data := #[45] } : ByteArray) ++ { data := (Lib.decDigits x.toNat).toArray })) = strV (rowT (m, x))) := row_two (by omega)
                        go_wp2_with (first
                          | (go_at_call 45; (with_reducible refine (cy _).mono ?_); rintro e w' ⟨rfl, h9⟩; have h8 := h9.symm; clear h9; subst h8)
                          | (go_at_call 29; (with_reducible refine (c1 _).mono ?_); rintro e w' ⟨rfl, h9⟩; have h8 := h9.symm; clear h9; subst h8)
                          | (go_at_call 29; (with_reducible refine (c2 _).mono ?_); rintro e w' ⟨rfl, h9⟩; have h8 := h9.symm; clear h9; subst h8)
                          | (at_builtin; refine wpList_append_own _ rfl _ _ 67 rfl W.heap.size 9 i0 (.string ByteArray.empty) 1 16 Tryd.underlying67 hi0 hz0 hz1 hz2 rfl (by decide) _ _ _ rfl (hown.alloc _) ⟨V.heap.size, 0, none⟩ 1 1 [_] rfl rfl (cell_new1 _ _ _) (fun x hx => by simp at hx; subst hx; rfl) (by unfold maxLen; omega) (by omega) (by simp; omega) ?_; intro v' w3 hown3 hgrow3 hnil3))
                        go_roundw
                        case rel =>
                          rw [HV.out] at hown3
                          obtain ⟨g3, cap3, hv3⟩ : ∃ g3 cap3, v' = .slice (some ⟨g3, 0, none⟩) ((rowsT s m.toNat).length + 1) cap3 := by
                            rcases hown3.2 with ⟨_, h⟩ | ⟨g3, cap3, _, h, _⟩
                            · omega
                            · exact ⟨g3, cap3, h⟩
                          have hB3 : Below W.heap.size W w3 := (hBW.out.alloc hzb _).grown hgrow3 (by simp; omega) (fun q hq => (hown.lt q hq).1)
                          refine ⟨m + 1, b, some ⟨g3, 0, none⟩, cap3, by omega, by omega, rfl, rfl, by simpa using HA.out, ?_, ?_, hB3⟩
                          · rw [hv3, HR.out]; simp
                          · rw [HR.out, List.map_append, List.length_append]; exact hown3
                        case measure => simp [intOf]; omega
                      · obtain rfl : m = x := by omega
                        have HV : Hid (strV (Lib.decDigits m.toNat) = strV (rowT (m, m))) := row_one m
                        go_wp2_with (first
                          | (go_at_call 45; (with_reducible refine (cy _).mono ?_); rintro e w' ⟨rfl, h9⟩; have h8 := h9.symm; clear h9; subst h8)
                          | (go_at_call 29; (with_reducible refine (c1 _).mono ?_); rintro e w' ⟨rfl, h9⟩; have h8 := h9.symm; clear h9; subst h8)
                          | (at_builtin; refine wpList_append_own _ rfl _ _ 67 rfl W.heap.size 9 i0 (.string ByteArray.empty) 1 16 Tryd.underlying67 hi0 hz0 hz1 hz2 rfl (by decide) _ _ _ rfl (hown.alloc _) ⟨V.heap.size, 0, none⟩ 1 1 [_] rfl rfl (cell_new1 _ _ _) (fun x hx => by simp at hx; subst hx; rfl) (by unfold maxLen; omega) (by omega) (by simp; omega) ?_; intro v' w3 hown3 hgrow3 hnil3))
                        go_roundw
                        case rel =>
                          rw [HV.out] at hown3
                          obtain ⟨g3, cap3, hv3⟩ : ∃ g3 cap3, v' = .slice (some ⟨g3, 0, none⟩) ((rowsT s m.toNat).length + 1) cap3 := by
                            rcases hown3.2 with ⟨_, h⟩ | ⟨g3, cap3, _, h, _⟩
                            · omega
                            · exact ⟨g3, cap3, h⟩
                          have hB3 : Below W.heap.size W w3 := (hBW.out.alloc hzb _).grown hgrow3 (by simp; omega) (fun q hq => (hown.lt q hq).1)
                          refine ⟨m + 1, b, some ⟨g3, 0, none⟩, cap3, by omega, by omega, rfl, rfl, by simpa using HA.out, ?_, ?_, hB3⟩
                          · rw [hv3, HR.out]; simp
                          · rw [HR.out, List.map_append, List.length_append]; exact hown3
                        case measure => simp [intOf]; omega
                    · have cy := has_dec HS.out hy0
                      have hy : Hid (inS s (x + 1) = true) := hy0
                      clear hy0
                      go_wp2_with (go_at_call 45; (with_reducible refine (cy _).mono ?_); rintro e w' ⟨rfl, h9⟩; have h8 := h9.symm; clear h9; subst h8)
                      go_roundw
                      case rel => exact ⟨x + 1, rfl, by omega, by omega, fun j h1 h2 => by (by_cases e : j = x + 1); (rw [e]; exact hy.out); exact hall.out j h1 (by omega), rfl⟩
                      case measure => simp [intOf]; omega
                  · have hy : Hid (inS s (x + 1) = false) := by
                      unfold Hid
                      cases g : inS s (x + 1)
                      · rfl
                      · have := HSub.out _ g; omega
                    have hend : endOf s m = x := end_is HS.out (fun n h => by have := HSub.out n h; omega) hx0 hall.out hy.out 
                    have HR : Hid (rowsT s (m + 1).toNat = rowsT s m.toNat ++ [rowT (m, x)]) := by have := rows_more (s := s) (m := m) (by omega) hSt.out; rw [hend] at this; exact this
                    have c1 := fun w => itoa_c m (by omega) w
                    have c2 := fun w => itoa_c x (by omega) w
                    have la := dec_len m.toNat (by omega)
                    have lb := dec_len x.toNat (by omega)
                    clear hend
                    by_cases hxm : m < x
                    · have HV : Hid (Value.string (({ data := (Lib.decDigits m.toNat).toArray } : ByteArray) ++ (({ data := #[45] } : ByteArray) ++ { data := (Lib.decDigits x.toNat).toArray })) = strV (rowT (m, x))) := row_two (by omega)
                      go_wp2_with (first
                        | (go_at_call 29; (with_reducible refine (c1 _).mono ?_); rintro e w' ⟨rfl, h9⟩; have h8 := h9.symm; clear h9; subst h8)
                        | (go_at_call 29; (with_reducible refine (c2 _).mono ?_); rintro e w' ⟨rfl, h9⟩; have h8 := h9.symm; clear h9; subst h8)
                        | (at_builtin; refine wpList_append_own _ rfl _ _ 67 rfl W.heap.size 9 i0 (.string ByteArray.empty) 1 16 Tryd.underlying67 hi0 hz0 hz1 hz2 rfl (by decide) _ _ _ rfl (hown.alloc _) ⟨V.heap.size, 0, none⟩ 1 1 [_] rfl rfl (cell_new1 _ _ _) (fun x hx => by simp at hx; subst hx; rfl) (by unfold maxLen; omega) (by omega) (by simp; omega) ?_; intro v' w3 hown3 hgrow3 hnil3))
                      go_roundw
                      case rel =>
                        rw [HV.out] at hown3
                        obtain ⟨g3, cap3, hv3⟩ : ∃ g3 cap3, v' = .slice (some ⟨g3, 0, none⟩) ((rowsT s m.toNat).length + 1) cap3 := by
                          rcases hown3.2 with ⟨_, h⟩ | ⟨g3, cap3, _, h, _⟩
                          · omega
                          · exact ⟨g3, cap3, h⟩
                        have hB3 : Below W.heap.size W w3 := (hBW.out.alloc hzb _).grown hgrow3 (by simp; omega) (fun q hq => (hown.lt q hq).1)
                        refine ⟨m + 1, b, some ⟨g3, 0, none⟩, cap3, by omega, by omega, rfl, rfl, by simpa using HA.out, ?_, ?_, hB3⟩
                        · rw [hv3, HR.out]; simp
                        · rw [HR.out, List.map_append, List.length_append]; exact hown3
                      case measure => simp [intOf]; omega
                    · exfalso; omega

        · obtain rfl : m = hi + 1 := by omega
          have hst := HStar.out b hB.out
          have HWn : Hid (wordT s false = Lib.join (rowsT s (hi + 1).toNat) [44]) := word_hi HS.out l0 l2 l3 HSub.out
          have HRl : Hid (∀ x ∈ rowsT s (hi + 1).toNat, x.length ≤ 1000) := rowT_len s _ HS.out (fun n h => by have := HSub.out n h; omega)
          clear HStar hB
          cases b
          · have HF : Hid (star = false) := by unfold Hid; simpa using hst.symm
            clear hst
            have cJ : Calls Tryd.prog 60 #[.slice ao2 (rowsT s (hi + 1).toNat).length cv2, .string ⟨#[44]⟩] wr fun e w' => e = .returned (strV (wds mi ho da mn we ad aw k)) ∧ w' = wr := by
              have := rjoined (rowsT s (hi + 1).toNat) [44] wr ao2 cv2 (by omega) HRl.out (by decide) (own_cell hown)
              rw [← HWn.out, ← HF.out, ← HWd.out] at this
              exact this
            have hOV := own_below hOwn.out hBW.out (fun g hg => (hOwn.out.lt g hg).2)
            clear hown
            go_wp2_with (first
              | (go_at_call 60; (with_reducible refine cJ.mono ?_); rintro e w' ⟨rfl, h9⟩; have h8 := h9.symm; clear h9; subst h8)
              | (at_builtin; refine wpList_append_own _ rfl _ _ 67 rfl w1.heap.size 9 i0 (.string ByteArray.empty) 1 16 Tryd.underlying67 hi0 hz0 hz1 hz2 rfl (by decide) _ _ _ rfl (hOV.alloc _) _ 1 1 [_] rfl rfl (cell_newN (by simp)) (fun x hx => by simp at hx; subst hx; rfl) (by unfold maxLen; omega) (by omega) (by simp; omega) ?_; intro v' w3 hown3 hgrow3 hnil3))
            go_roundw
            case rel =>
              obtain ⟨g3, cap3, hv3⟩ : ∃ g3 cap3, v' = .slice (some ⟨g3, 0, none⟩) (k + 1) cap3 := by
                rcases hown3.2 with ⟨_, h⟩ | ⟨g3, cap3, _, h, _⟩
                · omega
                · exact ⟨g3, cap3, h⟩
              have hB3 : Below w1.heap.size W w3 := ((hBW.out.mono hzB).alloc (by first | omega | (simp; omega)) _).grown hgrow3 (by simp; omega) (fun q hq => (hOV.lt q hq).1)
              refine ⟨k + 1, some ⟨g3, 0, none⟩, cap3, by omega, rfl, hv3, ?_, Nat.le_trans hzB hB3.size, laid_B hL.out hB3 hp hq hr hz1w⟩
              rw [list_step]; exact hown3
            case measure => simp [intOf]; omega
          · by_cases k2 : k = 2
            · cases an
              · have HF : Hid (star = false) := by unfold Hid; rw [k2] at hst; simpa using hst.symm
                have q2 : ((k : Int) != 2) = false := by rw [k2]; rfl
                clear hst k2
                have cJ : Calls Tryd.prog 60 #[.slice ao2 (rowsT s (hi + 1).toNat).length cv2, .string ⟨#[44]⟩] wr fun e w' => e = .returned (strV (wds mi ho da mn we ad aw k)) ∧ w' = wr := by
                  have := rjoined (rowsT s (hi + 1).toNat) [44] wr ao2 cv2 (by omega) HRl.out (by decide) (own_cell hown)
                  rw [← HWn.out, ← HF.out, ← HWd.out] at this
                  exact this
                have hOV := own_below hOwn.out hBW.out (fun g hg => (hOwn.out.lt g hg).2)
                clear hown
                go_wp2_with (first
                  | (go_at_call 60; (with_reducible refine cJ.mono ?_); rintro e w' ⟨rfl, h9⟩; have h8 := h9.symm; clear h9; subst h8)
                  | (at_builtin; refine wpList_append_own _ rfl _ _ 67 rfl w1.heap.size 9 i0 (.string ByteArray.empty) 1 16 Tryd.underlying67 hi0 hz0 hz1 hz2 rfl (by decide) _ _ _ rfl (hOV.alloc _) _ 1 1 [_] rfl rfl (cell_newN (by simp)) (fun x hx => by simp at hx; subst hx; rfl) (by unfold maxLen; omega) (by omega) (by simp; omega) ?_; intro v' w3 hown3 hgrow3 hnil3))
                go_roundw
                case rel =>
                  obtain ⟨g3, cap3, hv3⟩ : ∃ g3 cap3, v' = .slice (some ⟨g3, 0, none⟩) (k + 1) cap3 := by
                    rcases hown3.2 with ⟨_, h⟩ | ⟨g3, cap3, _, h, _⟩
                    · omega
                    · exact ⟨g3, cap3, h⟩
                  have hB3 : Below w1.heap.size W w3 := ((hBW.out.mono hzB).alloc (by first | omega | (simp; omega)) _).grown hgrow3 (by simp; omega) (fun q hq => (hOV.lt q hq).1)
                  refine ⟨k + 1, some ⟨g3, 0, none⟩, cap3, by omega, rfl, hv3, ?_, Nat.le_trans hzB hB3.size, laid_B hL.out hB3 hp hq hr hz1w⟩
                  rw [list_step]; exact hown3
                case measure => simp [intOf]; omega
              · have HF : Hid (star = true) := by unfold Hid; rw [k2] at hst; simpa using hst.symm
                have q2 : ((k : Int) != 2) = false := by rw [k2]; rfl
                clear hst k2
                have cJ : Calls Tryd.prog 60 #[.slice (some ⟨wr.heap.size, 0, none⟩) 1 1, .string ⟨#[44]⟩] (wr.alloc (.cells #[.string ⟨#[42]⟩] 9)) fun e w' => e = .returned (strV (wds mi ho da mn we ad aw k)) ∧ w' = wr.alloc (.cells #[.string ⟨#[42]⟩] 9) := by
                  have := rjoined [[42]] [44] (wr.alloc (.cells #[.string ⟨#[42]⟩] 9)) (some ⟨wr.heap.size, 0, none⟩) 1 (by decide) (fun x hx => by simp at hx; subst hx; decide) (by decide) (star_cell wr 9)
                  rw [HWd.out, HF.out, word_st]
                  exact this
                have hOV := (own_below hOwn.out hBW.out (fun g hg => (hOwn.out.lt g hg).2)).alloc (.cells #[.string ⟨#[42]⟩] 9)
                clear hown
                go_wp2_with (first
                  | (go_at_call 60; (with_reducible refine cJ.mono ?_); rintro e w' ⟨rfl, h9⟩; have h8 := h9.symm; clear h9; subst h8)
                  | (at_builtin; refine wpList_append_own _ rfl _ _ 67 rfl w1.heap.size 9 i0 (.string ByteArray.empty) 1 16 Tryd.underlying67 hi0 hz0 hz1 hz2 rfl (by decide) _ _ _ rfl (hOV.alloc _) _ 1 1 [_] rfl rfl (cell_newN (by simp)) (fun x hx => by simp at hx; subst hx; rfl) (by unfold maxLen; omega) (by omega) (by simp; omega) ?_; intro v' w3 hown3 hgrow3 hnil3))
                go_roundw
                case rel =>
                  obtain ⟨g3, cap3, hv3⟩ : ∃ g3 cap3, v' = .slice (some ⟨g3, 0, none⟩) (k + 1) cap3 := by
                    rcases hown3.2 with ⟨_, h⟩ | ⟨g3, cap3, _, h, _⟩
                    · omega
                    · exact ⟨g3, cap3, h⟩
                  have hB3 : Below w1.heap.size W w3 := (((hBW.out.mono hzB).alloc (by omega) _).alloc (by first | omega | (simp; omega)) _).grown hgrow3 (by simp; omega) (fun q hq => (hOV.lt q hq).1)
                  refine ⟨k + 1, some ⟨g3, 0, none⟩, cap3, by omega, rfl, hv3, ?_, Nat.le_trans hzB hB3.size, laid_B hL.out hB3 hp hq hr hz1w⟩
                  rw [list_step]; exact hown3
                case measure => simp [intOf]; omega
            · have q2 : ((k : Int) != 2) = true := by simp; omega
              by_cases k4 : k = 4
              · have q4 : ((k : Int) != 4) = false := by rw [k4]; rfl
                cases an
                · have HF : Hid (star = false) := by unfold Hid; rw [k4] at hst; simpa using hst.symm
                  clear hst k2 k4
                  have cJ : Calls Tryd.prog 60 #[.slice ao2 (rowsT s (hi + 1).toNat).length cv2, .string ⟨#[44]⟩] wr fun e w' => e = .returned (strV (wds mi ho da mn we ad aw k)) ∧ w' = wr := by
                    have := rjoined (rowsT s (hi + 1).toNat) [44] wr ao2 cv2 (by omega) HRl.out (by decide) (own_cell hown)
                    rw [← HWn.out, ← HF.out, ← HWd.out] at this
                    exact this
                  have hOV := own_below hOwn.out hBW.out (fun g hg => (hOwn.out.lt g hg).2)
                  clear hown
                  go_wp2_with (first
                    | (go_at_call 60; (with_reducible refine cJ.mono ?_); rintro e w' ⟨rfl, h9⟩; have h8 := h9.symm; clear h9; subst h8)
                    | (at_builtin; refine wpList_append_own _ rfl _ _ 67 rfl w1.heap.size 9 i0 (.string ByteArray.empty) 1 16 Tryd.underlying67 hi0 hz0 hz1 hz2 rfl (by decide) _ _ _ rfl (hOV.alloc _) _ 1 1 [_] rfl rfl (cell_newN (by simp)) (fun x hx => by simp at hx; subst hx; rfl) (by unfold maxLen; omega) (by omega) (by simp; omega) ?_; intro v' w3 hown3 hgrow3 hnil3))
                  go_roundw
                  case rel =>
                    obtain ⟨g3, cap3, hv3⟩ : ∃ g3 cap3, v' = .slice (some ⟨g3, 0, none⟩) (k + 1) cap3 := by
                      rcases hown3.2 with ⟨_, h⟩ | ⟨g3, cap3, _, h, _⟩
                      · omega
                      · exact ⟨g3, cap3, h⟩
                    have hB3 : Below w1.heap.size W w3 := ((hBW.out.mono hzB).alloc (by first | omega | (simp; omega)) _).grown hgrow3 (by simp; omega) (fun q hq => (hOV.lt q hq).1)
                    refine ⟨k + 1, some ⟨g3, 0, none⟩, cap3, by omega, rfl, hv3, ?_, Nat.le_trans hzB hB3.size, laid_B hL.out hB3 hp hq hr hz1w⟩
                    rw [list_step]; exact hown3
                  case measure => simp [intOf]; omega
                · have HF : Hid (star = true) := by unfold Hid; rw [k4] at hst; simpa using hst.symm
                  clear hst k2 k4
                  have cJ : Calls Tryd.prog 60 #[.slice (some ⟨wr.heap.size, 0, none⟩) 1 1, .string ⟨#[44]⟩] (wr.alloc (.cells #[.string ⟨#[42]⟩] 9)) fun e w' => e = .returned (strV (wds mi ho da mn we ad aw k)) ∧ w' = wr.alloc (.cells #[.string ⟨#[42]⟩] 9) := by
                    have := rjoined [[42]] [44] (wr.alloc (.cells #[.string ⟨#[42]⟩] 9)) (some ⟨wr.heap.size, 0, none⟩) 1 (by decide) (fun x hx => by simp at hx; subst hx; decide) (by decide) (star_cell wr 9)
                    rw [HWd.out, HF.out, word_st]
                    exact this
                  have hOV := (own_below hOwn.out hBW.out (fun g hg => (hOwn.out.lt g hg).2)).alloc (.cells #[.string ⟨#[42]⟩] 9)
                  clear hown
                  go_wp2_with (first
                    | (go_at_call 60; (with_reducible refine cJ.mono ?_); rintro e w' ⟨rfl, h9⟩; have h8 := h9.symm; clear h9; subst h8)
                    | (at_builtin; refine wpList_append_own _ rfl _ _ 67 rfl w1.heap.size 9 i0 (.string ByteArray.empty) 1 16 Tryd.underlying67 hi0 hz0 hz1 hz2 rfl (by decide) _ _ _ rfl (hOV.alloc _) _ 1 1 [_] rfl rfl (cell_newN (by simp)) (fun x hx => by simp at hx; subst hx; rfl) (by unfold maxLen; omega) (by omega) (by simp; omega) ?_; intro v' w3 hown3 hgrow3 hnil3))
                  go_roundw
                  case rel =>
                    obtain ⟨g3, cap3, hv3⟩ : ∃ g3 cap3, v' = .slice (some ⟨g3, 0, none⟩) (k + 1) cap3 := by
                      rcases hown3.2 with ⟨_, h⟩ | ⟨g3, cap3, _, h, _⟩
                      · omega
                      · exact ⟨g3, cap3, h⟩
                    have hB3 : Below w1.heap.size W w3 := (((hBW.out.mono hzB).alloc (by omega) _).alloc (by first | omega | (simp; omega)) _).grown hgrow3 (by simp; omega) (fun q hq => (hOV.lt q hq).1)
                    refine ⟨k + 1, some ⟨g3, 0, none⟩, cap3, by omega, rfl, hv3, ?_, Nat.le_trans hzB hB3.size, laid_B hL.out hB3 hp hq hr hz1w⟩
                    rw [list_step]; exact hown3
                  case measure => simp [intOf]; omega
              · have q4 : ((k : Int) != 4) = true := by simp; omega
                have HF : Hid (star = true) := by unfold Hid; simpa [k2, k4] using hst.symm
                clear hst k2 k4
                have cJ : Calls Tryd.prog 60 #[.slice (some ⟨wr.heap.size, 0, none⟩) 1 1, .string ⟨#[44]⟩] (wr.alloc (.cells #[.string ⟨#[42]⟩] 9)) fun e w' => e = .returned (strV (wds mi ho da mn we ad aw k)) ∧ w' = wr.alloc (.cells #[.string ⟨#[42]⟩] 9) := by
                  have := rjoined [[42]] [44] (wr.alloc (.cells #[.string ⟨#[42]⟩] 9)) (some ⟨wr.heap.size, 0, none⟩) 1 (by decide) (fun x hx => by simp at hx; subst hx; decide) (by decide) (star_cell wr 9)
                  rw [HWd.out, HF.out, word_st]
                  exact this
                have hOV := (own_below hOwn.out hBW.out (fun g hg => (hOwn.out.lt g hg).2)).alloc (.cells #[.string ⟨#[42]⟩] 9)
                clear hown
                go_wp2_with (first
                  | (go_at_call 60; (with_reducible refine cJ.mono ?_); rintro e w' ⟨rfl, h9⟩; have h8 := h9.symm; clear h9; subst h8)
                  | (at_builtin; refine wpList_append_own _ rfl _ _ 67 rfl w1.heap.size 9 i0 (.string ByteArray.empty) 1 16 Tryd.underlying67 hi0 hz0 hz1 hz2 rfl (by decide) _ _ _ rfl (hOV.alloc _) _ 1 1 [_] rfl rfl (cell_newN (by simp)) (fun x hx => by simp at hx; subst hx; rfl) (by unfold maxLen; omega) (by omega) (by simp; omega) ?_; intro v' w3 hown3 hgrow3 hnil3))
                go_roundw
                case rel =>
                  obtain ⟨g3, cap3, hv3⟩ : ∃ g3 cap3, v' = .slice (some ⟨g3, 0, none⟩) (k + 1) cap3 := by
                    rcases hown3.2 with ⟨_, h⟩ | ⟨g3, cap3, _, h, _⟩
                    · omega
                    · exact ⟨g3, cap3, h⟩
                  have hB3 : Below w1.heap.size W w3 := (((hBW.out.mono hzB).alloc (by omega) _).alloc (by first | omega | (simp; omega)) _).grown hgrow3 (by simp; omega) (fun q hq => (hOV.lt q hq).1)
                  refine ⟨k + 1, some ⟨g3, 0, none⟩, cap3, by omega, rfl, hv3, ?_, Nat.le_trans hzB hB3.size, laid_B hL.out hB3 hp hq hr hz1w⟩
                  rw [list_step]; exact hown3
                case measure => simp [intOf]; omega
    · obtain rfl : k = 5 := by omega
      have hk5' : ¬ ((5 : Nat) : Int) < 5 := by omega
      have cJ : Calls Tryd.prog 60 #[.slice ao 5 cv, .string ⟨#[32]⟩] W fun e w' => e = .returned (strV (cronT (wds mi ho da mn we ad aw))) ∧ w' = W :=
        rjoined [wds mi ho da mn we ad aw 0, wds mi ho da mn we ad aw 1, wds mi ho da mn we ad aw 2, wds mi ho da mn we ad aw 3, wds mi ho da mn we ad aw 4] [32] W ao cv (by simp) (five_len HLen.out) (by simp) (own_cell (by have := hOwn.out; rw [five_list] at this; exact this))
      go_wp2_with (go_at_call 60; (with_reducible refine cJ.mono ?_); rintro e w' ⟨rfl, h9⟩; have h8 := h9.symm; clear h9; subst h8)
      go_ret
      exact ⟨rfl, hL.out.2.2.2.2.2.2⟩
end RCrn
end Go.Proofs.YtcfncgjpbdkagabDoor
