/- What the document's answer (tideref) says of a text that is cut: Pieces. -/
import Derived.Test.YtcaobnmfgnbolabDoorCutWalks
import Derived.Test.YtcaobnmfgnbolabDoorPk4
import Derived.Deep.RegionWith
namespace Go.Proofs.YtcaobnmfgnbolabDoor
namespace Pie
open Go.RowKit Crn
set_option maxRecDepth 8000

theorem snoc_eq (c : UInt8) : ∀ l : List UInt8, pieces c (l ++ [c]) = pieces c l ++ [[]]
  | [] => by simp [pieces]
  | x :: r => by
    rw [List.cons_append, pieces_cons, pieces_cons, snoc_eq c r]
    by_cases e : x = c
    · rw [if_pos e, if_pos e]; rfl
    · rw [if_neg e, if_neg e]
      cases h : pieces c r with
      | nil => exact absurd h (pieces_ne c r)
      | cons y ys => rfl
theorem snoc_ne (c z : UInt8) (hz : ¬ z = c) : ∀ l : List UInt8, pieces c (l ++ [z]) = (pieces c l).set ((pieces c l).length - 1) ((pieces c l).getD ((pieces c l).length - 1) [] ++ [z])
  | [] => by simp [pieces, hz]
  | x :: r => by
    rw [List.cons_append, pieces_cons, pieces_cons, snoc_ne c z hz r]
    cases h : pieces c r with
    | nil => exact absurd h (pieces_ne c r)
    | cons y ys =>
      by_cases e : x = c
      · rw [if_pos e, if_pos e]
        simp [List.set_cons_succ]
      · rw [if_neg e, if_neg e]
        cases ys with
        | nil => simp
        | cons q qs => simp [List.set_cons_succ]
/-- where Pieces stands: k bytes are done -/
def PiR (s : List UInt8) (c : UInt8) (w : World) (v i : Value) (wr : World) : Prop := ∃ (k g cv : Nat), k ≤ s.length ∧ i = .int .i64 k ∧ v = .slice (some ⟨g, 0, none⟩) (pieces c (s.take k)).length cv ∧ wr.ownsRow w.heap.size 9 1 v (pieces c (s.take k)).length ((pieces c (s.take k)).map strV) ∧ Below w.heap.size w wr
theorem take_snoc {s : List UInt8} {k : Nat} {x : UInt8} (h : s[k]? = some x) : s.take (k + 1) = s.take k ++ [x] := by rw [List.take_add_one, h]; rfl

set_option maxHeartbeats 8000000 in
theorem rpieces_c (s : List UInt8) (c : UInt8) (w : World) (hl : s.length ≤ 3000) :
    Calls Tryd.prog 46 #[strV s, .int .u8 c.toNat] w fun e w' => ∃ B cv, (pieces c s).length ≤ cv ∧ e = .returned (.slice (some ⟨B, 0, none⟩) (pieces c s).length cv) ∧ w.heap.size ≤ B ∧ Texts w' B (pieces c s) ∧ Below w.heap.size w w' := by
  obtain ⟨i0, hi0, hz0, hz1, hz2⟩ := info_parts info_st
  have hsz : (⟨s.toArray⟩ : ByteArray).size = s.length := rfl
  go_enter Tryd.func46, Tryd.ntmps46
  go_wp2
  go_loopw [5, 6] (fun v i wr => PiR s c w v i wr) (fun _ i _ => s.length - (intOf i).toNat)
  case atStart => exact ⟨0, w.heap.size, 1, Nat.zero_le _, rfl, rfl, World.ownsRow_lit w #[.string ⟨#[]⟩] 1 (Nat.le_refl _) (by decide) rfl, (Below.refl _ _).alloc (Nat.le_refl _) _⟩
  case round =>
    obtain ⟨k, g, cv, hk, rfl, rfl, hown, hbw⟩ := hrel
    have hpl : (pieces c (s.take k)).length ≤ 3001 := by rw [pieces_len]; have := List.count_le_length (a := c) (l := s.take k); rw [List.length_take] at this; omega
    have hp1 : 1 ≤ (pieces c (s.take k)).length := by rw [pieces_len]; omega
    have hsb := hbw.size
    have hg := (hown.lt g rfl)
    by_cases hlt : k < s.length
    · have hlt' : (k : Int) < s.length := by omega
      obtain ⟨x, hx⟩ : ∃ x, s[k]? = some x := ⟨s[k], by simp [hlt]⟩
      have HT : Hid (s.take (k + 1) = s.take k ++ [x]) := take_snoc hx
      have HX : Hid (s[k]? = some x) := hx
      have hxk : (⟨s.toArray⟩ : ByteArray)[k]'(by rw [hsz]; exact hlt) = x := by
        have : s[k] = x := by simpa [hlt] using hx
        exact this
      clear hx
      generalize hP : pieces c (s.take k) = P at *
      have HP : Hid (pieces c (s.take k) = P) := hP
      clear hP
      by_cases e : x = c
      · subst e
        have HS : Hid (pieces x (s.take (k + 1)) = P ++ [[]]) := by unfold Hid; rw [HT.out, snoc_eq, HP.out]
        go_wp2_with (at_builtin; refine wpList_append_own _ rfl _ _ 77 rfl w.heap.size 9 i0 (.string ByteArray.empty) 1 16 Tryd.underlying77 hi0 hz0 hz1 hz2 rfl (by decide) _ _ _ rfl (hown.alloc _) ⟨wr.heap.size, 0, none⟩ 1 1 [.string ⟨#[]⟩] rfl rfl (cell_new1 _ _ _) (fun x hx => by simp at hx; subst hx; rfl) (by unfold maxLen; omega) (by omega) (by simp; omega) ?_; intro v' w3 hown3 hgrow3 hnil3)
        go_roundw
        case rel =>
          obtain ⟨g3, cap3, hv3⟩ : ∃ g3 cap3, v' = .slice (some ⟨g3, 0, none⟩) (P.length + 1) cap3 := by
            rcases hown3.2 with ⟨_, h⟩ | ⟨g3, cap3, _, h, _⟩
            · omega
            · exact ⟨g3, cap3, h⟩
          have hB3 : Below w.heap.size w w3 := (hbw.alloc hsb _).grown hgrow3 (by simp; omega) (fun q hq => (hown.lt q hq).1)
          refine ⟨k + 1, g3, cap3, by omega, rfl, ?_, ?_, hB3⟩
          · rw [hv3, HS.out, List.length_append]; rfl
          · rw [HS.out, List.map_append, List.length_append]; exact hown3
        case measure => simp [intOf]; omega
      · have hne : ((x.toNat : Int) == (c.toNat : Int)) = false := by
          rw [beq_eq_false_iff_ne]
          intro h
          exact e (UInt8.toNat_inj.1 (by omega))
        have HS : Hid (pieces c (s.take (k + 1)) = P.set (P.length - 1) (P.getD (P.length - 1) [] ++ [x])) := by unfold Hid; rw [HT.out, snoc_ne c x e, HP.out]
        obtain ⟨N, hN⟩ : ∃ N, P.length = N + 1 := ⟨P.length - 1, by omega⟩
        rw [hN] at hown
        obtain ⟨t, ht⟩ : ∃ t, P[N]? = some t := ⟨P[N], by simp [hN]⟩
        have d0 : wr.cell? ⟨g, N, none⟩ = some (strV t) := by rw [hown.cellAt N (by omega), List.getElem?_map, ht]; rfl
        have d1 := hown.frozenAt N
        have HG : Hid (P.getD (P.length - 1) [] = t) := by unfold Hid; rw [hN, Nat.add_sub_cancel, List.getD_eq_getElem?_getD, ht]; rfl
        have HN : Hid (P.length = N + 1) := hN
        have hk1 : (k : Int) + 1 ≤ ((⟨s.toArray⟩ : ByteArray).size : Int) := by omega
        have hk2 : (k : Int) + 1 ≤ (s.length : Int) := by omega
        have hk3 : k + 1 ≤ s.length := hlt
        have hk4 : (k : Int) ≤ (k : Int) + 1 := by omega
        have htl : t.length ≤ 3000 := by
          have h1 := pieces_sub c (s.take k) t (by rw [HP.out]; exact List.mem_of_getElem? ht)
          rw [List.length_take] at h1; omega
        have hts : (⟨t.toArray⟩ : ByteArray).size = t.length := rfl
        have hNb : N ≤ 3001 := by omega
        have hwN : IntKind.i64.wrap (N : Int) = N := by rw [IntKind.wrap_i64]; omega
        have hwM : wrap64 (N : Int) = N := by simp only [wrap64]; omega
        have hwk : IntKind.i64.wrap ((k : Int) + 1) = (k : Int) + 1 := by rw [IntKind.wrap_i64]; omega
        rw [hN]
        clear hN ht hpl hp1
        go_wp2_with fail
        go_region
        have hst := hown.stored N (Value.string (({ data := t.toArray } : ByteArray) ++ ({ data := s.toArray } : ByteArray).extract k (k + 1)))
        have HV : Hid (Value.string (({ data := t.toArray } : ByteArray) ++ ({ data := s.toArray } : ByteArray).extract k (k + 1)) = strV (t ++ [x])) := by
          have e1 : ({ data := s.toArray } : ByteArray).extract k (k + 1) = ⟨[x].toArray⟩ := by
            have := str_cut s k (k + 1)
            rw [HT.out, List.drop_append_of_le_length (by rw [List.length_take]; omega), List.drop_of_length_le (by rw [List.length_take]; omega)] at this
            exact Value.string.inj this
          unfold Hid
          rw [e1, RCrn.str_add]
        have hB4 := (Below.refl w.heap.size w).trans (hbw.setCell hg.1 (Value.string (({ data := t.toArray } : ByteArray) ++ ({ data := s.toArray } : ByteArray).extract k (k + 1))) (p := ⟨g, N, none⟩))
        have HO : Hid ((wr.setCell ⟨g, N, none⟩ (Value.string (({ data := t.toArray } : ByteArray) ++ ({ data := s.toArray } : ByteArray).extract k (k + 1)))).ownsRow w.heap.size 9 1 (.slice (some ⟨g, 0, none⟩) (N + 1) cv) (N + 1) ((P.set N (t ++ [x])).map strV)) := by
          unfold Hid
          rw [List.map_set, ← HV.out]
          exact hst.1
        have HB4 : Hid (Below w.heap.size w (wr.setCell ⟨g, N, none⟩ (Value.string (({ data := t.toArray } : ByteArray) ++ ({ data := s.toArray } : ByteArray).extract k (k + 1))))) := hB4
        clear hst hB4
        go_wp2
        go_roundw
        case rel =>
          have e2 : pieces c (s.take (k + 1)) = P.set N (t ++ [x]) := by rw [HS.out, HG.out, HN.out, Nat.add_sub_cancel]
          have e3 : (pieces c (s.take (k + 1))).length = N + 1 := by rw [e2, List.length_set]; exact HN.out
          exact ⟨k + 1, g, cv, by omega, rfl, by rw [e3], by rw [e3, e2]; exact HO.out.drew, HB4.out.drew⟩
        case measure => simp [intOf]; omega
    · obtain rfl : k = s.length := by omega
      go_wp2
      go_ret
      rw [List.take_length] at hown
      have hcv : (pieces c s).length ≤ cv := by
        rcases hown.2 with ⟨h, _⟩ | ⟨g', cap', cur, h, _, _, hc, _⟩
        · cases h
        · cases h; exact hc
      refine ⟨g, cv, hcv, by rw [List.take_length]; rfl, hg.1, ⟨hg.2, fun j x hx => ?_⟩, hbw⟩
      rw [hown.cellAt j (by have := (List.getElem?_eq_some_iff.1 hx).1; omega), List.getElem?_map, hx]; rfl
theorem rpieces (s : List UInt8) (c : UInt8) (w : World) (hl : s.length ≤ 3000) :
    Calls Tryd.prog 46 #[strV s, .int .u8 c.toNat] w fun e w' => ∃ B cv, e = .returned (.slice (some ⟨B, 0, none⟩) (pieces c s).length cv) ∧ w.heap.size ≤ B ∧ Texts w' B (pieces c s) ∧ Below w.heap.size w w' :=
  (rpieces_c s c w hl).mono fun _ _ ⟨B, cv, _, h⟩ => ⟨B, cv, h⟩
end Pie
end Go.Proofs.YtcaobnmfgnbolabDoor
