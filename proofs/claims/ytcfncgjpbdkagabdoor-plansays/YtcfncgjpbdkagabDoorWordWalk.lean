/- How a set is printed: printWord. -/
import Derived.Test.YtcfncgjpbdkagabDoorTextWalks
namespace Go.Proofs.YtcfncgjpbdkagabDoor
namespace Crn
open Go.RowKit Lai Civ
set_option maxRecDepth 8000

/-- where printWord stands: m numbers are done -/
def PwR (s : Int) (w : World) (v f o : Value) (wr : World) : Prop := ∃ (m : Int) (ao : Option Addr) (cv : Nat), 0 ≤ m ∧ m ≤ 60 ∧ (m = 0 ∨ inS s m = false) ∧ f = .int .i64 (frm s m) ∧ o = .bool (frmB s m) ∧ v = .slice ao (rowsT s m.toNat).length cv ∧
  wr.ownsRow w.heap.size 9 1 v (rowsT s m.toNat).length ((rowsT s m.toNat).map strV) ∧ Below w.heap.size w wr ∧ TabIs64 wr

set_option maxHeartbeats 8000000 in
theorem word_no (s : Int) (w : World) (hs : U s) (h60 : ∀ n, inS s n = true → n ≤ 59) (hT : TabIs64 w) :
    Calls Tryd.prog 84 #[.int .u64 s, .bool false] w fun e w' => e = .returned (strV (wordT s false)) ∧ Below w.heap.size w w' := by
  obtain ⟨i0, hi, hz0, hz1, hz2⟩ := info_parts info_str
  have c0 := from_any s 0 w hs (by omega) hT
  have HS : Hid (U s) := hs
  have H60 : Hid (∀ n, inS s n = true → n ≤ 59) := h60
  have HT : Hid (TabIs64 w) := hT
  clear hs h60 hT
  go_enter Tryd.func84, Tryd.ntmps84
  go_wp2_with (go_at_call 81; (with_reducible refine c0.mono ?_); rintro e w' ⟨rfl, h9⟩; have h8 := h9.symm; clear h9; subst h8)
  clear c0
  go_loopw [5, 6, 7] (fun v f o wr => PwR s w v f o wr) (fun _ f _ _ => (65 - intOf f).toNat)
  case atStart => exact ⟨0, none, 0, by omega, by omega, Or.inl rfl, rfl, rfl, rfl, World.ownsRow_nil _ _ _ _, Below.refl _ _, HT.out⟩
  case round =>
    obtain ⟨m, ao, cv, hm0, hm1, hms, rfl, rfl, rfl, hown, hnx, hTr⟩ := hrel
    cases hb : frmB s m
    · have HW : Hid (wordT s false = Lib.join (rowsT s m.toNat) [44]) := word_end HS.out hm0 hm1 hb
      have hlr : (rowsT s m.toNat).length ≤ 64 := by unfold rowsT; rw [List.length_map]; have := rows_len s m.toNat; omega
      have cJ := join_own (rowsT s m.toNat) [44] wr w.heap.size ao cv hown (by omega) (rowT_len s m.toNat HS.out H60.out) (by decide)
      clear hown hlr
      go_wp2_with (go_at_call 85; (with_reducible refine cJ.mono ?_); rintro e w5 ⟨rfl, hb5⟩)
      go_ret
      exact ⟨ret_str HW.out.symm, bstep hnx hb5⟩
    · obtain ⟨f1, f2, f3, f4⟩ := frm_yes s m HS.out hm0 hb
      obtain ⟨e1, e2, e3, e4, e5⟩ := end_spec HS.out H60.out f3
      have h59 := H60.out _ f3
      have c2 : Calls Tryd.prog 81 #[.int .u64 (bits .xor .u64 IntKind.u64.max s), .int .i64 (frm s m)] wr fun e w' => e = .returned (.tuple #[.int .i64 (frm (ntS s) (frm s m)), .bool (frmB (ntS s) (frm s m))]) ∧ w' = wr := by
        rw [not_eq s HS.out]; exact from_any (ntS s) (frm s m) wr (ntS_u s HS.out) (by omega) hTr
      have hp : inS s (frm s m - 1) = false := by
        by_cases g : m = frm s m
        · rcases hms with h | h
          · rw [← g, h]; exact inS_neg _ _ (by omega)
          · rw [g, f3] at h; cases h
        · exact f4 _ (by omega) (by omega)
      have HR : Hid (rowsT s (frm (ntS s) (frm s m)).toNat = rowsT s m.toNat ++ [rowT (frm s m, frm (ntS s) (frm s m) - 1)]) := by
        unfold Hid rowsT
        rw [rows_on HS.out H60.out f3 hp, rows_to hm0 f1 f4, List.map_append]; rfl
      have hlr : (rowsT s m.toNat).length ≤ 64 := by unfold rowsT; rw [List.length_map]; have := rows_len s m.toNat; omega
      have HE : Hid (inS s (frm (ntS s) (frm s m)) = false) := e4
      have HB : Hid (frmB (ntS s) (frm s m) = true) := e1
      have cR := fun w => row_any (frm s m) (frm (ntS s) (frm s m) - 1) (by omega) (by omega) w
      have c3 := fun w hT => from_any s (frm (ntS s) (frm s m)) w HS.out (by omega) hT
      have HF : Hid (frm s m < frm s (frm (ntS s) (frm s m)) ∧ frm s (frm (ntS s) (frm s m)) ≤ 64) := by
        refine ⟨?_, (frm_bd s _ HS.out (by omega)).2⟩
        cases g : frmB s (frm (ntS s) (frm s m))
        · rw [frm_none _ _ g]; omega
        · have := (frm_yes s _ HS.out (by omega) g).1; omega
      generalize frmB (ntS s) (frm s m) = bb at c2 HB
      generalize hb0 : frm (ntS s) (frm s m) = b at c2 HR HE cR c3 HF e2 e3 e4
      have f0 : 0 ≤ frm s m := by omega
      clear e1 e4 e5 f4 f3 hp hms hb0
      have hsize := hnx.size
      go_wp2_with (first
        | (go_at_call 81; (with_reducible refine c2.mono ?_); rintro e w' ⟨rfl, h9⟩; have h8 := h9.symm; clear h9; subst h8)
        | (go_at_call 104; (with_reducible refine (cR _).mono ?_); rintro e w' ⟨rfl, h9⟩; have h8 := h9.symm; clear h9; subst h8)
        | (at_builtin; refine wpList_append_own _ rfl _ _ 67 rfl w.heap.size 9 i0 (.string ByteArray.empty) 1 16 Tryd.underlying67 hi hz0 hz1 hz2 rfl (by decide) _ _ _ rfl (hown.alloc _) ⟨wr.heap.size, 0, none⟩ 1 1 [strV (rowT (frm s m, b - 1))] rfl rfl (cell_new1 _ _ _) (fun x hx => by simp at hx; subst hx; rfl) (by unfold maxLen; omega) (by omega) (by simp; omega) ?_; intro v' w3 hown' hgrow3 hnil3; have hB3 : Below w.heap.size w w3 := ((hnx.alloc hsize _).grown hgrow3 (by simp; omega) (fun q hq => (hown.lt q hq).1)); have hT3 : TabIs64 w3 := HT.out.below hB3 (Nat.le_refl _))
        | (go_at_call 81; (with_reducible refine (c3 _ hT3).mono ?_); rintro e w' ⟨rfl, h9⟩; have h8 := h9.symm; clear h9; subst h8))
      go_roundw
      case rel =>
        obtain ⟨g3, cap3, hv3⟩ : ∃ g3 cap3, v' = .slice (some ⟨g3, 0, none⟩) ((rowsT s m.toNat).length + 1) cap3 := by
          rcases hown'.2 with ⟨_, h⟩ | ⟨g3, cap3, _, h, _⟩
          · omega
          · exact ⟨g3, cap3, h⟩
        refine ⟨b, some ⟨g3, 0, none⟩, cap3, by omega, by omega, Or.inr HE.out, rfl, rfl, ?_, ?_, hB3, hT3⟩
        · rw [hv3, HR.out]; simp
        · rw [HR.out, List.map_append, List.length_append]; exact hown'
      case measure => have := HF.out; simp [intOf]; omega
end Crn
end Go.Proofs.YtcfncgjpbdkagabDoor
