/- What the document's way of printing a set needs: a row's end, a row more, a slice that nobody touches. How a set is printed: printWord. What cron.Print answers, of a right cron. What the document's answer (tideref) says of a cron's text: CronText. What the document's way of printing a cron needs: the five sets by their number. How long a cron's words are; Print of a wrong cron. -/
import Derived.Test.YtcfncgjpbdkagabDoorTextWalks
import Derived.Test.YtcfncgjpbdkagabDoorPk2
import Derived.Test.YtcfncgjpbdkagabDoorPk1
import Derived.Test.YtcfncgjpbdkagabDoorRefChk
namespace Go.Proofs.YtcfncgjpbdkagabDoor
namespace RCrn
open Go.RowKit Lai Civ Crn

theorem end_is {s n l : Int} (hs : 0 ≤ s ∧ s ≤ 18446744073709551615) (h60 : ∀ n, inS s n = true → n ≤ 59) (hnl : n ≤ l) (h : ∀ j, n ≤ j → j ≤ l → inS s j = true) (hl : inS s (l + 1) = false) : endOf s n = l := by
  obtain ⟨_, e2, _, e4, e5⟩ := end_spec hs h60 (h n (by omega) hnl)
  unfold endOf
  rcases Int.lt_trichotomy (frm (ntS s) n) (l + 1) with g | g | g
  · rw [h _ (by omega) (by omega)] at e4; cases e4
  · omega
  · rw [e5 (l + 1) (by omega) g] at hl; cases hl
theorem rowsT_step (s : Int) (n : Nat) : rowsT s (n + 1) = rowsT s n ++ (if isSt s (n : Int) = true then [rowT ((n : Int), endOf s n)] else []) := by
  unfold rowsT
  have e : rowsU s (n + 1) = rowsU s n ++ (if isSt s (n : Int) = true then [((n : Int), endOf s n)] else []) := rfl
  rw [e, List.map_append]
  split <;> rfl
/-- a slice of an elder block is as it was -/
theorem own_below {w w' : World} {base B : Nat} {e : TypeId} {size n : Nat} {v : Value} {xs : List Value} (h : w.ownsRow base e size v n xs) (hb : Below B w w') (hv : ∀ g, v.ownBlock = some g → g < B) : w'.ownsRow base e size v n xs := by
  refine ⟨h.1, ?_⟩
  rcases h.2 with h | ⟨g, cap, cur, h1, h2, h3, h4⟩
  · exact Or.inl h
  · refine Or.inr ⟨g, cap, cur, h1, h2, ?_, h4⟩
    rw [hb.block g (hv g (by rw [h1]; rfl))]; exact h3
/-- are all numbers from lo up to n - 1 in the set? -/
theorem full_star {s full lo hi : Int} (hs : 0 ≤ s ∧ s ≤ 18446744073709551615) (hF : 0 ≤ full ∧ full ≤ 18446744073709551615) (hf : ∀ n, inS full n = decide (lo ≤ n ∧ n ≤ hi)) (hsub : ∀ n, inS s n = true → lo ≤ n ∧ n ≤ hi) (b : Bool) (hb : b = true ↔ ∀ j, lo ≤ j → j ≤ hi → inS s j = true) : b = (s == full) := by
  rw [Bool.eq_iff_iff, hb, beq_iff_eq]
  constructor
  · intro h
    refine u_ext _ _ hs hF fun n => ?_
    rw [hf]
    cases g : inS s n
    · rw [eq_comm, decide_eq_false_iff_not]
      intro q
      rw [h n q.1 q.2] at g; cases g
    · rw [eq_comm, decide_eq_true_eq]; exact hsub n g
  · intro e j h1 h2
    rw [e, hf, decide_eq_true_eq]; exact ⟨h1, h2⟩
end RCrn
end Go.Proofs.YtcfncgjpbdkagabDoor
namespace Go.Proofs.YtcfncgjpbdkagabDoor
namespace Crn
open Go.RowKit Lai Civ
set_option maxRecDepth 8000

/-- where printWord stands: m numbers are done -/
def PwR (s : Int) (w : World) (v f o : Value) (wr : World) : Prop := ∃ (m : Int) (ao : Option Addr) (cv : Nat), 0 ≤ m ∧ m ≤ 60 ∧ (m = 0 ∨ inS s m = false) ∧ f = .int .i64 (frm s m) ∧ o = .bool (frmB s m) ∧ v = .slice ao (rowsT s m.toNat).length cv ∧
  wr.ownsRow w.heap.size 9 1 v (rowsT s m.toNat).length ((rowsT s m.toNat).map strV) ∧ Below w.heap.size w wr ∧ TabIs64 wr

set_option maxHeartbeats 8000000 in
theorem word_no (s : Int) (w : World) (hs : U s) (h60 : ∀ n, inS s n = true → n ≤ 59) (hT : TabIs64 w) :
    Calls Tryd.prog 84 #[.int .u64 s, .bool false] w fun e w' => e = .returned (strV (wordT s false)) ∧ Below w.heap.size w w' := by
  obtain ⟨i0, hi, hz0, hz1, hz2⟩ := info_parts info_str
  have c0 := from_any s 0 w hs (by omega) hT
  have HS : Hid (U s) := hs
  have H60 : Hid (∀ n, inS s n = true → n ≤ 59) := h60
  have HT : Hid (TabIs64 w) := hT
  clear hs h60 hT
  go_enter Tryd.func84, Tryd.ntmps84
  go_wp2_with (go_at_call 81; (with_reducible refine c0.mono ?_); rintro e w' ⟨rfl, h9⟩; have h8 := h9.symm; clear h9; subst h8)
  clear c0
  go_loopw [5, 6, 7] (fun v f o wr => PwR s w v f o wr) (fun _ f _ _ => (65 - intOf f).toNat)
  case atStart => exact ⟨0, none, 0, by omega, by omega, Or.inl rfl, rfl, rfl, rfl, World.ownsRow_nil _ _ _ _, Below.refl _ _, HT.out⟩
  case round =>
    obtain ⟨m, ao, cv, hm0, hm1, hms, rfl, rfl, rfl, hown, hnx, hTr⟩ := hrel
    cases hb : frmB s m
    · have HW : Hid (wordT s false = Lib.join (rowsT s m.toNat) [44]) := word_end HS.out hm0 hm1 hb
      have hlr : (rowsT s m.toNat).length ≤ 64 := by unfold rowsT; rw [List.length_map]; have := rows_len s m.toNat; omega
      have cJ := join_own (rowsT s m.toNat) [44] wr w.heap.size ao cv hown (by omega) (rowT_len s m.toNat HS.out H60.out) (by decide)
      clear hown hlr
      go_wp2_with (go_at_call 85; (with_reducible refine cJ.mono ?_); rintro e w5 ⟨rfl, hb5⟩)
      go_ret
      exact ⟨ret_str HW.out.symm, bstep hnx hb5⟩
    · obtain ⟨f1, f2, f3, f4⟩ := frm_yes s m HS.out hm0 hb
      obtain ⟨e1, e2, e3, e4, e5⟩ := end_spec HS.out H60.out f3
      have h59 := H60.out _ f3
      have c2 : Calls Tryd.prog 81 #[.int .u64 (bits .xor .u64 IntKind.u64.max s), .int .i64 (frm s m)] wr fun e w' => e = .returned (.tuple #[.int .i64 (frm (ntS s) (frm s m)), .bool (frmB (ntS s) (frm s m))]) ∧ w' = wr := by
        rw [not_eq s HS.out]; exact from_any (ntS s) (frm s m) wr (ntS_u s HS.out) (by omega) hTr
      have hp : inS s (frm s m - 1) = false := by
        by_cases g : m = frm s m
        · rcases hms with h | h
          · rw [← g, h]; exact inS_neg _ _ (by omega)
          · rw [g, f3] at h; cases h
        · exact f4 _ (by omega) (by omega)
      have HR : Hid (rowsT s (frm (ntS s) (frm s m)).toNat = rowsT s m.toNat ++ [rowT (frm s m, frm (ntS s) (frm s m) - 1)]) := by
        unfold Hid rowsT
        rw [rows_on HS.out H60.out f3 hp, rows_to hm0 f1 f4, List.map_append]; rfl
      have hlr : (rowsT s m.toNat).length ≤ 64 := by unfold rowsT; rw [List.length_map]; have := rows_len s m.toNat; omega
      have HE : Hid (inS s (frm (ntS s) (frm s m)) = false) := e4
      have HB : Hid (frmB (ntS s) (frm s m) = true) := e1
      have cR := fun w => row_any (frm s m) (frm (ntS s) (frm s m) - 1) (by omega) (by omega) w
      have c3 := fun w hT => from_any s (frm (ntS s) (frm s m)) w HS.out (by omega) hT
      have HF : Hid (frm s m < frm s (frm (ntS s) (frm s m)) ∧ frm s (frm (ntS s) (frm s m)) ≤ 64) := by
        refine ⟨?_, (frm_bd s _ HS.out (by omega)).2⟩
        cases g : frmB s (frm (ntS s) (frm s m))
        · rw [frm_none _ _ g]; omega
        · have := (frm_yes s _ HS.out (by omega) g).1; omega
      generalize frmB (ntS s) (frm s m) = bb at c2 HB
      generalize hb0 : frm (ntS s) (frm s m) = b at c2 HR HE cR c3 HF e2 e3 e4
      have f0 : 0 ≤ frm s m := by omega
      clear e1 e4 e5 f4 f3 hp hms hb0
      have hsize := hnx.size
      go_wp2_with (first
        | (go_at_call 81; (with_reducible refine c2.mono ?_); rintro e w' ⟨rfl, h9⟩; have h8 := h9.symm; clear h9; subst h8)
        | (go_at_call 104; (with_reducible refine (cR _).mono ?_); rintro e w' ⟨rfl, h9⟩; have h8 := h9.symm; clear h9; subst h8)
        | (at_builtin; refine wpList_append_own _ rfl _ _ 67 rfl w.heap.size 9 i0 (.string ByteArray.empty) 1 16 Tryd.underlying67 hi hz0 hz1 hz2 rfl (by decide) _ _ _ rfl (hown.alloc _) ⟨wr.heap.size, 0, none⟩ 1 1 [strV (rowT (frm s m, b - 1))] rfl rfl (cell_new1 _ _ _) (fun x hx => by simp at hx; subst hx; rfl) (by unfold maxLen; omega) (by omega) (by simp; omega) ?_; intro v' w3 hown' hgrow3 hnil3; have hB3 : Below w.heap.size w w3 := ((hnx.alloc hsize _).grown hgrow3 (by simp; omega) (fun q hq => (hown.lt q hq).1)); have hT3 : TabIs64 w3 := HT.out.below hB3 (Nat.le_refl _))
        | (go_at_call 81; (with_reducible refine (c3 _ hT3).mono ?_); rintro e w' ⟨rfl, h9⟩; have h8 := h9.symm; clear h9; subst h8))
      go_roundw
      case rel =>
        obtain ⟨g3, cap3, hv3⟩ : ∃ g3 cap3, v' = .slice (some ⟨g3, 0, none⟩) ((rowsT s m.toNat).length + 1) cap3 := by
          rcases hown'.2 with ⟨_, h⟩ | ⟨g3, cap3, _, h, _⟩
          · omega
          · exact ⟨g3, cap3, h⟩
        refine ⟨b, some ⟨g3, 0, none⟩, cap3, by omega, by omega, Or.inr HE.out, rfl, rfl, ?_, ?_, hB3, hT3⟩
        · rw [hv3, HR.out]; simp
        · rw [HR.out, List.map_append, List.length_append]; exact hown'
      case measure => have := HF.out; simp [intOf]; omega
end Crn
end Go.Proofs.YtcfncgjpbdkagabDoor
namespace Go.Proofs.YtcfncgjpbdkagabDoor
namespace Crn
open Go.RowKit Lai Civ
set_option maxRecDepth 8000

theorem word_star (s : Int) (w : World) : Calls Tryd.prog 84 #[.int .u64 s, .bool true] w fun e w' => e = .returned (strV (wordT s true)) ∧ Below w.heap.size w w' := by
  go_enter Tryd.func84, Tryd.ntmps84
  go_wp2
  go_ret
  exact ⟨ret_str (by unfold wordT; rw [if_pos rfl]), Below.refl _ _⟩
theorem word_any (s : Int) (star : Bool) (w : World) (hs : U s) (h60 : ∀ n, inS s n = true → n ≤ 59) (hT : TabIs64 w) :
    Calls Tryd.prog 84 #[.int .u64 s, .bool star] w fun e w' => e = .returned (strV (wordT s star)) ∧ Below w.heap.size w w' := by
  cases star
  · exact word_no s w hs h60 hT
  · exact word_star s w
/-- the words of a cron -/
def wds (mi ho da mn we : Int) (ad aw : Bool) : Nat → List UInt8
  | 0 => wordT mi (mi == 1152921504606846975)
  | 1 => wordT ho (ho == 16777215)
  | 2 => wordT da ad
  | 3 => wordT mn (mn == 8190)
  | _ => wordT we aw
/-- the state behind k words -/
structure PrW (wd : Nat → List UInt8) (mi ho da mn we : Int) (ad aw : Bool) (B k : Nat) (w wr : World) : Prop where
  box : ∀ o, wr.cell? ⟨w.heap.size, o, none⟩ = (#[Value.int .u64 mi, .int .u64 ho, .int .u64 da, .int .u64 mn, .int .u64 we, .bool ad, .bool aw])[o]?
  z1 : w.heap.size < B
  z2 : B < wr.heap.size
  done : ∀ j, j < k → wr.cell? ⟨B, j, none⟩ = some (strV (wd j))
  rest : ∀ j, k ≤ j → j < 5 → wr.cell? ⟨B, j, none⟩ = some (.string ⟨#[]⟩)
  free : ∀ j, wr.frozen? ⟨B, j, none⟩ = false
  bel : Below w.heap.size w wr
theorem prW_call {wd : Nat → List UInt8} {mi ho da mn we : Int} {ad aw : Bool} {B k : Nat} {w wr w' : World} (h : PrW wd mi ho da mn we ad aw B k w wr) (hb : Below wr.heap.size wr w') : PrW wd mi ho da mn we ad aw B k w w' :=
  ⟨fun o => (hb.cell (p := ⟨w.heap.size, o, none⟩) (Nat.lt_trans h.z1 h.z2)).trans (h.box o), h.z1, Nat.lt_of_lt_of_le h.z2 hb.size, fun j hj => (hb.cell (p := ⟨B, j, none⟩) h.z2).trans (h.done j hj), fun j h1 h2 => (hb.cell (p := ⟨B, j, none⟩) h.z2).trans (h.rest j h1 h2), fun j => (hb.frozen (p := ⟨B, j, none⟩) h.z2).trans (h.free j), h.bel.trans (hb.mono (Nat.le_of_lt (Nat.lt_trans h.z1 h.z2)))⟩
theorem prW_set {wd : Nat → List UInt8} {mi ho da mn we : Int} {ad aw : Bool} {B k : Nat} {w wr : World} (h : PrW wd mi ho da mn we ad aw B k w wr) (hk : k < 5) : PrW wd mi ho da mn we ad aw B (k + 1) w (wr.setCell ⟨B, k, none⟩ (strV (wd k))) := by
  have b : Below B wr (wr.setCell ⟨B, k, none⟩ (strV (wd k))) := (Below.refl B wr).setCell (Nat.le_refl _) _
  have hc := h.rest k (Nat.le_refl _) hk
  refine ⟨fun o => (b.cell (p := ⟨w.heap.size, o, none⟩) h.z1).trans (h.box o), h.z1, Nat.lt_of_lt_of_le h.z2 b.size, fun j hj => ?_, fun j h1 h2 => ?_, fun j => ?_, h.bel.setCell (Nat.le_of_lt h.z1) _⟩
  · by_cases e : j = k
    · subst e; simp [go_sem, hc]
    · rw [World.cell?_setCell_other _ _ _ _ (fun q => e (by cases q; rfl))]; exact h.done j (by omega)
  · rw [World.cell?_setCell_other _ _ _ _ (fun q => by cases q; omega)]; exact h.rest j (by omega) h2
  · simp [h.free]
def PrR (wd : Nat → List UInt8) (mi ho da mn we : Int) (ad aw : Bool) (B : Nat) (w : World) (i : Value) (wr : World) : Prop := ∃ k : Nat, k ≤ 5 ∧ i = .int .i64 k ∧ PrW wd mi ho da mn we ad aw B k w wr
/-- the text of a cron -/
def cronT (wd : Nat → List UInt8) : List UInt8 := Lib.join [wd 0, wd 1, wd 2, wd 3, wd 4] [32]

set_option maxHeartbeats 16000000 in
theorem print_yes (mi ho da mn we : Int) (ad aw : Bool) (w : World) (hB : BdsAt w) (hT : TabIs64 w) (b0 : U mi) (b1 : U ho) (b2 : U da) (b3 : U mn) (b4 : U we) (hc : chkB mi ho da mn we ad aw = true)
    (hlen : ∀ j, (wds mi ho da mn we ad aw j).length ≤ 1000) :
    Calls Tryd.prog 62 #[cronV mi ho da mn we ad aw] w fun e w' => e = .returned (.tuple #[strV (cronT (wds mi ho da mn we ad aw)), .int .i64 0]) ∧ Below w.heap.size w w' := by
  have G := good_of b0 b1 b2 b3 b4 hc
  have q0 := fun w hT => word_any mi (mi == 1152921504606846975) w b0 (fun n h => G.gmi.2 n h) hT
  have q1 := fun w hT => word_any ho (ho == 16777215) w b1 (fun n h => by have := G.gho.2 n h; omega) hT
  have q2 := fun w hT => word_any da ad w b2 (fun n h => by have := G.g31 n h; omega) hT
  have q3 := fun w hT => word_any mn (mn == 8190) w b3 (fun n h => by have := G.g12 n h; omega) hT
  have q4 := fun w hT => word_any we aw w b4 (fun n h => by have := G.gwe.2 n h; omega) hT
  have cc := fun w hB => check_yes mi ho da mn we ad aw w hB hc
  have HB : Hid (BdsAt w) := hB
  have HT : Hid (TabIs64 w) := hT
  have HL : Hid (∀ j, (wds mi ho da mn we ad aw j).length ≤ 1000) := hlen
  clear G b0 b1 b2 b3 b4 hc hlen hT
  generalize hwd : wds mi ho da mn we ad aw = wd at HL
  have HW : Hid (wds mi ho da mn we ad aw = wd) := hwd
  clear hwd
  go_enter Tryd.func62, Tryd.ntmps62
  go_wp2_with (first
    | (go_at_call 21; (with_reducible refine (cc _ (hB.below (balloc _) (Nat.le_refl _))).mono ?_); rintro e w1 ⟨rfl, hb1⟩; have hz1 : w.heap.size < w1.heap.size := (by have := hb1.size; simp at this; omega); have hC1 : ∀ o, w1.cell? ⟨w.heap.size, o, none⟩ = (#[Value.int .u64 mi, .int .u64 ho, .int .u64 da, .int .u64 mn, .int .u64 we, .bool ad, .bool aw])[o]? := (fun o => by rw [(bcell hb1).1 _ _ (by simp)]; simp); have hw1 : Hid (Below w.heap.size w w1) := (balloc _).trans (hb1.mono (by simp)))
    | (go_at_call 46; (with_reducible refine (sets_any _ _ _ _ _ _ _ _).mono ?_); rintro e w2 ⟨rfl, hb2⟩))
  have hP0 : PrW wd mi ho da mn we ad aw w1.heap.size 0 w w2 := by
    refine prW_call (wr := w1.alloc (.cells #[.string ⟨#[]⟩, .string ⟨#[]⟩, .string ⟨#[]⟩, .string ⟨#[]⟩, .string ⟨#[]⟩] 134)) ⟨fun o => ?_, hz1, by simp, fun j hj => absurd hj (by omega), fun j h1 h2 => ?_, fun j => ?_, bstep hw1 (balloc _)⟩ hb2
    · rw [(bcell (balloc _)).1 _ _ hz1]; exact hC1 o
    · match j, h2 with
      | 0, _ => simp
      | 1, _ => simp
      | 2, _ => simp
      | 3, _ => simp
      | 4, _ => simp
    · simp
  clear hb1 hb2 hC1 hw1
  go_loopw [16] (fun i wr => PrR wd mi ho da mn we ad aw w1.heap.size w i wr) (fun i _ => 5 - (intOf i).toNat)
  case atStart => exact ⟨0, by omega, rfl, hP0⟩
  case round =>
    clear hP0
    obtain ⟨k, hk, rfl, hP⟩ := hrel
    have HP : Hid (PrW wd mi ho da mn we ad aw w1.heap.size k w wr) := hP
    have hBr : BdsAt wr := HB.out.below hP.bel (Nat.le_refl _)
    have hTr : TabIs64 wr := HT.out.below hP.bel (Nat.le_refl _)
    have hbox := hP.box
    have hz2 := hP.z2
    have hz0 := hP.z1
    have hfr := hP.free
    have hre := hP.rest
    clear hP
    obtain rfl | rfl | rfl | rfl | rfl | rfl : k = 0 ∨ k = 1 ∨ k = 2 ∨ k = 3 ∨ k = 4 ∨ k = 5 := by omega
    · have c0 : wr.cell? ⟨0, 0, none⟩ = some (.int .i64 0) := hBr 0 (by decide)
      have c1 : wr.cell? ⟨0, 1, none⟩ = some (.int .i64 59) := hBr 1 (by decide)
      have hi : ∀ u, (Instr.index 95 (.agg #[.int .u64 mi, .int .u64 ho, .int .u64 da, .int .u64 mn, .int .u64 we]) (.int .i64 0)).run Tryd.prog u = .ok (.int .u64 mi) u := fun _ => by kernel_rfl
      clear hre hfr
      go_wp2_with (first
        | (go_at_call 47; (with_reducible refine (all_min _).mono ?_); rintro e w3 ⟨rfl, hb3⟩; have HP3 : Hid (PrW wd mi ho da mn we ad aw w1.heap.size 0 w w3) := prW_call HP.out hb3; have hT3 : TabIs64 w3 := hTr.below hb3 (Nat.le_refl _); have hbox3 := HP3.out.box; have hz3 := HP3.out.z2)
        | (go_at_call 84; (with_reducible refine (q0 _ hT3).mono ?_); rintro e w4 ⟨rfl, hb4⟩; have HP4 : Hid (PrW wd mi ho da mn we ad aw w1.heap.size 0 w w4) := prW_call HP3.out hb4; have hr4 := HP4.out.rest 0 (by omega) (by omega); have hf4 := HP4.out.free 0))
      go_roundw
      case rel => exact ⟨0 + 1, by omega, rfl, by have := prW_set HP4.out (by omega); rw [← HW.out] at this ⊢; exact this⟩
      case measure => simp [intOf]
    · have c0 : wr.cell? ⟨0, 2, none⟩ = some (.int .i64 0) := hBr 2 (by decide)
      have c1 : wr.cell? ⟨0, 3, none⟩ = some (.int .i64 23) := hBr 3 (by decide)
      have hi : ∀ u, (Instr.index 95 (.agg #[.int .u64 mi, .int .u64 ho, .int .u64 da, .int .u64 mn, .int .u64 we]) (.int .i64 1)).run Tryd.prog u = .ok (.int .u64 ho) u := fun _ => by kernel_rfl
      clear hre hfr
      go_wp2_with (first
        | (go_at_call 47; (with_reducible refine (all_hour _).mono ?_); rintro e w3 ⟨rfl, hb3⟩; have HP3 : Hid (PrW wd mi ho da mn we ad aw w1.heap.size 1 w w3) := prW_call HP.out hb3; have hT3 : TabIs64 w3 := hTr.below hb3 (Nat.le_refl _); have hbox3 := HP3.out.box; have hz3 := HP3.out.z2)
        | (go_at_call 84; (with_reducible refine (q1 _ hT3).mono ?_); rintro e w4 ⟨rfl, hb4⟩; have HP4 : Hid (PrW wd mi ho da mn we ad aw w1.heap.size 1 w w4) := prW_call HP3.out hb4; have hr4 := HP4.out.rest 1 (by omega) (by omega); have hf4 := HP4.out.free 1))
      go_roundw
      case rel => exact ⟨1 + 1, by omega, rfl, by have := prW_set HP4.out (by omega); rw [← HW.out] at this ⊢; exact this⟩
      case measure => simp [intOf]
    · have c0 : wr.cell? ⟨0, 4, none⟩ = some (.int .i64 1) := hBr 4 (by decide)
      have c1 : wr.cell? ⟨0, 5, none⟩ = some (.int .i64 31) := hBr 5 (by decide)
      have hi : ∀ u, (Instr.index 95 (.agg #[.int .u64 mi, .int .u64 ho, .int .u64 da, .int .u64 mn, .int .u64 we]) (.int .i64 2)).run Tryd.prog u = .ok (.int .u64 da) u := fun _ => by kernel_rfl
      clear hre hfr
      go_wp2_with (first
        | (go_at_call 47; (with_reducible refine (all_day _).mono ?_); rintro e w3 ⟨rfl, hb3⟩; have HP3 : Hid (PrW wd mi ho da mn we ad aw w1.heap.size 2 w w3) := prW_call HP.out hb3; have hT3 : TabIs64 w3 := hTr.below hb3 (Nat.le_refl _); have hbox3 := HP3.out.box; have hz3 := HP3.out.z2)
        | (go_at_call 84; (with_reducible refine (q2 _ hT3).mono ?_); rintro e w4 ⟨rfl, hb4⟩; have HP4 : Hid (PrW wd mi ho da mn we ad aw w1.heap.size 2 w w4) := prW_call HP3.out hb4; have hr4 := HP4.out.rest 2 (by omega) (by omega); have hf4 := HP4.out.free 2))
      go_roundw
      case rel => exact ⟨2 + 1, by omega, rfl, by have := prW_set HP4.out (by omega); rw [← HW.out] at this ⊢; exact this⟩
      case measure => simp [intOf]
    · have c0 : wr.cell? ⟨0, 6, none⟩ = some (.int .i64 1) := hBr 6 (by decide)
      have c1 : wr.cell? ⟨0, 7, none⟩ = some (.int .i64 12) := hBr 7 (by decide)
      have hi : ∀ u, (Instr.index 95 (.agg #[.int .u64 mi, .int .u64 ho, .int .u64 da, .int .u64 mn, .int .u64 we]) (.int .i64 3)).run Tryd.prog u = .ok (.int .u64 mn) u := fun _ => by kernel_rfl
      clear hre hfr
      go_wp2_with (first
        | (go_at_call 47; (with_reducible refine (all_mon _).mono ?_); rintro e w3 ⟨rfl, hb3⟩; have HP3 : Hid (PrW wd mi ho da mn we ad aw w1.heap.size 3 w w3) := prW_call HP.out hb3; have hT3 : TabIs64 w3 := hTr.below hb3 (Nat.le_refl _); have hbox3 := HP3.out.box; have hz3 := HP3.out.z2)
        | (go_at_call 84; (with_reducible refine (q3 _ hT3).mono ?_); rintro e w4 ⟨rfl, hb4⟩; have HP4 : Hid (PrW wd mi ho da mn we ad aw w1.heap.size 3 w w4) := prW_call HP3.out hb4; have hr4 := HP4.out.rest 3 (by omega) (by omega); have hf4 := HP4.out.free 3))
      go_roundw
      case rel => exact ⟨3 + 1, by omega, rfl, by have := prW_set HP4.out (by omega); rw [← HW.out] at this ⊢; exact this⟩
      case measure => simp [intOf]
    · have c0 : wr.cell? ⟨0, 8, none⟩ = some (.int .i64 0) := hBr 8 (by decide)
      have c1 : wr.cell? ⟨0, 9, none⟩ = some (.int .i64 6) := hBr 9 (by decide)
      have hi : ∀ u, (Instr.index 95 (.agg #[.int .u64 mi, .int .u64 ho, .int .u64 da, .int .u64 mn, .int .u64 we]) (.int .i64 4)).run Tryd.prog u = .ok (.int .u64 we) u := fun _ => by kernel_rfl
      clear hre hfr
      go_wp2_with (first
        | (go_at_call 47; (with_reducible refine (all_week _).mono ?_); rintro e w3 ⟨rfl, hb3⟩; have HP3 : Hid (PrW wd mi ho da mn we ad aw w1.heap.size 4 w w3) := prW_call HP.out hb3; have hT3 : TabIs64 w3 := hTr.below hb3 (Nat.le_refl _); have hbox3 := HP3.out.box; have hz3 := HP3.out.z2)
        | (go_at_call 84; (with_reducible refine (q4 _ hT3).mono ?_); rintro e w4 ⟨rfl, hb4⟩; have HP4 : Hid (PrW wd mi ho da mn we ad aw w1.heap.size 4 w w4) := prW_call HP3.out hb4; have hr4 := HP4.out.rest 4 (by omega) (by omega); have hf4 := HP4.out.free 4))
      go_roundw
      case rel => exact ⟨4 + 1, by omega, rfl, by have := prW_set HP4.out (by omega); rw [← HW.out] at this ⊢; exact this⟩
      case measure => simp [intOf]
    · have cJ : Calls Tryd.prog 85 #[.slice (some ⟨w1.heap.size, 0, none⟩) 5 5, .string ⟨#[32]⟩] wr fun e w' => e = .returned (strV (cronT wd)) ∧ Below wr.heap.size wr w' := Tryd.strings_Join w1.heap.size 0 5 [⟨(wd 0).toArray⟩, ⟨(wd 1).toArray⟩, ⟨(wd 2).toArray⟩, ⟨(wd 3).toArray⟩, ⟨(wd 4).toArray⟩] ⟨#[32]⟩ wr (fun j x hj => by
        match j, hj with
        | 0, hj => cases hj; exact HP.out.done 0 (by omega)
        | 1, hj => cases hj; exact HP.out.done 1 (by omega)
        | 2, hj => cases hj; exact HP.out.done 2 (by omega)
        | 3, hj => cases hj; exact HP.out.done 3 (by omega)
        | 4, hj => cases hj; exact HP.out.done 4 (by omega)) hz2 (by simp) (by simp) (by
          refine Nat.le_trans (join_len [32] 1000 [wd 0, wd 1, wd 2, wd 3, wd 4] (fun x hx => ?_)) (by simp)
          simp only [List.mem_cons, List.not_mem_nil, or_false] at hx
          rcases hx with rfl | rfl | rfl | rfl | rfl <;> exact HL.out _)
      clear hre hfr
      go_wp2_with (go_at_call 85; (with_reducible refine cJ.mono ?_); rintro e w5 ⟨rfl, hb5⟩)
      go_ret2
      exact ⟨rfl, bstep HP.out.bel hb5⟩
end Crn
end Go.Proofs.YtcfncgjpbdkagabDoor
namespace Go.Proofs.YtcfncgjpbdkagabDoor
namespace RCrn
open Go.RowKit Lai Civ Cal Crn RCiv
set_option maxRecDepth 8000

theorem laid_below {mi ho da mn we : Int} {ad aw : Bool} {p q r : Nat} {w wr w' : World} (h : Laid3 mi ho da mn we ad aw p q r w wr) (hb : Below wr.heap.size wr w') (hz : w.heap.size ≤ wr.heap.size) : Laid3 mi ho da mn we ad aw p q r w w' := by
  obtain ⟨h1, h2, h3, h4, h5, h6, h7⟩ := h
  have s := hb.size
  exact ⟨by omega, by omega, by omega, fun o => ((bcell hb).1 _ _ h1).trans (h4 o), fun o => ((bcell hb).1 _ _ h2).trans (h5 o), fun o => ((bcell hb).1 _ _ h3).trans (h6 o), h7.trans (hb.mono hz)⟩
/-- the texts so far -/
def OutR (wd : Nat → List UInt8) (mi ho da mn we : Int) (ad aw : Bool) (p q r : Nat) (w : World) (out i : Value) (wr : World) : Prop := ∃ (k : Nat) (ao : Option Addr) (cv : Nat), k ≤ 5 ∧ i = .int .i64 k ∧ out = .slice ao k cv ∧ wr.ownsRow w.heap.size 9 1 out k ((List.range k).map fun j => strV (wd j)) ∧ Laid3 mi ho da mn we ad aw p q r w wr
/-- the rows so far, of one set -/
def MidR (s lo hi : Int) (W : World) (rows all n : Value) (wr : World) : Prop := ∃ (m : Int) (b : Bool) (ao : Option Addr) (cv : Nat), lo ≤ m ∧ m ≤ hi + 1 ∧ n = .int .i64 m ∧ all = .bool b ∧ (b = true ↔ ∀ j, lo ≤ j → j < m → inS s j = true) ∧ rows = .slice ao (rowsT s m.toNat).length cv ∧ wr.ownsRow W.heap.size 9 1 rows (rowsT s m.toNat).length ((rowsT s m.toNat).map strV) ∧ Below W.heap.size W wr
def LastQ (s m hi : Int) (W : World) (l : Value) (wr : World) : Prop := ∃ x : Int, l = .int .i64 x ∧ m ≤ x ∧ x ≤ hi ∧ (∀ j, m ≤ j → j ≤ x → inS s j = true) ∧ wr = W
theorem all_step {s lo m : Int} {b x : Bool} (h : b = true ↔ ∀ j, lo ≤ j → j < m → inS s j = true) (hm : lo ≤ m) (hx : inS s m = x) : (b && x) = true ↔ ∀ j, lo ≤ j → j < m + 1 → inS s j = true := by
  rw [Bool.and_eq_true, h]
  constructor
  · rintro ⟨h1, h2⟩ j g1 g2
    by_cases e : j = m
    · rw [e, hx]; exact h2
    · exact h1 j g1 (by omega)
  · intro g
    exact ⟨fun j g1 g2 => g j g1 (by omega), hx.symm.trans (g m hm (by omega))⟩
theorem rows_same {s m : Int} (hm : 0 ≤ m) (h : isSt s m = false) : rowsT s (m + 1).toNat = rowsT s m.toNat := by
  obtain ⟨M, rfl⟩ := Int.eq_ofNat_of_zero_le hm
  rw [show ((M : Int) + 1).toNat = M + 1 by omega, rowsT_step, h, Int.toNat_natCast]; simp
theorem rows_more {s m : Int} (hm : 0 ≤ m) (h : isSt s m = true) : rowsT s (m + 1).toNat = rowsT s m.toNat ++ [rowT (m, endOf s m)] := by
  obtain ⟨M, rfl⟩ := Int.eq_ofNat_of_zero_le hm
  rw [show ((M : Int) + 1).toNat = M + 1 by omega, rowsT_step, h, Int.toNat_natCast]; simp
theorem rows_zero {s lo : Int} (hlo : 0 ≤ lo) (h : ∀ n, inS s n = true → lo ≤ n) : rowsT s lo.toNat = [] := by
  unfold rowsT
  rw [rows_to (s := s) (n := 0) (by omega) hlo (fun j h1 h2 => by cases g : inS s j; rfl; have := h j g; omega)]; rfl
end RCrn
end Go.Proofs.YtcfncgjpbdkagabDoor
namespace Go.Proofs.YtcfncgjpbdkagabDoor
namespace RCrn
open Go.RowKit Lai Civ Cal Crn RCiv
set_option maxRecDepth 8000

def sK (mi ho da mn we : Int) : Nat → Int
  | 0 => mi
  | 1 => ho
  | 2 => da
  | 3 => mn
  | _ => we
def loK : Nat → Int
  | 0 => 0
  | 1 => 0
  | 2 => 1
  | 3 => 1
  | _ => 0
def hiK : Nat → Int
  | 0 => 59
  | 1 => 23
  | 2 => 31
  | 3 => 12
  | _ => 6
def anK (ad aw : Bool) : Nat → Bool
  | 2 => ad
  | 4 => aw
  | _ => false
def starK (mi ho mn : Int) (ad aw : Bool) : Nat → Bool
  | 0 => mi == 1152921504606846975
  | 1 => ho == 16777215
  | 2 => ad
  | 3 => mn == 8190
  | _ => aw
theorem five {k : Nat} (h : k < 5) : k = 0 ∨ k = 1 ∨ k = 2 ∨ k = 3 ∨ k = 4 := by omega
theorem wds_k {mi ho da mn we : Int} {ad aw : Bool} {k : Nat} (h : k < 5) : wds mi ho da mn we ad aw k = wordT (sK mi ho da mn we k) (starK mi ho mn ad aw k) := by
  rcases five h with rfl | rfl | rfl | rfl | rfl <;> rfl
theorem lim_k {k : Nat} (h : k < 5) : 0 ≤ loK k ∧ loK k ≤ 1 ∧ loK k < hiK k ∧ hiK k ≤ 59 := by
  rcases five h with rfl | rfl | rfl | rfl | rfl <;> decide
theorem laid_k {mi ho da mn we : Int} {ad aw : Bool} {p q r : Nat} {w wr : World} {k : Nat} (h : Laid3 mi ho da mn we ad aw p q r w wr) (hk : k < 5) :
    wr.cell? ⟨p, k, none⟩ = some (.int .u64 (sK mi ho da mn we k)) ∧ wr.cell? ⟨q, k * 2, none⟩ = some (.int .i64 (loK k)) ∧ wr.cell? ⟨q, k * 2 + 1, none⟩ = some (.int .i64 (hiK k)) ∧ wr.cell? ⟨r, k, none⟩ = some (.bool (anK ad aw k)) := by
  obtain ⟨_, _, _, h1, h2, h3, _⟩ := h
  rw [h1, h2, h2, h3]
  rcases five hk with rfl | rfl | rfl | rfl | rfl <;> exact ⟨rfl, rfl, rfl, rfl⟩
theorem set_k {mi ho da mn we : Int} {k : Nat} (G : Crn.Good mi ho da mn we) (b0 : U mi) (b1 : U ho) (b2 : U da) (b3 : U mn) (b4 : U we) (hk : k < 5) :
    U (sK mi ho da mn we k) ∧ ∀ n, inS (sK mi ho da mn we k) n = true → loK k ≤ n ∧ n ≤ hiK k := by
  rcases five hk with rfl | rfl | rfl | rfl | rfl
  · exact ⟨b0, fun n h => ⟨(inS_bd h).1, G.gmi.2 n h⟩⟩
  · exact ⟨b1, fun n h => ⟨(inS_bd h).1, G.gho.2 n h⟩⟩
  · exact ⟨b2, fun n h => G.g31 n h⟩
  · exact ⟨b3, fun n h => G.g12 n h⟩
  · exact ⟨b4, fun n h => ⟨(inS_bd h).1, G.gwe.2 n h⟩⟩
theorem laid_B {mi ho da mn we : Int} {ad aw : Bool} {p q r B : Nat} {w wr w' : World} (h : Laid3 mi ho da mn we ad aw p q r w wr) (hb : Below B wr w') (hp : p < B) (hq : q < B) (hr : r < B) (hw : w.heap.size ≤ B) : Laid3 mi ho da mn we ad aw p q r w w' := by
  obtain ⟨h1, h2, h3, h4, h5, h6, h7⟩ := h
  have s := hb.size
  exact ⟨by omega, by omega, by omega, fun o => (hb.cell (p := ⟨p, o, none⟩) hp).trans (h4 o), fun o => (hb.cell (p := ⟨q, o, none⟩) hq).trans (h5 o), fun o => (hb.cell (p := ⟨r, o, none⟩) hr).trans (h6 o), h7.trans (hb.mono hw)⟩
/-- the texts so far: their slice lies behind B -/
def OutB (wd : Nat → List UInt8) (mi ho da mn we : Int) (ad aw : Bool) (p q r B : Nat) (w : World) (out i : Value) (wr : World) : Prop := ∃ (k : Nat) (ao : Option Addr) (cv : Nat), k ≤ 5 ∧ i = .int .i64 k ∧ out = .slice ao k cv ∧ wr.ownsRow B 9 1 out k ((List.range k).map fun j => strV (wd j)) ∧ B ≤ wr.heap.size ∧ Laid3 mi ho da mn we ad aw p q r w wr
theorem own_cell {w : World} {base : Nat} {e : TypeId} {ao : Option Addr} {cv : Nat} {rows : List (List UInt8)} (h : w.ownsRow base e 1 (.slice ao rows.length cv) rows.length (rows.map strV)) :
    ∀ (j : Nat) x, rows[j]? = some x → ∃ bk, ao = some ⟨bk, 0, none⟩ ∧ w.cell? ⟨bk, j, none⟩ = some (strV x) := by
  intro j x hx
  have hj : j < rows.length := (List.getElem?_eq_some_iff.1 hx).1
  rcases h.2 with ⟨_, h0⟩ | ⟨g, cap, cur, hv, _⟩
  · omega
  · have : ao = some ⟨g, 0, none⟩ := by cases hv; rfl
    subst this
    refine ⟨g, rfl, ?_⟩
    rw [h.cellAt j (by omega), List.getElem?_map, hx]; rfl
theorem full_int {full lo hi : Int} {P : Nat → Prop} [DecidablePred P] (hlo : 0 ≤ lo) (h : ∀ k : Nat, inS full (k : Int) = decide (P k)) (hP : ∀ k : Nat, P k ↔ lo ≤ (k : Int) ∧ (k : Int) ≤ hi) (n : Int) : inS full n = decide (lo ≤ n ∧ n ≤ hi) := by
  by_cases g : 0 ≤ n
  · obtain ⟨k, rfl⟩ := Int.eq_ofNat_of_zero_le g
    rw [h, decide_eq_decide]; exact hP k
  · rw [inS_neg _ _ (by omega), eq_comm, decide_eq_false_iff_not]; omega
theorem fMin_in (n : Int) : inS 1152921504606846975 n = decide (0 ≤ n ∧ n ≤ 59) := full_int (P := fun k => k ≤ 59) (by omega) (fun k => (full_in k).1) (fun k => by omega) n
theorem fHour_in (n : Int) : inS 16777215 n = decide (0 ≤ n ∧ n ≤ 23) := full_int (P := fun k => k ≤ 23) (by omega) (fun k => (full_in k).2.1) (fun k => by omega) n
theorem fDay_in (n : Int) : inS 4294967294 n = decide (1 ≤ n ∧ n ≤ 31) := full_int (P := fun k => 1 ≤ k ∧ k ≤ 31) (by omega) (fun k => (full_in k).2.2.1) (fun k => by omega) n
theorem fMon_in (n : Int) : inS 8190 n = decide (1 ≤ n ∧ n ≤ 12) := full_int (P := fun k => 1 ≤ k ∧ k ≤ 12) (by omega) (fun k => (full_in k).2.2.2.1) (fun k => by omega) n
theorem fWeek_in (n : Int) : inS 127 n = decide (0 ≤ n ∧ n ≤ 6) := full_int (P := fun k => k ≤ 6) (by omega) (fun k => (full_in k).2.2.2.2) (fun k => by omega) n
theorem mark_all {s full lo hi : Int} {a b : Bool} (hf : ∀ n, inS full n = decide (lo ≤ n ∧ n ≤ hi)) (hok : okB s full a = true) (hb : b = true ↔ ∀ j, lo ≤ j → j < hi + 1 → inS s j = true) : (b && a) = a := by
  cases a
  · simp
  · have e := ok_any hok
    have : b = true := by
      rw [hb]; intro j h1 h2
      rw [e, hf, decide_eq_true_eq]; omega
    rw [this]; rfl
theorem full_all {s full lo hi : Int} {b : Bool} (hs : 0 ≤ s ∧ s ≤ 18446744073709551615) (hF : 0 ≤ full ∧ full ≤ 18446744073709551615) (hf : ∀ n, inS full n = decide (lo ≤ n ∧ n ≤ hi)) (hsub : ∀ n, inS s n = true → lo ≤ n ∧ n ≤ hi) (hb : b = true ↔ ∀ j, lo ≤ j → j < hi + 1 → inS s j = true) : b = (s == full) :=
  full_star hs hF hf hsub b (hb.trans ⟨fun h j h1 h2 => h j h1 (by omega), fun h j h1 h2 => h j h1 (by omega)⟩)
theorem star_k {mi ho da mn we : Int} {ad aw : Bool} (b0 : U mi) (b1 : U ho) (b2 : U da) (b3 : U mn) (b4 : U we) (hc : chkB mi ho da mn we ad aw = true) {k : Nat} (hk : k < 5) {b : Bool}
    (hb : b = true ↔ ∀ j, loK k ≤ j → j < hiK k + 1 → inS (sK mi ho da mn we k) j = true) :
    (b && ((!decide (k = 2) && !decide (k = 4)) || anK ad aw k)) = starK mi ho mn ad aw k := by
  have hS := (set_k (good_of b0 b1 b2 b3 b4 hc) b0 b1 b2 b3 b4 hk).2
  unfold chkB at hc
  simp only [Bool.and_eq_true] at hc
  obtain ⟨h0, h1, h2, h3, h4⟩ := hc
  rcases five hk with rfl | rfl | rfl | rfl | rfl
  · have := full_all (full := 1152921504606846975) b0 (by decide) fMin_in hS hb
    simpa [starK, anK] using this
  · have := full_all (full := 16777215) b1 (by decide) fHour_in hS hb
    simpa [starK, anK] using this
  · have := mark_all fDay_in h2 hb
    simpa [starK, anK] using this
  · have := full_all (full := 8190) b3 (by decide) fMon_in hS hb
    simpa [starK, anK] using this
  · have := mark_all fWeek_in h4 hb
    simpa [starK, anK] using this
theorem word_hi {s lo hi : Int} (hs : U s) (hlo : 0 ≤ lo) (hlh : lo < hi) (h59 : hi ≤ 59) (hsub : ∀ n, inS s n = true → lo ≤ n ∧ n ≤ hi) : wordT s false = Lib.join (rowsT s (hi + 1).toNat) [44] := by
  refine word_end hs (by omega) (by omega) ?_
  cases h : frmB s (hi + 1)
  · rfl
  · obtain ⟨f1, f2, f3, f4⟩ := frm_yes s (hi + 1) hs (by omega) h
    have := hsub _ f3
    omega
theorem word_st (s : Int) : wordT s true = [42] := by unfold wordT; rw [if_pos rfl]
/-- all that the document's round over one set needs -/
theorem one_set {mi ho da mn we : Int} {ad aw : Bool} {p q r : Nat} {w W : World} {k : Nat} (b0 : U mi) (b1 : U ho) (b2 : U da) (b3 : U mn) (b4 : U we) (hc : chkB mi ho da mn we ad aw = true) (hL : Laid3 mi ho da mn we ad aw p q r w W) (hk : k < 5) :
    ∃ (s lo hi : Int) (an star : Bool), W.cell? ⟨p, k, none⟩ = some (.int .u64 s) ∧ W.cell? ⟨q, k * 2, none⟩ = some (.int .i64 lo) ∧ W.cell? ⟨q, k * 2 + 1, none⟩ = some (.int .i64 hi) ∧ W.cell? ⟨r, k, none⟩ = some (.bool an) ∧
      U s ∧ (∀ n, inS s n = true → lo ≤ n ∧ n ≤ hi) ∧ (0 ≤ lo ∧ lo ≤ 1 ∧ lo < hi ∧ hi ≤ 59) ∧ wds mi ho da mn we ad aw k = wordT s star ∧
      ∀ b : Bool, (b = true ↔ ∀ j, lo ≤ j → j < hi + 1 → inS s j = true) → (b && ((!decide (k = 2) && !decide (k = 4)) || an)) = star := by
  obtain ⟨c1, c2, c3, c4⟩ := laid_k hL hk
  obtain ⟨h1, h2⟩ := set_k (good_of b0 b1 b2 b3 b4 hc) b0 b1 b2 b3 b4 hk
  exact ⟨_, _, _, _, _, c1, c2, c3, c4, h1, h2, lim_k hk, wds_k hk, fun b hb => star_k b0 b1 b2 b3 b4 hc hk hb⟩
theorem row_two {a b : Int} (h : ¬ a = b) : Value.string (({ data := (Lib.decDigits a.toNat).toArray } : ByteArray) ++ (({ data := #[45] } : ByteArray) ++ { data := (Lib.decDigits b.toNat).toArray })) = strV (rowT (a, b)) := by
  have e : (({ data := #[45] } : ByteArray)) = ⟨([45] : List UInt8).toArray⟩ := rfl
  rw [e, str_add, str_add]
  unfold rowT
  rw [if_neg (by simpa using h)]
  simp
theorem row_one (a : Int) : Value.string { data := (Lib.decDigits a.toNat).toArray } = strV (rowT (a, a)) := by
  unfold rowT; rw [if_pos rfl]
theorem cell_newN {w : World} {x : Value} {t : TypeId} {N : Nat} (hN : N = w.heap.size) : ∀ (j : Nat) u, ([x] : List Value)[j]? = some u → (w.alloc (.cells #[x] t)).cell? ((⟨N, 0, none⟩ : Addr).add j) = some u := by
  subst hN; exact cell_new1 w x t
theorem star_cell (w : World) (t : TypeId) : ∀ (j : Nat) x, ([[42]] : List (List UInt8))[j]? = some x → ∃ bk, some (⟨w.heap.size, 0, none⟩ : Addr) = some ⟨bk, 0, none⟩ ∧ (w.alloc (.cells #[.string ⟨#[42]⟩] t)).cell? ⟨bk, j, none⟩ = some (strV x) := by
  intro j x h
  match j, h with
  | 0, h => simp at h; subst h; exact ⟨_, rfl, by simp⟩
  | j + 1, h => simp at h
theorem five_len {wd : Nat → List UInt8} (h : ∀ j, (wd j).length ≤ 1000) : ∀ x ∈ [wd 0, wd 1, wd 2, wd 3, wd 4], x.length ≤ 1000 := by
  intro x hx
  simp only [List.mem_cons, List.not_mem_nil, or_false] at hx
  rcases hx with rfl | rfl | rfl | rfl | rfl <;> exact h _
theorem five_list (wd : Nat → List UInt8) : (List.range 5).map (fun j => strV (wd j)) = [wd 0, wd 1, wd 2, wd 3, wd 4].map strV := rfl
theorem list_step (wd : Nat → List UInt8) (k : Nat) : (List.range (k + 1)).map (fun j => strV (wd j)) = (List.range k).map (fun j => strV (wd j)) ++ [strV (wd k)] := by
  rw [List.range_succ, List.map_append]; rfl
end RCrn
end Go.Proofs.YtcfncgjpbdkagabDoor
namespace Go.Proofs.YtcfncgjpbdkagabDoor
namespace RCrn
open Go.RowKit Lai Civ Cal Crn RCiv
set_option maxRecDepth 8000

theorem print_no (mi ho da mn we : Int) (ad aw : Bool) (w : World) (hB : BdsAt w) (hc : chkB mi ho da mn we ad aw = false) :
    Calls Tryd.prog 62 #[cronV mi ho da mn we ad aw] w fun e w' => e = .returned (.tuple #[.string ⟨#[]⟩, .int .i64 1]) ∧ Below w.heap.size w w' := by
  have hB2 := fun o => hB.below (balloc o) (Nat.le_refl _)
  go_enter Tryd.func62, Tryd.ntmps62
  go_wp2_with (go_at_call 21; (with_reducible refine (check_no _ _ _ _ _ _ _ _ (hB2 _) hc).mono ?_); rintro e w1 ⟨rfl, hb1⟩)
  go_ret2
  exact ⟨rfl, (balloc _).trans (hb1.mono (by simp))⟩

theorem row_len5 {s : Int} (hs : U s) (h60 : ∀ n, inS s n = true → n ≤ 59) : ∀ k : Nat, ∀ p ∈ rowsU s k, (rowT p).length ≤ 5
  | 0, p, hp => by cases hp
  | k + 1, p, hp => by
    have e : rowsU s (k + 1) = rowsU s k ++ (if isSt s (k : Int) = true then [((k : Int), endOf s k)] else []) := rfl
    rw [e, List.mem_append] at hp
    rcases hp with hp | hp
    · exact row_len5 hs h60 k p hp
    · by_cases g : isSt s (k : Int) = true
      · rw [if_pos g, List.mem_singleton] at hp
        subst hp
        unfold isSt at g
        rw [Bool.and_eq_true] at g
        obtain ⟨e1, e2, e3, _⟩ := end_spec hs h60 g.1
        have := inS_bd g.1
        have l1 := dec_len (k : Int).toNat (by omega)
        have l2 := dec_len (endOf s k).toNat (by unfold endOf; omega)
        unfold rowT
        dsimp only
        split
        · omega
        · simp only [List.length_append, List.length_cons, List.length_nil]; omega
      · rw [if_neg g] at hp; cases hp
theorem word_len {s lo hi : Int} (star : Bool) (hs : U s) (hsub : ∀ n, inS s n = true → lo ≤ n ∧ n ≤ hi) (hl : 0 ≤ lo ∧ lo ≤ 1 ∧ lo < hi ∧ hi ≤ 59) : (wordT s star).length ≤ 1000 := by
  cases star
  · rw [word_hi hs hl.1 hl.2.2.1 hl.2.2.2 hsub]
    have h5 : ∀ x ∈ rowsT s (hi + 1).toNat, x.length ≤ 5 := by
      intro x hx
      unfold rowsT at hx
      rw [List.mem_map] at hx
      obtain ⟨p, hp, rfl⟩ := hx
      exact row_len5 hs (fun n h => by have := hsub n h; omega) _ p hp
    have h1 := join_len [44] 5 (rowsT s (hi + 1).toNat) h5
    have h2 : (rowsT s (hi + 1).toNat).length ≤ 64 := by unfold rowsT; rw [List.length_map]; have := rows_len s (hi + 1).toNat; omega
    have h3 : (rowsT s (hi + 1).toNat).length * (([44] : List UInt8).length + 5) ≤ 64 * 6 := Nat.mul_le_mul h2 (by decide)
    omega
  · rw [word_st]; decide
theorem words_len {mi ho da mn we : Int} {ad aw : Bool} (b0 : U mi) (b1 : U ho) (b2 : U da) (b3 : U mn) (b4 : U we) (hc : chkB mi ho da mn we ad aw = true) : ∀ j, (wds mi ho da mn we ad aw j).length ≤ 1000 := by
  have key : ∀ k, k < 5 → (wds mi ho da mn we ad aw k).length ≤ 1000 := fun k hk => by
    obtain ⟨h1, h2⟩ := set_k (good_of b0 b1 b2 b3 b4 hc) b0 b1 b2 b3 b4 hk
    rw [wds_k hk]
    exact word_len _ h1 h2 (lim_k hk)
  intro j
  match j with
  | 0 => exact key 0 (by decide)
  | 1 => exact key 1 (by decide)
  | 2 => exact key 2 (by decide)
  | 3 => exact key 3 (by decide)
  | j + 4 => exact key 4 (by decide)
theorem cron_len {mi ho da mn we : Int} {ad aw : Bool} (hl : ∀ j, (wds mi ho da mn we ad aw j).length ≤ 1000) : (cronT (wds mi ho da mn we ad aw)).length ≤ 7000 := by
  unfold cronT
  have := join_len [32] 1000 [wds mi ho da mn we ad aw 0, wds mi ho da mn we ad aw 1, wds mi ho da mn we ad aw 2, wds mi ho da mn we ad aw 3, wds mi ho da mn we ad aw 4] (fun x hx => by
    simp only [List.mem_cons, List.not_mem_nil, or_false] at hx
    rcases hx with rfl | rfl | rfl | rfl | rfl <;> exact hl _)
  simp only [List.length_cons, List.length_nil] at this
  omega
end RCrn
end Go.Proofs.YtcfncgjpbdkagabDoor
