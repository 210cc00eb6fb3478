/- What cron.Print answers, of a right cron. -/
import Derived.Test.YtcfncgjpbdkagabDoorWordWalk
import Derived.Test.YtcfncgjpbdkagabDoorCronMatch2
import Derived.Test.YtcfncgjpbdkagabDoorCronPlain
namespace Go.Proofs.YtcfncgjpbdkagabDoor
namespace Crn
open Go.RowKit Lai Civ
set_option maxRecDepth 8000

theorem word_star (s : Int) (w : World) : Calls Tryd.prog 84 #[.int .u64 s, .bool true] w fun e w' => e = .returned (strV (wordT s true)) ∧ Below w.heap.size w w' := by
  go_enter Tryd.func84, Tryd.ntmps84
  go_wp2
  go_ret
  exact ⟨ret_str (by unfold wordT; rw [if_pos rfl]), Below.refl _ _⟩
theorem word_any (s : Int) (star : Bool) (w : World) (hs : U s) (h60 : ∀ n, inS s n = true → n ≤ 59) (hT : TabIs64 w) :
    Calls Tryd.prog 84 #[.int .u64 s, .bool star] w fun e w' => e = .returned (strV (wordT s star)) ∧ Below w.heap.size w w' := by
  cases star
  · exact word_no s w hs h60 hT
  · exact word_star s w
/-- the words of a cron -/
def wds (mi ho da mn we : Int) (ad aw : Bool) : Nat → List UInt8
  | 0 => wordT mi (mi == 1152921504606846975)
  | 1 => wordT ho (ho == 16777215)
  | 2 => wordT da ad
  | 3 => wordT mn (mn == 8190)
  | _ => wordT we aw
/-- the state behind k words -/
structure PrW (wd : Nat → List UInt8) (mi ho da mn we : Int) (ad aw : Bool) (B k : Nat) (w wr : World) : Prop where
  box : ∀ o, wr.cell? ⟨w.heap.size, o, none⟩ = (#[Value.int .u64 mi, .int .u64 ho, .int .u64 da, .int .u64 mn, .int .u64 we, .bool ad, .bool aw])[o]?
  z1 : w.heap.size < B
  z2 : B < wr.heap.size
  done : ∀ j, j < k → wr.cell? ⟨B, j, none⟩ = some (strV (wd j))
  rest : ∀ j, k ≤ j → j < 5 → wr.cell? ⟨B, j, none⟩ = some (.string ⟨#[]⟩)
  free : ∀ j, wr.frozen? ⟨B, j, none⟩ = false
  bel : Below w.heap.size w wr
theorem prW_call {wd : Nat → List UInt8} {mi ho da mn we : Int} {ad aw : Bool} {B k : Nat} {w wr w' : World} (h : PrW wd mi ho da mn we ad aw B k w wr) (hb : Below wr.heap.size wr w') : PrW wd mi ho da mn we ad aw B k w w' :=
  ⟨fun o => (hb.cell (p := ⟨w.heap.size, o, none⟩) (Nat.lt_trans h.z1 h.z2)).trans (h.box o), h.z1, Nat.lt_of_lt_of_le h.z2 hb.size, fun j hj => (hb.cell (p := ⟨B, j, none⟩) h.z2).trans (h.done j hj), fun j h1 h2 => (hb.cell (p := ⟨B, j, none⟩) h.z2).trans (h.rest j h1 h2), fun j => (hb.frozen (p := ⟨B, j, none⟩) h.z2).trans (h.free j), h.bel.trans (hb.mono (Nat.le_of_lt (Nat.lt_trans h.z1 h.z2)))⟩
theorem prW_set {wd : Nat → List UInt8} {mi ho da mn we : Int} {ad aw : Bool} {B k : Nat} {w wr : World} (h : PrW wd mi ho da mn we ad aw B k w wr) (hk : k < 5) : PrW wd mi ho da mn we ad aw B (k + 1) w (wr.setCell ⟨B, k, none⟩ (strV (wd k))) := by
  have b : Below B wr (wr.setCell ⟨B, k, none⟩ (strV (wd k))) := (Below.refl B wr).setCell (Nat.le_refl _) _
  have hc := h.rest k (Nat.le_refl _) hk
  refine ⟨fun o => (b.cell (p := ⟨w.heap.size, o, none⟩) h.z1).trans (h.box o), h.z1, Nat.lt_of_lt_of_le h.z2 b.size, fun j hj => ?_, fun j h1 h2 => ?_, fun j => ?_, h.bel.setCell (Nat.le_of_lt h.z1) _⟩
  · by_cases e : j = k
    · subst e; simp [go_sem, hc]
    · rw [World.cell?_setCell_other _ _ _ _ (fun q => e (by cases q; rfl))]; exact h.done j (by omega)
  · rw [World.cell?_setCell_other _ _ _ _ (fun q => by cases q; omega)]; exact h.rest j (by omega) h2
  · simp [h.free]
def PrR (wd : Nat → List UInt8) (mi ho da mn we : Int) (ad aw : Bool) (B : Nat) (w : World) (i : Value) (wr : World) : Prop := ∃ k : Nat, k ≤ 5 ∧ i = .int .i64 k ∧ PrW wd mi ho da mn we ad aw B k w wr
/-- the text of a cron -/
def cronT (wd : Nat → List UInt8) : List UInt8 := Lib.join [wd 0, wd 1, wd 2, wd 3, wd 4] [32]

set_option maxHeartbeats 16000000 in
theorem print_yes (mi ho da mn we : Int) (ad aw : Bool) (w : World) (hB : BdsAt w) (hT : TabIs64 w) (b0 : U mi) (b1 : U ho) (b2 : U da) (b3 : U mn) (b4 : U we) (hc : chkB mi ho da mn we ad aw = true)
    (hlen : ∀ j, (wds mi ho da mn we ad aw j).length ≤ 1000) :
    Calls Tryd.prog 62 #[cronV mi ho da mn we ad aw] w fun e w' => e = .returned (.tuple #[strV (cronT (wds mi ho da mn we ad aw)), .int .i64 0]) ∧ Below w.heap.size w w' := by
  have G := good_of b0 b1 b2 b3 b4 hc
  have q0 := fun w hT => word_any mi (mi == 1152921504606846975) w b0 (fun n h => G.gmi.2 n h) hT
  have q1 := fun w hT => word_any ho (ho == 16777215) w b1 (fun n h => by have := G.gho.2 n h; omega) hT
  have q2 := fun w hT => word_any da ad w b2 (fun n h => by have := G.g31 n h; omega) hT
  have q3 := fun w hT => word_any mn (mn == 8190) w b3 (fun n h => by have := G.g12 n h; omega) hT
  have q4 := fun w hT => word_any we aw w b4 (fun n h => by have := G.gwe.2 n h; omega) hT
  have cc := fun w hB => check_yes mi ho da mn we ad aw w hB hc
  have HB : Hid (BdsAt w) := hB
  have HT : Hid (TabIs64 w) := hT
  have HL : Hid (∀ j, (wds mi ho da mn we ad aw j).length ≤ 1000) := hlen
  clear G b0 b1 b2 b3 b4 hc hlen hT
  generalize hwd : wds mi ho da mn we ad aw = wd at HL
  have HW : Hid (wds mi ho da mn we ad aw = wd) := hwd
  clear hwd
  go_enter Tryd.func62, Tryd.ntmps62
  go_wp2_with (first
    | (go_at_call 21; (with_reducible refine (cc _ (hB.below (balloc _) (Nat.le_refl _))).mono ?_); rintro e w1 ⟨rfl, hb1⟩; have hz1 : w.heap.size < w1.heap.size := (by have := hb1.size; simp at this; omega); have hC1 : ∀ o, w1.cell? ⟨w.heap.size, o, none⟩ = (#[Value.int .u64 mi, .int .u64 ho, .int .u64 da, .int .u64 mn, .int .u64 we, .bool ad, .bool aw])[o]? := (fun o => by rw [(bcell hb1).1 _ _ (by simp)]; simp); have hw1 : Hid (Below w.heap.size w w1) := (balloc _).trans (hb1.mono (by simp)))
    | (go_at_call 46; (with_reducible refine (sets_any _ _ _ _ _ _ _ _).mono ?_); rintro e w2 ⟨rfl, hb2⟩))
  have hP0 : PrW wd mi ho da mn we ad aw w1.heap.size 0 w w2 := by
    refine prW_call (wr := w1.alloc (.cells #[.string ⟨#[]⟩, .string ⟨#[]⟩, .string ⟨#[]⟩, .string ⟨#[]⟩, .string ⟨#[]⟩] 134)) ⟨fun o => ?_, hz1, by simp, fun j hj => absurd hj (by omega), fun j h1 h2 => ?_, fun j => ?_, bstep hw1 (balloc _)⟩ hb2
    · rw [(bcell (balloc _)).1 _ _ hz1]; exact hC1 o
    · match j, h2 with
      | 0, _ => simp
      | 1, _ => simp
      | 2, _ => simp
      | 3, _ => simp
      | 4, _ => simp
    · simp
  clear hb1 hb2 hC1 hw1
  go_loopw [16] (fun i wr => PrR wd mi ho da mn we ad aw w1.heap.size w i wr) (fun i _ => 5 - (intOf i).toNat)
  case atStart => exact ⟨0, by omega, rfl, hP0⟩
  case round =>
    clear hP0
    obtain ⟨k, hk, rfl, hP⟩ := hrel
    have HP : Hid (PrW wd mi ho da mn we ad aw w1.heap.size k w wr) := hP
    have hBr : BdsAt wr := HB.out.below hP.bel (Nat.le_refl _)
    have hTr : TabIs64 wr := HT.out.below hP.bel (Nat.le_refl _)
    have hbox := hP.box
    have hz2 := hP.z2
    have hz0 := hP.z1
    have hfr := hP.free
    have hre := hP.rest
    clear hP
    obtain rfl | rfl | rfl | rfl | rfl | rfl : k = 0 ∨ k = 1 ∨ k = 2 ∨ k = 3 ∨ k = 4 ∨ k = 5 := by omega
    · have c0 : wr.cell? ⟨0, 0, none⟩ = some (.int .i64 0) := hBr 0 (by decide)
      have c1 : wr.cell? ⟨0, 1, none⟩ = some (.int .i64 59) := hBr 1 (by decide)
      have hi : ∀ u, (Instr.index 95 (.agg #[.int .u64 mi, .int .u64 ho, .int .u64 da, .int .u64 mn, .int .u64 we]) (.int .i64 0)).run Tryd.prog u = .ok (.int .u64 mi) u := fun _ => by kernel_rfl
      clear hre hfr
      go_wp2_with (first
        | (go_at_call 47; (with_reducible refine (all_min _).mono ?_); rintro e w3 ⟨rfl, hb3⟩; have HP3 : Hid (PrW wd mi ho da mn we ad aw w1.heap.size 0 w w3) := prW_call HP.out hb3; have hT3 : TabIs64 w3 := hTr.below hb3 (Nat.le_refl _); have hbox3 := HP3.out.box; have hz3 := HP3.out.z2)
        | (go_at_call 84; (with_reducible refine (q0 _ hT3).mono ?_); rintro e w4 ⟨rfl, hb4⟩; have HP4 : Hid (PrW wd mi ho da mn we ad aw w1.heap.size 0 w w4) := prW_call HP3.out hb4; have hr4 := HP4.out.rest 0 (by omega) (by omega); have hf4 := HP4.out.free 0))
      go_roundw
      case rel => exact ⟨0 + 1, by omega, rfl, by have := prW_set HP4.out (by omega); rw [← HW.out] at this ⊢; exact this⟩
      case measure => simp [intOf]
    · have c0 : wr.cell? ⟨0, 2, none⟩ = some (.int .i64 0) := hBr 2 (by decide)
      have c1 : wr.cell? ⟨0, 3, none⟩ = some (.int .i64 23) := hBr 3 (by decide)
      have hi : ∀ u, (Instr.index 95 (.agg #[.int .u64 mi, .int .u64 ho, .int .u64 da, .int .u64 mn, .int .u64 we]) (.int .i64 1)).run Tryd.prog u = .ok (.int .u64 ho) u := fun _ => by kernel_rfl
      clear hre hfr
      go_wp2_with (first
        | (go_at_call 47; (with_reducible refine (all_hour _).mono ?_); rintro e w3 ⟨rfl, hb3⟩; have HP3 : Hid (PrW wd mi ho da mn we ad aw w1.heap.size 1 w w3) := prW_call HP.out hb3; have hT3 : TabIs64 w3 := hTr.below hb3 (Nat.le_refl _); have hbox3 := HP3.out.box; have hz3 := HP3.out.z2)
        | (go_at_call 84; (with_reducible refine (q1 _ hT3).mono ?_); rintro e w4 ⟨rfl, hb4⟩; have HP4 : Hid (PrW wd mi ho da mn we ad aw w1.heap.size 1 w w4) := prW_call HP3.out hb4; have hr4 := HP4.out.rest 1 (by omega) (by omega); have hf4 := HP4.out.free 1))
      go_roundw
      case rel => exact ⟨1 + 1, by omega, rfl, by have := prW_set HP4.out (by omega); rw [← HW.out] at this ⊢; exact this⟩
      case measure => simp [intOf]
    · have c0 : wr.cell? ⟨0, 4, none⟩ = some (.int .i64 1) := hBr 4 (by decide)
      have c1 : wr.cell? ⟨0, 5, none⟩ = some (.int .i64 31) := hBr 5 (by decide)
      have hi : ∀ u, (Instr.index 95 (.agg #[.int .u64 mi, .int .u64 ho, .int .u64 da, .int .u64 mn, .int .u64 we]) (.int .i64 2)).run Tryd.prog u = .ok (.int .u64 da) u := fun _ => by kernel_rfl
      clear hre hfr
      go_wp2_with (first
        | (go_at_call 47; (with_reducible refine (all_day _).mono ?_); rintro e w3 ⟨rfl, hb3⟩; have HP3 : Hid (PrW wd mi ho da mn we ad aw w1.heap.size 2 w w3) := prW_call HP.out hb3; have hT3 : TabIs64 w3 := hTr.below hb3 (Nat.le_refl _); have hbox3 := HP3.out.box; have hz3 := HP3.out.z2)
        | (go_at_call 84; (with_reducible refine (q2 _ hT3).mono ?_); rintro e w4 ⟨rfl, hb4⟩; have HP4 : Hid (PrW wd mi ho da mn we ad aw w1.heap.size 2 w w4) := prW_call HP3.out hb4; have hr4 := HP4.out.rest 2 (by omega) (by omega); have hf4 := HP4.out.free 2))
      go_roundw
      case rel => exact ⟨2 + 1, by omega, rfl, by have := prW_set HP4.out (by omega); rw [← HW.out] at this ⊢; exact this⟩
      case measure => simp [intOf]
    · have c0 : wr.cell? ⟨0, 6, none⟩ = some (.int .i64 1) := hBr 6 (by decide)
      have c1 : wr.cell? ⟨0, 7, none⟩ = some (.int .i64 12) := hBr 7 (by decide)
      have hi : ∀ u, (Instr.index 95 (.agg #[.int .u64 mi, .int .u64 ho, .int .u64 da, .int .u64 mn, .int .u64 we]) (.int .i64 3)).run Tryd.prog u = .ok (.int .u64 mn) u := fun _ => by kernel_rfl
      clear hre hfr
      go_wp2_with (first
        | (go_at_call 47; (with_reducible refine (all_mon _).mono ?_); rintro e w3 ⟨rfl, hb3⟩; have HP3 : Hid (PrW wd mi ho da mn we ad aw w1.heap.size 3 w w3) := prW_call HP.out hb3; have hT3 : TabIs64 w3 := hTr.below hb3 (Nat.le_refl _); have hbox3 := HP3.out.box; have hz3 := HP3.out.z2)
        | (go_at_call 84; (with_reducible refine (q3 _ hT3).mono ?_); rintro e w4 ⟨rfl, hb4⟩; have HP4 : Hid (PrW wd mi ho da mn we ad aw w1.heap.size 3 w w4) := prW_call HP3.out hb4; have hr4 := HP4.out.rest 3 (by omega) (by omega); have hf4 := HP4.out.free 3))
      go_roundw
      case rel => exact ⟨3 + 1, by omega, rfl, by have := prW_set HP4.out (by omega); rw [← HW.out] at this ⊢; exact this⟩
      case measure => simp [intOf]
    · have c0 : wr.cell? ⟨0, 8, none⟩ = some (.int .i64 0) := hBr 8 (by decide)
      have c1 : wr.cell? ⟨0, 9, none⟩ = some (.int .i64 6) := hBr 9 (by decide)
      have hi : ∀ u, (Instr.index 95 (.agg #[.int .u64 mi, .int .u64 ho, .int .u64 da, .int .u64 mn, .int .u64 we]) (.int .i64 4)).run Tryd.prog u = .ok (.int .u64 we) u := fun _ => by kernel_rfl
      clear hre hfr
      go_wp2_with (first
        | (go_at_call 47; (with_reducible refine (all_week _).mono ?_); rintro e w3 ⟨rfl, hb3⟩; have HP3 : Hid (PrW wd mi ho da mn we ad aw w1.heap.size 4 w w3) := prW_call HP.out hb3; have hT3 : TabIs64 w3 := hTr.below hb3 (Nat.le_refl _); have hbox3 := HP3.out.box; have hz3 := HP3.out.z2)
        | (go_at_call 84; (with_reducible refine (q4 _ hT3).mono ?_); rintro e w4 ⟨rfl, hb4⟩; have HP4 : Hid (PrW wd mi ho da mn we ad aw w1.heap.size 4 w w4) := prW_call HP3.out hb4; have hr4 := HP4.out.rest 4 (by omega) (by omega); have hf4 := HP4.out.free 4))
      go_roundw
      case rel => exact ⟨4 + 1, by omega, rfl, by have := prW_set HP4.out (by omega); rw [← HW.out] at this ⊢; exact this⟩
      case measure => simp [intOf]
    · have cJ : Calls Tryd.prog 85 #[.slice (some ⟨w1.heap.size, 0, none⟩) 5 5, .string ⟨#[32]⟩] wr fun e w' => e = .returned (strV (cronT wd)) ∧ Below wr.heap.size wr w' := Tryd.strings_Join w1.heap.size 0 5 [⟨(wd 0).toArray⟩, ⟨(wd 1).toArray⟩, ⟨(wd 2).toArray⟩, ⟨(wd 3).toArray⟩, ⟨(wd 4).toArray⟩] ⟨#[32]⟩ wr (fun j x hj => by
        match j, hj with
        | 0, hj => cases hj; exact HP.out.done 0 (by omega)
        | 1, hj => cases hj; exact HP.out.done 1 (by omega)
        | 2, hj => cases hj; exact HP.out.done 2 (by omega)
        | 3, hj => cases hj; exact HP.out.done 3 (by omega)
        | 4, hj => cases hj; exact HP.out.done 4 (by omega)) hz2 (by simp) (by simp) (by
          refine Nat.le_trans (join_len [32] 1000 [wd 0, wd 1, wd 2, wd 3, wd 4] (fun x hx => ?_)) (by simp)
          simp only [List.mem_cons, List.not_mem_nil, or_false] at hx
          rcases hx with rfl | rfl | rfl | rfl | rfl <;> exact HL.out _)
      clear hre hfr
      go_wp2_with (go_at_call 85; (with_reducible refine cJ.mono ?_); rintro e w5 ⟨rfl, hb5⟩)
      go_ret2
      exact ⟨rfl, bstep HP.out.bel hb5⟩
end Crn
end Go.Proofs.YtcfncgjpbdkagabDoor
