/- What the document's answer (tideref) says of plans: Plan. -/
import Derived.Test.YtcfncgjpbdkagabDoorPlanCheck
import Derived.Test.YtcfncgjpbdkagabDoorRefK
import Derived.Test.YtcfncgjpbdkagabDoorRefCivil
namespace Go.Proofs.YtcfncgjpbdkagabDoor
namespace Pln
open Go.RowKit Lai Civ Crn RCrn
set_option maxRecDepth 8000

theorem PlAt.new (w : World) (p : Pd) (sl : Value) (ta : TypeId) : PlAt (w.alloc (.cells (planC p sl) ta)) w.heap.size p sl := by
  constructor <;> simp
theorem inB_len (n : Nat) : RCiv.inB (n : Int) 1 16 = decide (1 ≤ n ∧ n ≤ 16) := by unfold RCiv.inB; rw [decide_eq_decide]; omega
theorem inB_rg (n lo hi : Int) : RCiv.inB n lo hi = rg n lo hi := rfl
theorem num_in {p : Pd} (h : numB p = true) : RCiv.inB p.mn 0 50 = true ∧ RCiv.inB p.mx 1 50 = true ∧ p.mn ≤ p.mx ∧ RCiv.inB p.po 1 100000 = true ∧ RCiv.inB p.co 1 100000 = true ∧ RCiv.inB p.tl 0 1000 = true ∧ RCiv.inB p.bk 0 50 = true ∧ RCiv.inB p.af 0 100 = true ∧ RCiv.inB p.sh (-900) 900 = true := by
  unfold numB at h
  simp only [Bool.and_eq_true] at h
  obtain ⟨a1, a2, a3, a4, a5, a6, a7, a8⟩ := h
  have q := rg_iff.1 a2
  exact ⟨a1, rg_iff.2 (by omega), by omega, a3, a4, a5, a6, a7, a8⟩
/-- where Plan stands in the name -/
def RnR (nm : List UInt8) (b0 : Bool) (W0 : World) (ok i : Value) (wr : World) : Prop := ∃ k : Nat, k ≤ nm.length ∧ i = .int .i64 k ∧ ok = .bool (b0 && (nm.take k).all nmC) ∧ wr = W0
set_option maxHeartbeats 4000000 in
theorem rplan_name (p : Pd) (ts : List Tr) (a : Option Addr) (cap : Nat) (w : World) (hl : p.nm.length ≤ 9223372036854775807) (h1 : nmB p.nm = false) :
    Calls Tryd.prog 13 #[planV p (.slice a ts.length cap)] w fun e w' => e = .returned (.int .i64 (chkP p ts)) ∧ Below w.heap.size w w' := by
  have HR : Hid (chkP p ts = 3) := by unfold Hid chkP; rw [if_pos h1]
  have hsz : (⟨p.nm.toArray⟩ : ByteArray).size = p.nm.length := rfl
  have cI := fun n lo hi w => RCiv.in_any n lo hi w
  have hA0 := PlAt.new w p (.slice a ts.length cap) 44
  have hz0 : w.heap.size < (w.alloc (.cells (planC p (.slice a ts.length cap)) 44)).heap.size := by simp
  have hw0 : Below w.heap.size w (w.alloc (.cells (planC p (.slice a ts.length cap)) 44)) := balloc _
  go_enter Tryd.func13, Tryd.ntmps13
  go_wp2_with (go_at_call 22; (with_reducible refine (cI _ _ _ _).mono ?_); rintro e w1 ⟨rfl, h9⟩; have h8 := h9.symm; clear h9; subst h8)
  generalize w.alloc (.cells (planC p (.slice a ts.length cap)) 44) = W0 at hA0 hz0 hw0 ⊢
  have q0 := hA0.c0
  have HB0 : Hid (RCiv.inB (p.nm.length : Int) 1 16 = decide (1 ≤ p.nm.length ∧ p.nm.length ≤ 16)) := inB_len _
  generalize hb0 : RCiv.inB (p.nm.length : Int) 1 16 = b0 at HB0 ⊢
  clear hb0
  go_loopw [3, 4] (fun ok i wr => RnR p.nm b0 W0 ok i wr) (fun _ i _ => p.nm.length - (intOf i).toNat)
  case atStart => exact ⟨0, Nat.zero_le _, rfl, by simp, rfl⟩
  case round =>
    obtain ⟨k, hk1, rfl, rfl, h9⟩ := hrel
    have h8 := h9.symm
    clear h9
    subst h8
    by_cases hlt : k < p.nm.length
    · have hlt' : (k : Int) < p.nm.length := by omega
      obtain ⟨x, hx⟩ : ∃ x, p.nm[k]? = some x := ⟨p.nm[k], by simp [hlt]⟩
      have hxk : (⟨p.nm.toArray⟩ : ByteArray)[k]'(by rw [hsz]; exact hlt) = x := by
        have : p.nm[k] = x := by simpa [hlt] using hx
        exact this
      have HT : Hid ((p.nm.take (k + 1)).all nmC = ((p.nm.take k).all nmC && nmC x)) := by unfold Hid; rw [List.take_add_one, hx, List.all_append]; simp
      have hxu : (x.toNat : Int) ≤ 255 := by have := x.toNat_lt; omega
      have hx0 : 0 ≤ (x.toNat : Int) := by omega
      clear hx
      generalize hB : (b0 && (p.nm.take k).all nmC) = B at *
      have HB : Hid ((b0 && (p.nm.take k).all nmC) = B) := hB
      clear hB
      cases B
      · have HR : Hid (RnR p.nm b0 W0 (.bool false) (.int .i64 (((k + 1 : Nat)) : Int)) W0) := ⟨k + 1, by omega, rfl, by rw [HT.out, ← Bool.and_assoc, HB.out]; rfl, rfl⟩
        go_wp2
        go_roundw
        case rel => exact HR.out
        case measure => simp [intOf]; omega
      · rcases nmC_cases x with ⟨hn0, hq⟩ | ⟨hn0, hq⟩
        · have HR : Hid (RnR p.nm b0 W0 (.bool true) (.int .i64 (((k + 1 : Nat)) : Int)) W0) := ⟨k + 1, by omega, rfl, by rw [HT.out, ← Bool.and_assoc, HB.out, hn0]; rfl, rfl⟩
          clear hn0
          rcases hq with hq | hq | hq
          all_goals
            go_wp2
            go_roundw
            case rel => exact HR.out
            case measure => simp [intOf]; omega
        · have HR : Hid (RnR p.nm b0 W0 (.bool false) (.int .i64 (((k + 1 : Nat)) : Int)) W0) := ⟨k + 1, by omega, rfl, by rw [HT.out, ← Bool.and_assoc, HB.out, hn0]; rfl, rfl⟩
          have hne : ((x.toNat : Int) == 45) = false := by rw [beq_eq_false_iff_ne]; omega
          clear hn0
          rcases hq with hq | hq | hq | hq
          all_goals
            go_wp2
            go_roundw
            case rel => first
              | exact HR.out
              | (rw [show decide ((x.toNat : Int) ≤ 57) = false from decide_eq_false (by omega)]; exact HR.out)
              | (rw [show decide ((x.toNat : Int) ≤ 122) = false from decide_eq_false (by omega), show decide ((x.toNat : Int) ≤ 57) = false from decide_eq_false (by omega)]; exact HR.out)
            case measure => simp [intOf]; omega
    · obtain rfl : k = p.nm.length := by omega
      have hnm : (b0 && (p.nm.take p.nm.length).all nmC) = nmB p.nm := by rw [List.take_length, HB0.out]; rfl
      rw [hnm]
      clear hnm HB0
      rw [h1]
      go_wp2
      go_ret
      exact ⟨ret_n HR.out.symm, hw0⟩
set_option maxHeartbeats 4000000 in
theorem rplan_many (p : Pd) (ts : List Tr) (a : Option Addr) (cap : Nat) (w : World) (hl : p.nm.length ≤ 9223372036854775807) (h1 : nmB p.nm = true) (h2 : 5 < ts.length) :
    Calls Tryd.prog 13 #[planV p (.slice a ts.length cap)] w fun e w' => e = .returned (.int .i64 (chkP p ts)) ∧ Below w.heap.size w w' := by
  have HR : Hid (chkP p ts = 2) := by unfold Hid chkP; rw [h1, if_neg (by decide), if_pos h2]
  have h2' : (5 : Int) < ts.length := by omega
  have hsz : (⟨p.nm.toArray⟩ : ByteArray).size = p.nm.length := rfl
  have cI := fun n lo hi w => RCiv.in_any n lo hi w
  have hA0 := PlAt.new w p (.slice a ts.length cap) 44
  have hz0 : w.heap.size < (w.alloc (.cells (planC p (.slice a ts.length cap)) 44)).heap.size := by simp
  have hw0 : Below w.heap.size w (w.alloc (.cells (planC p (.slice a ts.length cap)) 44)) := balloc _
  go_enter Tryd.func13, Tryd.ntmps13
  go_wp2_with (go_at_call 22; (with_reducible refine (cI _ _ _ _).mono ?_); rintro e w1 ⟨rfl, h9⟩; have h8 := h9.symm; clear h9; subst h8)
  generalize w.alloc (.cells (planC p (.slice a ts.length cap)) 44) = W0 at hA0 hz0 hw0 ⊢
  have q0 := hA0.c0
  have HB0 : Hid (RCiv.inB (p.nm.length : Int) 1 16 = decide (1 ≤ p.nm.length ∧ p.nm.length ≤ 16)) := inB_len _
  generalize hb0 : RCiv.inB (p.nm.length : Int) 1 16 = b0 at HB0 ⊢
  clear hb0
  go_loopw [3, 4] (fun ok i wr => RnR p.nm b0 W0 ok i wr) (fun _ i _ => p.nm.length - (intOf i).toNat)
  case atStart => exact ⟨0, Nat.zero_le _, rfl, by simp, rfl⟩
  case round =>
    obtain ⟨k, hk1, rfl, rfl, h9⟩ := hrel
    have h8 := h9.symm
    clear h9
    subst h8
    by_cases hlt : k < p.nm.length
    · have hlt' : (k : Int) < p.nm.length := by omega
      obtain ⟨x, hx⟩ : ∃ x, p.nm[k]? = some x := ⟨p.nm[k], by simp [hlt]⟩
      have hxk : (⟨p.nm.toArray⟩ : ByteArray)[k]'(by rw [hsz]; exact hlt) = x := by
        have : p.nm[k] = x := by simpa [hlt] using hx
        exact this
      have HT : Hid ((p.nm.take (k + 1)).all nmC = ((p.nm.take k).all nmC && nmC x)) := by unfold Hid; rw [List.take_add_one, hx, List.all_append]; simp
      have hxu : (x.toNat : Int) ≤ 255 := by have := x.toNat_lt; omega
      have hx0 : 0 ≤ (x.toNat : Int) := by omega
      clear hx
      generalize hB : (b0 && (p.nm.take k).all nmC) = B at *
      have HB : Hid ((b0 && (p.nm.take k).all nmC) = B) := hB
      clear hB
      cases B
      · have HR : Hid (RnR p.nm b0 W0 (.bool false) (.int .i64 (((k + 1 : Nat)) : Int)) W0) := ⟨k + 1, by omega, rfl, by rw [HT.out, ← Bool.and_assoc, HB.out]; rfl, rfl⟩
        go_wp2
        go_roundw
        case rel => exact HR.out
        case measure => simp [intOf]; omega
      · rcases nmC_cases x with ⟨hn0, hq⟩ | ⟨hn0, hq⟩
        · have HR : Hid (RnR p.nm b0 W0 (.bool true) (.int .i64 (((k + 1 : Nat)) : Int)) W0) := ⟨k + 1, by omega, rfl, by rw [HT.out, ← Bool.and_assoc, HB.out, hn0]; rfl, rfl⟩
          clear hn0
          rcases hq with hq | hq | hq
          all_goals
            go_wp2
            go_roundw
            case rel => exact HR.out
            case measure => simp [intOf]; omega
        · have HR : Hid (RnR p.nm b0 W0 (.bool false) (.int .i64 (((k + 1 : Nat)) : Int)) W0) := ⟨k + 1, by omega, rfl, by rw [HT.out, ← Bool.and_assoc, HB.out, hn0]; rfl, rfl⟩
          have hne : ((x.toNat : Int) == 45) = false := by rw [beq_eq_false_iff_ne]; omega
          clear hn0
          rcases hq with hq | hq | hq | hq
          all_goals
            go_wp2
            go_roundw
            case rel => first
              | exact HR.out
              | (rw [show decide ((x.toNat : Int) ≤ 57) = false from decide_eq_false (by omega)]; exact HR.out)
              | (rw [show decide ((x.toNat : Int) ≤ 122) = false from decide_eq_false (by omega), show decide ((x.toNat : Int) ≤ 57) = false from decide_eq_false (by omega)]; exact HR.out)
            case measure => simp [intOf]; omega
    · obtain rfl : k = p.nm.length := by omega
      have hnm : (b0 && (p.nm.take p.nm.length).all nmC) = nmB p.nm := by rw [List.take_length, HB0.out]; rfl
      rw [hnm]
      clear hnm HB0
      rw [h1]
      have q17 := hA0.c17
      go_wp2
      go_ret
      exact ⟨ret_n HR.out.symm, hw0⟩
end Pln
end Go.Proofs.YtcfncgjpbdkagabDoor
