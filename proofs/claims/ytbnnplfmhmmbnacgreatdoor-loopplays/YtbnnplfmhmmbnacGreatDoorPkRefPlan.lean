/- What the document's answer (tideref) says of plans: Plan. What the document's answer (tideref) says of plans: Plan, of plans with wrong numbers. What the document's answer (tideref) says of plans: Plan, of every plan. -/
import Derived.Test.YtbnnplfmhmmbnacGreatDoorPkPlanCheck
import Derived.Test.YtbnnplfmhmmbnacGreatDoorPkRefSets
import Derived.Test.YtbnnplfmhmmbnacGreatDoorPkNumWalks
namespace Go.Proofs.YtbnnplfmhmmbnacGreatDoor
namespace Pln
open Go.RowKit Lai Civ Crn RCrn
set_option maxRecDepth 8000

theorem PlAt.new (w : World) (p : Pd) (sl : Value) (ta : TypeId) : PlAt (w.alloc (.cells (planC p sl) ta)) w.heap.size p sl := by
  constructor <;> simp
theorem inB_len (n : Nat) : RCiv.inB (n : Int) 1 16 = decide (1 ≤ n ∧ n ≤ 16) := by unfold RCiv.inB; rw [decide_eq_decide]; omega
theorem inB_rg (n lo hi : Int) : RCiv.inB n lo hi = rg n lo hi := rfl
theorem num_in {p : Pd} (h : numB p = true) : RCiv.inB p.mn 0 50 = true ∧ RCiv.inB p.mx 1 50 = true ∧ p.mn ≤ p.mx ∧ RCiv.inB p.po 1 100000 = true ∧ RCiv.inB p.co 1 100000 = true ∧ RCiv.inB p.tl 0 1000 = true ∧ RCiv.inB p.bk 0 50 = true ∧ RCiv.inB p.af 0 100 = true ∧ RCiv.inB p.sh (-900) 900 = true := by
  unfold numB at h
  simp only [Bool.and_eq_true] at h
  obtain ⟨a1, a2, a3, a4, a5, a6, a7, a8⟩ := h
  have q := rg_iff.1 a2
  exact ⟨a1, rg_iff.2 (by omega), by omega, a3, a4, a5, a6, a7, a8⟩
/-- where Plan stands in the name -/
def RnR (nm : List UInt8) (b0 : Bool) (W0 : World) (ok i : Value) (wr : World) : Prop := ∃ k : Nat, k ≤ nm.length ∧ i = .int .i64 k ∧ ok = .bool (b0 && (nm.take k).all nmC) ∧ wr = W0
set_option maxHeartbeats 4000000 in
theorem rplan_name (p : Pd) (ts : List Tr) (a : Option Addr) (cap : Nat) (w : World) (hl : p.nm.length ≤ 9223372036854775807) (h1 : nmB p.nm = false) :
    Calls Tryz.prog 5 #[planV p (.slice a ts.length cap)] w fun e w' => e = .returned (.int .i64 (chkP p ts)) ∧ Below w.heap.size w w' := by
  have HR : Hid (chkP p ts = 3) := by unfold Hid chkP; rw [if_pos h1]
  have hsz : (⟨p.nm.toArray⟩ : ByteArray).size = p.nm.length := rfl
  have cI := fun n lo hi w => RCiv.in_any n lo hi w
  have hA0 := PlAt.new w p (.slice a ts.length cap) 26
  have hz0 : w.heap.size < (w.alloc (.cells (planC p (.slice a ts.length cap)) 26)).heap.size := by simp
  have hw0 : Below w.heap.size w (w.alloc (.cells (planC p (.slice a ts.length cap)) 26)) := balloc _
  go_enter Tryz.func5, Tryz.ntmps5
  go_wp2_with (go_at_call 9; (with_reducible refine (cI _ _ _ _).mono ?_); rintro e w1 ⟨rfl, h9⟩; have h8 := h9.symm; clear h9; subst h8)
  generalize w.alloc (.cells (planC p (.slice a ts.length cap)) 26) = W0 at hA0 hz0 hw0 ⊢
  have q0 := hA0.c0
  have HB0 : Hid (RCiv.inB (p.nm.length : Int) 1 16 = decide (1 ≤ p.nm.length ∧ p.nm.length ≤ 16)) := inB_len _
  generalize hb0 : RCiv.inB (p.nm.length : Int) 1 16 = b0 at HB0 ⊢
  clear hb0
  go_loopw [3, 4] (fun ok i wr => RnR p.nm b0 W0 ok i wr) (fun _ i _ => p.nm.length - (intOf i).toNat)
  case atStart => exact ⟨0, Nat.zero_le _, rfl, by simp, rfl⟩
  case round =>
    obtain ⟨k, hk1, rfl, rfl, h9⟩ := hrel
    have h8 := h9.symm
    clear h9
    subst h8
    by_cases hlt : k < p.nm.length
    · have hlt' : (k : Int) < p.nm.length := by omega
      obtain ⟨x, hx⟩ : ∃ x, p.nm[k]? = some x := ⟨p.nm[k], by simp [hlt]⟩
      have hxk : (⟨p.nm.toArray⟩ : ByteArray)[k]'(by rw [hsz]; exact hlt) = x := by
        have : p.nm[k] = x := by simpa [hlt] using hx
        exact this
      have HT : Hid ((p.nm.take (k + 1)).all nmC = ((p.nm.take k).all nmC && nmC x)) := by unfold Hid; rw [List.take_add_one, hx, List.all_append]; simp
      have hxu : (x.toNat : Int) ≤ 255 := by have := x.toNat_lt; omega
      have hx0 : 0 ≤ (x.toNat : Int) := by omega
      clear hx
      generalize hB : (b0 && (p.nm.take k).all nmC) = B at *
      have HB : Hid ((b0 && (p.nm.take k).all nmC) = B) := hB
      clear hB
      cases B
      · have HR : Hid (RnR p.nm b0 W0 (.bool false) (.int .i64 (((k + 1 : Nat)) : Int)) W0) := ⟨k + 1, by omega, rfl, by rw [HT.out, ← Bool.and_assoc, HB.out]; rfl, rfl⟩
        go_wp2
        go_roundw
        case rel => exact HR.out
        case measure => simp [intOf]; omega
      · rcases nmC_cases x with ⟨hn0, hq⟩ | ⟨hn0, hq⟩
        · have HR : Hid (RnR p.nm b0 W0 (.bool true) (.int .i64 (((k + 1 : Nat)) : Int)) W0) := ⟨k + 1, by omega, rfl, by rw [HT.out, ← Bool.and_assoc, HB.out, hn0]; rfl, rfl⟩
          clear hn0
          rcases hq with hq | hq | hq
          all_goals
            go_wp2
            go_roundw
            case rel => exact HR.out
            case measure => simp [intOf]; omega
        · have HR : Hid (RnR p.nm b0 W0 (.bool false) (.int .i64 (((k + 1 : Nat)) : Int)) W0) := ⟨k + 1, by omega, rfl, by rw [HT.out, ← Bool.and_assoc, HB.out, hn0]; rfl, rfl⟩
          have hne : ((x.toNat : Int) == 45) = false := by rw [beq_eq_false_iff_ne]; omega
          clear hn0
          rcases hq with hq | hq | hq | hq
          all_goals
            go_wp2
            go_roundw
            case rel => first
              | exact HR.out
              | (rw [show decide ((x.toNat : Int) ≤ 57) = false from decide_eq_false (by omega)]; exact HR.out)
              | (rw [show decide ((x.toNat : Int) ≤ 122) = false from decide_eq_false (by omega), show decide ((x.toNat : Int) ≤ 57) = false from decide_eq_false (by omega)]; exact HR.out)
            case measure => simp [intOf]; omega
    · obtain rfl : k = p.nm.length := by omega
      have hnm : (b0 && (p.nm.take p.nm.length).all nmC) = nmB p.nm := by rw [List.take_length, HB0.out]; rfl
      rw [hnm]
      clear hnm HB0
      rw [h1]
      go_wp2
      go_ret
      exact ⟨ret_n HR.out.symm, hw0⟩
set_option maxHeartbeats 4000000 in
theorem rplan_many (p : Pd) (ts : List Tr) (a : Option Addr) (cap : Nat) (w : World) (hl : p.nm.length ≤ 9223372036854775807) (h1 : nmB p.nm = true) (h2 : 5 < ts.length) :
    Calls Tryz.prog 5 #[planV p (.slice a ts.length cap)] w fun e w' => e = .returned (.int .i64 (chkP p ts)) ∧ Below w.heap.size w w' := by
  have HR : Hid (chkP p ts = 2) := by unfold Hid chkP; rw [h1, if_neg (by decide), if_pos h2]
  have h2' : (5 : Int) < ts.length := by omega
  have hsz : (⟨p.nm.toArray⟩ : ByteArray).size = p.nm.length := rfl
  have cI := fun n lo hi w => RCiv.in_any n lo hi w
  have hA0 := PlAt.new w p (.slice a ts.length cap) 26
  have hz0 : w.heap.size < (w.alloc (.cells (planC p (.slice a ts.length cap)) 26)).heap.size := by simp
  have hw0 : Below w.heap.size w (w.alloc (.cells (planC p (.slice a ts.length cap)) 26)) := balloc _
  go_enter Tryz.func5, Tryz.ntmps5
  go_wp2_with (go_at_call 9; (with_reducible refine (cI _ _ _ _).mono ?_); rintro e w1 ⟨rfl, h9⟩; have h8 := h9.symm; clear h9; subst h8)
  generalize w.alloc (.cells (planC p (.slice a ts.length cap)) 26) = W0 at hA0 hz0 hw0 ⊢
  have q0 := hA0.c0
  have HB0 : Hid (RCiv.inB (p.nm.length : Int) 1 16 = decide (1 ≤ p.nm.length ∧ p.nm.length ≤ 16)) := inB_len _
  generalize hb0 : RCiv.inB (p.nm.length : Int) 1 16 = b0 at HB0 ⊢
  clear hb0
  go_loopw [3, 4] (fun ok i wr => RnR p.nm b0 W0 ok i wr) (fun _ i _ => p.nm.length - (intOf i).toNat)
  case atStart => exact ⟨0, Nat.zero_le _, rfl, by simp, rfl⟩
  case round =>
    obtain ⟨k, hk1, rfl, rfl, h9⟩ := hrel
    have h8 := h9.symm
    clear h9
    subst h8
    by_cases hlt : k < p.nm.length
    · have hlt' : (k : Int) < p.nm.length := by omega
      obtain ⟨x, hx⟩ : ∃ x, p.nm[k]? = some x := ⟨p.nm[k], by simp [hlt]⟩
      have hxk : (⟨p.nm.toArray⟩ : ByteArray)[k]'(by rw [hsz]; exact hlt) = x := by
        have : p.nm[k] = x := by simpa [hlt] using hx
        exact this
      have HT : Hid ((p.nm.take (k + 1)).all nmC = ((p.nm.take k).all nmC && nmC x)) := by unfold Hid; rw [List.take_add_one, hx, List.all_append]; simp
      have hxu : (x.toNat : Int) ≤ 255 := by have := x.toNat_lt; omega
      have hx0 : 0 ≤ (x.toNat : Int) := by omega
      clear hx
      generalize hB : (b0 && (p.nm.take k).all nmC) = B at *
      have HB : Hid ((b0 && (p.nm.take k).all nmC) = B) := hB
      clear hB
      cases B
      · have HR : Hid (RnR p.nm b0 W0 (.bool false) (.int .i64 (((k + 1 : Nat)) : Int)) W0) := ⟨k + 1, by omega, rfl, by rw [HT.out, ← Bool.and_assoc, HB.out]; rfl, rfl⟩
        go_wp2
        go_roundw
        case rel => exact HR.out
        case measure => simp [intOf]; omega
      · rcases nmC_cases x with ⟨hn0, hq⟩ | ⟨hn0, hq⟩
        · have HR : Hid (RnR p.nm b0 W0 (.bool true) (.int .i64 (((k + 1 : Nat)) : Int)) W0) := ⟨k + 1, by omega, rfl, by rw [HT.out, ← Bool.and_assoc, HB.out, hn0]; rfl, rfl⟩
          clear hn0
          rcases hq with hq | hq | hq
          all_goals
            go_wp2
            go_roundw
            case rel => exact HR.out
            case measure => simp [intOf]; omega
        · have HR : Hid (RnR p.nm b0 W0 (.bool false) (.int .i64 (((k + 1 : Nat)) : Int)) W0) := ⟨k + 1, by omega, rfl, by rw [HT.out, ← Bool.and_assoc, HB.out, hn0]; rfl, rfl⟩
          have hne : ((x.toNat : Int) == 45) = false := by rw [beq_eq_false_iff_ne]; omega
          clear hn0
          rcases hq with hq | hq | hq | hq
          all_goals
            go_wp2
            go_roundw
            case rel => first
              | exact HR.out
              | (rw [show decide ((x.toNat : Int) ≤ 57) = false from decide_eq_false (by omega)]; exact HR.out)
              | (rw [show decide ((x.toNat : Int) ≤ 122) = false from decide_eq_false (by omega), show decide ((x.toNat : Int) ≤ 57) = false from decide_eq_false (by omega)]; exact HR.out)
            case measure => simp [intOf]; omega
    · obtain rfl : k = p.nm.length := by omega
      have hnm : (b0 && (p.nm.take p.nm.length).all nmC) = nmB p.nm := by rw [List.take_length, HB0.out]; rfl
      rw [hnm]
      clear hnm HB0
      rw [h1]
      have q17 := hA0.c17
      go_wp2
      go_ret
      exact ⟨ret_n HR.out.symm, hw0⟩
end Pln
end Go.Proofs.YtbnnplfmhmmbnacGreatDoor
namespace Go.Proofs.YtbnnplfmhmmbnacGreatDoor
namespace Pln
open Go.RowKit Lai Civ Crn RCrn
set_option maxRecDepth 8000

/-- the two paces of a plan, side by side -/
structure Pc2 (w : World) (D : Nat) (p : Pd) : Prop where
  c0 : w.cell? ⟨D, 0, none⟩ = some (.int .i64 p.uw)
  c1 : w.cell? ⟨D, 1, none⟩ = some (.int .i64 p.up)
  c2 : w.cell? ⟨D, 2, none⟩ = some (.int .i64 p.uc)
  c3 : w.cell? ⟨D, 3, none⟩ = some (.int .i64 p.ue)
  c4 : w.cell? ⟨D, 4, none⟩ = some (.int .i64 p.dw)
  c5 : w.cell? ⟨D, 5, none⟩ = some (.int .i64 p.dp)
  c6 : w.cell? ⟨D, 6, none⟩ = some (.int .i64 p.dc)
  c7 : w.cell? ⟨D, 7, none⟩ = some (.int .i64 p.de)
theorem Pc2.new (w : World) (p : Pd) (ta : TypeId) : Pc2 (w.alloc (.cells #[.int .i64 p.uw, .int .i64 p.up, .int .i64 p.uc, .int .i64 p.ue, .int .i64 p.dw, .int .i64 p.dp, .int .i64 p.dc, .int .i64 p.de] ta)) w.heap.size p := by
  constructor <;> simp
theorem Pc2.on {w w' : World} {D n : Nat} {p : Pd} (h : Pc2 w D p) (hb : Below n w w') (hn : D < n) : Pc2 w' D p :=
  ⟨(hb.cell (p := ⟨D, 0, none⟩) hn).trans h.c0, (hb.cell (p := ⟨D, 1, none⟩) hn).trans h.c1, (hb.cell (p := ⟨D, 2, none⟩) hn).trans h.c2, (hb.cell (p := ⟨D, 3, none⟩) hn).trans h.c3, (hb.cell (p := ⟨D, 4, none⟩) hn).trans h.c4, (hb.cell (p := ⟨D, 5, none⟩) hn).trans h.c5, (hb.cell (p := ⟨D, 6, none⟩) hn).trans h.c6, (hb.cell (p := ⟨D, 7, none⟩) hn).trans h.c7⟩
/-- the word `ok` behind k paces -/
def okK (o : Bool) (p : Pd) : Nat → Bool
  | 0 => o
  | 1 => o && paceB p.uw p.up p.uc p.ue
  | _ => (o && paceB p.uw p.up p.uc p.ue) && paceB p.dw p.dp p.dc p.de
def PcR (p : Pd) (sl : Value) (o : Bool) (D : Nat) (w : World) (ok i : Value) (wr : World) : Prop := ∃ k : Nat, k ≤ 2 ∧ i = .int .i64 k ∧ ok = .bool (okK o p k) ∧ PlAt wr w.heap.size p sl ∧ Pc2 wr D p ∧ D < wr.heap.size ∧ Below w.heap.size w wr
theorem num_cases {p : Pd} (h : numB p = false) : (RCiv.inB p.mn 0 50 = false) ∨ (RCiv.inB p.mn 0 50 = true ∧ RCiv.inB p.mx 1 50 = false) ∨ (RCiv.inB p.mn 0 50 = true ∧ RCiv.inB p.mx 1 50 = true ∧ ¬ p.mn ≤ p.mx) ∨ (RCiv.inB p.mn 0 50 = true ∧ RCiv.inB p.mx 1 50 = true ∧ p.mn ≤ p.mx ∧ RCiv.inB p.po 1 100000 = false) ∨
    (RCiv.inB p.mn 0 50 = true ∧ RCiv.inB p.mx 1 50 = true ∧ p.mn ≤ p.mx ∧ RCiv.inB p.po 1 100000 = true ∧ RCiv.inB p.co 1 100000 = false) ∨ (RCiv.inB p.mn 0 50 = true ∧ RCiv.inB p.mx 1 50 = true ∧ p.mn ≤ p.mx ∧ RCiv.inB p.po 1 100000 = true ∧ RCiv.inB p.co 1 100000 = true ∧ RCiv.inB p.tl 0 1000 = false) ∨
    (RCiv.inB p.mn 0 50 = true ∧ RCiv.inB p.mx 1 50 = true ∧ p.mn ≤ p.mx ∧ RCiv.inB p.po 1 100000 = true ∧ RCiv.inB p.co 1 100000 = true ∧ RCiv.inB p.tl 0 1000 = true ∧ RCiv.inB p.bk 0 50 = false) ∨ (RCiv.inB p.mn 0 50 = true ∧ RCiv.inB p.mx 1 50 = true ∧ p.mn ≤ p.mx ∧ RCiv.inB p.po 1 100000 = true ∧ RCiv.inB p.co 1 100000 = true ∧ RCiv.inB p.tl 0 1000 = true ∧ RCiv.inB p.bk 0 50 = true ∧ RCiv.inB p.af 0 100 = false) ∨
    (RCiv.inB p.mn 0 50 = true ∧ RCiv.inB p.mx 1 50 = true ∧ p.mn ≤ p.mx ∧ RCiv.inB p.po 1 100000 = true ∧ RCiv.inB p.co 1 100000 = true ∧ RCiv.inB p.tl 0 1000 = true ∧ RCiv.inB p.bk 0 50 = true ∧ RCiv.inB p.af 0 100 = true ∧ RCiv.inB p.sh (-900) 900 = false) := by
  cases i1 : RCiv.inB p.mn 0 50
  · exact Or.inl rfl
  · right
    cases i2 : RCiv.inB p.mx 1 50
    · exact Or.inl ⟨rfl, rfl⟩
    · right
      by_cases i3 : p.mn ≤ p.mx
      · right
        cases i4 : RCiv.inB p.po 1 100000
        · exact Or.inl ⟨rfl, rfl, i3, rfl⟩
        · right
          cases i5 : RCiv.inB p.co 1 100000
          · exact Or.inl ⟨rfl, rfl, i3, rfl, rfl⟩
          · right
            cases i6 : RCiv.inB p.tl 0 1000
            · exact Or.inl ⟨rfl, rfl, i3, rfl, rfl, rfl⟩
            · right
              cases i7 : RCiv.inB p.bk 0 50
              · exact Or.inl ⟨rfl, rfl, i3, rfl, rfl, rfl, rfl⟩
              · right
                cases i8 : RCiv.inB p.af 0 100
                · exact Or.inl ⟨rfl, rfl, i3, rfl, rfl, rfl, rfl, rfl⟩
                · right
                  cases i9 : RCiv.inB p.sh (-900) 900
                  · exact ⟨rfl, rfl, i3, rfl, rfl, rfl, rfl, rfl, rfl⟩
                  · exfalso
                    have e2 : rg p.mx (max 1 p.mn) 50 = true := rg_iff.2 (by have := rg_iff.1 (show rg p.mx 1 50 = true from i2); omega)
                    unfold numB at h
                    rw [show rg p.mn 0 50 = true from i1, e2, show rg p.po 1 100000 = true from i4, show rg p.co 1 100000 = true from i5, show rg p.tl 0 1000 = true from i6, show rg p.bk 0 50 = true from i7, show rg p.af 0 100 = true from i8, show rg p.sh (-900) 900 = true from i9] at h
                    cases h
      · exact Or.inl ⟨rfl, rfl, i3⟩
set_option maxHeartbeats 8000000 in
theorem rplan_num (p : Pd) (ts : List Tr) (a : Option Addr) (cap : Nat) (w : World) (hl : p.nm.length ≤ 9223372036854775807) (h1 : nmB p.nm = true) (h2 : ¬ 5 < ts.length) (hn : numB p = false) :
    Calls Tryz.prog 5 #[planV p (.slice a ts.length cap)] w fun e w' => e = .returned (.int .i64 (chkP p ts)) ∧ Below w.heap.size w w' := by
  have h2' : ¬ (5 : Int) < ts.length := by omega
  have HR : Hid (chkP p ts = 1) := by unfold Hid chkP okP; rw [h1, if_neg (by decide), if_neg h2, hn]; rfl
  have hsz : (⟨p.nm.toArray⟩ : ByteArray).size = p.nm.length := rfl
  have cI := fun n lo hi w => RCiv.in_any n lo hi w
  have hA0 := PlAt.new w p (.slice a ts.length cap) 26
  have hz0 : w.heap.size < (w.alloc (.cells (planC p (.slice a ts.length cap)) 26)).heap.size := by simp
  have hw0 : Below w.heap.size w (w.alloc (.cells (planC p (.slice a ts.length cap)) 26)) := balloc _
  go_enter Tryz.func5, Tryz.ntmps5
  go_wp2_with (go_at_call 9; (with_reducible refine (cI _ _ _ _).mono ?_); rintro e w1 ⟨rfl, h9⟩; have h8 := h9.symm; clear h9; subst h8)
  generalize w.alloc (.cells (planC p (.slice a ts.length cap)) 26) = W0 at hA0 hz0 hw0 ⊢
  have q0 := hA0.c0
  have HB0 : Hid (RCiv.inB (p.nm.length : Int) 1 16 = decide (1 ≤ p.nm.length ∧ p.nm.length ≤ 16)) := inB_len _
  generalize hb0 : RCiv.inB (p.nm.length : Int) 1 16 = b0 at HB0 ⊢
  clear hb0
  go_loopw [3, 4] (fun ok i wr => RnR p.nm b0 W0 ok i wr) (fun _ i _ => p.nm.length - (intOf i).toNat)
  case atStart => exact ⟨0, Nat.zero_le _, rfl, by simp, rfl⟩
  case round =>
    obtain ⟨k, hk1, rfl, rfl, h9⟩ := hrel
    have h8 := h9.symm
    clear h9
    subst h8
    by_cases hlt : k < p.nm.length
    · have hlt' : (k : Int) < p.nm.length := by omega
      obtain ⟨x, hx⟩ : ∃ x, p.nm[k]? = some x := ⟨p.nm[k], by simp [hlt]⟩
      have hxk : (⟨p.nm.toArray⟩ : ByteArray)[k]'(by rw [hsz]; exact hlt) = x := by
        have : p.nm[k] = x := by simpa [hlt] using hx
        exact this
      have HT : Hid ((p.nm.take (k + 1)).all nmC = ((p.nm.take k).all nmC && nmC x)) := by unfold Hid; rw [List.take_add_one, hx, List.all_append]; simp
      have hxu : (x.toNat : Int) ≤ 255 := by have := x.toNat_lt; omega
      have hx0 : 0 ≤ (x.toNat : Int) := by omega
      clear hx
      generalize hB : (b0 && (p.nm.take k).all nmC) = B at *
      have HB : Hid ((b0 && (p.nm.take k).all nmC) = B) := hB
      clear hB
      cases B
      · have HR : Hid (RnR p.nm b0 W0 (.bool false) (.int .i64 (((k + 1 : Nat)) : Int)) W0) := ⟨k + 1, by omega, rfl, by rw [HT.out, ← Bool.and_assoc, HB.out]; rfl, rfl⟩
        go_wp2
        go_roundw
        case rel => exact HR.out
        case measure => simp [intOf]; omega
      · rcases nmC_cases x with ⟨hn0, hq⟩ | ⟨hn0, hq⟩
        · have HR : Hid (RnR p.nm b0 W0 (.bool true) (.int .i64 (((k + 1 : Nat)) : Int)) W0) := ⟨k + 1, by omega, rfl, by rw [HT.out, ← Bool.and_assoc, HB.out, hn0]; rfl, rfl⟩
          clear hn0
          rcases hq with hq | hq | hq
          all_goals
            go_wp2
            go_roundw
            case rel => exact HR.out
            case measure => simp [intOf]; omega
        · have HR : Hid (RnR p.nm b0 W0 (.bool false) (.int .i64 (((k + 1 : Nat)) : Int)) W0) := ⟨k + 1, by omega, rfl, by rw [HT.out, ← Bool.and_assoc, HB.out, hn0]; rfl, rfl⟩
          have hne : ((x.toNat : Int) == 45) = false := by rw [beq_eq_false_iff_ne]; omega
          clear hn0
          rcases hq with hq | hq | hq | hq
          all_goals
            go_wp2
            go_roundw
            case rel => first
              | exact HR.out
              | (rw [show decide ((x.toNat : Int) ≤ 57) = false from decide_eq_false (by omega)]; exact HR.out)
              | (rw [show decide ((x.toNat : Int) ≤ 122) = false from decide_eq_false (by omega), show decide ((x.toNat : Int) ≤ 57) = false from decide_eq_false (by omega)]; exact HR.out)
            case measure => simp [intOf]; omega
    · obtain rfl : k = p.nm.length := by omega
      have hnm : (b0 && (p.nm.take p.nm.length).all nmC) = nmB p.nm := by rw [List.take_length, HB0.out]; rfl
      rw [hnm]
      clear hnm HB0
      rw [h1]
      obtain ⟨-, c1, c2, c3, c4, c5, c6, c7, c8, c9, c10, c11, c12, c13, c14, c15, c16, c17⟩ := id hA0
      have hc := num_cases hn
      clear hn
      rcases hc with i1 | ⟨i1, i2⟩ | ⟨i1, i2, i3⟩ | ⟨i1, i2, i3, i4⟩ | ⟨i1, i2, i3, i4, i5⟩ | ⟨i1, i2, i3, i4, i5, i6⟩ | ⟨i1, i2, i3, i4, i5, i6, i7⟩ | ⟨i1, i2, i3, i4, i5, i6, i7, i8⟩ | ⟨i1, i2, i3, i4, i5, i6, i7, i8, i9⟩
      all_goals
        go_wp2_with (first
          | (go_at_call 9; (with_reducible refine (cI _ _ _ _).mono ?_); rintro e w1 ⟨rfl, h9⟩; have h8 := h9.symm; clear h9; subst h8))
        clear c1 c2 c3 c4 c5 c6 c7 c8 c9 c10 c11 c12 c13 c14 c15 c16 c17
        have hD0 := Pc2.new W0 p 23
        have hA1 := hA0.on (balloc (.cells #[.int .i64 p.uw, .int .i64 p.up, .int .i64 p.uc, .int .i64 p.ue, .int .i64 p.dw, .int .i64 p.dp, .int .i64 p.dc, .int .i64 p.de] 23)) hz0
        have hw1 : Below w.heap.size w (W0.alloc (.cells #[.int .i64 p.uw, .int .i64 p.up, .int .i64 p.uc, .int .i64 p.ue, .int .i64 p.dw, .int .i64 p.dp, .int .i64 p.dc, .int .i64 p.de] 23)) := hw0.alloc hw0.size _
        have hz1 : W0.heap.size < (W0.alloc (.cells #[.int .i64 p.uw, .int .i64 p.up, .int .i64 p.uc, .int .i64 p.ue, .int .i64 p.dw, .int .i64 p.dp, .int .i64 p.dc, .int .i64 p.de] 23)).heap.size := by simp
        generalize W0.alloc (.cells #[.int .i64 p.uw, .int .i64 p.up, .int .i64 p.uc, .int .i64 p.ue, .int .i64 p.dw, .int .i64 p.dp, .int .i64 p.dc, .int .i64 p.de] 23) = W1 at hD0 hA1 hw1 hz1 ⊢
        generalize hDD : W0.heap.size = D at *
        have hwD : w.heap.size < D := by omega
        clear hDD hA0 hw0 q0
        go_loopw [3, 104] (fun ok i wr => PcR p (.slice a ts.length cap) false D w ok i wr) (fun _ i _ => 2 - (intOf i).toNat)
        case atStart => exact ⟨0, by omega, rfl, rfl, hA1, hD0, hz1, hw1⟩
        case round =>
          clear hA1 hD0 hz1 hw1
          obtain ⟨k, hk2, rfl, rfl, hA, hD, hzD, hbw⟩ := hrel
          have stp : ∀ o, PlAt (wr.alloc o) w.heap.size p (.slice a ts.length cap) ∧ Pc2 (wr.alloc o) D p ∧ D < (wr.alloc o).heap.size ∧ Below w.heap.size w (wr.alloc o) := fun o => ⟨hA.on (balloc o) (by omega), hD.on (balloc o) hzD, by simp; omega, hbw.alloc hbw.size _⟩
          have HS : Hid (∀ o, PlAt (wr.alloc o) w.heap.size p (.slice a ts.length cap) ∧ Pc2 (wr.alloc o) D p ∧ D < (wr.alloc o).heap.size ∧ Below w.heap.size w (wr.alloc o)) := stp
          clear stp
          have h3 : k = 0 ∨ k = 1 ∨ k = 2 := by omega
          rcases h3 with rfl | rfl | rfl
          · obtain ⟨d0, d1, d2, d3, -, -, -, -⟩ := hD
            have HK : Hid (okK false p 0 = false ∧ okK false p 1 = (false && paceB p.uw p.up p.uc p.ue)) := ⟨rfl, rfl⟩
            rw [HK.out.1]
            go_wp2_with (first
              | (go_at_call 9; (with_reducible refine (cI _ _ _ _).mono ?_); rintro e w1 ⟨rfl, h9⟩; have h8 := h9.symm; clear h9; subst h8))
            all_goals
              go_roundw
              case rel => exact ⟨1, by omega, rfl, by rw [HK.out.2]; simp [paceB, ← inB_rg, *], HS.out _⟩
              case measure => simp [intOf]
          · obtain ⟨-, -, -, -, d4, d5, d6, d7⟩ := hD
            have HK : Hid (okK false p 2 = (okK false p 1 && paceB p.dw p.dp p.dc p.de)) := rfl
            generalize okK false p 1 = B at HK ⊢
            cases B
            all_goals
              go_wp2_with (first
                | (go_at_call 9; (with_reducible refine (cI _ _ _ _).mono ?_); rintro e w1 ⟨rfl, h9⟩; have h8 := h9.symm; clear h9; subst h8))
              all_goals
                go_roundw
                case rel => exact ⟨2, by omega, rfl, by rw [HK.out]; simp [paceB, ← inB_rg, *], HS.out _⟩
                case measure => simp [intOf]
          · clear HS hD
            rw [show okK false p 2 = false from rfl]
            go_wp2
            go_ret
            exact ⟨ret_n HR.out.symm, hbw⟩
end Pln
end Go.Proofs.YtbnnplfmhmmbnacGreatDoor
namespace Go.Proofs.YtbnnplfmhmmbnacGreatDoor
namespace Pln
open Go.RowKit Lai Civ Crn RCrn
set_option maxRecDepth 8000

theorem range_span {w : World} {b : Nat} {t : Tr} (h : TrAt w b 0 t) : w.rangeAt b 3 [.int .u64 t.a.mi, .int .u64 t.a.ho, .int .u64 t.a.da, .int .u64 t.a.mn, .int .u64 t.a.we, .bool t.a.ad, .bool t.a.aw, .int .u64 t.b.mi, .int .u64 t.b.ho, .int .u64 t.b.da, .int .u64 t.b.mn, .int .u64 t.b.we, .bool t.b.ad, .bool t.b.aw] := by
  intro j v hv
  match j, hv with
  | 0, hv => simp at hv; subst hv; simpa using h.c3
  | 1, hv => simp at hv; subst hv; simpa using h.c4
  | 2, hv => simp at hv; subst hv; simpa using h.c5
  | 3, hv => simp at hv; subst hv; simpa using h.c6
  | 4, hv => simp at hv; subst hv; simpa using h.c7
  | 5, hv => simp at hv; subst hv; simpa using h.c8
  | 6, hv => simp at hv; subst hv; simpa using h.c9
  | 7, hv => simp at hv; subst hv; simpa using h.c10
  | 8, hv => simp at hv; subst hv; simpa using h.c11
  | 9, hv => simp at hv; subst hv; simpa using h.c12
  | 10, hv => simp at hv; subst hv; simpa using h.c13
  | 11, hv => simp at hv; subst hv; simpa using h.c14
  | 12, hv => simp at hv; subst hv; simpa using h.c15
  | 13, hv => simp at hv; subst hv; simpa using h.c16
  | j + 14, hv => simp at hv
/-- the span of a trigger, by one step of a walk -/
theorem wp_span {ops : Array Oper} {rest : List Oper} {d : Option Nat} {x : Operand} {ps : String} {af : Array Edge} {A : Act} {Q : Exit → Act → World → Prop} {w : World} {b : Nat} {t : Tr} (h : TrAt w b 0 t) (hx : A.eval x = .pointer (some ⟨b, 3, none⟩))
    (g : wpList Tryz.prog ops Q rest (A.put d (spanV t.a t.b)) w) : wpList Tryz.prog ops Q ({ dst := d, op := .load 54 x, type := 54, pos := ps, after := af, guard := none } :: rest) A w :=
  wpList_load_mid rfl 54 x rfl b 3 hx [.int .u64 t.a.mi, .int .u64 t.a.ho, .int .u64 t.a.da, .int .u64 t.a.mn, .int .u64 t.a.we, .bool t.a.ad, .bool t.a.aw, .int .u64 t.b.mi, .int .u64 t.b.ho, .int .u64 t.b.da, .int .u64 t.b.mn, .int .u64 t.b.we, .bool t.b.ad, .bool t.b.aw] _ (range_span h) Tryz.underlying54 rfl (by kernel_rfl) g
/-- .. and behind a guard -/
theorem wp_spanG {ops : Array Oper} {rest : List Oper} {d : Option Nat} {x : Operand} {ps : String} {af : Array Edge} {gd : Option (Nat × Bool)} {A : Act} {Q : Exit → Act → World → Prop} {w : World} {b : Nat} {t : Tr} (h : TrAt w b 0 t) (hx : A.eval x = .pointer (some ⟨b, 3, none⟩))
    (hg : Region.wanted { dst := d, op := .load 54 x, type := 54, pos := ps, after := af, guard := gd } (yielded ops A.tmps) = true)
    (g : wpList Tryz.prog ops Q rest (A.put d (spanV t.a t.b)) w) : wpList Tryz.prog ops Q ({ dst := d, op := .load 54 x, type := 54, pos := ps, after := af, guard := gd } :: rest) A w := by
  unfold wpList
  rw [if_pos hg]
  exact Or.inl (wp_load_mid 54 x rfl b 3 hx [.int .u64 t.a.mi, .int .u64 t.a.ho, .int .u64 t.a.da, .int .u64 t.a.mn, .int .u64 t.a.we, .bool t.a.ad, .bool t.a.aw, .int .u64 t.b.mi, .int .u64 t.b.ho, .int .u64 t.b.da, .int .u64 t.b.mn, .int .u64 t.b.we, .bool t.b.ad, .bool t.b.aw] _ (range_span h) Tryz.underlying54 rfl (by kernel_rfl) g)
theorem rspan_any (a b : K) (w : World) (ua : Us a) (ub : Us b) : Calls Tryz.prog 17 #[spanV a b] w fun e w' => e = .returned (.int .i64 (if kc a = true ∧ kc b = true then 0 else 1)) ∧ Below w.heap.size w w' := by
  by_cases h : kc a = true ∧ kc b = true
  · rw [if_pos h]; exact rspan_yes a b w ua ub h.1 h.2
  · rw [if_neg h]
    refine rspan_no a b w ua ub ?_
    cases ha : kc a
    · exact Or.inl rfl
    · cases hb : kc b
      · exact Or.inr rfl
      · exact absurd ⟨ha, hb⟩ h
theorem zK_is' {c : K} (h : zK c = true) : c = ⟨0, 0, 0, 0, 0, false, false⟩ := by
  unfold zK at h
  simp only [Bool.and_eq_true, decide_eq_true_eq, Bool.not_eq_true'] at h
  obtain ⟨h1, h2, h3, h4, h5, h6, h7⟩ := h
  cases c
  simp only at h1 h2 h3 h4 h5 h6 h7
  subst h1 h2 h3 h4 h5 h6 h7
  rfl
/-- where Plan stands: k triggers are right -/
def RtR (ts : List Tr) (p : Pd) (sl : Value) (w : World) (i : Value) (wr : World) : Prop := ∃ k : Nat, k ≤ ts.length ∧ i = .int .i64 k ∧ (∀ j t, j < k → ts[j]? = some t → trB t = true) ∧ PlAt wr w.heap.size p sl ∧ Below w.heap.size w wr ∧ w.heap.size < wr.heap.size
set_option maxHeartbeats 8000000 in
theorem rplan_pace (p : Pd) (ts : List Tr) (a : Option Addr) (cap : Nat) (w : World) (hl : p.nm.length ≤ 9223372036854775807) (h1 : nmB p.nm = true) (h2 : ¬ 5 < ts.length) (hn : numB p = true) (h3 : okP p = false) :
    Calls Tryz.prog 5 #[planV p (.slice a ts.length cap)] w fun e w' => e = .returned (.int .i64 (chkP p ts)) ∧ Below w.heap.size w w' := by
  have h2' : ¬ (5 : Int) < ts.length := by omega
  have HE : Hid (okK true p 2 = false) := by unfold Hid; rw [← h3]; unfold okK okP; rw [hn, Bool.true_and, Bool.true_and]; rfl
  have HR : Hid (chkP p ts = 1) := by unfold Hid chkP; rw [h1, h3, if_neg (by decide), if_neg h2]; rfl
  clear h3
  have hsz : (⟨p.nm.toArray⟩ : ByteArray).size = p.nm.length := rfl
  have cI := fun n lo hi w => RCiv.in_any n lo hi w
  have hA0 := PlAt.new w p (.slice a ts.length cap) 26
  have hz0 : w.heap.size < (w.alloc (.cells (planC p (.slice a ts.length cap)) 26)).heap.size := by simp
  have hw0 : Below w.heap.size w (w.alloc (.cells (planC p (.slice a ts.length cap)) 26)) := balloc _
  go_enter Tryz.func5, Tryz.ntmps5
  go_wp2_with (go_at_call 9; (with_reducible refine (cI _ _ _ _).mono ?_); rintro e w1 ⟨rfl, h9⟩; have h8 := h9.symm; clear h9; subst h8)
  generalize w.alloc (.cells (planC p (.slice a ts.length cap)) 26) = W0 at hA0 hz0 hw0 ⊢
  have q0 := hA0.c0
  have HB0 : Hid (RCiv.inB (p.nm.length : Int) 1 16 = decide (1 ≤ p.nm.length ∧ p.nm.length ≤ 16)) := inB_len _
  generalize hb0 : RCiv.inB (p.nm.length : Int) 1 16 = b0 at HB0 ⊢
  clear hb0
  go_loopw [3, 4] (fun ok i wr => RnR p.nm b0 W0 ok i wr) (fun _ i _ => p.nm.length - (intOf i).toNat)
  case atStart => exact ⟨0, Nat.zero_le _, rfl, by simp, rfl⟩
  case round =>
    obtain ⟨k, hk1, rfl, rfl, h9⟩ := hrel
    have h8 := h9.symm
    clear h9
    subst h8
    by_cases hlt : k < p.nm.length
    · have hlt' : (k : Int) < p.nm.length := by omega
      obtain ⟨x, hx⟩ : ∃ x, p.nm[k]? = some x := ⟨p.nm[k], by simp [hlt]⟩
      have hxk : (⟨p.nm.toArray⟩ : ByteArray)[k]'(by rw [hsz]; exact hlt) = x := by
        have : p.nm[k] = x := by simpa [hlt] using hx
        exact this
      have HT : Hid ((p.nm.take (k + 1)).all nmC = ((p.nm.take k).all nmC && nmC x)) := by unfold Hid; rw [List.take_add_one, hx, List.all_append]; simp
      have hxu : (x.toNat : Int) ≤ 255 := by have := x.toNat_lt; omega
      have hx0 : 0 ≤ (x.toNat : Int) := by omega
      clear hx
      generalize hB : (b0 && (p.nm.take k).all nmC) = B at *
      have HB : Hid ((b0 && (p.nm.take k).all nmC) = B) := hB
      clear hB
      cases B
      · have HR : Hid (RnR p.nm b0 W0 (.bool false) (.int .i64 (((k + 1 : Nat)) : Int)) W0) := ⟨k + 1, by omega, rfl, by rw [HT.out, ← Bool.and_assoc, HB.out]; rfl, rfl⟩
        go_wp2
        go_roundw
        case rel => exact HR.out
        case measure => simp [intOf]; omega
      · rcases nmC_cases x with ⟨hn0, hq⟩ | ⟨hn0, hq⟩
        · have HR : Hid (RnR p.nm b0 W0 (.bool true) (.int .i64 (((k + 1 : Nat)) : Int)) W0) := ⟨k + 1, by omega, rfl, by rw [HT.out, ← Bool.and_assoc, HB.out, hn0]; rfl, rfl⟩
          clear hn0
          rcases hq with hq | hq | hq
          all_goals
            go_wp2
            go_roundw
            case rel => exact HR.out
            case measure => simp [intOf]; omega
        · have HR : Hid (RnR p.nm b0 W0 (.bool false) (.int .i64 (((k + 1 : Nat)) : Int)) W0) := ⟨k + 1, by omega, rfl, by rw [HT.out, ← Bool.and_assoc, HB.out, hn0]; rfl, rfl⟩
          have hne : ((x.toNat : Int) == 45) = false := by rw [beq_eq_false_iff_ne]; omega
          clear hn0
          rcases hq with hq | hq | hq | hq
          all_goals
            go_wp2
            go_roundw
            case rel => first
              | exact HR.out
              | (rw [show decide ((x.toNat : Int) ≤ 57) = false from decide_eq_false (by omega)]; exact HR.out)
              | (rw [show decide ((x.toNat : Int) ≤ 122) = false from decide_eq_false (by omega), show decide ((x.toNat : Int) ≤ 57) = false from decide_eq_false (by omega)]; exact HR.out)
            case measure => simp [intOf]; omega
    · obtain rfl : k = p.nm.length := by omega
      have hnm : (b0 && (p.nm.take p.nm.length).all nmC) = nmB p.nm := by rw [List.take_length, HB0.out]; rfl
      rw [hnm]
      clear hnm HB0
      rw [h1]
      obtain ⟨-, c1, c2, c3, c4, c5, c6, c7, c8, c9, c10, c11, c12, c13, c14, c15, c16, c17⟩ := id hA0
      obtain ⟨i1, i2, i3, i4, i5, i6, i7, i8, i9⟩ := num_in hn
      go_wp2_with (first
        | (go_at_call 9; (with_reducible refine (cI _ _ _ _).mono ?_); rintro e w1 ⟨rfl, h9⟩; have h8 := h9.symm; clear h9; subst h8))
      clear c1 c2 c3 c4 c5 c6 c7 c8 c9 c10 c11 c12 c13 c14 c15 c16 c17 i1 i2 i3 i4 i5 i6 i7 i8 i9 hn
      have hD0 := Pc2.new W0 p 23
      have hA1 := hA0.on (balloc (.cells #[.int .i64 p.uw, .int .i64 p.up, .int .i64 p.uc, .int .i64 p.ue, .int .i64 p.dw, .int .i64 p.dp, .int .i64 p.dc, .int .i64 p.de] 23)) hz0
      have hw1 : Below w.heap.size w (W0.alloc (.cells #[.int .i64 p.uw, .int .i64 p.up, .int .i64 p.uc, .int .i64 p.ue, .int .i64 p.dw, .int .i64 p.dp, .int .i64 p.dc, .int .i64 p.de] 23)) := hw0.alloc hw0.size _
      have hz1 : W0.heap.size < (W0.alloc (.cells #[.int .i64 p.uw, .int .i64 p.up, .int .i64 p.uc, .int .i64 p.ue, .int .i64 p.dw, .int .i64 p.dp, .int .i64 p.dc, .int .i64 p.de] 23)).heap.size := by simp
      generalize W0.alloc (.cells #[.int .i64 p.uw, .int .i64 p.up, .int .i64 p.uc, .int .i64 p.ue, .int .i64 p.dw, .int .i64 p.dp, .int .i64 p.dc, .int .i64 p.de] 23) = W1 at hD0 hA1 hw1 hz1 ⊢
      generalize hDD : W0.heap.size = D at *
      have hwD : w.heap.size < D := by omega
      clear hDD hA0 hw0 q0
      go_loopw [3, 104] (fun ok i wr => PcR p (.slice a ts.length cap) true D w ok i wr) (fun _ i _ => 2 - (intOf i).toNat)
      case atStart => exact ⟨0, by omega, rfl, rfl, hA1, hD0, hz1, hw1⟩
      case round =>
        clear hA1 hD0 hz1 hw1
        obtain ⟨k, hk2, rfl, rfl, hA, hD, hzD, hbw⟩ := hrel
        have stp : ∀ o, PlAt (wr.alloc o) w.heap.size p (.slice a ts.length cap) ∧ Pc2 (wr.alloc o) D p ∧ D < (wr.alloc o).heap.size ∧ Below w.heap.size w (wr.alloc o) := fun o => ⟨hA.on (balloc o) (by omega), hD.on (balloc o) hzD, by simp; omega, hbw.alloc hbw.size _⟩
        have HS : Hid (∀ o, PlAt (wr.alloc o) w.heap.size p (.slice a ts.length cap) ∧ Pc2 (wr.alloc o) D p ∧ D < (wr.alloc o).heap.size ∧ Below w.heap.size w (wr.alloc o)) := stp
        clear stp
        have h3 : k = 0 ∨ k = 1 ∨ k = 2 := by omega
        rcases h3 with rfl | rfl | rfl
        · obtain ⟨d0, d1, d2, d3, -, -, -, -⟩ := hD
          have HK : Hid (okK true p 0 = true ∧ okK true p 1 = (true && paceB p.uw p.up p.uc p.ue)) := ⟨rfl, rfl⟩
          rw [HK.out.1]
          go_wp2_with (first
            | (go_at_call 9; (with_reducible refine (cI _ _ _ _).mono ?_); rintro e w1 ⟨rfl, h9⟩; have h8 := h9.symm; clear h9; subst h8))
          all_goals
            go_roundw
            case rel => exact ⟨1, by omega, rfl, by rw [HK.out.2]; simp [paceB, ← inB_rg, *], HS.out _⟩
            case measure => simp [intOf]
        · obtain ⟨-, -, -, -, d4, d5, d6, d7⟩ := hD
          have HK : Hid (okK true p 2 = (okK true p 1 && paceB p.dw p.dp p.dc p.de)) := rfl
          generalize okK true p 1 = B at HK ⊢
          cases B
          all_goals
            go_wp2_with (first
              | (go_at_call 9; (with_reducible refine (cI _ _ _ _).mono ?_); rintro e w1 ⟨rfl, h9⟩; have h8 := h9.symm; clear h9; subst h8))
            all_goals
              go_roundw
              case rel => exact ⟨2, by omega, rfl, by rw [HK.out]; simp [paceB, ← inB_rg, *], HS.out _⟩
              case measure => simp [intOf]
        · clear HS hD
          rw [HE.out]
          go_wp2
          go_ret
          exact ⟨ret_n HR.out.symm, hbw⟩
end Pln
end Go.Proofs.YtbnnplfmhmmbnacGreatDoor
