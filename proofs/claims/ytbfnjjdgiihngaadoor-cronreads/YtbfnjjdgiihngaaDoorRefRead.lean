/- What the document's answer (tideref) says of a cron's text: ReadCron, begun. -/
import Derived.Test.YtbfnjjdgiihngaaDoorRefItem
import Derived.Test.YtbfnjjdgiihngaaDoorRefSets
import Derived.Test.YtbfnjjdgiihngaaDoorParseCron
namespace Go.Proofs.YtbfnjjdgiihngaaDoor
namespace Pie
open Go.RowKit Crn Lai Civ RCrn
set_option maxRecDepth 8000

/-- the set u, and the numbers of a row that are below m -/
def OnUp (u a st m v : Int) : Prop := ∃ x, Upper a st m x ∧ v = bits .or .u64 u x
theorem onUp_start {u a st : Int} (hu : 0 ≤ u ∧ u ≤ 18446744073709551615) : OnUp u a st a u := by
  refine ⟨0, ⟨by decide, fun n => ?_⟩, ?_⟩
  · rw [inS_zero, eq_comm, decide_eq_false_iff_not]; omega
  · refine u_ext _ _ hu (u_or _ _ hu (by decide)) fun n => ?_
    rw [in_or _ _ _ hu (by decide), inS_zero, Bool.or_false]
theorem onUp_step {u a st m v : Int} (hu : 0 ≤ u ∧ u ≤ 18446744073709551615) (h : OnUp u a st m v) (hst : 1 ≤ st) (ham : a ≤ m) (hm : 0 ≤ m ∧ m ≤ 63) (hmod : (m - a) % st = 0) : OnUp u a st (m + st) (bits .or .u64 v (IntKind.u64.wrap (2 ^ m.toNat))) := by
  obtain ⟨x, hx, rfl⟩ := h
  have h1 := upper_step hx hst ham hm hmod
  refine ⟨_, h1, ?_⟩
  have hy := uw (2 ^ m.toNat)
  generalize IntKind.u64.wrap (2 ^ m.toNat) = y at hy h1
  refine u_ext _ _ (u_or _ _ (u_or _ _ hu hx.1) hy) (u_or _ _ hu h1.1) fun n => ?_
  rw [in_or _ _ _ (u_or _ _ hu hx.1) hy, in_or _ _ _ hu hx.1, in_or _ _ _ hu h1.1, in_or _ _ _ hx.1 hy, Bool.or_assoc]
theorem onUp_end {l : List (Int × Int × Int)} {u a b st m v : Int} (hl : SetIs l u) (h : OnUp u a st m v) (hbm : b < m) (hmb : m ≤ b + st) (hmod : (m - a) % st = 0) : SetIs (l ++ [(a, b, st)]) v := by
  obtain ⟨x, hx, rfl⟩ := h
  exact setIs_add hl (upper_end hx hbm hmb hmod)
theorem onUp_u {u a st m v : Int} (hu : 0 ≤ u ∧ u ≤ 18446744073709551615) (h : OnUp u a st m v) : 0 ≤ v ∧ v ≤ 18446744073709551615 := by
  obtain ⟨x, hx, rfl⟩ := h
  exact u_or _ _ hu hx.1

theorem rc_long (s : List UInt8) (w : World) (h : 300 < s.length) :
    Calls Tryd.prog 13 #[strV s] w fun e w' => ParseAns s e ∧ Below w.heap.size w w' := by
  have hsz : (⟨s.toArray⟩ : ByteArray).size = s.length := rfl
  have g : (300 : Int) < ((⟨s.toArray⟩ : ByteArray).size : Int) := by omega
  go_enter Tryd.func13, Tryd.ntmps13
  go_wp2
  refine bodyPost_ret (v := .tuple #[cron0, .int .i64 2]) (by simp [results, Tryd.results13, go_sem]) rfl ⟨Or.inl ⟨h, rfl⟩, ?_⟩
  exact (Below.refl _ _).alloc (Nat.le_refl _) _
set_option maxHeartbeats 4000000 in
theorem rc_count (s : List UInt8) (w : World) (h : s.length ≤ 300) (hp : (pieces 32 s).length ≠ 5) :
    Calls Tryd.prog 13 #[strV s] w fun e w' => ParseAns s e ∧ Below w.heap.size w w' := by
  have hsz : (⟨s.toArray⟩ : ByteArray).size = s.length := rfl
  have g : ¬ (300 : Int) < ((⟨s.toArray⟩ : ByteArray).size : Int) := by omega
  have cS : ∀ w : World, Calls Tryd.prog 31 #[strV s, .int .u8 32] w fun e w' => ∃ B cv, e = .returned (.slice (some ⟨B, 0, none⟩) (pieces 32 s).length cv) ∧ w.heap.size ≤ B ∧ Texts w' B (pieces 32 s) ∧ Below w.heap.size w w' := fun w => rpieces s 32 w (by omega)
  have HA : Hid (ParseAns s (.returned (.tuple #[cron0, .int .i64 3]))) := Or.inr (Or.inl ⟨h, Or.inl hp, rfl⟩)
  have hne : (((pieces 32 s).length : Int) != 5) = true := by simp; omega
  have hpl : (pieces 32 s).length ≤ 1001 := by rw [pieces_len]; have := List.count_le_length (a := (32 : UInt8)) (l := s); omega
  generalize pieces 32 s = ps at *
  obtain ⟨w0, hw⟩ : ∃ w0, w0 = w.alloc (.cells (#[Value.int .u64 0, .int .u64 0, .int .u64 0, .int .u64 0, .int .u64 0, .bool false, .bool false]) 24) := ⟨_, rfl⟩
  have hC0 : ∀ o, w0.cell? ⟨w.heap.size, o, none⟩ = (#[Value.int .u64 0, .int .u64 0, .int .u64 0, .int .u64 0, .int .u64 0, .bool false, .bool false])[o]? := fun o => by rw [hw]; simp
  have hF0 : ∀ o, w0.frozen? ⟨w.heap.size, o, none⟩ = false := fun o => by rw [hw]; simp
  have hN : w0.heap.size = w.heap.size + 1 := by rw [hw]; simp
  have hz0 : w.heap.size < w0.heap.size := by omega
  have hw0 : Below w.heap.size w w0 := by rw [hw]; exact (Below.refl _ _).alloc (Nat.le_refl _) _
  go_enter Tryd.func13, Tryd.ntmps13
  go_wp2_with (go_at_call 31; rw [← hw]; (with_reducible refine (cS _).mono ?_); rintro e w1 ⟨B1, k1, rfl, hB1, hT1, hb1⟩; have hC1 := cells_on hC0 hb1 hz0; have hF1 := free_on hF0 hb1 hz0; have hw1 : Below w.heap.size w w1 := hw0.trans (hb1.mono hw0.size); have f0 := hF1 0; have f1 := hF1 1; have f2 := hF1 2; have f3 := hF1 3; have f4 := hF1 4; have f5 := hF1 5; have f6 := hF1 6)
  exact finP (B := w.heap.size) rfl rfl rfl (set7c (W := w1) (B := w.heap.size) (x0 := Value.int .u64 0) (x1 := Value.int .u64 0) (x2 := Value.int .u64 0) (x3 := Value.int .u64 0) (x4 := Value.int .u64 0) (x5 := Value.bool false) (x6 := Value.bool false) (.int .u64 0) (.int .u64 0) (.int .u64 0) (.int .u64 0) (.int .u64 0) (.bool false) (.bool false) (hC1 0) (hC1 1) (hC1 2) (hC1 3) (hC1 4) (hC1 5) (hC1 6)) HA.out ((((((((hw1.setCell (Nat.le_refl _) _).setCell (Nat.le_refl _) _).setCell (Nat.le_refl _) _).setCell (Nat.le_refl _) _).setCell (Nat.le_refl _) _).setCell (Nat.le_refl _) _).setCell (Nat.le_refl _) _))
end Pie
end Go.Proofs.YtbfnjjdgiihngaaDoor
