/- How the text of a cron is read: the set of a row's numbers. -/
import Derived.Test.YtbfnjjdgiihngaaDoorParseRow
namespace Go.Proofs.YtbfnjjdgiihngaaDoor
namespace Pie
open Go.RowKit Crn
set_option maxRecDepth 8000

theorem uw (x : Int) : 0 ≤ IntKind.u64.wrap x ∧ IntKind.u64.wrap x ≤ 18446744073709551615 := by rw [IntKind.wrap_u64]; omega
theorem one_bit (m n : Int) (hm : 0 ≤ m ∧ m ≤ 63) : inS (IntKind.u64.wrap (2 ^ m.toNat)) n = decide (n = m) := by
  rw [show (2 : Int) ^ m.toNat = 1 * 2 ^ m.toNat by omega]
  rw [in_shl 1 m n (by decide) hm.1]
  by_cases h : n = m
  · subst h
    rw [show n - n = 0 by omega, decide_eq_true (show n ≤ 63 by omega), decide_eq_true rfl]; decide
  · rw [decide_eq_false h]
    cases g : inS 1 (n - m)
    · simp
    · exfalso
      have hb := inS_bd g
      have : ∀ k : Nat, k < 64 → inS 1 (k : Int) = true → k = 0 := by decide
      obtain ⟨K, hK⟩ := Int.eq_ofNat_of_zero_le hb.1
      rw [hK] at g hb
      have := this K (by omega) g
      omega
/-- the numbers of a row that are below m are in the set -/
def Upper (a st m v : Int) : Prop := (0 ≤ v ∧ v ≤ 18446744073709551615) ∧ ∀ n, inS v n = decide (a ≤ n ∧ n < m ∧ (n - a) % st = 0)
theorem upper_step {a st m v : Int} (h : Upper a st m v) (hst : 1 ≤ st) (ham : a ≤ m) (hm : 0 ≤ m ∧ m ≤ 63) (hmod : (m - a) % st = 0) : Upper a st (m + st) (bits .or .u64 v (IntKind.u64.wrap (2 ^ m.toNat))) := by
  have hu : 0 ≤ IntKind.u64.wrap (2 ^ m.toNat) ∧ IntKind.u64.wrap (2 ^ m.toNat) ≤ 18446744073709551615 := uw _
  refine ⟨u_or _ _ h.1 hu, fun n => ?_⟩
  rw [in_or _ _ _ h.1 hu, h.2, one_bit m n hm, ← Bool.decide_or, decide_eq_decide]
  constructor
  · rintro (⟨h1, h2, h3⟩ | rfl)
    · exact ⟨h1, by omega, h3⟩
    · exact ⟨ham, by omega, hmod⟩
  · rintro ⟨h1, h2, h3⟩
    by_cases e : n = m
    · exact Or.inr e
    · refine Or.inl ⟨h1, ?_, h3⟩
      rcases Int.lt_or_le n m with g | g
      · exact g
      · exfalso
        have e1 : (n - m) % st = 0 := by
          have : n - m = (n - a) - (m - a) := by omega
          rw [this, Int.sub_emod, h3, hmod]; simp
        have e2 := Int.emod_eq_of_lt (show 0 ≤ n - m by omega) (show n - m < st by omega)
        omega
theorem upper_end {a b st m v : Int} (h : Upper a st m v) (hbm : b < m) (hmb : m ≤ b + st) (hmod : (m - a) % st = 0) : SetIs [(a, b, st)] v := by
  refine ⟨h.1, fun n => ?_⟩
  rw [h.2]
  simp only [List.any_cons, List.any_nil, Bool.or_false, inI]
  rw [decide_eq_decide]
  constructor
  · rintro ⟨h1, h2, h3⟩
    refine ⟨h1, ?_, h3⟩
    rcases Int.lt_or_le b n with g | g
    · exfalso
      have e1 : (m - n) % st = 0 := by
        have : m - n = (m - a) - (n - a) := by omega
        rw [this, Int.sub_emod, h3, hmod]; simp
      have e2 := Int.emod_eq_of_lt (show 0 ≤ m - n by omega) (show m - n < st by omega)
      omega
    · exact g
  · rintro ⟨h1, h2, h3⟩
    exact ⟨h1, by omega, h3⟩
def EachR (a b st : Int) (W : World) (s n : Value) (wr : World) : Prop := ∃ v m : Int, s = .int .u64 v ∧ n = .int .i64 m ∧ a ≤ m ∧ m ≤ b + st ∧ (m - a) % st = 0 ∧ Upper a st m v ∧ wr = W

set_option maxHeartbeats 4000000 in
theorem each_any (a b st : Int) (w : World) (h0 : 0 ≤ a) (h1 : a ≤ b) (h2 : b ≤ 63) (h3 : 1 ≤ st) (h4 : st ≤ 99) :
    Calls Tryd.prog 69 #[bdV a b, .int .i64 st] w fun e w' => ∃ v, e = .returned (.int .u64 v) ∧ SetIs [(a, b, st)] v ∧ Below w.heap.size w w' := by
  go_enter Tryd.func69, Tryd.ntmps69
  go_wp2
  obtain ⟨W, hW⟩ : ∃ W, W = w.alloc (.cells #[.int .i64 a, .int .i64 b] 60) := ⟨_, rfl⟩
  have k1 : W.cell? ⟨w.heap.size, 1, none⟩ = some (.int .i64 b) := by rw [hW]; simp
  have hb : Below w.heap.size w W := by rw [hW]; exact (Below.refl _ _).alloc (Nat.le_refl _) _
  rw [← hW]
  clear hW
  go_loopw [5, 6] (fun s n wr => EachR a b st W s n wr) (fun _ n _ => (b + 1 + 99 - intOf n).toNat)
  case atStart => exact ⟨0, a, rfl, rfl, Int.le_refl _, by omega, by simp, ⟨by decide, fun n => by rw [inS_zero, eq_comm, decide_eq_false_iff_not]; omega⟩, rfl⟩
  case round =>
    obtain ⟨v, m, rfl, rfl, g1, g2, g3, g4, h9⟩ := hrel
    have h8 := h9.symm
    clear h9
    subst h8
    have G4 : Hid (Upper a st m v) := g4
    have G3 : Hid ((m - a) % st = 0) := g3
    clear g3 g4
    by_cases hle : m ≤ b
    · go_wp2
      go_roundw
      case rel => exact ⟨_, m + st, rfl, rfl, by omega, by omega, by rw [show m + st - a = (m - a) + st by omega, Int.add_emod_right]; exact G3.out, upper_step G4.out h3 g1 (by omega) G3.out, rfl⟩
      case measure => simp [intOf]; omega
    · go_wp2
      go_ret
      exact ⟨v, rfl, upper_end G4.out (by omega) g2 G3.out, hb⟩
end Pie
end Go.Proofs.YtbfnjjdgiihngaaDoor
