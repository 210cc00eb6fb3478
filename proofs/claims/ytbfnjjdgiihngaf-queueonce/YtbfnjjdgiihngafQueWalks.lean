/- What each function of package queue answers: contracts, the leaves first. -/
import Derived.Test.YtbfnjjdgiihngafRows
import Derived.WalkKit
import Derived.ProofKit
import Derived.Deep.Quiet
import Derived.Deep.QuietTactic
import Derived.Deep.RegionWith
import Derived.Test.YtbfnjjdgiihngafQueMem
namespace Go.Proofs.Ytbfnjjdgiihngaf
namespace Que
open Go.RowKit
set_option maxRecDepth 8000

theorem info_msg : (Try.prog.info? 53).map (fun i => (i.zero, i.size, i.bytes)) = some (some (.agg #[.int .i64 0, .int .i64 0, .bool false]), 3, 24) := by kernel_rfl

theorem giveBack_no (Q : Nat) (now : Int) (w : World) (h : ¬ (0 ≤ now ∧ now ≤ 1099511627776)) :
    Calls Try.prog 19 #[.pointer (some ⟨Q, 0, none⟩), .int .i64 now] w fun e w' => e = .returned (.int .i64 1) ∧ w' = w := by
  by_cases h2 : now < 0
  · go_enter Try.func19, Try.ntmps19
    go_wp2
    go_ret
    exact ⟨rfl, rfl⟩
  · have h3 : 1099511627776 < now := by omega
    go_enter Try.func19, Try.ntmps19
    go_wp2
    go_ret
    exact ⟨rfl, rfl⟩

def GbR (B Q oN oS : Nat) (last : Int) (v : Value) (L : List M) (now : Int) (w : World) (i : Value) (wr : World) : Prop :=
  ∃ k : Nat, k ≤ L.length ∧ i = .int .i64 k ∧ QAt wr 53 B Q oN oS last v (half (back now) L k) ∧ Turn Q v v w wr
set_option maxHeartbeats 4000000 in
theorem giveBack_yes (B Q : Nat) (last : Int) (v : Value) (L : List M) (now : Int) (w : World) (hA : QAt w 53 B Q 0 1 last v L) (h0 : 0 ≤ now) (h1 : now ≤ 1099511627776) (hL : L.length ≤ 200) :
    Calls Try.prog 19 #[.pointer (some ⟨Q, 0, none⟩), .int .i64 now] w fun e w' => e = .returned (.int .i64 0) ∧ QAt w' 53 B Q 0 1 last v (backL now L) ∧ Turn Q v v w w' := by
  obtain ⟨ao, cap, rfl, hc1, hc2, hao⟩ := hA.form
  have cS := hA.cS
  go_enter Try.func19, Try.ntmps19
  go_wp2
  go_loopw [18] (fun i wr => GbR B Q 0 1 last (.slice ao L.length cap) L now w i wr) (fun i _ => L.length - (intOf i).toNat)
  case atStart => exact ⟨0, by omega, rfl, by rw [half_zero]; exact hA, Turn.refl _ _ _⟩
  case round =>
    clear hA cS
    obtain ⟨k, hk, rfl, hA, hT⟩ := hrel
    by_cases hlt : k < L.length
    · have hlt' : (k : Int) < (L.length : Int) := by omega
      obtain ⟨g, rfl⟩ := hao (by omega)
      obtain ⟨m, hm⟩ : ∃ m, L[k]? = some m := ⟨L[k], by simp [hlt]⟩
      have hgm := half_get (back now) L k m hm
      have hgl := hA.rowLt g rfl
      have hQl := hA.lt
      have hgQ : g ≠ Q := fun e => hA.ne (by rw [e]; rfl)
      obtain ⟨c0, c1, c2, fz⟩ := hA.cells (half_len _ _ _).symm hgm
      have cS := hA.cS
      have f0 := fz (k * 3)
      have f1 := fz (k * 3 + 1)
      have f2 := fz (k * 3 + 2)
      have HA : Hid (QAt wr 53 B Q 0 1 last (.slice (some ⟨g, 0, none⟩) L.length cap) (half (back now) L k)) := hA
      have HT : Hid (Turn Q (.slice (some ⟨g, 0, none⟩) L.length cap) (.slice (some ⟨g, 0, none⟩) L.length cap) w wr) := hT
      clear hA hT fz
      obtain ⟨id, till, tk⟩ := m
      simp only at c0 c1 c2
      cases tk
      · have hb : back now ⟨id, till, false⟩ = ⟨id, till, false⟩ := by simp [back]
        have hh := half_same (back now) L k _ hm hb
        go_wp2
        go_roundw
        case rel => exact ⟨k + 1, by omega, rfl, by rw [← hh]; exact HA.out.alloc _, HT.out.alloc _⟩
        case measure => simp [intOf]; omega
      · by_cases ht : till ≤ now
        · have hb : back now ⟨id, till, true⟩ = ⟨id, 0, false⟩ := by simp [back, ht]
          have hh := half_step (back now) L k _ hm
          rw [hb] at hh
          go_wp2_with fail
          go_region
          all_goals
          go_wp2
          go_roundw
          case rel =>
            have h3 := HA.out.set3 (half_len _ _ _).symm (by rw [half_len]; exact hlt) id 0 false
            rw [hh] at h3
            have t3 := ((HT.out.trans (Turn.setG (k * 3) (.int .i64 id))).trans (Turn.setG (k * 3 + 1) (.int .i64 0))).trans (Turn.setG (k * 3 + 2) (.bool false))
            exact ⟨k + 1, by omega, rfl, (h3.alloc _).drew, (t3.alloc _).drew⟩
          case measure => simp [intOf]; omega
        · have hb : back now ⟨id, till, true⟩ = ⟨id, till, true⟩ := by simp [back, ht]
          have hh := half_same (back now) L k _ hm hb
          go_wp2
          go_roundw
          case rel => exact ⟨k + 1, by omega, rfl, by rw [← hh]; exact HA.out.alloc _, HT.out.alloc _⟩
          case measure => simp [intOf]; omega
    · obtain rfl : k = L.length := by omega
      go_wp2
      go_ret
      exact ⟨rfl, by rw [half_all] at hA; exact hA, hT⟩

def mV (m : M) : Value := .agg #[.int .i64 m.id, .int .i64 m.till, .bool m.tk]
theorem waits_any (m : M) (w : World) :
    Calls Try.prog 21 #[mV m] w fun e w' => e = .returned (.bool (free m)) ∧ Below w.heap.size w w' := by
  unfold mV
  go_enter Try.func21, Try.ntmps21
  go_wp2
  go_ret
  exact ⟨rfl, (Below.refl _ _).alloc (Nat.le_refl _) _⟩
theorem same_any (m : M) (C : Nat) (id : Int) (w : World) (hC : w.cell? ⟨C, 0, none⟩ = some (.int .i64 id)) :
    Calls Try.prog 22 #[mV m, .pointer (some ⟨C, 0, none⟩)] w fun e w' => e = .returned (.bool (isId id m)) ∧ Below w.heap.size w w' := by
  unfold mV
  have hl := World.block_lt_of_cell? w _ hC
  go_enter Try.func22, Try.ntmps22
  go_wp2
  go_ret
  exact ⟨rfl, (Below.refl _ _).alloc (Nat.le_refl _) _⟩
end Que
end Go.Proofs.Ytbfnjjdgiihngaf
