/- What the document's queue (tideref.Line) answers: at, Put. -/
import Derived.Test.YtbfnjjdgiihngabQueDepth
namespace Go.Proofs.Ytbfnjjdgiihngab
namespace Que
open Go.RowKit
set_option maxRecDepth 8000

theorem rin_yes (n lo hi : Int) (w : World) (h1 : lo ≤ n) (h2 : n ≤ hi) :
    Calls Try.prog 6 #[.int .i64 n, .int .i64 lo, .int .i64 hi] w fun e w' => e = .returned (.bool true) ∧ w' = w := by
  have d1 : decide (lo ≤ n) = true := by simp [h1]
  have d2 : decide (n ≤ hi) = true := by simp [h2]
  go_enter Try.func6, Try.ntmps6
  go_wp2
  go_ret
  exact ⟨rfl, rfl⟩
theorem rin_no (n lo hi : Int) (w : World) (h : ¬ (lo ≤ n ∧ n ≤ hi)) :
    Calls Try.prog 6 #[.int .i64 n, .int .i64 lo, .int .i64 hi] w fun e w' => e = .returned (.bool false) ∧ w' = w := by
  by_cases h1 : lo ≤ n
  · have d1 : decide (lo ≤ n) = true := by simp [h1]
    have d2 : decide (n ≤ hi) = false := by simp; omega
    clear h
    go_enter Try.func6, Try.ntmps6
    go_wp2
    go_ret
    exact ⟨rfl, rfl⟩
  · have d1 : decide (lo ≤ n) = false := by simp; omega
    clear h
    go_enter Try.func6, Try.ntmps6
    go_wp2
    go_ret
    exact ⟨rfl, rfl⟩

theorem at_no (Q : Nat) (now : Int) (w : World) (h : ¬ (0 ≤ now ∧ now ≤ 1099511627776)) :
    Calls Try.prog 32 #[.pointer (some ⟨Q, 0, none⟩), .int .i64 now] w fun e w' => e = .returned (.bool false) ∧ w' = w := by
  have c := fun w => rin_no now 0 1099511627776 w h
  clear h
  go_enter Try.func32, Try.ntmps32
  go_wp2_with (go_at_call 6; (with_reducible refine (c _).mono ?_); rintro e w' ⟨rfl, rfl⟩)
  go_ret
  exact ⟨rfl, rfl⟩
set_option maxHeartbeats 4000000 in
theorem at_yes (B Q : Nat) (last : Int) (v : Value) (L : List M) (now : Int) (w : World) (hA : QAt w 54 B Q 1 0 last v L) (h0 : 0 ≤ now) (h1 : now ≤ 1099511627776) (hL : L.length ≤ 200) :
    Calls Try.prog 32 #[.pointer (some ⟨Q, 0, none⟩), .int .i64 now] w fun e w' => e = .returned (.bool true) ∧ QAt w' 54 B Q 1 0 last v (backL now L) ∧ Turn Q v v w w' := by
  have c := fun w => rin_yes now 0 1099511627776 w h0 h1
  obtain ⟨ao, cap, rfl, hc1, hc2, hao⟩ := hA.form
  go_enter Try.func32, Try.ntmps32
  go_wp2_with (go_at_call 6; (with_reducible refine (c _).mono ?_); rintro e w' ⟨rfl, h9⟩; have h8 := h9.symm; clear h9; subst h8)
  go_loopw [5] (fun i wr => GbR B Q 1 0 last (.slice ao L.length cap) L now w i wr) (fun i _ => L.length - (intOf i).toNat)
  case atStart => exact ⟨0, by omega, rfl, by rw [half_zero]; exact hA, Turn.refl _ _ _⟩
  case round =>
    clear hA c
    obtain ⟨k, hk, rfl, hA, hT⟩ := hrel
    have cS := hA.cS
    by_cases hlt : k < L.length
    · have hlt' : (k : Int) < (L.length : Int) := by omega
      obtain ⟨g, rfl⟩ := hao (by omega)
      obtain ⟨m, hm⟩ : ∃ m, L[k]? = some m := ⟨L[k], by simp [hlt]⟩
      have hgm := half_get (back now) L k m hm
      have hgl := hA.rowLt g rfl
      have hQl := hA.lt
      have hgQ : g ≠ Q := fun e => hA.ne (by rw [e]; rfl)
      obtain ⟨c0, c1, c2, fz⟩ := hA.cells (half_len _ _ _).symm hgm
      have f0 := fz (k * 3)
      have f1 := fz (k * 3 + 1)
      have f2 := fz (k * 3 + 2)
      have HA : Hid (QAt wr 54 B Q 1 0 last (.slice (some ⟨g, 0, none⟩) L.length cap) (half (back now) L k)) := hA
      have HT : Hid (Turn Q (.slice (some ⟨g, 0, none⟩) L.length cap) (.slice (some ⟨g, 0, none⟩) L.length cap) w wr) := hT
      clear hA hT fz
      obtain ⟨id, till, tk⟩ := m
      simp only at c0 c1 c2
      cases tk
      · have hb : back now ⟨id, till, false⟩ = ⟨id, till, false⟩ := by simp [back]
        have hh := half_same (back now) L k _ hm hb
        go_wp2
        go_roundw
        case rel => exact ⟨k + 1, by omega, rfl, by rw [← hh]; exact HA.out, HT.out⟩
        case measure => simp [intOf]; omega
      · by_cases ht : till ≤ now
        · have hb : back now ⟨id, till, true⟩ = ⟨id, 0, false⟩ := by simp [back, ht]
          have hh := half_step (back now) L k _ hm
          rw [hb] at hh
          go_wp2_with fail
          go_region
          all_goals
          go_wp2
          go_roundw
          case rel =>
            have h3 := HA.out.set3 (half_len _ _ _).symm (by rw [half_len]; exact hlt) id 0 false
            rw [hh] at h3
            have t3 := ((HT.out.trans (Turn.setG (k * 3) (.int .i64 id))).trans (Turn.setG (k * 3 + 1) (.int .i64 0))).trans (Turn.setG (k * 3 + 2) (.bool false))
            exact ⟨k + 1, by omega, rfl, h3.drew, t3.drew⟩
          case measure => simp [intOf]; omega
        · have hb : back now ⟨id, till, true⟩ = ⟨id, till, true⟩ := by simp [back, ht]
          have hh := half_same (back now) L k _ hm hb
          go_wp2
          go_roundw
          case rel => exact ⟨k + 1, by omega, rfl, by rw [← hh]; exact HA.out, HT.out⟩
          case measure => simp [intOf]; omega
    · obtain rfl : k = L.length := by omega
      go_wp2
      go_ret
      exact ⟨rfl, by rw [half_all] at hA; exact hA, hT⟩
/-- at, told with its row's shape -/
theorem atS (B Q cap : Nat) (ao : Option Addr) (last : Int) (L L1 : List M) (now : Int) (w : World) (hA : QAt w 54 B Q 1 0 last (.slice ao L.length cap) L) (h0 : 0 ≤ now) (h1 : now ≤ 1099511627776) (hL : L.length ≤ 200) (h : backL now L = L1) :
    Calls Try.prog 32 #[.pointer (some ⟨Q, 0, none⟩), .int .i64 now] w fun e w' => e = .returned (.bool true) ∧ QAt w' 54 B Q 1 0 last (.slice ao L1.length cap) L1 ∧ Turn Q (.slice ao L.length cap) (.slice ao L1.length cap) w w' := by
  refine (at_yes B Q last _ L now w hA h0 h1 hL).mono ?_
  rintro e w' ⟨rfl, hA1, hT1⟩
  subst h
  rw [backL_len]
  exact ⟨rfl, hA1, hT1⟩

theorem lput_no (Q : Nat) (n : Int) (w : World) (h : n < 1) :
    Calls Try.prog 16 #[.pointer (some ⟨Q, 0, none⟩), .int .i64 n] w fun e w' => e = .returned (.tuple #[.int .i64 0, .int .i64 1]) ∧ w' = w := by
  go_enter Try.func16, Try.ntmps16
  go_wp2
  go_ret2
  exact ⟨rfl, rfl⟩
theorem lput_full (B Q : Nat) (last : Int) (v : Value) (L : List M) (n : Int) (w : World) (hA : QAt w 54 B Q 1 0 last v L) (hL : L.length ≤ 200) (h : 1 ≤ n) (h2 : 200 < L.length + n) :
    Calls Try.prog 16 #[.pointer (some ⟨Q, 0, none⟩), .int .i64 n] w fun e w' => e = .returned (.tuple #[.int .i64 0, .int .i64 6]) ∧ w' = w := by
  obtain ⟨ao, cap, rfl, hc1, hc2, hao⟩ := hA.form
  have cS := hA.cS
  have h4 : ¬ n < 1 := by omega
  by_cases h5 : 200 < n
  · go_enter Try.func16, Try.ntmps16
    go_wp2
    go_ret2
    exact ⟨rfl, rfl⟩
  · have h3 : (200 : Int) < (L.length : Int) + n := by omega
    go_enter Try.func16, Try.ntmps16
    go_wp2
    go_ret2
    exact ⟨rfl, rfl⟩
def LPutR (B Q : Nat) (last : Int) (v : Value) (L : List M) (n : Nat) (w : World) (i : Value) (wr : World) : Prop :=
  ∃ (k : Nat) (v' : Value), k ≤ n ∧ i = .int .i64 ((k : Int) + 1) ∧ QAt wr 54 B Q 1 0 last v' (L ++ news last k) ∧ Turn Q v v' w wr
set_option maxHeartbeats 8000000 in
theorem lput_yes (B Q : Nat) (last : Int) (v : Value) (L : List M) (n : Nat) (w : World) (hA : QAt w 54 B Q 1 0 last v L) (hl : 0 ≤ last ∧ last ≤ 1000000) (h : 1 ≤ n) (h2 : L.length + n ≤ 200) :
    Calls Try.prog 16 #[.pointer (some ⟨Q, 0, none⟩), .int .i64 (n : Int)] w fun e w' => e = .returned (.tuple #[.int .i64 (last + 1), .int .i64 0]) ∧ ∃ v', QAt w' 54 B Q 1 0 (last + n) v' (L ++ news last n) ∧ Turn Q v v' w w' := by
  obtain ⟨i0, hi, hz0, hz1, hz2⟩ := info_parts info_msg
  have hT0 := Turn.refl Q v w
  obtain ⟨ao, cap, hv, hc1, hc2, hao⟩ := hA.form
  have cS := hA.cS
  rw [hv] at cS
  have h3 : ¬ (200 : Int) < (L.length : Int) + n := by omega
  have h4 : ¬ (n : Int) < 1 := by omega
  have h5 : ¬ (200 : Int) < n := by omega
  go_enter Try.func16, Try.ntmps16
  go_wp2
  go_loopw [6] (fun i wr => LPutR B Q last v L n w i wr) (fun i _ => n + 1 - (intOf i).toNat)
  case atStart => exact ⟨0, v, by omega, rfl, by simpa [news_zero] using hA, hT0⟩
  case round =>
    clear hA cS hv hao hc1 hc2 hT0
    obtain ⟨k, v1, hk, rfl, hA, hT⟩ := hrel
    have cN1 := hA.cN
    have cS1 := hA.cS
    have f01 := hA.fz 0
    have f11 := hA.fz 1
    have hQ1 := hA.lt
    by_cases hlt : k < n
    · have hlt' : (k : Int) + 1 ≤ (n : Int) := by omega
      have hBs : B ≤ wr.heap.size := by have := hA.bQ; omega
      have hlen : (L ++ news last k).length = L.length + k := by rw [List.length_append, news_len]
      have hown := hA.own
      rw [hlen] at hown
      have HA : Hid (QAt wr 54 B Q 1 0 last v1 (L ++ news last k)) := hA
      have HT : Hid (Turn Q v v1 w wr) := hT
      have hwr : IntKind.i64.wrap (last + ((k : Int) + 1)) = last + ((k : Int) + 1) := by rw [IntKind.wrap_i64]; omega
      clear hA hT
      go_wp2_with fail
      go_region_law (refine step_own_at rfl (.tmp 30) (.tmp 38) 42 rfl B 54 i0 (.agg #[.int .i64 0, .int .i64 0, .bool false]) 3 24 Try.underlying42 hi hz0 hz1 hz2 rfl (by decide) _ (L.length + k) (cels (L ++ news last k)) rfl ((hown.drew).alloc _) ⟨wr.heap.size, 0, none⟩ 1 1 [.int .i64 (last + (k + 1)), .int .i64 0, .bool false] rfl rfl (cell_three _ _ _ _ _) (fun u hu => by simp at hu; rcases hu with rfl | rfl | rfl <;> rfl) (by unfold maxLen; omega) (by omega) (by simp; omega) ?_; intro v' w3 hown3 hgrow3 hloc3; obtain ⟨g3, cap3, rfl⟩ := own_succ hown3; have hQ3 := HA.out.appended hgrow3; have cS3 : w3.cell? ⟨Q, 0, none⟩ = some v1 := (World.cell?_of_block (w := wr) (a := ⟨Q, 0, none⟩) hQ3).trans cS1; have f13 : w3.frozen? ⟨Q, 0, none⟩ = false := (World.frozen?_of_block (w := wr) (a := ⟨Q, 0, none⟩) hQ3).trans f01)
      all_goals
        have hL' : (L ++ news last (k + 1)).length = L.length + k + 1 := by rw [List.length_append, news_len]; omega
        have hC' : cels (L ++ news last k) ++ [.int .i64 (last + (k + 1)), .int .i64 0, .bool false] = cels (L ++ news last (k + 1)) := by
          rw [← news_step, ← List.append_assoc, cels_append (L ++ news last k), show last + 1 + (k : Int) = last + (k + 1) by omega]
          rfl
        rw [hC', ← hL'] at hown3
        have hA3 := HA.out.regrown (by decide) hQ3 hown3 (own_off HA.out hloc3)
        rw [hL'] at hA3
        have hT3 := (HT.out.trans (Turn.appended hgrow3 hloc3)).setRow 0 (.slice (some ⟨g3, 0, none⟩) (L.length + k + 1) cap3)
        go_wp2
        go_roundw
        case rel => exact ⟨k + 1, _, by omega, rfl, hA3, hT3⟩
        case measure => simp [intOf]; omega
    · obtain rfl : k = n := by omega
      have hA1 := hA.setN (by decide) (last + k)
      have hT1 := hT.trans (Turn.setQ 1 (.int .i64 (last + k)))
      go_wp2
      go_ret2
      exact ⟨rfl, v1, hA1, hT1⟩
end Que
end Go.Proofs.Ytbfnjjdgiihngab
