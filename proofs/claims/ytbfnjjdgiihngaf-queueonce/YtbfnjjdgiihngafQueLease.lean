/- What each function of package queue answers: Lease. -/
import Derived.Test.YtbfnjjdgiihngafQuePut
namespace Go.Proofs.Ytbfnjjdgiihngaf
namespace Que
open Go.RowKit
set_option maxRecDepth 8000

theorem lease_ticks (Q : Nat) (now ticks : Int) (w : World) (h : ¬ (1 ≤ ticks ∧ ticks ≤ 100000)) :
    Calls Try.prog 12 #[.pointer (some ⟨Q, 0, none⟩), .int .i64 now, .int .i64 ticks] w fun e w' => e = .returned (.tuple #[.int .i64 0, .int .i64 1]) ∧ w' = w := by
  by_cases h2 : ticks < 1
  · go_enter Try.func12, Try.ntmps12
    go_wp2
    go_ret2
    exact ⟨rfl, rfl⟩
  · have h3 : 100000 < ticks := by omega
    go_enter Try.func12, Try.ntmps12
    go_wp2
    go_ret2
    exact ⟨rfl, rfl⟩
theorem lease_now (Q : Nat) (now ticks : Int) (w : World) (h1 : 1 ≤ ticks) (h2 : ticks ≤ 100000) (h : ¬ (0 ≤ now ∧ now ≤ 1099511627776)) :
    Calls Try.prog 12 #[.pointer (some ⟨Q, 0, none⟩), .int .i64 now, .int .i64 ticks] w fun e w' => e = .returned (.tuple #[.int .i64 0, .int .i64 1]) ∧ w' = w := by
  have c := giveBack_no Q now w h
  clear h
  go_enter Try.func12, Try.ntmps12
  go_wp2_with (go_at_call 19; (with_reducible refine c.mono ?_); rintro e w' ⟨rfl, rfl⟩)
  go_ret2
  exact ⟨rfl, rfl⟩
/-- giveBack, told with its row's shape -/
theorem giveBackS (B Q cap : Nat) (ao : Option Addr) (last : Int) (L L1 : List M) (now : Int) (w : World) (hA : QAt w 53 B Q 0 1 last (.slice ao L.length cap) L) (h0 : 0 ≤ now) (h1 : now ≤ 1099511627776) (hL : L.length ≤ 200) (h : backL now L = L1) :
    Calls Try.prog 19 #[.pointer (some ⟨Q, 0, none⟩), .int .i64 now] w fun e w' => e = .returned (.int .i64 0) ∧ QAt w' 53 B Q 0 1 last (.slice ao L1.length cap) L1 ∧ Turn Q (.slice ao L.length cap) (.slice ao L1.length cap) w w' := by
  refine (giveBack_yes B Q last _ L now w hA h0 h1 hL).mono ?_
  rintro e w' ⟨rfl, hA1, hT1⟩
  subst h
  rw [backL_len]
  exact ⟨rfl, hA1, hT1⟩
set_option maxHeartbeats 1000000 in
theorem lease_none (B Q : Nat) (last : Int) (v : Value) (L L1 : List M) (now ticks : Int) (w : World) (hA : QAt w 53 B Q 0 1 last v L) (hL : L.length ≤ 200) (h1 : 1 ≤ ticks) (h2 : ticks ≤ 100000) (h3 : 0 ≤ now) (h4 : now ≤ 1099511627776) (hb : backL now L = L1) (hn : L1.findIdx? free = none) :
    Calls Try.prog 12 #[.pointer (some ⟨Q, 0, none⟩), .int .i64 now, .int .i64 ticks] w fun e w' => e = .returned (.tuple #[.int .i64 0, .int .i64 4]) ∧ ∃ v', QAt w' 53 B Q 0 1 last v' L1 ∧ Turn Q v v' w w' := by
  have hl : L1.length ≤ 200 := by rw [← hb, backL_len]; exact hL
  obtain ⟨ao, cap, rfl, hc1, hc2, hao⟩ := hA.form
  have c := giveBackS B Q cap ao last L L1 now w hA h3 h4 hL hb
  have c2 := fun w hR => free_none ao cap L1 w hR hl hn
  clear hA hb hn hao hc1 hc2
  go_enter Try.func12, Try.ntmps12
  go_wp2_with (first
    | (go_at_call 19; (with_reducible refine c.mono ?_); rintro e w1 ⟨rfl, hA1, hT1⟩; have cS1 := hA1.cS; have hR1 := hA1.row)
    | (go_at_call 20; (with_reducible refine (c2 w1 hR1).mono ?_); rintro e w2 ⟨rfl, hb2⟩))
  go_ret2
  exact ⟨rfl, _, hA1.below hb2, hT1.trans (Turn.of_below hb2)⟩
set_option maxHeartbeats 2000000 in
theorem lease_yes (B Q : Nat) (last : Int) (v : Value) (L L1 : List M) (now ticks : Int) (i : Nat) (m : M) (w : World) (hA : QAt w 53 B Q 0 1 last v L) (hL : L.length ≤ 200) (h1 : 1 ≤ ticks) (h2 : ticks ≤ 100000) (h3 : 0 ≤ now) (h4 : now ≤ 1099511627776) (hb : backL now L = L1) (hn : L1.findIdx? free = some i) (hm : L1[i]? = some m) :
    Calls Try.prog 12 #[.pointer (some ⟨Q, 0, none⟩), .int .i64 now, .int .i64 ticks] w fun e w' => e = .returned (.tuple #[.int .i64 m.id, .int .i64 0]) ∧ ∃ v', QAt w' 53 B Q 0 1 last v' (L1.set i ⟨m.id, now + ticks, true⟩) ∧ Turn Q v v' w w' := by
  have hl : L1.length ≤ 200 := by rw [← hb, backL_len]; exact hL
  have hil : i < L1.length := (List.getElem?_eq_some_iff.1 hm).1
  obtain ⟨ao, cap, rfl, hc1, hc2, hao⟩ := hA.form
  obtain ⟨g, rfl⟩ := hao (by rw [← hb, backL_len] at hil; omega)
  have c := giveBackS B Q cap (some ⟨g, 0, none⟩) last L L1 now w hA h3 h4 hL hb
  have c2 := fun w hR => free_some (some ⟨g, 0, none⟩) cap L1 w hR hl hn
  have hil' : (i : Int) < (L1.length : Int) := by omega
  clear hA hb hn hao hc1 hc2
  go_enter Try.func12, Try.ntmps12
  go_wp2_with (first
    | (go_at_call 19; (with_reducible refine c.mono ?_); rintro e w1 ⟨rfl, hA1, hT1⟩; have cS1 := hA1.cS; have hR1 := hA1.row)
    | (go_at_call 20; (with_reducible refine (c2 w1 hR1).mono ?_); rintro e w2 ⟨rfl, hb2⟩; have hA2 := hA1.below hb2; have hT2 := hT1.trans (Turn.of_below hb2); obtain ⟨c0, c1, c2, fz⟩ := hA2.cells rfl hm; have f1 := fz (i * 3 + 1); have f2 := fz (i * 3 + 2); have cS2 := hA2.cS; have hgQ : g ≠ Q := fun e => hA2.ne (by rw [e]; rfl); have hA3 := hA2.set2 rfl hm (now + ticks) true; have hT3 := (hT2.trans (Turn.setG (i * 3 + 2) (.bool true))).trans (Turn.setG (i * 3 + 1) (.int .i64 (now + ticks))); clear hA2 hT2 hA1 hT1 hR1 fz))
  go_ret2
  exact ⟨rfl, _, hA3, hT3⟩
end Que
end Go.Proofs.Ytbfnjjdgiihngaf
