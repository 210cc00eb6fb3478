/- What each function of package queue answers: Depth; slices.Equal of messages. -/
import Derived.Test.YtbfnjjdgiihngabQueAll
namespace Go.Proofs.Ytbfnjjdgiihngab
namespace Que
open Go.RowKit
set_option maxRecDepth 8000

theorem depth_now (Q : Nat) (now : Int) (w : World) (h : ¬ (0 ≤ now ∧ now ≤ 1099511627776)) :
    Calls Try.prog 23 #[.pointer (some ⟨Q, 0, none⟩), .int .i64 now] w fun e w' => e = .returned (.tuple #[.int .i64 0, .int .i64 1]) ∧ w' = w := by
  have c := fun w => giveBack_no Q now w h
  clear h
  go_enter Try.func23, Try.ntmps23
  go_wp2_with (go_at_call 29; (with_reducible refine (c _).mono ?_); rintro e w' ⟨rfl, rfl⟩)
  go_ret2
  exact ⟨rfl, rfl⟩
def DpR (L : List M) (w : World) (d i : Value) (wr : World) : Prop := ∃ k : Nat, k ≤ L.length ∧ i = .int .i64 k ∧ d = .int .i64 (depth (L.take k) : Int) ∧ Below w.heap.size w wr
set_option maxHeartbeats 2000000 in
theorem depth_yes (B Q : Nat) (last : Int) (v : Value) (L L1 : List M) (now : Int) (w : World) (hA : QAt w 54 B Q 0 1 last v L) (hL : L.length ≤ 200) (h3 : 0 ≤ now) (h4 : now ≤ 1099511627776) (hb : backL now L = L1) :
    Calls Try.prog 23 #[.pointer (some ⟨Q, 0, none⟩), .int .i64 now] w fun e w' => e = .returned (.tuple #[.int .i64 (depth L1 : Int), .int .i64 0]) ∧ ∃ v', QAt w' 54 B Q 0 1 last v' L1 ∧ Turn Q v v' w w' := by
  have hl : L1.length ≤ 200 := by rw [← hb, backL_len]; exact hL
  obtain ⟨ao, cap, rfl, hc1, hc2, hao⟩ := hA.form
  have c := giveBackS B Q cap ao last L L1 now w hA h3 h4 hL hb
  clear hA hb hao hc1 hc2
  go_enter Try.func23, Try.ntmps23
  go_wp2_with (go_at_call 29; (with_reducible refine c.mono ?_); rintro e w1 ⟨rfl, hA1, hT1⟩; have cS1 := hA1.cS)
  have hR1 := hA1.row
  go_loopw [7, 21] (fun d i wr => DpR L1 w1 d i wr) (fun _ i _ => L1.length - (intOf i).toNat)
  case atStart => exact ⟨0, by omega, rfl, by simp [depth], Below.refl _ _⟩
  case round =>
    obtain ⟨k, hk, rfl, rfl, hb⟩ := hrel
    by_cases hlt : k < L1.length
    · have hlt' : (k : Int) < (L1.length : Int) := by omega
      obtain ⟨g, rfl, hg, hc⟩ := hR1.below hb (by omega)
      obtain ⟨m, hm⟩ : ∃ m, L1[k]? = some m := ⟨L1[k], by simp [hlt]⟩
      obtain ⟨c0, c1, c2⟩ := hc k m hm
      have hs := depth_step hm
      have hd : depth (L1.take k) ≤ 200 := Nat.le_trans (depth_le _) (by rw [List.length_take]; omega)
      clear hc hR1
      obtain ⟨id, till, tk⟩ := m
      simp only at c0 c1 c2
      cases tk
      · have c3 := fun w => waits_any ⟨id, till, false⟩ w
        simp only [mV, free, Bool.not_false] at c3
        simp only [free, Bool.not_false, if_true] at hs
        go_wp2_with (go_at_call 31; (with_reducible refine (c3 _).mono ?_); rintro e w3 ⟨rfl, hb3⟩)
        go_roundw
        case rel =>
          have hbw := hb.alloc hb.size (.cells #[.int .i64 id, .int .i64 till, .bool false] 54)
          exact ⟨k + 1, by omega, rfl, by rw [hs]; simp, hbw.trans (hb3.mono hbw.size)⟩
        case measure => simp [intOf]; omega
      · have c3 := fun w => waits_any ⟨id, till, true⟩ w
        simp only [mV, free, Bool.not_true] at c3
        simp only [free, Bool.not_true, Bool.false_eq_true, if_false, Nat.add_zero] at hs
        go_wp2_with (go_at_call 31; (with_reducible refine (c3 _).mono ?_); rintro e w3 ⟨rfl, hb3⟩)
        go_roundw
        case rel =>
          have hbw := hb.alloc hb.size (.cells #[.int .i64 id, .int .i64 till, .bool true] 54)
          exact ⟨k + 1, by omega, rfl, by rw [hs], hbw.trans (hb3.mono hbw.size)⟩
        case measure => simp [intOf]; omega
    · obtain rfl : k = L1.length := by omega
      go_wp2
      go_ret2
      exact ⟨by rw [List.take_length]; rfl, _, hA1.below hb, hT1.trans (Turn.of_below hb)⟩

def EqR (n : Nat) (w : World) (i : Value) (wr : World) : Prop := ∃ k q : Nat, k ≤ n ∧ i = .int .i64 k ∧ wr = w.drewN q
set_option maxHeartbeats 4000000 in
theorem equal_msgs (ao bo : Option Addr) (L : List M) (c d : Nat) (w : World) (hX : RowAt w ao L) (hY : RowAt w bo L) (hn : L.length ≤ 200) :
    Calls Try.prog 25 #[.slice ao L.length c, .slice bo L.length d] w fun e w' => e = .returned (.bool true) ∧ ∃ q, w' = w.drewN q := by
  go_enter Try.func25, Try.ntmps25
  go_wp2
  go_loopw [13] (fun i wr => EqR L.length w i wr) (fun i _ => L.length - (intOf i).toNat)
  case atStart => exact ⟨0, 0, by omega, rfl, rfl⟩
  case round =>
    obtain ⟨k, q, hk, rfl, hq⟩ := hrel
    have HQ : Hid (wr = w.drewN q) := hq
    by_cases hlt : k < L.length
    · have hlt' : (k : Int) < (L.length : Int) := by omega
      obtain ⟨g, rfl, hg, hc⟩ := hX (by omega)
      obtain ⟨h, rfl, hh, hd⟩ := hY (by omega)
      obtain ⟨m, hm⟩ : ∃ m, L[k]? = some m := ⟨L[k], by simp [hlt]⟩
      obtain ⟨c0, c1, c2⟩ := hc k m hm
      obtain ⟨d0, d1, d2⟩ := hd k m hm
      have x0 : wr.cell? ⟨g, k * 3, none⟩ = some (.int .i64 m.id) := by rw [hq]; exact c0
      have x1 : wr.cell? ⟨g, k * 3 + 1, none⟩ = some (.int .i64 m.till) := by rw [hq]; exact c1
      have x2 : wr.cell? ⟨g, k * 3 + 2, none⟩ = some (.bool m.tk) := by rw [hq]; exact c2
      have y0 : wr.cell? ⟨h, k * 3, none⟩ = some (.int .i64 m.id) := by rw [hq]; exact d0
      have y1 : wr.cell? ⟨h, k * 3 + 1, none⟩ = some (.int .i64 m.till) := by rw [hq]; exact d1
      have y2 : wr.cell? ⟨h, k * 3 + 2, none⟩ = some (.bool m.tk) := by rw [hq]; exact d2
      clear hq hc hd c0 c1 c2 d0 d1 d2
      go_wp2_with fail
      go_quiet (fail)
      go_wp2
      go_roundw
      case rel => exact ⟨k + 1, q + nq, by omega, rfl, by rw [HQ.out, World.drewN_drewN]⟩
      case measure => simp [intOf]; omega
    · obtain rfl : k = L.length := by omega
      go_wp2
      go_ret
      exact ⟨rfl, q, rfl⟩
end Que
end Go.Proofs.Ytbfnjjdgiihngab
