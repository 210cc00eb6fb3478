/- What the document's queue (tideref.Line) answers: Lease, Ack. -/
import Derived.Test.YtbfnjjdgiihngabLineWalks
namespace Go.Proofs.Ytbfnjjdgiihngab
namespace Que
open Go.RowKit
set_option maxRecDepth 8000

theorem llease_ticks (Q : Nat) (now ticks : Int) (w : World) (h : ¬ (1 ≤ ticks ∧ ticks ≤ 100000)) :
    Calls Try.prog 18 #[.pointer (some ⟨Q, 0, none⟩), .int .i64 now, .int .i64 ticks] w fun e w' => e = .returned (.tuple #[.int .i64 0, .int .i64 1]) ∧ w' = w := by
  have c := fun w => rin_no ticks 1 100000 w h
  clear h
  go_enter Try.func18, Try.ntmps18
  go_wp2_with (go_at_call 6; (with_reducible refine (c _).mono ?_); rintro e w' ⟨rfl, rfl⟩)
  go_ret2
  exact ⟨rfl, rfl⟩
theorem llease_now (Q : Nat) (now ticks : Int) (w : World) (h1 : 1 ≤ ticks) (h2 : ticks ≤ 100000) (h : ¬ (0 ≤ now ∧ now ≤ 1099511627776)) :
    Calls Try.prog 18 #[.pointer (some ⟨Q, 0, none⟩), .int .i64 now, .int .i64 ticks] w fun e w' => e = .returned (.tuple #[.int .i64 0, .int .i64 1]) ∧ w' = w := by
  have c := fun w => rin_yes ticks 1 100000 w h1 h2
  have c2 := fun w => at_no Q now w h
  clear h
  go_enter Try.func18, Try.ntmps18
  go_wp2_with (first
    | (go_at_call 6; (with_reducible refine (c _).mono ?_); rintro e w' ⟨rfl, h9⟩; have h8 := h9.symm; clear h9; subst h8)
    | (go_at_call 32; (with_reducible refine (c2 _).mono ?_); rintro e w' ⟨rfl, h9⟩; have h8 := h9.symm; clear h9; subst h8))
  go_ret2
  exact ⟨rfl, rfl⟩
def LsR (L : List M) (w : World) (i : Value) (wr : World) : Prop :=
  ∃ k : Nat, k ≤ L.length ∧ i = .int .i64 k ∧ (∀ j, j < k → ∀ x, L[j]? = some x → free x = false) ∧ wr = w
/-- what Lease comes to, by the first message that waits -/
def LeaseAns (L1 : List M) (now ticks : Int) (e : Ending) (L2 : List M) : Prop :=
  (L1.findIdx? free = none ∧ e = .returned (.tuple #[.int .i64 0, .int .i64 4]) ∧ L2 = L1) ∨
  ∃ i m, L1.findIdx? free = some i ∧ L1[i]? = some m ∧ e = .returned (.tuple #[.int .i64 m.id, .int .i64 0]) ∧ L2 = L1.set i ⟨m.id, now + ticks, true⟩
set_option maxHeartbeats 4000000 in
theorem llease_yes (B Q : Nat) (last : Int) (v : Value) (L L1 : List M) (now ticks : Int) (w : World) (hA : QAt w 54 B Q 1 0 last v L) (hL : L.length ≤ 200) (h1 : 1 ≤ ticks) (h2 : ticks ≤ 100000) (h3 : 0 ≤ now) (h4 : now ≤ 1099511627776) (hb : backL now L = L1) :
    Calls Try.prog 18 #[.pointer (some ⟨Q, 0, none⟩), .int .i64 now, .int .i64 ticks] w fun e w' => ∃ L2 v', LeaseAns L1 now ticks e L2 ∧ QAt w' 54 B Q 1 0 last v' L2 ∧ Turn Q v v' w w' := by
  have hl : L1.length ≤ 200 := by rw [← hb, backL_len]; exact hL
  have hll : L1.length = L.length := by rw [← hb, backL_len]
  obtain ⟨ao, cap, rfl, hc1, hc2, hao⟩ := hA.form
  have c := fun w => rin_yes ticks 1 100000 w h1 h2
  have c2 := atS B Q cap ao last L L1 now w hA h3 h4 hL hb
  clear hA hb
  go_enter Try.func18, Try.ntmps18
  go_wp2_with (first
    | (go_at_call 6; (with_reducible refine (c _).mono ?_); rintro e w' ⟨rfl, h9⟩; have h8 := h9.symm; clear h9; subst h8)
    | (go_at_call 32; (with_reducible refine c2.mono ?_); rintro e w1 ⟨rfl, hA1, hT1⟩))
  go_loopw [8] (fun i wr => LsR L1 w1 i wr) (fun i _ => L1.length - (intOf i).toNat)
  case atStart => exact ⟨0, by omega, rfl, fun j hj => absurd hj (by omega), rfl⟩
  case round =>
    obtain ⟨k, hk, rfl, hno, hwr⟩ := hrel
    subst hwr
    have cS1 := hA1.cS
    by_cases hlt : k < L1.length
    · have hlt' : (k : Int) < (L1.length : Int) := by omega
      obtain ⟨g, rfl⟩ := hao (by omega)
      obtain ⟨m, hm⟩ : ∃ m, L1[k]? = some m := ⟨L1[k], by simp [hlt]⟩
      obtain ⟨d0, d1, d2, fz⟩ := hA1.cells rfl hm
      have hgQ : g ≠ Q := fun e => hA1.ne (by rw [e]; rfl)
      have f0 := fz (k * 3)
      have f1 := fz (k * 3 + 1)
      have f2 := fz (k * 3 + 2)
      obtain ⟨id, till, tk⟩ := m
      simp only at d0 d1 d2
      clear fz
      cases tk
      · have hf := find_at hno hm (show free ⟨id, till, false⟩ = true from rfl)
        have hA3 := hA1.set3 rfl hlt id (now + ticks) true
        have hT3 := ((hT1.trans (Turn.setG (k * 3) (.int .i64 id))).trans (Turn.setG (k * 3 + 1) (.int .i64 (now + ticks)))).trans (Turn.setG (k * 3 + 2) (.bool true))
        have HA3 : Hid (∃ L2 v', LeaseAns L1 now ticks (.returned (.tuple #[.int .i64 id, .int .i64 0])) L2 ∧ QAt ((((wr.setCell ⟨g, k * 3, none⟩ (.int .i64 id)).setCell ⟨g, k * 3 + 1, none⟩ (.int .i64 (now + ticks))).setCell ⟨g, k * 3 + 2, none⟩ (.bool true)).drew) 54 B Q 1 0 last v' L2 ∧ Turn Q (.slice (some ⟨g, 0, none⟩) L.length cap) v' w ((((wr.setCell ⟨g, k * 3, none⟩ (.int .i64 id)).setCell ⟨g, k * 3 + 1, none⟩ (.int .i64 (now + ticks))).setCell ⟨g, k * 3 + 2, none⟩ (.bool true)).drew)) := ⟨_, _, Or.inr ⟨k, _, hf, hm, rfl, rfl⟩, hA3.drew, hT3.drew⟩
        clear hA3 hT3 hA1 hT1 hf hno
        have hwr2 : IntKind.i64.wrap (now + ticks) = now + ticks := by rw [IntKind.wrap_i64]; omega
        go_wp2_with fail
        go_region
        all_goals
        go_wp2
        go_ret2
        exact HA3.out
      · have hs := ix_step hno hm (show free ⟨id, till, true⟩ = false from rfl)
        go_wp2
        go_roundw
        case rel => exact ⟨k + 1, by omega, rfl, hs, rfl⟩
        case measure => simp [intOf]; omega
    · obtain rfl : k = L1.length := by omega
      have hf := find_no hno
      go_wp2
      go_ret2
      exact ⟨L1, _, Or.inl ⟨hf, rfl, rfl⟩, hA1, hT1⟩

theorem lack_now (Q : Nat) (now id : Int) (w : World) (h : ¬ (0 ≤ now ∧ now ≤ 1099511627776)) :
    Calls Try.prog 20 #[.pointer (some ⟨Q, 0, none⟩), .int .i64 now, .int .i64 id] w fun e w' => e = .returned (.int .i64 1) ∧ w' = w := by
  have c2 := fun w => at_no Q now w h
  clear h
  go_enter Try.func20, Try.ntmps20
  go_wp2_with (go_at_call 32; (with_reducible refine (c2 _).mono ?_); rintro e w' ⟨rfl, rfl⟩)
  go_ret
  exact ⟨rfl, rfl⟩
def AkR (id : Int) (L : List M) (w : World) (v e i : Value) (wr : World) : Prop :=
  ∃ k : Nat, k ≤ L.length ∧ i = .int .i64 k ∧ e = .int .i64 (ackE id (L.take k)) ∧ wr.ownsRow w.heap.size 54 3 v (ackL id (L.take k)).length (cels (ackL id (L.take k))) ∧ Below w.heap.size w wr
end Que
end Go.Proofs.Ytbfnjjdgiihngab
