
/- A request has one end, in order; one of a source runs: the law, walked. -/
import Derived.Test.YtkflelbpiabcpagBufFateW
import Derived.Test.YtkflelbpiabcpagBufAsked
import Derived.Test.YtkflelbpiabcpagFrameSl
namespace Go.Proofs.Ytkflelbpiabcpag
namespace Buf
open Go.RowKit Rw Rec Frm
set_option maxRecDepth 8000

theorem start_at {w5 w6 : World} {B : Nat} {v : Value} {L : List Rq} (h : HAt w6 w5.heap.size w5.heap.size v L) (hB : B ≤ w5.heap.size) : HAt w6 B w5.heap.size v L := ⟨h.lt, hB, RAt.cQ h, RAt.cS h, h.fz, World.ownsRow.mono (RAt.own h) hB, h.ne⟩
/-- a row of requests that the buffer does not have -/
structure Was (w : World) (Q : Nat) (v : Value) (ao : Option Addr) (L : List Rq) : Prop where
  row : RowAt rK w ao L
  off : ∀ g, ao = some ⟨g, 0, none⟩ → g ≠ Q ∧ v.ownBlock ≠ some g
/-- k turns are done -/
def FaR (Q len : Nat) (w : World) (s i : Value) (wr : World) : Prop :=
  ∃ (k c : Nat) (v : Value) (ao : Option Addr) (L : List Rq), k ≤ len ∧ i = .int .i64 k ∧ s = .slice ao L.length c ∧ Was wr Q v ao L ∧ HAt wr w.heap.size Q v L ∧ Fat L ∧ Below w.heap.size w wr
/-- what a turn leaves -/
def FoR (Q : Nat) (w : World) (ao : Option Addr) (L : List Rq) (wx : World) : Prop :=
  ∃ (v : Value) (L' : List Rq), HAt wx w.heap.size Q v L' ∧ Fat L' ∧ Goes L L' ∧ RowAt rK wx ao L ∧ Below w.heap.size w wx
theorem Was.turn {w w' : World} {Q : Nat} {v v' : Value} {ao : Option Addr} {L : List Rq} (h : Was w Q v ao L) (t : Turn Q v v' w w') : RowAt rK w' ao L := h.row.turn h.off t
theorem fates_long (w : World) (a0 : Option Addr) (len cap : Nat) (h3 : 150 < len) :
    Calls Try.prog 8 #[.slice a0 len cap] w fun e w' => e = .returned (.bool true) ∧ Below w.heap.size w w' := by
  have h3' : (150 : Int) < len := by omega
  have cK := fun w => asked_any w
  go_enter Try.func8, Try.ntmps8
  go_wp2_with (go_at_call 27; (with_reducible refine (cK _).mono ?_); rintro e w5 ⟨rfl, hb5⟩)
  go_ret
  exact ⟨rfl, hb5⟩
set_option maxHeartbeats 8000000 in
theorem fates_law (w : World) (a0 : Option Addr) (len cap : Nat) (X : Nat → Nat → Int) (h3 : len ≤ 150) (hX : Frm.RowsIn w a0 len 4 X) :
    Calls Try.prog 8 #[.slice a0 len cap] w fun e w' => e = .returned (.bool true) ∧ Below w.heap.size w w' := by
  have h3' : ¬ (150 : Int) < len := by omega
  have c1 := fun w => new_any w
  have cK := fun w => asked_any w
  go_enter Try.func8, Try.ntmps8
  go_wp2_with (first
    | (go_at_call 27; (with_reducible refine (cK _).mono ?_); rintro e w5 ⟨rfl, hb5⟩)
    | (go_at_call 28; (with_reducible refine (c1 _).mono ?_); rintro e w6 ⟨rfl, hA6, hb6⟩))
  have hA7 := start_at hA6 hb5.size
  have hb7 := hb5.trans (hb6.mono hb5.size)
  clear c1 cK hA6 hb6 hb5
  generalize w5.heap.size = Q at *
  go_loopw [4, 16] (fun s i wr => FaR Q len w s i wr) (fun _ i _ => len - (intOf i).toNat)
  case atStart => exact ⟨0, 0, _, none, [], by omega, rfl, rfl, ⟨fun h => by simp at h, fun g h => by cases h⟩, hA7, Fat.nil, hb7⟩
  case round =>
    clear hA7 hb7
    obtain ⟨k, c, v, ao, L, hk, rfl, rfl, hS, hA, hF, hbw⟩ := hrel
    by_cases hlt : k < len
    · have hlt' : (k : Int) < len := by omega
      obtain ⟨b, off, rfl, hbl, hcell⟩ := (hX.below hbw (Nat.le_refl _)) k hlt
      have k0 : wr.cell? ⟨b, off + k * 4, none⟩ = some (.int .i64 (X k 0)) := by have := (hcell 0 (by omega)).1; simpa using this
      have k1 : wr.cell? ⟨b, off + k * 4 + 1, none⟩ = some (.int .i64 (X k 1)) := by have := (hcell 1 (by omega)).1; simpa [Nat.add_assoc] using this
      have k2 : wr.cell? ⟨b, off + k * 4 + 2, none⟩ = some (.int .i64 (X k 2)) := by have := (hcell 2 (by omega)).1; simpa [Nat.add_assoc] using this
      have k3 : wr.cell? ⟨b, off + k * 4 + 3, none⟩ = some (.int .i64 (X k 3)) := by have := (hcell 3 (by omega)).1; simpa [Nat.add_assoc] using this
      clear hcell hX
      generalize X k 0 = kd at k0
      generalize X k 1 = now at k1
      generalize X k 2 = a at k2
      generalize X k 3 = n at k3
      obtain ⟨W, hW⟩ : ∃ W, W = wr.alloc (.cells #[.int .i64 kd, .int .i64 now, .int .i64 a, .int .i64 n] 61) := ⟨_, rfl⟩
      have hAW : HAt W w.heap.size Q v L := by rw [hW]; exact hA.alloc _
      have hbW : Below w.heap.size w W := by rw [hW]; exact hbw.alloc hbw.size _
      have hSW : Was W Q v ao L := by
        refine ⟨?_, hS.off⟩
        rw [hW]; exact hS.row.below ((Below.refl _ _).alloc (Nat.le_refl _) _)
      have e0 : W.cell? ⟨wr.heap.size, 0, none⟩ = some (.int .i64 kd) := by rw [hW]; exact cell_at rfl rfl
      have e1 : W.cell? ⟨wr.heap.size, 1, none⟩ = some (.int .i64 now) := by rw [hW]; exact cell_at rfl rfl
      have e2 : W.cell? ⟨wr.heap.size, 2, none⟩ = some (.int .i64 a) := by rw [hW]; exact cell_at rfl rfl
      have e3 : W.cell? ⟨wr.heap.size, 3, none⟩ = some (.int .i64 n) := by rw [hW]; exact cell_at rfl rfl
      have HW : Hid (W = wr.alloc (.cells #[.int .i64 kd, .int .i64 now, .int .i64 a, .int .i64 n] 61)) := hW
      clear hA hbw hW hS
      go_upto_block 2 with fail
      rw [← HW.out]
      clear HW k0 k1 k2 k3 hbl
      generalize wr.heap.size = C at *
      go_cut [] (fun wx => FoR Q w ao L wx)
      case first =>
        by_cases hk0 : kd = 0
        · subst hk0
          have cO := ask_any L now a n hF.inv
          have hF1 := ask_fat hF now a n
          dsimp only [Doth] at cO
          go_wp2_with (go_at_call 29; (with_reducible refine (cO _ _ _ _ hAW).mono ?_); rintro e w8 ⟨rfl, v8, hA8, hT8⟩; have hb8 := hbW.trans (RAt.turned hAW hT8); have hR8 := hSW.turn hT8)
          go_meet
          exact ⟨v8, _, hA8, hF1.1, hF1.2, hR8, hb8⟩
        · have hk0b : (kd == 0) = false := by simp [hk0]
          by_cases hk3 : kd = 3
          · subst hk3
            have cO := run_any L a n hF.inv
            have hF1 := run_fat hF a n
            dsimp only [Doth] at cO
            go_wp2_with (go_at_call 31; (with_reducible refine (cO _ _ _ _ hAW).mono ?_); rintro e w8 ⟨rfl, v8, hA8, hT8⟩; have hb8 := hbW.trans (RAt.turned hAW hT8); have hR8 := hSW.turn hT8)
            go_meet
            exact ⟨v8, _, hA8, hF1.1, hF1.2, hR8, hb8⟩
          · have hk3b : (kd == 3) = false := by simp [hk3]
            by_cases hk4 : kd = 4
            · subst hk4
              have cO := done_any L n hF.inv
              have hF1 := done_fat hF n
              dsimp only [Doth] at cO
              go_wp2_with (go_at_call 32; (with_reducible refine (cO _ _ _ _ hAW).mono ?_); rintro e w8 ⟨rfl, v8, hA8, hT8⟩; have hb8 := hbW.trans (RAt.turned hAW hT8); have hR8 := hSW.turn hT8)
              go_meet
              exact ⟨v8, _, hA8, hF1.1, hF1.2, hR8, hb8⟩
            · have hk4b : (kd == 4) = false := by simp [hk4]
              by_cases hk1 : kd = 1
              · subst hk1
                by_cases hno : 0 ≤ now ∧ now ≤ 1099511627776
                · have cO := fun B Q v w h => late_any B Q v L now w h hF.inv hno.1 hno.2
                  have hF1 := late_fat hF now
                  clear hno
                  go_wp2_with (go_at_call 30; (with_reducible refine (cO _ _ _ _ hAW).mono ?_); rintro e w8 ⟨o8, rfl, hown8, hA8, hT8⟩; have hb8 := hbW.trans (RAt.turned hAW hT8); have hR8 := hSW.turn hT8)
                  go_meet
                  exact ⟨v, _, hA8, hF1.1, hF1.2, hR8, hb8⟩
                · have cO := fun Q w => late_no Q now w hno
                  clear hno
                  go_wp2_with (go_at_call 30; (with_reducible refine (cO _ _).mono ?_); rintro e w8 ⟨rfl, hb8⟩)
                  go_meet
                  exact ⟨v, L, hAW.below hb8, hF, Goes.refl L, hSW.row.below hb8, hbW.trans (hb8.mono hbW.size)⟩
              · have hk1b : (kd == 1) = false := by simp [hk1]
                by_cases hk5 : kd = 5
                · subst hk5
                  have cO := fun B Q v w h => lost_any B Q v L n w h hF.inv
                  have hF1 := lost_fat hF n
                  go_wp2_with (go_at_call 33; (with_reducible refine (cO _ _ _ _ hAW).mono ?_); rintro e w8 ⟨o8, rfl, hown8, hA8, hT8⟩; have hb8 := hbW.trans (RAt.turned hAW hT8); have hR8 := hSW.turn hT8)
                  go_meet
                  exact ⟨v, _, hA8, hF1.1, hF1.2, hR8, hb8⟩
                · have hk5b : (kd == 5) = false := by simp [hk5]
                  go_wp2
                  go_meet
                  exact ⟨v, L, hAW, hF, Goes.refl L, hSW.row, hbW⟩
      case rest =>
        clear e0 e1 e2 e3 hAW hbW hSW
        obtain ⟨v1, L1, hA1, hF1, hG1, hR1, hb1⟩ := hcut
        have hlen1 := hF1.inv.len
        have hle : ¬ (L1.length : Int) < (L.length : Int) := by have := hG1.1; omega
        have cA := all_any w.heap.size Q v1 L1 wc hA1 hlen1
        have cF := fun w G h1 h2 => fates_any ao (some ⟨G, 0, none⟩) c L1.length L L1 w h1 h2 hF1 hG1 (Nat.le_refl _)
        have HG : Hid (HAt wc w.heap.size Q v1 L1 ∧ Fat L1) := ⟨hA1, hF1⟩
        clear hA1 hF1 hG1 hF
        go_wp2_with (first
          | (go_at_call 34; (with_reducible refine cA.mono ?_); rintro e w9 ⟨G9, rfl, hG9, hR9, hb9⟩; have hR2 := hR1.below hb9; have hbw9 := hb1.trans (hb9.mono hb1.size))
          | (go_at_call 35; (with_reducible refine (cF _ _ hR2 hR9).mono ?_); rintro e w10 ⟨rfl, hb10⟩))
        go_roundw
        case rel =>
          refine ⟨k + 1, _, v1, some ⟨G9, 0, none⟩, L1, by omega, rfl, rfl, ⟨hR9.below hb10, fun g hg => ?_⟩, (HG.out.1.below hb9).below hb10, HG.out.2, hbw9.trans (hb10.mono hbw9.size)⟩
          cases hg
          have h1 := HG.out.1.lt
          refine ⟨by omega, fun e => ?_⟩
          have := HG.out.1.rowLt _ e
          omega
        case measure => simp [intOf]; omega
    · obtain rfl : k = len := by omega
      go_wp2
      go_ret
      exact ⟨rfl, hbw⟩
end Buf
end Go.Proofs.Ytkflelbpiabcpag
