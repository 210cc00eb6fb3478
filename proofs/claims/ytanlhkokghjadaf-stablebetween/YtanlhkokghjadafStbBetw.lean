
/- The law StableBetween, walked. -/
import Derived.Test.YtanlhkokghjadafStbFree
namespace Go.Proofs.Ytanlhkokghjadaf
namespace Stb
open Rw Go.RowKit Frm
set_option maxRecDepth 8000

theorem between_long (w : World) (u d : Pc) (a1 : Option Addr) (len cap : Nat) (hl : 100 < len) :
    Calls Try.prog 5 #[pcV u, pcV d, .slice a1 len cap] w fun e w' => e = .returned (.bool true) ∧ Below w.heap.size w w' := by
  have cS := fun w => slow_any w
  obtain ⟨uw, un, uc, up⟩ := u
  obtain ⟨dw, dn, dc, dp⟩ := d
  simp only [pcV]
  have hl' : (100 : Int) < (len : Int) := by omega
  go_enter Try.func5, Try.ntmps5
  go_wp2_with (go_at_call 18; (with_reducible refine (cS _).mono ?_); rintro e w1 ⟨rfl, hb1⟩)
  go_ret
  have hb0 : Below w.heap.size w ((w.alloc (.cells #[.int .i64 uw, .int .i64 un, .int .i64 uc, .int .i64 up] 44)).alloc (.cells #[.int .i64 dw, .int .i64 dn, .int .i64 dc, .int .i64 dp] 44)) := ((Below.refl _ _).alloc (Nat.le_refl _) _).alloc (by simp) _
  exact ⟨rfl, hb0.trans (hb1.mono (by simp; omega))⟩
set_option maxHeartbeats 8000000 in
theorem between_law (w : World) (u d : Pc) (a1 : Option Addr) (len cap : Nat) (X : Nat → Nat → Int) (hl : len ≤ 100) (hX : Frm.RowsIn w a1 len 3 X) :
    Calls Try.prog 5 #[pcV u, pcV d, .slice a1 len cap] w fun e w' => e = .returned (.bool true) ∧ Below w.heap.size w w' := by
  have cS := fun w => slow_any w
  have cN := fun w => new_any u d w
  obtain ⟨uw, un, uc, up⟩ := u
  obtain ⟨dw, dn, dc, dp⟩ := d
  simp only [pcV] at cN ⊢
  have hl' : ¬ (100 : Int) < (len : Int) := by omega
  go_enter Try.func5, Try.ntmps5
  go_wp2_with (first
    | (go_at_call 18; (with_reducible refine (cS _).mono ?_); rintro e w1 ⟨rfl, hb1⟩; have q0 := (hb1.cell (p := ⟨w.heap.size, 0, none⟩) (by simp; omega)).trans (show ((w.alloc (.cells #[.int .i64 uw, .int .i64 un, .int .i64 uc, .int .i64 up] 44)).alloc (.cells #[.int .i64 dw, .int .i64 dn, .int .i64 dc, .int .i64 dp] 44)).cell? ⟨w.heap.size, 0, none⟩ = some (.int .i64 uw) by simp [go_sem]); have q1 := (hb1.cell (p := ⟨w.heap.size, 1, none⟩) (by simp; omega)).trans (show ((w.alloc (.cells #[.int .i64 uw, .int .i64 un, .int .i64 uc, .int .i64 up] 44)).alloc (.cells #[.int .i64 dw, .int .i64 dn, .int .i64 dc, .int .i64 dp] 44)).cell? ⟨w.heap.size, 1, none⟩ = some (.int .i64 un) by simp [go_sem]); have q2 := (hb1.cell (p := ⟨w.heap.size, 2, none⟩) (by simp; omega)).trans (show ((w.alloc (.cells #[.int .i64 uw, .int .i64 un, .int .i64 uc, .int .i64 up] 44)).alloc (.cells #[.int .i64 dw, .int .i64 dn, .int .i64 dc, .int .i64 dp] 44)).cell? ⟨w.heap.size, 2, none⟩ = some (.int .i64 uc) by simp [go_sem]); have q3 := (hb1.cell (p := ⟨w.heap.size, 3, none⟩) (by simp; omega)).trans (show ((w.alloc (.cells #[.int .i64 uw, .int .i64 un, .int .i64 uc, .int .i64 up] 44)).alloc (.cells #[.int .i64 dw, .int .i64 dn, .int .i64 dc, .int .i64 dp] 44)).cell? ⟨w.heap.size, 3, none⟩ = some (.int .i64 up) by simp [go_sem]); have q4 := (hb1.cell (p := ⟨w.heap.size + 1, 0, none⟩) (by simp)).trans (show ((w.alloc (.cells #[.int .i64 uw, .int .i64 un, .int .i64 uc, .int .i64 up] 44)).alloc (.cells #[.int .i64 dw, .int .i64 dn, .int .i64 dc, .int .i64 dp] 44)).cell? ⟨w.heap.size + 1, 0, none⟩ = some (.int .i64 dw) by simp [go_sem]); have q5 := (hb1.cell (p := ⟨w.heap.size + 1, 1, none⟩) (by simp)).trans (show ((w.alloc (.cells #[.int .i64 uw, .int .i64 un, .int .i64 uc, .int .i64 up] 44)).alloc (.cells #[.int .i64 dw, .int .i64 dn, .int .i64 dc, .int .i64 dp] 44)).cell? ⟨w.heap.size + 1, 1, none⟩ = some (.int .i64 dn) by simp [go_sem]); have q6 := (hb1.cell (p := ⟨w.heap.size + 1, 2, none⟩) (by simp)).trans (show ((w.alloc (.cells #[.int .i64 uw, .int .i64 un, .int .i64 uc, .int .i64 up] 44)).alloc (.cells #[.int .i64 dw, .int .i64 dn, .int .i64 dc, .int .i64 dp] 44)).cell? ⟨w.heap.size + 1, 2, none⟩ = some (.int .i64 dc) by simp [go_sem]); have q7 := (hb1.cell (p := ⟨w.heap.size + 1, 3, none⟩) (by simp)).trans (show ((w.alloc (.cells #[.int .i64 uw, .int .i64 un, .int .i64 uc, .int .i64 up] 44)).alloc (.cells #[.int .i64 dw, .int .i64 dn, .int .i64 dc, .int .i64 dp] 44)).cell? ⟨w.heap.size + 1, 3, none⟩ = some (.int .i64 dp) by simp [go_sem]))
    | (go_at_call 19; (with_reducible refine (cN _).mono ?_); rintro e w2 ⟨Q, rfl, hA2, hb2⟩))
  have hb0 : Below w.heap.size w ((w.alloc (.cells #[.int .i64 uw, .int .i64 un, .int .i64 uc, .int .i64 up] 44)).alloc (.cells #[.int .i64 dw, .int .i64 dn, .int .i64 dc, .int .i64 dp] 44)) := ((Below.refl _ _).alloc (Nat.le_refl _) _).alloc (by simp) _
  have hB1 : Below w.heap.size w w1 := hb0.trans (hb1.mono (by simp; omega))
  have hB2 : Below w.heap.size w w2 := hB1.trans (hb2.mono hB1.size)
  clear hb0 hb1 q0 q1 q2 q3 q4 q5 q6 q7
  go_loopw [22] (fun i wr => PlR w1.heap.size Q (clP ⟨uw, un, uc, up⟩) (clP ⟨dw, dn, dc, dp⟩) len w i wr) (fun i _ => len - (intOf i).toNat)
  case atStart => exact ⟨0, _, _, [], by omega, rfl, hA2, new_fit _ _, si_new _ _, rfl, rfl, hB2⟩
  case round =>
    clear hA2 hb2 hB2
    obtain ⟨k, V, s, H, hk, rfl, hA, hF, hI, hu, hd, hbw⟩ := hrel
    by_cases hlt : k < len
    · have hlt' : (k : Int) < len := by omega
      obtain ⟨b, off, rfl, hbl, hcell⟩ := (hX.below hbw (Nat.le_refl _)) k (by omega)
      have k0 : wr.cell? ⟨b, off + k * 3, none⟩ = some (.int .i64 (X k 0)) := by have := (hcell 0 (by omega)).1; simpa using this
      have k1 : wr.cell? ⟨b, off + k * 3 + 1, none⟩ = some (.int .i64 (X k 1)) := by have := (hcell 1 (by omega)).1; simpa [Nat.add_assoc] using this
      have k2 : wr.cell? ⟨b, off + k * 3 + 2, none⟩ = some (.int .i64 (X k 2)) := by have := (hcell 2 (by omega)).1; simpa [Nat.add_assoc] using this
      clear hcell
      generalize X k 0 = now at k0
      generalize X k 1 = hv at k1
      generalize X k 2 = want at k2
      have hAW := hA.alloc (.cells #[.int .i64 now, .int .i64 hv, .int .i64 want] 50)
      have hbW : Below w.heap.size w (wr.alloc (.cells #[.int .i64 now, .int .i64 hv, .int .i64 want] 50)) := hbw.alloc hbw.size _
      have hCb : ¬ blk Q V wr.heap.size := fun e => by have := (hA.blt e).2; omega
      have e2c : (wr.alloc (.cells #[.int .i64 now, .int .i64 hv, .int .i64 want] 50)).cell? ⟨wr.heap.size, 2, none⟩ = some (.int .i64 want) := by simp
      have e1c : (wr.alloc (.cells #[.int .i64 now, .int .i64 hv, .int .i64 want] 50)).cell? ⟨wr.heap.size, 1, none⟩ = some (.int .i64 hv) := by simp
      obtain ⟨H', hF', hI', hu', hd'⟩ := pl_next (now := now) (hv := hv) (want := want) hF hI hu hd
      obtain ⟨N, hN⟩ : ∃ N, setN s now hv want = N := ⟨_, rfl⟩
      obtain ⟨E, hE⟩ : ∃ E, setE s now hv want = E := ⟨_, rfl⟩
      obtain ⟨mn, hmn⟩ : ∃ mn, min hv want = mn := ⟨_, rfl⟩
      obtain ⟨mx, hmx⟩ : ∃ mx, max hv want = mx := ⟨_, rfl⟩
      have e1 : (if want < hv then want else hv) = mn := by rw [← hmn]; split <;> omega
      have e2 : (if hv < want then want else hv) = mx := by rw [← hmx]; split <;> omega
      have hfr : E = 0 → ¬ N < mn ∧ ¬ mx < N := fun h0 => by
        have := between hI hF (setE_ok (hE.trans h0))
        omega
      have hfn : ¬ E = 0 → N = 0 := fun h0 => by rw [← hN]; exact (setE_no (fun h => h0 (hE.symm.trans h))).2.1
      have c1 := set_use _ Q V s now hv want (2 * k) _ hAW hF (by omega) hN hE rfl
      have HG : Hid (∀ w3 V', SAt w3 w1.heap.size Q V' (setS s now hv want) → Below w1.heap.size (wr.alloc (.cells #[.int .i64 now, .int .i64 hv, .int .i64 want] 50)) w3 → PlR w1.heap.size Q (clP ⟨uw, un, uc, up⟩) (clP ⟨dw, dn, dc, dp⟩) len w (.int .i64 ((k : Int) + 1)) w3) :=
        fun w3 V' h3 hb3 => ⟨k + 1, V', _, H', by omega, by simp, h3, hF', hI', hu', hd', hbW.trans (hb3.mono hB1.size)⟩
      have HS : Hid (∀ w3 V', Step Q V V' (wr.alloc (.cells #[.int .i64 now, .int .i64 hv, .int .i64 want] 50)) w3 → w3.cell? ⟨wr.heap.size, 2, none⟩ = some (.int .i64 want) ∧ w3.cell? ⟨wr.heap.size, 1, none⟩ = some (.int .i64 hv)) :=
        fun w3 V' h3 => ⟨(World.cell?_of_block (a := ⟨wr.heap.size, 2, none⟩) (h3.block wr.heap.size (by simp) hCb)).trans e2c, (World.cell?_of_block (a := ⟨wr.heap.size, 1, none⟩) (h3.block wr.heap.size (by simp) hCb)).trans e1c⟩
      clear hA hF hI hu hd hF' hI' hu' hd' hN hE hAW hbW hCb e2c e1c hbw hmn hmx
      by_cases hE0 : E = 0
      · obtain ⟨g1, g2⟩ := hfr hE0
        subst hE0
        clear hfr hfn
        go_wp2_with (go_at_call 20; (with_reducible refine c1.mono ?_); rintro e w3 ⟨rfl, V3, hA3, hS3, hb3⟩; have HR : Hid _ := HG.out w3 V3 hA3 hb3; obtain ⟨f2, f1⟩ := HS.out w3 V3 hS3; clear hA3 hS3 hb3)
        go_roundw
        case rel => exact HR.out
        case measure => simp [intOf]; omega
      · have hE1 : (E != 0) = true := by simp [hE0]
        have hN0 := hfn hE0
        subst hN0
        clear hfr hfn e1 e2
        go_wp2_with (go_at_call 20; (with_reducible refine c1.mono ?_); rintro e w3 ⟨rfl, V3, hA3, hS3, hb3⟩; have HR : Hid _ := HG.out w3 V3 hA3 hb3; obtain ⟨f2, f1⟩ := HS.out w3 V3 hS3; clear hA3 hS3 hb3)
        go_roundw
        case rel => exact HR.out
        case measure => simp [intOf]; omega
    · obtain rfl : k = len := by omega
      go_wp2
      go_ret
      exact ⟨rfl, hbw⟩
end Stb
end Go.Proofs.Ytanlhkokghjadaf
