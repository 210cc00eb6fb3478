
/- The laws of a Stable that are told without the document's answer: what there is to walk; StableFree, StableBetween. -/
import Derived.Test.YtanlhkokghjadagStbSlow
import Derived.Test.YtanlhkokghjadagStbInv
import Derived.Test.YtanlhkokghjadagFrameSl
namespace Go.Proofs.Ytanlhkokghjadag
namespace Stb
open Rw Go.RowKit Frm
set_option maxRecDepth 8000

/-- k wishes are settled -/
def PlR (B Q : Nat) (u d : Pc) (n : Nat) (w : World) (i : Value) (wr : World) : Prop :=
  ∃ (k : Nat) (V : Nat → Value) (s : St) (H : List Mo), k ≤ n ∧ i = .int .i64 k ∧ SAt wr B Q V s ∧ Fit s (2 * k) ∧ SI H s ∧ s.u = u ∧ s.d = d ∧ Below w.heap.size w wr
theorem si_new (u d : Pc) : SI [] (new u d) := ⟨LoI.nil _ _ _, LoI.nil _ _ _⟩
theorem setE_ok {s : St} {now hv want : Int} (h : setE s now hv want = 0) : okArg s.last now hv want = true := by
  unfold setE at h; split at h
  · assumption
  · cases h
theorem setE_no {s : St} {now hv want : Int} (h : ¬ setE s now hv want = 0) : okArg s.last now hv want = false ∧ setN s now hv want = 0 ∧ setS s now hv want = s := by
  have ho : okArg s.last now hv want = false := by
    cases ho : okArg s.last now hv want
    · rfl
    · exact absurd (by unfold setE; rw [ho]; rfl) h
  exact ⟨ho, by unfold setN; rw [ho]; rfl, by unfold setS; rw [ho]; rfl⟩
/-- what is known behind a wish -/
theorem pl_next {u d : Pc} {k : Nat} {s : St} {H : List Mo} {now hv want : Int} (hF : Fit s (2 * k)) (hI : SI H s) (hu : s.u = u) (hd : s.d = d) : ∃ H', Fit (setS s now hv want) (2 * (k + 1)) ∧ SI H' (setS s now hv want) ∧ (setS s now hv want).u = u ∧ (setS s now hv want).d = d := by
  have hp := setS_pace s now hv want
  have hf : Fit (setS s now hv want) (2 * (k + 1)) := hF.setS now hv want
  by_cases he : setE s now hv want = 0
  · exact ⟨_, hf, hI.set hF (setE_ok he), hp.1.trans hu, hp.2.trans hd⟩
  · have := (setE_no he).2.2
    exact ⟨H, hf, by rw [this]; exact hI, hp.1.trans hu, hp.2.trans hd⟩

set_option maxHeartbeats 8000000 in
theorem free_law (w : World) (a1 : Option Addr) (len cap : Nat) (X : Nat → Nat → Int) (hle : len ≤ cap) (hX : Frm.RowsIn w a1 len 3 X) :
    Calls Try.prog 3 #[.slice a1 len cap] w fun e w' => e = .returned (.bool true) ∧ Below w.heap.size w w' := by
  have cS := fun w => slow_any w
  have cN := fun w => new_any ⟨0, 0, 0, 0⟩ ⟨0, 0, 5, 0⟩ w
  unfold pcV at cN
  obtain ⟨n, hn⟩ : ∃ n, min 100 len = n := ⟨_, rfl⟩
  have e1 : (if (len : Int) < 100 then (len : Int) else 100) = (n : Int) := by rw [← hn]; split <;> omega
  have hn1 : n ≤ 100 := by omega
  have hn2 : n ≤ len := by omega
  have hn3 : (n : Int) ≤ (cap : Int) := by omega
  clear hn
  go_enter Try.func3, Try.ntmps3
  go_wp2_with (first
    | (go_at_call 6; (with_reducible refine (cS _).mono ?_); rintro e w1 ⟨rfl, hb1⟩)
    | (go_at_call 7; (with_reducible refine (cN _).mono ?_); rintro e w2 ⟨Q, rfl, hA2, hb2⟩))
  have hB2 : Below w.heap.size w w2 := hb1.trans (hb2.mono hb1.size)
  go_loopw [19] (fun i wr => PlR w1.heap.size Q (clP ⟨0, 0, 0, 0⟩) (clP ⟨0, 0, 5, 0⟩) n w i wr) (fun i _ => n - (intOf i).toNat)
  case atStart => exact ⟨0, _, _, [], by omega, rfl, hA2, new_fit _ _, si_new _ _, rfl, rfl, hB2⟩
  case round =>
    clear hA2 hb2 hB2
    obtain ⟨k, V, s, H, hk, rfl, hA, hF, hI, hu, hd, hbw⟩ := hrel
    by_cases hlt : k < n
    · have hlt' : (k : Int) < n := by omega
      obtain ⟨b, off, rfl, hbl, hcell⟩ := (hX.below hbw (Nat.le_refl _)) k (by omega)
      have k0 : wr.cell? ⟨b, off + k * 3, none⟩ = some (.int .i64 (X k 0)) := by have := (hcell 0 (by omega)).1; simpa using this
      have k1 : wr.cell? ⟨b, off + k * 3 + 1, none⟩ = some (.int .i64 (X k 1)) := by have := (hcell 1 (by omega)).1; simpa [Nat.add_assoc] using this
      have k2 : wr.cell? ⟨b, off + k * 3 + 2, none⟩ = some (.int .i64 (X k 2)) := by have := (hcell 2 (by omega)).1; simpa [Nat.add_assoc] using this
      clear hcell
      generalize X k 0 = now at k0
      generalize X k 1 = hv at k1
      generalize X k 2 = want at k2
      have hAW := hA.alloc (.cells #[.int .i64 now, .int .i64 hv, .int .i64 want] 29)
      have hbW : Below w.heap.size w (wr.alloc (.cells #[.int .i64 now, .int .i64 hv, .int .i64 want] 29)) := hbw.alloc hbw.size _
      have hCb : ¬ blk Q V wr.heap.size := fun e => by have := (hA.blt e).2; omega
      have e2c : (wr.alloc (.cells #[.int .i64 now, .int .i64 hv, .int .i64 want] 29)).cell? ⟨wr.heap.size, 2, none⟩ = some (.int .i64 want) := by simp
      obtain ⟨H', hF', hI', hu', hd'⟩ := pl_next (now := now) (hv := hv) (want := want) hF hI hu hd
      obtain ⟨N, hN⟩ : ∃ N, setN s now hv want = N := ⟨_, rfl⟩
      obtain ⟨E, hE⟩ : ∃ E, setE s now hv want = E := ⟨_, rfl⟩
      have hfr : E = 0 → N = want := fun h0 => by
        rw [← hN]
        exact free hI hF (setE_ok (hE.trans h0)) (by rw [hu]; decide) (by rw [hd]; decide) (by rw [hu]; decide) (by rw [hd]; decide)
      have c1 := set_use _ Q V s now hv want (2 * k) _ hAW hF (by omega) hN hE rfl
      have HG : Hid (∀ w3 V', SAt w3 w1.heap.size Q V' (setS s now hv want) → Below w1.heap.size (wr.alloc (.cells #[.int .i64 now, .int .i64 hv, .int .i64 want] 29)) w3 → PlR w1.heap.size Q (clP ⟨0, 0, 0, 0⟩) (clP ⟨0, 0, 5, 0⟩) n w (.int .i64 ((k : Int) + 1)) w3) :=
        fun w3 V' h3 hb3 => ⟨k + 1, V', _, H', by omega, by simp, h3, hF', hI', hu', hd', hbW.trans (hb3.mono hb1.size)⟩
      have HS : Hid (∀ w3 V', Step Q V V' (wr.alloc (.cells #[.int .i64 now, .int .i64 hv, .int .i64 want] 29)) w3 → w3.cell? ⟨wr.heap.size, 2, none⟩ = some (.int .i64 want)) :=
        fun w3 V' h3 => (World.cell?_of_block (a := ⟨wr.heap.size, 2, none⟩) (h3.block wr.heap.size (by simp) hCb)).trans e2c
      clear hA hF hI hu hd hF' hI' hu' hd' hN hE hAW hbW hCb e2c hbw
      by_cases hE0 : E = 0
      · have hN0 := hfr hE0
        subst hE0 hN0
        clear hfr
        go_wp2_with (go_at_call 8; (with_reducible refine c1.mono ?_); rintro e w3 ⟨rfl, V3, hA3, hS3, hb3⟩; have HR : Hid _ := HG.out w3 V3 hA3 hb3; have f2 := HS.out w3 V3 hS3; clear hA3 hS3 hb3)
        go_roundw
        case rel => exact HR.out
        case measure => simp [intOf]; omega
      · have hE1 : (E == 0) = false := by simp [hE0]
        clear hfr
        go_wp2_with (go_at_call 8; (with_reducible refine c1.mono ?_); rintro e w3 ⟨rfl, V3, hA3, hS3, hb3⟩; have HR : Hid _ := HG.out w3 V3 hA3 hb3; have f2 := HS.out w3 V3 hS3; clear hA3 hS3 hb3)
        go_roundw
        case rel => exact HR.out
        case measure => simp [intOf]; omega
    · obtain rfl : k = n := by omega
      go_wp2
      go_ret
      exact ⟨rfl, hbw⟩
end Stb
end Go.Proofs.Ytanlhkokghjadag
