
/- What know answers. -/
import Derived.Test.YtanlhkokghjadacStbAt
import Derived.Deep.DeepCutAuto
namespace Go.Proofs.Ytanlhkokghjadac
namespace Stb
open Rw Go.RowKit
set_option maxRecDepth 8000

/-- what know comes to -/
def KnA (B Q : Nat) (V : Nat → Value) (s : St) (now want : Int) (w : World) (e : Ending) (w' : World) : Prop :=
  e = .returned (.tuple #[]) ∧ ∃ V', SAt w' B Q V' (know s now want) ∧ Step Q V V' w w'

/-- behind the lows -/
def KnC (B Q C : Nat) (V : Nat → Value) (s : St) (now want : Int) (w wx : World) : Prop :=
  ∃ V', SAt wx B Q V' { s with lo := fol (geq want) s.lo ⟨now, want⟩ } ∧ Step Q V V' w wx ∧ wx.cell? ⟨C, 0, none⟩ = some (.int .i64 want) ∧ ¬ blk Q V' C
theorem step_cell {Q C : Nat} {V V' : Nat → Value} {w w' : World} {x : Value} (h : Step Q V V' w w') (hc : w.cell? ⟨C, 0, none⟩ = some x) (hb : ¬ blk Q V C) : w'.cell? ⟨C, 0, none⟩ = some x ∧ ¬ blk Q V' C := by
  have hl := World.block_lt_of_cell? w _ hc
  refine ⟨(World.cell?_of_block (a := ⟨C, 0, none⟩) (h.block C hl hb)).trans hc, fun e => ?_⟩
  rcases h.loc C e with a | a
  · exact hb a
  · simp only at hl; omega
set_option maxHeartbeats 8000000 in
theorem know_any (B Q : Nat) (V : Nat → Value) (s : St) (now want : Int) (k : Nat) (w : World) (hA : SAt w B Q V s) (hF : Fit s k) (hk : k ≤ 1000) (hB : B ≤ w.heap.size) (hl : s.last = now) :
    Calls Try.prog 12 #[.pointer (some ⟨Q, 0, none⟩), .int .i64 now, .int .i64 want] w (KnA B Q V s now want w) := by
  have hlt := hA.lt
  have l1 := hF.lol
  have l2 := hF.hil
  have hA1 := hA.alloc (.cells #[.int .i64 want] 3)
  have hS1 : Step Q V V w (w.alloc (.cells #[.int .i64 want] 3)) := (Step.refl Q V w).alloc _
  have hC1 : (w.alloc (.cells #[.int .i64 want] 3)).cell? ⟨w.heap.size, 0, none⟩ = some (.int .i64 want) := by simp
  have hB1 : B ≤ (w.alloc (.cells #[.int .i64 want] 3)).heap.size := by simp; omega
  have hCb : ¬ blk Q V w.heap.size := fun e => by have := (hA.blt e).2; omega
  have hCl : w.heap.size < (w.alloc (.cells #[.int .i64 want] 3)).heap.size := by simp
  go_enter Try.func12, Try.ntmps12
  go_upto_region 1 with fail
  generalize w.alloc (.cells #[.int .i64 want] 3) = w1 at *
  generalize w.heap.size = C at *
  go_cut [] (fun wx => KnC B Q C V s now want w wx)
  case first =>
    have c9 := hA1.row 0 (by decide)
    obtain ⟨ao, cap, hv, -⟩ := (hA1.own 0 (by decide)).form
    simp only [pos] at c9
    rw [hv] at c9
    have f := fol1_any B C (V 0) s.lo now want want w1.drew (hA1.drew.own 0 (by decide)) (by omega) hB1 hC1
    rw [hv] at f
    have HA1 : Hid (SAt w1 B Q V s) := hA1
    have HV : Hid (V 0 = .slice ao (rws s 0).length cap) := hv
    have hQ1 := hA1.lt
    clear hA1 hA hv
    go_region_with (go_at_call 19; (with_reducible refine f.mono ?_); rintro e w2 ⟨v2, rfl, hO2, hg2, hl2⟩; obtain ⟨ao2, cap2, rfl, -⟩ := hO2.form; rw [← HV.out] at hg2 hl2; obtain ⟨hA2, hS2, c92, f92⟩ := HA1.out.drew.newL rfl hg2 hO2 hl2)
    all_goals
      have hS3 := (hS1.drew).trans hS2
      obtain ⟨hC3, hb3⟩ := step_cell hS2 hC1 hCb
      have HG : Hid (KnC B Q C V s now want w _) := ⟨_, hA2, hS3, hC3, hb3⟩
      clear hA2 hS2 hS3 hC3 hb3
      go_wp2_with fail
      go_meet
      exact HG.out
  case rest =>
    obtain ⟨V1, hA1, hS1, hC1, hCb⟩ := hcut
    have c9 := hA1.row 1 (by decide)
    obtain ⟨ao, cap, hv, -⟩ := (hA1.own 1 (by decide)).form
    simp only [pos] at c9
    rw [hv] at c9
    have hBc : B ≤ wc.drew.heap.size := Nat.le_trans hA1.bQ (Nat.le_of_lt hA1.lt)
    have f := fol2_any B C (V1 1) s.hi now want want wc.drew (hA1.drew.own 1 (by decide)) (by omega) hBc hC1
    rw [hv] at f
    have HA1 : Hid (SAt wc B Q V1 { s with lo := fol (geq want) s.lo ⟨now, want⟩ }) := hA1
    have HV : Hid (V1 1 = .slice ao (rws { s with lo := fol (geq want) s.lo ⟨now, want⟩ } 1).length cap) := hv
    have HS1 : Hid (Step Q V V1 w wc) := hS1
    have hQ1 := hA1.lt
    have HE : Hid (({ ({ s with lo := fol (geq want) s.lo ⟨now, want⟩ } : St) with hi := fol (leq want) s.hi ⟨now, want⟩ } : St) = know s now want) := by unfold Hid know; rw [← hl]
    clear hA1 hA hv hl hS1
    go_wp2_with fail
    go_region_with (go_at_call 19; (with_reducible refine f.mono ?_); rintro e w2 ⟨v2, rfl, hO2, hg2, hl2⟩; obtain ⟨ao2, cap2, rfl, -⟩ := hO2.form; rw [← HV.out] at hg2 hl2; obtain ⟨hA2, hS2, c92, f92⟩ := HA1.out.drew.newH rfl hg2 hO2 hl2)
    all_goals
      have hS3 := (HS1.out.drew).trans hS2
      rw [HE.out] at hA2
      have HG : Hid (KnA B Q V s now want w (.returned (.tuple #[])) _) := ⟨rfl, _, hA2, hS3⟩
      clear hA2 hS2 hS3
      go_wp2
      go_end0
      exact HG.out
end Stb
end Go.Proofs.Ytanlhkokghjadac
