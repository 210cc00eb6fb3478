
/- What a Stable's forget answers. -/
import Derived.Test.YtanlhkokghjadacStbKnow
namespace Go.Proofs.Ytanlhkokghjadac
namespace Stb
open Rw Go.RowKit
set_option maxRecDepth 8000

/-- what a part of forget leaves -/
def FoC (B Q : Nat) (V : Nat → Value) (s : St) (w wx : World) : Prop := ∃ V', SAt wx B Q V' s ∧ Step Q V V' w wx
def SfA (B Q : Nat) (V : Nat → Value) (s : St) (now : Int) (w : World) (e : Ending) (w' : World) : Prop :=
  e = .returned (.tuple #[]) ∧ ∃ V', SAt w' B Q V' (forget s now) ∧ Step Q V V' w w'
theorem grown_refl (w : World) (r : Option Nat) : w.grownBy w r := ⟨rfl, rfl, rfl, Nat.le_refl _, fun _ _ _ => rfl⟩
theorem wrap_sub {x : Int} (h1 : -9223372036854775808 ≤ x) (h2 : x ≤ 9223372036854775807) : IntKind.i64.wrap x = x := by
  rw [IntKind.wrap_i64]; omega
def fg1 (s : St) (now : Int) : St := { s with lo := abv s.lo (now - s.u.w) }
def fg2 (s : St) (now : Int) : St := { s with hi := abv s.hi (now - s.d.w) }
def fg3 (s : St) (now : Int) : St := { s with gr := s.gr.forget (now - s.u.p) }
def fg4 (s : St) (now : Int) : St := { s with sh := s.sh.forget (now - s.d.p) }
theorem fg_all (s : St) (now : Int) : fg4 (fg3 (fg2 (fg1 s now) now) now) now = forget s now := rfl
set_option maxHeartbeats 8000000 in
theorem sforget_any (B Q : Nat) (V : Nat → Value) (s : St) (now : Int) (k : Nat) (w : World) (hA : SAt w B Q V s) (hF : Fit s k) (hk : k ≤ 1000) (h0 : 0 ≤ now) (h1 : now ≤ 1099511627776) :
    Calls Try.prog 13 #[.pointer (some ⟨Q, 0, none⟩), .int .i64 now] w (SfA B Q V s now w) := by
  have l1 := hF.lol
  have l2 := hF.hil
  have uw := hF.u.w
  have up := hF.u.p
  have dw := hF.d.w
  have dp := hF.d.p
  have HFg : Hid (TaOk s.gr k) := hF.gr
  have HFs : Hid (TaOk s.sh k) := hF.sh
  clear hF
  go_enter Try.func13, Try.ntmps13
  go_upto_region 0 with fail
  go_cut [] (fun wx => FoC B Q V (fg1 s now) w wx)
  case first =>
    have c9 := hA.row 0 (by decide)
    have c0 := hA.num 0 (Or.inl (by decide))
    obtain ⟨ao, cap, hv, -⟩ := (hA.own 0 (by decide)).form
    simp only [pos] at c9
    simp only [num] at c0
    rw [hv] at c9
    have HW : Hid (IntKind.i64.wrap (now - s.u.w) = now - s.u.w) := wrap_sub (by omega) (by omega)
    have f := above_any B (V 0) s.lo (IntKind.i64.wrap (now - s.u.w)) w.drew (hA.drew.own 0 (by decide)) (by omega)
    rw [hv] at f
    have HA : Hid (SAt w B Q V (s)) := hA
    have HV : Hid (V 0 = .slice ao (rws (s) 0).length cap) := hv
    have hQ := hA.lt
    have f9 := hA.fz 9
    clear hA hv
    go_region_with (go_at_call 22; (with_reducible refine f.mono ?_); rintro e w2 ⟨v2, rfl, hO2, hb2, h9⟩; have h8 := h9.symm; clear h9; subst h8; rw [HW.out] at hO2; obtain ⟨ao2, cap2, rfl, -⟩ := hO2.form; rw [← HV.out] at hb2; obtain ⟨hA2, hS2, c92, f92⟩ := HA.out.drew.newL rfl (grown_refl _ _) hO2 (Or.inl hb2))
    all_goals
      have HG : Hid (FoC B Q V (fg1 s now) w _) := ⟨_, hA2, (Step.refl Q V w).drew.trans hS2⟩
      clear hA2 hS2
      go_wp2_with fail
      go_meet
      exact HG.out
  case rest =>
    obtain ⟨V1, hA, hS1⟩ := hcut
    have HS1 : Hid (Step Q V V1 w wc) := hS1
    clear hS1
    go_upto_region 1 with fail
    go_cut [] (fun wx => FoC B Q V (fg2 (fg1 s now) now) w wx)
    case first =>
      have c9 := hA.row 1 (by decide)
      have c0 := hA.num 4 (Or.inl (by decide))
      obtain ⟨ao, cap, hv, -⟩ := (hA.own 1 (by decide)).form
      simp only [pos] at c9
      simp only [num, fg1] at c0
      rw [hv] at c9
      have HW : Hid (IntKind.i64.wrap (now - s.d.w) = now - s.d.w) := wrap_sub (by omega) (by omega)
      have f := above_any B (V1 1) s.hi (IntKind.i64.wrap (now - s.d.w)) wc.drew (hA.drew.own 1 (by decide)) (by omega)
      rw [hv] at f
      have HA : Hid (SAt wc B Q V1 (fg1 s now)) := hA
      have HV : Hid (V1 1 = .slice ao (rws (fg1 s now) 1).length cap) := hv
      have hQ := hA.lt
      have f9 := hA.fz 10
      clear hA hv
      go_region_with (go_at_call 22; (with_reducible refine f.mono ?_); rintro e w2 ⟨v2, rfl, hO2, hb2, h9⟩; have h8 := h9.symm; clear h9; subst h8; rw [HW.out] at hO2; obtain ⟨ao2, cap2, rfl, -⟩ := hO2.form; rw [← HV.out] at hb2; obtain ⟨hA2, hS2, c92, f92⟩ := HA.out.drew.newH rfl (grown_refl _ _) hO2 (Or.inl hb2))
      all_goals
        have HG : Hid (FoC B Q V (fg2 (fg1 s now) now) w _) := ⟨_, hA2, (HS1.out).drew.trans hS2⟩
        clear hA2 hS2
        go_wp2_with fail
        go_meet
        exact HG.out
    case rest =>
      obtain ⟨V2, hA, hS2⟩ := hcut
      have HS2 : Hid (Step Q V V2 w wc) := hS2
      clear hS2
      go_upto_region 2 with fail
      go_cut [] (fun wx => FoC B Q V (fg3 (fg2 (fg1 s now) now) now) w wx)
      case first =>
        have c0 := hA.num 3 (Or.inl (by decide))
        simp only [num, fg1, fg2] at c0
        have HW : Hid (IntKind.i64.wrap (now - s.u.p) = now - s.u.p) := wrap_sub (by omega) (by omega)
        have f := forget_any B Q 11 (V2 2) s.gr (IntKind.i64.wrap (now - s.u.p)) k wc.drew (hA.drew.talG) HFg.out hk
        have HA : Hid (SAt wc B Q V2 (fg2 (fg1 s now) now)) := hA
        have hQ := hA.lt
        clear hA
        go_region_with (go_at_call 23; (with_reducible refine f.mono ?_); rintro e w2 ⟨rfl, v2, hT2, hb2, hW2⟩; rw [HW.out] at hT2; obtain ⟨hA2, hS2⟩ := HA.out.drew.newG hT2 (Or.inl hb2) (hW2.any _))
        all_goals
          have HG : Hid (FoC B Q V (fg3 (fg2 (fg1 s now) now) now) w _) := ⟨_, hA2, (HS2.out).drew.trans hS2⟩
          clear hA2 hS2
          go_wp2_with fail
          go_meet
          exact HG.out
      case rest =>
        obtain ⟨V3, hA, hS3⟩ := hcut
        have HS3 : Hid (Step Q V V3 w wc) := hS3
        clear hS3
        go_upto_region 3 with fail
        have c0 := hA.num 7 (Or.inl (by decide))
        simp only [num, fg1, fg2, fg3] at c0
        have HW : Hid (IntKind.i64.wrap (now - s.d.p) = now - s.d.p) := wrap_sub (by omega) (by omega)
        have f := forget_any B Q 13 (V3 3) s.sh (IntKind.i64.wrap (now - s.d.p)) k wc.drew (hA.drew.talS) HFs.out hk
        have HA : Hid (SAt wc B Q V3 (fg3 (fg2 (fg1 s now) now) now)) := hA
        have hQ := hA.lt
        clear hA
        go_region_with (go_at_call 23; (with_reducible refine f.mono ?_); rintro e w2 ⟨rfl, v2, hT2, hb2, hW2⟩; rw [HW.out] at hT2; obtain ⟨hA2, hS2⟩ := HA.out.drew.newS hT2 (Or.inl hb2) (hW2.any _))
        all_goals
          have HG : Hid (SfA B Q V s now w (.returned (.tuple #[])) _) := ⟨rfl, _, hA2, (HS3.out).drew.trans hS2⟩
          clear hA2 hS2
          go_wp2
          go_end0
          exact HG.out
end Stb
end Go.Proofs.Ytanlhkokghjadac
