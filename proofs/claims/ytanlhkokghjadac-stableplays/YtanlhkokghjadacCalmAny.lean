
/- What the document's Settle (tideref.Calm) answers: where as many are wanted as there are; whole. -/
import Derived.Test.YtanlhkokghjadacCalmUp
import Derived.Test.YtanlhkokghjadacCalmDn
namespace Go.Proofs.Ytanlhkokghjadac
namespace Stb
open Rw Go.RowKit Plain Num
set_option maxRecDepth 8000

set_option maxHeartbeats 16000000 in
theorem cset_eq (B D : Nat) (vw vm : Value) (c : Cm) (now want : Int) (k : Nat) (w : World) (hA : CAt w B D vw vm c) (hF : CFit c k) (hk : k ≤ 200) (h1 : c.last ≤ now) (h2 : now ≤ 1099511627776) (h4 : 0 ≤ want ∧ want ≤ 50) :
    Calls Try.prog 7 #[.pointer (some ⟨D, 0, none⟩), .int .i64 now, .int .i64 want, .int .i64 want] w (CeA B D vw vm c now want want w) := by
  obtain ⟨i0, hi, hz0, hz1, hz2⟩ := info_parts info_ma
  have hl0 := hF.last
  have c1 := fun w => rin_yes now c.last 1099511627776 w h1 h2
  have hnl : ¬ want < want := by omega
  have c3 := fun w => rin_yes want 0 50 w h4.1 h4.2
  have hwl := hF.wl
  obtain ⟨ao, cap, rfl, hc1, hc2, hao, -⟩ := hA.oW.form
  obtain ⟨mo, mcap, rfl, hm1, hm2, hmo, -⟩ := hA.oM.form
  have k8 := hA.num 8 (by decide)
  simp only [cnum] at k8
  have f8 := hA.fz 8
  have r9 := hA.rW
  have hQ := hA.lt
  have hB1 : B ≤ w.heap.size := Nat.le_trans hA.bD (Nat.le_of_lt hA.lt)
  obtain ⟨hA1, hS1⟩ := hA.setLast now
  have r91 := hA1.rW
  have hO1 := hA1.oW
  have HA : Hid (CAt w B D (.slice ao c.ws.length cap) (.slice mo c.ms.length mcap) c) := hA
  clear hA hA1 hS1 hF
  go_enter Try.func7, Try.ntmps7
  go_wp2_with (first
    | (go_at_call 16; (with_reducible refine (c1 _).mono ?_); rintro e w2 ⟨rfl, h9⟩; have h8 := h9.symm; clear h9; subst h8)
    | (go_at_call 16; (with_reducible refine (c3 _).mono ?_); rintro e w2 ⟨rfl, h9⟩; have h8 := h9.symm; clear h9; subst h8)
    | (at_builtin; refine wpList_at rfl _ _ 44 rfl B 53 i0 (.agg #[.int .i64 0, .int .i64 0]) 2 16 Try.underlying44 hi hz0 hz1 hz2 rfl _ _ _ rfl (Own.alloc hO1 _) ⟨w.heap.size, 0, none⟩ 1 1 [.int .i64 now, .int .i64 want] rfl rfl (cell_twoN _ _ _ (by simp)) (fun u hu => by simp at hu; rcases hu with rfl | rfl <;> rfl) (by decide) (by unfold maxLen; omega) (by omega) (by simp; omega) ?_; intro v' w3 hown3 hgrow3 hloc3; obtain ⟨ao3, cap3, rfl, -, -, hao3, -⟩ := hown3.form; obtain ⟨g, off, rfl⟩ := hao3 (by omega); clear hao3; obtain ⟨HF, cM3, fM3⟩ := app_w HA.out hown3 hgrow3 hloc3; have j0 := HF.out.1.num 0 (by decide); have j1 := HF.out.1.num 1 (by decide); have j2 := HF.out.1.num 2 (by decide); have j3 := HF.out.1.num 3 (by decide); have j4 := HF.out.1.num 4 (by decide); have j5 := HF.out.1.num 5 (by decide); have j6 := HF.out.1.num 6 (by decide); have j7 := HF.out.1.num 7 (by decide); simp only [cnum] at j0 j1 j2 j3 j4 j5 j6 j7; have hD3 : D < w3.heap.size := (by simpa using HF.out.1.lt)))
  go_ret2
  have ho : okArg c.last now want want = true := okArg_iff.2 ⟨h1, h2, h4.1, h4.2, h4.1, h4.2⟩
  have hcn : cN c now want want = want := by unfold cN; rw [if_pos ho, if_neg (by omega), if_neg (by omega)]
  have hce : cE c now want want = 0 := by unfold cE; rw [if_pos ho]
  have hcs : cS c now want want = ⟨c.u, c.d, now, c.ws ++ [⟨now, want⟩], c.ms⟩ := by unfold cS; rw [if_pos ho, hcn, mov, if_pos (by omega)]
  refine ⟨by rw [hcn, hce]; rfl, _, _, ?_, HF.out.2.trans (CStep.of_below ((Below.refl _ _).alloc (Nat.le_refl _) _))⟩
  rw [hcs]
  exact HF.out.1.alloc _
theorem cset_any (B D : Nat) (vw vm : Value) (c : Cm) (now hv want : Int) (k : Nat) (w : World) (hA : CAt w B D vw vm c) (hF : CFit c k) (hk : k ≤ 200) :
    Calls Try.prog 7 #[.pointer (some ⟨D, 0, none⟩), .int .i64 now, .int .i64 hv, .int .i64 want] w (CeA B D vw vm c now hv want w) := by
  by_cases h : c.last ≤ now ∧ now ≤ 1099511627776 ∧ 0 ≤ hv ∧ hv ≤ 50 ∧ 0 ≤ want ∧ want ≤ 50
  · obtain ⟨a, b, d, e, f, g⟩ := h
    by_cases h1 : hv < want
    · exact cset_up B D vw vm c now hv want k w hA hF hk a b ⟨d, e⟩ ⟨f, g⟩ h1
    · by_cases h2 : want < hv
      · exact cset_dn B D vw vm c now hv want k w hA hF hk a b ⟨d, e⟩ ⟨f, g⟩ h2
      · obtain rfl : hv = want := by omega
        exact cset_eq B D vw vm c now hv k w hA hF hk a b ⟨f, g⟩
  · exact cset_no B D vw vm c now hv want w hA h
end Stb
end Go.Proofs.Ytanlhkokghjadac
