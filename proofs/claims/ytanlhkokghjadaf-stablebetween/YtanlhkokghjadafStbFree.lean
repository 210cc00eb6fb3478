
/- The laws of a Stable that are told without the document's answer: what there is to walk; StableFree, StableBetween. -/
import Derived.Test.YtanlhkokghjadafStbSlow
import Derived.Test.YtanlhkokghjadafStbInv
import Derived.Test.YtanlhkokghjadafFrameSl
namespace Go.Proofs.Ytanlhkokghjadaf
namespace Stb
open Rw Go.RowKit Frm
set_option maxRecDepth 8000

/-- k wishes are settled -/
def PlR (B Q : Nat) (u d : Pc) (n : Nat) (w : World) (i : Value) (wr : World) : Prop :=
  ∃ (k : Nat) (V : Nat → Value) (s : St) (H : List Mo), k ≤ n ∧ i = .int .i64 k ∧ SAt wr B Q V s ∧ Fit s (2 * k) ∧ SI H s ∧ s.u = u ∧ s.d = d ∧ Below w.heap.size w wr
theorem si_new (u d : Pc) : SI [] (new u d) := ⟨LoI.nil _ _ _, LoI.nil _ _ _⟩
theorem setE_ok {s : St} {now hv want : Int} (h : setE s now hv want = 0) : okArg s.last now hv want = true := by
  unfold setE at h; split at h
  · assumption
  · cases h
theorem setE_no {s : St} {now hv want : Int} (h : ¬ setE s now hv want = 0) : okArg s.last now hv want = false ∧ setN s now hv want = 0 ∧ setS s now hv want = s := by
  have ho : okArg s.last now hv want = false := by
    cases ho : okArg s.last now hv want
    · rfl
    · exact absurd (by unfold setE; rw [ho]; rfl) h
  exact ⟨ho, by unfold setN; rw [ho]; rfl, by unfold setS; rw [ho]; rfl⟩
/-- what is known behind a wish -/
theorem pl_next {u d : Pc} {k : Nat} {s : St} {H : List Mo} {now hv want : Int} (hF : Fit s (2 * k)) (hI : SI H s) (hu : s.u = u) (hd : s.d = d) : ∃ H', Fit (setS s now hv want) (2 * (k + 1)) ∧ SI H' (setS s now hv want) ∧ (setS s now hv want).u = u ∧ (setS s now hv want).d = d := by
  have hp := setS_pace s now hv want
  have hf : Fit (setS s now hv want) (2 * (k + 1)) := hF.setS now hv want
  by_cases he : setE s now hv want = 0
  · exact ⟨_, hf, hI.set hF (setE_ok he), hp.1.trans hu, hp.2.trans hd⟩
  · have := (setE_no he).2.2
    exact ⟨H, hf, by rw [this]; exact hI, hp.1.trans hu, hp.2.trans hd⟩

end Stb
end Go.Proofs.Ytanlhkokghjadaf
