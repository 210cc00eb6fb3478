
/- What a trigger's reading needs: plain mathematics. No program in sight. -/
import Derived.Test.YtcaobnmfgnbolafDoorNumPlain
namespace Go.Proofs.YtcaobnmfgnbolafDoor
namespace Ned
open Plain

/-- the sum of the first k lags, each as 0, if it is below 0 -/
def sumF (X : Nat → Int) : Nat → Int
  | 0 => 0
  | k + 1 => clip (clip (sumF X k) + clip (atz (X k)))
/-- how many of the first k lags are above 0 -/
def cntF (X : Nat → Int) : Nat → Nat
  | 0 => 0
  | k + 1 => if 0 < X k then cntF X k + 1 else cntF X k
/-- the METRIC -/
def metF (k : Int) (len : Nat) (X : Nat → Int) : Int := if k = 1 then sumF X len else if len = 0 then 0 else atz (X 0)
/-- the pods that are needed -/
def podF (k tg : Int) (len : Nat) (X : Nat → Int) : Int :=
  if k = 1 then min (up (clip (metF k len X)) (clip tg)) (cntF X len : Int) else up (clip (metF k len X)) (clip tg)
/-- is the METRIC within the tolerance? -/
def nearF (m tk tol : Int) : Bool := decide (max (m - tk) (tk - m) ≤ share (atz (clip tk)) (atz (clip tol)))

theorem sumF_bd (X : Nat → Int) (k : Nat) : 0 ≤ sumF X k ∧ sumF X k ≤ 1000000000000000 := by
  induction k with
  | zero => simp [sumF]
  | succ k ih =>
    have h1 := clip_bd (clip (sumF X k) + clip (atz (X k)))
    refine ⟨?_, h1.2⟩
    have h2 : 0 ≤ clip (sumF X k) := by rw [clip_in (by omega) (by omega)]; omega
    have h3 : 0 ≤ clip (atz (X k)) := by unfold clip atz; repeat (first | omega | split)
    show 0 ≤ clip (clip (sumF X k) + clip (atz (X k)))
    have h4 : 0 ≤ clip (sumF X k) + clip (atz (X k)) := by omega
    generalize clip (sumF X k) + clip (atz (X k)) = s at h4
    clear h1 h2 h3
    unfold clip; repeat (first | omega | split)
theorem atz_mono {a b : Int} (h : a ≤ b) : atz a ≤ atz b := by unfold atz; repeat (first | omega | split)
theorem atz_ge (a : Int) : 0 ≤ atz a := by unfold atz; split <;> omega
theorem sumF_mono {X Y : Nat → Int} (h : ∀ i, X i ≤ Y i) (k : Nat) : sumF X k ≤ sumF Y k := by
  induction k with
  | zero => simp [sumF]
  | succ k ih => exact clip_mono (by have := clip_mono ih; have := clip_mono (atz_mono (h k)); omega)
theorem cntF_mono {X Y : Nat → Int} (h : ∀ i, X i ≤ Y i) (k : Nat) : cntF X k ≤ cntF Y k := by
  induction k with
  | zero => simp [cntF]
  | succ k ih =>
    have := h k
    unfold cntF; split <;> split <;> omega
theorem cntF_le (X : Nat → Int) (k : Nat) : cntF X k ≤ k := by
  induction k with
  | zero => simp [cntF]
  | succ k ih => unfold cntF; split <;> omega
theorem metF_ge (k : Int) (len : Nat) (X : Nat → Int) : 0 ≤ metF k len X := by
  unfold metF
  split
  · exact (sumF_bd X len).1
  · split
    · omega
    · exact atz_ge _
theorem metF_bd (k : Int) (len : Nat) (X : Nat → Int) (hX : ∀ i, i < len → X i ≤ 9223372036854775807) : metF k len X ≤ 9223372036854775807 := by
  unfold metF
  split
  · have := sumF_bd X len; omega
  · split
    · omega
    · have := hX 0 (by omega); unfold atz; split <;> omega
theorem metF_mono (k : Int) (len : Nat) {X Y : Nat → Int} (h : ∀ i, X i ≤ Y i) : metF k len X ≤ metF k len Y := by
  unfold metF
  split
  · exact sumF_mono h len
  · split
    · omega
    · exact atz_mono (h 0)
theorem up_mono {a b c : Int} (hc : 1 ≤ c) (h : a ≤ b) : up a c ≤ up b c := by
  have h1 := up_ok a c hc
  have h2 := up_ok b c hc
  rcases Int.lt_or_le (up b c) (up a c) with g | g
  · have : up b c * c ≤ (up a c - 1) * c := Int.mul_le_mul_of_nonneg_right (by omega) (by omega)
    omega
  · exact g
theorem up_ge {a c : Int} (hc : 1 ≤ c) (h : 0 ≤ a) : 0 ≤ up a c := by
  have h1 := up_ok a c hc
  rcases Int.lt_or_le (up a c) 0 with g | g
  · have : up a c * c ≤ (-1) * c := Int.mul_le_mul_of_nonneg_right (by omega) (by omega)
    omega
  · exact g
theorem clip_ge {a : Int} (h : 0 ≤ a) : 0 ≤ clip a := by unfold clip; repeat (first | omega | split)
theorem clip_pos {a : Int} (h : 1 ≤ a) : 1 ≤ clip a := by unfold clip; repeat (first | omega | split)
theorem podF_ge (k tg : Int) (len : Nat) (X : Nat → Int) (h : 1 ≤ tg) : 0 ≤ podF k tg len X := by
  have := up_ge (clip_pos h) (clip_ge (metF_ge k len X))
  unfold podF
  split
  · omega
  · exact this
theorem podF_mono (k tg : Int) (len : Nat) {X Y : Nat → Int} (ht : 1 ≤ tg) (h : ∀ i, X i ≤ Y i) : podF k tg len X ≤ podF k tg len Y := by
  have h1 := up_mono (clip_pos ht) (clip_mono (metF_mono k len h))
  have h2 := cntF_mono h len
  unfold podF
  split
  · omega
  · exact h1
theorem share_mono {A M N : Int} (hA : 0 ≤ A) (h : M ≤ N) : share A M ≤ share A N := by
  unfold share
  refine clip_mono ?_
  have := Int.mul_le_mul_of_nonneg_left h hA
  omega
theorem near_all {m tk tol : Int} (h : tol ≤ 1000) (hn : nearF m tk tol = true) : nearF m tk 1000 = true := by
  unfold nearF at hn ⊢
  simp only [decide_eq_true_eq] at hn ⊢
  exact Int.le_trans hn (share_mono (atz_ge _) (atz_mono (clip_mono h)))
/-- what is wanted, where there are pods -/
def wantF (now tol k tg : Int) (len : Nat) (X : Nat → Int) : Int :=
  if now ≠ 0 ∧ nearF (metF k len X) (mulc (clip now) (clip tg)) tol = true then now else podF k tg len X
theorem stays {now tol k tg : Int} {len : Nat} {X : Nat → Int} (h : tol ≤ 1000) :
    (wantF now tol k tg len X = now ∨ wantF now tol k tg len X = podF k tg len X) ∧ (wantF now 1000 k tg len X = now ∨ wantF now 1000 k tg len X = podF k tg len X) ∧
    (wantF now tol k tg len X ≠ now ∨ now = 0 ∨ wantF now 1000 k tg len X = now ∨ podF k tg len X = now) := by
  unfold wantF
  by_cases h0 : now = 0
  · simp [h0]
  · by_cases h1 : nearF (metF k len X) (mulc (clip now) (clip tg)) tol = true
    · have h2 := near_all h h1
      simp [h0, h1, h2]
    · by_cases h2 : nearF (metF k len X) (mulc (clip now) (clip tg)) 1000 = true
      · simp [h0, h1, h2]
      · simp [h0, h1, h2]
        by_cases h3 : podF k tg len X = now
        · exact Or.inr h3
        · exact Or.inl h3
end Ned
end Go.Proofs.YtcaobnmfgnbolafDoor
