
/- What the document's buffer (tideref.Hall) answers: Ask, Done, Next. -/
import Derived.Test.YtkflelbpiabcpagHallWalks
namespace Go.Proofs.Ytkflelbpiabcpag
namespace Buf
open Go.RowKit Rw Rec
set_option maxRecDepth 8000

theorem cell_five (w : World) (e : TypeId) (a b c d f : Value) : ∀ (j : Nat) (u : Value), [a, b, c, d, f][j]? = some u → (w.alloc (.cells #[a, b, c, d, f] e)).cell? ((⟨w.heap.size, 0, none⟩ : Addr).add j) = some u := by
  intro j u h
  match j, h with
  | 0, h => simp at h; subst h; simp [Addr.add]
  | 1, h => simp at h; subst h; simp [Addr.add]
  | 2, h => simp at h; subst h; simp [Addr.add]
  | 3, h => simp at h; subst h; simp [Addr.add]
  | 4, h => simp at h; subst h; simp [Addr.add]
  | j + 5, h => simp at h
def NxR (L : List Rq) (w : World) (i : Value) (wr : World) : Prop :=
  ∃ k : Nat, k ≤ L.length ∧ i = .int .i64 k ∧ (∀ j, j < k → ∀ x, L[j]? = some x → mayRun L x = false) ∧ wr = w
theorem nx_step {p : Rq → Bool} {L : List Rq} {k : Nat} {m : Rq} (h : ∀ j, j < k → ∀ x, L[j]? = some x → p x = false) (hm : L[k]? = some m) (hp : p m = false) : ∀ j, j < k + 1 → ∀ x, L[j]? = some x → p x = false := by
  intro j hj x hx
  by_cases e : j = k
  · subst e; rw [hm] at hx; cases hx; exact hp
  · exact h j (by omega) x hx
end Buf
end Go.Proofs.Ytkflelbpiabcpag
