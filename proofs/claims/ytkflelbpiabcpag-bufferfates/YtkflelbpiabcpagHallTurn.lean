
/- What the document's buffer (tideref.Hall) answers: Late, Lost. -/
import Derived.Test.YtkflelbpiabcpagHallAsk
namespace Go.Proofs.Ytkflelbpiabcpag
namespace Buf
open Go.RowKit Rw Rec
set_option maxRecDepth 8000

theorem cell_u (w : World) (e : TypeId) (a : Value) (N : Nat) (hN : N = w.heap.size) : ∀ (j : Nat) (u : Value), [a][j]? = some u → (w.alloc (.cells #[a] e)).cell? ((⟨N, 0, none⟩ : Addr).add j) = some u := by
  subst hN
  intro j u h
  match j, h with
  | 0, h => simp at h; subst h; simp [Addr.add]
  | j + 1, h => simp at h
/-- k requests are looked at: their fates, and the numbers told -/
def TuR (p : Rq → Bool) (f : Int) (L : List Rq) (B Q : Nat) (v : Value) (w : World) (o i : Value) (wr : World) : Prop :=
  ∃ k : Nat, k ≤ L.length ∧ i = .int .i64 k ∧ HAt wr B Q v (halfL p f L k) ∧ Turn Q v v w wr ∧ wr.ownsRow w.heap.size 3 1 o (turnI p (L.take k)).length (cels iK.c (turnI p (L.take k)))
/-- the state ahead of a request -/
structure TuS (p : Rq → Bool) (f : Int) (L : List Rq) (B Q : Nat) (v : Value) (w : World) (k : Nat) (r : Rq) (o : Value) (wr : World) : Prop where
  lt : k < L.length
  hr : L[k]? = some r
  num : r.id = (k : Int) + 1
  hA : HAt wr B Q v (halfL p f L k)
  hT : Turn Q v v w wr
  own : wr.ownsRow w.heap.size 3 1 o (turnI p (L.take k)).length (cels iK.c (turnI p (L.take k)))
  qw : Q < w.heap.size
  gw : ∀ g, v.ownBlock = some g → g < w.heap.size
section
variable {p : Rq → Bool} {f : Int} {L : List Rq} {B Q g n cap k : Nat} {w wr w3 : World} {r : Rq} {o o' : Value} {ob : Obj}
theorem TuS.no {v : Value} (h : TuS p f L B Q v w k r o wr) (hp : p r = false) : TuR p f L B Q v w o (.int .i64 ((k + 1 : Nat) : Int)) wr := by
  have e1 : turnI p (L.take (k + 1)) = turnI p (L.take k) := by rw [turnI_step h.hr, hp]; simp
  exact ⟨k + 1, h.lt, rfl, by rw [← halfL_same h.hr hp]; exact h.hA, h.hT, by rw [e1]; exact h.own⟩
theorem TuS.store {N0 : Nat} {C0 : List Value} (h : TuS p f L B Q (.slice (some ⟨g, 0, none⟩) n cap) w k r o wr) (ho : wr.ownsRow w.heap.size 3 1 o N0 C0) {j : Nat} {u : Value} : (wr.setCell ⟨g, j, none⟩ u).ownsRow w.heap.size 3 1 o N0 C0 := by
  refine owns_block ho (fun b hb => Below.heap_setCell wr _ _ b (fun e => ?_))
  have h1 := (ho.lt b hb).1
  have h2 := h.gw g rfl
  simp only at e
  omega
theorem TuS.yes (h : TuS p f L B Q (.slice (some ⟨g, 0, none⟩) L.length cap) w k r o wr) (hp : p r = true)
    (hown3 : w3.ownsRow w.heap.size 3 1 o' ((turnI p (L.take k)).length + 1) (cels iK.c (turnI p (L.take k)) ++ [.int .i64 ((k : Int) + 1)]))
    (hg : ((wr.setCell ⟨g, k * 5 + 3, none⟩ (.int .i64 f)).alloc ob).grownBy w3 o.ownBlock) : TuR p f L B Q (.slice (some ⟨g, 0, none⟩) L.length cap) w o' (.int .i64 ((k + 1 : Nat) : Int)) w3 := by
  have e1 : turnI p (L.take (k + 1)) = turnI p (L.take k) ++ [(k : Int) + 1] := by rw [turnI_step h.hr, hp, h.num]; rfl
  have hA2 : HAt (wr.setCell ⟨g, k * 5 + 3, none⟩ (.int .i64 f)) B Q (.slice (some ⟨g, 0, none⟩) L.length cap) (halfL p f L (k + 1)) := by
    rw [← halfL_step h.hr]
    have e2 : turnF p f r = ⟨r.id, r.src, r.til, f, r.pod⟩ := by unfold turnF; rw [hp]; rfl
    rw [e2]
    exact RAt.put (j := 3) h.hA (halfL_len _ _ _ _).symm (halfL_get h.hr) (by decide) rfl
  have hA3 := hA2.alloc ob
  have hbo : ∀ b, o.ownBlock = some b → w.heap.size ≤ b := fun b hb => (h.own.lt b hb).1
  have hT2 := (h.hT.trans (Turn.setG (k * 5 + 3) (.int .i64 f))).alloc ob
  have hqw := h.qw
  refine ⟨k + 1, h.lt, rfl, RAt.kept hA3 (hg.block Q hA3.lt (fun e => by have := hbo Q e.symm; omega)) (fun b hb => hg.block b (hA3.rowLt b hb) (fun e => by have := hbo b e.symm; have := h.gw b hb; omega)), ?_, ?_⟩
  · refine ⟨hg.os.trans hT2.os, hg.tape.trans hT2.tape, hg.output.trans hT2.output, Nat.le_trans hT2.size hg.size, fun b hb h1 h2 => ?_, fun b hb => Or.inl hb⟩
    exact (hg.block b (Nat.lt_of_lt_of_le hb hT2.size) (fun e => by have := hbo b e.symm; omega)).trans (hT2.block b hb h1 h2)
  · rw [e1, List.length_append, cels_append]
    exact hown3
end

end Buf
end Go.Proofs.Ytkflelbpiabcpag
