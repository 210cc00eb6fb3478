
/- What the document's buffer (tideref.Hall) answers: many, Ask, Done. -/
import Derived.Test.YtkflelbpiabcpagRows
import Derived.WalkKit
import Derived.ProofKit
import Derived.Deep.Quiet
import Derived.Deep.QuietTactic
import Derived.Deep.RegionWith
import Derived.Deep.RegionHeld
import Derived.OwnWalk
import Derived.Deep.Onto
import Derived.Test.YtkflelbpiabcpagRecLaws
import Derived.Test.YtkflelbpiabcpagBufPlain
namespace Go.Proofs.Ytkflelbpiabcpag
namespace Buf
open Go.RowKit Rw Rec
set_option maxRecDepth 8000

theorem info_req : (Try.prog.info? 90).map (fun i => (i.zero, i.size, i.bytes)) = some (some (.agg #[.int .i64 0, .int .i64 0, .int .i64 0, .int .i64 0, .int .i64 0]), 5, 40) := by kernel_rfl
theorem info_int : (Try.prog.info? 3).map (fun i => (i.zero, i.size, i.bytes)) = some (some (.int .i64 0), 1, 8) := by kernel_rfl
/-- the document's buffer as it lies -/
def HAt (w : World) (B Q : Nat) (v : Value) (L : List Rq) : Prop := RAt rK w 90 B Q 0 [v] v L
section
variable {w w' : World} {B Q : Nat} {v v' : Value} {L L' : List Rq}
theorem HAt.lt (h : HAt w B Q v L) : Q < w.heap.size := RAt.lt h
theorem HAt.ne (h : HAt w B Q v L) : v.ownBlock ≠ some Q := RAt.ne h
theorem HAt.cV (h : HAt w B Q v L) : w.cell? ⟨Q, 0, none⟩ = some v := RAt.cQ h 0 _ rfl
theorem HAt.fz (h : HAt w B Q v L) : ∀ j, w.frozen? ⟨Q, j, none⟩ = false := RAt.fz h
theorem HAt.rowLt (h : HAt w B Q v L) : ∀ g, v.ownBlock = some g → g < w.heap.size := RAt.rowLt h
theorem HAt.below (h : HAt w B Q v L) (hb : Below w.heap.size w w') : HAt w' B Q v L := RAt.below h hb
theorem HAt.alloc (h : HAt w B Q v L) (o : Obj) : HAt (w.alloc o) B Q v L := RAt.alloc h o
theorem HAt.drew (h : HAt w B Q v L) : HAt w.drew B Q v L := RAt.drew h
theorem HAt.form (h : HAt w B Q v L) : ∃ ao cap, v = .slice ao L.length cap ∧ L.length ≤ cap ∧ cap ≤ maxLen ∧ (0 < L.length → ∃ g, ao = some ⟨g, 0, none⟩) := RAt.form h
theorem HAt.req {g n cap i : Nat} {r : Rq} (h : HAt w B Q (.slice (some ⟨g, 0, none⟩) n cap) L) (hn : n = L.length) (hr : L[i]? = some r) :
    w.cell? ⟨g, i * 5, none⟩ = some (.int .i64 r.id) ∧ w.cell? ⟨g, i * 5 + 1, none⟩ = some (.int .i64 r.src) ∧ w.cell? ⟨g, i * 5 + 2, none⟩ = some (.int .i64 r.til) ∧ w.cell? ⟨g, i * 5 + 3, none⟩ = some (.int .i64 r.fat) ∧ w.cell? ⟨g, i * 5 + 4, none⟩ = some (.int .i64 r.pod) ∧ ∀ j, w.frozen? ⟨g, j, none⟩ = false :=
  ⟨RAt.cells h hn hr 0 _ rfl, RAt.cells h hn hr 1 _ rfl, RAt.cells h hn hr 2 _ rfl, RAt.cells h hn hr 3 _ rfl, RAt.cells h hn hr 4 _ rfl, RAt.fzG h hn⟩
theorem HAt.row {ao : Option Addr} {cap : Nat} (h : HAt w B Q (.slice ao L.length cap) L) : RowAt rK w ao L := RAt.row h
theorem HAt.gQ {g n cap : Nat} (h : HAt w B Q (.slice (some ⟨g, 0, none⟩) n cap) L) : g ≠ Q := fun e => h.ne (by rw [e]; rfl)
theorem HAt.regrown (h : HAt w B Q v L) (hQ : w'.heap[Q]? = w.heap[Q]?) (hown : w'.ownsRow B 90 5 v' L'.length (cels rK.c L')) (hv : v'.ownBlock ≠ some Q) : HAt (w'.setCell ⟨Q, 0, none⟩ v') B Q v' L' := RAt.regrown h hQ hown hv
end
theorem row_req {w : World} {ao : Option Addr} {L : List Rq} (h : RowAt rK w ao L) (hl : 0 < L.length) : ∃ g, ao = some ⟨g, 0, none⟩ ∧ g < w.heap.size ∧ ∀ (i : Nat) (r : Rq), L[i]? = some r → w.cell? ⟨g, i * 5, none⟩ = some (.int .i64 r.id) ∧ w.cell? ⟨g, i * 5 + 1, none⟩ = some (.int .i64 r.src) ∧ w.cell? ⟨g, i * 5 + 2, none⟩ = some (.int .i64 r.til) ∧ w.cell? ⟨g, i * 5 + 3, none⟩ = some (.int .i64 r.fat) ∧ w.cell? ⟨g, i * 5 + 4, none⟩ = some (.int .i64 r.pod) := by
  obtain ⟨g, rfl, hg, hc⟩ := h hl
  exact ⟨g, rfl, hg, fun i m hm => ⟨hc i m hm 0 _ rfl, hc i m hm 1 _ rfl, hc i m hm 2 _ rfl, hc i m hm 3 _ rfl, hc i m hm 4 _ rfl⟩⟩
/-- what a call does to the document's buffer -/
def Doth (f : Nat) (args : Nat → Array Value) (L L' : List Rq) (e : Ending) : Prop :=
  ∀ (B Q : Nat) (v : Value) (w : World), HAt w B Q v L → Calls Try.prog f (args Q) w fun e' w' => e' = e ∧ ∃ v', HAt w' B Q v' L' ∧ Turn Q v v' w w'

def MnR (s f : Int) (L : List Rq) (w : World) (d i : Value) (wr : World) : Prop := ∃ k : Nat, k ≤ L.length ∧ i = .int .i64 k ∧ d = .int .i64 (many s f (L.take k) : Int) ∧ wr = w
end Buf
end Go.Proofs.Ytkflelbpiabcpag
