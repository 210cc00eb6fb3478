
/- What the document's buffer (tideref.Hall) answers: many, Ask, Done. -/
import Derived.Test.YtkflelbpiabcpacRows
import Derived.WalkKit
import Derived.ProofKit
import Derived.Deep.Quiet
import Derived.Deep.QuietTactic
import Derived.Deep.RegionWith
import Derived.Deep.RegionHeld
import Derived.OwnWalk
import Derived.Deep.Onto
import Derived.Test.YtkflelbpiabcpacRecLaws
import Derived.Test.YtkflelbpiabcpacBufPlain
namespace Go.Proofs.Ytkflelbpiabcpac
namespace Buf
open Go.RowKit Rw Rec
set_option maxRecDepth 8000

theorem info_req : (Try.prog.info? 73).map (fun i => (i.zero, i.size, i.bytes)) = some (some (.agg #[.int .i64 0, .int .i64 0, .int .i64 0, .int .i64 0, .int .i64 0]), 5, 40) := by kernel_rfl
theorem info_int : (Try.prog.info? 3).map (fun i => (i.zero, i.size, i.bytes)) = some (some (.int .i64 0), 1, 8) := by kernel_rfl
/-- the document's buffer as it lies -/
def HAt (w : World) (B Q : Nat) (v : Value) (L : List Rq) : Prop := RAt rK w 73 B Q 0 [v] v L
section
variable {w w' : World} {B Q : Nat} {v v' : Value} {L L' : List Rq}
theorem HAt.lt (h : HAt w B Q v L) : Q < w.heap.size := RAt.lt h
theorem HAt.ne (h : HAt w B Q v L) : v.ownBlock ≠ some Q := RAt.ne h
theorem HAt.cV (h : HAt w B Q v L) : w.cell? ⟨Q, 0, none⟩ = some v := RAt.cQ h 0 _ rfl
theorem HAt.fz (h : HAt w B Q v L) : ∀ j, w.frozen? ⟨Q, j, none⟩ = false := RAt.fz h
theorem HAt.rowLt (h : HAt w B Q v L) : ∀ g, v.ownBlock = some g → g < w.heap.size := RAt.rowLt h
theorem HAt.below (h : HAt w B Q v L) (hb : Below w.heap.size w w') : HAt w' B Q v L := RAt.below h hb
theorem HAt.alloc (h : HAt w B Q v L) (o : Obj) : HAt (w.alloc o) B Q v L := RAt.alloc h o
theorem HAt.drew (h : HAt w B Q v L) : HAt w.drew B Q v L := RAt.drew h
theorem HAt.form (h : HAt w B Q v L) : ∃ ao cap, v = .slice ao L.length cap ∧ L.length ≤ cap ∧ cap ≤ maxLen ∧ (0 < L.length → ∃ g, ao = some ⟨g, 0, none⟩) := RAt.form h
theorem HAt.req {g n cap i : Nat} {r : Rq} (h : HAt w B Q (.slice (some ⟨g, 0, none⟩) n cap) L) (hn : n = L.length) (hr : L[i]? = some r) :
    w.cell? ⟨g, i * 5, none⟩ = some (.int .i64 r.id) ∧ w.cell? ⟨g, i * 5 + 1, none⟩ = some (.int .i64 r.src) ∧ w.cell? ⟨g, i * 5 + 2, none⟩ = some (.int .i64 r.til) ∧ w.cell? ⟨g, i * 5 + 3, none⟩ = some (.int .i64 r.fat) ∧ w.cell? ⟨g, i * 5 + 4, none⟩ = some (.int .i64 r.pod) ∧ ∀ j, w.frozen? ⟨g, j, none⟩ = false :=
  ⟨RAt.cells h hn hr 0 _ rfl, RAt.cells h hn hr 1 _ rfl, RAt.cells h hn hr 2 _ rfl, RAt.cells h hn hr 3 _ rfl, RAt.cells h hn hr 4 _ rfl, RAt.fzG h hn⟩
theorem HAt.row {ao : Option Addr} {cap : Nat} (h : HAt w B Q (.slice ao L.length cap) L) : RowAt rK w ao L := RAt.row h
theorem HAt.gQ {g n cap : Nat} (h : HAt w B Q (.slice (some ⟨g, 0, none⟩) n cap) L) : g ≠ Q := fun e => h.ne (by rw [e]; rfl)
theorem HAt.regrown (h : HAt w B Q v L) (hQ : w'.heap[Q]? = w.heap[Q]?) (hown : w'.ownsRow B 73 5 v' L'.length (cels rK.c L')) (hv : v'.ownBlock ≠ some Q) : HAt (w'.setCell ⟨Q, 0, none⟩ v') B Q v' L' := RAt.regrown h hQ hown hv
end
theorem row_req {w : World} {ao : Option Addr} {L : List Rq} (h : RowAt rK w ao L) (hl : 0 < L.length) : ∃ g, ao = some ⟨g, 0, none⟩ ∧ g < w.heap.size ∧ ∀ (i : Nat) (r : Rq), L[i]? = some r → w.cell? ⟨g, i * 5, none⟩ = some (.int .i64 r.id) ∧ w.cell? ⟨g, i * 5 + 1, none⟩ = some (.int .i64 r.src) ∧ w.cell? ⟨g, i * 5 + 2, none⟩ = some (.int .i64 r.til) ∧ w.cell? ⟨g, i * 5 + 3, none⟩ = some (.int .i64 r.fat) ∧ w.cell? ⟨g, i * 5 + 4, none⟩ = some (.int .i64 r.pod) := by
  obtain ⟨g, rfl, hg, hc⟩ := h hl
  exact ⟨g, rfl, hg, fun i m hm => ⟨hc i m hm 0 _ rfl, hc i m hm 1 _ rfl, hc i m hm 2 _ rfl, hc i m hm 3 _ rfl, hc i m hm 4 _ rfl⟩⟩
/-- what a call does to the document's buffer -/
def Doth (f : Nat) (args : Nat → Array Value) (L L' : List Rq) (e : Ending) : Prop :=
  ∀ (B Q : Nat) (v : Value) (w : World), HAt w B Q v L → Calls Try.prog f (args Q) w fun e' w' => e' = e ∧ ∃ v', HAt w' B Q v' L' ∧ Turn Q v v' w w'

theorem rin_yes (n lo hi : Int) (w : World) (h1 : lo ≤ n) (h2 : n ≤ hi) :
    Calls Try.prog 51 #[.int .i64 n, .int .i64 lo, .int .i64 hi] w fun e w' => e = .returned (.bool true) ∧ w' = w := by
  have d1 : decide (lo ≤ n) = true := by simp [h1]
  have d2 : decide (n ≤ hi) = true := by simp [h2]
  go_enter Try.func51, Try.ntmps51
  go_wp2
  go_ret
  exact ⟨rfl, rfl⟩
theorem rin_no (n lo hi : Int) (w : World) (h : ¬ (lo ≤ n ∧ n ≤ hi)) :
    Calls Try.prog 51 #[.int .i64 n, .int .i64 lo, .int .i64 hi] w fun e w' => e = .returned (.bool false) ∧ w' = w := by
  by_cases h1 : lo ≤ n
  · have d1 : decide (lo ≤ n) = true := by simp [h1]
    have d2 : decide (n ≤ hi) = false := by simp; omega
    clear h
    go_enter Try.func51, Try.ntmps51
    go_wp2
    go_ret
    exact ⟨rfl, rfl⟩
  · have d1 : decide (lo ≤ n) = false := by simp; omega
    clear h
    go_enter Try.func51, Try.ntmps51
    go_wp2
    go_ret
    exact ⟨rfl, rfl⟩

def MnR (s f : Int) (L : List Rq) (w : World) (d i : Value) (wr : World) : Prop := ∃ k : Nat, k ≤ L.length ∧ i = .int .i64 k ∧ d = .int .i64 (many s f (L.take k) : Int) ∧ wr = w
set_option maxHeartbeats 2000000 in
theorem hmany_any (B Q : Nat) (v : Value) (L : List Rq) (s f : Int) (w : World) (hA : HAt w B Q v L) (hL : L.length ≤ 200) :
    Calls Try.prog 67 #[.pointer (some ⟨Q, 0, none⟩), .int .i64 s, .int .i64 f] w fun e w' => e = .returned (.int .i64 (many s f L : Int)) ∧ w' = w := by
  obtain ⟨ao, cap, rfl, hc1, hc2, hao⟩ := hA.form
  have cV := hA.cV
  go_enter Try.func67, Try.ntmps67
  go_wp2
  go_loopw [7, 8] (fun d i wr => MnR s f L w d i wr) (fun _ i _ => L.length - (intOf i).toNat)
  case atStart => exact ⟨0, by omega, rfl, by simp [many], rfl⟩
  case round =>
    obtain ⟨k, hk, rfl, rfl, hwr⟩ := hrel
    subst hwr
    by_cases hlt : k < L.length
    · have hlt' : (k : Int) < (L.length : Int) := by omega
      obtain ⟨g, rfl⟩ := hao (by omega)
      obtain ⟨r, hr⟩ : ∃ r, L[k]? = some r := ⟨L[k], by simp [hlt]⟩
      obtain ⟨d0, d1, d2, d3, d4, fz⟩ := hA.req rfl hr
      have hs := many_step (s := s) (f := f) hr
      have hd : many s f (L.take k) ≤ 200 := Nat.le_trans (many_le _ _ _) (by rw [List.length_take]; omega)
      unfold isOf at hs
      clear hA fz hr
      cases h1 : (s == -1)
      · cases h2 : (r.src == s)
        · rw [h1, h2] at hs
          simp only [Bool.false_or, Bool.false_and, Bool.false_eq_true, if_false, Nat.add_zero] at hs
          go_wp2
          go_roundw
          case rel => exact ⟨k + 1, by omega, rfl, by rw [hs], rfl⟩
          case measure => simp [intOf]; omega
        · cases h3 : (r.fat == f)
          · rw [h1, h2, h3] at hs
            simp only [Bool.and_false, Bool.false_eq_true, if_false, Nat.add_zero] at hs
            go_wp2
            go_roundw
            case rel => exact ⟨k + 1, by omega, rfl, by rw [hs], rfl⟩
            case measure => simp [intOf]; omega
          · rw [h1, h2, h3] at hs
            simp only [Bool.or_true, Bool.and_self, if_true] at hs
            go_wp2
            go_roundw
            case rel => exact ⟨k + 1, by omega, rfl, by rw [hs]; simp, rfl⟩
            case measure => simp [intOf]; omega
      · cases h3 : (r.fat == f)
        · rw [h1, h3] at hs
          simp only [Bool.and_false, Bool.false_eq_true, if_false, Nat.add_zero] at hs
          go_wp2
          go_roundw
          case rel => exact ⟨k + 1, by omega, rfl, by rw [hs], rfl⟩
          case measure => simp [intOf]; omega
        · rw [h1, h3] at hs
          simp only [Bool.true_or, Bool.and_self, if_true] at hs
          go_wp2
          go_roundw
          case rel => exact ⟨k + 1, by omega, rfl, by rw [hs]; simp, rfl⟩
          case measure => simp [intOf]; omega
    · obtain rfl : k = L.length := by omega
      go_wp2
      go_ret
      exact ⟨by rw [List.take_length]; rfl, rfl⟩
end Buf
end Go.Proofs.Ytkflelbpiabcpac
