/- What each function of package queue answers: slices.IndexFunc, New, Lease. -/
import Derived.Test.YtbfnjjdgiihngafQueWalks
namespace Go.Proofs.Ytbfnjjdgiihngaf
namespace Que
open Go.RowKit
set_option maxRecDepth 8000

/-- a slice of messages as it lies -/
def RowAt (w : World) (ao : Option Addr) (L : List M) : Prop :=
  0 < L.length → ∃ g, ao = some ⟨g, 0, none⟩ ∧ g < w.heap.size ∧ ∀ i m, L[i]? = some m → w.cell? ⟨g, i * 3, none⟩ = some (.int .i64 m.id) ∧ w.cell? ⟨g, i * 3 + 1, none⟩ = some (.int .i64 m.till) ∧ w.cell? ⟨g, i * 3 + 2, none⟩ = some (.bool m.tk)
theorem RowAt.below {w w' : World} {ao : Option Addr} {L : List M} (h : RowAt w ao L) (hb : Below w.heap.size w w') : RowAt w' ao L := by
  intro hl
  obtain ⟨g, rfl, hg, hc⟩ := h hl
  refine ⟨g, rfl, Nat.lt_of_lt_of_le hg hb.size, fun i m hm => ?_⟩
  obtain ⟨a, b, c⟩ := hc i m hm
  exact ⟨(hb.cell (p := ⟨g, i * 3, none⟩) hg).trans a, (hb.cell (p := ⟨g, i * 3 + 1, none⟩) hg).trans b, (hb.cell (p := ⟨g, i * 3 + 2, none⟩) hg).trans c⟩
theorem QAt.row {w : World} {e : TypeId} {B Q oN oS : Nat} {last : Int} {ao : Option Addr} {cap : Nat} {L : List M} (h : QAt w e B Q oN oS last (.slice ao L.length cap) L) : RowAt w ao L := by
  intro hl
  obtain ⟨ao', cap', he, _, _, hg⟩ := h.form
  cases he
  obtain ⟨g, rfl⟩ := hg hl
  refine ⟨g, rfl, h.rowLt g rfl, fun i m hm => ?_⟩
  obtain ⟨a, b, c, _⟩ := h.cells rfl hm
  exact ⟨a, b, c⟩

def IxR (p : M → Bool) (L : List M) (w : World) (i : Value) (wr : World) : Prop :=
  ∃ k : Nat, k ≤ L.length ∧ i = .int .i64 k ∧ (∀ j, j < k → ∀ x, L[j]? = some x → p x = false) ∧ Below w.heap.size w wr
theorem ix_step {p : M → Bool} {L : List M} {k : Nat} {m : M} (h : ∀ j, j < k → ∀ x, L[j]? = some x → p x = false) (hm : L[k]? = some m) (hp : p m = false) : ∀ j, j < k + 1 → ∀ x, L[j]? = some x → p x = false := by
  intro j hj x hx
  by_cases e : j = k
  · subst e; rw [hm] at hx; cases hx; exact hp
  · exact h j (by omega) x hx

set_option maxHeartbeats 4000000 in
theorem index_free (ao : Option Addr) (cap : Nat) (L : List M) (w : World) (hR : RowAt w ao L) (hL : L.length ≤ 200) :
    Calls Try.prog 20 #[.slice ao L.length cap, .func (.func 21) #[] #[]] w fun e w' => e = .returned (.int .i64 (idxV (L.findIdx? free))) ∧ Below w.heap.size w w' := by
  go_enter Try.func20, Try.ntmps20
  go_wp2
  go_loopw [8] (fun i wr => IxR free L w i wr) (fun i _ => L.length - (intOf i).toNat)
  case atStart => exact ⟨0, by omega, rfl, fun j hj => absurd hj (by omega), Below.refl _ _⟩
  case round =>
    obtain ⟨k, hk, rfl, hno, hb⟩ := hrel
    by_cases hlt : k < L.length
    · have hlt' : (k : Int) < (L.length : Int) := by omega
      obtain ⟨g, rfl, hg, hc⟩ := hR.below hb (by omega)
      obtain ⟨m, hm⟩ : ∃ m, L[k]? = some m := ⟨L[k], by simp [hlt]⟩
      obtain ⟨c0, c1, c2⟩ := hc k m hm
      clear hc
      cases hp : free m
      · have hs := ix_step hno hm hp
        go_wp2_with (go_at_call 21; refine (waits_any m _).mono ?_; rw [hp]; rintro e w2 ⟨rfl, hb2⟩)
        go_roundw
        case rel => exact ⟨k + 1, by omega, rfl, hs, hb.trans (hb2.mono hb.size)⟩
        case measure => simp [intOf]; omega
      · have hf := find_at hno hm hp
        go_wp2_with (go_at_call 21; refine (waits_any m _).mono ?_; rw [hp]; rintro e w2 ⟨rfl, hb2⟩)
        go_ret
        exact ⟨by rw [hf]; rfl, hb.trans (hb2.mono hb.size)⟩
    · obtain rfl : k = L.length := by omega
      have hf := find_no hno
      go_wp2
      go_ret
      exact ⟨by rw [hf]; rfl, hb⟩
set_option maxHeartbeats 4000000 in
theorem index_id (ao : Option Addr) (cap C : Nat) (id : Int) (L : List M) (w : World) (hR : RowAt w ao L) (hL : L.length ≤ 200) (hC : w.cell? ⟨C, 0, none⟩ = some (.int .i64 id)) :
    Calls Try.prog 20 #[.slice ao L.length cap, .func (.func 22) #[] #[.pointer (some ⟨C, 0, none⟩)]] w fun e w' => e = .returned (.int .i64 (idxV (L.findIdx? (isId id)))) ∧ Below w.heap.size w w' := by
  have hCl := World.block_lt_of_cell? w _ hC
  go_enter Try.func20, Try.ntmps20
  go_wp2
  go_loopw [8] (fun i wr => IxR (isId id) L w i wr) (fun i _ => L.length - (intOf i).toNat)
  case atStart => exact ⟨0, by omega, rfl, fun j hj => absurd hj (by omega), Below.refl _ _⟩
  case round =>
    obtain ⟨k, hk, rfl, hno, hb⟩ := hrel
    by_cases hlt : k < L.length
    · have hlt' : (k : Int) < (L.length : Int) := by omega
      obtain ⟨g, rfl, hg, hc⟩ := hR.below hb (by omega)
      obtain ⟨m, hm⟩ : ∃ m, L[k]? = some m := ⟨L[k], by simp [hlt]⟩
      obtain ⟨c0, c1, c2⟩ := hc k m hm
      have hC2 := (hb.cell hCl).trans hC
      clear hc
      cases hp : isId id m
      · have hs := ix_step hno hm hp
        go_wp2_with (go_at_call 22; refine (same_any m C id _ hC2).mono ?_; rw [hp]; rintro e w2 ⟨rfl, hb2⟩)
        go_roundw
        case rel => exact ⟨k + 1, by omega, rfl, hs, hb.trans (hb2.mono hb.size)⟩
        case measure => simp [intOf]; omega
      · have hf := find_at hno hm hp
        go_wp2_with (go_at_call 22; refine (same_any m C id _ hC2).mono ?_; rw [hp]; rintro e w2 ⟨rfl, hb2⟩)
        go_ret
        exact ⟨by rw [hf]; rfl, hb.trans (hb2.mono hb.size)⟩
    · obtain rfl : k = L.length := by omega
      have hf := find_no hno
      go_wp2
      go_ret
      exact ⟨by rw [hf]; rfl, hb⟩
theorem free_none (ao : Option Addr) (cap : Nat) (L : List M) (w : World) (hR : RowAt w ao L) (hL : L.length ≤ 200) (hn : L.findIdx? free = none) :
    Calls Try.prog 20 #[.slice ao L.length cap, .func (.func 21) #[] #[]] w fun e w' => e = .returned (.int .i64 (-1)) ∧ Below w.heap.size w w' := by
  refine (index_free ao cap L w hR hL).mono ?_
  rw [hn]
  exact fun _ _ h => h
theorem free_some (ao : Option Addr) (cap : Nat) (L : List M) (w : World) (hR : RowAt w ao L) (hL : L.length ≤ 200) {i : Nat} (hn : L.findIdx? free = some i) :
    Calls Try.prog 20 #[.slice ao L.length cap, .func (.func 21) #[] #[]] w fun e w' => e = .returned (.int .i64 (i : Int)) ∧ Below w.heap.size w w' := by
  refine (index_free ao cap L w hR hL).mono ?_
  rw [hn]
  exact fun _ _ h => h
theorem id_none (ao : Option Addr) (cap C : Nat) (id : Int) (L : List M) (w : World) (hR : RowAt w ao L) (hL : L.length ≤ 200) (hC : w.cell? ⟨C, 0, none⟩ = some (.int .i64 id)) (hn : L.findIdx? (isId id) = none) :
    Calls Try.prog 20 #[.slice ao L.length cap, .func (.func 22) #[] #[.pointer (some ⟨C, 0, none⟩)]] w fun e w' => e = .returned (.int .i64 (-1)) ∧ Below w.heap.size w w' := by
  refine (index_id ao cap C id L w hR hL hC).mono ?_
  rw [hn]
  exact fun _ _ h => h
theorem id_some (ao : Option Addr) (cap C : Nat) (id : Int) (L : List M) (w : World) (hR : RowAt w ao L) (hL : L.length ≤ 200) (hC : w.cell? ⟨C, 0, none⟩ = some (.int .i64 id)) {i : Nat} (hn : L.findIdx? (isId id) = some i) :
    Calls Try.prog 20 #[.slice ao L.length cap, .func (.func 22) #[] #[.pointer (some ⟨C, 0, none⟩)]] w fun e w' => e = .returned (.int .i64 (i : Int)) ∧ Below w.heap.size w w' := by
  refine (index_id ao cap C id L w hR hL hC).mono ?_
  rw [hn]
  exact fun _ _ h => h
end Que
end Go.Proofs.Ytbfnjjdgiihngaf
