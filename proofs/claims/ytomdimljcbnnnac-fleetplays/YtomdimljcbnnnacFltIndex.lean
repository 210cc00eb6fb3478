
/- What each function of package fleet answers: find (slices.IndexFunc). -/
import Derived.Test.YtomdimljcbnnnacFltWalks
namespace Go.Proofs.Ytomdimljcbnnnac
namespace Flt
open Go.RowKit Rw Rec
set_option maxRecDepth 8000

def IxR (p : Pd → Bool) (L : List Pd) (w : World) (i : Value) (wr : World) : Prop :=
  ∃ k : Nat, k ≤ L.length ∧ i = .int .i64 k ∧ (∀ j, j < k → ∀ x, L[j]? = some x → p x = false) ∧ Below w.heap.size w wr
theorem ix_step {p : Pd → Bool} {L : List Pd} {k : Nat} {m : Pd} (h : ∀ j, j < k → ∀ x, L[j]? = some x → p x = false) (hm : L[k]? = some m) (hp : p m = false) : ∀ j, j < k + 1 → ∀ x, L[j]? = some x → p x = false := by
  intro j hj x hx
  by_cases e : j = k
  · subst e; rw [hm] at hx; cases hx; exact hp
  · exact h j (by omega) x hx

set_option maxHeartbeats 4000000 in
theorem findex (ao : Option Addr) (cap C : Nat) (id : Int) (L : List Pd) (w : World) (hR : RowAt pK w ao L) (hL : L.length ≤ 1000000000) (hC : w.cell? ⟨C, 0, none⟩ = some (.int .i64 id)) :
    Calls Try.prog 59 #[.slice ao L.length cap, .func (.func 61) #[] #[.pointer (some ⟨C, 0, none⟩)]] w fun e w' => e = .returned (.int .i64 (idxV (L.findIdx? (isId id)))) ∧ Below w.heap.size w w' := by
  have hCl := World.block_lt_of_cell? w _ hC
  go_enter Try.func59, Try.ntmps59
  go_wp2
  go_loopw [8] (fun i wr => IxR (isId id) L w i wr) (fun i _ => L.length - (intOf i).toNat)
  case atStart => exact ⟨0, by omega, rfl, fun j hj => absurd hj (by omega), Below.refl _ _⟩
  case round =>
    obtain ⟨k, hk, rfl, hno, hb⟩ := hrel
    by_cases hlt : k < L.length
    · have hlt' : (k : Int) < (L.length : Int) := by omega
      obtain ⟨g, rfl, hg, hc⟩ := row_pod (hR.below hb) (by omega)
      obtain ⟨m, hm⟩ : ∃ m, L[k]? = some m := ⟨L[k], by simp [hlt]⟩
      obtain ⟨c0, c1, c2⟩ := hc k m hm
      have hC2 := (hb.cell hCl).trans hC
      clear hc
      cases hp : isId id m
      · have hs := ix_step hno hm hp
        go_wp2_with (go_at_call 61; refine (isId_any m C id _ hC2).mono ?_; rw [hp]; rintro e w2 ⟨rfl, hb2⟩)
        go_roundw
        case rel => exact ⟨k + 1, by omega, rfl, hs, hb.trans (hb2.mono hb.size)⟩
        case measure => simp [intOf]; omega
      · have hf := find_at hno hm hp
        go_wp2_with (go_at_call 61; refine (isId_any m C id _ hC2).mono ?_; rw [hp]; rintro e w2 ⟨rfl, hb2⟩)
        go_ret
        exact ⟨by rw [hf]; rfl, hb.trans (hb2.mono hb.size)⟩
    · obtain rfl : k = L.length := by omega
      have hf := find_no hno
      go_wp2
      go_ret
      exact ⟨by rw [hf]; rfl, hb⟩
theorem fid_none (ao : Option Addr) (cap C : Nat) (id : Int) (L : List Pd) (w : World) (hR : RowAt pK w ao L) (hL : L.length ≤ 1000000000) (hC : w.cell? ⟨C, 0, none⟩ = some (.int .i64 id)) (hn : L.findIdx? (isId id) = none) :
    Calls Try.prog 59 #[.slice ao L.length cap, .func (.func 61) #[] #[.pointer (some ⟨C, 0, none⟩)]] w fun e w' => e = .returned (.int .i64 (-1)) ∧ Below w.heap.size w w' := by
  refine (findex ao cap C id L w hR hL hC).mono ?_
  rw [hn]
  exact fun _ _ h => h
theorem fid_some (ao : Option Addr) (cap C : Nat) (id : Int) (L : List Pd) (w : World) (hR : RowAt pK w ao L) (hL : L.length ≤ 1000000000) (hC : w.cell? ⟨C, 0, none⟩ = some (.int .i64 id)) {i : Nat} (hn : L.findIdx? (isId id) = some i) :
    Calls Try.prog 59 #[.slice ao L.length cap, .func (.func 61) #[] #[.pointer (some ⟨C, 0, none⟩)]] w fun e w' => e = .returned (.int .i64 (i : Int)) ∧ Below w.heap.size w w' := by
  refine (findex ao cap C id L w hR hL hC).mono ?_
  rw [hn]
  exact fun _ _ h => h
set_option maxHeartbeats 4000000 in
theorem cindex (ao : Option Addr) (cap C : Nat) (id : Int) (L : List Pd) (w : World) (hR : RowAt pK w ao L) (hL : L.length ≤ 1000000000) (hC : w.cell? ⟨C, 0, none⟩ = some (.int .i64 id)) :
    Calls Try.prog 59 #[.slice ao L.length cap, .func (.func 60) #[] #[.pointer (some ⟨C, 0, none⟩)]] w fun e w' => e = .returned (.int .i64 (idxV (L.findIdx? (isId id)))) ∧ Below w.heap.size w w' := by
  have hCl := World.block_lt_of_cell? w _ hC
  go_enter Try.func59, Try.ntmps59
  go_wp2
  go_loopw [8] (fun i wr => IxR (isId id) L w i wr) (fun i _ => L.length - (intOf i).toNat)
  case atStart => exact ⟨0, by omega, rfl, fun j hj => absurd hj (by omega), Below.refl _ _⟩
  case round =>
    obtain ⟨k, hk, rfl, hno, hb⟩ := hrel
    by_cases hlt : k < L.length
    · have hlt' : (k : Int) < (L.length : Int) := by omega
      obtain ⟨g, rfl, hg, hc⟩ := row_pod (hR.below hb) (by omega)
      obtain ⟨m, hm⟩ : ∃ m, L[k]? = some m := ⟨L[k], by simp [hlt]⟩
      obtain ⟨c0, c1, c2⟩ := hc k m hm
      have hC2 := (hb.cell hCl).trans hC
      clear hc
      cases hp : isId id m
      · have hs := ix_step hno hm hp
        go_wp2_with (go_at_call 60; refine (cisId_any m C id _ hC2).mono ?_; rw [hp]; rintro e w2 ⟨rfl, hb2⟩)
        go_roundw
        case rel => exact ⟨k + 1, by omega, rfl, hs, hb.trans (hb2.mono hb.size)⟩
        case measure => simp [intOf]; omega
      · have hf := find_at hno hm hp
        go_wp2_with (go_at_call 60; refine (cisId_any m C id _ hC2).mono ?_; rw [hp]; rintro e w2 ⟨rfl, hb2⟩)
        go_ret
        exact ⟨by rw [hf]; rfl, hb.trans (hb2.mono hb.size)⟩
    · obtain rfl : k = L.length := by omega
      have hf := find_no hno
      go_wp2
      go_ret
      exact ⟨by rw [hf]; rfl, hb⟩
theorem cid_none (ao : Option Addr) (cap C : Nat) (id : Int) (L : List Pd) (w : World) (hR : RowAt pK w ao L) (hL : L.length ≤ 1000000000) (hC : w.cell? ⟨C, 0, none⟩ = some (.int .i64 id)) (hn : L.findIdx? (isId id) = none) :
    Calls Try.prog 59 #[.slice ao L.length cap, .func (.func 60) #[] #[.pointer (some ⟨C, 0, none⟩)]] w fun e w' => e = .returned (.int .i64 (-1)) ∧ Below w.heap.size w w' := by
  refine (cindex ao cap C id L w hR hL hC).mono ?_
  rw [hn]
  exact fun _ _ h => h
theorem cid_some (ao : Option Addr) (cap C : Nat) (id : Int) (L : List Pd) (w : World) (hR : RowAt pK w ao L) (hL : L.length ≤ 1000000000) (hC : w.cell? ⟨C, 0, none⟩ = some (.int .i64 id)) {i : Nat} (hn : L.findIdx? (isId id) = some i) :
    Calls Try.prog 59 #[.slice ao L.length cap, .func (.func 60) #[] #[.pointer (some ⟨C, 0, none⟩)]] w fun e w' => e = .returned (.int .i64 (i : Int)) ∧ Below w.heap.size w w' := by
  refine (cindex ao cap C id L w hR hL hC).mono ?_
  rw [hn]
  exact fun _ _ h => h
end Flt
end Go.Proofs.Ytomdimljcbnnnac
