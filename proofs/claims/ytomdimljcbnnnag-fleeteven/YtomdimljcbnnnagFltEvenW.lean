
/- The closures of the law of who is given something; slices.IndexFunc and ContainsFunc with them. -/
import Derived.Test.YtomdimljcbnnnagFltScale
namespace Go.Proofs.Ytomdimljcbnnnag
namespace Flt
open Go.RowKit Rw Rec
set_option maxRecDepth 8000

theorem eisId_any (p : Pd) (C : Nat) (id : Int) (w : World) (hC : w.cell? ⟨C, 0, none⟩ = some (.int .i64 id)) :
    Calls Try.prog 23 #[pV p, .pointer (some ⟨C, 0, none⟩)] w fun e w' => e = .returned (.bool (isId id p)) ∧ Below w.heap.size w w' := by
  unfold pV
  have hl := World.block_lt_of_cell? w _ hC
  go_enter Try.func23, Try.ntmps23
  go_wp2
  go_ret
  exact ⟨rfl, (Below.refl _ _).alloc (Nat.le_refl _) _⟩
set_option maxHeartbeats 4000000 in
theorem eindex (ao : Option Addr) (cap C : Nat) (id : Int) (L : List Pd) (w : World) (hR : RowAt pK w ao L) (hL : L.length ≤ 1000000000) (hC : w.cell? ⟨C, 0, none⟩ = some (.int .i64 id)) :
    Calls Try.prog 22 #[.slice ao L.length cap, .func (.func 23) #[] #[.pointer (some ⟨C, 0, none⟩)]] w fun e w' => e = .returned (.int .i64 (idxV (L.findIdx? (isId id)))) ∧ Below w.heap.size w w' := by
  have hCl := World.block_lt_of_cell? w _ hC
  go_enter Try.func22, Try.ntmps22
  go_wp2
  go_loopw [8] (fun i wr => IxR (isId id) L w i wr) (fun i _ => L.length - (intOf i).toNat)
  case atStart => exact ⟨0, by omega, rfl, fun j hj => absurd hj (by omega), Below.refl _ _⟩
  case round =>
    obtain ⟨k, hk, rfl, hno, hb⟩ := hrel
    by_cases hlt : k < L.length
    · have hlt' : (k : Int) < (L.length : Int) := by omega
      obtain ⟨g, rfl, hg, hc⟩ := row_pod (hR.below hb) (by omega)
      obtain ⟨m, hm⟩ : ∃ m, L[k]? = some m := ⟨L[k], by simp [hlt]⟩
      obtain ⟨c0, c1, c2⟩ := hc k m hm
      have hC2 := (hb.cell hCl).trans hC
      clear hc
      cases hp : isId id m
      · have hs := ix_step hno hm hp
        go_wp2_with (go_at_call 23; refine (eisId_any m C id _ hC2).mono ?_; rw [hp]; rintro e w2 ⟨rfl, hb2⟩)
        go_roundw
        case rel => exact ⟨k + 1, by omega, rfl, hs, hb.trans (hb2.mono hb.size)⟩
        case measure => simp [intOf]; omega
      · have hf := find_at hno hm hp
        go_wp2_with (go_at_call 23; refine (eisId_any m C id _ hC2).mono ?_; rw [hp]; rintro e w2 ⟨rfl, hb2⟩)
        go_ret
        exact ⟨by rw [hf]; rfl, hb.trans (hb2.mono hb.size)⟩
    · obtain rfl : k = L.length := by omega
      have hf := find_no hno
      go_wp2
      go_ret
      exact ⟨by rw [hf]; rfl, hb⟩
theorem eid_none (ao : Option Addr) (cap C : Nat) (id : Int) (L : List Pd) (w : World) (hR : RowAt pK w ao L) (hL : L.length ≤ 1000000000) (hC : w.cell? ⟨C, 0, none⟩ = some (.int .i64 id)) (hn : L.findIdx? (isId id) = none) :
    Calls Try.prog 22 #[.slice ao L.length cap, .func (.func 23) #[] #[.pointer (some ⟨C, 0, none⟩)]] w fun e w' => e = .returned (.int .i64 (-1)) ∧ Below w.heap.size w w' := by
  refine (eindex ao cap C id L w hR hL hC).mono ?_
  rw [hn]
  exact fun _ _ h => h
theorem eid_some (ao : Option Addr) (cap C : Nat) (id : Int) (L : List Pd) (w : World) (hR : RowAt pK w ao L) (hL : L.length ≤ 1000000000) (hC : w.cell? ⟨C, 0, none⟩ = some (.int .i64 id)) {i : Nat} (hn : L.findIdx? (isId id) = some i) :
    Calls Try.prog 22 #[.slice ao L.length cap, .func (.func 23) #[] #[.pointer (some ⟨C, 0, none⟩)]] w fun e w' => e = .returned (.int .i64 (i : Int)) ∧ Below w.heap.size w w' := by
  refine (eindex ao cap C id L w hR hL hC).mono ?_
  rw [hn]
  exact fun _ _ h => h

/-- ready, and has less -/
def less (l : Int) (p : Pd) : Bool := p.st == 3 && decide (p.ld < l)
set_option maxHeartbeats 2000000 in
theorem less_any (p : Pd) (C D g n cap i : Nat) (l : Int) (w : World) (hC : w.cell? ⟨C, 0, none⟩ = some (.slice (some ⟨g, 0, none⟩) n cap)) (hD : w.cell? ⟨D, 0, none⟩ = some (.int .i64 (i : Int))) (hi : i < n) (hq : w.cell? ⟨g, i * 3 + 2, none⟩ = some (.int .i64 l)) :
    Calls Try.prog 25 #[pV p, .pointer (some ⟨C, 0, none⟩), .pointer (some ⟨D, 0, none⟩)] w fun e w' => e = .returned (.bool (less l p)) ∧ Below w.heap.size w w' := by
  unfold pV less
  have hl := World.block_lt_of_cell? w _ hC
  have hl2 := World.block_lt_of_cell? w _ hD
  have hl3 := World.block_lt_of_cell? w _ hq
  simp only at hl hl2 hl3
  have hi' : (i : Int) < (n : Int) := by omega
  cases h1 : (p.st == 3)
  · go_enter Try.func25, Try.ntmps25
    go_wp2_with fail
    go_region
    all_goals
    go_wp2
    go_ret
    exact ⟨rfl, ((Below.refl _ _).alloc (Nat.le_refl _) _).drew⟩
  · go_enter Try.func25, Try.ntmps25
    go_wp2_with fail
    go_region
    all_goals
    go_wp2
    go_ret
    exact ⟨rfl, ((Below.refl _ _).alloc (Nat.le_refl _) _).drew⟩
set_option maxHeartbeats 4000000 in
theorem lessIdx_none (g cap C D i : Nat) (l : Int) (L : List Pd) (w : World) (hR : RowAt pK w (some ⟨g, 0, none⟩) L) (hL : L.length ≤ 1000000000) (hC : w.cell? ⟨C, 0, none⟩ = some (.slice (some ⟨g, 0, none⟩) L.length cap)) (hD : w.cell? ⟨D, 0, none⟩ = some (.int .i64 (i : Int))) (hi : i < L.length) (hq : w.cell? ⟨g, i * 3 + 2, none⟩ = some (.int .i64 l)) (hno : ∀ (j : Nat) (x : Pd), L[j]? = some x → less l x = false) :
    Calls Try.prog 22 #[.slice (some ⟨g, 0, none⟩) L.length cap, .func (.func 25) #[] #[.pointer (some ⟨C, 0, none⟩), .pointer (some ⟨D, 0, none⟩)]] w fun e w' => e = .returned (.int .i64 (-1)) ∧ Below w.heap.size w w' := by
  have hCl : C < w.heap.size := World.block_lt_of_cell? w _ hC
  have hDl : D < w.heap.size := World.block_lt_of_cell? w _ hD
  have hql : g < w.heap.size := World.block_lt_of_cell? w _ hq
  have HQ : Hid (∀ (j : Nat) (x : Pd), L[j]? = some x → less l x = false) := hno
  clear hno
  go_enter Try.func22, Try.ntmps22
  go_wp2
  go_loopw [8] (fun i wr => IxR (less l) L w i wr) (fun i _ => L.length - (intOf i).toNat)
  case atStart => exact ⟨0, by omega, rfl, fun j hj => absurd hj (by omega), Below.refl _ _⟩
  case round =>
    obtain ⟨k, hk, rfl, hno, hb⟩ := hrel
    by_cases hlt : k < L.length
    · have hlt' : (k : Int) < (L.length : Int) := by omega
      obtain ⟨g', hge, hg, hc⟩ := row_pod (hR.below hb) (by omega)
      cases hge
      obtain ⟨m, hm⟩ : ∃ m, L[k]? = some m := ⟨L[k], by simp [hlt]⟩
      obtain ⟨c0, c1, c2⟩ := hc k m hm
      have c3 := less_any m C D g L.length cap i l wr ((hb.cell (p := ⟨C, 0, none⟩) hCl).trans hC) ((hb.cell (p := ⟨D, 0, none⟩) hDl).trans hD) hi ((hb.cell (p := ⟨g, i * 3 + 2, none⟩) hql).trans hq)
      have hp := HQ.out k m hm
      rw [hp] at c3
      simp only [pV] at c3
      have hs := ix_step hno hm hp
      clear hc
      go_wp2_with (go_at_call 25; (with_reducible refine c3.mono ?_); rintro e w2 ⟨rfl, hb2⟩)
      go_roundw
      case rel => exact ⟨k + 1, by omega, rfl, hs, hb.trans (hb2.mono hb.size)⟩
      case measure => simp [intOf]; omega
    · obtain rfl : k = L.length := by omega
      go_wp2
      go_ret
      exact ⟨rfl, hb⟩
theorem contains_no (g cap C D i : Nat) (l : Int) (L : List Pd) (w : World) (hR : RowAt pK w (some ⟨g, 0, none⟩) L) (hL : L.length ≤ 1000000000) (hC : w.cell? ⟨C, 0, none⟩ = some (.slice (some ⟨g, 0, none⟩) L.length cap)) (hD : w.cell? ⟨D, 0, none⟩ = some (.int .i64 (i : Int))) (hi : i < L.length) (hq : w.cell? ⟨g, i * 3 + 2, none⟩ = some (.int .i64 l)) (hno : ∀ (j : Nat) (x : Pd), L[j]? = some x → less l x = false) :
    Calls Try.prog 24 #[.slice (some ⟨g, 0, none⟩) L.length cap, .func (.func 25) #[] #[.pointer (some ⟨C, 0, none⟩), .pointer (some ⟨D, 0, none⟩)]] w fun e w' => e = .returned (.bool false) ∧ Below w.heap.size w w' := by
  have c := lessIdx_none g cap C D i l L w hR hL hC hD hi hq hno
  clear hR hC hD hq hno
  go_enter Try.func24, Try.ntmps24
  go_wp2_with (go_at_call 22; (with_reducible refine c.mono ?_); rintro e w2 ⟨rfl, hb2⟩)
  go_ret
  exact ⟨rfl, hb2⟩
/-- a pod is found by its number -/
theorem find_own {L : List Pd} {i : Nat} {p : Pd} (h : L.Pairwise (fun p q => p.id < q.id)) (hp : L[i]? = some p) : L.findIdx? (isId p.id) = some i := by
  refine find_at (fun j hj x hx => ?_) hp (by simp [isId])
  have h1 := List.pairwise_iff_getElem.1 h j i (List.getElem?_eq_some_iff.1 hx).1 (List.getElem?_eq_some_iff.1 hp).1 hj
  rw [(List.getElem?_eq_some_iff.1 hx).2, (List.getElem?_eq_some_iff.1 hp).2] at h1
  simp [isId]; omega
theorem give_less {F : FS} {i : Nat} {p : Pd} (h : pick (room F.most) given F.L 0 none = some (i, p)) : p.st = 3 ∧ ∀ (j : Nat) (x : Pd), F.L[j]? = some x → less p.ld x = false := by
  obtain ⟨_, _, hr⟩ := pick_mem h
  obtain ⟨h1, _⟩ := pick_least F.L 0 none _ h
  simp [room] at hr
  refine ⟨hr.1, fun j x hx => ?_⟩
  have h2 := h1 x (List.mem_of_getElem? hx)
  simp [room] at h2
  simp [less]
  intro h3
  by_cases h4 : x.ld < F.most
  · exact h2 h3 h4
  · omega
end Flt
end Go.Proofs.Ytomdimljcbnnnag
