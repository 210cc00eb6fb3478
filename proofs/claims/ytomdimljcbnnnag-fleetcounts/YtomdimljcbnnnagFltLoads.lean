
/- What the law's loads answers. -/
import Derived.Test.YtomdimljcbnnnagFltEvenW
namespace Go.Proofs.Ytomdimljcbnnnag
namespace Flt
open Go.RowKit Rw Rec
set_option maxRecDepth 8000

theorem all_any3 (B Q : Nat) (v : Value) (F : FS) (w : World) (hA : FAt w B Q v F) (hL : F.L.length ≤ 1000000000) :
    Calls Try.prog 18 #[.pointer (some ⟨Q, 0, none⟩)] w fun e w' => ∃ G, e = .returned (.slice (some ⟨G, 0, none⟩) F.L.length F.L.length) ∧ w.heap.size ≤ G ∧ RowAt pK w' (some ⟨G, 0, none⟩) F.L ∧ Below w.heap.size w w' := by
  refine (all_any B Q v F w hA hL).mono ?_
  rintro e w' ⟨rfl, h1, h2⟩
  exact ⟨_, rfl, Nat.le_refl _, h1, h2⟩
def LdR (L : List Pd) (w : World) (d i : Value) (wr : World) : Prop := ∃ k : Nat, k ≤ L.length ∧ i = .int .i64 k ∧ d = .int .i64 (sumL (L.take k)) ∧ Below w.heap.size w wr
theorem sum_bd {L : List Pd} (h : ∀ p ∈ L, 0 ≤ p.ld ∧ p.ld ≤ 100) : 0 ≤ sumL L ∧ sumL L ≤ 100 * L.length := by
  induction L with
  | nil => simp [sumL]
  | cons p L ih =>
    have h1 := h p (by simp)
    have h2 := ih (fun q hq => h q (by simp [hq]))
    rw [sum_cons, List.length_cons]
    omega
theorem Inv.lds {F : FS} (h : Inv F) : ∀ p ∈ F.L, 0 ≤ p.ld ∧ p.ld ≤ 100 := fun p hp => by
  have := h.bd p hp
  have := h.m
  unfold Okp at *
  omega
set_option maxHeartbeats 2000000 in
theorem loads_any (B Q : Nat) (v : Value) (F : FS) (w : World) (hA : FAt w B Q v F) (hI : Inv F) (hL : F.L.length ≤ 1000000000) :
    Calls Try.prog 20 #[.pointer (some ⟨Q, 0, none⟩)] w fun e w' => e = .returned (.int .i64 (sumL F.L)) ∧ Below w.heap.size w w' := by
  have c := all_any3 B Q v F w hA hL
  have hbd := hI.lds
  generalize F.L = L at *
  have HD : Hid (∀ p ∈ L, 0 ≤ p.ld ∧ p.ld ≤ 100) := hbd
  clear hA hI hbd
  go_enter Try.func20, Try.ntmps20
  go_wp2_with (go_at_call 18; (with_reducible refine c.mono ?_); rintro e w1 ⟨G, rfl, hG, hR, hb1⟩)
  go_loopw [3, 9] (fun d i wr => LdR L w1 d i wr) (fun _ i _ => L.length - (intOf i).toNat)
  case atStart => exact ⟨0, by omega, rfl, by simp [sumL], Below.refl _ _⟩
  case round =>
    obtain ⟨k, hk, rfl, rfl, hb⟩ := hrel
    by_cases hlt : k < L.length
    · have hlt' : (k : Int) < (L.length : Int) := by omega
      obtain ⟨g, hge, hg, hc⟩ := row_pod (hR.below hb) (by omega)
      cases hge
      obtain ⟨m, hm⟩ : ∃ m, L[k]? = some m := ⟨L[k], by simp [hlt]⟩
      obtain ⟨c0, c1, c2⟩ := hc k m hm
      have hs := sum_step hm
      have b1 := HD.out m (List.mem_of_getElem? hm)
      have b2 := sum_bd (L := L.take k) (fun p hp => HD.out p (List.mem_of_mem_take hp))
      rw [List.length_take] at b2
      have b3 : 0 ≤ sumL (L.take k) := b2.1
      have b4 : sumL (L.take k) ≤ 100000000000 := by omega
      have b5 : 0 ≤ m.ld := b1.1
      have b6 : m.ld ≤ 100 := b1.2
      have HS : Hid (sumL (L.take (k + 1)) = sumL (L.take k) + m.ld) := hs
      have HB : Hid (Below w1.heap.size w1 wr) := hb
      clear hc hR hs b1 b2 hb hm c
      generalize sumL (L.take k) = s at *
      go_wp2
      go_roundw
      case rel => exact ⟨k + 1, by omega, rfl, by rw [HS.out], HB.out.alloc HB.out.size _⟩
      case measure => simp [intOf]; omega
    · obtain rfl : k = L.length := by omega
      rw [List.take_length]
      go_wp2
      go_ret
      exact ⟨rfl, hb1.trans (hb.mono hb1.size)⟩

/-- the sums behind the orders -/
theorem scaleF_sum {F : FS} (h : Inv F) (n : Int) : sumL (scaleF F n).L = sumL F.L := by
  unfold scaleF; split
  · exact scale_sum h n
  · rfl
theorem scaleF_cnt {F : FS} {n : Int} (h : scaleE n = 0) : (cnt (scaleF F n).L : Int) = n := by
  unfold scaleE at h
  split at h
  · rename_i hn
    unfold scaleF
    rw [if_pos hn]
    exact scale_cnt hn.1
  · simp at h
theorem sum_at {L : List Pd} {i : Nat} {p : Pd} (h : L[i]? = some p) : sumL L = sumL (L.take i) + (p.ld + sumL (L.drop (i + 1))) := by
  conv => lhs; rw [split_at h]
  rw [sum_append, sum_cons]
theorem sum_set {L : List Pd} {i : Nat} {p q : Pd} (h : L[i]? = some p) : sumL (L.set i q) = sumL L - p.ld + q.ld := by
  rw [set_at h, sum_append, sum_cons, sum_at h]; omega
theorem sum_erase {L : List Pd} {i : Nat} {p : Pd} (h : L[i]? = some p) : sumL (L.eraseIdx i) = sumL L - p.ld := by
  rw [erase_at, sum_append, sum_at h]; omega
theorem crash_sum {F : FS} {id : Int} : sumL (crashS F id).L = sumL F.L - crashN F.L id := by
  unfold crashS
  cases hn : F.L.findIdx? (isId id) with
  | none => obtain ⟨e1, _, e3⟩ := crash_none hn; rw [e1, e3]; simp
  | some i =>
    obtain ⟨m, hm, _⟩ := find_get hn
    obtain ⟨e1, _, e3⟩ := crash_some hn hm
    rw [e1, e3]
    exact sum_erase hm
theorem give_sum {F : FS} (h : giveE F = 0) : sumL (giveS F).L = sumL F.L + 1 := by
  cases hp : pick (room F.most) given F.L 0 none with
  | none => rw [(give_none hp).2.2] at h; cases h
  | some x =>
    obtain ⟨i, p⟩ := x
    obtain ⟨_, h2, _⟩ := pick_mem hp
    rw [(give_some hp).1]
    show sumL (F.L.set i _) = _
    rw [sum_set h2]
    simp only
    omega
theorem done_sum {F : FS} {id : Int} (h : doneE F.L id = 0) : sumL (doneS F id).L = sumL F.L - 1 := by
  unfold doneS
  cases hn : F.L.findIdx? (isId id) with
  | none => rw [(done_none hn).1] at h; cases h
  | some i =>
    obtain ⟨m, hm, _⟩ := find_get hn
    by_cases hs : m.ld = 0
    · rw [(done_state hn hm hs).1] at h; cases h
    · rw [(done_ok hn hm hs).2]
      unfold doneL1
      split
      · rename_i h1
        rw [erase_set, sum_erase hm, h1.1]
      · show sumL (F.L.set i _) = _
        rw [sum_set hm]
        simp only
        omega
end Flt
end Go.Proofs.Ytomdimljcbnnnag
