
/- What Scale answers. -/
import Derived.Test.YtomdimljcbnnnacFltTurn
namespace Go.Proofs.Ytomdimljcbnnnac
namespace Flt
open Go.RowKit Rw Rec
set_option maxRecDepth 8000

theorem FAt.setN {w : World} {B Q : Nat} {v : Value} {F : FS} (h : FAt w B Q v F) (x : Int) : FAt (w.setCell ⟨Q, 1, none⟩ (.int .i64 x)) B Q v ⟨F.most, x, F.L⟩ := RAt.setN h 1 _ (by decide)
theorem FAt.regrown {w w' : World} {B Q : Nat} {v v' : Value} {F : FS} {L' : List Pd} (h : FAt w B Q v F) (hQ : w'.heap[Q]? = w.heap[Q]?) (hown : w'.ownsRow B 50 3 v' L'.length (cels pK.c L')) (hv : v'.ownBlock ≠ some Q) : FAt (w'.setCell ⟨Q, 2, none⟩ v') B Q v' ⟨F.most, F.last, L'⟩ := RAt.regrown h hQ hown hv
theorem scale_arg (Q : Nat) (n : Int) (w : World) (h : ¬ (0 ≤ n ∧ n ≤ 50)) :
    Calls Try.prog 10 #[.pointer (some ⟨Q, 0, none⟩), .int .i64 n] w fun e w' => e = .returned (.int .i64 1) ∧ w' = w := by
  by_cases h2 : n < 0
  · clear h
    go_enter Try.func10, Try.ntmps10
    go_wp2
    go_ret
    exact ⟨rfl, rfl⟩
  · have h3 : 50 < n := by omega
    clear h
    go_enter Try.func10, Try.ntmps10
    go_wp2
    go_ret
    exact ⟨rfl, rfl⟩

/-- k new ones are made -/
def GrR (B Q : Nat) (F : FS) (N : Nat) (v : Value) (w : World) (i : Value) (wr : World) : Prop :=
  ∃ (k : Nat) (v' : Value), k ≤ N ∧ i = .int .i64 k ∧ FAt wr B Q v' ⟨F.most, F.last + k, F.L ++ news F.last k⟩ ∧ Turn Q v v' w wr
/-- k have gone -/
def ShR (B Q : Nat) (most last : Int) (L1 : List Pd) (M : Nat) (v : Value) (w : World) (i : Value) (wr : World) : Prop :=
  ∃ (k : Nat) (v' : Value) (L : List Pd), k ≤ M ∧ i = .int .i64 k ∧ FAt wr B Q v' ⟨most, last, L⟩ ∧ Turn Q v v' w wr ∧ shrink (M - k) L = shrink M L1 ∧ cnt L + k = cnt L1 ∧ Inv ⟨most, last, L⟩
theorem ShR.next {B Q : Nat} {most last : Int} {L1 L : List Pd} {M k : Nat} {v v1 v2 : Value} {w wr w3 : World} {x : Nat × Pd} {i : Value} (hk : k < M) (hT : Turn Q v v1 w wr) (hS : shrink (M - k) L = shrink M L1) (hC : cnt L + k = cnt L1) (hI : Inv ⟨most, last, L⟩) (hp : pick stays goes L 0 none = some x)
    (hA : FAt w3 B Q v2 ⟨most, last, letgo L x.1 x.2⟩) (hT3 : Turn Q v1 v2 wr w3) (hi : i = .int .i64 ((k + 1 : Nat) : Int)) : ShR B Q most last L1 M v w i w3 := by
  obtain ⟨_, h2, h3⟩ := pick_mem hp
  refine ⟨k + 1, v2, _, by omega, hi, hA, hT.trans hT3, ?_, by have := letgo_cnt h2 h3; omega, hI.letgo h2⟩
  rw [← hS, show M - k = (M - (k + 1)) + 1 by omega, shrink_step hp]
set_option maxHeartbeats 8000000 in
theorem scale_yes (F : FS) (n : Int) (hI : Inv F) (hl : F.last ≤ 900000000) (h0 : 0 ≤ n) (h1 : n ≤ 50) : Does 10 (fun Q => #[.pointer (some ⟨Q, 0, none⟩), .int .i64 n]) F (scaleS F n) (.returned (.int .i64 0)) := by
  intro B Q v w hA
  obtain ⟨i0, hi, hz0, hz1, hz2⟩ := info_parts info_pod
  have hlen := hI.len
  have hcl := cnt_le F.L
  have hl0 := hI.l0
  have hL : F.L.length ≤ 1000000000 := by omega
  have c := count_any B Q v F w hA hL
  unfold scaleS
  obtain ⟨N, hN⟩ : ∃ N, N = scN F.L n := ⟨_, rfl⟩
  obtain ⟨M, hM⟩ : ∃ M, M = scM F.L n := ⟨_, rfl⟩
  rw [← hN, ← hM]
  have hN2 : (N : Int) = max (n - cnt F.L) 0 := by rw [hN]; unfold scN; omega
  have hNb : N ≤ 50 := by omega
  have hMN : ((cnt F.L + N : Nat) : Int) - n = M := by rw [hM]; unfold scM; omega
  have HI : Hid (Inv F) := hI
  have HA : Hid (FAt w B Q v F) := hA
  clear hN hM hI hA
  generalize hcn : cnt F.L = C at *
  have HN2 : Hid ((N : Int) = max (n - C) 0) := hN2
  clear hN2
  go_enter Try.func10, Try.ntmps10
  go_wp2_with (go_at_call 23; (with_reducible refine c.mono ?_); rintro e w2 ⟨rfl, hb2⟩)
  go_loopw [15] (fun i wr => GrR B Q F N v w i wr) (fun i _ => N - (intOf i).toNat)
  case atStart => exact ⟨0, v, by omega, rfl, by simpa [news_zero] using HA.out.below hb2, Turn.of_below hb2⟩
  case round =>
    obtain ⟨k, v1, hk, rfl, hA, hT⟩ := hrel
    by_cases hlt : k < N
    · have hlt' : (k : Int) < n - C := by have := HN2.out; omega
      have cV := hA.cV
      have cN := hA.cN
      have f0 := hA.fz 1
      have f1 := hA.fz 2
      have hQl := hA.lt
      have hA1 := hA.setN (F.last + k + 1)
      have hT1 := hT.trans (Turn.setQ 1 (.int .i64 (F.last + k + 1)))
      clear hA hT
      simp only at cN
      have cV1 := hA1.cV
      have cN1 := hA1.cN
      have f01 := hA1.fz 1
      have f11 := hA1.fz 2
      simp only at cN1
      clear c
      go_wp2_with fail
      generalize wr.setCell ⟨Q, 1, none⟩ (.int .i64 (F.last + k + 1)) = w1 at *
      have hQ1 := hA1.lt
      have hBs : B ≤ w1.heap.size := by have := RAt.bQ hA1; omega
      have hlenk : (F.L ++ news F.last k).length = F.L.length + k := by rw [List.length_append, news_len]
      have hown := RAt.own hA1
      simp only at hown
      rw [hlenk] at hown
      have HA1 : Hid (FAt w1 B Q v1 ⟨F.most, F.last + k + 1, F.L ++ news F.last k⟩) := hA1
      have HT : Hid (Turn Q v v1 w w1) := hT1
      clear hA1 hT1 cV cN f0 f1 f01
      go_region_law (refine step_own_at rfl (.tmp 28) (.tmp 34) 39 rfl B 50 i0 (.agg #[.int .i64 0, .int .i64 0, .int .i64 0]) 3 24 Try.underlying39 hi hz0 hz1 hz2 rfl (by decide) _ (F.L.length + k) (cels pK.c (F.L ++ news F.last k)) rfl ((hown.drew).alloc _) ⟨w1.heap.size, 0, none⟩ 1 1 [.int .i64 (F.last + k + 1), .int .i64 1, .int .i64 0] rfl rfl (cell_three _ _ _ _ _) (fun u hu => by simp at hu; rcases hu with rfl | rfl | rfl <;> rfl) (by unfold maxLen; omega) (by omega) (by simp; omega) ?_; intro v' w3 hown3 hgrow3 hloc3; obtain ⟨g3, cap3, rfl⟩ := own_succ hown3; have hQ3 := RAt.appended HA1.out hgrow3; have cS3 : w3.cell? ⟨Q, 2, none⟩ = some v1 := (World.cell?_of_block (w := w1) (a := ⟨Q, 2, none⟩) hQ3).trans cV1; have f13 : w3.frozen? ⟨Q, 2, none⟩ = false := (World.frozen?_of_block (w := w1) (a := ⟨Q, 2, none⟩) hQ3).trans f11)
      all_goals
        have hL' : (F.L ++ news F.last (k + 1)).length = F.L.length + k + 1 := by rw [List.length_append, news_len]; omega
        have hC' : cels pK.c (F.L ++ news F.last k) ++ [.int .i64 (F.last + k + 1), .int .i64 1, .int .i64 0] = cels pK.c (F.L ++ news F.last (k + 1)) := by
          rw [← news_step, ← List.append_assoc, cels_append (F.L ++ news F.last k), show F.last + 1 + (k : Int) = F.last + k + 1 by omega]
          rfl
        rw [hC', ← hL'] at hown3
        have hA3 := FAt.regrown HA1.out hQ3 hown3 (own_off HA1.out hloc3)
        rw [hL'] at hA3
        have hT3 := (HT.out.trans (Turn.appended hgrow3 hloc3)).setRow 2 (.slice (some ⟨g3, 0, none⟩) (F.L.length + k + 1) cap3)
        go_wp2
        go_roundw
        case rel => exact ⟨k + 1, _, by omega, rfl, by rw [show F.last + ((k + 1 : Nat) : Int) = F.last + k + 1 by omega]; exact hA3, hT3⟩
        case measure => simp [intOf]; omega
    · obtain rfl : k = N := by omega
      have hlt' : ¬ (k : Int) < n - C := by have := HN2.out; omega
      have hI1 := HI.out.grow k
      have hlen1 : (F.L ++ news F.last k).length ≤ 1000000000 := by rw [List.length_append, news_len]; omega
      have c1 := count_any B Q v1 _ wr hA hlen1
      have hcn1 : cnt (F.L ++ news F.last k) = C + k := by rw [cnt_append, news_cnt, hcn]
      simp only [hcn1] at c1
      have HA1 : Hid (FAt wr B Q v1 ⟨F.most, F.last + k, F.L ++ news F.last k⟩) := hA
      have HT1 : Hid (Turn Q v v1 w wr) := hT
      have HI1 : Hid (Inv ⟨F.most, F.last + k, F.L ++ news F.last k⟩) := hI1
      have hlast : F.last + k ≤ 1000000000 := by omega
      clear hA hT c hI1
      generalize hq1 : F.L ++ news F.last k = L1 at *
      generalize hq2 : F.last + (k : Int) = last1 at *
      generalize hq3 : F.most = most at *
      have HQ1 : Hid (F.L ++ news F.last k = L1) := hq1
      have HQ2 : Hid (F.last + (k : Int) = last1) := hq2
      have HQ3 : Hid (F.most = most) := hq3
      clear hq1 hq2 hq3
      go_wp2_with (go_at_call 23; (with_reducible refine c1.mono ?_); rintro e w4 ⟨rfl, hb4⟩)
      go_loopw [43] (fun i wr => ShR B Q most last1 L1 M v w i wr) (fun i _ => M - (intOf i).toNat)
      case atStart => exact ⟨0, v1, L1, by omega, rfl, HA1.out.below hb4, HT1.out.trans (Turn.of_below hb4), by simp, by omega, HI1.out⟩
      case round =>
        obtain ⟨j, v5, L5, hj, rfl, hA5, hT5, hS5, hC5, hI5⟩ := hrel
        by_cases hlt5 : j < M
        · have hlt5' : (j : Int) < ((C + k : Nat) : Int) - n := by omega
          obtain ⟨x, hx⟩ := cnt_pos (L := L5) (by omega)
          obtain ⟨hx1, hx2, hx3⟩ := pick_mem hx
          have hl5 := hI5.len
          simp only at hl5
          have hL5 : L5.length ≤ 1000000000 := by omega
          have c2 := chGo_any B Q v5 _ _ hA5 hL5
          simp only [hx, pickV] at c2
          have HN : Hid (∀ (v2 : Value) (w3 : World) (i : Value), FAt w3 B Q v2 ⟨most, last1, letgo L5 x.1 x.2⟩ → Turn Q v5 v2 _ w3 → i = .int .i64 ((j + 1 : Nat) : Int) → ShR B Q most last1 L1 M v w i w3) := fun v2 w3 i a b d => ShR.next hlt5 hT5 hS5 hC5 hI5 hx a b d
          have HA5 : Hid (FAt _ B Q v5 ⟨most, last1, L5⟩) := hA5
          clear hA5 hT5 hS5 hI5 hx c1
          go_wp2_with (first
            | (go_at_call 37; (with_reducible refine c2.mono ?_); rintro e w6 ⟨rfl, hb6⟩; have hA6 := HA5.out.below hb6)
            | (go_at_call 36; (with_reducible refine (letGo_any B Q v5 _ x.1 x.2 w6 hA6 hL5 hx2).mono ?_); rintro e w7 ⟨rfl, v7, hA7, hT7⟩))
          go_roundw
          case rel => exact HN.out v7 w7 _ hA7 ((Turn.of_below hb6).trans hT7) rfl
          case measure => simp [intOf]; omega
        · obtain rfl : j = M := by omega
          have hlt5' : ¬ (j : Int) < ((C + k : Nat) : Int) - n := by omega
          rw [Nat.sub_self] at hS5
          have HG : Hid (FAt _ B Q v5 ⟨most, last1, shrink j L1⟩ ∧ Turn Q v v5 w _) := ⟨by rw [← hS5]; exact hA5, hT5⟩
          clear hA5 hT5 hS5 hI5 c1
          go_wp2
          go_ret
          refine ⟨rfl, v5, ?_⟩
          rw [HQ1.out, HQ2.out, HQ3.out]
          exact HG.out
/-- an order to Scale, whatever number it names -/
def scaleE (n : Int) : Int := if 0 ≤ n ∧ n ≤ 50 then 0 else 1
def scaleF (F : FS) (n : Int) : FS := if 0 ≤ n ∧ n ≤ 50 then scaleS F n else F
theorem scaleF_inv {F : FS} (h : Inv F) (n : Int) : Inv (scaleF F n) := by
  unfold scaleF; split
  · exact scale_inv h n
  · exact h
theorem scaleF_last {F : FS} (n : Int) : (scaleF F n).last ≤ F.last + 50 := by
  unfold scaleF; split
  · unfold scaleS scN; simp only; omega
  · omega
theorem scale_any (F : FS) (n : Int) (hI : Inv F) (hl : F.last ≤ 900000000) : Does 10 (fun Q => #[.pointer (some ⟨Q, 0, none⟩), .int .i64 n]) F (scaleF F n) (.returned (.int .i64 (scaleE n))) := by
  unfold scaleF scaleE
  by_cases h : 0 ≤ n ∧ n ≤ 50
  · rw [if_pos h, if_pos h]; exact scale_yes F n hI hl h.1 h.2
  · rw [if_neg h, if_neg h]
    intro B Q v w hA
    refine (scale_arg Q n w h).mono ?_
    rintro e w' ⟨rfl, rfl⟩
    exact ⟨rfl, v, hA, Turn.refl _ _ _⟩
theorem giveS_last (F : FS) : (giveS F).last = F.last := by unfold giveS; split <;> rfl
theorem inv_new (n : Int) : Inv ⟨mostN n, 0, []⟩ := ⟨most_bd n, List.Pairwise.nil, by simp, by simp⟩
end Flt
end Go.Proofs.Ytomdimljcbnnnac
