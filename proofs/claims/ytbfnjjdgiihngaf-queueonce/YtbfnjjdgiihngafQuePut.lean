/- What each function of package queue answers: New, Put. -/
import Derived.Test.YtbfnjjdgiihngafQueIndex
import Derived.Deep.RegionLaw
namespace Go.Proofs.Ytbfnjjdgiihngaf
namespace Que
open Go.RowKit
set_option maxRecDepth 8000

/-- append onto a row of the call's own, as a step of a region; and where the new row lies -/
theorem step_own_at {P : Program} {ops : Array Oper} {o : Oper} {a : Act} {w : World} {K : Act → World → Prop} {Q : Exit → Act → World → Prop} {E : Prop}
    (hg : o.guard = none) (s x : Operand) (t : TypeId) (hop : o.op = Op.call { callee := Callee.builtin Builtin.append, args := #[s, x], argTypes := #[t, t] })
    (base : Nat) (e : TypeId) (i : TypeInfo) (z : Value) (size bytes : Nat) (h1 : P.underlying t = some (.slice e)) (h2 : P.info? e = some i) (h3 : i.zero = some z) (h4 : i.size = size) (h5 : i.bytes = bytes) (h6 : z.cells.size = size) (h7 : 0 < size)
    (v : Value) (n : Nat) (xs : List Value) (hs : a.eval s = v) (hown : w.ownsRow base e size v n xs)
    (ad : Addr) (m c : Nat) (news : List Value) (hx : a.eval x = .slice (some ad) m c) (hn : news.length = m * size) (hc : ∀ j u, news[j]? = some u → w.cell? (ad.add j) = some u) (h1c : ∀ u ∈ news, u.oneCell' = true)
    (b1 : n + m ≤ maxLen) (b2 : (n + m) * bytes ≤ 140737488355328) (hb : base ≤ w.heap.size)
    (hK : ∀ v' w', w'.ownsRow base e size v' (n + m) (xs ++ news) → w.grownBy w' v.ownBlock → (v'.ownBlock = v.ownBlock ∨ v'.ownBlock = some w.heap.size) → K (a.put o.dst v') w') :
    if Region.wanted o (yielded ops a.tmps) = true then Oper.wp P o a w K Q else E := by
  have hw : Region.wanted o (yielded ops a.tmps) = true := by simp [Region.wanted, hg]
  rw [if_pos hw]
  obtain ⟨v', w', hr, g2, g3, _, g5⟩ := run_append_own_at (P := P) w base t o.type e i z size bytes h1 h2 h3 h4 h5 h6 h7 v n xs hown ad m c news hn hc h1c b1 b2 hb
  unfold Oper.wp execOp
  simp only [hop, resolve, invoke, builtin, Sem.run_bind, Sem.run_pure, Result.andThen_ok, List.map_toArray, List.map_cons, List.map_nil, hs, hx, hr]
  exact hK v' w' g2 g3 g5
theorem cell_three (w : World) (e : TypeId) (a b c : Value) : ∀ (j : Nat) (u : Value), [a, b, c][j]? = some u → (w.alloc (.cells #[a, b, c] e)).cell? ((⟨w.heap.size, 0, none⟩ : Addr).add j) = some u := by
  intro j u h
  match j, h with
  | 0, h => simp at h; subst h; simp [Addr.add]
  | 1, h => simp at h; subst h; simp [Addr.add]
  | 2, h => simp at h; subst h; simp [Addr.add]
  | j + 3, h => simp at h

theorem new_any (w : World) : Calls Try.prog 10 #[] w fun e w' => e = .returned (.pointer (some ⟨w.heap.size, 0, none⟩)) ∧ QAt w' 53 w.heap.size w.heap.size 0 1 0 (.slice none 0 0) [] ∧ Below w.heap.size w w' := by
  go_enter Try.func10, Try.ntmps10
  go_wp2
  go_ret
  exact ⟨rfl, ⟨by simp, Nat.le_refl _, by simp, by simp, fun j => by simp, World.ownsRow_nil _ _ _ _, by simp [Value.ownBlock]⟩, (Below.refl _ _).alloc (Nat.le_refl _) _⟩

theorem put_no (Q : Nat) (n : Int) (w : World) (h : n < 1) :
    Calls Try.prog 11 #[.pointer (some ⟨Q, 0, none⟩), .int .i64 n] w fun e w' => e = .returned (.tuple #[.int .i64 0, .int .i64 1]) ∧ w' = w := by
  go_enter Try.func11, Try.ntmps11
  go_wp2
  go_ret2
  exact ⟨rfl, rfl⟩
theorem put_full (B Q : Nat) (last : Int) (v : Value) (L : List M) (n : Int) (w : World) (hA : QAt w 53 B Q 0 1 last v L) (hL : L.length ≤ 200) (h : 1 ≤ n) (h2 : 200 < L.length + n) :
    Calls Try.prog 11 #[.pointer (some ⟨Q, 0, none⟩), .int .i64 n] w fun e w' => e = .returned (.tuple #[.int .i64 0, .int .i64 6]) ∧ w' = w := by
  obtain ⟨ao, cap, rfl, hc1, hc2, hao⟩ := hA.form
  have cS := hA.cS
  have h3 : (200 : Int) - (L.length : Int) < n := by omega
  have h4 : ¬ n < 1 := by omega
  go_enter Try.func11, Try.ntmps11
  go_wp2
  go_ret2
  exact ⟨rfl, rfl⟩

def PutR (B Q oN oS : Nat) (last : Int) (v : Value) (L : List M) (n : Nat) (w : World) (i : Value) (wr : World) : Prop :=
  ∃ (k : Nat) (v' : Value), k ≤ n ∧ i = .int .i64 k ∧ QAt wr 53 B Q oN oS (last + k) v' (L ++ news last k) ∧ Turn Q v v' w wr
set_option maxHeartbeats 8000000 in
theorem put_yes (B Q : Nat) (last : Int) (v : Value) (L : List M) (n : Nat) (w : World) (hA : QAt w 53 B Q 0 1 last v L) (hl : 0 ≤ last ∧ last ≤ 1000000) (h : 1 ≤ n) (h2 : L.length + n ≤ 200) :
    Calls Try.prog 11 #[.pointer (some ⟨Q, 0, none⟩), .int .i64 (n : Int)] w fun e w' => e = .returned (.tuple #[.int .i64 (last + 1), .int .i64 0]) ∧ ∃ v', QAt w' 53 B Q 0 1 (last + n) v' (L ++ news last n) ∧ Turn Q v v' w w' := by
  obtain ⟨i0, hi, hz0, hz1, hz2⟩ := info_parts info_msg
  have hT0 := Turn.refl Q v w
  obtain ⟨ao, cap, hv, hc1, hc2, hao⟩ := hA.form
  have cS := hA.cS
  have cN := hA.cN
  rw [hv] at cS
  have h3 : ¬ (200 : Int) - (L.length : Int) < n := by omega
  have h4 : ¬ (n : Int) < 1 := by omega
  go_enter Try.func11, Try.ntmps11
  go_wp2
  go_loopw [23] (fun i wr => PutR B Q 0 1 last v L n w i wr) (fun i _ => n - (intOf i).toNat)
  case atStart => exact ⟨0, v, by omega, rfl, by simpa [news_zero] using hA, hT0⟩
  case round =>
    clear hA cS cN hv hao hc1 hc2 hT0
    obtain ⟨k, v1, hk, rfl, hA, hT⟩ := hrel
    by_cases hlt : k < n
    · have hlt' : (k : Int) < (n : Int) := by omega
      have cS := hA.cS
      have cN := hA.cN
      have f0 := hA.fz 0
      have f1 := hA.fz 1
      have hQl := hA.lt
      have hA1 := hA.setN (by decide) (last + k + 1)
      have hT1 := hT.trans (Turn.setQ 0 (.int .i64 (last + k + 1)))
      clear hA hT
      have cS1 := hA1.cS
      have cN1 := hA1.cN
      have f01 := hA1.fz 0
      have f11 := hA1.fz 1
      go_wp2_with fail
      generalize wr.setCell ⟨Q, 0, none⟩ (.int .i64 (last + k + 1)) = w1 at *
      have hQ1 := hA1.lt
      have hBs : B ≤ w1.heap.size := by have := hA1.bQ; omega
      have hlen : (L ++ news last k).length = L.length + k := by rw [List.length_append, news_len]
      have hown := hA1.own
      rw [hlen] at hown
      have HA : Hid (QAt w1 53 B Q 0 1 (last + k + 1) v1 (L ++ news last k)) := hA1
      have HT : Hid (Turn Q v v1 w w1) := hT1
      clear hA1 hT1 cS cN f0 f1 f01
      go_region_law (refine step_own_at rfl (.tmp 36) (.tmp 42) 40 rfl B 53 i0 (.agg #[.int .i64 0, .int .i64 0, .bool false]) 3 24 Try.underlying40 hi hz0 hz1 hz2 rfl (by decide) _ (L.length + k) (cels (L ++ news last k)) rfl ((hown.drew).alloc _) ⟨w1.heap.size, 0, none⟩ 1 1 [.int .i64 (last + k + 1), .int .i64 0, .bool false] rfl rfl (cell_three _ _ _ _ _) (fun u hu => by simp at hu; rcases hu with rfl | rfl | rfl <;> rfl) (by unfold maxLen; omega) (by omega) (by simp; omega) ?_; intro v' w3 hown3 hgrow3 hloc3; obtain ⟨g3, cap3, rfl⟩ := own_succ hown3; have hQ3 := HA.out.appended hgrow3; have cS3 : w3.cell? ⟨Q, 1, none⟩ = some v1 := (World.cell?_of_block (w := w1) (a := ⟨Q, 1, none⟩) hQ3).trans cS1; have f13 : w3.frozen? ⟨Q, 1, none⟩ = false := (World.frozen?_of_block (w := w1) (a := ⟨Q, 1, none⟩) hQ3).trans f11)
      all_goals
        have hL' : (L ++ news last (k + 1)).length = L.length + k + 1 := by rw [List.length_append, news_len]; omega
        have hC' : cels (L ++ news last k) ++ [.int .i64 (last + k + 1), .int .i64 0, .bool false] = cels (L ++ news last (k + 1)) := by
          rw [← news_step, ← List.append_assoc, cels_append (L ++ news last k), show last + 1 + (k : Int) = last + k + 1 by omega]
          rfl
        rw [hC', ← hL'] at hown3
        have hA3 := HA.out.regrown (by decide) hQ3 hown3 (own_off HA.out hloc3)
        rw [hL'] at hA3
        have hT3 := (HT.out.trans (Turn.appended hgrow3 hloc3)).setRow 1 (.slice (some ⟨g3, 0, none⟩) (L.length + k + 1) cap3)
        go_wp2
        go_roundw
        case rel => exact ⟨k + 1, _, by omega, rfl, by rw [show last + ((k + 1 : Nat) : Int) = last + k + 1 by omega]; exact hA3, hT3⟩
        case measure => simp [intOf]; omega
    · obtain rfl : k = n := by omega
      go_wp2
      go_ret2
      exact ⟨rfl, v1, hA, hT⟩
end Que
end Go.Proofs.Ytbfnjjdgiihngaf
