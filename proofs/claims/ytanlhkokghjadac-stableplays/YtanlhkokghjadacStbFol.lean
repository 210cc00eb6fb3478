
/- What follow answers, with either of know's closures. -/
import Derived.Test.YtanlhkokghjadacStbRow
namespace Go.Proofs.Ytanlhkokghjadac
namespace Stb
open Rw Go.RowKit
set_option maxRecDepth 8000

theorem info_mo : (Try.prog.info? 57).map (fun i => (i.zero, i.size, i.bytes)) = some (some (.agg #[.int .i64 0, .int .i64 0]), 2, 16) := by kernel_rfl
theorem cell_two (w : World) (e : TypeId) (a b : Value) : ∀ (j : Nat) (u : Value), [a, b][j]? = some u → (w.alloc (.cells #[a, b] e)).cell? ((⟨w.heap.size, 0, none⟩ : Addr).add j) = some u := by
  intro j u h
  match j, h with
  | 0, h => simp at h; subst h; simp [Addr.add]
  | 1, h => simp at h; subst h; simp [Addr.add]
  | j + 2, h => simp at h
theorem grown_trans {w w1 w2 : World} {r : Option Nat} (h : w.grownBy w1 r) (g : w1.grownBy w2 r) : w.grownBy w2 r :=
  ⟨g.os.trans h.os, g.tape.trans h.tape, g.output.trans h.output, Nat.le_trans h.size g.size, fun b h1 h2 => (g.block b (Nat.lt_of_lt_of_le h1 h.size) h2).trans (h.block b h1 h2)⟩
theorem grown_drew (w : World) (o : Obj) (r : Option Nat) : w.grownBy (w.drew.alloc o) r := ⟨rfl, rfl, rfl, by simp, fun k hk _ => Below.heap_alloc w.drew o k hk⟩
/-- what follow comes to -/
def FolA (B : Nat) (v : Value) (q : Int → Bool) (L : List Mo) (m : Mo) (w : World) (e : Ending) (w' : World) : Prop :=
  ∃ v', e = .returned v' ∧ MOwn w' B v' (fol q L m) ∧ w.grownBy w' v.ownBlock ∧ (v'.ownBlock = v.ownBlock ∨ ∃ g, v'.ownBlock = some g ∧ w.heap.size ≤ g)
theorem fol_is {B k : Nat} {ao : Option Addr} {cap : Nat} {q : Int → Bool} {L : List Mo} {m : Mo} {w w1 w3 : World} {v' : Value} (hw : w.grownBy w1 (Value.slice ao L.length cap).ownBlock) (hk : k ≤ L.length) (he : cutE q L = L.take k)
    (hO : Own w3 B 57 2 v' (k + 1) (cels mc (L.take k) ++ [.int .i64 m.t, .int .i64 m.p])) (hg : w1.grownBy w3 (Value.slice ao k cap).ownBlock) (hl : v'.ownBlock = (Value.slice ao k cap).ownBlock ∨ v'.ownBlock = some w1.heap.size) : FolA B (.slice ao L.length cap) q L m w (.returned v') w3 := by
  have hb : (Value.slice ao k cap).ownBlock = (Value.slice ao L.length cap).ownBlock := by cases ao <;> rfl
  rw [hb] at hg hl
  refine ⟨v', rfl, ?_, ⟨hg.os.trans hw.os, hg.tape.trans hw.tape, hg.output.trans hw.output, Nat.le_trans hw.size hg.size, fun b h1 h2 => (hg.block b (Nat.lt_of_lt_of_le h1 hw.size) h2).trans (hw.block b h1 h2)⟩, hl.imp id fun e => ⟨_, e, hw.size⟩⟩
  have h1 : (fol q L m).length = k + 1 := by simp [fol, he]; omega
  have h2 : cels mc (fol q L m) = cels mc (L.take k) ++ [.int .i64 m.t, .int .i64 m.p] := by
    unfold fol; rw [cels_append, he]; rfl
  show Own w3 B _ 2 v' _ _
  rw [h1, h2]
  exact hO
def FoR (q : Int → Bool) (L : List Mo) (w1 : World) (i : Value) (wr : World) : Prop :=
  ∃ k : Nat, k ≤ L.length ∧ i = .int .i64 k ∧ (∀ j m, k ≤ j → L[j]? = some m → q m.p = true) ∧ wr = w1
theorem fo_step {q : Int → Bool} {L : List Mo} {k : Nat} {m : Mo} (h : ∀ j x, k + 1 ≤ j → L[j]? = some x → q x.p = true) (hm : L[k]? = some m) (hp : q m.p = true) : ∀ j x, k ≤ j → L[j]? = some x → q x.p = true := by
  intro j x hj hx
  by_cases e : j = k
  · subst e; rw [hm] at hx; cases hx; exact hp
  · exact h j x (by omega) hx

theorem kn1_any (old want : Int) (C : Nat) (w : World) (hC : w.cell? ⟨C, 0, none⟩ = some (.int .i64 want)) :
    Calls Try.prog 20 #[.int .i64 old, .pointer (some ⟨C, 0, none⟩)] w fun e w' => e = .returned (.bool (geq want old)) ∧ w' = w := by
  go_enter Try.func20, Try.ntmps20
  go_wp2
  go_ret
  exact ⟨rfl, rfl⟩
set_option maxHeartbeats 4000000 in
theorem fol1_any (B C : Nat) (v : Value) (L : List Mo) (t p want : Int) (w : World) (hO : MOwn w B v L) (hL : L.length ≤ 100000) (hB : B ≤ w.heap.size) (hC : w.cell? ⟨C, 0, none⟩ = some (.int .i64 want)) :
    Calls Try.prog 19 #[v, .agg #[.int .i64 t, .int .i64 p], .func (.func 20) #[] #[.pointer (some ⟨C, 0, none⟩)]] w (FolA B v (geq want) L ⟨t, p⟩ w) := by
  obtain ⟨i0, hi, hz0, hz1, hz2⟩ := info_parts info_mo
  obtain ⟨ao, cap, rfl, hc1, hc2, hao, hnn, hsm⟩ := hO.form
  have hCl := World.block_lt_of_cell? w _ hC
  simp only at hCl
  go_enter Try.func19, Try.ntmps19
  go_wp2
  have hC1 : (w.alloc (.cells #[.int .i64 t, .int .i64 p] 57)).cell? ⟨C, 0, none⟩ = some (.int .i64 want) := (World.cell?_of_block (w := w) (a := ⟨C, 0, none⟩) (Below.heap_alloc w _ C hCl)).trans hC
  have hO1 : MOwn (w.alloc (.cells #[.int .i64 t, .int .i64 p] 57)) B (.slice ao L.length cap) L := Own.alloc hO _
  have hE0 : (w.alloc (.cells #[.int .i64 t, .int .i64 p] 57)).cell? ⟨w.heap.size, 0, none⟩ = some (.int .i64 t) := by simp
  have hE1 : (w.alloc (.cells #[.int .i64 t, .int .i64 p] 57)).cell? ⟨w.heap.size, 1, none⟩ = some (.int .i64 p) := by simp
  have hG1 := World.grownBy_alloc w (.cells #[.int .i64 t, .int .i64 p] 57) (Value.slice ao L.length cap).ownBlock
  have hB1 : B ≤ (w.alloc (.cells #[.int .i64 t, .int .i64 p] 57)).heap.size := by simp; omega
  generalize w.alloc (.cells #[.int .i64 t, .int .i64 p] 57) = w1 at *
  clear hO hC hCl
  go_loopw [7] (fun i wr => FoR (geq want) L w1 i wr) (fun i _ => (intOf i).toNat)
  case atStart => exact ⟨L.length, Nat.le_refl _, rfl, fun j m hj hm => absurd (List.getElem?_eq_some_iff.1 hm).1 (by omega), rfl⟩
  case round =>
    obtain ⟨k, hk, rfl, hall, hwr⟩ := hrel
    subst hwr
    have hF : ∀ k, k ≤ L.length → Own wr B 57 2 (.slice ao k cap) k (cels mc (L.take k)) := fun k hk => by
      have := hO1.front k hk
      rw [← cels_take mc_len] at this
      exact this
    have hfin : ∀ k, k ≤ L.length → (∀ j m, k ≤ j → L[j]? = some m → geq want m.p = true) → (k = 0 ∨ ∃ m, L[k - 1]? = some m ∧ geq want m.p = false) → Hid (∀ (o : Obj) (w3 : World) (v' : Value), Own w3 B 57 2 v' (k + 1) (cels mc (L.take k) ++ [.int .i64 t, .int .i64 p]) → (wr.drew.alloc o).grownBy w3 (Value.slice ao k cap).ownBlock → (v'.ownBlock = (Value.slice ao k cap).ownBlock ∨ v'.ownBlock = some (wr.drew.alloc o).heap.size) → FolA B (.slice ao L.length cap) (geq want) L ⟨t, p⟩ w (.returned v') w3) :=
      fun k hk h1 h2 o w3 v' a b c => fol_is (m := ⟨t, p⟩) (grown_trans hG1 (grown_drew wr o _)) hk (cutE_is _ L k hk h1 h2) a b c
    cases k with
    | zero =>
      have HF := hfin 0 (Nat.zero_le _) hall (Or.inl rfl)
      have hF0 := hF 0 (Nat.zero_le _)
      clear hfin hall hF
      have hk0 : ((0 : Nat) : Int) ≤ (cap : Int) := by omega
      go_wp2_with fail
      cases ao with
      | none =>
        obtain rfl := hnn rfl
        go_region_law (refine step_at rfl (.tmp 26) (.tmp 28) 37 rfl B 57 i0 (.agg #[.int .i64 0, .int .i64 0]) 2 16 Try.underlying37 hi hz0 hz1 hz2 rfl _ 0 (cels mc (L.take (0))) rfl ((hF0.drew).alloc _) ⟨wr.heap.size, 0, none⟩ 1 1 [.int .i64 t, .int .i64 p] rfl rfl (cell_two _ _ _ _) (fun u hu => by simp at hu; rcases hu with rfl | rfl <;> rfl) (by decide) (by unfold maxLen; omega) (by omega) (by simp; omega) ?_; intro v' w3 hown3 hgrow3 hloc3)
        all_goals
          go_wp2
          go_ret
          exact HF.out _ w3 v' hown3 hgrow3 hloc3
      | some a =>
        obtain ⟨g, off, rfl⟩ := hsm a rfl
        go_region_law (refine step_at rfl (.tmp 26) (.tmp 28) 37 rfl B 57 i0 (.agg #[.int .i64 0, .int .i64 0]) 2 16 Try.underlying37 hi hz0 hz1 hz2 rfl _ 0 (cels mc (L.take (0))) rfl ((hF0.drew).alloc _) ⟨wr.heap.size, 0, none⟩ 1 1 [.int .i64 t, .int .i64 p] rfl rfl (cell_two _ _ _ _) (fun u hu => by simp at hu; rcases hu with rfl | rfl <;> rfl) (by decide) (by unfold maxLen; omega) (by omega) (by simp; omega) ?_; intro v' w3 hown3 hgrow3 hloc3)
        all_goals
          go_wp2
          go_ret
          exact HF.out _ w3 v' hown3 hgrow3 hloc3
    | succ k =>
      have hlt : k < L.length := by omega
      obtain ⟨g, off, rfl⟩ := hao (by omega)
      obtain ⟨m, hm⟩ : ∃ m, L[k]? = some m := ⟨L[k], by simp [hlt]⟩
      obtain ⟨c0, c1, _, _, hg⟩ := own_mo hO1 rfl hm
      have hk1 : ((k + 1 : Nat) : Int) - 1 = (k : Int) := by omega
      have hk2 : (0 : Int) < ((k + 1 : Nat) : Int) := by omega
      cases hp : geq want m.p
      · have HF := hfin (k + 1) hk hall (Or.inr ⟨m, hm, hp⟩)
        have hF0 := hF (k + 1) hk
        have hq1 : (0 : Int) ≤ (k : Int) + 1 := by omega
        have hq2 : (k : Int) + 1 ≤ (cap : Int) := by omega
        clear hfin hall hF
        go_wp2_with (go_at_call 20; (with_reducible refine (kn1_any m.p want C _ hC1).mono ?_); rw [hp]; rintro e w' ⟨rfl, h9⟩; have h8 := h9.symm; clear h9; subst h8)
        go_region_law (refine step_at rfl (.tmp 26) (.tmp 28) 37 rfl B 57 i0 (.agg #[.int .i64 0, .int .i64 0]) 2 16 Try.underlying37 hi hz0 hz1 hz2 rfl _ (k + 1) (cels mc (L.take ((k + 1)))) rfl ((hF0.drew).alloc _) ⟨wr.heap.size, 0, none⟩ 1 1 [.int .i64 t, .int .i64 p] rfl rfl (cell_two _ _ _ _) (fun u hu => by simp at hu; rcases hu with rfl | rfl <;> rfl) (by decide) (by unfold maxLen; omega) (by omega) (by simp; omega) ?_; intro v' w3 hown3 hgrow3 hloc3)
        all_goals
          go_wp2
          go_ret
          exact HF.out _ w3 v' hown3 hgrow3 hloc3
      · have hs := fo_step hall hm hp
        clear hfin hall hF
        go_wp2_with (go_at_call 20; (with_reducible refine (kn1_any m.p want C _ hC1).mono ?_); rw [hp]; rintro e w' ⟨rfl, h9⟩; have h8 := h9.symm; clear h9; subst h8)
        go_roundw
        case rel => exact ⟨k, by omega, by simp, hs, rfl⟩
        case measure => simp [intOf]

theorem kn2_any (old want : Int) (C : Nat) (w : World) (hC : w.cell? ⟨C, 0, none⟩ = some (.int .i64 want)) :
    Calls Try.prog 21 #[.int .i64 old, .pointer (some ⟨C, 0, none⟩)] w fun e w' => e = .returned (.bool (leq want old)) ∧ w' = w := by
  go_enter Try.func21, Try.ntmps21
  go_wp2
  go_ret
  exact ⟨rfl, rfl⟩
set_option maxHeartbeats 4000000 in
theorem fol2_any (B C : Nat) (v : Value) (L : List Mo) (t p want : Int) (w : World) (hO : MOwn w B v L) (hL : L.length ≤ 100000) (hB : B ≤ w.heap.size) (hC : w.cell? ⟨C, 0, none⟩ = some (.int .i64 want)) :
    Calls Try.prog 19 #[v, .agg #[.int .i64 t, .int .i64 p], .func (.func 21) #[] #[.pointer (some ⟨C, 0, none⟩)]] w (FolA B v (leq want) L ⟨t, p⟩ w) := by
  obtain ⟨i0, hi, hz0, hz1, hz2⟩ := info_parts info_mo
  obtain ⟨ao, cap, rfl, hc1, hc2, hao, hnn, hsm⟩ := hO.form
  have hCl := World.block_lt_of_cell? w _ hC
  simp only at hCl
  go_enter Try.func19, Try.ntmps19
  go_wp2
  have hC1 : (w.alloc (.cells #[.int .i64 t, .int .i64 p] 57)).cell? ⟨C, 0, none⟩ = some (.int .i64 want) := (World.cell?_of_block (w := w) (a := ⟨C, 0, none⟩) (Below.heap_alloc w _ C hCl)).trans hC
  have hO1 : MOwn (w.alloc (.cells #[.int .i64 t, .int .i64 p] 57)) B (.slice ao L.length cap) L := Own.alloc hO _
  have hE0 : (w.alloc (.cells #[.int .i64 t, .int .i64 p] 57)).cell? ⟨w.heap.size, 0, none⟩ = some (.int .i64 t) := by simp
  have hE1 : (w.alloc (.cells #[.int .i64 t, .int .i64 p] 57)).cell? ⟨w.heap.size, 1, none⟩ = some (.int .i64 p) := by simp
  have hG1 := World.grownBy_alloc w (.cells #[.int .i64 t, .int .i64 p] 57) (Value.slice ao L.length cap).ownBlock
  have hB1 : B ≤ (w.alloc (.cells #[.int .i64 t, .int .i64 p] 57)).heap.size := by simp; omega
  generalize w.alloc (.cells #[.int .i64 t, .int .i64 p] 57) = w1 at *
  clear hO hC hCl
  go_loopw [7] (fun i wr => FoR (leq want) L w1 i wr) (fun i _ => (intOf i).toNat)
  case atStart => exact ⟨L.length, Nat.le_refl _, rfl, fun j m hj hm => absurd (List.getElem?_eq_some_iff.1 hm).1 (by omega), rfl⟩
  case round =>
    obtain ⟨k, hk, rfl, hall, hwr⟩ := hrel
    subst hwr
    have hF : ∀ k, k ≤ L.length → Own wr B 57 2 (.slice ao k cap) k (cels mc (L.take k)) := fun k hk => by
      have := hO1.front k hk
      rw [← cels_take mc_len] at this
      exact this
    have hfin : ∀ k, k ≤ L.length → (∀ j m, k ≤ j → L[j]? = some m → leq want m.p = true) → (k = 0 ∨ ∃ m, L[k - 1]? = some m ∧ leq want m.p = false) → Hid (∀ (o : Obj) (w3 : World) (v' : Value), Own w3 B 57 2 v' (k + 1) (cels mc (L.take k) ++ [.int .i64 t, .int .i64 p]) → (wr.drew.alloc o).grownBy w3 (Value.slice ao k cap).ownBlock → (v'.ownBlock = (Value.slice ao k cap).ownBlock ∨ v'.ownBlock = some (wr.drew.alloc o).heap.size) → FolA B (.slice ao L.length cap) (leq want) L ⟨t, p⟩ w (.returned v') w3) :=
      fun k hk h1 h2 o w3 v' a b c => fol_is (m := ⟨t, p⟩) (grown_trans hG1 (grown_drew wr o _)) hk (cutE_is _ L k hk h1 h2) a b c
    cases k with
    | zero =>
      have HF := hfin 0 (Nat.zero_le _) hall (Or.inl rfl)
      have hF0 := hF 0 (Nat.zero_le _)
      clear hfin hall hF
      have hk0 : ((0 : Nat) : Int) ≤ (cap : Int) := by omega
      go_wp2_with fail
      cases ao with
      | none =>
        obtain rfl := hnn rfl
        go_region_law (refine step_at rfl (.tmp 26) (.tmp 28) 37 rfl B 57 i0 (.agg #[.int .i64 0, .int .i64 0]) 2 16 Try.underlying37 hi hz0 hz1 hz2 rfl _ 0 (cels mc (L.take (0))) rfl ((hF0.drew).alloc _) ⟨wr.heap.size, 0, none⟩ 1 1 [.int .i64 t, .int .i64 p] rfl rfl (cell_two _ _ _ _) (fun u hu => by simp at hu; rcases hu with rfl | rfl <;> rfl) (by decide) (by unfold maxLen; omega) (by omega) (by simp; omega) ?_; intro v' w3 hown3 hgrow3 hloc3)
        all_goals
          go_wp2
          go_ret
          exact HF.out _ w3 v' hown3 hgrow3 hloc3
      | some a =>
        obtain ⟨g, off, rfl⟩ := hsm a rfl
        go_region_law (refine step_at rfl (.tmp 26) (.tmp 28) 37 rfl B 57 i0 (.agg #[.int .i64 0, .int .i64 0]) 2 16 Try.underlying37 hi hz0 hz1 hz2 rfl _ 0 (cels mc (L.take (0))) rfl ((hF0.drew).alloc _) ⟨wr.heap.size, 0, none⟩ 1 1 [.int .i64 t, .int .i64 p] rfl rfl (cell_two _ _ _ _) (fun u hu => by simp at hu; rcases hu with rfl | rfl <;> rfl) (by decide) (by unfold maxLen; omega) (by omega) (by simp; omega) ?_; intro v' w3 hown3 hgrow3 hloc3)
        all_goals
          go_wp2
          go_ret
          exact HF.out _ w3 v' hown3 hgrow3 hloc3
    | succ k =>
      have hlt : k < L.length := by omega
      obtain ⟨g, off, rfl⟩ := hao (by omega)
      obtain ⟨m, hm⟩ : ∃ m, L[k]? = some m := ⟨L[k], by simp [hlt]⟩
      obtain ⟨c0, c1, _, _, hg⟩ := own_mo hO1 rfl hm
      have hk1 : ((k + 1 : Nat) : Int) - 1 = (k : Int) := by omega
      have hk2 : (0 : Int) < ((k + 1 : Nat) : Int) := by omega
      cases hp : leq want m.p
      · have HF := hfin (k + 1) hk hall (Or.inr ⟨m, hm, hp⟩)
        have hF0 := hF (k + 1) hk
        have hq1 : (0 : Int) ≤ (k : Int) + 1 := by omega
        have hq2 : (k : Int) + 1 ≤ (cap : Int) := by omega
        clear hfin hall hF
        go_wp2_with (go_at_call 21; (with_reducible refine (kn2_any m.p want C _ hC1).mono ?_); rw [hp]; rintro e w' ⟨rfl, h9⟩; have h8 := h9.symm; clear h9; subst h8)
        go_region_law (refine step_at rfl (.tmp 26) (.tmp 28) 37 rfl B 57 i0 (.agg #[.int .i64 0, .int .i64 0]) 2 16 Try.underlying37 hi hz0 hz1 hz2 rfl _ (k + 1) (cels mc (L.take ((k + 1)))) rfl ((hF0.drew).alloc _) ⟨wr.heap.size, 0, none⟩ 1 1 [.int .i64 t, .int .i64 p] rfl rfl (cell_two _ _ _ _) (fun u hu => by simp at hu; rcases hu with rfl | rfl <;> rfl) (by decide) (by unfold maxLen; omega) (by omega) (by simp; omega) ?_; intro v' w3 hown3 hgrow3 hloc3)
        all_goals
          go_wp2
          go_ret
          exact HF.out _ w3 v' hown3 hgrow3 hloc3
      · have hs := fo_step hall hm hp
        clear hfin hall hF
        go_wp2_with (go_at_call 21; (with_reducible refine (kn2_any m.p want C _ hC1).mono ?_); rw [hp]; rintro e w' ⟨rfl, h9⟩; have h8 := h9.symm; clear h9; subst h8)
        go_roundw
        case rel => exact ⟨k, by omega, by simp, hs, rfl⟩
        case measure => simp [intOf]
end Stb
end Go.Proofs.Ytanlhkokghjadac
