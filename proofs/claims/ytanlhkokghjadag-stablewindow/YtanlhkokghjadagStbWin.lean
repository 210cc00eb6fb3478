
/- The law StableWindow, walked. -/
import Derived.Test.YtanlhkokghjadagStbFree
import Derived.Test.YtanlhkokghjadagRestW
namespace Go.Proofs.Ytanlhkokghjadag
namespace Stb
open Rw Go.RowKit Frm
set_option maxRecDepth 8000

/-- a wish -/
structure Wi where
  n : Int
  h : Int
  w : Int
def wc (y : Wi) : List Value := [.int .i64 y.n, .int .i64 y.h, .int .i64 y.w]
theorem wc_len (y : Wi) : (wc y).length = 3 := rfl
def toMo (y : Wi) : Mo := ⟨y.n, y.w⟩
abbrev WOwn (w : World) (B : Nat) (v : Value) (Y : List Wi) : Prop := Own w B 29 3 v Y.length (cels wc Y)
theorem info_wi : (Try.prog.info? 29).map (fun i => (i.zero, i.size, i.bytes)) = some (some (.agg #[.int .i64 0, .int .i64 0, .int .i64 0]), 3, 24) := by kernel_rfl
theorem own_wi {w : World} {B : Nat} {e : TypeId} {g off cap : Nat} {Y : List Wi} (h : Own w B e 3 (.slice (some ⟨g, off, none⟩) Y.length cap) Y.length (cels wc Y)) {i : Nat} {y : Wi} (hy : Y[i]? = some y) :
    w.cell? ⟨g, off + i * 3, none⟩ = some (.int .i64 y.n) ∧ w.cell? ⟨g, off + i * 3 + 1, none⟩ = some (.int .i64 y.h) ∧ w.cell? ⟨g, off + i * 3 + 2, none⟩ = some (.int .i64 y.w) := by
  have hi : i < Y.length := (List.getElem?_eq_some_iff.1 hy).1
  have a := h.cell (i * 3) (by omega)
  have b := h.cell (i * 3 + 1) (by omega)
  have c := h.cell (i * 3 + 2) (by omega)
  have c0 := cels_get wc_len Y i 0 y hy (by omega)
  have c1 := cels_get wc_len Y i 1 y hy (by omega)
  have c2 := cels_get wc_len Y i 2 y hy (by omega)
  rw [Nat.add_zero] at c0
  rw [c0] at a
  rw [c1] at b
  rw [c2] at c
  exact ⟨a.1, b.1, c.1⟩
theorem cell_three {w : World} {N : Nat} (e : TypeId) (a b c : Value) (hN : N = w.heap.size) : ∀ (j : Nat) (u : Value), [a, b, c][j]? = some u → (w.alloc (.cells #[a, b, c] e)).cell? ((⟨N, 0, none⟩ : Addr).add j) = some u := by
  subst hN
  intro j u h
  match j, h with
  | 0, h => simp at h; subst h; simp [Addr.add]
  | 1, h => simp at h; subst h; simp [Addr.add]
  | 2, h => simp at h; subst h; simp [Addr.add]
  | j + 3, h => simp at h
/-- k wishes are settled; Y are those that were -/
def WnR (B Q : Nat) (W : Int) (n : Nat) (w : World) (v i : Value) (wr : World) : Prop :=
  ∃ (k : Nat) (V : Nat → Value) (s : St) (Y : List Wi), k ≤ n ∧ i = .int .i64 k ∧ SAt wr B Q V s ∧ Fit s (2 * k) ∧ SI (Y.map toMo) s ∧ s.u = ⟨W, 0, 0, 0⟩ ∧ s.d = ⟨W, 0, 0, 0⟩ ∧ WOwn wr B v Y ∧ Y.length ≤ k ∧ (∀ g, v.ownBlock = some g → ¬ blk Q V g) ∧ Below w.heap.size w wr
/-- j of them are looked at -/
def WiR (len : Nat) (w : World) (i : Value) (wr : World) : Prop := ∃ j : Nat, j ≤ len ∧ i = .int .i64 j ∧ Below w.heap.size w wr
theorem clP_win (W : Int) (h0 : 0 ≤ W) (h1 : W < 50) : clP ⟨W, 0, 0, 0⟩ = ⟨W, 0, 0, 0⟩ := by
  have e : cl W = W := by unfold cl; omega
  have e0 : cl 0 = 0 := by decide
  simp only [clP, e, e0]
theorem off_step {Q : Nat} {V V' : Nat → Value} {w w' : World} {v : Value} (h : Step Q V V' w w') (hl : ∀ g, v.ownBlock = some g → g < w.heap.size) (hb : ∀ g, v.ownBlock = some g → ¬ blk Q V g) : ∀ g, v.ownBlock = some g → ¬ blk Q V' g := by
  intro g hg e
  rcases h.loc g e with a | a
  · exact hb g hg a
  · have := hl g hg; omega

set_option maxHeartbeats 8000000 in
theorem window_law (w : World) (win : Int) (a1 : Option Addr) (len cap : Nat) (X : Nat → Nat → Int) (hle : len ≤ cap) (hX : Frm.RowsIn w a1 len 3 X) :
    Calls Try.prog 4 #[.int .i64 win, .slice a1 len cap] w fun e w' => e = .returned (.bool true) ∧ Below w.heap.size w w' := by
  obtain ⟨i0, hi, hz0, hz1, hz2⟩ := info_parts info_wi
  have cS := fun w => slow_any w
  obtain ⟨W, hW⟩ : ∃ W, win % 50 = W := ⟨_, rfl⟩
  have hW0 : 0 ≤ W := by omega
  have hW1 : W < 50 := by omega
  have cR := fun w => Rsw.rest_any win 50 w (by decide) (by decide)
  rw [hW] at cR
  clear hW
  have cN := fun w => new_any ⟨W, 0, 0, 0⟩ ⟨W, 0, 0, 0⟩ w
  unfold pcV at cN
  obtain ⟨n, hn⟩ : ∃ n, min 100 len = n := ⟨_, rfl⟩
  have e1 : (if (len : Int) < 100 then (len : Int) else 100) = (n : Int) := by rw [← hn]; split <;> omega
  have hn1 : n ≤ 100 := by omega
  have hn2 : n ≤ len := by omega
  have hn3 : (n : Int) ≤ (cap : Int) := by omega
  clear hn
  go_enter Try.func4, Try.ntmps4
  go_wp2_with (first
    | (go_at_call 6; (with_reducible refine (cS _).mono ?_); rintro e w1 ⟨rfl, hb1⟩)
    | (go_at_call 9; (with_reducible refine (cR _).mono ?_); rintro e w9 ⟨rfl, h9⟩; have h8 := h9.symm; clear h9; subst h8)
    | (go_at_call 7; (with_reducible refine (cN _).mono ?_); rintro e w2 ⟨Q, rfl, hA2, hb2⟩))
  have hB2 : Below w.heap.size w w2 := hb1.trans (hb2.mono hb1.size)
  go_loopw [7, 29] (fun v i wr => WnR w1.heap.size Q W n w v i wr) (fun _ i _ => n - (intOf i).toNat)
  case atStart => exact ⟨0, _, _, [], by omega, rfl, hA2, new_fit _ _, si_new _ _, clP_win W hW0 hW1, clP_win W hW0 hW1, Own.nil _ _ _ _, by simp, by simp [Value.ownBlock], hB2⟩
  case round =>
    clear hA2 hb2 hB2
    obtain ⟨k, V, s, Y, hk, rfl, hA, hF, hI, hu, hd, hO, hYk, hoff, hbw⟩ := hrel
    by_cases hlt : k < n
    · have hlt' : (k : Int) < n := by omega
      obtain ⟨b, off, rfl, hbl, hcell⟩ := (hX.below hbw (Nat.le_refl _)) k (by omega)
      have k0 : wr.cell? ⟨b, off + k * 3, none⟩ = some (.int .i64 (X k 0)) := by have := (hcell 0 (by omega)).1; simpa using this
      have k1 : wr.cell? ⟨b, off + k * 3 + 1, none⟩ = some (.int .i64 (X k 1)) := by have := (hcell 1 (by omega)).1; simpa [Nat.add_assoc] using this
      have k2 : wr.cell? ⟨b, off + k * 3 + 2, none⟩ = some (.int .i64 (X k 2)) := by have := (hcell 2 (by omega)).1; simpa [Nat.add_assoc] using this
      clear hcell
      generalize X k 0 = now at k0
      generalize X k 1 = hv at k1
      generalize X k 2 = want at k2
      obtain ⟨ao, vc, rfl, hv1, hv2, hvao, -⟩ := hO.form
      have hAW := hA.alloc (.cells #[.int .i64 now, .int .i64 hv, .int .i64 want] 29)
      have hOW := Own.alloc hO (.cells #[.int .i64 now, .int .i64 hv, .int .i64 want] 29)
      have hbW : Below w.heap.size w (wr.alloc (.cells #[.int .i64 now, .int .i64 hv, .int .i64 want] 29)) := hbw.alloc hbw.size _
      have hCb : ¬ blk Q V wr.heap.size := fun e => by have := (hA.blt e).2; omega
      have hCo : (Value.slice ao Y.length vc).ownBlock ≠ some wr.heap.size := fun e => by have := (hO.lt _ e).2; omega
      have x0 : (wr.alloc (.cells #[.int .i64 now, .int .i64 hv, .int .i64 want] 29)).cell? ⟨wr.heap.size, 0, none⟩ = some (.int .i64 now) := by simp
      have x1 : (wr.alloc (.cells #[.int .i64 now, .int .i64 hv, .int .i64 want] 29)).cell? ⟨wr.heap.size, 1, none⟩ = some (.int .i64 hv) := by simp
      have x2 : (wr.alloc (.cells #[.int .i64 now, .int .i64 hv, .int .i64 want] 29)).cell? ⟨wr.heap.size, 2, none⟩ = some (.int .i64 want) := by simp
      have hCl : wr.heap.size < (wr.alloc (.cells #[.int .i64 now, .int .i64 hv, .int .i64 want] 29)).heap.size := by simp
      obtain ⟨N, hN⟩ : ∃ N, setN s now hv want = N := ⟨_, rfl⟩
      obtain ⟨E, hE⟩ : ∃ E, setE s now hv want = E := ⟨_, rfl⟩
      have hp := setS_pace s now hv want
      have hF' : Fit (setS s now hv want) (2 * (k + 1)) := hF.setS now hv want
      have c1 := set_use _ Q V s now hv want (2 * k) _ hAW hF (by omega) hN hE rfl
      by_cases hE0 : E = 0
      · have ho := setE_ok (hE.trans hE0)
        have hoa := okArg_iff.1 ho
        have hl0 := hF.last
        have hbu : bnd s.u = false := by rw [hu]; rfl
        have hbd : bnd s.d = false := by rw [hd]; rfl
        have hwin : ∀ (i : Nat) (y : Wi), Y[i]? = some y → (now - W < y.n → N < hv → y.w ≤ N) ∧ (now - W < y.n → hv < N → N ≤ y.w) := fun i y hy => by
          have := window hI hF ho hbu hbd (y := toMo y) (List.mem_map.2 ⟨y, List.mem_of_getElem? hy, rfl⟩)
          rw [hN, hu, hd] at this
          exact this
        have hI' : SI ((Y ++ [(⟨now, hv, want⟩ : Wi)]).map toMo) (setS s now hv want) := by
          rw [List.map_append]; exact hI.set hF ho
        have hn0 : 0 ≤ now := by omega
        have hn9 : now ≤ 1099511627776 := hoa.2.1
        subst hE0
        have HK : Hid (∀ w3 V', SAt w3 w1.heap.size Q V' (setS s now hv want) → Step Q V V' (wr.alloc (.cells #[.int .i64 now, .int .i64 hv, .int .i64 want] 29)) w3 → WOwn w3 w1.heap.size (.slice ao Y.length vc) Y ∧ (∀ g, (Value.slice ao Y.length vc).ownBlock = some g → ¬ blk Q V' g) ∧ w3.cell? ⟨wr.heap.size, 0, none⟩ = some (.int .i64 now) ∧ w3.cell? ⟨wr.heap.size, 1, none⟩ = some (.int .i64 hv) ∧ w3.cell? ⟨wr.heap.size, 2, none⟩ = some (.int .i64 want) ∧ wr.heap.size < w3.heap.size ∧ Below w.heap.size w w3) := by
          intro w3 V' h3 hs3
          have hk3 := hs3.block wr.heap.size hCl hCb
          refine ⟨Own.kept hOW (fun g hg => hs3.block g (hOW.lt g hg).2 (hoff g hg)), off_step hs3 (fun g hg => (hOW.lt g hg).2) hoff, ?_, ?_, ?_, Nat.lt_of_lt_of_le hCl hs3.size, hbW.trans ((hs3.below hAW (by have := hA.lt; have := hA.bQ; simp; omega)).mono hb1.size)⟩
          · exact (World.cell?_of_block (a := ⟨wr.heap.size, 0, none⟩) hk3).trans x0
          · exact (World.cell?_of_block (a := ⟨wr.heap.size, 1, none⟩) hk3).trans x1
          · exact (World.cell?_of_block (a := ⟨wr.heap.size, 2, none⟩) hk3).trans x2
        have HP : Hid (∀ (w4 : World) (v4 : Value) (V' : Nat → Value), SAt w4 w1.heap.size Q V' (setS s now hv want) → Own w4 w1.heap.size 29 3 v4 (Y.length + 1) (cels wc Y ++ [.int .i64 now, .int .i64 hv, .int .i64 want]) → (∀ g, v4.ownBlock = some g → ¬ blk Q V' g) → Below w.heap.size w w4 → WnR w1.heap.size Q W n w v4 (.int .i64 ((k : Int) + 1)) w4) := by
          intro w4 v4 V' h4 hO4 hoff4 hb4
          refine ⟨k + 1, V', _, Y ++ [⟨now, hv, want⟩], by omega, by simp, h4, hF', hI', hp.1.trans hu, hp.2.trans hd, ?_, by simp; omega, hoff4, hb4⟩
          show Own w4 _ _ 3 v4 (Y ++ [(⟨now, hv, want⟩ : Wi)]).length (cels wc (Y ++ [(⟨now, hv, want⟩ : Wi)]))
          rw [cels_append, List.length_append]
          exact hO4
        clear hA hF hI hu hd hF' hI' hp hN hE hAW hOW hbW hCb hbw hO x0 x1 x2 hoa ho hbu hbd hl0 hCo hoff
        go_wp2_with (go_at_call 8; (with_reducible refine c1.mono ?_); rintro e w3 ⟨rfl, V3, hA3, hS3, hb3⟩; have HA3 : Hid (SAt w3 w1.heap.size Q V3 (setS s now hv want)) := hA3; obtain ⟨hO3, ho3, y0, y1, y2, hCl3, hbw3⟩ := HK.out w3 V3 hA3 hS3; have HO3 : Hid (∀ g, (Value.slice ao Y.length vc).ownBlock = some g → ¬ blk Q V3 g) := ho3; clear hA3 hS3 hb3 ho3)
        clear HK c1 k0 k1 k2 hCl
        generalize wr.heap.size = C at *
        go_loopw [48] (fun i wr2 => WiR Y.length w3 i wr2) (fun i _ => Y.length - (intOf i).toNat)
        case atStart => exact ⟨0, by omega, rfl, Below.refl _ _⟩
        case round =>
          obtain ⟨j, hj, rfl, hb4⟩ := hrel
          have z0 := (hb4.cell (p := ⟨C, 0, none⟩) hCl3).trans y0
          have z1 := (hb4.cell (p := ⟨C, 1, none⟩) hCl3).trans y1
          have z2 := (hb4.cell (p := ⟨C, 2, none⟩) hCl3).trans y2
          have hz := Nat.lt_of_lt_of_le hCl3 hb4.size
          have hO4 : WOwn wr w1.heap.size (.slice ao Y.length vc) Y := Own.below hO3 hb4
          by_cases hjl : j < Y.length
          · have hjl' : (j : Int) < (Y.length : Int) := by omega
            obtain ⟨g, go, rfl⟩ := hvao (by omega)
            obtain ⟨y, hy⟩ : ∃ y, Y[j]? = some y := ⟨Y[j], by simp [hjl]⟩
            obtain ⟨v0, v1, v2⟩ := own_wi hO4 hy
            obtain ⟨hwa, hwb⟩ := hwin j y hy
            have HR : Hid (WiR Y.length w3 (.int .i64 ((j : Int) + 1)) (wr.alloc (.cells #[.int .i64 y.n, .int .i64 y.h, .int .i64 y.w] 29))) := ⟨j + 1, by omega, by simp, hb4.alloc hb4.size _⟩
            clear hwin hO3 hO4 hb4 y0 y1 y2
            by_cases d1 : now - W < y.n
            · by_cases d2 : N < hv
              · have d3 : ¬ N < y.w := by have := hwa d1 d2; omega
                have d4 : ¬ hv < N := by omega
                clear hwa hwb
                go_wp2
                go_roundw
                case rel => exact HR.out
                case measure => simp [intOf]; omega
              · by_cases d4 : hv < N
                · have d3 : ¬ y.w < N := by have := hwb d1 d4; omega
                  clear hwa hwb
                  go_wp2
                  go_roundw
                  case rel => exact HR.out
                  case measure => simp [intOf]; omega
                · clear hwa hwb
                  go_wp2
                  go_roundw
                  case rel => exact HR.out
                  case measure => simp [intOf]; omega
            · clear hwa hwb
              go_wp2
              go_roundw
              case rel => exact HR.out
              case measure => simp [intOf]; omega
          · obtain rfl : j = Y.length := by omega
            have hA4 : SAt wr w1.heap.size Q V3 (setS s now hv want) := HA3.out.below hb4
            have hb5 : Below w.heap.size w wr := hbw3.trans (hb4.mono hbw3.size)
            have hBs : w1.heap.size ≤ wr.heap.size := Nat.le_trans hA4.bQ (Nat.le_of_lt hA4.lt)
            have HX : Hid (∀ (o : Obj) (w5 : World) (v5 : Value), Own w5 w1.heap.size 29 3 v5 (Y.length + 1) (cels wc Y ++ [.int .i64 now, .int .i64 hv, .int .i64 want]) → (wr.alloc o).grownBy w5 (Value.slice ao Y.length vc).ownBlock → (v5.ownBlock = (Value.slice ao Y.length vc).ownBlock ∨ v5.ownBlock = some (wr.alloc o).heap.size) → WnR w1.heap.size Q W n w v5 (.int .i64 ((k : Int) + 1)) w5) := by
              intro o w5 v5 hO5 hg5 hl5
              have hA5 := hA4.alloc o
              have hk5 : SAt w5 w1.heap.size Q V3 (setS s now hv want) := hA5.kept (fun x hx => hg5.block x (hA5.blt hx).2 (fun e => HO3.out x e.symm hx))
              refine HP.out w5 v5 V3 hk5 hO5 (fun g hg hx => ?_) ⟨hg5.os.trans hb5.os, hg5.tape.trans hb5.tape, hg5.output.trans hb5.output, Nat.le_trans hb5.size (Nat.le_trans (by simp) hg5.size), fun x hx => ?_⟩
              · rcases hl5 with e | e
                · exact HO3.out g (by rw [← e]; exact hg) hx
                · rw [e] at hg; cases hg; have := (hA5.blt hx).2; omega
              · refine (hg5.block x (by have := hb5.size; simp; omega) (fun e => ?_)).trans ((Below.heap_alloc wr o x (by have := hb5.size; omega)).trans (hb5.block x hx))
                have := (hO4.lt x e.symm).1
                have := hb1.size
                omega
            clear hA4 hb4 hb5 hO3 hwin y0 y1 y2
            go_wp2_with (at_builtin; refine wpList_at rfl _ _ 22 rfl w1.heap.size 29 i0 (.agg #[.int .i64 0, .int .i64 0, .int .i64 0]) 3 24 Try.underlying22 hi hz0 hz1 hz2 rfl _ _ _ rfl (Own.alloc hO4 _) ⟨wr.heap.size, 0, none⟩ 1 1 [.int .i64 now, .int .i64 hv, .int .i64 want] rfl rfl (cell_three _ _ _ _ rfl) (fun u hu => by simp at hu; rcases hu with rfl | rfl | rfl <;> rfl) (by decide) (by unfold maxLen; omega) (by omega) (by simp; omega) ?_; intro v5 w5 hown5 hgrow5 hloc5; have HR : Hid _ := HX.out _ w5 v5 hown5 hgrow5 hloc5)
            go_roundw
            case rel => exact HR.out
            case measure => simp [intOf]; omega
      · have hE1 : (E != 0) = true := by simp [hE0]
        have hno := setE_no (fun h => hE0 (hE.symm.trans h))
        have hI' : SI (Y.map toMo) (setS s now hv want) := by rw [hno.2.2]; exact hI
        have HG : Hid (∀ w3 V', SAt w3 w1.heap.size Q V' (setS s now hv want) → Step Q V V' (wr.alloc (.cells #[.int .i64 now, .int .i64 hv, .int .i64 want] 29)) w3 → WnR w1.heap.size Q W n w (.slice ao Y.length vc) (.int .i64 ((k : Int) + 1)) w3) := by
          intro w3 V' h3 hs3
          exact ⟨k + 1, V', _, Y, by omega, by simp, h3, hF', hI', hp.1.trans hu, hp.2.trans hd, Own.kept hOW (fun g hg => hs3.block g (hOW.lt g hg).2 (hoff g hg)), by omega, off_step hs3 (fun g hg => (hOW.lt g hg).2) hoff, hbW.trans ((hs3.below hAW (by have := hA.lt; have := hA.bQ; simp; omega)).mono hb1.size)⟩
        clear hA hF hI hu hd hF' hI' hp hN hE hAW hOW hbW hCb hbw hO x0 x1 x2 hCo hoff hno
        go_wp2_with (go_at_call 8; (with_reducible refine c1.mono ?_); rintro e w3 ⟨rfl, V3, hA3, hS3, hb3⟩; have HR : Hid _ := HG.out w3 V3 hA3 hS3; clear hA3 hS3 hb3)
        go_roundw
        case rel => exact HR.out
        case measure => simp [intOf]; omega
    · obtain rfl : k = n := by omega
      go_wp2
      go_ret
      exact ⟨rfl, hbw⟩
end Stb
end Go.Proofs.Ytanlhkokghjadag
