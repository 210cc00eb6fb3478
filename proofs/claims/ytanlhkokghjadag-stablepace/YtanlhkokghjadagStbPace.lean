
/- The law StablePace, walked. -/
import Derived.Test.YtanlhkokghjadagStbWin
import Derived.Test.YtanlhkokghjadagStbTI
namespace Go.Proofs.Ytanlhkokghjadag
namespace Stb
open Rw Go.RowKit Frm
set_option maxRecDepth 8000

/-- what is known behind k wants: Y are the moves to more -/
structure PcI (p per : Int) (k : Nat) (s : St) (Y : List Wi) (nw hv : Int) : Prop where
  fit : Fit s (2 * k)
  mi : ∃ M, MI M s ∧ ∀ t, sumF fup M t = sumF fup (Y.map toMo) t
  si : ∃ H, SI H s
  u : s.u = ⟨0, p, 0, per⟩
  last : s.last ≤ nw
  nw : 0 ≤ nw ∧ nw ≤ 7 * k
  hv : 0 ≤ hv ∧ hv ≤ 50
  yl : Y.length ≤ k
  yw : ∀ y ∈ Y, 0 ≤ y.w ∧ y.w ≤ 50
/-- k wants are settled -/
def PcR (B Q : Nat) (p per : Int) (n : Nat) (w : World) (vn vh v i : Value) (wr : World) : Prop :=
  ∃ (k : Nat) (V : Nat → Value) (s : St) (Y : List Wi) (nw hv : Int), k ≤ n ∧ i = .int .i64 k ∧ vn = .int .i64 nw ∧ vh = .int .i64 hv ∧ SAt wr B Q V s ∧ PcI p per k s Y nw hv ∧ WOwn wr B v Y ∧ (∀ g, v.ownBlock = some g → ¬ blk Q V g) ∧ Below w.heap.size w wr
/-- j moves are summed up -/
def SuR (Y : List Wi) (x t : Int) (w : World) (g i : Value) (wr : World) : Prop := ∃ j : Nat, j ≤ Y.length ∧ i = .int .i64 j ∧ g = .int .i64 (x + sumF fup ((Y.take j).map toMo) t) ∧ Below w.heap.size w wr
theorem su_step {Y : List Wi} {j : Nat} {y : Wi} (hy : Y[j]? = some y) (h : 0 ≤ y.w) (t : Int) : sumF fup ((Y.take (j + 1)).map toMo) t = sumF fup ((Y.take j).map toMo) t + (if t < y.n then y.w else 0) := by
  obtain ⟨hl, he⟩ := List.getElem?_eq_some_iff.1 hy
  rw [← List.take_append_getElem hl, List.map_append, sumF_append, he]
  simp only [List.map_cons, List.map_nil, sumF, toMo, fup]
  have : max y.w 0 = y.w := by omega
  rw [this]
  omega
theorem su_bd {Y : List Wi} (h : ∀ y ∈ Y, 0 ≤ y.w ∧ y.w ≤ 50) (t : Int) : 0 ≤ sumF fup (Y.map toMo) t ∧ sumF fup (Y.map toMo) t ≤ 50 * Y.length := by
  induction Y with
  | nil => simp [sumF]
  | cons a Y ih =>
    have h1 := h a (by simp)
    have h2 := ih (fun y hy => h y (by simp [hy]))
    simp only [List.map_cons, sumF, toMo, fup, List.length_cons]
    split <;> omega
theorem PcI.next {p per : Int} {k : Nat} {s : St} {Y : List Wi} {nw hv nw' want : Int} (h : PcI p per k s Y nw hv) (hn : nw ≤ nw') (hn7 : nw' ≤ 7 * (k + 1)) (hk : k < 60) (h0 : 0 ≤ want) (h1 : want ≤ 50) :
    okArg s.last nw' hv want = true ∧ 0 ≤ setN s nw' hv want ∧ setN s nw' hv want ≤ 50 ∧
    (hv < setN s nw' hv want → PcI p per (k + 1) (setS s nw' hv want) (Y ++ [⟨nw', 0, setN s nw' hv want - hv⟩]) nw' (setN s nw' hv want)) ∧ (¬ hv < setN s nw' hv want → PcI p per (k + 1) (setS s nw' hv want) Y nw' (setN s nw' hv want)) := by
  have hl := h.last
  have hw := h.nw
  have hh := h.hv
  have ho : okArg s.last nw' hv want = true := okArg_iff.2 ⟨by omega, by omega, by omega, by omega, by omega, by omega⟩
  obtain ⟨M, hM, hMY⟩ := h.mi
  obtain ⟨H, hI⟩ := h.si
  have hb := between hI h.fit ho
  have hf : Fit (setS s nw' hv want) (2 * (k + 1)) := h.fit.setS nw' hv want
  have hm := hM.set h.fit ho
  have hsl := setS_last ho
  have hp := (setS_pace s nw' hv want).1
  generalize hN : setN s nw' hv want = N at *
  refine ⟨ho, by omega, by omega, fun hlt => ⟨hf, ⟨_, hm, fun t => ?_⟩, ⟨_, hI.set h.fit ho⟩, hp.trans h.u, by omega, ⟨by omega, by omega⟩, ⟨by omega, by omega⟩, by have := h.yl; simp; omega, fun y hy => ?_⟩, fun hlt => ⟨hf, ⟨_, hm, fun t => ?_⟩, ⟨_, hI.set h.fit ho⟩, hp.trans h.u, by omega, ⟨by omega, by omega⟩, ⟨by omega, by omega⟩, by have := h.yl; omega, h.yw⟩⟩
  · rw [mov, if_neg (by omega), sumF_append, hMY, List.map_append, sumF_append]
    simp only [List.map_cons, List.map_nil, toMo]
  · rcases List.mem_append.1 hy with a | a
    · exact h.yw y a
    · simp only [List.mem_singleton] at a; subst a; simp only; omega
  · unfold mov
    split
    · exact hMY t
    · rw [sumF_append, hMY]
      have : fup (N - hv) = 0 := by unfold fup; omega
      simp only [sumF, this]
      split <;> omega
theorem PcI.pace {p per : Int} {k : Nat} {s : St} {Y : List Wi} {nw hv nw' want : Int} (h : PcI p per k s Y nw hv) (ho : okArg s.last nw' hv want = true) (hp : 1 ≤ p) (hper : 1 ≤ per) (hlt : hv < setN s nw' hv want) : setN s nw' hv want - hv + sumF fup (Y.map toMo) (nw' - per) ≤ p ∨ setN s nw' hv want ≤ p := by
  obtain ⟨M, hM, hMY⟩ := h.mi
  obtain ⟨H, hI⟩ := h.si
  have hb := between hI h.fit ho
  rw [← hMY]
  exact Stb.pace hM h.fit ho h.u hp hper hlt (by omega)
theorem clP_pace (p per : Int) (h1 : 1 ≤ p) (h2 : p ≤ 9) (h3 : 1 ≤ per) (h4 : per ≤ 20) : clP ⟨0, p, 0, per⟩ = ⟨0, p, 0, per⟩ := by
  have e : cl p = p := by unfold cl; omega
  have e2 : cl per = per := by unfold cl; omega
  have e0 : cl 0 = 0 := by decide
  simp only [clP, e, e2, e0]

set_option maxHeartbeats 16000000 in
theorem pace_law (w : World) (pods period : Int) (a2 a3 : Option Addr) (len2 cap2 len3 cap3 : Nat) (X2 X3 : Nat → Nat → Int) (hle3 : len3 ≤ cap3) (hm2 : len2 ≤ maxLen) (hX2 : Frm.RowsIn w a2 len2 1 X2) (hX3 : Frm.RowsIn w a3 len3 1 X3) :
    Calls Try.prog 5 #[.int .i64 pods, .int .i64 period, .slice a2 len2 cap2, .slice a3 len3 cap3] w fun e w' => e = .returned (.bool true) ∧ Below w.heap.size w w' := by
  obtain ⟨i0, hi, hz0, hz1, hz2⟩ := info_parts info_wi
  unfold maxLen at hm2
  have cS := fun w => slow_any w
  obtain ⟨p0, hp0⟩ : ∃ p, pods % 9 = p := ⟨_, rfl⟩
  obtain ⟨q0, hq0⟩ : ∃ q, period % 20 = q := ⟨_, rfl⟩
  have hp1 : 0 ≤ p0 ∧ p0 ≤ 8 := by omega
  have hq1 : 0 ≤ q0 ∧ q0 ≤ 19 := by omega
  have cR1 := fun w => Rsw.rest_any pods 9 w (by decide) (by decide)
  have cR2 := fun w => Rsw.rest_any period 20 w (by decide) (by decide)
  rw [hp0] at cR1
  rw [hq0] at cR2
  clear hp0 hq0
  have cN := fun w => new_any ⟨0, p0 + 1, 0, q0 + 1⟩ ⟨0, 0, 0, 0⟩ w
  unfold pcV at cN
  obtain ⟨n, hn⟩ : ∃ n, min 60 len3 = n := ⟨_, rfl⟩
  have e1 : (if (len3 : Int) < 60 then (len3 : Int) else 60) = (n : Int) := by rw [← hn]; split <;> omega
  have hn1 : n ≤ 60 := by omega
  have hn2 : n ≤ len3 := by omega
  have hn3 : (n : Int) ≤ (cap3 : Int) := by omega
  clear hn
  go_enter Try.func5, Try.ntmps5
  go_wp2_with (first
    | (go_at_call 6; (with_reducible refine (cS _).mono ?_); rintro e w1 ⟨rfl, hb1⟩)
    | (go_at_call 9; (with_reducible refine (cR1 _).mono ?_); rintro e w9 ⟨rfl, h9⟩; have h8 := h9.symm; clear h9; subst h8)
    | (go_at_call 9; (with_reducible refine (cR2 _).mono ?_); rintro e w9 ⟨rfl, h9⟩; have h8 := h9.symm; clear h9; subst h8)
    | (go_at_call 7; (with_reducible refine (cN _).mono ?_); rintro e w2 ⟨Q, rfl, hA2, hb2⟩))
  have hB2 : Below w.heap.size w w2 := hb1.trans (hb2.mono hb1.size)
  generalize hp : p0 + 1 = p at *
  generalize hq : q0 + 1 = per at *
  have hp9 : 1 ≤ p ∧ p ≤ 9 := by omega
  have hq20 : 1 ≤ per ∧ per ≤ 20 := by omega
  clear hp hq hp1 hq1 cN cR1 cR2 cS
  go_loopw [12, 13, 14, 41] (fun vn vh v i wr => PcR w1.heap.size Q p per n w vn vh v i wr) (fun _ _ _ i _ => n - (intOf i).toNat)
  case atStart => exact ⟨0, _, _, [], 0, 0, by omega, rfl, rfl, rfl, hA2, ⟨new_fit _ _, ⟨[], ⟨fun _ => TI.nil _ _ _, fun _ => TI.nil _ _ _⟩, fun _ => rfl⟩, ⟨[], si_new _ _⟩, clP_pace p per hp9.1 hp9.2 hq20.1 hq20.2, Int.le_refl 0, by decide, by decide, by simp, by simp⟩, Own.nil _ _ _ _, by simp [Value.ownBlock], hB2⟩
  case round =>
    clear hA2 hb2 hB2
    obtain ⟨k, V, s, Y, nw, hv, hk, rfl, rfl, rfl, hA, hP, hO, hoff, hbw⟩ := hrel
    by_cases hlt : k < n
    · have hlt' : (k : Int) < n := by omega
      obtain ⟨b, off, rfl, hbl, hcell⟩ := (hX3.below hbw (Nat.le_refl _)) k (by omega)
      have k0 : wr.cell? ⟨b, off + k, none⟩ = some (.int .i64 (X3 k 0)) := by have := (hcell 0 (by omega)).1; simpa using this
      clear hcell
      generalize X3 k 0 = wx at k0
      obtain ⟨want, hwant⟩ : ∃ q, wx % 51 = q := ⟨_, rfl⟩
      have hw0 : 0 ≤ want := by omega
      have hw1 : want ≤ 50 := by omega
      have cW := fun w => Rsw.rest_any wx 51 w (by decide) (by decide)
      rw [hwant] at cW
      clear hwant
      obtain ⟨ao, vc, rfl, hv1, hv2, hvao, -⟩ := hO.form
      have hnw := hP.nw
      have hhv := hP.hv
      have hYl := hP.yl
      by_cases hwt : k < len2
      · have hwt' : (k : Int) < (len2 : Int) := by omega
        obtain ⟨b2, off2, rfl, hbl2, hcell2⟩ := (hX2.below hbw (Nat.le_refl _)) k hwt
        have k2 : wr.cell? ⟨b2, off2 + k, none⟩ = some (.int .i64 (X2 k 0)) := by have := (hcell2 0 (by omega)).1; simpa using this
        clear hcell2
        generalize X2 k 0 = wy at k2
        obtain ⟨q, hq⟩ : ∃ q, wy % 8 = q := ⟨_, rfl⟩
        have hq0 : 0 ≤ q := by omega
        have hq7 : q ≤ 7 := by omega
        have cY := fun w => Rsw.rest_any wy 8 w (by decide) (by decide)
        rw [hq] at cY
        clear hq
        obtain ⟨nw', hnw'⟩ : ∃ x, nw + q = x := ⟨_, rfl⟩
        obtain ⟨ho, hN0, hN50, hPa, hPb⟩ := hP.next (nw' := nw') (want := want) (by omega) (by omega) (by omega) hw0 hw1
        have hpc := hP.pace ho hp9.1 hq20.1
        have hE : setE s nw' hv want = 0 := by unfold setE; rw [if_pos ho]
        have c1 := fun W h => set_use w1.heap.size Q V s nw' hv want (2 * k) W h hP.fit (by omega) rfl hE rfl
        have hyw := hP.yw
        generalize hN : setN s nw' hv want = N at *
        have hu : ∀ (w3 : World) (V' : Nat → Value), SAt w3 w1.heap.size Q V' (setS s nw' hv want) → Step Q V V' wr w3 → WOwn w3 w1.heap.size (.slice ao Y.length vc) Y ∧ (∀ g, (Value.slice ao Y.length vc).ownBlock = some g → ¬ blk Q V' g) ∧ Below w.heap.size w w3 := by
          intro w3 V' h3 hs3
          exact ⟨Own.kept hO (fun g hg => hs3.block g (hO.lt g hg).2 (hoff g hg)), off_step hs3 (fun g hg => (hO.lt g hg).2) hoff, hbw.trans ((hs3.below hA (Nat.le_trans hA.bQ (Nat.le_of_lt hA.lt))).mono hb1.size)⟩
        have HK : Hid (∀ (w3 : World) (V' : Nat → Value), SAt w3 w1.heap.size Q V' (setS s nw' hv want) → Step Q V V' wr w3 → WOwn w3 w1.heap.size (.slice ao Y.length vc) Y ∧ (∀ g, (Value.slice ao Y.length vc).ownBlock = some g → ¬ blk Q V' g) ∧ Below w.heap.size w w3) := hu
        have c2 := c1 wr hA
        clear hu c1 hA hO hoff hbw hP hE hN
        by_cases hgt : hv < N
        · have hPa' := hPa hgt
          have hpc' := hpc hgt
          have HPI : Hid (PcI p per (k + 1) (setS s nw' hv want) (Y ++ [⟨nw', 0, N - hv⟩]) nw' N) := hPa'
          clear hPa hPb hPa' hpc
          go_wp2_with (first
          | (go_at_call 9; (with_reducible refine (cY _).mono ?_); rintro e w9 ⟨rfl, h9⟩; have h8 := h9.symm; clear h9; subst h8)
            | (go_at_call 9; (with_reducible refine (cW _).mono ?_); rintro e w9 ⟨rfl, h9⟩; have h8 := h9.symm; clear h9; subst h8)
            | (go_at_call 8; (with_reducible refine c2.mono ?_); rintro e w3 ⟨rfl, V3, hA3, hS3, hb3⟩; have HA3 : Hid (SAt w3 w1.heap.size Q V3 (setS s nw' hv want)) := hA3; obtain ⟨hO3, ho3, hbw3⟩ := HK.out w3 V3 hA3 hS3; have HO3 : Hid (∀ g, (Value.slice ao Y.length vc).ownBlock = some g → ¬ blk Q V3 g) := ho3; clear hA3 hS3 hb3 ho3))
          clear HK c2 k0 k2 cW cY
          go_loopw [19, 76] (fun g i wr2 => SuR Y (N - hv) (nw' - per) w3 g i wr2) (fun _ i _ => Y.length - (intOf i).toNat)
          case atStart => exact ⟨0, by omega, rfl, by simp [sumF], Below.refl _ _⟩
          case round =>
            obtain ⟨j, hj, rfl, rfl, hb4⟩ := hrel
            have hO4 : WOwn wr w1.heap.size (.slice ao Y.length vc) Y := Own.below hO3 hb4
            have hs1 := su_bd (Y := Y.take j) (fun y hy => hyw y (List.mem_of_mem_take hy)) (nw' - per)
            have hjl0 : (Y.take j).length ≤ 60 := by simp; omega
            by_cases hjl : j < Y.length
            · have hjl' : (j : Int) < (Y.length : Int) := by omega
              obtain ⟨g, go, rfl⟩ := hvao (by omega)
              obtain ⟨y, hy⟩ : ∃ y, Y[j]? = some y := ⟨Y[j], by simp [hjl]⟩
              obtain ⟨v0, v1, v2⟩ := own_wi hO4 hy
              have hy0 := hyw y (List.mem_of_getElem? hy)
              have hst := su_step hy hy0.1 (nw' - per)
              generalize sumF fup ((Y.take j).map toMo) (nw' - per) = S at *
              clear hO3 hO4
              by_cases d1 : nw' - per < y.n
              · rw [if_pos d1] at hst
                have HR : Hid (SuR Y (N - hv) (nw' - per) w3 (.int .i64 (N - hv + S + y.w)) (.int .i64 ((j : Int) + 1)) (wr.alloc (.cells #[.int .i64 y.n, .int .i64 y.h, .int .i64 y.w] 29))) := ⟨j + 1, by omega, by simp, by rw [hst, Int.add_assoc], hb4.alloc hb4.size _⟩
                clear hst hb4
                go_wp2
                go_roundw
                case rel => exact HR.out
                case measure => simp [intOf]; omega
              · rw [if_neg d1, Int.add_zero] at hst
                have HR : Hid (SuR Y (N - hv) (nw' - per) w3 (.int .i64 (N - hv + S)) (.int .i64 ((j : Int) + 1)) (wr.alloc (.cells #[.int .i64 y.n, .int .i64 y.h, .int .i64 y.w] 29))) := ⟨j + 1, by omega, by simp, by rw [hst], hb4.alloc hb4.size _⟩
                clear hst hb4
                go_wp2
                go_roundw
                case rel => exact HR.out
                case measure => simp [intOf]; omega
            · obtain rfl : j = Y.length := by omega
              rw [List.take_length] at hs1 ⊢
              have hA4 : SAt wr w1.heap.size Q V3 (setS s nw' hv want) := HA3.out.below hb4
              have hb5 : Below w.heap.size w wr := hbw3.trans (hb4.mono hbw3.size)
              have hBs : w1.heap.size ≤ wr.heap.size := Nat.le_trans hA4.bQ (Nat.le_of_lt hA4.lt)
              have HX : Hid (∀ (o : Obj) (w5 : World) (v5 : Value), Own w5 w1.heap.size 29 3 v5 (Y.length + 1) (cels wc Y ++ [.int .i64 nw', .int .i64 0, .int .i64 (N - hv)]) → (wr.alloc o).grownBy w5 (Value.slice ao Y.length vc).ownBlock → (v5.ownBlock = (Value.slice ao Y.length vc).ownBlock ∨ v5.ownBlock = some (wr.alloc o).heap.size) → PcR w1.heap.size Q p per n w (.int .i64 nw') (.int .i64 N) v5 (.int .i64 ((k : Int) + 1)) w5) := by
                intro o w5 v5 hO5 hg5 hl5
                have hA5 := hA4.alloc o
                have hk5 : SAt w5 w1.heap.size Q V3 (setS s nw' hv want) := hA5.kept (fun x hx => hg5.block x (hA5.blt hx).2 (fun e => HO3.out x e.symm hx))
                refine ⟨k + 1, V3, _, Y ++ [⟨nw', 0, N - hv⟩], nw', N, by omega, by simp, rfl, rfl, hk5, HPI.out, ?_, fun g hg hx => ?_, ⟨hg5.os.trans hb5.os, hg5.tape.trans hb5.tape, hg5.output.trans hb5.output, Nat.le_trans hb5.size (Nat.le_trans (by simp) hg5.size), fun x hx => ?_⟩⟩
                · show Own w5 _ _ 3 v5 (Y ++ [(⟨nw', 0, N - hv⟩ : Wi)]).length (cels wc (Y ++ [(⟨nw', 0, N - hv⟩ : Wi)]))
                  rw [cels_append, List.length_append]
                  exact hO5
                · rcases hl5 with e | e
                  · exact HO3.out g (by rw [← e]; exact hg) hx
                  · rw [e] at hg; cases hg; have := (hA5.blt hx).2; omega
                · refine (hg5.block x (by have := hb5.size; simp; omega) (fun e => ?_)).trans ((Below.heap_alloc wr o x (by have := hb5.size; omega)).trans (hb5.block x hx))
                  have := (hO4.lt x e.symm).1
                  have := hb1.size
                  omega
              generalize sumF fup (Y.map toMo) (nw' - per) = S at *
              clear hA4 hb4 hb5 hO3
              have hyl : (Y.length : Int) ≤ 60 := by omega
              by_cases d1 : p < N - hv + S
              · have d2 : ¬ p < N := by omega
                go_wp2_with (at_builtin; refine wpList_at rfl _ _ 22 rfl w1.heap.size 29 i0 (.agg #[.int .i64 0, .int .i64 0, .int .i64 0]) 3 24 Try.underlying22 hi hz0 hz1 hz2 rfl _ _ _ rfl (Own.alloc hO4 _) ⟨wr.heap.size, 0, none⟩ 1 1 [.int .i64 nw', .int .i64 0, .int .i64 (N - hv)] rfl rfl (cell_three _ _ _ _ rfl) (fun u hu => by simp at hu; rcases hu with rfl | rfl | rfl <;> rfl) (by decide) (by unfold maxLen; omega) (by omega) (by simp; omega) ?_; intro v5 w5 hown5 hgrow5 hloc5; have HR : Hid _ := HX.out _ w5 v5 hown5 hgrow5 hloc5)
                go_roundw
                case rel => exact HR.out
                case measure => simp [intOf]; omega
              · go_wp2_with (at_builtin; refine wpList_at rfl _ _ 22 rfl w1.heap.size 29 i0 (.agg #[.int .i64 0, .int .i64 0, .int .i64 0]) 3 24 Try.underlying22 hi hz0 hz1 hz2 rfl _ _ _ rfl (Own.alloc hO4 _) ⟨wr.heap.size, 0, none⟩ 1 1 [.int .i64 nw', .int .i64 0, .int .i64 (N - hv)] rfl rfl (cell_three _ _ _ _ rfl) (fun u hu => by simp at hu; rcases hu with rfl | rfl | rfl <;> rfl) (by decide) (by unfold maxLen; omega) (by omega) (by simp; omega) ?_; intro v5 w5 hown5 hgrow5 hloc5; have HR : Hid _ := HX.out _ w5 v5 hown5 hgrow5 hloc5)
                go_roundw
                case rel => exact HR.out
                case measure => simp [intOf]; omega
        · have hPb' := hPb hgt
          have HPI : Hid (PcI p per (k + 1) (setS s nw' hv want) Y nw' N) := hPb'
          clear hPa hPb hPb' hpc
          go_wp2_with (first
          | (go_at_call 9; (with_reducible refine (cY _).mono ?_); rintro e w9 ⟨rfl, h9⟩; have h8 := h9.symm; clear h9; subst h8)
            | (go_at_call 9; (with_reducible refine (cW _).mono ?_); rintro e w9 ⟨rfl, h9⟩; have h8 := h9.symm; clear h9; subst h8)
            | (go_at_call 8; (with_reducible refine c2.mono ?_); rintro e w3 ⟨rfl, V3, hA3, hS3, hb3⟩; obtain ⟨hO3, ho3, hbw3⟩ := HK.out w3 V3 hA3 hS3; have HR : Hid (PcR w1.heap.size Q p per n w (.int .i64 nw') (.int .i64 N) (.slice ao Y.length vc) (.int .i64 ((k : Int) + 1)) w3) := ⟨k + 1, V3, _, Y, nw', N, by omega, by simp, rfl, rfl, hA3, HPI.out, hO3, ho3, hbw3⟩; clear hA3 hS3 hb3 ho3))
          go_roundw
          case rel => exact HR.out
          case measure => simp [intOf]; omega
      · have hwt' : ¬ (k : Int) < (len2 : Int) := by omega
        obtain ⟨ho, hN0, hN50, hPa, hPb⟩ := hP.next (nw' := nw) (want := want) (by omega) (by omega) (by omega) hw0 hw1
        have hpc := hP.pace ho hp9.1 hq20.1
        have hE : setE s nw hv want = 0 := by unfold setE; rw [if_pos ho]
        have c1 := fun W h => set_use w1.heap.size Q V s nw hv want (2 * k) W h hP.fit (by omega) rfl hE rfl
        have hyw := hP.yw
        generalize hN : setN s nw hv want = N at *
        have hu : ∀ (w3 : World) (V' : Nat → Value), SAt w3 w1.heap.size Q V' (setS s nw hv want) → Step Q V V' wr w3 → WOwn w3 w1.heap.size (.slice ao Y.length vc) Y ∧ (∀ g, (Value.slice ao Y.length vc).ownBlock = some g → ¬ blk Q V' g) ∧ Below w.heap.size w w3 := by
          intro w3 V' h3 hs3
          exact ⟨Own.kept hO (fun g hg => hs3.block g (hO.lt g hg).2 (hoff g hg)), off_step hs3 (fun g hg => (hO.lt g hg).2) hoff, hbw.trans ((hs3.below hA (Nat.le_trans hA.bQ (Nat.le_of_lt hA.lt))).mono hb1.size)⟩
        have HK : Hid (∀ (w3 : World) (V' : Nat → Value), SAt w3 w1.heap.size Q V' (setS s nw hv want) → Step Q V V' wr w3 → WOwn w3 w1.heap.size (.slice ao Y.length vc) Y ∧ (∀ g, (Value.slice ao Y.length vc).ownBlock = some g → ¬ blk Q V' g) ∧ Below w.heap.size w w3) := hu
        have c2 := c1 wr hA
        clear hu c1 hA hO hoff hbw hP hE hN
        by_cases hgt : hv < N
        · have hPa' := hPa hgt
          have hpc' := hpc hgt
          have HPI : Hid (PcI p per (k + 1) (setS s nw hv want) (Y ++ [⟨nw, 0, N - hv⟩]) nw N) := hPa'
          clear hPa hPb hPa' hpc
          go_wp2_with (first
            | (go_at_call 9; (with_reducible refine (cW _).mono ?_); rintro e w9 ⟨rfl, h9⟩; have h8 := h9.symm; clear h9; subst h8)
            | (go_at_call 8; (with_reducible refine c2.mono ?_); rintro e w3 ⟨rfl, V3, hA3, hS3, hb3⟩; have HA3 : Hid (SAt w3 w1.heap.size Q V3 (setS s nw hv want)) := hA3; obtain ⟨hO3, ho3, hbw3⟩ := HK.out w3 V3 hA3 hS3; have HO3 : Hid (∀ g, (Value.slice ao Y.length vc).ownBlock = some g → ¬ blk Q V3 g) := ho3; clear hA3 hS3 hb3 ho3))
          clear HK c2 k0 cW 
          go_loopw [19, 76] (fun g i wr2 => SuR Y (N - hv) (nw - per) w3 g i wr2) (fun _ i _ => Y.length - (intOf i).toNat)
          case atStart => exact ⟨0, by omega, rfl, by simp [sumF], Below.refl _ _⟩
          case round =>
            obtain ⟨j, hj, rfl, rfl, hb4⟩ := hrel
            have hO4 : WOwn wr w1.heap.size (.slice ao Y.length vc) Y := Own.below hO3 hb4
            have hs1 := su_bd (Y := Y.take j) (fun y hy => hyw y (List.mem_of_mem_take hy)) (nw - per)
            have hjl0 : (Y.take j).length ≤ 60 := by simp; omega
            by_cases hjl : j < Y.length
            · have hjl' : (j : Int) < (Y.length : Int) := by omega
              obtain ⟨g, go, rfl⟩ := hvao (by omega)
              obtain ⟨y, hy⟩ : ∃ y, Y[j]? = some y := ⟨Y[j], by simp [hjl]⟩
              obtain ⟨v0, v1, v2⟩ := own_wi hO4 hy
              have hy0 := hyw y (List.mem_of_getElem? hy)
              have hst := su_step hy hy0.1 (nw - per)
              generalize sumF fup ((Y.take j).map toMo) (nw - per) = S at *
              clear hO3 hO4
              by_cases d1 : nw - per < y.n
              · rw [if_pos d1] at hst
                have HR : Hid (SuR Y (N - hv) (nw - per) w3 (.int .i64 (N - hv + S + y.w)) (.int .i64 ((j : Int) + 1)) (wr.alloc (.cells #[.int .i64 y.n, .int .i64 y.h, .int .i64 y.w] 29))) := ⟨j + 1, by omega, by simp, by rw [hst, Int.add_assoc], hb4.alloc hb4.size _⟩
                clear hst hb4
                go_wp2
                go_roundw
                case rel => exact HR.out
                case measure => simp [intOf]; omega
              · rw [if_neg d1, Int.add_zero] at hst
                have HR : Hid (SuR Y (N - hv) (nw - per) w3 (.int .i64 (N - hv + S)) (.int .i64 ((j : Int) + 1)) (wr.alloc (.cells #[.int .i64 y.n, .int .i64 y.h, .int .i64 y.w] 29))) := ⟨j + 1, by omega, by simp, by rw [hst], hb4.alloc hb4.size _⟩
                clear hst hb4
                go_wp2
                go_roundw
                case rel => exact HR.out
                case measure => simp [intOf]; omega
            · obtain rfl : j = Y.length := by omega
              rw [List.take_length] at hs1 ⊢
              have hA4 : SAt wr w1.heap.size Q V3 (setS s nw hv want) := HA3.out.below hb4
              have hb5 : Below w.heap.size w wr := hbw3.trans (hb4.mono hbw3.size)
              have hBs : w1.heap.size ≤ wr.heap.size := Nat.le_trans hA4.bQ (Nat.le_of_lt hA4.lt)
              have HX : Hid (∀ (o : Obj) (w5 : World) (v5 : Value), Own w5 w1.heap.size 29 3 v5 (Y.length + 1) (cels wc Y ++ [.int .i64 nw, .int .i64 0, .int .i64 (N - hv)]) → (wr.alloc o).grownBy w5 (Value.slice ao Y.length vc).ownBlock → (v5.ownBlock = (Value.slice ao Y.length vc).ownBlock ∨ v5.ownBlock = some (wr.alloc o).heap.size) → PcR w1.heap.size Q p per n w (.int .i64 nw) (.int .i64 N) v5 (.int .i64 ((k : Int) + 1)) w5) := by
                intro o w5 v5 hO5 hg5 hl5
                have hA5 := hA4.alloc o
                have hk5 : SAt w5 w1.heap.size Q V3 (setS s nw hv want) := hA5.kept (fun x hx => hg5.block x (hA5.blt hx).2 (fun e => HO3.out x e.symm hx))
                refine ⟨k + 1, V3, _, Y ++ [⟨nw, 0, N - hv⟩], nw, N, by omega, by simp, rfl, rfl, hk5, HPI.out, ?_, fun g hg hx => ?_, ⟨hg5.os.trans hb5.os, hg5.tape.trans hb5.tape, hg5.output.trans hb5.output, Nat.le_trans hb5.size (Nat.le_trans (by simp) hg5.size), fun x hx => ?_⟩⟩
                · show Own w5 _ _ 3 v5 (Y ++ [(⟨nw, 0, N - hv⟩ : Wi)]).length (cels wc (Y ++ [(⟨nw, 0, N - hv⟩ : Wi)]))
                  rw [cels_append, List.length_append]
                  exact hO5
                · rcases hl5 with e | e
                  · exact HO3.out g (by rw [← e]; exact hg) hx
                  · rw [e] at hg; cases hg; have := (hA5.blt hx).2; omega
                · refine (hg5.block x (by have := hb5.size; simp; omega) (fun e => ?_)).trans ((Below.heap_alloc wr o x (by have := hb5.size; omega)).trans (hb5.block x hx))
                  have := (hO4.lt x e.symm).1
                  have := hb1.size
                  omega
              generalize sumF fup (Y.map toMo) (nw - per) = S at *
              clear hA4 hb4 hb5 hO3
              have hyl : (Y.length : Int) ≤ 60 := by omega
              by_cases d1 : p < N - hv + S
              · have d2 : ¬ p < N := by omega
                go_wp2_with (at_builtin; refine wpList_at rfl _ _ 22 rfl w1.heap.size 29 i0 (.agg #[.int .i64 0, .int .i64 0, .int .i64 0]) 3 24 Try.underlying22 hi hz0 hz1 hz2 rfl _ _ _ rfl (Own.alloc hO4 _) ⟨wr.heap.size, 0, none⟩ 1 1 [.int .i64 nw, .int .i64 0, .int .i64 (N - hv)] rfl rfl (cell_three _ _ _ _ rfl) (fun u hu => by simp at hu; rcases hu with rfl | rfl | rfl <;> rfl) (by decide) (by unfold maxLen; omega) (by omega) (by simp; omega) ?_; intro v5 w5 hown5 hgrow5 hloc5; have HR : Hid _ := HX.out _ w5 v5 hown5 hgrow5 hloc5)
                go_roundw
                case rel => exact HR.out
                case measure => simp [intOf]; omega
              · go_wp2_with (at_builtin; refine wpList_at rfl _ _ 22 rfl w1.heap.size 29 i0 (.agg #[.int .i64 0, .int .i64 0, .int .i64 0]) 3 24 Try.underlying22 hi hz0 hz1 hz2 rfl _ _ _ rfl (Own.alloc hO4 _) ⟨wr.heap.size, 0, none⟩ 1 1 [.int .i64 nw, .int .i64 0, .int .i64 (N - hv)] rfl rfl (cell_three _ _ _ _ rfl) (fun u hu => by simp at hu; rcases hu with rfl | rfl | rfl <;> rfl) (by decide) (by unfold maxLen; omega) (by omega) (by simp; omega) ?_; intro v5 w5 hown5 hgrow5 hloc5; have HR : Hid _ := HX.out _ w5 v5 hown5 hgrow5 hloc5)
                go_roundw
                case rel => exact HR.out
                case measure => simp [intOf]; omega
        · have hPb' := hPb hgt
          have HPI : Hid (PcI p per (k + 1) (setS s nw hv want) Y nw N) := hPb'
          clear hPa hPb hPb' hpc
          go_wp2_with (first
            | (go_at_call 9; (with_reducible refine (cW _).mono ?_); rintro e w9 ⟨rfl, h9⟩; have h8 := h9.symm; clear h9; subst h8)
            | (go_at_call 8; (with_reducible refine c2.mono ?_); rintro e w3 ⟨rfl, V3, hA3, hS3, hb3⟩; obtain ⟨hO3, ho3, hbw3⟩ := HK.out w3 V3 hA3 hS3; have HR : Hid (PcR w1.heap.size Q p per n w (.int .i64 nw) (.int .i64 N) (.slice ao Y.length vc) (.int .i64 ((k : Int) + 1)) w3) := ⟨k + 1, V3, _, Y, nw, N, by omega, by simp, rfl, rfl, hA3, HPI.out, hO3, ho3, hbw3⟩; clear hA3 hS3 hb3 ho3))
          go_roundw
          case rel => exact HR.out
          case measure => simp [intOf]; omega
    · obtain rfl : k = n := by omega
      go_wp2
      go_ret
      exact ⟨rfl, hbw⟩
end Stb
end Go.Proofs.Ytanlhkokghjadag
