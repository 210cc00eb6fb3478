
/- What the document's Settle (tideref.Calm) answers: to more. -/
import Derived.Test.YtanlhkokghjadacCalmHd
namespace Go.Proofs.Ytanlhkokghjadac
namespace Stb
open Rw Go.RowKit Plain Num
set_option maxRecDepth 8000

set_option maxHeartbeats 16000000 in
theorem cset_up (B D : Nat) (vw vm : Value) (c : Cm) (now hv want : Int) (k : Nat) (w : World) (hA : CAt w B D vw vm c) (hF : CFit c k) (hk : k ≤ 200) (h1 : c.last ≤ now) (h2 : now ≤ 1099511627776) (h3 : 0 ≤ hv ∧ hv ≤ 50) (h4 : 0 ≤ want ∧ want ≤ 50) (hlt : hv < want) :
    Calls Try.prog 7 #[.pointer (some ⟨D, 0, none⟩), .int .i64 now, .int .i64 hv, .int .i64 want] w (CeA B D vw vm c now hv want w) := by
  obtain ⟨i0, hi, hz0, hz1, hz2⟩ := info_parts info_ma
  have hl0 := hF.last
  have c1 := fun w => rin_yes now c.last 1099511627776 w h1 h2
  have c2 := fun w => rin_yes hv 0 50 w h3.1 h3.2
  have c3 := fun w => rin_yes want 0 50 w h4.1 h4.2
  have hww := hF.ws
  have hmm := hF.ms
  have hwl := hF.wl
  have hml := hF.ml
  have pw := hF.u.w
  have pn := hF.u.n
  have pc := hF.u.c
  have pp := hF.u.p
  obtain ⟨ao, cap, rfl, hc1, hc2, hao, -⟩ := hA.oW.form
  obtain ⟨mo, mcap, rfl, hm1, hm2, hmo, -⟩ := hA.oM.form
  have k8 := hA.num 8 (by decide)
  simp only [cnum] at k8
  have f8 := hA.fz 8
  have r9 := hA.rW
  have hQ := hA.lt
  have hB1 : B ≤ w.heap.size := Nat.le_trans hA.bD (Nat.le_of_lt hA.lt)
  obtain ⟨hA1, hS1⟩ := hA.setLast now
  have r91 := hA1.rW
  have hO1 := hA1.oW
  have HA : Hid (CAt w B D (.slice ao c.ws.length cap) (.slice mo c.ms.length mcap) c) := hA
  clear hA hA1 hS1 hF
  go_enter Try.func7, Try.ntmps7
  go_upto_region 12 with (first
    | (go_at_call 16; (with_reducible refine (c1 _).mono ?_); rintro e w2 ⟨rfl, h9⟩; have h8 := h9.symm; clear h9; subst h8)
    | (go_at_call 16; (with_reducible refine (c2 _).mono ?_); rintro e w2 ⟨rfl, h9⟩; have h8 := h9.symm; clear h9; subst h8)
    | (go_at_call 16; (with_reducible refine (c3 _).mono ?_); rintro e w2 ⟨rfl, h9⟩; have h8 := h9.symm; clear h9; subst h8)
    | (at_builtin; refine wpList_at rfl _ _ 44 rfl B 53 i0 (.agg #[.int .i64 0, .int .i64 0]) 2 16 Try.underlying44 hi hz0 hz1 hz2 rfl _ _ _ rfl (Own.alloc hO1 _) ⟨w.heap.size, 0, none⟩ 1 1 [.int .i64 now, .int .i64 want] rfl rfl (cell_twoN _ _ _ (by simp)) (fun u hu => by simp at hu; rcases hu with rfl | rfl <;> rfl) (by decide) (by unfold maxLen; omega) (by omega) (by simp; omega) ?_; intro v' w3 hown3 hgrow3 hloc3; obtain ⟨ao3, cap3, rfl, -, -, hao3, -⟩ := hown3.form; obtain ⟨g, off, rfl⟩ := hao3 (by omega); clear hao3; obtain ⟨HF, cM3, fM3⟩ := app_w HA.out hown3 hgrow3 hloc3; have j0 := HF.out.1.num 0 (by decide); have j1 := HF.out.1.num 1 (by decide); have j2 := HF.out.1.num 2 (by decide); have j3 := HF.out.1.num 3 (by decide); have j4 := HF.out.1.num 4 (by decide); have j5 := HF.out.1.num 5 (by decide); have j6 := HF.out.1.num 6 (by decide); have j7 := HF.out.1.num 7 (by decide); simp only [cnum] at j0 j1 j2 j3 j4 j5 j6 j7; have hD3 : D < w3.heap.size := (by simpa using HF.out.1.lt)))
  have hA4 := HF.out.1.alloc (.cells #[.int .i64 c.u.w, .int .i64 c.u.n, .int .i64 c.u.c, .int .i64 c.u.p] 23)
  have hS4 := HF.out.2.trans (CStep.of_below (D := D) (vw := .slice (some ⟨g, off, none⟩) (c.ws.length + 1) cap3) (vm := .slice mo c.ms.length mcap) (((Below.refl _ _).alloc (Nat.le_refl _) _ : Below _ (w3.setCell ⟨D, 9, none⟩ (.slice (some ⟨g, off, none⟩) (c.ws.length + 1) cap3)) ((w3.setCell ⟨D, 9, none⟩ (.slice (some ⟨g, off, none⟩) (c.ws.length + 1) cap3)).alloc (.cells #[.int .i64 c.u.w, .int .i64 c.u.n, .int .i64 c.u.c, .int .i64 c.u.p] 23)))))
  have P0 : ((w3.setCell ⟨D, 9, none⟩ (.slice (some ⟨g, off, none⟩) (c.ws.length + 1) cap3)).alloc (.cells #[.int .i64 c.u.w, .int .i64 c.u.n, .int .i64 c.u.c, .int .i64 c.u.p] 23)).cell? ⟨w3.heap.size, 0, none⟩ = some (.int .i64 c.u.w) := cell_new (by simp) rfl
  have P1 : ((w3.setCell ⟨D, 9, none⟩ (.slice (some ⟨g, off, none⟩) (c.ws.length + 1) cap3)).alloc (.cells #[.int .i64 c.u.w, .int .i64 c.u.n, .int .i64 c.u.c, .int .i64 c.u.p] 23)).cell? ⟨w3.heap.size, 1, none⟩ = some (.int .i64 c.u.n) := cell_new (by simp) rfl
  have P2 : ((w3.setCell ⟨D, 9, none⟩ (.slice (some ⟨g, off, none⟩) (c.ws.length + 1) cap3)).alloc (.cells #[.int .i64 c.u.w, .int .i64 c.u.n, .int .i64 c.u.c, .int .i64 c.u.p] 23)).cell? ⟨w3.heap.size, 2, none⟩ = some (.int .i64 c.u.c) := cell_new (by simp) rfl
  have P3 : ((w3.setCell ⟨D, 9, none⟩ (.slice (some ⟨g, off, none⟩) (c.ws.length + 1) cap3)).alloc (.cells #[.int .i64 c.u.w, .int .i64 c.u.n, .int .i64 c.u.c, .int .i64 c.u.p] 23)).cell? ⟨w3.heap.size, 3, none⟩ = some (.int .i64 c.u.p) := cell_new (by simp) rfl
  have hPl : w3.heap.size < ((w3.setCell ⟨D, 9, none⟩ (.slice (some ⟨g, off, none⟩) (c.ws.length + 1) cap3)).alloc (.cells #[.int .i64 c.u.w, .int .i64 c.u.n, .int .i64 c.u.c, .int .i64 c.u.p] 23)).heap.size := by simp
  have hDP : D ≠ w3.heap.size := by omega
  generalize (w3.setCell ⟨D, 9, none⟩ (.slice (some ⟨g, off, none⟩) (c.ws.length + 1) cap3)).alloc (.cells #[.int .i64 c.u.w, .int .i64 c.u.n, .int .i64 c.u.c, .int .i64 c.u.p] 23) = wa at *
  generalize w3.heap.size = P at *
  have hBa : B ≤ wa.heap.size := Nat.le_trans hA4.bD (Nat.le_of_lt hA4.lt)
  have hrow := hA4.rW
  have HA4 : Hid (CAt wa B D (.slice (some ⟨g, off, none⟩) (c.ws.length + 1) cap3) (.slice mo c.ms.length mcap) ⟨c.u, c.d, now, c.ws ++ [⟨now, want⟩], c.ms⟩) := hA4
  have HS4 : Hid (CStep D (.slice ao c.ws.length cap) (.slice mo c.ms.length mcap) (.slice (some ⟨g, off, none⟩) (c.ws.length + 1) cap3) (.slice mo c.ms.length mcap) w wa) := hS4
  clear hA4 hS4 HF j0 j1 j2 j3 j4 j5 j6 j7 cM3 fM3 hown3 hgrow3 hloc3 HA r9 r91 hO1 c1 c2 c3 k8 f8 hao hc1 hc2 hQ hB1 hrow hD3
  have ho : okArg c.last now hv want = true := okArg_iff.2 ⟨h1, h2, h3.1, h3.2, h4.1, h4.2⟩
  obtain ⟨N, hN⟩ : ∃ N, cU c now hv want = N := ⟨_, rfl⟩
  have hcn : cN c now hv want = N := by unfold cN; rw [if_pos ho, if_pos hlt]; exact hN
  have HCE : Hid (cE c now hv want = 0) := by unfold Hid cE; rw [if_pos ho]
  have HCS : Hid (cS c now hv want = ⟨c.u, c.d, now, c.ws ++ [⟨now, want⟩], mov c.ms now (N - hv)⟩) := by unfold Hid cS; rw [if_pos ho, hcn]
  have HCN : Hid (cN c now hv want = N) := hcn
  clear hcn ho
  obtain ⟨L, hL⟩ : ∃ L, c.ws ++ [(⟨now, want⟩ : Mo)] = L := ⟨_, rfl⟩
  have hLl : L.length = c.ws.length + 1 := by rw [← hL]; simp
  have hLast : ∀ i m, L[i]? = some m → i = c.ws.length → m.p = want := fun i m hm hi => by rw [← hL] at hm; rw [last_of _ _ i m hm hi]
  have hLp : ∀ m ∈ L, 0 ≤ m.p ∧ m.p ≤ 50 := by
    intro m hm
    rw [← hL] at hm
    rcases List.mem_append.1 hm with a | a
    · exact hww m a
    · simp only [List.mem_singleton] at a; subst a; exact h4
  have hn1 : cU1 c now want = L.foldl (stF true (now - c.u.w)) want := by rw [← hL]; rfl
  rw [hL] at HA4 HCS
  go_wp2_with fail
  go_loopw [10, 13] (fun vn vi wr => L1R true (now - c.u.w) want L wa vn vi wr) (fun _ i _ => L.length - (intOf i).toNat)
  case atStart => exact ⟨0, by omega, rfl, rfl, Below.refl _ _⟩
  case round =>
    obtain ⟨i, hil, rfl, rfl, hb⟩ := hrel
    have hAr := HA4.out.below hb
    have r9 := hAr.rW
    have hDl := hAr.lt
    have q0 := (hb.cell (p := ⟨P, 0, none⟩) hPl).trans P0
    have q1 := (hb.cell (p := ⟨P, 1, none⟩) hPl).trans P1
    have q2 := (hb.cell (p := ⟨P, 2, none⟩) hPl).trans P2
    have q3 := (hb.cell (p := ⟨P, 3, none⟩) hPl).trans P3
    have hPr := Nat.lt_of_lt_of_le hPl hb.size
    have hfb := fold_bd true (now - c.u.w) (L.take i) want (fun m hm => hLp m (List.mem_of_mem_take hm)) h4
    by_cases hlt2 : i < L.length
    · have hlt3 : (i : Int) < (c.ws.length : Int) + 1 := by omega
      obtain ⟨m, hm⟩ : ∃ m, L[i]? = some m := ⟨L[i], by simp [hlt2]⟩
      obtain ⟨e0, e1, -, -, hg⟩ := own_mo hAr.oW hLl.symm hm
      have hst := fold_step true (now - c.u.w) want L i m hm
      have hla := hLast i m hm
      have hle := hfb.2.2.1 rfl
      clear hfb
      generalize (L.take i).foldl (stF true (now - c.u.w)) want = nn at *
      have HR : ∀ x, stF true (now - c.u.w) nn m = x → Hid (L1R true (now - c.u.w) want L wa (.int .i64 x) (.int .i64 ((i : Int) + 1)) (wr.alloc (.cells #[.int .i64 m.t, .int .i64 m.p] 53))) := fun x hx => ⟨i + 1, by omega, by simp, by rw [hst, hx], hb.alloc hb.size _⟩
      clear hst hAr hLast hn1 hL hN hLp
      by_cases d1 : now - c.u.w < m.t
      · by_cases d2 : m.p < nn
        · have HR1 := HR m.p (by unfold stF; simp [d1, d2])
          clear HR hb
          go_wp2
          go_roundw
          case rel => exact HR1.out
          case measure => simp [intOf]; omega
        · have HR1 := HR nn (by unfold stF; simp [d2])
          clear HR hb
          go_wp2
          go_roundw
          case rel => exact HR1.out
          case measure => simp [intOf]; omega
      · have HR1 := HR nn (by unfold stF; simp [d1])
        clear HR hb
        by_cases d3 : m.t = now
        · have d3' : (m.t == now) = true := by simp [d3]
          by_cases d4 : i = c.ws.length
          · have hmw := hla d4
            have d5 : ((i : Int) == (c.ws.length : Int)) = true := by simp [d4]
            have d2 : ¬ m.p < nn := by omega
            clear hla d3 d4 hmw
            go_wp2
            go_roundw
            case rel => exact HR1.out
            case measure => simp [intOf]; omega
          · have d5 : ((i : Int) == (c.ws.length : Int)) = false := by simp; omega
            clear hla d3
            go_wp2
            go_roundw
            case rel => exact HR1.out
            case measure => simp [intOf]; omega
        · have d3' : (m.t == now) = false := by simp [d3]
          clear hla d3
          go_wp2
          go_roundw
          case rel => exact HR1.out
          case measure => simp [intOf]; omega
    · obtain rfl : i = L.length := by omega
      rw [List.take_length] at hfb ⊢
      rw [← hn1] at hfb ⊢
      have hLi : ((L.length : Nat) : Int) = (c.ws.length : Int) + 1 := by omega
      rw [hLi]
      have hlt3 : ¬ (c.ws.length : Int) + 1 < (c.ws.length : Int) + 1 := by omega
      obtain ⟨n1, hn1'⟩ : ∃ n1, cU1 c now want = n1 := ⟨_, rfl⟩
      rw [hn1'] at hfb ⊢
      clear hLast hLp hn1 hL
      have HB : Hid (Below wa.heap.size wa wr) := hb
      clear hAr hb
      go_upto_region 19 with fail
      go_cut [140] (fun v wx => v = .bool (bnd c.u) ∧ wx = wr)
      case first =>
        by_cases h5 : c.u.p = 0
        · have d1 : (c.u.p != 0) = false := by simp [h5]
          have HM : Hid (bnd c.u = false) := by unfold Hid bnd; rw [d1]; rfl
          clear h5
          go_wp2_with fail
          go_meet
          exact ⟨by rw [HM.out], rfl⟩
        · have d1 : (c.u.p != 0) = true := by simp [h5]
          by_cases h6 : c.u.n = 0
          · have d2 : (c.u.n != 0) = false := by simp [h6]
            have HM : Hid (bnd c.u = (c.u.c != 0)) := by unfold Hid bnd; rw [d1, d2]; rfl
            clear h5 h6
            go_wp2_with fail
            go_meet
            exact ⟨by rw [HM.out], rfl⟩
          · have d2 : (c.u.n != 0) = true := by simp [h6]
            have HM : Hid (bnd c.u = true) := by unfold Hid bnd; rw [d1, d2]; rfl
            clear h5 h6
            go_wp2_with fail
            go_meet
            exact ⟨by rw [HM.out], rfl⟩
      case rest =>
        obtain ⟨hv9, hw9⟩ := hcut
        subst hv9
        have hw8 := hw9.symm
        clear hw9
        subst hw8
        cases hb5 : bnd c.u
        · have hNf : max n1 hv = N := by rw [← hN, ← hn1']; simp only [cU, cU2, hb5]; rfl
          have e5 : (if n1 < hv then hv else n1) = N := by rw [← hNf]; split <;> omega
          have hNb : 0 ≤ N ∧ N ≤ 50 := by omega
          have HBt : Hid (Below wa.heap.size wa wr) := HB.out
          clear hN hn1' hNf q0 q1 q2 q3
          have hAt := HA4.out.below HBt.out
          have rMt := hAt.rM
          have fMt := hAt.fz 10
          have hDt := hAt.lt
          have hBt : B ≤ wr.heap.size := Nat.le_trans hBa HBt.out.size
          have hSt : CStep D (.slice ao c.ws.length cap) (.slice mo c.ms.length mcap) (.slice (some ⟨g, off, none⟩) (c.ws.length + 1) cap3) (.slice mo c.ms.length mcap) w wr := HS4.out.trans (CStep.of_below HBt.out)
          by_cases hz : N = hv
          · have hz' : (N != hv) = false := by simp [hz]
            have HT : Hid (CeA B D (.slice ao c.ws.length cap) (.slice mo c.ms.length mcap) c now hv want w (.returned (.tuple #[.int .i64 N, .int .i64 0])) wr) := by
              refine ⟨by rw [HCN.out, HCE.out], _, _, ?_, hSt⟩
              rw [HCS.out, mov, if_pos (by omega)]
              exact hAt
            clear hz hAt hSt
            go_wp2
            go_ret2
            exact HT.out
          · have hz' : (N != hv) = true := by simp [hz]
            have hOm : Own wr B 53 2 (.slice mo c.ms.length mcap) c.ms.length (cels mc c.ms) := hAt.oM
            have HT : Hid (∀ (v5 : Value) (w5 : World), CAt w5 B D (.slice (some ⟨g, off, none⟩) (c.ws.length + 1) cap3) v5 ⟨c.u, c.d, now, L, c.ms ++ [⟨now, N - hv⟩]⟩ → CStep D (.slice (some ⟨g, off, none⟩) (c.ws.length + 1) cap3) (.slice mo c.ms.length mcap) (.slice (some ⟨g, off, none⟩) (c.ws.length + 1) cap3) v5 wr w5 → CeA B D (.slice ao c.ws.length cap) (.slice mo c.ms.length mcap) c now hv want w (.returned (.tuple #[.int .i64 N, .int .i64 0])) w5) := by
              intro v5 w5 h5 s5
              refine ⟨by rw [HCN.out, HCE.out], _, v5, ?_, hSt.trans s5⟩
              rw [HCS.out, mov, if_neg (by omega)]
              exact h5
            have HAt : Hid (CAt wr B D (.slice (some ⟨g, off, none⟩) (c.ws.length + 1) cap3) (.slice mo c.ms.length mcap) ⟨c.u, c.d, now, L, c.ms⟩) := hAt
            clear hz hAt hSt
            go_wp2_with (at_builtin; refine wpList_at rfl _ _ 44 rfl B 53 i0 (.agg #[.int .i64 0, .int .i64 0]) 2 16 Try.underlying44 hi hz0 hz1 hz2 rfl _ _ _ rfl (Own.alloc hOm _) ⟨wr.heap.size, 0, none⟩ 1 1 [.int .i64 now, .int .i64 (N - hv)] rfl rfl (cell_twoN _ _ _ rfl) (fun u hu => by simp at hu; rcases hu with rfl | rfl <;> rfl) (by decide) (by unfold maxLen; omega) (by omega) (by simp; omega) ?_; intro v5 w5 hown5 hgrow5 hloc5; obtain ⟨ao5, cap5, rfl, -⟩ := hown5.form; obtain ⟨HF5, c95, f95⟩ := app_m HAt.out hown5 hgrow5 hloc5; have HT5 : Hid (CeA B D (.slice ao c.ws.length cap) (.slice mo c.ms.length mcap) c now hv want w (.returned (.tuple #[.int .i64 N, .int .i64 0])) (w5.setCell ⟨D, 10, none⟩ (.slice ao5 (c.ms.length + 1) cap5))) := HT.out _ _ HF5.out.1 HF5.out.2)
            go_ret2
            exact HT5.out
        · obtain ⟨S, hS⟩ : ∃ S, sumF fup c.ms (now - c.u.p) = S := ⟨_, rfl⟩
          go_wp2_with fail
          go_loopw [15, 16] (fun vs vi wr2 => L2R fup (now - c.u.p) c.ms wr vs vi wr2) (fun _ i _ => c.ms.length - (intOf i).toNat)
          case atStart => exact ⟨0, by omega, rfl, rfl, Below.refl _ _⟩
          case round =>
            obtain ⟨i, hil, rfl, rfl, hb⟩ := hrel
            have hbb := HB.out.trans (hb.mono HB.out.size)
            have hAr := HA4.out.below hbb
            have r10 := hAr.rM
            have hDl := hAr.lt
            have p1 := (hbb.cell (p := ⟨P, 1, none⟩) hPl).trans P1
            have p2 := (hbb.cell (p := ⟨P, 2, none⟩) hPl).trans P2
            have p3 := (hbb.cell (p := ⟨P, 3, none⟩) hPl).trans P3
            have hPr2 := Nat.lt_of_lt_of_le hPl hbb.size
            have hsb := sumF_bd fup fup_bd (now - c.u.p) (c.ms.take i) (fun m hm => hmm m (List.mem_of_mem_take hm))
            have htl : (c.ms.take i).length ≤ 200 := by simp; omega
            by_cases hlt2 : i < c.ms.length
            · have hlt3 : (i : Int) < (c.ms.length : Int) := by omega
              obtain ⟨g2, off2, rfl⟩ := hmo (by omega)
              obtain ⟨m, hm⟩ : ∃ m, c.ms[i]? = some m := ⟨c.ms[i], by simp [hlt2]⟩
              obtain ⟨e0, e1, -, -, hg⟩ := own_mo hAr.oM rfl hm
              have hst := sumF_step fup (now - c.u.p) c.ms i m hm
              have hmp := hmm m (List.mem_of_getElem? hm)
              generalize sumF fup (c.ms.take i) (now - c.u.p) = Si at *
              have HR : ∀ x, Si + (if now - c.u.p < m.t then fup m.p else 0) = x → Hid (L2R fup (now - c.u.p) c.ms _ (.int .i64 x) (.int .i64 ((i : Int) + 1)) (wr.alloc (.cells #[.int .i64 m.t, .int .i64 m.p] 53))) := fun x hx => ⟨i + 1, by omega, by simp, by rw [hst, hx], hb.alloc hb.size _⟩
              clear hst hAr hN hS hmm hbb
              by_cases d1 : now - c.u.p < m.t
              · by_cases d2 : 0 < m.p
                · have HR1 := HR (Si + m.p) (by rw [if_pos d1]; unfold fup; omega)
                  clear HR hb
                  go_wp2
                  go_roundw
                  case rel => exact HR1.out
                  case measure => simp [intOf]; omega
                · have HR1 := HR Si (by rw [if_pos d1]; unfold fup; omega)
                  clear HR hb
                  go_wp2
                  go_roundw
                  case rel => exact HR1.out
                  case measure => simp [intOf]; omega
              · have HR1 := HR Si (by rw [if_neg d1]; omega)
                clear HR hb
                go_wp2
                go_roundw
                case rel => exact HR1.out
                case measure => simp [intOf]; omega
            · obtain rfl : i = c.ms.length := by omega
              rw [List.take_length] at hsb ⊢
              rw [hS] at hsb ⊢
              have hml2 : (c.ms.length : Int) ≤ 200 := by omega
              obtain ⟨b, hbv⟩ : ∃ b, max (hv - S) 0 = b := ⟨_, rfl⟩
              have hb0 : 0 ≤ b ∧ b ≤ 11000 := by omega
              have e1 : (if hv - S < 0 then (0 : Int) else hv - S) = b := by rw [← hbv]; split <;> omega
              obtain ⟨x, hx⟩ : ∃ x, b * c.u.c = x := ⟨_, rfl⟩
              have hx0 : 0 ≤ x ∧ x ≤ 1100000000 := by
                rw [← hx]
                refine ⟨Int.mul_nonneg hb0.1 pc.1, ?_⟩
                exact Int.le_trans (Int.mul_le_mul hb0.2 pc.2 pc.1 (by decide)) (by decide)
              have hwr1 : IntKind.i64.wrap (b * c.u.c) = x := by rw [hx]; exact wrap_sub (by omega) (by omega)
              obtain ⟨pt, hpt⟩ : ∃ pt, up (clip x) (clip 100) = pt := ⟨_, rfl⟩
              have cC := fun w => rceil_any x 100 w (by decide)
              rw [hpt] at cC
              have hptb : -1000000000000000 ≤ pt ∧ pt ≤ 1000000000000001 := by rw [← hpt]; exact up_bd _ _ (by decide) (clip_bd _)
              obtain ⟨q, hq⟩ : ∃ q, max c.u.n pt = q := ⟨_, rfl⟩
              have hqb : 0 ≤ q ∧ q ≤ 1000000000000001 := by omega
              have e2 : (if c.u.n < pt then pt else c.u.n) = q := by rw [← hq]; split <;> omega
              have hwr2 : IntKind.i64.wrap (b + q) = b + q := wrap_sub (by omega) (by omega)
              obtain ⟨n2, hn2⟩ : ∃ n2, min n1 (b + q) = n2 := ⟨_, rfl⟩
              have e3 : (if b + q < n1 then b + q else n1) = n2 := by rw [← hn2]; split <;> omega
              have hNf : max n2 hv = N := by
                rw [← hN, ← hn2, ← hq, ← hpt, ← hx, ← hbv, ← hS, ← hn1']; simp only [cU, cU2, cUb, hb5, if_true]
              have e5 : (if n2 < hv then hv else n2) = N := by rw [← hNf]; split <;> omega
              have hNb : -1000000000100000 ≤ N ∧ N ≤ 1000000000100000 := by omega
              have hn2b : -1000000000100000 ≤ n2 ∧ n2 ≤ 1000000000100000 := by omega
              have HBr : Hid (Below wa.heap.size wa wr) := hbb
              clear hN hn1' hNf hn2 hq hpt hbv hS hx hAr hb hbb hmm
              go_upto_region 32 with fail
              go_cut [10] (fun v wx => v = .int .i64 n2 ∧ Below wr.heap.size wr wx)
              case first =>
                go_region_with (go_at_call 17; (with_reducible refine (cC _).mono ?_); rintro e w9 ⟨rfl, h9⟩; have h8 := h9.symm; clear h9; subst h8)
                all_goals
                  go_wp2_with fail
                  go_meet
                  exact ⟨rfl, (Below.refl _ _).drew⟩
              case rest =>
                obtain ⟨hv9, hb9⟩ := hcut
                subst hv9
                have HBt : Hid (Below wa.heap.size wa wc) := HBr.out.trans (hb9.mono HBr.out.size)
                clear hb9 q0 q1 q2 q3 p1 p2 p3 cC
                have hAt := HA4.out.below HBt.out
                have rMt := hAt.rM
                have fMt := hAt.fz 10
                have hDt := hAt.lt
                have hBt : B ≤ wc.heap.size := Nat.le_trans hBa HBt.out.size
                have hSt : CStep D (.slice ao c.ws.length cap) (.slice mo c.ms.length mcap) (.slice (some ⟨g, off, none⟩) (c.ws.length + 1) cap3) (.slice mo c.ms.length mcap) w wc := HS4.out.trans (CStep.of_below HBt.out)
                by_cases hz : N = hv
                · have hz' : (N != hv) = false := by simp [hz]
                  have HT : Hid (CeA B D (.slice ao c.ws.length cap) (.slice mo c.ms.length mcap) c now hv want w (.returned (.tuple #[.int .i64 N, .int .i64 0])) wc) := by
                    refine ⟨by rw [HCN.out, HCE.out], _, _, ?_, hSt⟩
                    rw [HCS.out, mov, if_pos (by omega)]
                    exact hAt
                  clear hz hAt hSt
                  go_wp2
                  go_ret2
                  exact HT.out
                · have hz' : (N != hv) = true := by simp [hz]
                  have hOm : Own wc B 53 2 (.slice mo c.ms.length mcap) c.ms.length (cels mc c.ms) := hAt.oM
                  have HT : Hid (∀ (v5 : Value) (w5 : World), CAt w5 B D (.slice (some ⟨g, off, none⟩) (c.ws.length + 1) cap3) v5 ⟨c.u, c.d, now, L, c.ms ++ [⟨now, N - hv⟩]⟩ → CStep D (.slice (some ⟨g, off, none⟩) (c.ws.length + 1) cap3) (.slice mo c.ms.length mcap) (.slice (some ⟨g, off, none⟩) (c.ws.length + 1) cap3) v5 wc w5 → CeA B D (.slice ao c.ws.length cap) (.slice mo c.ms.length mcap) c now hv want w (.returned (.tuple #[.int .i64 N, .int .i64 0])) w5) := by
                    intro v5 w5 h5 s5
                    refine ⟨by rw [HCN.out, HCE.out], _, v5, ?_, hSt.trans s5⟩
                    rw [HCS.out, mov, if_neg (by omega)]
                    exact h5
                  have HAt : Hid (CAt wc B D (.slice (some ⟨g, off, none⟩) (c.ws.length + 1) cap3) (.slice mo c.ms.length mcap) ⟨c.u, c.d, now, L, c.ms⟩) := hAt
                  clear hz hAt hSt
                  go_wp2_with (at_builtin; refine wpList_at rfl _ _ 44 rfl B 53 i0 (.agg #[.int .i64 0, .int .i64 0]) 2 16 Try.underlying44 hi hz0 hz1 hz2 rfl _ _ _ rfl (Own.alloc hOm _) ⟨wc.heap.size, 0, none⟩ 1 1 [.int .i64 now, .int .i64 (N - hv)] rfl rfl (cell_twoN _ _ _ rfl) (fun u hu => by simp at hu; rcases hu with rfl | rfl <;> rfl) (by decide) (by unfold maxLen; omega) (by omega) (by simp; omega) ?_; intro v5 w5 hown5 hgrow5 hloc5; obtain ⟨ao5, cap5, rfl, -⟩ := hown5.form; obtain ⟨HF5, c95, f95⟩ := app_m HAt.out hown5 hgrow5 hloc5; have HT5 : Hid (CeA B D (.slice ao c.ws.length cap) (.slice mo c.ms.length mcap) c now hv want w (.returned (.tuple #[.int .i64 N, .int .i64 0])) (w5.setCell ⟨D, 10, none⟩ (.slice ao5 (c.ms.length + 1) cap5))) := HT.out _ _ HF5.out.1 HF5.out.2)
                  go_ret2
                  exact HT5.out
end Stb
end Go.Proofs.Ytanlhkokghjadac
