
/- The law StablePlays, walked. -/
import Derived.Test.YtanlhkokghjadacCalmAny
import Derived.Test.YtanlhkokghjadacCalmNew
import Derived.Test.YtanlhkokghjadacCalmSim
import Derived.Test.YtanlhkokghjadacFrameSl
namespace Go.Proofs.Ytanlhkokghjadac
namespace Stb
open Rw Go.RowKit Frm
set_option maxRecDepth 8000

theorem sset_use (B Q : Nat) (V : Nat → Value) (s : St) (now hv want : Int) (k : Nat) (w : World) (hA : SAt w B Q V s) (hF : Fit s k) (hk : k ≤ 900) {n e : Int} (hn : setN s now hv want = n) (he : setE s now hv want = e) :
    Calls Try.prog 6 #[.pointer (some ⟨Q, 0, none⟩), .int .i64 now, .int .i64 hv, .int .i64 want] w fun en w' => en = .returned (.tuple #[.int .i64 n, .int .i64 e]) ∧ ∃ V', SAt w' B Q V' (setS s now hv want) ∧ Step Q V V' w w' ∧ Below B w w' := by
  refine (set_any B Q V s now hv want k w hA hF hk).mono ?_
  rintro en w' ⟨rfl, V', hA', hS'⟩
  subst hn he
  exact ⟨rfl, V', hA', hS', hS'.below hA (Nat.le_trans hA.bQ (Nat.le_of_lt hA.lt))⟩
theorem cset_use (B D : Nat) (vw vm : Value) (c : Cm) (now hv want : Int) (k : Nat) (w : World) (hA : CAt w B D vw vm c) (hF : CFit c k) (hk : k ≤ 200) {n e : Int} (hn : cN c now hv want = n) (he : cE c now hv want = e) :
    Calls Try.prog 7 #[.pointer (some ⟨D, 0, none⟩), .int .i64 now, .int .i64 hv, .int .i64 want] w fun en w' => en = .returned (.tuple #[.int .i64 n, .int .i64 e]) ∧ ∃ vw' vm', CAt w' B D vw' vm' (cS c now hv want) ∧ CStep D vw vm vw' vm' w w' ∧ Below B w w' := by
  refine (cset_any B D vw vm c now hv want k w hA hF hk).mono ?_
  rintro en w' ⟨rfl, vw', vm', hA', hS'⟩
  subst hn he
  exact ⟨rfl, vw', vm', hA', hS', hS'.below hA (Nat.le_trans hA.bD (Nat.le_of_lt hA.lt))⟩
/-- k wishes are settled by both -/
def PyR (B E Q D len : Nat) (w : World) (i : Value) (wr : World) : Prop :=
  ∃ (k : Nat) (V : Nat → Value) (s : St) (vw vm : Value) (c : Cm), k ≤ len ∧ i = .int .i64 k ∧ SAt wr B Q V s ∧ CAt wr E D vw vm c ∧ Fit s (2 * k) ∧ CFit c k ∧ Sim s c ∧ (∀ b, blk Q V b → ¬ cblk D vw vm b) ∧ Below w.heap.size w wr
theorem sim_new (u d : Pc) : Sim (new u d) ⟨clP u, clP d, 0, [], []⟩ := Sim.new _ _
theorem cfit_new (u d : Pc) : CFit ⟨clP u, clP d, 0, [], []⟩ 0 := ⟨clP_ok u, clP_ok d, ⟨Int.le_refl 0, by simp⟩, by simp, by simp, by simp, by simp⟩
theorem plays_long (w : World) (u d : Pc) (a1 : Option Addr) (len cap : Nat) (hl : 100 < len) :
    Calls Try.prog 3 #[pcV u, pcV d, .slice a1 len cap] w fun e w' => e = .returned (.bool true) ∧ Below w.heap.size w w' := by
  obtain ⟨uw, un, uc, up⟩ := u
  obtain ⟨dw, dn, dc, dp⟩ := d
  simp only [pcV]
  have hl' : (100 : Int) < (len : Int) := by omega
  go_enter Try.func3, Try.ntmps3
  go_wp2
  go_ret
  exact ⟨rfl, ((Below.refl _ _).alloc (Nat.le_refl _) _).alloc (by simp) _⟩
set_option maxHeartbeats 16000000 in
theorem plays_law (w : World) (u d : Pc) (a1 : Option Addr) (len cap : Nat) (X : Nat → Nat → Int) (hl : len ≤ 100) (hX : Frm.RowsIn w a1 len 3 X) :
    Calls Try.prog 3 #[pcV u, pcV d, .slice a1 len cap] w fun e w' => e = .returned (.bool true) ∧ Below w.heap.size w w' := by
  have cN1 := fun w => new_any u d w
  have cN2 := fun w => cnew_any u d w
  have HS0 : Hid (Sim (new u d) ⟨clP u, clP d, 0, [], []⟩ ∧ Fit (new u d) (2 * 0) ∧ CFit ⟨clP u, clP d, 0, [], []⟩ 0) := ⟨sim_new u d, new_fit u d, cfit_new u d⟩
  obtain ⟨uw, un, uc, up⟩ := u
  obtain ⟨dw, dn, dc, dp⟩ := d
  simp only [pcV] at cN1 cN2 ⊢
  have hl' : ¬ (100 : Int) < (len : Int) := by omega
  go_enter Try.func3, Try.ntmps3
  go_upto_region 3 with fail
  have p0 : ((w.alloc (.cells #[.int .i64 uw, .int .i64 un, .int .i64 uc, .int .i64 up] 23)).alloc (.cells #[.int .i64 dw, .int .i64 dn, .int .i64 dc, .int .i64 dp] 23)).cell? ⟨w.heap.size, 0, none⟩ = some (.int .i64 uw) := by simp [go_sem]
  have p1 : ((w.alloc (.cells #[.int .i64 uw, .int .i64 un, .int .i64 uc, .int .i64 up] 23)).alloc (.cells #[.int .i64 dw, .int .i64 dn, .int .i64 dc, .int .i64 dp] 23)).cell? ⟨w.heap.size, 1, none⟩ = some (.int .i64 un) := by simp [go_sem]
  have p2 : ((w.alloc (.cells #[.int .i64 uw, .int .i64 un, .int .i64 uc, .int .i64 up] 23)).alloc (.cells #[.int .i64 dw, .int .i64 dn, .int .i64 dc, .int .i64 dp] 23)).cell? ⟨w.heap.size, 2, none⟩ = some (.int .i64 uc) := by simp [go_sem]
  have p3 : ((w.alloc (.cells #[.int .i64 uw, .int .i64 un, .int .i64 uc, .int .i64 up] 23)).alloc (.cells #[.int .i64 dw, .int .i64 dn, .int .i64 dc, .int .i64 dp] 23)).cell? ⟨w.heap.size, 3, none⟩ = some (.int .i64 up) := by simp [go_sem]
  have p4 : ((w.alloc (.cells #[.int .i64 uw, .int .i64 un, .int .i64 uc, .int .i64 up] 23)).alloc (.cells #[.int .i64 dw, .int .i64 dn, .int .i64 dc, .int .i64 dp] 23)).cell? ⟨w.heap.size + 1, 0, none⟩ = some (.int .i64 dw) := by simp [go_sem]
  have p5 : ((w.alloc (.cells #[.int .i64 uw, .int .i64 un, .int .i64 uc, .int .i64 up] 23)).alloc (.cells #[.int .i64 dw, .int .i64 dn, .int .i64 dc, .int .i64 dp] 23)).cell? ⟨w.heap.size + 1, 1, none⟩ = some (.int .i64 dn) := by simp [go_sem]
  have p6 : ((w.alloc (.cells #[.int .i64 uw, .int .i64 un, .int .i64 uc, .int .i64 up] 23)).alloc (.cells #[.int .i64 dw, .int .i64 dn, .int .i64 dc, .int .i64 dp] 23)).cell? ⟨w.heap.size + 1, 2, none⟩ = some (.int .i64 dc) := by simp [go_sem]
  have p7 : ((w.alloc (.cells #[.int .i64 uw, .int .i64 un, .int .i64 uc, .int .i64 up] 23)).alloc (.cells #[.int .i64 dw, .int .i64 dn, .int .i64 dc, .int .i64 dp] 23)).cell? ⟨w.heap.size + 1, 3, none⟩ = some (.int .i64 dp) := by simp [go_sem]
  have hb : Below w.heap.size w ((w.alloc (.cells #[.int .i64 uw, .int .i64 un, .int .i64 uc, .int .i64 up] 23)).alloc (.cells #[.int .i64 dw, .int .i64 dn, .int .i64 dc, .int .i64 dp] 23)) := ((Below.refl _ _).alloc (Nat.le_refl _) _).alloc (by simp) _
  have hsz : ((w.alloc (.cells #[.int .i64 uw, .int .i64 un, .int .i64 uc, .int .i64 up] 23)).alloc (.cells #[.int .i64 dw, .int .i64 dn, .int .i64 dc, .int .i64 dp] 23)).heap.size = w.heap.size + 2 := by simp
  generalize (w.alloc (.cells #[.int .i64 uw, .int .i64 un, .int .i64 uc, .int .i64 up] 23)).alloc (.cells #[.int .i64 dw, .int .i64 dn, .int .i64 dc, .int .i64 dp] 23) = W at *
  have HB : Hid (Below w.heap.size w W) := hb
  have hl0 : w.heap.size < W.drew.heap.size := by show _ < W.heap.size; omega
  have hl1 : w.heap.size + 1 < W.drew.heap.size := by show _ < W.heap.size; omega
  clear hb hsz
  go_cut [7, 8] (fun vq vd wx => ∃ B E Q D, vq = .pointer (some ⟨Q, 0, none⟩) ∧ vd = .pointer (some ⟨D, 0, none⟩) ∧ w.heap.size ≤ B ∧ w.heap.size ≤ E ∧ PyR B E Q D len w (.int .i64 0) wx)
  case first =>
    go_region_with (first
      | (go_at_call 4; (with_reducible refine (cN1 W.drew).mono ?_); rintro e w2 ⟨Q, rfl, hA2, hb2⟩; have d0 := (hb2.cell (p := ⟨w.heap.size, 0, none⟩) hl0).trans p0; have d1 := (hb2.cell (p := ⟨w.heap.size, 1, none⟩) hl0).trans p1; have d2 := (hb2.cell (p := ⟨w.heap.size, 2, none⟩) hl0).trans p2; have d3 := (hb2.cell (p := ⟨w.heap.size, 3, none⟩) hl0).trans p3; have d4 := (hb2.cell (p := ⟨w.heap.size + 1, 0, none⟩) hl1).trans p4; have d5 := (hb2.cell (p := ⟨w.heap.size + 1, 1, none⟩) hl1).trans p5; have d6 := (hb2.cell (p := ⟨w.heap.size + 1, 2, none⟩) hl1).trans p6; have d7 := (hb2.cell (p := ⟨w.heap.size + 1, 3, none⟩) hl1).trans p7)
      | (go_at_call 5; (with_reducible refine (cN2 w2).mono ?_); rintro e w3 ⟨D, rfl, hA3, hb3⟩))
    all_goals
      have hB2 : Below w.heap.size w w2 := HB.out.drew.trans (hb2.mono HB.out.size)
      have HG : Hid (∃ B E Q' D', (Value.pointer (some ⟨Q, 0, none⟩)) = .pointer (some ⟨Q', 0, none⟩) ∧ (Value.pointer (some ⟨D, 0, none⟩)) = .pointer (some ⟨D', 0, none⟩) ∧ w.heap.size ≤ B ∧ w.heap.size ≤ E ∧ PyR B E Q' D' len w (.int .i64 0) w3) := by
        refine ⟨W.drew.heap.size, w2.heap.size, Q, D, rfl, rfl, HB.out.size, hB2.size, 0, _, _, _, _, _, by omega, rfl, hA2.below hb3, hA3, HS0.out.2.1, HS0.out.2.2, HS0.out.1, fun b h1 h2 => ?_, hB2.trans (hb3.mono hB2.size)⟩
        have := (hA2.blt h1).2
        have := (hA3.blt h2).1
        omega
      clear hA2 hA3 hb2 hb3 hB2
      go_wp2_with fail
      go_meet
      exact HG.out
  case rest =>
    obtain ⟨B, E, Q, D, rfl, rfl, hwB, hwE, hR0⟩ := hcut
    clear HB p0 p1 p2 p3 p4 p5 p6 p7 cN1 cN2 hl0 hl1 HS0
    go_wp2_with fail
    go_loopw [26] (fun i wr => PyR B E Q D len w i wr) (fun i _ => len - (intOf i).toNat)
    case atStart => exact hR0
    case round =>
      clear hR0
      obtain ⟨k, V, s, vw, vm, c, hk, rfl, hA, hC, hF, hCF, hSim, hdis, hbw⟩ := hrel
      by_cases hlt : k < len
      · have hlt' : (k : Int) < len := by omega
        obtain ⟨b, off, rfl, hbl, hcell⟩ := (hX.below hbw (Nat.le_refl _)) k (by omega)
        have k0 : wr.cell? ⟨b, off + k * 3, none⟩ = some (.int .i64 (X k 0)) := by have := (hcell 0 (by omega)).1; simpa using this
        have k1 : wr.cell? ⟨b, off + k * 3 + 1, none⟩ = some (.int .i64 (X k 1)) := by have := (hcell 1 (by omega)).1; simpa [Nat.add_assoc] using this
        have k2 : wr.cell? ⟨b, off + k * 3 + 2, none⟩ = some (.int .i64 (X k 2)) := by have := (hcell 2 (by omega)).1; simpa [Nat.add_assoc] using this
        clear hcell
        generalize X k 0 = now at k0
        generalize X k 1 = hv at k1
        generalize X k 2 = want at k2
        have hAW := hA.alloc (.cells #[.int .i64 now, .int .i64 hv, .int .i64 want] 30)
        have hCW := hC.alloc (.cells #[.int .i64 now, .int .i64 hv, .int .i64 want] 30)
        have hbW : Below w.heap.size w (wr.alloc (.cells #[.int .i64 now, .int .i64 hv, .int .i64 want] 30)) := hbw.alloc hbw.size _
        have hCb : ¬ blk Q V wr.heap.size := fun e => by have := (hA.blt e).2; omega
        have x0 : (wr.alloc (.cells #[.int .i64 now, .int .i64 hv, .int .i64 want] 30)).cell? ⟨wr.heap.size, 0, none⟩ = some (.int .i64 now) := by simp
        have x1 : (wr.alloc (.cells #[.int .i64 now, .int .i64 hv, .int .i64 want] 30)).cell? ⟨wr.heap.size, 1, none⟩ = some (.int .i64 hv) := by simp
        have x2 : (wr.alloc (.cells #[.int .i64 now, .int .i64 hv, .int .i64 want] 30)).cell? ⟨wr.heap.size, 2, none⟩ = some (.int .i64 want) := by simp
        have hCl : wr.heap.size < (wr.alloc (.cells #[.int .i64 now, .int .i64 hv, .int .i64 want] 30)).heap.size := by simp
        obtain ⟨N, hN⟩ : ∃ N, setN s now hv want = N := ⟨_, rfl⟩
        obtain ⟨Er, hEr⟩ : ∃ E, setE s now hv want = E := ⟨_, rfl⟩
        have hcn := hSim.n hF now hv want
        rw [hN, hEr] at hcn
        have c1 := sset_use B Q V s now hv want (2 * k) _ hAW hF (by omega) hN hEr
        have c2 := fun W h => cset_use E D vw vm c now hv want k W h hCF (by omega) hcn.1 hcn.2
        have HK : Hid (∀ w3 V', SAt w3 B Q V' (setS s now hv want) → Step Q V V' (wr.alloc (.cells #[.int .i64 now, .int .i64 hv, .int .i64 want] 30)) w3 → CAt w3 E D vw vm c ∧ (∀ b, blk Q V' b → ¬ cblk D vw vm b) ∧ w3.cell? ⟨wr.heap.size, 0, none⟩ = some (.int .i64 now) ∧ w3.cell? ⟨wr.heap.size, 1, none⟩ = some (.int .i64 hv) ∧ w3.cell? ⟨wr.heap.size, 2, none⟩ = some (.int .i64 want)) := by
          intro w3 V' h3 s3
          have hk3 := s3.block wr.heap.size hCl hCb
          refine ⟨hCW.kept (fun x hx => s3.block x (hCW.blt hx).2 (fun e => hdis x e hx)), fun x hx hc => ?_, (World.cell?_of_block (a := ⟨wr.heap.size, 0, none⟩) hk3).trans x0, (World.cell?_of_block (a := ⟨wr.heap.size, 1, none⟩) hk3).trans x1, (World.cell?_of_block (a := ⟨wr.heap.size, 2, none⟩) hk3).trans x2⟩
          rcases s3.loc x hx with a | a
          · exact hdis x a hc
          · have := (hCW.blt hc).2; omega
        have HP : Hid (∀ w3 V' w4 vw' vm', SAt w3 B Q V' (setS s now hv want) → Step Q V V' (wr.alloc (.cells #[.int .i64 now, .int .i64 hv, .int .i64 want] 30)) w3 → (∀ b, blk Q V' b → ¬ cblk D vw vm b) → CAt w4 E D vw' vm' (cS c now hv want) → CStep D vw vm vw' vm' w3 w4 → Below B (wr.alloc (.cells #[.int .i64 now, .int .i64 hv, .int .i64 want] 30)) w3 → Below E w3 w4 → PyR B E Q D len w (.int .i64 ((k : Int) + 1)) w4) := by
          intro w3 V' w4 vw' vm' h3 s3 d3 h4 s4 b3 b4
          have hb3 := hbW.trans (b3.mono hwB)
          refine ⟨k + 1, V', _, vw', vm', _, by omega, by simp, h3.kept (fun x hx => s4.block x (h3.blt hx).2 (d3 x hx)), h4, hF.setS now hv want, cfit_step hSim hF hCF now hv want, hSim.step hF now hv want, fun x hx hc => ?_, hb3.trans (b4.mono hwE)⟩
          rcases s4.loc x hc with a | a
          · exact d3 x hx a
          · have := (h3.blt hx).2; omega
        clear hA hC hF hCF hSim hdis hbw hAW hCW hbW hCb x0 x1 x2 hN hEr hcn
        have hNN : (N != N) = false := by simp
        have hEE : (Er != Er) = false := by simp
        go_wp2_with (first
          | (go_at_call 6; (with_reducible refine c1.mono ?_); rintro e w3 ⟨rfl, V3, hA3, hS3, hb3⟩; obtain ⟨hC3, hd3, y0, y1, y2⟩ := HK.out w3 V3 hA3 hS3; have HA3 : Hid (SAt w3 B Q V3 (setS s now hv want)) := hA3; have HS3 : Hid (Step Q V V3 (wr.alloc (.cells #[.int .i64 now, .int .i64 hv, .int .i64 want] 30)) w3) := hS3; have HC3 : Hid (CAt w3 E D vw vm c) := hC3; have HD3 : Hid (∀ b, blk Q V3 b → ¬ cblk D vw vm b) := hd3; have HB3 : Hid (Below B (wr.alloc (.cells #[.int .i64 now, .int .i64 hv, .int .i64 want] 30)) w3) := hb3; clear hA3 hS3 hC3 hd3 hb3)
          | (go_at_call 7; (with_reducible refine (c2 w3 HC3.out).mono ?_); rintro e w4 ⟨rfl, vw4, vm4, hC4, hS4, hb4⟩; have HR : Hid _ := HP.out w3 V3 w4 vw4 vm4 HA3.out HS3.out HD3.out hC4 hS4 HB3.out hb4; clear hC4 hS4 hb4))
        go_roundw
        case rel => exact HR.out
        case measure => simp [intOf]; omega
      · obtain rfl : k = len := by omega
        go_wp2
        go_ret
        exact ⟨rfl, hbw⟩
end Stb
end Go.Proofs.Ytanlhkokghjadac
