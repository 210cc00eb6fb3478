
/- What mayBe, bounds, more and fewer answer. -/
import Derived.Test.YtanlhkokghjadacStbForget
import Derived.Test.YtanlhkokghjadacNumWalks
namespace Go.Proofs.Ytanlhkokghjadac
namespace Stb
open Rw Go.RowKit Plain Num
set_option maxRecDepth 8000

def mb (n : Int) : Bool := decide (0 ≤ n) && decide (n ≤ 50)
theorem mb_iff (n : Int) : mb n = true ↔ 0 ≤ n ∧ n ≤ 50 := by simp [mb]
theorem mayBe_any (n : Int) (w : World) : Calls Try.prog 11 #[.int .i64 n] w fun e w' => e = .returned (.bool (mb n)) ∧ w' = w := by
  by_cases h1 : 0 ≤ n
  · have d1 : decide (0 ≤ n) = true := by simp [h1]
    have HM : Hid (mb n = decide (n ≤ 50)) := by unfold Hid mb; rw [d1]; rfl
    go_enter Try.func11, Try.ntmps11
    go_wp2
    go_ret
    exact ⟨by rw [HM.out]; rfl, rfl⟩
  · have d1 : decide (0 ≤ n) = false := by simp [h1]
    have HM : Hid (mb n = false) := by unfold Hid mb; rw [d1]; rfl
    go_enter Try.func11, Try.ntmps11
    go_wp2
    go_ret
    exact ⟨by rw [HM.out]; rfl, rfl⟩
def pcV (p : Pc) : Value := .agg #[.int .i64 p.w, .int .i64 p.n, .int .i64 p.c, .int .i64 p.p]
theorem bounds_any (p : Pc) (w : World) : Calls Try.prog 24 #[pcV p] w fun e w' => e = .returned (.bool (bnd p)) ∧ Below w.heap.size w w' := by
  obtain ⟨pw, pn, pc, pp⟩ := p
  unfold pcV
  by_cases h1 : pp = 0
  · have d1 : (pp != 0) = false := by simp [h1]
    have HM : Hid (bnd ⟨pw, pn, pc, pp⟩ = false) := by unfold Hid bnd; rw [d1]; rfl
    clear h1
    go_enter Try.func24, Try.ntmps24
    go_wp2
    go_ret
    exact ⟨by rw [HM.out]; rfl, (Below.refl _ _).alloc (Nat.le_refl _) _⟩
  · have d1 : (pp != 0) = true := by simp [h1]
    by_cases h2 : pn = 0
    · have d2 : (pn != 0) = false := by simp [h2]
      have HM : Hid (bnd ⟨pw, pn, pc, pp⟩ = (pc != 0)) := by unfold Hid bnd; rw [d1, d2]; rfl
      clear h1 h2
      go_enter Try.func24, Try.ntmps24
      go_wp2
      go_ret
      exact ⟨by rw [HM.out]; rfl, (Below.refl _ _).alloc (Nat.le_refl _) _⟩
    · have d2 : (pn != 0) = true := by simp [h2]
      have HM : Hid (bnd ⟨pw, pn, pc, pp⟩ = true) := by unfold Hid bnd; rw [d1, d2]; rfl
      clear h1 h2
      go_enter Try.func24, Try.ntmps24
      go_wp2
      go_ret
      exact ⟨by rw [HM.out]; rfl, (Below.refl _ _).alloc (Nat.le_refl _) _⟩

def MoA (B Q : Nat) (V : Nat → Value) (s' : St) (n : Int) (w : World) (e : Ending) (w' : World) : Prop :=
  e = .returned (.int .i64 n) ∧ ∃ V', SAt w' B Q V' s' ∧ Step Q V V' w w'
theorem partU_bd (s : St) (b : Int) (h0 : 0 ≤ b) (h1 : 0 ≤ s.u.c) : 0 ≤ partU s b ∧ partU s b ≤ 1000000000000001 := by
  unfold partU
  have hm : 0 ≤ clip (mulc (clip b) (clip s.u.c)) := by
    have a : 0 ≤ clip b := by unfold clip; repeat (first | omega | split)
    have c : 0 ≤ clip s.u.c := by unfold clip; repeat (first | omega | split)
    have m : 0 ≤ clip b * clip s.u.c := Int.mul_nonneg a c
    have m2 : 0 ≤ mulc (clip b) (clip s.u.c) := by unfold mulc; generalize clip b * clip s.u.c = x at m; unfold clip; repeat (first | omega | split)
    generalize mulc (clip b) (clip s.u.c) = x at m2
    unfold clip; repeat (first | omega | split)
  have hb := clip_bd (mulc (clip b) (clip s.u.c))
  have h100 : clip 100 = 100 := by decide
  rw [h100]
  refine ⟨?_, (up_bd _ 100 (by decide) hb).2⟩
  have := (up_ok (clip (mulc (clip b) (clip s.u.c))) 100 (by decide)).1
  omega
theorem partD_bd (s : St) (b : Int) (_h0 : 0 ≤ b) (_h1 : 0 ≤ s.d.c) : 0 ≤ partD s b ∧ partD s b ≤ 1000000000000001 := by
  unfold partD share
  have ha := atz_bd _ (clip_bd b)
  have hm := atz_bd _ (clip_bd (10 * s.d.c))
  have hp : 0 ≤ atz (clip b) * atz (clip (10 * s.d.c)) := Int.mul_nonneg ha.1 hm.1
  have hq : 0 ≤ atz (clip b) * atz (clip (10 * s.d.c)) / 1000 := Int.ediv_nonneg hp (by decide)
  generalize atz (clip b) * atz (clip (10 * s.d.c)) / 1000 = x at hq
  have := clip_bd x
  refine ⟨?_, by omega⟩
  unfold clip; repeat (first | omega | split)
set_option maxHeartbeats 8000000 in
theorem more_any (B Q : Nat) (V : Nat → Value) (s : St) (now hv want : Int) (k : Nat) (w : World) (hA : SAt w B Q V s) (hF : Fit s k) (hk : k ≤ 1000) (h0 : 0 ≤ hv ∧ hv ≤ 50) (h1 : 0 ≤ want ∧ want ≤ 50) :
    Calls Try.prog 14 #[.pointer (some ⟨Q, 0, none⟩), .int .i64 now, .int .i64 hv, .int .i64 want] w (MoA B Q V (more s now hv want) (nU s hv want) w) := by
  have hnb := nU_bd hF h0 h1
  have hhd := hd_bd hF.lo h1
  have hgs := hF.gr.ge
  have hgl := hF.gr.le
  have un := hF.u.n
  have uc := hF.u.c
  have c9 := hA.row 0 (by decide)
  simp only [pos] at c9
  obtain ⟨ao, cap, hvv, hc1, hc2, hao, -⟩ := (hA.own 0 (by decide)).form
  rw [hvv] at c9
  have k0 := hA.num 0 (Or.inl (by decide))
  have k1 := hA.num 1 (Or.inl (by decide))
  have k2 := hA.num 2 (Or.inl (by decide))
  have k3 := hA.num 3 (Or.inl (by decide))
  simp only [num] at k0 k1 k2 k3
  have hQ := hA.lt
  have cB := fun w => bounds_any s.u w
  unfold pcV at cB
  have hO := hA.own 0 (by decide)
  rw [hvv] at hO
  have HA : Hid (SAt w B Q V s) := hA
  have HT : Hid (TaOk s.gr k) := hF.gr
  have hll : (rws s 0).length = s.lo.length := rfl
  obtain ⟨n0, hn0⟩ : ∃ n0, hd s.lo want = n0 := ⟨_, rfl⟩
  rw [hn0] at hhd
  obtain ⟨N, hN⟩ : ∃ N, nU s hv want = N := ⟨_, rfl⟩
  rw [hN] at hnb ⊢
  have hBw : B ≤ w.heap.size := Nat.le_trans hA.bQ (Nat.le_of_lt hQ)
  clear hvv hA hF
  by_cases hl : ¬ 0 < s.lo.length
  · have hq : ¬ (0 : Int) < ((rws s 0).length : Int) := by omega
    have hw0 : want = n0 := by
      cases hx : s.lo with
      | nil => rw [hx] at hn0; exact hn0
      | cons a b => rw [hx] at hl; simp at hl
    subst hw0
    clear hO hao
    cases hb : bnd s.u
    · have hfold : max want hv = N := by rw [← hN]; simp only [nU, hb, hn0]; rfl
      have hfold2 : (if want < hv then hv else want) = N := by rw [← hfold]; split <;> omega
      clear hfold
      have HE : Hid (more s now hv want = s) := by unfold Hid more; rw [hb]; rfl
      rw [hb] at cB
      clear hN hn0 hll
      go_enter Try.func14, Try.ntmps14
      go_wp2_with (go_at_call 24; (with_reducible refine (cB _).mono ?_); rintro e wb ⟨rfl, hbb⟩)
      go_ret
      exact ⟨rfl, V, by rw [HE.out]; exact HA.out.below hbb, Step.of_below hbb⟩
    · obtain ⟨b, hbb⟩ : ∃ b, max (hv - s.gr.s) 0 = b := ⟨_, rfl⟩
      obtain ⟨pt, hpt⟩ : ∃ pt, partU s b = pt := ⟨_, rfl⟩
      have hb0 : 0 ≤ b ∧ b ≤ 60000 := by omega
      have hpb : 0 ≤ pt ∧ pt ≤ 1000000000000001 := by rw [← hpt]; exact partU_bd s _ (by omega) (by omega)
      obtain ⟨q, hq'⟩ : ∃ q, max s.u.n pt = q := ⟨_, rfl⟩
      have hqb : 0 ≤ q ∧ q ≤ 1000000000000001 := by omega
      obtain ⟨r, hr⟩ : ∃ r, min want (b + q) = r := ⟨_, rfl⟩
      have hfold : max r hv = N := by rw [← hN, ← hr, ← hq', ← hpt, ← hbb]; simp only [nU, baseU, hb, hn0, if_true]
      have e2 : (if s.u.n < pt then pt else s.u.n) = q := by rw [← hq']; split <;> omega
      have e3 : (if b + q < want then b + q else want) = r := by rw [← hr]; split <;> omega
      have e4 : (if r < hv then hv else r) = N := by rw [← hfold]; split <;> omega
      have e1 : (if hv - s.gr.s < 0 then (0 : Int) else hv - s.gr.s) = b := by rw [← hbb]; split <;> omega
      have HE : Hid (more s now hv want = { s with gr := s.gr.add now (N - hv) }) := by unfold Hid more; rw [hb, hN]; rfl
      clear hq' hr hfold hbb
      obtain ⟨x, hx⟩ : ∃ x, mulc (clip b) (clip s.u.c) = x := ⟨_, rfl⟩
      have cM := fun w => mul_any b s.u.c w
      have cC := fun w => ceil_yes x 100 w (by decide)
      rw [hx] at cM
      have hpt' : up (clip x) (clip 100) = pt := by rw [← hx]; exact hpt
      rw [hpt'] at cC
      clear hpt hpt' hx
      rw [hb] at cB
      clear hN hn0 hll
      go_enter Try.func14, Try.ntmps14
      go_wp2_with (first
        | (go_at_call 24; (with_reducible refine (cB _).mono ?_); rintro e wb ⟨rfl, hbb⟩; have hAb := HA.out.below hbb; have j1 := hAb.num 1 (Or.inl (by decide)); have j2 := hAb.num 2 (Or.inl (by decide)); have jt := hAb.num 12 (Or.inr (Or.inl rfl)); simp only [num] at j1 j2 jt; have HB : Hid (SAt wb B Q V s) := hAb; have HSb : Hid (Step Q V V w wb) := Step.of_below hbb; have hBb : B ≤ wb.heap.size := Nat.le_trans hBw hbb.size; clear hAb hbb)
        | (go_at_call 26; (with_reducible refine (cM _).mono ?_); rintro e w2 ⟨rfl, h9⟩; have h8 := h9.symm; clear h9; subst h8)
        | (go_at_call 25; (with_reducible refine (cC _).mono ?_); rintro e w2 ⟨rfl, h9⟩; have h8 := h9.symm; clear h9; subst h8)
        | (go_at_call 27; (with_reducible refine (add_any B Q 11 (V 2) s.gr now (N - hv) k _ HB.out.talG HT.out hk (by omega) (by omega) hBb).mono ?_); rintro e w2 ⟨rfl, v2, hT2, hl2, hW2⟩; obtain ⟨hA2, hS2⟩ := HB.out.newG hT2 hl2 hW2; rw [← HE.out] at hA2; have HF : Hid (∃ V', SAt w2 B Q V' (more s now hv want) ∧ Step Q V V' w w2) := ⟨_, hA2, HSb.out.trans hS2⟩; clear hT2 hl2 hW2 hA2 hS2))
      go_ret
      exact ⟨rfl, HF.out⟩
  · have hl' : 0 < s.lo.length := by omega
    have hq : (0 : Int) < ((rws s 0).length : Int) := by omega
    obtain ⟨g, off, rfl⟩ := hao (by omega)
    obtain ⟨m, hm, hmp⟩ : ∃ m, s.lo[0]? = some m ∧ m.p = n0 := by
      cases hx : s.lo with
      | nil => rw [hx] at hl'; simp at hl'
      | cons a b => rw [hx] at hn0; exact ⟨a, rfl, hn0⟩
    obtain ⟨e0, e1, -, -, hg⟩ := own_mo hO rfl (i := 0) hm
    simp only [Nat.zero_mul, Nat.add_zero] at e0 e1
    rw [hmp] at e1
    clear hO hao
    cases hb : bnd s.u
    · have hfold : max n0 hv = N := by rw [← hN]; simp only [nU, hb, hn0]; rfl
      have hfold2 : (if n0 < hv then hv else n0) = N := by rw [← hfold]; split <;> omega
      clear hfold
      have HE : Hid (more s now hv want = s) := by unfold Hid more; rw [hb]; rfl
      rw [hb] at cB
      clear hN hn0 hll
      go_enter Try.func14, Try.ntmps14
      go_wp2_with (go_at_call 24; (with_reducible refine (cB _).mono ?_); rintro e wb ⟨rfl, hbb⟩)
      go_ret
      exact ⟨rfl, V, by rw [HE.out]; exact HA.out.below hbb, Step.of_below hbb⟩
    · obtain ⟨b, hbb⟩ : ∃ b, max (hv - s.gr.s) 0 = b := ⟨_, rfl⟩
      obtain ⟨pt, hpt⟩ : ∃ pt, partU s b = pt := ⟨_, rfl⟩
      have hb0 : 0 ≤ b ∧ b ≤ 60000 := by omega
      have hpb : 0 ≤ pt ∧ pt ≤ 1000000000000001 := by rw [← hpt]; exact partU_bd s _ (by omega) (by omega)
      obtain ⟨q, hq'⟩ : ∃ q, max s.u.n pt = q := ⟨_, rfl⟩
      have hqb : 0 ≤ q ∧ q ≤ 1000000000000001 := by omega
      obtain ⟨r, hr⟩ : ∃ r, min n0 (b + q) = r := ⟨_, rfl⟩
      have hfold : max r hv = N := by rw [← hN, ← hr, ← hq', ← hpt, ← hbb]; simp only [nU, baseU, hb, hn0, if_true]
      have e2 : (if s.u.n < pt then pt else s.u.n) = q := by rw [← hq']; split <;> omega
      have e3 : (if b + q < n0 then b + q else n0) = r := by rw [← hr]; split <;> omega
      have e4 : (if r < hv then hv else r) = N := by rw [← hfold]; split <;> omega
      have e1 : (if hv - s.gr.s < 0 then (0 : Int) else hv - s.gr.s) = b := by rw [← hbb]; split <;> omega
      have HE : Hid (more s now hv want = { s with gr := s.gr.add now (N - hv) }) := by unfold Hid more; rw [hb, hN]; rfl
      clear hq' hr hfold hbb
      obtain ⟨x, hx⟩ : ∃ x, mulc (clip b) (clip s.u.c) = x := ⟨_, rfl⟩
      have cM := fun w => mul_any b s.u.c w
      have cC := fun w => ceil_yes x 100 w (by decide)
      rw [hx] at cM
      have hpt' : up (clip x) (clip 100) = pt := by rw [← hx]; exact hpt
      rw [hpt'] at cC
      clear hpt hpt' hx
      rw [hb] at cB
      clear hN hn0 hll
      go_enter Try.func14, Try.ntmps14
      go_wp2_with (first
        | (go_at_call 24; (with_reducible refine (cB _).mono ?_); rintro e wb ⟨rfl, hbb⟩; have hAb := HA.out.below hbb; have j1 := hAb.num 1 (Or.inl (by decide)); have j2 := hAb.num 2 (Or.inl (by decide)); have jt := hAb.num 12 (Or.inr (Or.inl rfl)); simp only [num] at j1 j2 jt; have HB : Hid (SAt wb B Q V s) := hAb; have HSb : Hid (Step Q V V w wb) := Step.of_below hbb; have hBb : B ≤ wb.heap.size := Nat.le_trans hBw hbb.size; clear hAb hbb)
        | (go_at_call 26; (with_reducible refine (cM _).mono ?_); rintro e w2 ⟨rfl, h9⟩; have h8 := h9.symm; clear h9; subst h8)
        | (go_at_call 25; (with_reducible refine (cC _).mono ?_); rintro e w2 ⟨rfl, h9⟩; have h8 := h9.symm; clear h9; subst h8)
        | (go_at_call 27; (with_reducible refine (add_any B Q 11 (V 2) s.gr now (N - hv) k _ HB.out.talG HT.out hk (by omega) (by omega) hBb).mono ?_); rintro e w2 ⟨rfl, v2, hT2, hl2, hW2⟩; obtain ⟨hA2, hS2⟩ := HB.out.newG hT2 hl2 hW2; rw [← HE.out] at hA2; have HF : Hid (∃ V', SAt w2 B Q V' (more s now hv want) ∧ Step Q V V' w w2) := ⟨_, hA2, HSb.out.trans hS2⟩; clear hT2 hl2 hW2 hA2 hS2))
      go_ret
      exact ⟨rfl, HF.out⟩
set_option maxHeartbeats 8000000 in
theorem fewer_any (B Q : Nat) (V : Nat → Value) (s : St) (now hv want : Int) (k : Nat) (w : World) (hA : SAt w B Q V s) (hF : Fit s k) (hk : k ≤ 1000) (h0 : 0 ≤ hv ∧ hv ≤ 50) (h1 : 0 ≤ want ∧ want ≤ 50) :
    Calls Try.prog 15 #[.pointer (some ⟨Q, 0, none⟩), .int .i64 now, .int .i64 hv, .int .i64 want] w (MoA B Q V (fewer s now hv want) (nD s hv want) w) := by
  have hnb := nD_bd hF h0 h1
  have hhd := hd_bd hF.hi h1
  have hgs := hF.sh.ge
  have hgl := hF.sh.le
  have un := hF.d.n
  have uc := hF.d.c
  have c9 := hA.row 1 (by decide)
  simp only [pos] at c9
  obtain ⟨ao, cap, hvv, hc1, hc2, hao, -⟩ := (hA.own 1 (by decide)).form
  rw [hvv] at c9
  have k0 := hA.num 4 (Or.inl (by decide))
  have k1 := hA.num 5 (Or.inl (by decide))
  have k2 := hA.num 6 (Or.inl (by decide))
  have k3 := hA.num 7 (Or.inl (by decide))
  simp only [num] at k0 k1 k2 k3
  have hQ := hA.lt
  have cB := fun w => bounds_any s.d w
  unfold pcV at cB
  have hO := hA.own 1 (by decide)
  rw [hvv] at hO
  have HA : Hid (SAt w B Q V s) := hA
  have HT : Hid (TaOk s.sh k) := hF.sh
  have hll : (rws s 1).length = s.hi.length := rfl
  obtain ⟨n0, hn0⟩ : ∃ n0, hd s.hi want = n0 := ⟨_, rfl⟩
  rw [hn0] at hhd
  obtain ⟨N, hN⟩ : ∃ N, nD s hv want = N := ⟨_, rfl⟩
  rw [hN] at hnb ⊢
  have hBw : B ≤ w.heap.size := Nat.le_trans hA.bQ (Nat.le_of_lt hQ)
  clear hvv hA hF
  by_cases hl : ¬ 0 < s.hi.length
  · have hq : ¬ (0 : Int) < ((rws s 1).length : Int) := by omega
    have hw0 : want = n0 := by
      cases hx : s.hi with
      | nil => rw [hx] at hn0; exact hn0
      | cons a b => rw [hx] at hl; simp at hl
    subst hw0
    clear hO hao
    cases hb : bnd s.d
    · have hfold : min want hv = N := by rw [← hN]; simp only [nD, hb, hn0]; rfl
      have hfold2 : (if hv < want then hv else want) = N := by rw [← hfold]; split <;> omega
      clear hfold
      have HE : Hid (fewer s now hv want = s) := by unfold Hid fewer; rw [hb]; rfl
      rw [hb] at cB
      clear hN hn0 hll
      go_enter Try.func15, Try.ntmps15
      go_wp2_with (go_at_call 24; (with_reducible refine (cB _).mono ?_); rintro e wb ⟨rfl, hbb⟩)
      go_ret
      exact ⟨rfl, V, by rw [HE.out]; exact HA.out.below hbb, Step.of_below hbb⟩
    · obtain ⟨b, hbb⟩ : ∃ b, hv + s.sh.s = b := ⟨_, rfl⟩
      obtain ⟨pt, hpt⟩ : ∃ pt, partD s b = pt := ⟨_, rfl⟩
      have hb0 : 0 ≤ b ∧ b ≤ 60000 := by omega
      have hpb : 0 ≤ pt ∧ pt ≤ 1000000000000001 := by rw [← hpt]; exact partD_bd s _ (by omega) (by omega)
      obtain ⟨q, hq'⟩ : ∃ q, max s.d.n pt = q := ⟨_, rfl⟩
      have hqb : 0 ≤ q ∧ q ≤ 1000000000000001 := by omega
      obtain ⟨r, hr⟩ : ∃ r, max want (b - q) = r := ⟨_, rfl⟩
      have hfold : min r hv = N := by rw [← hN, ← hr, ← hq', ← hpt, ← hbb]; simp only [nD, hb, hn0, if_true]
      have e2 : (if s.d.n < pt then pt else s.d.n) = q := by rw [← hq']; split <;> omega
      have e3 : (if want < b - q then b - q else want) = r := by rw [← hr]; split <;> omega
      have e4 : (if hv < r then hv else r) = N := by rw [← hfold]; split <;> omega
      have e1 : hv + s.sh.s = b := hbb
      have HE : Hid (fewer s now hv want = { s with sh := s.sh.add now (hv - N) }) := by unfold Hid fewer; rw [hb, hN]; rfl
      clear hq' hr hfold hbb
      have cS := fun w => share_any b (10 * s.d.c) w
      have hpt' : share (atz (clip b)) (atz (clip (10 * s.d.c))) = pt := hpt
      rw [hpt'] at cS
      clear hpt hpt'
      rw [hb] at cB
      clear hN hn0 hll
      go_enter Try.func15, Try.ntmps15
      go_wp2_with (first
        | (go_at_call 24; (with_reducible refine (cB _).mono ?_); rintro e wb ⟨rfl, hbb⟩; have hAb := HA.out.below hbb; have j1 := hAb.num 5 (Or.inl (by decide)); have j2 := hAb.num 6 (Or.inl (by decide)); have jt := hAb.num 14 (Or.inr (Or.inr rfl)); simp only [num] at j1 j2 jt; have HB : Hid (SAt wb B Q V s) := hAb; have HSb : Hid (Step Q V V w wb) := Step.of_below hbb; have hBb : B ≤ wb.heap.size := Nat.le_trans hBw hbb.size; clear hAb hbb)
        | (go_at_call 28; (with_reducible refine (cS _).mono ?_); rintro e w2 ⟨rfl, h9⟩; have h8 := h9.symm; clear h9; subst h8)
        | (go_at_call 27; (with_reducible refine (add_any B Q 13 (V 3) s.sh now (hv - N) k _ HB.out.talS HT.out hk (by omega) (by omega) hBb).mono ?_); rintro e w2 ⟨rfl, v2, hT2, hl2, hW2⟩; obtain ⟨hA2, hS2⟩ := HB.out.newS hT2 hl2 hW2; rw [← HE.out] at hA2; have HF : Hid (∃ V', SAt w2 B Q V' (fewer s now hv want) ∧ Step Q V V' w w2) := ⟨_, hA2, HSb.out.trans hS2⟩; clear hT2 hl2 hW2 hA2 hS2))
      go_ret
      exact ⟨rfl, HF.out⟩
  · have hl' : 0 < s.hi.length := by omega
    have hq : (0 : Int) < ((rws s 1).length : Int) := by omega
    obtain ⟨g, off, rfl⟩ := hao (by omega)
    obtain ⟨m, hm, hmp⟩ : ∃ m, s.hi[0]? = some m ∧ m.p = n0 := by
      cases hx : s.hi with
      | nil => rw [hx] at hl'; simp at hl'
      | cons a b => rw [hx] at hn0; exact ⟨a, rfl, hn0⟩
    obtain ⟨e0, e1, -, -, hg⟩ := own_mo hO rfl (i := 0) hm
    simp only [Nat.zero_mul, Nat.add_zero] at e0 e1
    rw [hmp] at e1
    clear hO hao
    cases hb : bnd s.d
    · have hfold : min n0 hv = N := by rw [← hN]; simp only [nD, hb, hn0]; rfl
      have hfold2 : (if hv < n0 then hv else n0) = N := by rw [← hfold]; split <;> omega
      clear hfold
      have HE : Hid (fewer s now hv want = s) := by unfold Hid fewer; rw [hb]; rfl
      rw [hb] at cB
      clear hN hn0 hll
      go_enter Try.func15, Try.ntmps15
      go_wp2_with (go_at_call 24; (with_reducible refine (cB _).mono ?_); rintro e wb ⟨rfl, hbb⟩)
      go_ret
      exact ⟨rfl, V, by rw [HE.out]; exact HA.out.below hbb, Step.of_below hbb⟩
    · obtain ⟨b, hbb⟩ : ∃ b, hv + s.sh.s = b := ⟨_, rfl⟩
      obtain ⟨pt, hpt⟩ : ∃ pt, partD s b = pt := ⟨_, rfl⟩
      have hb0 : 0 ≤ b ∧ b ≤ 60000 := by omega
      have hpb : 0 ≤ pt ∧ pt ≤ 1000000000000001 := by rw [← hpt]; exact partD_bd s _ (by omega) (by omega)
      obtain ⟨q, hq'⟩ : ∃ q, max s.d.n pt = q := ⟨_, rfl⟩
      have hqb : 0 ≤ q ∧ q ≤ 1000000000000001 := by omega
      obtain ⟨r, hr⟩ : ∃ r, max n0 (b - q) = r := ⟨_, rfl⟩
      have hfold : min r hv = N := by rw [← hN, ← hr, ← hq', ← hpt, ← hbb]; simp only [nD, hb, hn0, if_true]
      have e2 : (if s.d.n < pt then pt else s.d.n) = q := by rw [← hq']; split <;> omega
      have e3 : (if n0 < b - q then b - q else n0) = r := by rw [← hr]; split <;> omega
      have e4 : (if hv < r then hv else r) = N := by rw [← hfold]; split <;> omega
      have e1 : hv + s.sh.s = b := hbb
      have HE : Hid (fewer s now hv want = { s with sh := s.sh.add now (hv - N) }) := by unfold Hid fewer; rw [hb, hN]; rfl
      clear hq' hr hfold hbb
      have cS := fun w => share_any b (10 * s.d.c) w
      have hpt' : share (atz (clip b)) (atz (clip (10 * s.d.c))) = pt := hpt
      rw [hpt'] at cS
      clear hpt hpt'
      rw [hb] at cB
      clear hN hn0 hll
      go_enter Try.func15, Try.ntmps15
      go_wp2_with (first
        | (go_at_call 24; (with_reducible refine (cB _).mono ?_); rintro e wb ⟨rfl, hbb⟩; have hAb := HA.out.below hbb; have j1 := hAb.num 5 (Or.inl (by decide)); have j2 := hAb.num 6 (Or.inl (by decide)); have jt := hAb.num 14 (Or.inr (Or.inr rfl)); simp only [num] at j1 j2 jt; have HB : Hid (SAt wb B Q V s) := hAb; have HSb : Hid (Step Q V V w wb) := Step.of_below hbb; have hBb : B ≤ wb.heap.size := Nat.le_trans hBw hbb.size; clear hAb hbb)
        | (go_at_call 28; (with_reducible refine (cS _).mono ?_); rintro e w2 ⟨rfl, h9⟩; have h8 := h9.symm; clear h9; subst h8)
        | (go_at_call 27; (with_reducible refine (add_any B Q 13 (V 3) s.sh now (hv - N) k _ HB.out.talS HT.out hk (by omega) (by omega) hBb).mono ?_); rintro e w2 ⟨rfl, v2, hT2, hl2, hW2⟩; obtain ⟨hA2, hS2⟩ := HB.out.newS hT2 hl2 hW2; rw [← HE.out] at hA2; have HF : Hid (∃ V', SAt w2 B Q V' (fewer s now hv want) ∧ Step Q V V' w w2) := ⟨_, hA2, HSb.out.trans hS2⟩; clear hT2 hl2 hW2 hA2 hS2))
      go_ret
      exact ⟨rfl, HF.out⟩
end Stb
end Go.Proofs.Ytanlhkokghjadac
