
/- The program's Stable and the document's are the same, wish by wish: plain mathematics. -/
import Derived.Test.YtanlhkokghjadacCalmHd
namespace Go.Proofs.Ytanlhkokghjadac
namespace Stb
open Plain

theorem fold_up (t : Int) (L : List Mo) (n : Int) : (L.foldl (stF true t) n = n ∨ ∃ m ∈ L, t < m.t ∧ L.foldl (stF true t) n = m.p) ∧ L.foldl (stF true t) n ≤ n ∧ ∀ m ∈ L, t < m.t → L.foldl (stF true t) n ≤ m.p := by
  induction L generalizing n with
  | nil => exact ⟨Or.inl rfl, Int.le_refl _, by simp⟩
  | cons a L ih =>
    simp only [List.foldl_cons]
    obtain ⟨h1, h2, h3⟩ := ih (stF true t n a)
    have hle := stF_up t n a
    have hc : stF true t n a = n ∨ (t < a.t ∧ stF true t n a = a.p) := by
      unfold stF; simp only [if_true]; split
      · rename_i h; exact Or.inr ⟨h.1, rfl⟩
      · exact Or.inl rfl
    have ha : t < a.t → stF true t n a ≤ a.p := by
      intro ht; unfold stF; simp only [if_true]; split <;> omega
    refine ⟨?_, by omega, fun m hm ht => ?_⟩
    · rcases h1 with e | ⟨m, hm, ht, e⟩
      · rcases hc with e2 | ⟨ht, e2⟩
        · exact Or.inl (e.trans e2)
        · exact Or.inr ⟨a, by simp, ht, e.trans e2⟩
      · exact Or.inr ⟨m, by simp [hm], ht, e⟩
    · rcases List.mem_cons.1 hm with rfl | hm
      · have := ha ht; omega
      · exact h3 m hm ht
theorem fold_dn (t : Int) (L : List Mo) (n : Int) : (L.foldl (stF false t) n = n ∨ ∃ m ∈ L, t < m.t ∧ L.foldl (stF false t) n = m.p) ∧ n ≤ L.foldl (stF false t) n ∧ ∀ m ∈ L, t < m.t → m.p ≤ L.foldl (stF false t) n := by
  induction L generalizing n with
  | nil => exact ⟨Or.inl rfl, Int.le_refl _, by simp⟩
  | cons a L ih =>
    simp only [List.foldl_cons]
    obtain ⟨h1, h2, h3⟩ := ih (stF false t n a)
    have hle := stF_dn t n a
    have hc : stF false t n a = n ∨ (t < a.t ∧ stF false t n a = a.p) := by
      unfold stF; simp only [Bool.false_eq_true, if_false]; split
      · rename_i h; exact Or.inr ⟨h.1, rfl⟩
      · exact Or.inl rfl
    have ha : t < a.t → a.p ≤ stF false t n a := by
      intro ht; unfold stF; simp only [Bool.false_eq_true, if_false]; split <;> omega
    refine ⟨?_, by omega, fun m hm ht => ?_⟩
    · rcases h1 with e | ⟨m, hm, ht, e⟩
      · rcases hc with e2 | ⟨ht, e2⟩
        · exact Or.inl (e.trans e2)
        · exact Or.inr ⟨a, by simp, ht, e.trans e2⟩
      · exact Or.inr ⟨m, by simp [hm], ht, e⟩
    · rcases List.mem_cons.1 hm with rfl | hm
      · have := ha ht; omega
      · exact h3 m hm ht
/-- the two are the same -/
structure Sim (s : St) (c : Cm) : Prop where
  u : c.u = s.u
  d : c.d = s.d
  l : c.last = s.last
  si : SI c.ws s
  mi : MI c.ms s
theorem hd_up {H L : List Mo} {W now want : Int} (h : LoI kid (H ++ [⟨now, want⟩]) L (now - W) now) : hd L want = (H ++ [(⟨now, want⟩ : Mo)]).foldl (stF true (now - W)) want := by
  obtain ⟨f1, f2, f3⟩ := fold_up (now - W) (H ++ [⟨now, want⟩]) want
  rcases h.least (d := want) with ⟨_, e, hno⟩ | ⟨m, hm, ht, e, hmin⟩
  · rw [e]
    rcases f1 with g | ⟨x, hx, hxt, _⟩
    · exact g.symm
    · exact absurd hxt (hno x hx)
  · rw [e]
    have hmt := h.le m hm
    have hnew := hmin ⟨now, want⟩ (by simp) (by show now - W < now; omega)
    have h1 := f3 m hm ht
    unfold kid at hnew hmin
    simp only at hnew
    rcases f1 with g | ⟨x, hx, hxt, g⟩
    · omega
    · have := hmin x hx hxt; omega
theorem hd_dn {H L : List Mo} {W now want : Int} (h : LoI kneg (H ++ [⟨now, want⟩]) L (now - W) now) : hd L want = (H ++ [(⟨now, want⟩ : Mo)]).foldl (stF false (now - W)) want := by
  obtain ⟨f1, f2, f3⟩ := fold_dn (now - W) (H ++ [⟨now, want⟩]) want
  rcases h.least (d := want) with ⟨_, e, hno⟩ | ⟨m, hm, ht, e, hmin⟩
  · rw [e]
    rcases f1 with g | ⟨x, hx, hxt, _⟩
    · exact g.symm
    · exact absurd hxt (hno x hx)
  · rw [e]
    have hmt := h.le m hm
    have hnew := hmin ⟨now, want⟩ (by simp) (by show now - W < now; omega)
    have h1 := f3 m hm ht
    unfold kneg at hnew hmin
    simp only at hnew
    rcases f1 with g | ⟨x, hx, hxt, g⟩
    · omega
    · have := hmin x hx hxt; omega
theorem clip_id {n : Int} (h0 : 0 ≤ n) (h1 : n ≤ 1000000000) : clip n = n := clip_in (by omega) (by omega)
theorem Sim.n {s : St} {c : Cm} {k : Nat} (h : Sim s c) (hF : Fit s k) (now hv want : Int) : cN c now hv want = setN s now hv want ∧ cE c now hv want = setE s now hv want := by
  have hl := h.l
  refine ⟨?_, by unfold cE setE; rw [hl]⟩
  unfold cN setN
  rw [hl]
  by_cases ho : okArg s.last now hv want = true
  · obtain ⟨a, b, hc, hd', he, hf'⟩ := okArg_iff.1 ho
    have hs := h.si.step hF (now := now) (want := want) a
    have hm := h.mi.step (now := now) (want := want) a
    have hl0 := hF.last
    have hf : Fit (forget (know s now want) now) (k + 1) := (hF.know ⟨by omega, b⟩ ⟨he, hf'⟩).forget now
    rw [if_pos ho, if_pos ho]
    have hu1 : (forget (know s now want) now).u = c.u := h.u.symm
    have hd1 : (forget (know s now want) now).d = c.d := h.d.symm
    have hlo : LoI kid (c.ws ++ [⟨now, want⟩]) (forget (know s now want) now).lo (now - c.u.w) now := by rw [← hu1]; exact hs.lo
    have hhi : LoI kneg (c.ws ++ [⟨now, want⟩]) (forget (know s now want) now).hi (now - c.d.w) now := by rw [← hd1]; exact hs.hi
    have hlast : (forget (know s now want) now).last = now := rfl
    generalize forget (know s now want) now = s1 at *
    split
    · unfold cU cU2 nU
      have e1 : hd s1.lo want = cU1 c now want := hd_up hlo
      rw [← hu1]
      cases hb : bnd s1.u
      · simp only [Bool.false_eq_true, if_false]; rw [e1]
      · simp only [if_true]
        have hg := (hm.g hb).sum hf.gr
        rw [hlast] at hg
        have eb : cUb c now hv = baseU s1 hv := by unfold cUb baseU; rw [hg, hu1]
        have hgs := hf.gr.ge
        have hb0 : 0 ≤ baseU s1 hv ∧ baseU s1 hv ≤ 50 := by unfold baseU; omega
        have ep : up (clip (cUb c now hv * s1.u.c)) (clip 100) = partU s1 (baseU s1 hv) := by
          unfold partU mulc
          rw [eb, clip_id hb0.1 (by omega), clip_id hf.u.c.1 (by have := hf.u.c.2; omega), clip_clip]
        rw [e1, ep, eb]
    · split
      · unfold cD cD2 nD
        have e1 : hd s1.hi want = cD1 c now want := hd_dn hhi
        rw [← hd1]
        cases hb : bnd s1.d
        · simp only [Bool.false_eq_true, if_false]; rw [e1]
        · simp only [if_true]
          have hg := (hm.d hb).sum hf.sh
          rw [hlast] at hg
          have eb : cDb c now hv = hv + s1.sh.s := by unfold cDb; rw [hg, hd1]
          have ep : share (atz (clip (cDb c now hv))) (atz (clip (s1.d.c * 10))) = partD s1 (hv + s1.sh.s) := by
            unfold partD; rw [eb, Int.mul_comm]
          rw [e1, ep, eb]
      · rfl
  · rw [if_neg ho, if_neg ho]
theorem Sim.step {s : St} {c : Cm} {k : Nat} (h : Sim s c) (hF : Fit s k) (now hv want : Int) : Sim (setS s now hv want) (cS c now hv want) := by
  have hn := (h.n hF now hv want).1
  have hp := setS_pace s now hv want
  by_cases ho : okArg s.last now hv want = true
  · have ho' : okArg c.last now hv want = true := by rw [h.l]; exact ho
    have e : cS c now hv want = ⟨c.u, c.d, now, c.ws ++ [⟨now, want⟩], mov c.ms now (setN s now hv want - hv)⟩ := by unfold cS; rw [if_pos ho', hn]
    rw [e]
    exact ⟨h.u.trans hp.1.symm, h.d.trans hp.2.symm, (setS_last ho).symm, h.si.set hF ho, h.mi.set hF ho⟩
  · have ho' : ¬ okArg c.last now hv want = true := by rw [h.l]; exact ho
    have e : cS c now hv want = c := by unfold cS; rw [if_neg ho']
    have e2 : setS s now hv want = s := by unfold setS; rw [if_neg ho]
    rw [e, e2]; exact h
theorem Sim.new (u d : Pc) : Sim (⟨u, d, 0, [], [], ⟨[], 0⟩, ⟨[], 0⟩⟩ : St) ⟨u, d, 0, [], []⟩ := ⟨rfl, rfl, rfl, ⟨LoI.nil _ _ _, LoI.nil _ _ _⟩, ⟨fun _ => TI.nil _ _ _, fun _ => TI.nil _ _ _⟩⟩
/-- what the document's holds fits -/
theorem cfit_step {s : St} {c : Cm} {k l : Nat} (h : Sim s c) (hF : Fit s k) (hC : CFit c l) (now hv want : Int) : CFit (cS c now hv want) (l + 1) := by
  have hn := (h.n hF now hv want).1
  by_cases ho : okArg s.last now hv want = true
  · have ho' : okArg c.last now hv want = true := by rw [h.l]; exact ho
    have hb := between h.si hF ho
    obtain ⟨a, b, c1, d1, e1, f1⟩ := okArg_iff.1 ho
    have hl0 := hF.last
    unfold cS
    rw [if_pos ho', hn]
    generalize setN s now hv want = N at *
    refine ⟨hC.u, hC.d, ⟨by simp only; omega, b⟩, fun m hm => ?_, fun m hm => ?_, by have := hC.wl; simp; omega, ?_⟩
    · rcases List.mem_append.1 hm with x | x
      · exact hC.ws m x
      · simp only [List.mem_singleton] at x; subst x; exact ⟨e1, f1⟩
    · simp only [mov] at hm
      split at hm
      · exact hC.ms m hm
      · rcases List.mem_append.1 hm with x | x
        · exact hC.ms m x
        · simp only [List.mem_singleton] at x; subst x; simp only; omega
    · have := hC.ml
      simp only [mov]; split
      · omega
      · simp; omega
  · have ho' : ¬ okArg c.last now hv want = true := by rw [h.l]; exact ho
    unfold cS; rw [if_neg ho']
    exact ⟨hC.u, hC.d, hC.last, hC.ws, hC.ms, by have := hC.wl; omega, by have := hC.ml; omega⟩
end Stb
end Go.Proofs.Ytanlhkokghjadac
