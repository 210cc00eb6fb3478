
/- Package stable in plain mathematics: what a tally tells of all that was made; paces. -/
import Derived.Test.YtanlhkokghjadacStbInv
namespace Go.Proofs.Ytanlhkokghjadac
namespace Stb
open Plain

/-- what was made above a time -/
def sumF (f : Int → Int) : List Mo → Int → Int
  | [], _ => 0
  | m :: L, t => (if t < m.t then f m.p else 0) + sumF f L t
theorem sumF_append (f : Int → Int) (A B : List Mo) (t : Int) : sumF f (A ++ B) t = sumF f A t + sumF f B t := by
  induction A with
  | nil => simp [sumF]
  | cons a A ih => simp only [List.cons_append, sumF, ih]; omega
theorem sumF_low (f : Int → Int) {A : List Mo} {t : Int} (h : ∀ m ∈ A, m.t ≤ t) : sumF f A t = 0 := by
  induction A with
  | nil => rfl
  | cons a A ih =>
    have h1 := h a (by simp)
    simp only [sumF]
    rw [if_neg (by omega), ih (fun m hm => h m (by simp [hm]))]
    rfl
theorem sumF_all {A : List Mo} {t : Int} (h : ∀ m ∈ A, t < m.t) : sumF (fun x => x) A t = sumP A := by
  induction A with
  | nil => rfl
  | cons a A ih =>
    have h1 := h a (by simp)
    simp only [sumF, sumP]
    rw [if_pos h1, ih (fun m hm => h m (by simp [hm]))]
/-- T tells what was made, above each time from tau on -/
structure TI (f : Int → Int) (M : List Mo) (T : Ta) (tau last : Int) : Prop where
  st : T.l.Pairwise (fun a b => a.t ≤ b.t)
  ab : ∀ m ∈ T.l, tau < m.t
  le : ∀ m ∈ T.l, m.t ≤ last
  lm : ∀ m ∈ M, m.t ≤ last
  eq : ∀ t, tau ≤ t → sumF f M t = sumF (fun x => x) T.l t
theorem TI.nil (f : Int → Int) (tau last : Int) : TI f [] ⟨[], 0⟩ tau last := ⟨.nil, by simp, by simp, by simp, fun _ _ => rfl⟩
theorem TI.sum {f : Int → Int} {M : List Mo} {T : Ta} {tau last : Int} {k : Nat} (h : TI f M T tau last) (hT : TaOk T k) : T.s = sumF f M tau := by
  rw [h.eq tau (Int.le_refl _), sumF_all h.ab, hT.sum]
theorem TI.later {f : Int → Int} {M : List Mo} {T : Ta} {tau last now : Int} (h : TI f M T tau last) (hn : last ≤ now) : TI f M T tau now :=
  ⟨h.st, h.ab, fun m hm => Int.le_trans (h.le m hm) hn, fun m hm => Int.le_trans (h.lm m hm) hn, h.eq⟩
theorem TI.forget {f : Int → Int} {M : List Mo} {T : Ta} {tau last t : Int} (h : TI f M T tau last) (ht : tau ≤ t) : TI f M (T.forget t) t last := by
  obtain ⟨A, hA, hAt, hhd⟩ := abv_split T.l t
  have hst := h.st
  rw [hA] at hst
  have hst2 := (List.pairwise_append.1 hst).2.1
  refine ⟨hst2, ?_, fun m hm => h.le m (mem_abv hm), h.lm, fun x hx => ?_⟩
  · intro m hm
    have hm' : m ∈ abv T.l t := hm
    cases hL : abv T.l t with
    | nil => rw [hL] at hm'; simp at hm'
    | cons a r =>
      have ha := hhd a (by rw [hL]; rfl)
      rw [hL] at hm' hst2
      rcases List.mem_cons.1 hm' with rfl | hm'
      · exact ha
      · have := (List.pairwise_cons.1 hst2).1 m hm'; omega
  · rw [h.eq x (by omega)]
    show sumF (fun x => x) T.l x = sumF (fun x => x) (abv T.l t) x
    conv => lhs; rw [hA]
    rw [sumF_append, sumF_low _ (fun m hm => by have := hAt m hm; omega)]
    omega
theorem TI.add {f : Int → Int} {M : List Mo} {T : Ta} {tau last now x pods : Int} (h : TI f M T tau last) (hf : f x = pods) (ht : tau < now) (hn : last ≤ now) : TI f (M ++ [⟨now, x⟩]) (T.add now pods) tau now := by
  have hlm : ∀ m ∈ M ++ [(⟨now, x⟩ : Mo)], m.t ≤ now := by
    intro m hm
    rcases List.mem_append.1 hm with a | a
    · exact Int.le_trans (h.lm m a) hn
    · simp only [List.mem_singleton] at a; subst a; exact Int.le_refl _
  have hM : ∀ t, sumF f (M ++ [(⟨now, x⟩ : Mo)]) t = sumF f M t + (if t < now then pods else 0) := by
    intro t; rw [sumF_append]; simp only [sumF, hf]; omega
  have happ : TI f (M ++ [⟨now, x⟩]) ⟨T.l ++ [⟨now, pods⟩], T.s + pods⟩ tau now := by
    refine ⟨List.pairwise_append.2 ⟨h.st, by simp, fun a ha b hb => ?_⟩, fun m hm => ?_, fun m hm => ?_, hlm, fun t ht' => ?_⟩
    · simp only [List.mem_singleton] at hb; subst hb; have := h.le a ha; simp only; omega
    · rcases List.mem_append.1 hm with a | a
      · exact h.ab m a
      · simp only [List.mem_singleton] at a; subst a; exact ht
    · rcases List.mem_append.1 hm with a | a
      · exact Int.le_trans (h.le m a) hn
      · simp only [List.mem_singleton] at a; subst a; exact Int.le_refl _
    · rw [hM, h.eq t ht']; simp only; rw [sumF_append]; simp only [sumF]; omega
  unfold Ta.add
  split
  · rename_i hz
    refine ⟨h.st, h.ab, fun m hm => Int.le_trans (h.le m hm) hn, hlm, fun t ht' => ?_⟩
    rw [hM, h.eq t ht', hz]
    split <;> omega
  · split
    · rename_i m hm
      split
      · rename_i hmt
        have hsp := last_split hm
        have hst := h.st
        rw [hsp] at hst
        refine ⟨List.pairwise_append.2 ⟨(List.pairwise_append.1 hst).1, by simp, fun a ha b hb => ?_⟩, fun y hy => ?_, fun y hy => ?_, hlm, fun t ht' => ?_⟩
        · simp only [List.mem_singleton] at hb; subst hb; have := h.le a (by rw [hsp]; simp [ha]); simp only; omega
        · rcases List.mem_append.1 hy with a | a
          · exact h.ab y (by rw [hsp]; simp [a])
          · simp only [List.mem_singleton] at a; subst a; exact ht
        · rcases List.mem_append.1 hy with a | a
          · exact Int.le_trans (h.le y (by rw [hsp]; simp [a])) hn
          · simp only [List.mem_singleton] at a; subst a; exact Int.le_refl _
        · have h5 : sumF (fun x => x) T.l t = sumF (fun x => x) T.l.dropLast t + (if t < m.t then m.p else 0) := by
            have h6 := congrArg (fun L => sumF (fun x => x) L t) hsp
            rw [sumF_append] at h6
            simp only [sumF] at h6
            omega
          rw [hM, h.eq t ht', h5, hmt]
          simp only
          rw [sumF_append]
          simp only [sumF]
          split <;> omega
      · exact happ
    · exact happ
/-- something was made that is not of this kind -/
theorem TI.other {f : Int → Int} {M : List Mo} {T : Ta} {tau last now x : Int} (h : TI f M T tau last) (hf : f x = 0) (hn : last ≤ now) : TI f (M ++ [⟨now, x⟩]) T tau now := by
  refine ⟨h.st, h.ab, fun m hm => Int.le_trans (h.le m hm) hn, fun m hm => ?_, fun t ht => ?_⟩
  · rcases List.mem_append.1 hm with a | a
    · exact Int.le_trans (h.lm m a) hn
    · simp only [List.mem_singleton] at a; subst a; exact Int.le_refl _
  · rw [sumF_append, h.eq t ht]; simp only [sumF, hf]; split <;> omega
def fup (x : Int) : Int := max x 0
def fdn (x : Int) : Int := max (-x) 0
/-- M with a move, if it is one -/
def mov (M : List Mo) (now d : Int) : List Mo := if d = 0 then M else M ++ [⟨now, d⟩]
/-- what was made more, and fewer, is in the tallies (where a pace asks) -/
structure MI (M : List Mo) (s : St) : Prop where
  g : bnd s.u = true → TI fup M s.gr (s.last - s.u.p) s.last
  d : bnd s.d = true → TI fdn M s.sh (s.last - s.d.p) s.last
theorem bnd_per {p : Pc} (h : bnd p = true) : p.p ≠ 0 := by
  intro e; unfold bnd at h; rw [e] at h; simp at h
theorem MI.step {M : List Mo} {s : St} (h : MI M s) {now want : Int} (hn : s.last ≤ now) : MI M (forget (know s now want) now) :=
  ⟨fun hb => ((h.g hb).forget (t := now - s.u.p) (by omega)).later hn, fun hb => ((h.d hb).forget (t := now - s.d.p) (by omega)).later hn⟩
theorem MI.set {M : List Mo} {s : St} {k : Nat} (h : MI M s) (hF : Fit s k) {now hv want : Int} (ho : okArg s.last now hv want = true) : MI (mov M now (setN s now hv want - hv)) (setS s now hv want) := by
  obtain ⟨a, b, c, d, e, f⟩ := okArg_iff.1 ho
  have hs := h.step (now := now) (want := want) a
  have hl := hF.last
  have hf : Fit (forget (know s now want) now) (k + 1) := (hF.know ⟨by omega, b⟩ ⟨e, f⟩).forget now
  have hup := hf.u.p
  have hdp := hf.d.p
  generalize hs' : forget (know s now want) now = s1 at *
  have hl1 : s1.last = now := by rw [← hs']; rfl
  unfold Stb.setS setN
  rw [if_pos ho, if_pos ho, hs']
  split
  · have hb := nU_bd hf (hv := hv) (want := want) ⟨c, d⟩ ⟨e, f⟩
    generalize hN : nU s1 hv want = N at *
    unfold Stb.more
    by_cases hz : N - hv = 0
    · rw [mov, if_pos hz, hN, hz]
      split
      · exact ⟨fun hb => by have := hs.g hb; simpa [Ta.add] using this, hs.d⟩
      · exact hs
    · rw [mov, if_neg hz, hN]
      split
      · refine ⟨fun hb => ?_, fun hb => ?_⟩
        · have h1 := hs.g hb
          have := bnd_per hb
          have h2 := h1.add (now := now) (x := N - hv) (pods := N - hv) (by unfold fup; omega) (by rw [hl1]; simp only at this; omega) (by omega)
          simp only; rw [hl1] at h2 ⊢; exact h2
        · have h1 := (hs.d hb).other (now := now) (x := N - hv) (by unfold fdn; omega) (by omega)
          simp only; rw [hl1] at h1 ⊢; exact h1
      · rename_i hbu
        refine ⟨fun hb => absurd hb hbu, fun hb => ?_⟩
        have h1 := (hs.d hb).other (now := now) (x := N - hv) (by unfold fdn; omega) (by omega)
        rw [hl1] at h1 ⊢; exact h1
  · split
    · have hb := nD_bd hf (hv := hv) (want := want) ⟨c, d⟩ ⟨e, f⟩
      generalize hN : nD s1 hv want = N at *
      unfold Stb.fewer
      by_cases hz : N - hv = 0
      · have hz' : hv - N = 0 := by omega
        rw [mov, if_pos hz, hN, hz']
        split
        · exact ⟨hs.g, fun hb => by have := hs.d hb; simpa [Ta.add] using this⟩
        · exact hs
      · rw [mov, if_neg hz, hN]
        split
        · refine ⟨fun hb => ?_, fun hb => ?_⟩
          · have h1 := (hs.g hb).other (now := now) (x := N - hv) (by unfold fup; omega) (by omega)
            simp only; rw [hl1] at h1 ⊢; exact h1
          · have h1 := hs.d hb
            have := bnd_per hb
            have h2 := h1.add (now := now) (x := N - hv) (pods := hv - N) (by unfold fdn; omega) (by rw [hl1]; simp only at this; omega) (by omega)
            simp only; rw [hl1] at h2 ⊢; exact h2
        · rename_i hbd
          refine ⟨fun hb => ?_, fun hb => absurd hb hbd⟩
          have h1 := (hs.g hb).other (now := now) (x := N - hv) (by unfold fup; omega) (by omega)
          rw [hl1] at h1 ⊢; exact h1
    · rw [mov, if_pos (by omega)]
      exact hs
/-- a pace of so many pods a period holds -/
theorem pace {M : List Mo} {s : St} {k : Nat} {p per : Int} (h : MI M s) (hF : Fit s k) {now hv want : Int} (ho : okArg s.last now hv want = true) (hu : s.u = ⟨0, p, 0, per⟩) (hp : 1 ≤ p) (hper : 1 ≤ per) (hlt : hv < setN s now hv want) (hw : hv < want) :
    setN s now hv want - hv + sumF fup M (now - per) ≤ p ∨ setN s now hv want ≤ p := by
  obtain ⟨a, b, c, d, e, f⟩ := okArg_iff.1 ho
  have hs := h.step (now := now) (want := want) a
  have hl := hF.last
  have hf : Fit (forget (know s now want) now) (k + 1) := (hF.know ⟨by omega, b⟩ ⟨e, f⟩).forget now
  have hu1 : (forget (know s now want) now).u = ⟨0, p, 0, per⟩ := hu
  have hl1 : (forget (know s now want) now).last = now := rfl
  have hN : setN s now hv want = nU (forget (know s now want) now) hv want := by unfold setN; rw [if_pos ho, if_pos hw]
  rw [hN] at hlt ⊢
  generalize forget (know s now want) now = s1 at *
  have hb : bnd s1.u = true := by
    rw [hu1]; unfold bnd
    have h1 : (per != 0) = true := by simp; omega
    have h2 : (p != 0) = true := by simp; omega
    simp only [h1, h2]; rfl
  have hg := (hs.g hb).sum hf.gr
  rw [hu1, hl1] at hg
  simp only at hg
  have hpart : partU s1 (baseU s1 hv) = 0 := by
    unfold partU; rw [hu1]
    have h0 : clip 0 = 0 := by decide
    simp only [h0]
    have h1 : mulc (clip (baseU s1 hv)) 0 = 0 := by unfold mulc; rw [Int.mul_zero]; exact h0
    rw [h1, h0]; decide
  have hnu : nU s1 hv want = max (min (hd s1.lo want) (baseU s1 hv + max p 0)) hv := by
    unfold nU; rw [if_pos hb, hpart, hu1]
  rw [hnu] at hlt ⊢
  have hbase : baseU s1 hv = max (hv - sumF fup M (now - per)) 0 := by unfold baseU; rw [hg]
  rw [hbase] at hlt ⊢
  omega
theorem setS_last {s : St} {now hv want : Int} (ho : okArg s.last now hv want = true) : (setS s now hv want).last = now := by
  unfold setS; rw [if_pos ho]
  split
  · unfold more; split <;> rfl
  · split
    · unfold fewer; split <;> rfl
    · rfl
end Stb
end Go.Proofs.Ytanlhkokghjadac
