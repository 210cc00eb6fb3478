
/- Package stable in plain mathematics: what the lows and highs tell of all that was wanted; what lies between; windows. -/
import Derived.Test.YtanlhkokghjadacStbPlain
namespace Go.Proofs.Ytanlhkokghjadac
namespace Stb
open Plain

theorem mem_tw {α : Type} {q : α → Bool} {L : List α} {m : α} (h : m ∈ L.takeWhile q) : q m = true := by
  induction L with
  | nil => simp at h
  | cons a L ih =>
    rw [List.takeWhile_cons] at h
    split at h
    · rcases List.mem_cons.1 h with rfl | h
      · assumption
      · exact ih h
    · simp at h
/-- L stands for what is above the time tau of all that was wanted: times go up, keys go up -/
structure LoI (k : Int → Int) (H L : List Mo) (tau last : Int) : Prop where
  st : L.Pairwise (fun a b => a.t ≤ b.t)
  sp : L.Pairwise (fun a b => k a.p < k b.p)
  mem : ∀ m ∈ L, m ∈ H
  cov : ∀ h ∈ H, tau < h.t → ∃ m ∈ L, h.t ≤ m.t ∧ k m.p ≤ k h.p
  ab : ∀ m ∈ L, tau < m.t
  le : ∀ h ∈ H, h.t ≤ last
theorem LoI.nil (k : Int → Int) (tau last : Int) : LoI k [] [] tau last := ⟨.nil, .nil, by simp, by simp, by simp, by simp⟩
/-- what is cut off at the end is of a key that is not below -/
theorem cutE_split (q : Int → Bool) (L : List Mo) : ∃ E, L = cutE q L ++ E ∧ (∀ m ∈ E, q m.p = true) ∧ (∀ m, (cutE q L).getLast? = some m → q m.p = false) := by
  refine ⟨(L.reverse.takeWhile (fun m => q m.p)).reverse, ?_, ?_, ?_⟩
  · unfold cutE
    rw [← List.reverse_append, List.takeWhile_append_dropWhile, List.reverse_reverse]
  · intro m hm
    rw [List.mem_reverse] at hm
    exact mem_tw (q := fun m : Mo => q m.p) hm
  · intro m hm
    unfold cutE at hm
    rw [List.getLast?_reverse] at hm
    have := List.head?_dropWhile_not (fun m : Mo => q m.p) L.reverse
    rw [hm] at this
    simpa using this
theorem LoI.fol {k : Int → Int} {H L : List Mo} {tau last : Int} (h : LoI k H L tau last) {q : Int → Bool} {now want : Int} (hq : ∀ o, q o = decide (k want ≤ k o)) (hn : last ≤ now) (ht : tau < now) : LoI k (H ++ [⟨now, want⟩]) (fol q L ⟨now, want⟩) tau now := by
  obtain ⟨E, hE, hEq, hlast⟩ := cutE_split q L
  have hsub : ∀ m ∈ cutE q L, m ∈ L := fun m hm => mem_cutE hm
  have hst := h.st
  have hsp := h.sp
  rw [hE] at hst hsp
  have hst1 := (List.pairwise_append.1 hst).1
  have hsp1 := (List.pairwise_append.1 hsp).1
  have hlow : ∀ m ∈ cutE q L, k m.p < k want := by
    intro m hm
    have hne : cutE q L ≠ [] := fun e => by rw [e] at hm; simp at hm
    have hl := List.getLast?_eq_some_getLast hne
    have hq2 := hlast _ hl
    rw [hq] at hq2
    have hlt : k ((cutE q L).getLast hne).p < k want := by simpa using hq2
    have hsp2 := hsp1
    rw [← List.dropLast_concat_getLast hne] at hsp2 hm
    rcases List.mem_append.1 hm with a | a
    · have := (List.pairwise_append.1 hsp2).2.2 m a ((cutE q L).getLast hne) (List.mem_singleton.2 rfl)
      omega
    · simp only [List.mem_singleton] at a
      rw [a]; exact hlt
  refine ⟨?_, ?_, ?_, ?_, ?_, ?_⟩
  · refine List.pairwise_append.2 ⟨hst1, by simp, fun a ha b hb => ?_⟩
    simp only [List.mem_singleton] at hb
    subst hb
    have := h.le a (h.mem a (hsub a ha))
    simp only; omega
  · refine List.pairwise_append.2 ⟨hsp1, by simp, fun a ha b hb => ?_⟩
    simp only [List.mem_singleton] at hb
    subst hb
    exact hlow a ha
  · intro m hm
    rcases List.mem_append.1 hm with a | a
    · exact List.mem_append.2 (Or.inl (h.mem m (hsub m a)))
    · exact List.mem_append.2 (Or.inr a)
  · intro x hx htx
    rcases List.mem_append.1 hx with a | a
    · obtain ⟨m, hm, h1, h2⟩ := h.cov x a htx
      rw [hE] at hm
      rcases List.mem_append.1 hm with b | b
      · exact ⟨m, List.mem_append.2 (Or.inl b), h1, h2⟩
      · refine ⟨⟨now, want⟩, List.mem_append.2 (Or.inr (by simp)), ?_, ?_⟩
        · have := h.le x a; simp only; omega
        · have := hEq m b
          rw [hq] at this
          have : k want ≤ k m.p := by simpa using this
          simp only; omega
    · simp only [List.mem_singleton] at a
      subst a
      exact ⟨⟨now, want⟩, List.mem_append.2 (Or.inr (by simp)), Int.le_refl _, Int.le_refl _⟩
  · intro m hm
    rcases List.mem_append.1 hm with a | a
    · exact h.ab m (hsub m a)
    · simp only [List.mem_singleton] at a
      subst a
      exact ht
  · intro x hx
    rcases List.mem_append.1 hx with a | a
    · have := h.le x a; omega
    · simp only [List.mem_singleton] at a
      subst a
      exact Int.le_refl _
theorem abv_split (L : List Mo) (t : Int) : ∃ A, L = A ++ abv L t ∧ (∀ m ∈ A, m.t ≤ t) ∧ (∀ m, (abv L t).head? = some m → t < m.t) := by
  refine ⟨L.takeWhile (fun m => decide (m.t ≤ t)), (List.takeWhile_append_dropWhile).symm, fun m hm => ?_, fun m hm => ?_⟩
  · have := mem_tw hm; simpa using this
  · unfold abv at hm
    have := List.head?_dropWhile_not (fun m : Mo => decide (m.t ≤ t)) L
    rw [hm] at this
    simp at this
    omega
theorem LoI.abv {k : Int → Int} {H L : List Mo} {tau last : Int} (h : LoI k H L tau last) {t : Int} (ht : tau ≤ t) : LoI k H (abv L t) t last := by
  obtain ⟨A, hA, hAt, hhd⟩ := abv_split L t
  have hst := h.st
  have hsp := h.sp
  rw [hA] at hst hsp
  have hst2 := (List.pairwise_append.1 hst).2.1
  refine ⟨hst2, (List.pairwise_append.1 hsp).2.1, fun m hm => h.mem m (mem_abv hm), ?_, ?_, h.le⟩
  · intro x hx htx
    obtain ⟨m, hm, h1, h2⟩ := h.cov x hx (by omega)
    rw [hA] at hm
    rcases List.mem_append.1 hm with a | a
    · have := hAt m a; omega
    · exact ⟨m, a, h1, h2⟩
  · intro m hm
    cases hL : Stb.abv L t with
    | nil => rw [hL] at hm; simp at hm
    | cons a r =>
      have ha := hhd a (by rw [hL]; rfl)
      rw [hL] at hm hst2
      rcases List.mem_cons.1 hm with rfl | hm
      · exact ha
      · have := (List.pairwise_cons.1 hst2).1 m hm; omega
/-- know and forget, at a window -/
theorem LoI.next {k : Int → Int} {H L : List Mo} {W last : Int} (h : LoI k H L (last - W) last) {q : Int → Bool} {now want : Int} (hq : ∀ o, q o = decide (k want ≤ k o)) (hn : last ≤ now) (hW : 0 ≤ W) : LoI k (H ++ [⟨now, want⟩]) (Stb.abv (Stb.fol q L ⟨now, want⟩) (now - W)) (now - W) now := by
  by_cases hw : last - W < now
  · exact (h.fol hq hn hw).abv (by omega)
  · have hw0 : W = 0 := by omega
    have hln : last = now := by omega
    subst hw0 hln
    have hL : ∀ m ∈ L, False := fun m hm => by have := h.ab m hm; have := h.le m (h.mem m hm); omega
    have hnil : L = [] := List.eq_nil_iff_forall_not_mem.2 hL
    subst hnil
    have : Stb.abv (Stb.fol q [] ⟨last, want⟩) (last - 0) = [] := by simp [Stb.fol, cutE, Stb.abv]
    rw [this]
    refine ⟨.nil, .nil, by simp, fun x hx htx => ?_, by simp, fun x hx => ?_⟩
    · exfalso
      rcases List.mem_append.1 hx with a | a
      · have := h.le x a; omega
      · simp only [List.mem_singleton] at a; subst a; simp only at htx; omega
    · rcases List.mem_append.1 hx with a | a
      · exact h.le x a
      · simp only [List.mem_singleton] at a; subst a; exact Int.le_refl _
/-- the first of them is the least -/
theorem LoI.least {k : Int → Int} {H L : List Mo} {tau last : Int} (h : LoI k H L tau last) {d : Int} : (L = [] ∧ hd L d = d ∧ ∀ x ∈ H, ¬ tau < x.t) ∨ (∃ m ∈ H, tau < m.t ∧ hd L d = m.p ∧ ∀ x ∈ H, tau < x.t → k m.p ≤ k x.p) := by
  cases L with
  | nil => exact Or.inl ⟨rfl, rfl, fun x hx ht => by obtain ⟨m, hm, _⟩ := h.cov x hx ht; simp at hm⟩
  | cons m r =>
    refine Or.inr ⟨m, h.mem m (by simp), h.ab m (by simp), rfl, fun x hx ht => ?_⟩
    obtain ⟨y, hy, _, h2⟩ := h.cov x hx ht
    rcases List.mem_cons.1 hy with rfl | hy
    · exact h2
    · have := (List.pairwise_cons.1 h.sp).1 y hy; omega
def kid (x : Int) : Int := x
def kneg (x : Int) : Int := -x
theorem geq_is (want o : Int) : geq want o = decide (kid want ≤ kid o) := rfl
theorem leq_is (want o : Int) : leq want o = decide (kneg want ≤ kneg o) := by unfold leq kneg; rw [decide_eq_decide]; omega
/-- all that a Stable knows of what was wanted -/
structure SI (H : List Mo) (s : St) : Prop where
  lo : LoI kid H s.lo (s.last - s.u.w) s.last
  hi : LoI kneg H s.hi (s.last - s.d.w) s.last
theorem SI.step {H : List Mo} {s : St} {k : Nat} (h : SI H s) (hF : Fit s k) {now want : Int} (hn : s.last ≤ now) : SI (H ++ [⟨now, want⟩]) (forget (know s now want) now) :=
  ⟨h.lo.next (geq_is want) hn hF.u.w.1, h.hi.next (leq_is want) hn hF.d.w.1⟩
theorem SI.more {H : List Mo} {s : St} (h : SI H s) (now hv want : Int) : SI H (more s now hv want) := by
  unfold Stb.more; split
  · exact ⟨h.lo, h.hi⟩
  · exact h
theorem SI.fewer {H : List Mo} {s : St} (h : SI H s) (now hv want : Int) : SI H (fewer s now hv want) := by
  unfold Stb.fewer; split
  · exact ⟨h.lo, h.hi⟩
  · exact h
theorem SI.set {H : List Mo} {s : St} {k : Nat} (h : SI H s) (hF : Fit s k) {now hv want : Int} (ho : okArg s.last now hv want = true) : SI (H ++ [⟨now, want⟩]) (setS s now hv want) := by
  have hs := h.step hF (now := now) (want := want) (okArg_iff.1 ho).1
  unfold Stb.setS
  rw [if_pos ho]
  split
  · exact hs.more _ _ _
  · split
    · exact hs.fewer _ _ _
    · exact hs
theorem setS_pace (s : St) (now hv want : Int) : (setS s now hv want).u = s.u ∧ (setS s now hv want).d = s.d := by
  have hm : ∀ s : St, (more s now hv want).u = s.u ∧ (more s now hv want).d = s.d := fun s => by unfold more; split <;> exact ⟨rfl, rfl⟩
  have hf : ∀ s : St, (fewer s now hv want).u = s.u ∧ (fewer s now hv want).d = s.d := fun s => by unfold fewer; split <;> exact ⟨rfl, rfl⟩
  unfold setS
  split
  · split
    · exact hm _
    · split
      · exact hf _
      · exact ⟨rfl, rfl⟩
  · exact ⟨rfl, rfl⟩
/-- what is told lies between what there is and what is wanted -/
theorem between {H : List Mo} {s : St} {k : Nat} (h : SI H s) (hF : Fit s k) {now hv want : Int} (ho : okArg s.last now hv want = true) : min hv want ≤ setN s now hv want ∧ setN s now hv want ≤ max hv want := by
  have hs := h.step hF (now := now) (want := want) (okArg_iff.1 ho).1
  have hnew : (⟨now, want⟩ : Mo) ∈ H ++ [⟨now, want⟩] := by simp
  unfold setN
  rw [if_pos ho]
  split
  · rename_i hlt
    have hh : hd (forget (know s now want) now).lo want ≤ want := by
      rcases hs.lo.least (d := want) with ⟨_, e, _⟩ | ⟨m, _, ht, e, hmin⟩
      · rw [e]; exact Int.le_refl _
      · rw [e]
        have hw := hF.u.w.1
        by_cases hw0 : 0 < s.u.w
        · exact hmin _ hnew (by show now - s.u.w < now; omega)
        · exfalso
          have : m.t ≤ now := hs.lo.le m (by assumption)
          have : now - s.u.w < m.t := ht
          omega
    unfold nU
    split <;> omega
  · split
    · rename_i hlt
      have hh : want ≤ hd (forget (know s now want) now).hi want := by
        rcases hs.hi.least (d := want) with ⟨_, e, _⟩ | ⟨m, _, ht, e, hmin⟩
        · rw [e]; exact Int.le_refl _
        · rw [e]
          have hw := hF.d.w.1
          by_cases hw0 : 0 < s.d.w
          · have := hmin _ hnew (by show now - s.d.w < now; omega)
            unfold kneg at this
            simp only at this; omega
          · exfalso
            have : m.t ≤ now := hs.hi.le m (by assumption)
            have : now - s.d.w < m.t := ht
            omega
      unfold nD
      split <;> omega
    · omega
/-- without windows and paces what is wanted is told -/
theorem free {H : List Mo} {s : St} {k : Nat} (h : SI H s) (hF : Fit s k) {now hv want : Int} (ho : okArg s.last now hv want = true) (hu : s.u.w = 0) (hd' : s.d.w = 0) (bu : bnd s.u = false) (bd : bnd s.d = false) : setN s now hv want = want := by
  have hs := h.step hF (now := now) (want := want) (okArg_iff.1 ho).1
  have e1 : hd (forget (know s now want) now).lo want = want := by
    rcases hs.lo.least (d := want) with ⟨_, e, _⟩ | ⟨m, hm, ht, e, hmin⟩
    · exact e
    · exfalso
      have h1 : m.t ≤ now := hs.lo.le m hm
      have h2 : now - s.u.w < m.t := ht
      omega
  have e2 : hd (forget (know s now want) now).hi want = want := by
    rcases hs.hi.least (d := want) with ⟨_, e, _⟩ | ⟨m, hm, ht, e, hmin⟩
    · exact e
    · exfalso
      have h1 : m.t ≤ now := hs.hi.le m hm
      have h2 : now - s.d.w < m.t := ht
      omega
  have b1 : bnd (forget (know s now want) now).u = false := bu
  have b2 : bnd (forget (know s now want) now).d = false := bd
  unfold setN
  rw [if_pos ho]
  unfold nU nD
  rw [b1, b2, e1, e2]
  simp only [Bool.false_eq_true, if_false]
  split
  · omega
  · split <;> omega
/-- a window holds -/
theorem window {H : List Mo} {s : St} {k : Nat} (h : SI H s) (hF : Fit s k) {now hv want : Int} (ho : okArg s.last now hv want = true) (bu : bnd s.u = false) (bd : bnd s.d = false) {y : Mo} (hy : y ∈ H) : (now - s.d.w < y.t → setN s now hv want < hv → y.p ≤ setN s now hv want) ∧ (now - s.u.w < y.t → hv < setN s now hv want → setN s now hv want ≤ y.p) := by
  have hs := h.step hF (now := now) (want := want) (okArg_iff.1 ho).1
  have hb := between h hF ho
  have hy' : y ∈ H ++ [⟨now, want⟩] := List.mem_append.2 (Or.inl hy)
  have b1 : bnd (forget (know s now want) now).u = false := bu
  have b2 : bnd (forget (know s now want) now).d = false := bd
  refine ⟨fun ht hlt => ?_, fun ht hlt => ?_⟩
  · have hwh : want < hv := by omega
    have hn : setN s now hv want = min (hd (forget (know s now want) now).hi want) hv := by
      unfold setN
      rw [if_pos ho, if_neg (by omega), if_pos hwh]
      unfold nD
      rw [b2]; rfl
    rw [hn] at hlt ⊢
    have hm : y.p ≤ hd (forget (know s now want) now).hi want := by
      rcases hs.hi.least (d := want) with ⟨_, _, hno⟩ | ⟨m, _, _, e, hmin⟩
      · exact absurd ht (hno y hy')
      · rw [e]
        have := hmin y hy' ht
        unfold kneg at this
        omega
    omega
  · have hwh : hv < want := by omega
    have hn : setN s now hv want = max (hd (forget (know s now want) now).lo want) hv := by
      unfold setN
      rw [if_pos ho, if_pos hwh]
      unfold nU
      rw [b1]; rfl
    rw [hn] at hlt ⊢
    have hm : hd (forget (know s now want) now).lo want ≤ y.p := by
      rcases hs.lo.least (d := want) with ⟨_, _, hno⟩ | ⟨m, _, _, e, hmin⟩
      · exact absurd ht (hno y hy')
      · rw [e]
        exact hmin y hy' ht
    omega
end Stb
end Go.Proofs.Ytanlhkokghjadac
