
/- How requests go on: who runs has nobody of its source waiting ahead, one of a source runs at the most: plain mathematics. -/
import Derived.Test.YtkflelbpiabcpagBufPlain
namespace Go.Proofs.Ytkflelbpiabcpag
namespace Buf
open Go.RowKit Rw Rec

/-- nobody of its source waits ahead of who runs -/
def Ahead (L : List Rq) : Prop := ∀ (i j : Nat) (r x : Rq), L[i]? = some r → r.fat = 2 → j < i → L[j]? = some x → x.src = r.src → x.fat ≠ 1
/-- one of a source runs at the most -/
def One (L : List Rq) : Prop := ∀ (i j : Nat) (r x : Rq), L[i]? = some r → L[j]? = some x → r.fat = 2 → x.fat = 2 → r.src = x.src → i = j
/-- how a fate may go on -/
def okF (a b : Int) : Prop := a = b ∨ (a = 1 ∧ (b = 2 ∨ b = 4)) ∨ (a = 2 ∧ (b = 3 ∨ b = 5))
def Goes (L L' : List Rq) : Prop := L.length ≤ L'.length ∧ ∀ (i : Nat) (r : Rq), L[i]? = some r → ∃ r', L'[i]? = some r' ∧ r'.src = r.src ∧ r'.til = r.til ∧ okF r.fat r'.fat
theorem Goes.refl (L : List Rq) : Goes L L := ⟨Nat.le_refl _, fun _ r h => ⟨r, h, rfl, rfl, Or.inl rfl⟩⟩
/-- all three, and the invariant -/
structure Fat (L : List Rq) : Prop where
  inv : Inv L
  ahead : Ahead L
  one : One L
theorem Fat.nil : Fat [] := ⟨Inv.nil, fun i j r x h => by simp at h, fun i j r x h => by simp at h⟩

theorem many_zero {s : Int} {L : List Rq} (h : many s 2 L = 0) : ∀ r ∈ L, r.src = s → r.fat ≠ 2 := by
  intro r hr hs hf
  unfold many at h
  rw [List.countP_eq_zero] at h
  exact h r hr (by simp [isOf, hs, hf])
theorem set_get {L : List Rq} {i k : Nat} {r q x : Rq} (hr : L[k]? = some r) (h : (L.set k q)[i]? = some x) : (i = k ∧ x = q) ∨ (i ≠ k ∧ L[i]? = some x) := by
  by_cases e : i = k
  · subst e
    have hl : i < L.length := (List.getElem?_eq_some_iff.1 hr).1
    rw [List.getElem?_set_self hl] at h
    cases h
    exact Or.inl ⟨rfl, rfl⟩
  · rw [List.getElem?_set_ne (fun h => e h.symm)] at h
    exact Or.inr ⟨e, h⟩
theorem set_goes {L : List Rq} {k : Nat} {r q : Rq} (hr : L[k]? = some r) (h1 : q.src = r.src) (h2 : q.til = r.til) (h3 : okF r.fat q.fat) : Goes L (L.set k q) := by
  refine ⟨by simp, fun i x hx => ?_⟩
  have hl : k < L.length := (List.getElem?_eq_some_iff.1 hr).1
  by_cases e : k = i
  · subst e
    rw [hr] at hx; cases hx
    exact ⟨q, List.getElem?_set_self hl, h1, h2, h3⟩
  · exact ⟨x, by rw [List.getElem?_set_ne e]; exact hx, rfl, rfl, Or.inl rfl⟩
/-- a fate that ends: nothing new runs or waits -/
theorem Fat.ends {L : List Rq} (h : Fat L) {k : Nat} {r q : Rq} (hr : L[k]? = some r) (hq1 : q.fat ≠ 1) (hq2 : q.fat ≠ 2) (hI : Inv (L.set k q)) : Fat (L.set k q) := by
  refine ⟨hI, fun i j a x ha hf hj hx hs => ?_, fun i j a x ha hx hf hg hs => ?_⟩
  · rcases set_get hr ha with ⟨rfl, rfl⟩ | ⟨_, ha⟩
    · exact absurd hf hq2
    · rcases set_get hr hx with ⟨rfl, rfl⟩ | ⟨_, hx⟩
      · exact hq1
      · exact h.ahead i j a x ha hf hj hx hs
  · rcases set_get hr ha with ⟨rfl, rfl⟩ | ⟨_, ha⟩
    · exact absurd hf hq2
    · rcases set_get hr hx with ⟨rfl, rfl⟩ | ⟨_, hx⟩
      · exact absurd hg hq2
      · exact h.one i j a x ha hx hf hg hs
theorem done_fat {L : List Rq} (h : Fat L) (id : Int) : Fat (doneL L id) ∧ Goes L (doneL L id) := by
  have hI := done_inv h.inv id
  by_cases hi : 1 ≤ id ∧ id ≤ L.length
  · obtain ⟨i, rfl, hl⟩ := id_nat hi
    obtain ⟨r, hr⟩ : ∃ r, L[i]? = some r := ⟨L[i], by simp [hl]⟩
    by_cases hf : r.fat = 2
    · rw [(done_ok hr hf).2.2] at hI ⊢
      exact ⟨h.ends hr (by simp) (by simp) hI, set_goes hr rfl rfl (Or.inr (Or.inr ⟨hf, Or.inl rfl⟩))⟩
    · rw [(done_state hr hf).2.2]; exact ⟨h, Goes.refl L⟩
  · rw [(done_no hi).2.2]; exact ⟨h, Goes.refl L⟩
theorem run_fat {L : List Rq} (h : Fat L) (id pod : Int) : Fat (runL L id pod) ∧ Goes L (runL L id pod) := by
  have hI := run_inv h.inv id pod
  by_cases hi : 1 ≤ id ∧ id ≤ L.length
  · obtain ⟨k, rfl, hl⟩ := id_nat hi
    obtain ⟨r, hr⟩ : ∃ r, L[k]? = some r := ⟨L[k], by simp [hl]⟩
    cases hf : runOk L k r with
    | false => rw [(run_state hr hf).2]; exact ⟨h, Goes.refl L⟩
    | true =>
      rw [(run_ok hr hf).2] at hI ⊢
      unfold runOk mayRun at hf
      rw [Bool.and_eq_true, Bool.and_eq_true] at hf
      obtain ⟨⟨h1, h2⟩, h3⟩ := hf
      have hw : r.fat = 1 := by simpa using h1
      have hz := many_zero (by simpa using h2 : many r.src 2 L = 0)
      rw [List.all_eq_true] at h3
      have hno : ∀ (j : Nat) (x : Rq), j < k → L[j]? = some x → x.src = r.src → x.fat ≠ 1 := fun j x hj hx hs hf => by
        have hm : x ∈ L.take k := List.mem_of_getElem? (i := j) (by rw [List.getElem?_take_of_lt hj]; exact hx)
        have := h3 x hm
        simp [hs, hf] at this
      refine ⟨⟨hI, fun i j a x ha hg hj hx hs => ?_, fun i j a x ha hx hg hg2 hs => ?_⟩, set_goes hr rfl rfl (Or.inr (Or.inl ⟨hw, Or.inl rfl⟩))⟩
      · rcases set_get hr ha with ⟨rfl, rfl⟩ | ⟨_, ha⟩
        · rcases set_get hr hx with ⟨rfl, rfl⟩ | ⟨_, hx⟩
          · omega
          · exact hno j x hj hx hs
        · rcases set_get hr hx with ⟨rfl, rfl⟩ | ⟨_, hx⟩
          · simp
          · exact h.ahead i j a x ha hg hj hx hs
      · rcases set_get hr ha with ⟨rfl, rfl⟩ | ⟨_, ha1⟩
        · rcases set_get hr hx with ⟨rfl, rfl⟩ | ⟨_, hx⟩
          · rfl
          · exact absurd hg2 (hz x (List.mem_of_getElem? hx) hs.symm)
        · rcases set_get hr hx with ⟨rfl, rfl⟩ | ⟨_, hx⟩
          · exact absurd hg (hz a (List.mem_of_getElem? ha1) hs)
          · exact h.one i j a x ha1 hx hg hg2 hs
  · rw [(run_no hi).2]; exact ⟨h, Goes.refl L⟩
theorem ask_fat {L : List Rq} (h : Fat L) (now s t : Int) : Fat (askL L now s t) ∧ Goes L (askL L now s t) := by
  have hI := ask_inv h.inv now s t
  by_cases he : askE L now s t = 0
  · have e : askL L now s t = L ++ [⟨(L.length : Int) + 1, s, now + t, 1, 0⟩] := by unfold askL; rw [if_pos he]
    rw [e] at hI ⊢
    have get : ∀ (i : Nat) (x : Rq), (L ++ [(⟨(L.length : Int) + 1, s, now + t, 1, 0⟩ : Rq)])[i]? = some x → L[i]? = some x ∨ (i = L.length ∧ x.fat = 1) := by
      intro i x hx
      by_cases hi : i < L.length
      · rw [List.getElem?_append_left hi] at hx; exact Or.inl hx
      · rw [List.getElem?_append_right (by omega)] at hx
        have hl := (List.getElem?_eq_some_iff.1 hx).1
        simp at hl
        have h0 : i - L.length = 0 := by omega
        rw [h0] at hx
        simp at hx
        subst hx
        exact Or.inr ⟨by omega, rfl⟩
    refine ⟨⟨hI, fun i j a x ha hf hj hx hs => ?_, fun i j a x ha hx hf hg hs => ?_⟩, by simp, fun i r hr => ⟨r, ?_, rfl, rfl, Or.inl rfl⟩⟩
    · rcases get i a ha with ha | ⟨_, h1⟩
      · rcases get j x hx with hx | ⟨h2, _⟩
        · exact h.ahead i j a x ha hf hj hx hs
        · have := (List.getElem?_eq_some_iff.1 ha).1; omega
      · omega
    · rcases get i a ha with ha | ⟨_, h1⟩
      · rcases get j x hx with hx | ⟨_, h2⟩
        · exact h.one i j a x ha hx hf hg hs
        · omega
      · omega
    · rw [List.getElem?_append_left (List.getElem?_eq_some_iff.1 hr).1]; exact hr
  · have e : askL L now s t = L := by unfold askL; rw [if_neg he]
    rw [e]; exact ⟨h, Goes.refl L⟩
/-- fates that end, by a test -/
theorem turn_fat {L : List Rq} (h : Fat L) (p : Rq → Bool) (f : Int) (hf : 3 ≤ f ∧ f ≤ 5) (hp : ∀ r, p r = true → okF r.fat f) : Fat (turnL p f L) ∧ Goes L (turnL p f L) := by
  have hI := turn_inv h.inv p f (by omega)
  have get : ∀ (i : Nat) (x : Rq), (turnL p f L)[i]? = some x → ∃ r, L[i]? = some r ∧ x.src = r.src ∧ (x.fat = r.fat ∨ x.fat = f) := by
    intro i x hx
    unfold turnL at hx
    rw [List.getElem?_map] at hx
    cases hr : L[i]? with
    | none => rw [hr] at hx; cases hx
    | some r =>
      rw [hr] at hx
      simp at hx
      subst hx
      refine ⟨r, rfl, ?_, ?_⟩
      · unfold turnF; split <;> rfl
      · unfold turnF; split
        · exact Or.inr rfl
        · exact Or.inl rfl
  refine ⟨⟨hI, fun i j a x ha hg hj hx hs => ?_, fun i j a x ha hx hg hg2 hs => ?_⟩, by simp [turnL], fun i r hr => ?_⟩
  · obtain ⟨a', ha', s1, f1⟩ := get i a ha
    obtain ⟨x', hx', s2, f2⟩ := get j x hx
    rcases f1 with f1 | f1
    · rcases f2 with f2 | f2
      · rw [f2]; exact h.ahead i j a' x' ha' (by rw [← f1]; exact hg) hj hx' (by rw [← s1, ← s2]; exact hs)
      · omega
    · omega
  · obtain ⟨a', ha', s1, f1⟩ := get i a ha
    obtain ⟨x', hx', s2, f2⟩ := get j x hx
    rcases f1 with f1 | f1
    · rcases f2 with f2 | f2
      · exact h.one i j a' x' ha' hx' (by rw [← f1]; exact hg) (by rw [← f2]; exact hg2) (by rw [← s1, ← s2]; exact hs)
      · omega
    · omega
  · refine ⟨turnF p f r, by unfold turnL; rw [List.getElem?_map, hr]; rfl, ?_, ?_, ?_⟩
    · unfold turnF; split <;> rfl
    · unfold turnF; split <;> rfl
    · unfold turnF; split
      · rename_i hpr; exact hp r hpr
      · exact Or.inl rfl
theorem late_fat {L : List Rq} (h : Fat L) (now : Int) : Fat (turnL (isLate now) 4 L) ∧ Goes L (turnL (isLate now) 4 L) :=
  turn_fat h _ 4 (by omega) (fun r hr => by unfold isLate at hr; simp at hr; exact Or.inr (Or.inl ⟨hr.1, Or.inr rfl⟩))
theorem lost_fat {L : List Rq} (h : Fat L) (pod : Int) : Fat (turnL (isAt pod) 5 L) ∧ Goes L (turnL (isAt pod) 5 L) :=
  turn_fat h _ 5 (by omega) (fun r hr => by unfold isAt at hr; simp at hr; exact Or.inr (Or.inr ⟨hr.1, Or.inr rfl⟩))
end Buf
end Go.Proofs.Ytkflelbpiabcpag
