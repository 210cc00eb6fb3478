
/- A fleet's pods as a list, and what each call does to it: plain mathematics. -/
import Derived.Test.YtkflelbpiabcpagRecMem
namespace Go.Proofs.Ytkflelbpiabcpag
namespace Flt
open Go.RowKit Rw Rec

/-- a pod: its number, its state, how much it does -/
structure Pd where
  id : Int
  st : Int
  ld : Int
def pcel (p : Pd) : List Value := [.int .i64 p.id, .int .i64 p.st, .int .i64 p.ld]
def pK : Kd Pd := ⟨pcel, 3, fun _ => rfl, fun m u hu => by simp [pcel] at hu; rcases hu with rfl | rfl | rfl <;> rfl, by decide⟩

theorem find_at {α : Type} {p : α → Bool} {L : List α} {k : Nat} {m : α} (h : ∀ j, j < k → ∀ x, L[j]? = some x → p x = false) (hk : L[k]? = some m) (hp : p m = true) : L.findIdx? p = some k := by
  obtain ⟨hlt, hm⟩ := List.getElem?_eq_some_iff.1 hk
  rw [List.findIdx?_eq_some_iff_getElem]
  refine ⟨hlt, by rw [hm]; exact hp, fun j hj => ?_⟩
  have := h j hj L[j] (by simp)
  simp [this]
theorem find_no {α : Type} {p : α → Bool} {L : List α} (h : ∀ j, j < L.length → ∀ x, L[j]? = some x → p x = false) : L.findIdx? p = none := by
  rw [List.findIdx?_eq_none_iff]
  intro x hx
  obtain ⟨j, hj⟩ := List.mem_iff_getElem?.1 hx
  exact h j (List.getElem?_eq_some_iff.1 hj).1 x hj
theorem find_get {α : Type} {p : α → Bool} {L : List α} {k : Nat} (h : L.findIdx? p = some k) : ∃ m, L[k]? = some m ∧ p m = true := by
  obtain ⟨hlt, hm, _⟩ := List.findIdx?_eq_some_iff_getElem.1 h
  exact ⟨L[k], by simp, hm⟩
theorem split_at {α : Type} {L : List α} {i : Nat} {m : α} (h : L[i]? = some m) : L = L.take i ++ m :: L.drop (i + 1) := by
  obtain ⟨hlt, hm⟩ := List.getElem?_eq_some_iff.1 h
  conv => lhs; rw [← List.take_append_drop i L]
  rw [List.drop_eq_getElem_cons hlt, hm]
theorem erase_at {α : Type} {L : List α} {i : Nat} : L.eraseIdx i = L.take i ++ L.drop (i + 1) := List.eraseIdx_eq_take_drop_succ ..
theorem set_at {α : Type} {L : List α} {i : Nat} {m x : α} (h : L[i]? = some m) : L.set i x = L.take i ++ x :: L.drop (i + 1) := by
  have hlt : i < L.length := (List.getElem?_eq_some_iff.1 h).1
  conv => lhs; rw [split_at h]
  rw [List.set_append_right _ _ (by simp; omega)]
  simp [Nat.min_eq_left (Nat.le_of_lt hlt)]
theorem mem_set {α : Type} {L : List α} {i : Nat} {m x : α} (h : x ∈ L.set i m) : x = m ∨ x ∈ L := by
  rcases List.mem_or_eq_of_mem_set h with h | h
  · exact Or.inr h
  · exact Or.inl h
def idxV : Option Nat → Int
  | none => -1
  | some k => k

def isId (id : Int) (p : Pd) : Bool := p.id == id
def stays (p : Pd) : Bool := p.st != 4
def room (most : Int) (p : Pd) : Bool := p.st == 3 && decide (p.ld < most)
/-- the order in which pods go -/
def goes (p q : Pd) : Bool := if (p.st != q.st) = true then decide (p.st < q.st) else if (p.ld != q.ld) = true then decide (p.ld < q.ld) else decide (p.id > q.id)
/-- the order in which they are given something -/
def given (p q : Pd) : Bool := if (p.ld != q.ld) = true then decide (p.ld < q.ld) else decide (p.id < q.id)

def cnt (L : List Pd) : Nat := L.countP stays
theorem cnt_step {L : List Pd} {k : Nat} {m : Pd} (h : L[k]? = some m) : cnt (L.take (k + 1)) = cnt (L.take k) + if stays m then 1 else 0 := by
  unfold cnt
  rw [List.take_add_one, h, List.countP_append]
  simp [List.countP_cons]
theorem cnt_le (L : List Pd) : cnt L ≤ L.length := List.countP_le_length
def sumL (L : List Pd) : Int := (L.map Pd.ld).sum
theorem sum_step {L : List Pd} {k : Nat} {m : Pd} (h : L[k]? = some m) : sumL (L.take (k + 1)) = sumL (L.take k) + m.ld := by
  unfold sumL
  rw [List.take_add_one, h, List.map_append, List.sum_append]
  simp

/-- who is ahead of all others that may be chosen: the best so far, and on -/
def beats (ah : Pd → Pd → Bool) (p : Pd) : Option (Nat × Pd) → Bool
  | none => true
  | some x => ah p x.2
def nxt (may : Pd → Bool) (ah : Pd → Pd → Bool) (p : Pd) (i : Nat) (b : Option (Nat × Pd)) : Option (Nat × Pd) :=
  if (may p && beats ah p b) = true then some (i, p) else b
def pick (may : Pd → Bool) (ah : Pd → Pd → Bool) : List Pd → Nat → Option (Nat × Pd) → Option (Nat × Pd)
  | [], _, b => b
  | p :: L, i, b => pick may ah L (i + 1) (nxt may ah p i b)
def pickV : Option (Nat × Pd) → Int
  | none => -1
  | some x => x.1
theorem pick_step {may : Pd → Bool} {ah : Pd → Pd → Bool} {L : List Pd} {k : Nat} {m : Pd} (b : Option (Nat × Pd)) (h : L[k]? = some m) : pick may ah (L.drop k) k b = pick may ah (L.drop (k + 1)) (k + 1) (nxt may ah m k b) := by
  obtain ⟨hlt, hm⟩ := List.getElem?_eq_some_iff.1 h
  rw [List.drop_eq_getElem_cons hlt, hm]
  rfl
/-- what is chosen stands in the list, and may be chosen -/
def In (may : Pd → Bool) (L : List Pd) (k : Nat) (b : Option (Nat × Pd)) : Prop := ∀ x, b = some x → x.1 < k ∧ L[x.1]? = some x.2 ∧ may x.2 = true
theorem In.none (may : Pd → Bool) (L : List Pd) (k : Nat) : In may L k none := fun _ h => by cases h
theorem In.next {may : Pd → Bool} {ah : Pd → Pd → Bool} {L : List Pd} {k : Nat} {m : Pd} {b : Option (Nat × Pd)} (h : In may L k b) (hm : L[k]? = some m) : In may L (k + 1) (nxt may ah m k b) := by
  intro x hx
  unfold nxt at hx
  split at hx
  · rename_i hc
    cases hx
    simp at hc
    exact ⟨by simp, hm, hc.1⟩
  · obtain ⟨a, c⟩ := h x hx
    exact ⟨by omega, c⟩
theorem pick_in {may : Pd → Bool} {ah : Pd → Pd → Bool} {L : List Pd} : ∀ (n k : Nat) (b : Option (Nat × Pd)), L.length = k + n → In may L k b → In may L L.length (pick may ah (L.drop k) k b) := by
  intro n
  induction n with
  | zero => intro k b hk h; rw [List.drop_of_length_le (by omega)]; rw [hk]; exact h
  | succ n ih =>
    intro k b hk h
    obtain ⟨m, hm⟩ : ∃ m, L[k]? = some m := ⟨L[k]'(by omega), by simp⟩
    rw [pick_step b hm]
    exact ih (k + 1) _ (by omega) (h.next hm)
theorem pick_mem {may : Pd → Bool} {ah : Pd → Pd → Bool} {L : List Pd} {x : Nat × Pd} (h : pick may ah L 0 none = some x) : x.1 < L.length ∧ L[x.1]? = some x.2 ∧ may x.2 = true :=
  pick_in (ah := ah) L.length 0 none (by omega) (In.none _ _ _) x (by simpa using h)
theorem pick_keeps {may : Pd → Bool} {ah : Pd → Pd → Bool} : ∀ (L : List Pd) (k : Nat) (x : Nat × Pd), ∃ y, pick may ah L k (some x) = some y
  | [], k, x => ⟨x, rfl⟩
  | p :: L, k, x => by
    unfold pick
    unfold nxt
    split
    · exact pick_keeps L _ _
    · exact pick_keeps L _ _
theorem pick_some {may : Pd → Bool} {ah : Pd → Pd → Bool} : ∀ (L : List Pd) (k : Nat), (∃ p ∈ L, may p = true) → ∃ y, pick may ah L k none = some y
  | [], k, h => by obtain ⟨p, hp, _⟩ := h; cases hp
  | p :: L, k, h => by
    unfold pick
    cases hm : may p with
    | true => simp only [nxt, hm, beats, Bool.true_and, if_true]; exact pick_keeps L _ _
    | false =>
      simp only [nxt, hm, Bool.false_and, Bool.false_eq_true, if_false]
      refine pick_some L _ ?_
      obtain ⟨q, hq, hmq⟩ := h
      rcases List.mem_cons.1 hq with rfl | hq
      · rw [hm] at hmq; cases hmq
      · exact ⟨q, hq, hmq⟩
theorem pick_none {may : Pd → Bool} {ah : Pd → Pd → Bool} {L : List Pd} (h : pick may ah L 0 none = none) : ∀ p ∈ L, may p = false := by
  intro p hp
  cases hm : may p with
  | false => rfl
  | true => obtain ⟨y, hy⟩ := pick_some (may := may) (ah := ah) L 0 ⟨p, hp, hm⟩; rw [h] at hy; cases hy
/-- two orders that agree wherever they are asked choose the same -/
theorem pick_same {may : Pd → Bool} {ah ah' : Pd → Pd → Bool} : ∀ (L : List Pd) (k : Nat) (b : Option (Nat × Pd)), L.Pairwise (fun q p => may q = true → may p = true → ah p q = ah' p q) → (∀ x, b = some x → ∀ p ∈ L, may p = true → ah p x.2 = ah' p x.2) → pick may ah L k b = pick may ah' L k b
  | [], k, b, _, _ => rfl
  | p :: L, k, b, hp, hb => by
    unfold pick
    have e : nxt may ah p k b = nxt may ah' p k b := by
      unfold nxt
      cases hm : may p with
      | false => simp
      | true =>
        cases b with
        | none => rfl
        | some x => simp only [Bool.true_and, beats]; rw [hb x rfl p (by simp) hm]
    rw [e]
    refine pick_same L _ _ (List.pairwise_cons.1 hp).2 (fun x hx q hq hm => ?_)
    unfold nxt at hx
    split at hx
    · rename_i hc
      cases hx
      simp at hc
      exact (List.pairwise_cons.1 hp).1 q hq hc.1 hm
    · exact hb x hx q (by simp [hq]) hm
/-- who is given something has no more than any other that may be -/
theorem pick_least {may : Pd → Bool} : ∀ (L : List Pd) (k : Nat) (b : Option (Nat × Pd)) (x : Nat × Pd), pick may given L k b = some x → (∀ p ∈ L, may p = true → x.2.ld ≤ p.ld) ∧ (∀ y, b = some y → x.2.ld ≤ y.2.ld)
  | [], k, b, x, h => ⟨by simp, fun y hy => by unfold pick at h; rw [hy] at h; cases h; exact Int.le_refl _⟩
  | p :: L, k, b, x, h => by
    unfold pick at h
    obtain ⟨h1, h2⟩ := pick_least L _ _ x h
    unfold nxt at h2
    cases hm : may p with
    | false =>
      simp only [hm, Bool.false_and, Bool.false_eq_true, if_false] at h2
      refine ⟨fun q hq hmq => ?_, h2⟩
      rcases List.mem_cons.1 hq with rfl | hq
      · rw [hm] at hmq; cases hmq
      · exact h1 q hq hmq
    | true =>
      cases b with
      | none =>
        simp only [hm, beats, Bool.true_and, if_true] at h2
        refine ⟨fun q hq hmq => ?_, fun y hy => by cases hy⟩
        rcases List.mem_cons.1 hq with rfl | hq
        · exact h2 _ rfl
        · exact h1 q hq hmq
      | some z =>
        simp only [hm, beats, Bool.true_and] at h2
        cases hg : given p z.2 with
        | true =>
          simp only [hg, if_true] at h2
          have h3 := h2 _ rfl
          simp only at h3
          have h4 : p.ld ≤ z.2.ld := by
            unfold given at hg
            split at hg
            · simp at hg; omega
            · rename_i hne; simp at hne; omega
          refine ⟨fun q hq hmq => ?_, fun y hy => ?_⟩
          · rcases List.mem_cons.1 hq with rfl | hq
            · exact h3
            · exact h1 q hq hmq
          · cases hy; omega
        | false =>
          simp only [hg, Bool.false_eq_true, if_false] at h2
          have h3 := h2 _ rfl
          have h4 : z.2.ld ≤ p.ld := by
            unfold given at hg
            split at hg
            · simp at hg; omega
            · rename_i hne; simp at hne; omega
          refine ⟨fun q hq hmq => ?_, h2⟩
          rcases List.mem_cons.1 hq with rfl | hq
          · omega
          · exact h1 q hq hmq

/-- the pods that come: n behind the number last -/
def news (last : Int) (n : Nat) : List Pd := (List.range n).map fun (i : Nat) => ⟨last + 1 + (i : Int), 1, 0⟩
theorem news_len (last : Int) (n : Nat) : (news last n).length = n := by simp [news]
theorem news_step (last : Int) (n : Nat) : news last n ++ [⟨last + 1 + (n : Int), 1, 0⟩] = news last (n + 1) := by
  unfold news; rw [List.range_succ, List.map_append]; rfl
theorem news_zero (last : Int) : news last 0 = [] := rfl
theorem news_mem {last : Int} {n : Nat} {p : Pd} (h : p ∈ news last n) : last + 1 ≤ p.id ∧ p.id ≤ last + n ∧ p.st = 1 ∧ p.ld = 0 := by
  unfold news at h
  obtain ⟨i, hi, rfl⟩ := List.mem_map.1 h
  have := List.mem_range.1 hi
  refine ⟨?_, ?_, rfl, rfl⟩ <;> simp only <;> omega
theorem news_cnt (last : Int) (n : Nat) : cnt (news last n) = n := by
  unfold cnt
  rw [List.countP_eq_length.2 (fun p hp => by simp [stays, (news_mem hp).2.2.1]), news_len]
theorem news_sum (last : Int) (n : Nat) : sumL (news last n) = 0 := by
  induction n with
  | zero => rfl
  | succ n ih => rw [← news_step]; unfold sumL at *; rw [List.map_append, List.sum_append, ih]; rfl
theorem cnt_append (A B : List Pd) : cnt (A ++ B) = cnt A + cnt B := List.countP_append ..
theorem sum_append (A B : List Pd) : sumL (A ++ B) = sumL A + sumL B := by unfold sumL; rw [List.map_append, List.sum_append]
theorem cnt_cons (p : Pd) (L : List Pd) : cnt (p :: L) = cnt L + if stays p then 1 else 0 := List.countP_cons ..
theorem sum_cons (p : Pd) (L : List Pd) : sumL (p :: L) = p.ld + sumL L := by simp [sumL]

/-- one goes: at once, or behind what it has to do -/
def letgo (L : List Pd) (i : Nat) (p : Pd) : List Pd := if p.ld > 0 then L.set i ⟨p.id, 4, p.ld⟩ else L.eraseIdx i
/-- n go -/
def shrink : Nat → List Pd → List Pd
  | 0, L => L
  | n + 1, L => match pick stays goes L 0 none with
    | none => L
    | some x => shrink n (letgo L x.1 x.2)
theorem letgo_cnt {L : List Pd} {i : Nat} {p : Pd} (h : L[i]? = some p) (hs : stays p = true) : cnt (letgo L i p) + 1 = cnt L := by
  have e : cnt L = cnt (L.take i) + cnt (L.drop (i + 1)) + 1 := by
    conv => lhs; rw [split_at h]
    rw [cnt_append, cnt_cons, hs]; simp; omega
  unfold letgo
  split
  · rw [set_at h, cnt_append, cnt_cons, e]; simp [stays]
  · rw [erase_at, cnt_append, e]
theorem letgo_sum {L : List Pd} {i : Nat} {p : Pd} (h : L[i]? = some p) (hl : 0 ≤ p.ld) : sumL (letgo L i p) = sumL L := by
  have e : sumL L = sumL (L.take i) + (p.ld + sumL (L.drop (i + 1))) := by
    conv => lhs; rw [split_at h]
    rw [sum_append, sum_cons]
  unfold letgo
  split
  · rw [set_at h, sum_append, sum_cons, e]
  · rw [erase_at, sum_append, e]; omega

/-- a fleet: what a pod may do at once, the last number, the pods -/
structure FS where
  most : Int
  last : Int
  L : List Pd
/-- what holds of pods -/
def Okp (most last : Int) (p : Pd) : Prop := 1 ≤ p.id ∧ p.id ≤ last ∧ 1 ≤ p.st ∧ p.st ≤ 4 ∧ 0 ≤ p.ld ∧ p.ld ≤ most ∧ (p.st < 3 → p.ld = 0) ∧ (p.st = 4 → 0 < p.ld)
structure Inv (F : FS) : Prop where
  m : 1 ≤ F.most ∧ F.most ≤ 100
  srt : F.L.Pairwise (fun p q => p.id < q.id)
  bd : ∀ p ∈ F.L, Okp F.most F.last p
  l0 : 0 ≤ F.last
theorem len_gap : ∀ (L : List Pd) (a last : Int), L.Pairwise (fun p q => p.id < q.id) → (∀ p ∈ L, a < p.id ∧ p.id ≤ last) → a ≤ last → (L.length : Int) ≤ last - a
  | [], a, last, _, _, h => by simp; omega
  | p :: L, a, last, hp, hb, h => by
    have h1 := hb p (by simp)
    have := len_gap L p.id last (List.pairwise_cons.1 hp).2 (fun q hq => ⟨(List.pairwise_cons.1 hp).1 q hq, (hb q (by simp [hq])).2⟩) h1.2
    simp only [List.length_cons]
    omega
theorem Inv.len {F : FS} (h : Inv F) : (F.L.length : Int) ≤ F.last := by
  have := len_gap F.L 0 F.last h.srt (fun p hp => by have := h.bd p hp; unfold Okp at this; omega) h.l0
  omega
theorem Inv.at {F : FS} (h : Inv F) {i : Nat} {p : Pd} (hp : F.L[i]? = some p) : Okp F.most F.last p := h.bd p (List.mem_of_getElem? hp)
theorem srt_set {L : List Pd} {i : Nat} {p q : Pd} (h : L.Pairwise (fun p q => p.id < q.id)) (hp : L[i]? = some p) (he : q.id = p.id) : (L.set i q).Pairwise (fun p q => p.id < q.id) := by
  have h1 : (L.map Pd.id).Pairwise (· < ·) := List.pairwise_map.2 h
  have h2 : (L.set i q).map Pd.id = L.map Pd.id := by
    rw [List.map_set, he]
    apply List.ext_getElem?
    intro j
    rw [List.getElem?_set]
    split
    · rename_i e; subst e; split
      · simp [hp]
      · rename_i g; rw [List.getElem?_eq_none (by omega)]
    · rfl
  exact List.pairwise_map.1 (h2 ▸ h1)
theorem Inv.set {F : FS} (h : Inv F) {i : Nat} {p q : Pd} (hp : F.L[i]? = some p) (he : q.id = p.id) (hq : Okp F.most F.last q) : Inv ⟨F.most, F.last, F.L.set i q⟩ := by
  refine ⟨h.m, srt_set h.srt hp he, fun x hx => ?_, h.l0⟩
  rcases mem_set hx with rfl | hx
  · exact hq
  · exact h.bd x hx
theorem Inv.erase {F : FS} (h : Inv F) (i : Nat) : Inv ⟨F.most, F.last, F.L.eraseIdx i⟩ := by
  have hs := List.eraseIdx_sublist F.L i
  exact ⟨h.m, h.srt.sublist hs, fun x hx => h.bd x (hs.subset hx), h.l0⟩
theorem Inv.letgo {F : FS} (h : Inv F) {i : Nat} {p : Pd} (hp : F.L[i]? = some p) : Inv ⟨F.most, F.last, letgo F.L i p⟩ := by
  unfold Flt.letgo
  split
  · refine h.set hp rfl ?_
    have := h.at hp
    unfold Okp at *
    simp only
    omega
  · exact h.erase i
theorem Inv.grow {F : FS} (h : Inv F) (n : Nat) : Inv ⟨F.most, F.last + n, F.L ++ news F.last n⟩ := by
  have h0 := h.l0
  refine ⟨h.m, ?_, fun x hx => ?_, by simp only; omega⟩
  · rw [List.pairwise_append]
    refine ⟨h.srt, ?_, fun a ha b hb => ?_⟩
    · unfold news
      rw [List.pairwise_map]
      refine List.Pairwise.imp ?_ List.pairwise_lt_range
      intro a b hab
      simp only
      omega
    · have h1 := h.bd a ha
      have h2 := news_mem hb
      unfold Okp at h1
      omega
  · have hm := h.m
    unfold Okp
    rcases List.mem_append.1 hx with hx | hx
    · have h1 := h.bd x hx
      unfold Okp at h1
      simp only
      omega
    · have h2 := news_mem hx
      simp only
      omega
theorem shrink_inv {most last : Int} : ∀ (n : Nat) (L : List Pd), Inv ⟨most, last, L⟩ → Inv ⟨most, last, shrink n L⟩
  | 0, L, h => h
  | n + 1, L, h => by
    unfold shrink
    cases hp : pick stays goes L 0 none with
    | none => exact h
    | some x => exact shrink_inv n _ (h.letgo (pick_mem hp).2.1)
theorem cnt_pos {L : List Pd} (h : 0 < cnt L) : ∃ x, pick stays goes L 0 none = some x := by
  refine pick_some L 0 ?_
  have := List.countP_pos_iff.1 h
  obtain ⟨p, hp, hs⟩ := this
  exact ⟨p, hp, hs⟩
theorem shrink_step {n : Nat} {L : List Pd} {x : Nat × Pd} (h : pick stays goes L 0 none = some x) : shrink (n + 1) L = shrink n (letgo L x.1 x.2) := by
  conv => lhs; unfold shrink
  rw [h]
theorem shrink_cnt : ∀ (n : Nat) (L : List Pd), n ≤ cnt L → cnt (shrink n L) = cnt L - n
  | 0, L, h => rfl
  | n + 1, L, h => by
    obtain ⟨x, hx⟩ := cnt_pos (L := L) (by omega)
    rw [shrink_step hx]
    obtain ⟨_, h2, h3⟩ := pick_mem hx
    have := letgo_cnt h2 h3
    rw [shrink_cnt n _ (by omega)]
    omega
theorem shrink_sum {most last : Int} : ∀ (n : Nat) (L : List Pd), Inv ⟨most, last, L⟩ → sumL (shrink n L) = sumL L
  | 0, L, h => rfl
  | n + 1, L, h => by
    unfold shrink
    cases hp : pick stays goes L 0 none with
    | none => rfl
    | some x =>
      have h2 := (pick_mem hp).2.1
      have h3 := h.at h2
      unfold Okp at h3
      rw [shrink_sum n _ (h.letgo h2), letgo_sum h2 (by omega)]

/-- what Scale comes to -/
def scN (L : List Pd) (n : Int) : Nat := (n - cnt L).toNat
def scM (L : List Pd) (n : Int) : Nat := ((cnt L : Int) - n).toNat
def scaleS (F : FS) (n : Int) : FS := ⟨F.most, F.last + scN F.L n, shrink (scM F.L n) (F.L ++ news F.last (scN F.L n))⟩
theorem scale_inv {F : FS} (h : Inv F) (n : Int) : Inv (scaleS F n) := shrink_inv _ _ (h.grow _)
theorem scale_cnt {F : FS} {n : Int} (h : 0 ≤ n) : (cnt (scaleS F n).L : Int) = n := by
  unfold scaleS scN scM
  simp only
  rw [shrink_cnt _ _ (by rw [cnt_append, news_cnt]; omega), cnt_append, news_cnt]
  omega
theorem scale_sum {F : FS} (hI : Inv F) (n : Int) : sumL (scaleS F n).L = sumL F.L := by
  unfold scaleS
  simp only
  rw [shrink_sum _ _ (hI.grow _), sum_append, news_sum]
  omega
end Flt
end Go.Proofs.Ytkflelbpiabcpag
