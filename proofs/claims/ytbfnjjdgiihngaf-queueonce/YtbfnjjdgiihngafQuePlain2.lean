/- What a queue does, over lists: plain mathematics. -/
import Derived.Test.YtbfnjjdgiihngafQuePlain
namespace Go.Proofs.Ytbfnjjdgiihngaf
namespace Que
open Go.RowKit

theorem find_at {p : M → Bool} {L : List M} {k : Nat} {m : M} (h : ∀ j, j < k → ∀ x, L[j]? = some x → p x = false) (hk : L[k]? = some m) (hp : p m = true) : L.findIdx? p = some k := by
  obtain ⟨hlt, hm⟩ := List.getElem?_eq_some_iff.1 hk
  rw [List.findIdx?_eq_some_iff_getElem]
  refine ⟨hlt, by rw [hm]; exact hp, fun j hj => ?_⟩
  have := h j hj L[j] (by simp)
  simp [this]
theorem find_no {p : M → Bool} {L : List M} (h : ∀ j, j < L.length → ∀ x, L[j]? = some x → p x = false) : L.findIdx? p = none := by
  rw [List.findIdx?_eq_none_iff]
  intro x hx
  obtain ⟨j, hj⟩ := List.mem_iff_getElem?.1 hx
  exact h j (List.getElem?_eq_some_iff.1 hj).1 x hj
theorem find_get {p : M → Bool} {L : List M} {k : Nat} (h : L.findIdx? p = some k) : ∃ m, L[k]? = some m ∧ p m = true := by
  obtain ⟨hlt, hm, _⟩ := List.findIdx?_eq_some_iff_getElem.1 h
  exact ⟨L[k], by simp, hm⟩
def idxV : Option Nat → Int
  | none => -1
  | some k => k
theorem idxV_some (k : Nat) : idxV (some k) = k := rfl

def free (m : M) : Bool := !m.tk
def isId (id : Int) (m : M) : Bool := m.id == id
def depth (L : List M) : Nat := L.countP free
theorem depth_step {L : List M} {k : Nat} {m : M} (h : L[k]? = some m) : depth (L.take (k + 1)) = depth (L.take k) + if free m then 1 else 0 := by
  unfold depth
  rw [List.take_add_one, h, List.countP_append]
  simp [List.countP_cons]
theorem depth_le (L : List M) : depth L ≤ L.length := List.countP_le_length

/-- the messages that come: n behind the number last -/
def news (last : Int) (n : Nat) : List M := (List.range n).map fun (i : Nat) => ⟨last + 1 + (i : Int), 0, false⟩
theorem news_len (last : Int) (n : Nat) : (news last n).length = n := by simp [news]
theorem news_step (last : Int) (n : Nat) : news last n ++ [⟨last + 1 + (n : Int), 0, false⟩] = news last (n + 1) := by
  unfold news; rw [List.range_succ, List.map_append]; rfl
theorem news_zero (last : Int) : news last 0 = [] := rfl

/-- what is left behind Ack, by the document -/
def keepP (id : Int) (m : M) : Bool := !(m.id == id && m.tk)
def ackE (id : Int) (L : List M) : Int := L.foldl (fun e m => if m.id == id then (if m.tk then 0 else 7) else e) 4
def ackL (id : Int) (L : List M) : List M := L.filter (keepP id)
theorem ackE_step {id : Int} {L : List M} {k : Nat} {m : M} (h : L[k]? = some m) : ackE id (L.take (k + 1)) = if m.id == id then (if m.tk then 0 else 7) else ackE id (L.take k) := by
  unfold ackE
  rw [List.take_add_one, h, List.foldl_append]
  simp
theorem ackL_step {id : Int} {L : List M} {k : Nat} {m : M} (h : L[k]? = some m) : ackL id (L.take (k + 1)) = ackL id (L.take k) ++ if keepP id m then [m] else [] := by
  unfold ackL
  rw [List.take_add_one, h, List.filter_append]
  congr 1
  cases hk : keepP id m <;> simp [hk]
theorem ackL_le (id : Int) (L : List M) : (ackL id L).length ≤ L.length := List.length_filter_le _ _

def ids (L : List M) : List Int := L.map M.id
theorem ids_back (now : Int) (L : List M) : ids (backL now L) = ids L := by
  unfold ids backL
  rw [List.map_map]
  congr 1
  funext m
  exact back_id now m

theorem ackE_no {id : Int} : ∀ {L : List M} (e : Int), (∀ m ∈ L, m.id ≠ id) → L.foldl (fun e m => if m.id == id then (if m.tk then 0 else 7) else e) e = e
  | [], e, _ => rfl
  | m :: L, e, h => by
    have h1 : (m.id == id) = false := by simpa using h m (by simp)
    rw [List.foldl_cons, h1]
    simp only [Bool.false_eq_true, if_false]
    exact ackE_no e (fun x hx => h x (by simp [hx]))
theorem ackL_no {id : Int} {L : List M} (h : ∀ m ∈ L, m.id ≠ id) : ackL id L = L := by
  unfold ackL
  rw [List.filter_eq_self]
  intro m hm
  have : (m.id == id) = false := by simpa using h m hm
  simp [keepP, this]
theorem ack_none {id : Int} {L : List M} (h : L.findIdx? (isId id) = none) : ackE id L = 4 ∧ ackL id L = L := by
  rw [List.findIdx?_eq_none_iff] at h
  have h' : ∀ m ∈ L, m.id ≠ id := fun m hm e => by have := h m hm; simp [isId, e] at this
  exact ⟨ackE_no 4 h', ackL_no h'⟩
theorem split_at {L : List M} {i : Nat} {m : M} (h : L[i]? = some m) : L = L.take i ++ m :: L.drop (i + 1) := by
  obtain ⟨hlt, hm⟩ := List.getElem?_eq_some_iff.1 h
  conv => lhs; rw [← List.take_append_drop i L]
  rw [List.drop_eq_getElem_cons hlt, hm]
theorem erase_at {L : List M} {i : Nat} : L.eraseIdx i = L.take i ++ L.drop (i + 1) := List.eraseIdx_eq_take_drop_succ ..
theorem ack_some {id : Int} {L : List M} {i : Nat} {m : M} (hn : (ids L).Nodup) (h : L.findIdx? (isId id) = some i) (hm : L[i]? = some m) :
    (m.tk = true → ackE id L = 0 ∧ ackL id L = L.eraseIdx i) ∧ (m.tk = false → ackE id L = 7 ∧ ackL id L = L) := by
  obtain ⟨m', hm', hp⟩ := find_get h
  rw [hm] at hm'; cases hm'
  have hid : m.id = id := by simpa [isId] using hp
  have hs := split_at hm
  have hn2 : (ids (L.take i ++ m :: L.drop (i + 1))).Nodup := hs ▸ hn
  unfold ids at hn2
  rw [List.map_append, List.map_cons, List.nodup_append] at hn2
  obtain ⟨_, hB, hAB⟩ := hn2
  have hA : ∀ x ∈ L.take i, x.id ≠ id := fun x hx e => hAB x.id (List.mem_map_of_mem hx) m.id (by simp) (by rw [e, hid])
  have hD : ∀ x ∈ L.drop (i + 1), x.id ≠ id := fun x hx e => by
    have := (List.nodup_cons.1 hB).1
    exact this (by rw [hid, ← e]; exact List.mem_map_of_mem hx)
  have e1 : ackE id L = if m.tk then 0 else 7 := by
    unfold ackE
    conv => lhs; rw [hs]
    rw [List.foldl_append, List.foldl_cons, ackE_no 4 hA, ackE_no _ hD]
    simp [hid]
  have e2 : ackL id L = L.take i ++ (if keepP id m then [m] else []) ++ L.drop (i + 1) := by
    conv => lhs; rw [hs]
    have a1 := ackL_no hA
    have a2 := ackL_no hD
    unfold ackL at a1 a2 ⊢
    rw [List.filter_append, List.filter_cons, a1, a2]
    split <;> simp
  constructor
  · intro ht
    rw [e1, e2, ht, erase_at]
    simp [keepP, hid, ht]
  · intro ht
    rw [e1, e2, ht]
    refine ⟨rfl, ?_⟩
    conv => rhs; rw [hs]
    simp [keepP, hid, ht]

/-- what holds of a queue's messages: numbers from 1 to last, each once; as many as there may be; times within bounds -/
structure Inv (L : List M) (last : Int) : Prop where
  nd : (ids L).Nodup
  len : L.length ≤ 200
  bd : ∀ m ∈ L, 1 ≤ m.id ∧ m.id ≤ last ∧ 0 ≤ m.till ∧ m.till ≤ 1099511727776
  l0 : 0 ≤ last
theorem Inv.nil : Inv [] 0 := ⟨by simp [ids], by simp, by simp, by omega⟩
theorem Inv.back {L : List M} {last : Int} (h : Inv L last) (now : Int) : Inv (backL now L) last := by
  refine ⟨by rw [ids_back]; exact h.nd, by rw [backL_len]; exact h.len, fun m hm => ?_, h.l0⟩
  obtain ⟨x, hx, rfl⟩ := List.mem_map.1 hm
  have := h.bd x hx
  unfold Que.back
  split
  · simp only; omega
  · omega
theorem mem_set {L : List M} {i : Nat} {m x : M} (h : x ∈ L.set i m) : x = m ∨ x ∈ L := by
  rcases List.mem_or_eq_of_mem_set h with h | h
  · exact Or.inr h
  · exact Or.inl h
theorem ids_set {L : List M} {i : Nat} {m : M} {b : Int} {c : Bool} (h : L[i]? = some m) : ids (L.set i ⟨m.id, b, c⟩) = ids L := by
  unfold ids
  rw [List.map_set]
  apply List.ext_getElem?
  intro j
  rw [List.getElem?_set]
  split
  · rename_i e; subst e; split
    · simp [h]
    · rename_i g; rw [List.getElem?_eq_none (by omega)]
  · rfl
theorem Inv.set {L : List M} {last : Int} (h : Inv L last) {i : Nat} {m : M} {b : Int} {c : Bool} (hm : L[i]? = some m) (hb : 0 ≤ b ∧ b ≤ 1099511727776) : Inv (L.set i ⟨m.id, b, c⟩) last := by
  refine ⟨by rw [ids_set hm]; exact h.nd, by simpa using h.len, fun x hx => ?_, h.l0⟩
  rcases mem_set hx with rfl | hx
  · have := h.bd m (List.mem_of_getElem? hm)
    simp only; omega
  · exact h.bd x hx
theorem Inv.erase {L : List M} {last : Int} (h : Inv L last) (i : Nat) : Inv (L.eraseIdx i) last := by
  have hs := List.eraseIdx_sublist L i
  refine ⟨?_, Nat.le_trans hs.length_le h.len, fun m hm => h.bd m (hs.subset hm), h.l0⟩
  exact (hs.map M.id).nodup h.nd
theorem Inv.put {L : List M} {last : Int} (h : Inv L last) {n : Nat} (hn : L.length + n ≤ 200) : Inv (L ++ news last n) (last + n) := by
  have hid : ids (news last n) = (List.range n).map fun (i : Nat) => last + 1 + (i : Int) := by simp [ids, news, Function.comp_def]
  have h0 := h.l0
  refine ⟨?_, by rw [List.length_append, news_len]; exact hn, fun m hm => ?_, by omega⟩
  · have : ids (L ++ news last n) = ids L ++ ids (news last n) := by simp [ids]
    rw [this, List.nodup_append]
    refine ⟨h.nd, ?_, fun a ha b hb e => ?_⟩
    · rw [hid]
      refine List.Pairwise.map _ (fun a b hab => ?_) List.nodup_range
      omega
    · rw [hid] at hb
      obtain ⟨i, _, rfl⟩ := List.mem_map.1 hb
      obtain ⟨m, hm, rfl⟩ := List.mem_map.1 ha
      have := h.bd m hm
      omega
  · rcases List.mem_append.1 hm with hm | hm
    · have := h.bd m hm; omega
    · unfold news at hm
      obtain ⟨i, hi, rfl⟩ := List.mem_map.1 hm
      have := List.mem_range.1 hi
      simp only; omega
end Que
end Go.Proofs.Ytbfnjjdgiihngaf
