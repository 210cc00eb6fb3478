/- A message is lent to one at a time: what the law keeps, over lists and functions. -/
import Derived.Test.YtbfnjjdgiihngafQuePlain2
namespace Go.Proofs.Ytbfnjjdgiihngaf
namespace Que
open Go.RowKit

def upd (f : Int → Int) (i x : Int) : Int → Int := fun j => if j = i then x else f j
theorem upd_same (f : Int → Int) (i x : Int) : upd f i x i = x := by simp [upd]
theorem upd_other (f : Int → Int) (i j x : Int) (h : j ≠ i) : upd f i x j = f j := by simp [upd, h]

/-- f tells till when each message was lent last: of one that is taken its time, of another one a time that is over -/
def Lent (L : List M) (f : Int → Int) (now : Int) : Prop := ∀ m ∈ L, (m.tk = true → f m.id = m.till) ∧ (m.tk = false → f m.id ≤ now)
/-- .. and what is taken is taken beyond now -/
def LentN (L : List M) (f : Int → Int) (now : Int) : Prop := ∀ m ∈ L, (m.tk = true → f m.id = m.till ∧ now < m.till) ∧ (m.tk = false → f m.id ≤ now)
theorem LentN.lent {L : List M} {f : Int → Int} {now : Int} (h : LentN L f now) : Lent L f now := fun m hm => ⟨fun t => ((h m hm).1 t).1, (h m hm).2⟩
theorem lent_back {L : List M} {f : Int → Int} {now now' : Int} (h : Lent L f now) (hn : now ≤ now') : LentN (backL now' L) f now' := by
  intro m hm
  obtain ⟨x, hx, rfl⟩ := List.mem_map.1 hm
  have hh := h x hx
  unfold back
  by_cases c : x.tk = true ∧ x.till ≤ now'
  · rw [if_pos c]
    refine ⟨fun t => by simp at t, fun _ => ?_⟩
    have := hh.1 c.1
    show f x.id ≤ now'
    omega
  · rw [if_neg c]
    refine ⟨fun t => ⟨hh.1 t, ?_⟩, fun t => Int.le_trans (hh.2 t) hn⟩
    have : ¬ x.till ≤ now' := fun e => c ⟨t, e⟩
    omega
theorem back_same {L : List M} {f : Int → Int} {now : Int} (h : LentN L f now) : backL now L = L := by
  unfold backL
  conv => rhs; rw [← List.map_id L]
  apply List.map_congr_left
  intro m hm
  unfold back
  rw [if_neg]
  · rfl
  · rintro ⟨t, e⟩
    have := ((h m hm).1 t).2
    omega
theorem mem_set_nd {L : List M} {i : Nat} {m x : M} {b : Int} {c : Bool} (hn : (ids L).Nodup) (hm : L[i]? = some m) (hx : x ∈ L.set i ⟨m.id, b, c⟩) : x = ⟨m.id, b, c⟩ ∨ (x ∈ L ∧ x.id ≠ m.id) := by
  obtain ⟨j, hj⟩ := List.mem_iff_getElem?.1 hx
  rw [List.getElem?_set] at hj
  split at hj
  · split at hj
    · cases hj; exact Or.inl rfl
    · cases hj
  · rename_i hne
    refine Or.inr ⟨List.mem_of_getElem? hj, fun e => hne ?_⟩
    have h1 : (ids L)[i]? = some m.id := by simp [ids, hm]
    have h2 : (ids L)[j]? = some m.id := by simp [ids, hj, e]
    have hi := (List.getElem?_eq_some_iff.1 h1).1
    exact (List.getElem?_inj hi hn).1 (h1.trans h2.symm)
theorem lent_set {L : List M} {f : Int → Int} {now t : Int} {i : Nat} {m : M} (h : LentN L f now) (hn : (ids L).Nodup) (hm : L[i]? = some m) (ht : now < t) : LentN (L.set i ⟨m.id, t, true⟩) (upd f m.id t) now := by
  intro x hx
  rcases mem_set_nd hn hm hx with rfl | ⟨hx, hne⟩
  · exact ⟨fun _ => ⟨upd_same _ _ _, ht⟩, fun c => by simp at c⟩
  · rw [upd_other _ _ _ _ hne]; exact h x hx
theorem mem_erase {L : List M} {i : Nat} {m x : M} (hn : (ids L).Nodup) (hm : L[i]? = some m) (hx : x ∈ L.eraseIdx i) : x ∈ L ∧ x.id ≠ m.id := by
  have hx' : x ∈ L := (List.eraseIdx_sublist L i).subset hx
  refine ⟨hx', fun e => ?_⟩
  have hs := split_at hm
  rw [erase_at] at hx
  have hn2 : (ids (L.take i ++ m :: L.drop (i + 1))).Nodup := hs ▸ hn
  unfold ids at hn2
  rw [List.map_append, List.map_cons, List.nodup_append] at hn2
  obtain ⟨_, hB, hAB⟩ := hn2
  rcases List.mem_append.1 hx with h | h
  · exact hAB x.id (List.mem_map_of_mem h) m.id (by simp) e
  · exact (List.nodup_cons.1 hB).1 (by rw [← e]; exact List.mem_map_of_mem h)
theorem lent_erase {L : List M} {f : Int → Int} {now : Int} {i : Nat} {m : M} (h : LentN L f now) (hn : (ids L).Nodup) (hm : L[i]? = some m) : LentN (L.eraseIdx i) (upd f m.id 0) now := by
  intro x hx
  obtain ⟨h1, h2⟩ := mem_erase hn hm hx
  rw [upd_other _ _ _ _ h2]; exact h x h1
theorem find_nd {L : List M} {i : Nat} {m : M} (hn : (ids L).Nodup) (hm : L[i]? = some m) : L.findIdx? (isId m.id) = some i := by
  refine find_at (fun j hj x hx => ?_) hm (by simp [isId])
  cases hp : isId m.id x with
  | false => rfl
  | true =>
    exfalso
    have e : x.id = m.id := by simpa [isId] using hp
    have h1 : (ids L)[i]? = some m.id := by simp [ids, hm]
    have h2 : (ids L)[j]? = some m.id := by simp [ids, hx, e]
    have hi := (List.getElem?_eq_some_iff.1 h2).1
    have := (List.getElem?_inj hi hn).1 (h2.trans h1.symm)
    omega
theorem find_gone {L : List M} {i : Nat} {m : M} (hn : (ids L).Nodup) (hm : L[i]? = some m) : (L.eraseIdx i).findIdx? (isId m.id) = none := by
  rw [List.findIdx?_eq_none_iff]
  intro x hx
  have := (mem_erase hn hm hx).2
  simpa [isId] using this

/-- what is done is gone: S tells what is done, c how much -/
structure Done (L : List M) (S : Int → Bool) (c N : Nat) : Prop where
  off : ∀ m ∈ L, S m.id = false
  all : L.length + c = N
theorem done_back {L : List M} {S : Int → Bool} {c N : Nat} {now : Int} (h : Done L S c N) : Done (backL now L) S c N := by
  refine ⟨fun m hm => ?_, by rw [backL_len]; exact h.all⟩
  obtain ⟨x, hx, rfl⟩ := List.mem_map.1 hm
  rw [back_id]; exact h.off x hx
theorem done_set {L : List M} {S : Int → Bool} {c N : Nat} {i : Nat} {m : M} {b : Int} {k : Bool} (h : Done L S c N) (hm : L[i]? = some m) : Done (L.set i ⟨m.id, b, k⟩) S c N := by
  refine ⟨fun x hx => ?_, by rw [List.length_set]; exact h.all⟩
  rcases mem_set hx with rfl | hx
  · exact h.off m (List.mem_of_getElem? hm)
  · exact h.off x hx
theorem done_erase {L : List M} {S : Int → Bool} {c N : Nat} {i : Nat} {m : M} (h : Done L S c N) (hn : (ids L).Nodup) (hm : L[i]? = some m) : Done (L.eraseIdx i) (fun j => if j = m.id then true else S j) (c + 1) N := by
  have hi : i < L.length := (List.getElem?_eq_some_iff.1 hm).1
  refine ⟨fun x hx => ?_, by rw [List.length_eraseIdx_of_lt hi]; have := h.all; omega⟩
  obtain ⟨h1, h2⟩ := mem_erase hn hm hx
  show (if x.id = m.id then true else S x.id) = false
  rw [if_neg h2]; exact h.off x h1

theorem all_taken {L : List M} {f : Int → Int} {now : Int} (h : LentN L f now) (hf : L.findIdx? free = none) : ∀ id ∈ ids L, now < f id := by
  intro id hid
  obtain ⟨m, hm, rfl⟩ := List.mem_map.1 hid
  rw [List.findIdx?_eq_none_iff] at hf
  have ht : m.tk = true := by have := hf m hm; simpa [free] using this
  have := (h m hm).1 ht
  omega
theorem free_time {L : List M} {f : Int → Int} {now : Int} {i : Nat} {m : M} (h : LentN L f now) (hf : L.findIdx? free = some i) (hm : L[i]? = some m) : f m.id ≤ now := by
  obtain ⟨m', hm', hp⟩ := find_get hf
  rw [hm] at hm'; cases hm'
  exact (h m (List.mem_of_getElem? hm)).2 (by simpa [free] using hp)

/-- one key more is struck off: at most one number more -/
theorem count_strike (p : Int → Bool) (x : Int) : ∀ l : List Int, l.Nodup → l.countP (fun i => p i || decide (i = x)) ≤ l.countP p + (if x ∈ l then 1 else 0)
  | [], _ => by simp
  | a :: l, h => by
    have hc := List.nodup_cons.1 h
    have ih := count_strike p x l hc.2
    rw [List.countP_cons, List.countP_cons]
    by_cases e : a = x
    · subst e
      have : ¬ a ∈ l := hc.1
      simp only [this, if_false, Nat.add_zero] at ih
      simp
      cases p a <;> simp <;> omega
    · have e' : ¬ x = a := fun h => e h.symm
      simp [e, e'] at ih ⊢
      omega

/-- the beginning: message 1 is lent till 5, n more have come -/
def start (n : Nat) : List M := [⟨1, 5, true⟩, ⟨2, 0, false⟩] ++ news 2 n
theorem start_eq (n : Nat) : (backL 0 (news 0 2)).set 0 ⟨1, 0 + 5, true⟩ ++ news 2 n = start n := rfl
theorem start_find : (backL 0 (news 0 2)).findIdx? free = some 0 := by decide
theorem start_get : (backL 0 (news 0 2))[0]? = some ⟨1, 0, false⟩ := rfl
theorem start_lent (n : Nat) : Lent (start n) (upd (fun _ => 0) 1 5) 1 := by
  intro m hm
  unfold start at hm
  rcases List.mem_append.1 hm with h | h
  · simp at h
    rcases h with rfl | rfl
    · exact ⟨fun _ => rfl, fun t => by simp at t⟩
    · exact ⟨fun t => by simp at t, fun _ => by simp [upd]⟩
  · unfold news at h
    obtain ⟨i, _, rfl⟩ := List.mem_map.1 h
    refine ⟨fun t => by simp at t, fun _ => ?_⟩
    show upd (fun _ => 0) 1 5 (2 + 1 + (i : Int)) ≤ 1
    rw [upd_other _ _ _ _ (by omega)]; omega
theorem start_done (n : Nat) : Done (start n) (fun _ => false) 0 (n + 2) := ⟨fun _ _ => rfl, by simp [start, news_len]⟩
theorem inv_two : Inv (news 0 2) 2 := by have := (Inv.nil).put (n := 2) (by simp); simpa using this
theorem start_inv (n : Nat) (h : n ≤ 190) : Inv (start n) (2 + n) := by
  have h1 := (inv_two.back 0).set start_get (b := 0 + 5) (c := true) (by omega)
  have h2 := h1.put (n := n) (by simp [backL, news]; omega)
  exact h2
end Que
end Go.Proofs.Ytbfnjjdgiihngaf
