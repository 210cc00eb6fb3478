/- A queue's messages as lists: plain mathematics. -/
import Derived.WalkKit
import Derived.Below
namespace Go.Proofs.Ytbfnjjdgiihngaf
namespace Que
open Go.RowKit

/-- a message: its number, till when, whether it is taken -/
structure M where
  id : Int
  till : Int
  tk : Bool
def cel (m : M) : List Value := [.int .i64 m.id, .int .i64 m.till, .bool m.tk]
def cels (L : List M) : List Value := L.flatMap cel
theorem cels_nil : cels [] = [] := rfl
theorem cels_cons (m : M) (L : List M) : cels (m :: L) = .int .i64 m.id :: .int .i64 m.till :: .bool m.tk :: cels L := rfl
theorem cels_append (A B : List M) : cels (A ++ B) = cels A ++ cels B := by simp [cels, List.flatMap_append]
theorem cels_len : ∀ L : List M, (cels L).length = L.length * 3
  | [] => rfl
  | m :: L => by rw [cels_cons]; simp only [List.length_cons]; rw [cels_len L]; omega
theorem cels_get : ∀ (L : List M) (i : Nat) (m : M), L[i]? = some m → (cels L)[i * 3]? = some (.int .i64 m.id) ∧ (cels L)[i * 3 + 1]? = some (.int .i64 m.till) ∧ (cels L)[i * 3 + 2]? = some (.bool m.tk)
  | [], i, m, h => by simp at h
  | x :: L, 0, m, h => by simp at h; subst h; simp [cels_cons]
  | x :: L, i + 1, m, h => by
    have := cels_get L i m (by simpa using h)
    rw [cels_cons, show (i + 1) * 3 = i * 3 + 1 + 1 + 1 by omega]
    simpa using this
theorem cels_set : ∀ (L : List M) (i : Nat) (a b : Int) (c : Bool), i < L.length → cels (L.set i ⟨a, b, c⟩) = (((cels L).set (i * 3) (.int .i64 a)).set (i * 3 + 1) (.int .i64 b)).set (i * 3 + 2) (.bool c)
  | [], i, a, b, c, h => by simp at h
  | x :: L, 0, a, b, c, h => by simp [cels_cons]
  | x :: L, i + 1, a, b, c, h => by
    rw [List.set_cons_succ, cels_cons, cels_cons, cels_set L i a b c (by simpa using h), show (i + 1) * 3 = i * 3 + 1 + 1 + 1 by omega]
    simp
theorem cels_set2 (L : List M) (i : Nat) (m : M) (b : Int) (c : Bool) (h : L[i]? = some m) : cels (L.set i ⟨m.id, b, c⟩) = ((cels L).set (i * 3 + 2) (.bool c)).set (i * 3 + 1) (.int .i64 b) := by
  have hi : i < L.length := (List.getElem?_eq_some_iff.1 h).1
  rw [cels_set L i m.id b c hi]
  have h0 := (cels_get L i m h).1
  have e0 : (cels L).set (i * 3) (.int .i64 m.id) = cels L := by
    apply List.ext_getElem?
    intro j
    rw [List.getElem?_set]
    split
    · rename_i e; subst e; split
      · exact h0.symm
      · rename_i g; rw [List.getElem?_eq_none (by omega)]
    · rfl
  rw [e0, List.set_comm _ _ (by omega)]
theorem cels_take : ∀ (L : List M) (i : Nat), cels (L.take i) = (cels L).take (i * 3)
  | [], i => by simp [cels]
  | x :: L, 0 => by simp [cels]
  | x :: L, i + 1 => by
    rw [List.take_succ_cons, cels_cons, cels_cons, cels_take L i, show (i + 1) * 3 = i * 3 + 1 + 1 + 1 by omega]
    simp
theorem cels_drop : ∀ (L : List M) (i : Nat), cels (L.drop i) = (cels L).drop (i * 3)
  | [], i => by simp [cels]
  | x :: L, 0 => by simp
  | x :: L, i + 1 => by
    rw [List.drop_succ_cons, cels_cons, cels_drop L i, show (i + 1) * 3 = i * 3 + 1 + 1 + 1 by omega]
    simp
theorem cels_one (L : List M) : ∀ u ∈ cels L, u.oneCell' = true := by
  intro u hu
  simp only [cels, List.mem_flatMap] at hu
  obtain ⟨m, _, hm⟩ := hu
  simp [cel] at hm
  rcases hm with rfl | rfl | rfl <;> rfl

/-- a message that is given back at its time -/
def back (now : Int) (m : M) : M := if m.tk = true ∧ m.till ≤ now then ⟨m.id, 0, false⟩ else m
def backL (now : Int) (L : List M) : List M := L.map (back now)
theorem backL_len (now : Int) (L : List M) : (backL now L).length = L.length := by simp [backL]
theorem back_id (now : Int) (m : M) : (back now m).id = m.id := by unfold back; split <;> rfl
/-- k messages have been looked at -/
def half (f : M → M) (L : List M) (k : Nat) : List M := (L.take k).map f ++ L.drop k
theorem half_len (f : M → M) (L : List M) (k : Nat) : (half f L k).length = L.length := by simp [half]; omega
theorem half_zero (f : M → M) (L : List M) : half f L 0 = L := by simp [half]
theorem half_all (f : M → M) (L : List M) : half f L L.length = L.map f := by simp [half]
theorem half_get (f : M → M) (L : List M) (k : Nat) (m : M) (h : L[k]? = some m) : (half f L k)[k]? = some m := by
  have hk : k < L.length := (List.getElem?_eq_some_iff.1 h).1
  have hl : ((L.take k).map f).length = k := by simp; omega
  unfold half
  rw [List.getElem?_append_right (by omega), hl, Nat.sub_self, List.getElem?_drop]
  simpa using h
theorem half_step (f : M → M) (L : List M) (k : Nat) (m : M) (h : L[k]? = some m) : (half f L k).set k (f m) = half f L (k + 1) := by
  have hk : k < L.length := (List.getElem?_eq_some_iff.1 h).1
  have hl : ((L.take k).map f).length = k := by simp; omega
  have hd : L.drop k = m :: L.drop (k + 1) := by
    rw [List.drop_eq_getElem_cons hk]
    rw [List.getElem?_eq_getElem hk] at h
    cases h; rfl
  unfold half
  rw [List.set_append_right _ _ (by omega), hl, Nat.sub_self, hd, List.set_cons_zero, List.take_add_one, h]
  simp
theorem half_same (f : M → M) (L : List M) (k : Nat) (m : M) (h : L[k]? = some m) (hf : f m = m) : half f L k = half f L (k + 1) := by
  rw [← half_step f L k m h, hf]
  have := half_get f L k m h
  apply List.ext_getElem?
  intro j
  rw [List.getElem?_set]
  split
  · rename_i e; subst e; split
    · exact this
    · rename_i g; rw [List.getElem?_eq_none (by omega)]
  · rfl
end Que
end Go.Proofs.Ytbfnjjdgiihngaf
