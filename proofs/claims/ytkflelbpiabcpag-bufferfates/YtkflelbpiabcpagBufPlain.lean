
/- A buffer's requests as a list: plain mathematics. -/
import Derived.Test.YtkflelbpiabcpagFltPlain
namespace Go.Proofs.Ytkflelbpiabcpag
namespace Buf
open Go.RowKit Rw Rec

/-- a request: its number, its source, till when it may wait, its fate, its pod -/
structure Rq where
  id : Int
  src : Int
  til : Int
  fat : Int
  pod : Int
def rcel (r : Rq) : List Value := [.int .i64 r.id, .int .i64 r.src, .int .i64 r.til, .int .i64 r.fat, .int .i64 r.pod]
def rK : Kd Rq := ⟨rcel, 5, fun _ => rfl, fun m u hu => by simp [rcel] at hu; rcases hu with rfl | rfl | rfl | rfl | rfl <;> rfl, by decide⟩
/-- numbers, a cell each -/
def iK : Kd Int := ⟨fun n => [.int .i64 n], 1, fun _ => rfl, fun m u hu => by simp at hu; subst hu; rfl, by decide⟩

/-- of a source (-1: any), with a fate -/
def isOf (s f : Int) (r : Rq) : Bool := (s == -1 || r.src == s) && r.fat == f
def many (s f : Int) (L : List Rq) : Nat := L.countP (isOf s f)
theorem many_step {s f : Int} {L : List Rq} {k : Nat} {r : Rq} (h : L[k]? = some r) : many s f (L.take (k + 1)) = many s f (L.take k) + if isOf s f r then 1 else 0 := by
  unfold many
  rw [List.take_add_one, h, List.countP_append]
  simp [List.countP_cons]
theorem many_le (s f : Int) (L : List Rq) : many s f L ≤ L.length := List.countP_le_length

/-- what holds of the requests: numbers by place, as many as there may be, within bounds -/
def Okr (r : Rq) : Prop := 0 ≤ r.src ∧ r.src ≤ 5 ∧ 1 ≤ r.til ∧ r.til ≤ 1099511727776 ∧ 1 ≤ r.fat ∧ r.fat ≤ 5
structure Inv (L : List Rq) : Prop where
  len : L.length ≤ 200
  num : ∀ (i : Nat) (r : Rq), L[i]? = some r → r.id = (i : Int) + 1
  bd : ∀ r ∈ L, Okr r
theorem Inv.nil : Inv [] := ⟨by simp, by simp, by simp⟩
theorem Inv.set {L : List Rq} (h : Inv L) {i : Nat} {r q : Rq} (hr : L[i]? = some r) (hi : q.id = r.id) (hq : Okr q) : Inv (L.set i q) := by
  refine ⟨by simpa using h.len, fun j x hx => ?_, fun x hx => ?_⟩
  · by_cases e : i = j
    · subst e
      have hl : i < L.length := (List.getElem?_eq_some_iff.1 hr).1
      rw [List.getElem?_set_self hl] at hx
      cases hx
      rw [hi]; exact h.num i r hr
    · rw [List.getElem?_set_ne e] at hx; exact h.num j x hx
  · rcases Flt.mem_set hx with rfl | hx
    · exact hq
    · exact h.bd x hx

/-- Ask -/
def askE (L : List Rq) (now s t : Int) : Int :=
  if ¬ ((0 ≤ now ∧ now ≤ 1099511627776) ∧ (1 ≤ t ∧ t ≤ 100000)) then 1
  else if ¬ (0 ≤ s ∧ s ≤ 5) then 4
  else if 20 ≤ many s 1 L ∨ 60 ≤ many (-1) 1 L ∨ 200 ≤ L.length then 6 else 0
def askN (L : List Rq) (now s t : Int) : Int := if askE L now s t = 0 then (L.length : Int) + 1 else 0
def askL (L : List Rq) (now s t : Int) : List Rq := if askE L now s t = 0 then L ++ [⟨(L.length : Int) + 1, s, now + t, 1, 0⟩] else L
theorem ask_inv {L : List Rq} (h : Inv L) (now s t : Int) : Inv (askL L now s t) := by
  unfold askL
  split
  · rename_i he
    unfold askE at he
    split at he
    · cases he
    · split at he
      · cases he
      · split at he
        · cases he
        · rename_i h1 h2 h3
          refine ⟨by rw [List.length_append]; simp; omega, fun i r hr => ?_, fun r hr => ?_⟩
          · by_cases hi : i < L.length
            · rw [List.getElem?_append_left hi] at hr; exact h.num i r hr
            · rw [List.getElem?_append_right (by omega)] at hr
              have : i - L.length = 0 := by
                have := (List.getElem?_eq_some_iff.1 hr).1
                simp at this; omega
              rw [this] at hr
              simp at hr
              subst hr
              simp only
              omega
          · rcases List.mem_append.1 hr with hr | hr
            · exact h.bd r hr
            · simp at hr; subst hr
              unfold Okr
              simp only
              omega
  · exact h

/-- fates that change, by a test, and the numbers of those whose fate does -/
def turnF (p : Rq → Bool) (f : Int) (r : Rq) : Rq := if p r then ⟨r.id, r.src, r.til, f, r.pod⟩ else r
def turnL (p : Rq → Bool) (f : Int) (L : List Rq) : List Rq := L.map (turnF p f)
def turnI (p : Rq → Bool) (L : List Rq) : List Int := (L.filter p).map Rq.id
/-- k of them have been looked at -/
def halfL (p : Rq → Bool) (f : Int) (L : List Rq) (k : Nat) : List Rq := turnL p f (L.take k) ++ L.drop k
theorem halfL_len (p : Rq → Bool) (f : Int) (L : List Rq) (k : Nat) : (halfL p f L k).length = L.length := by simp [halfL, turnL]; omega
theorem halfL_zero (p : Rq → Bool) (f : Int) (L : List Rq) : halfL p f L 0 = L := by simp [halfL, turnL]
theorem halfL_all (p : Rq → Bool) (f : Int) (L : List Rq) : halfL p f L L.length = turnL p f L := by simp [halfL]
theorem halfL_get {p : Rq → Bool} {f : Int} {L : List Rq} {k : Nat} {r : Rq} (h : L[k]? = some r) : (halfL p f L k)[k]? = some r := by
  have hk : k < L.length := (List.getElem?_eq_some_iff.1 h).1
  have hl : (turnL p f (L.take k)).length = k := by simp [turnL]; omega
  unfold halfL
  rw [List.getElem?_append_right (by omega), hl, Nat.sub_self, List.getElem?_drop]
  simpa using h
theorem halfL_step {p : Rq → Bool} {f : Int} {L : List Rq} {k : Nat} {r : Rq} (h : L[k]? = some r) : (halfL p f L k).set k (turnF p f r) = halfL p f L (k + 1) := by
  have hk : k < L.length := (List.getElem?_eq_some_iff.1 h).1
  have hl : (turnL p f (L.take k)).length = k := by simp [turnL]; omega
  have hd : L.drop k = r :: L.drop (k + 1) := by
    rw [List.drop_eq_getElem_cons hk]
    rw [List.getElem?_eq_getElem hk] at h
    cases h; rfl
  unfold halfL
  rw [List.set_append_right _ _ (by omega), hl, Nat.sub_self, hd, List.set_cons_zero]
  unfold turnL
  rw [List.take_add_one, h]
  simp
theorem halfL_same {p : Rq → Bool} {f : Int} {L : List Rq} {k : Nat} {r : Rq} (h : L[k]? = some r) (hp : p r = false) : halfL p f L k = halfL p f L (k + 1) := by
  rw [← halfL_step h]
  have e : turnF p f r = r := by unfold turnF; rw [hp]; rfl
  rw [e]
  have := halfL_get (p := p) (f := f) h
  apply List.ext_getElem?
  intro j
  rw [List.getElem?_set]
  split
  · rename_i e; subst e; split
    · exact this
    · rename_i g; rw [List.getElem?_eq_none (by omega)]
  · rfl
theorem turnI_step {p : Rq → Bool} {L : List Rq} {k : Nat} {r : Rq} (h : L[k]? = some r) : turnI p (L.take (k + 1)) = turnI p (L.take k) ++ if p r then [r.id] else [] := by
  unfold turnI
  rw [List.take_add_one, h, List.filter_append, List.map_append]
  congr 1
  cases hk : p r <;> simp [hk]
theorem turnI_le (p : Rq → Bool) (L : List Rq) : (turnI p L).length ≤ L.length := by unfold turnI; rw [List.length_map]; exact List.length_filter_le _ _
theorem turn_inv {L : List Rq} (h : Inv L) (p : Rq → Bool) (f : Int) (hf : 1 ≤ f ∧ f ≤ 5) : Inv (turnL p f L) := by
  refine ⟨by simpa [turnL] using h.len, fun i r hr => ?_, fun r hr => ?_⟩
  · unfold turnL at hr
    rw [List.getElem?_map] at hr
    cases hx : L[i]? with
    | none => rw [hx] at hr; cases hr
    | some x =>
      rw [hx] at hr
      simp at hr
      subst hr
      have := h.num i x hx
      unfold turnF
      split <;> simpa using this
  · obtain ⟨x, hx, rfl⟩ := List.mem_map.1 hr
    have := h.bd x hx
    unfold turnF
    split
    · unfold Okr at *; simp only; omega
    · exact this
def isLate (now : Int) (r : Rq) : Bool := r.fat == 1 && decide (r.til ≤ now)
def isAt (pod : Int) (r : Rq) : Bool := r.fat == 2 && r.pod == pod

/-- Next: may it be run now? -/
def mayRun (L : List Rq) (r : Rq) : Bool := r.fat == 1 && many r.src 2 L == 0
/-- Run -/
def runOk (L : List Rq) (i : Nat) (r : Rq) : Bool := mayRun L r && (L.take i).all (fun x => !(x.src == r.src && x.fat == 1))
/-- the request with a number -/
def reqAt (L : List Rq) (id : Int) : Option Rq := if 1 ≤ id then L[(id - 1).toNat]? else none
theorem reqAt_no {L : List Rq} {id : Int} (h : ¬ (1 ≤ id ∧ id ≤ L.length)) : reqAt L id = none := by
  unfold reqAt
  split
  · rw [List.getElem?_eq_none]; omega
  · rfl
theorem reqAt_yes {L : List Rq} {i : Nat} {r : Rq} (h : L[i]? = some r) : reqAt L ((i : Int) + 1) = some r := by
  unfold reqAt
  rw [if_pos (by omega), show ((i : Int) + 1 - 1).toNat = i by omega]
  exact h
theorem id_nat {n : Nat} {id : Int} (h : 1 ≤ id ∧ id ≤ n) : ∃ i : Nat, id = (i : Int) + 1 ∧ i < n := ⟨(id - 1).toNat, by omega, by omega⟩
/-- Done -/
def doneE (L : List Rq) (id : Int) : Int := match reqAt L id with
  | none => 4
  | some r => if r.fat = 2 then 0 else 7
def doneN (L : List Rq) (id : Int) : Int := match reqAt L id with
  | none => 0
  | some r => if r.fat = 2 then r.pod else 0
def doneL (L : List Rq) (id : Int) : List Rq := match reqAt L id with
  | none => L
  | some r => if r.fat = 2 then L.set (id - 1).toNat ⟨r.id, r.src, r.til, 3, r.pod⟩ else L
theorem done_no {L : List Rq} {id : Int} (h : ¬ (1 ≤ id ∧ id ≤ L.length)) : doneE L id = 4 ∧ doneN L id = 0 ∧ doneL L id = L := by simp [doneE, doneN, doneL, reqAt_no h]
theorem done_state {L : List Rq} {i : Nat} {r : Rq} (h : L[i]? = some r) (hf : r.fat ≠ 2) : doneE L ((i : Int) + 1) = 7 ∧ doneN L ((i : Int) + 1) = 0 ∧ doneL L ((i : Int) + 1) = L := by simp [doneE, doneN, doneL, reqAt_yes h, hf]
theorem done_ok {L : List Rq} {i : Nat} {r : Rq} (h : L[i]? = some r) (hf : r.fat = 2) : doneE L ((i : Int) + 1) = 0 ∧ doneN L ((i : Int) + 1) = r.pod ∧ doneL L ((i : Int) + 1) = L.set i ⟨r.id, r.src, r.til, 3, r.pod⟩ := by
  simp [doneE, doneN, doneL, reqAt_yes h, hf]
theorem done_inv {L : List Rq} (h : Inv L) (id : Int) : Inv (doneL L id) := by
  by_cases hi : 1 ≤ id ∧ id ≤ L.length
  · obtain ⟨i, rfl, hl⟩ := id_nat hi
    obtain ⟨r, hr⟩ : ∃ r, L[i]? = some r := ⟨L[i], by simp [hl]⟩
    by_cases hf : r.fat = 2
    · rw [(done_ok hr hf).2.2]
      refine h.set hr rfl ?_
      have := h.bd r (List.mem_of_getElem? hr)
      unfold Okr at *; simp only; omega
    · rw [(done_state hr hf).2.2]; exact h
  · rw [(done_no hi).2.2]; exact h
/-- Run -/
def runE (L : List Rq) (id : Int) : Int := match reqAt L id with
  | none => 4
  | some r => if runOk L (id - 1).toNat r then 0 else 7
def runL (L : List Rq) (id pod : Int) : List Rq := match reqAt L id with
  | none => L
  | some r => if runOk L (id - 1).toNat r then L.set (id - 1).toNat ⟨r.id, r.src, r.til, 2, pod⟩ else L
theorem run_no {L : List Rq} {id pod : Int} (h : ¬ (1 ≤ id ∧ id ≤ L.length)) : runE L id = 4 ∧ runL L id pod = L := by simp [runE, runL, reqAt_no h]
theorem run_state {L : List Rq} {i : Nat} {r : Rq} {pod : Int} (h : L[i]? = some r) (hf : runOk L i r = false) : runE L ((i : Int) + 1) = 7 ∧ runL L ((i : Int) + 1) pod = L := by simp [runE, runL, reqAt_yes h, hf]
theorem run_ok {L : List Rq} {i : Nat} {r : Rq} {pod : Int} (h : L[i]? = some r) (hf : runOk L i r = true) : runE L ((i : Int) + 1) = 0 ∧ runL L ((i : Int) + 1) pod = L.set i ⟨r.id, r.src, r.til, 2, pod⟩ := by simp [runE, runL, reqAt_yes h, hf]
theorem run_inv {L : List Rq} (h : Inv L) (id pod : Int) : Inv (runL L id pod) := by
  by_cases hi : 1 ≤ id ∧ id ≤ L.length
  · obtain ⟨i, rfl, hl⟩ := id_nat hi
    obtain ⟨r, hr⟩ : ∃ r, L[i]? = some r := ⟨L[i], by simp [hl]⟩
    cases hf : runOk L i r with
    | true =>
      rw [(run_ok hr hf).2]
      refine h.set hr rfl ?_
      have := h.bd r (List.mem_of_getElem? hr)
      unfold Okr at *; simp only; omega
    | false => rw [(run_state hr hf).2]; exact h
  · rw [(run_no hi).2]; exact h
/-- Next -/
def nextN (L : List Rq) : Int := match L.findIdx? (mayRun L) with
  | none => 0
  | some i => (i : Int) + 1
def nextB (L : List Rq) : Bool := (L.findIdx? (mayRun L)).isSome
end Buf
end Go.Proofs.Ytkflelbpiabcpag
