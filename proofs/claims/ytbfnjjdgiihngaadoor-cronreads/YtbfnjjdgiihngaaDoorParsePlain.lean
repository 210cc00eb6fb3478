/- How the text of a cron is read: plain mathematics. -/
import Derived.Test.YtbfnjjdgiihngaaDoorPiecePlain
import Derived.Test.YtbfnjjdgiihngaaDoorChkPlain
namespace Go.Proofs.YtbfnjjdgiihngaaDoor
namespace Pie
open Crn

def dg (x : UInt8) : Bool := decide (48 ≤ x.toNat ∧ x.toNat ≤ 57)
/-- a number of one or two digits -/
def num2 : List UInt8 → Option Int
  | [a] => if dg a = true then some ((a.toNat : Int) - 48) else none
  | [a, b] => if dg a = true ∧ dg b = true then some (10 * ((a.toNat : Int) - 48) + ((b.toNat : Int) - 48)) else none
  | _ => none
theorem num2_bd {t : List UInt8} {n : Int} (h : num2 t = some n) : 0 ≤ n ∧ n ≤ 99 := by
  unfold num2 at h
  split at h
  · split at h
    · rename_i g; unfold dg at g; rw [decide_eq_true_eq] at g; cases h; omega
    · cases h
  · split at h
    · rename_i g; unfold dg at g; rw [decide_eq_true_eq, decide_eq_true_eq] at g; cases h; omega
    · cases h
  · cases h
theorem num2_not {t : List UInt8} {c : UInt8} (hc : dg c = false) (h : c ∈ t) : num2 t = none := by
  unfold num2
  split
  · rw [List.mem_singleton] at h; subst h; rw [hc]; simp
  · simp only [List.mem_cons, List.not_mem_nil, or_false] at h
    rcases h with rfl | rfl <;> rw [hc] <;> simp
  · rfl
/-- the text ahead of the first c, and the text behind it -/
def cutS (c : UInt8) : List UInt8 → Option (List UInt8 × List UInt8)
  | [] => none
  | x :: r => if x = c then some ([], r) else (cutS c r).map fun p => (x :: p.1, p.2)
theorem cutS_none {c : UInt8} : ∀ {l : List UInt8}, c ∉ l → cutS c l = none
  | [], _ => rfl
  | x :: r, h => by
    have h1 : ¬ x = c := fun e => h (e ▸ List.mem_cons_self)
    have e : cutS c (x :: r) = if x = c then some ([], r) else (cutS c r).map fun p => (x :: p.1, p.2) := rfl
    rw [e, if_neg h1, cutS_none (fun g => h (List.mem_cons_of_mem _ g))]; rfl
theorem cutS_hit {c : UInt8} {b : List UInt8} : ∀ {a : List UInt8}, c ∉ a → cutS c (a ++ c :: b) = some (a, b)
  | [], _ => by simp [cutS]
  | x :: r, h => by
    have h1 : ¬ x = c := fun e => h (e ▸ List.mem_cons_self)
    have e : cutS c (x :: (r ++ c :: b)) = if x = c then some ([], r ++ c :: b) else (cutS c (r ++ c :: b)).map fun p => (x :: p.1, p.2) := rfl
    rw [List.cons_append, e, if_neg h1, cutS_hit (fun g => h (List.mem_cons_of_mem _ g))]; rfl
/-- a row of numbers: its first, its last; is it a single number? -/
def rowS (lo hi : Int) (t : List UInt8) : Option (Int × Int × Bool) :=
  if t = [42] then some (lo, hi, false)
  else match cutS 45 t with
    | none => match num2 t with
      | some n => if lo ≤ n ∧ n ≤ hi then some (n, n, true) else none
      | none => none
    | some (x, y) => match num2 x, num2 y with
      | some a, some b => if (lo ≤ a ∧ a ≤ hi) ∧ (lo ≤ b ∧ b ≤ hi) ∧ a ≤ b then some (a, b, false) else none
      | _, _ => none
/-- an item: its first number, its last, its step -/
def itemS (lo hi : Int) (t : List UInt8) : Option (Int × Int × Int) :=
  match cutS 47 t with
  | none => match rowS lo hi t with
    | some (a, b, _) => some (a, b, 1)
    | none => none
  | some (x, y) => match rowS lo hi x, num2 y with
    | some (a, b, false), some st => if 1 ≤ st then some (a, b, st) else none
    | _, _ => none
theorem rowS_bd {lo hi : Int} {t : List UInt8} {a b : Int} {s : Bool} (hl : lo ≤ hi) (h : rowS lo hi t = some (a, b, s)) : lo ≤ a ∧ a ≤ b ∧ b ≤ hi := by
  unfold rowS at h
  split at h
  · cases h; omega
  · split at h
    · split at h
      · split at h
        · cases h; omega
        · cases h
      · cases h
    · split at h
      · split at h
        · cases h; omega
        · cases h
      · cases h
theorem itemS_bd {lo hi : Int} {t : List UInt8} {a b st : Int} (hl : lo ≤ hi) (h : itemS lo hi t = some (a, b, st)) : lo ≤ a ∧ a ≤ b ∧ b ≤ hi ∧ 1 ≤ st ∧ st ≤ 99 := by
  unfold itemS at h
  split at h
  · split at h
    · rename_i g
      have := rowS_bd hl g
      cases h; omega
    · cases h
  · split at h
    · split at h
      · rename_i g1 g2 _
        have := rowS_bd hl g1
        have := num2_bd g2
        cases h; omega
      · cases h
    · cases h
/-- is n a number of the item? -/
def inI (p : Int × Int × Int) (n : Int) : Bool := decide (p.1 ≤ n ∧ n ≤ p.2.1 ∧ (n - p.1) % p.2.2 = 0)
/-- the set of the items' numbers -/
def SetIs (l : List (Int × Int × Int)) (v : Int) : Prop := (0 ≤ v ∧ v ≤ 18446744073709551615) ∧ ∀ n, inS v n = l.any fun p => inI p n
theorem setIs_one {l : List (Int × Int × Int)} {u v : Int} (h : SetIs l u) (g : SetIs l v) : u = v := u_ext _ _ h.1 g.1 fun n => by rw [h.2, g.2]
/-- the items of a word -/
def wordS (lo hi : Int) : List (List UInt8) → Option (List (Int × Int × Int))
  | [] => some []
  | t :: r => match itemS lo hi t, wordS lo hi r with
    | some p, some l => some (p :: l)
    | _, _ => none
end Pie
end Go.Proofs.YtbfnjjdgiihngaaDoor
