/- The text of a set: its rows of numbers, in order. Plain mathematics. -/
import Derived.Test.YtbfnjjdgiihngaaDoorChkPlain
import Derived.Lib.Join
import Derived.Lib.ItoaNum
namespace Go.Proofs.YtbfnjjdgiihngaaDoor
namespace Crn
open Go.RowKit

/-- what is not in the set -/
def ntS (s : Int) : Int := 18446744073709551615 - s
theorem ntS_u (s : Int) (h : 0 ≤ s ∧ s ≤ 18446744073709551615) : 0 ≤ ntS s ∧ ntS s ≤ 18446744073709551615 := by unfold ntS; omega
theorem in_not (s n : Int) (h : 0 ≤ s ∧ s ≤ 18446744073709551615) (hn : 0 ≤ n ∧ n ≤ 63) : inS (ntS s) n = !inS s n := by
  obtain ⟨S, rfl⟩ := Int.eq_ofNat_of_zero_le h.1
  obtain ⟨N, rfl⟩ := Int.eq_ofNat_of_zero_le hn.1
  have e : ntS (S : Int) = ((2 ^ 64 - (S + 1) : Nat) : Int) := by unfold ntS; omega
  rw [e, inS_nat, inS_nat, decide_eq_true (show N ≤ 63 by omega), Bool.true_and, Bool.true_and, Nat.testBit_two_pow_sub_succ (by omega), decide_eq_true (show N < 64 by omega), Bool.true_and]
/-- a row begins at n -/
def isSt (s n : Int) : Bool := inS s n && !inS s (n - 1)
def endOf (s n : Int) : Int := frm (ntS s) n - 1
/-- the rows that begin ahead of n -/
def rowsU (s : Int) : Nat → List (Int × Int)
  | 0 => []
  | n + 1 => rowsU s n ++ (if isSt s n = true then [((n : Int), endOf s n)] else [])
theorem rows_skip {s : Int} {a : Nat} : ∀ (k : Nat), (∀ j : Nat, a ≤ j → j < a + k → isSt s j = false) → rowsU s (a + k) = rowsU s a
  | 0, _ => rfl
  | k + 1, h => by
    have e : rowsU s (a + k + 1) = rowsU s (a + k) ++ (if isSt s ((a + k : Nat) : Int) = true then [(((a + k : Nat) : Int), endOf s ((a + k : Nat) : Int))] else []) := rfl
    show rowsU s (a + k + 1) = _
    rw [e, h (a + k) (by omega) (by omega), rows_skip k (fun j h1 h2 => h j h1 (by omega))]; simp
theorem rows_none {s : Int} {a b : Nat} (hab : a ≤ b) (h : ∀ j : Nat, a ≤ j → j < b → isSt s j = false) : rowsU s b = rowsU s a := by
  have := rows_skip (s := s) (a := a) (b - a) (fun j h1 h2 => h j h1 (by omega))
  rwa [show a + (b - a) = b by omega] at this

section
variable {s : Int} (hs : 0 ≤ s ∧ s ≤ 18446744073709551615) (h60 : ∀ n, inS s n = true → n ≤ 59)
include hs h60
/-- where a row ends, and that it does -/
theorem end_spec {n : Int} (hn : inS s n = true) : frmB (ntS s) n = true ∧ n < frm (ntS s) n ∧ frm (ntS s) n ≤ 60 ∧ inS s (frm (ntS s) n) = false ∧ ∀ m, n ≤ m → m < frm (ntS s) n → inS s m = true := by
  have b := inS_bd hn
  have h59 := h60 n hn
  have i60 : inS (ntS s) 60 = true := by
    rw [in_not s 60 hs (by omega)]
    cases g : inS s 60
    · rfl
    · have := h60 60 g; omega
  have hb := frmB_mk (ntS_u s hs) b.1 (show n ≤ 60 by omega) i60
  obtain ⟨f1, _, f2, f3⟩ := frm_yes (ntS s) n (ntS_u s hs) b.1 hb
  have fb := inS_bd f2
  have f60 : frm (ntS s) n ≤ 60 := by
    by_cases g : frm (ntS s) n ≤ 60
    · exact g
    · have := f3 60 (by omega) (by omega); rw [i60] at this; cases this
  rw [in_not s _ hs fb] at f2
  have f2' : inS s (frm (ntS s) n) = false := by simpa using f2
  refine ⟨hb, ?_, f60, f2', fun m h1 h2 => ?_⟩
  · by_cases g : n = frm (ntS s) n
    · rw [← g, hn] at f2'; cases f2'
    · omega
  · have := f3 m h1 h2
    rw [in_not s m hs (by omega)] at this
    simpa using this
/-- a row more -/
theorem rows_on {n : Int} (hn : inS s n = true) (hp : inS s (n - 1) = false) : rowsU s (frm (ntS s) n).toNat = rowsU s n.toNat ++ [(n, endOf s n)] := by
  obtain ⟨e1, e2, e3, e4, e5⟩ := end_spec hs h60 hn
  have b := inS_bd hn
  obtain ⟨N, rfl⟩ := Int.eq_ofNat_of_zero_le b.1
  have : rowsU s (N + 1) = rowsU s N ++ [((N : Int), endOf s N)] := by
    show rowsU s N ++ _ = _
    rw [show isSt s (N : Int) = true by unfold isSt; rw [hn, hp]; rfl]; rfl
  rw [Int.toNat_natCast, ← this]
  refine rows_none (by omega) fun j h1 h2 => ?_
  unfold isSt
  rw [e5 ((j : Int) - 1) (by omega) (by omega)]; simp
end
/-- none from n up to m -/
theorem rows_to {s n m : Int} (h0 : 0 ≤ n) (hnm : n ≤ m) (h : ∀ j, n ≤ j → j < m → inS s j = false) : rowsU s m.toNat = rowsU s n.toNat := by
  refine rows_none (by omega) fun j h1 h2 => ?_
  unfold isSt
  rw [h j (by omega) (by omega)]; rfl
/-- the text of a row -/
def rowT (p : Int × Int) : List UInt8 := if p.1 = p.2 then Lib.decDigits p.1.toNat else Lib.decDigits p.1.toNat ++ [45] ++ Lib.decDigits p.2.toNat
/-- the text of a set -/
def wordT (s : Int) (star : Bool) : List UInt8 := if star = true then [42] else Lib.join ((rowsU s 64).map rowT) [44]
end Crn
end Go.Proofs.YtbfnjjdgiihngaaDoor
