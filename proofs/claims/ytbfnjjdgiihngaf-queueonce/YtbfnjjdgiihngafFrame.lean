/- How an argument of a law is taken apart: an integer, a bool, a string, a struct of such cells by value. -/
import Derived.WalkKit
import Derived.ProofKit
import Derived.WideShapes
import Derived.Below
namespace Go.Proofs.Ytbfnjjdgiihngaf
namespace Frm
section
variable {P : Program} {w : World} {r : Reach} {base : Nat} {t : TypeId} {v : Value}

theorem cell_int {k : IntKind} (ht : P.underlying t = some (.int k)) (h : Cell.okWide P w r base t v) : ∃ n : Int, v = .int k n ∧ k.has n := by
  simp only [ht, Cell.okWide] at h
  cases v <;> simp_all [Cell.ok]
theorem cell_bool (ht : P.underlying t = some .bool) (h : Cell.okWide P w r base t v) : ∃ b : Bool, v = .bool b := by
  simp only [ht, Cell.okWide] at h
  cases v <;> simp_all [Cell.ok]
theorem cell_string (ht : P.underlying t = some .string) (h : Cell.okWide P w r base t v) : ∃ s : ByteArray, v = .string s ∧ (s.size : Int) ≤ 9223372036854775807 := by
  simp only [ht, Cell.okWide] at h
  cases v <;> simp_all [Cell.ok]

theorem val_int {k : IntKind} (ht : P.underlying t = some (.int k)) (h : Value.okWide P w r base t v) : ∃ n : Int, v = .int k n ∧ k.has n := by
  simp only [Value.okWide, ht] at h; exact cell_int ht h
theorem val_bool (ht : P.underlying t = some .bool) (h : Value.okWide P w r base t v) : ∃ b : Bool, v = .bool b := by
  simp only [Value.okWide, ht] at h; exact cell_bool ht h
theorem val_string (ht : P.underlying t = some .string) (h : Value.okWide P w r base t v) : ∃ s : ByteArray, v = .string s ∧ (s.size : Int) ≤ 9223372036854775807 := by
  simp only [Value.okWide, ht] at h; exact cell_string ht h

theorem bd_i64 {n : Int} (h : IntKind.i64.has n) : -9223372036854775808 ≤ n ∧ n ≤ 9223372036854775807 := h
theorem bd_u64 {n : Int} (h : IntKind.u64.has n) : 0 ≤ n ∧ n ≤ 18446744073709551615 := h

/-- A struct by value: its cells, each as its type asks. -/
theorem agg_cells {fs : Array Field} {ts : List TypeId} (ht : P.underlying t = some (.struct fs)) (hc : P.cellTypes P.depth t = some ts) (hn : P.cellsOf t = ts.length)
    (h : Value.okWide P w r base t v) : ∃ cs : List Value, v = .agg cs.toArray ∧ cs.length = ts.length ∧ ∀ (i : Nat) (u : TypeId) (c : Value), ts[i]? = some u → cs[i]? = some c → Cell.okWide P w r base u c := by
  simp only [Value.okWide, ht] at h
  obtain ⟨cs, rfl, hsz, ts', hts, _, hcell⟩ := h
  rw [hc] at hts
  cases hts
  refine ⟨cs.toList, by simp, by simp [hsz, hn], ?_⟩
  intro i u c hu hi
  obtain ⟨u', hu', hk⟩ := hcell i c (by simpa using hi)
  have hlt : i < ts.length := by
    rcases Nat.lt_or_ge i ts.length with h | h
    · exact h
    · rw [List.getElem?_eq_none h] at hu; cases hu
  rw [Nat.mod_eq_of_lt hlt, hu] at hu'
  cases hu'
  exact hk
end
end Frm
end Go.Proofs.Ytbfnjjdgiihngaf
