/- How a set is printed: printRow, printWord. -/
import Derived.Test.YtbfnjjdgiihngaaDoorTextPlain
import Derived.Test.YtbfnjjdgiihngaaDoorCronBits
import Derived.Test.YtbfnjjdgiihngaaDoorShelf2
namespace Go.Proofs.YtbfnjjdgiihngaaDoor
namespace Crn
open Go.RowKit Lai Civ
set_option maxRecDepth 8000

abbrev strV (l : List UInt8) : Value := .string ⟨l.toArray⟩
theorem ret_str {a b : List UInt8} (h : a = b) : Ending.returned (strV a) = .returned (strV b) := by rw [h]
theorem itoa_c (i : Int) (h : 0 ≤ i ∧ i < 100) (w : World) : Calls Tryd.prog 21 #[.int .i64 i] w fun e w' => e = .returned (strV (Lib.decDigits i.toNat)) ∧ w' = w := by
  obtain ⟨N, rfl⟩ := Int.eq_ofNat_of_zero_le h.1
  exact Tryd.strconv_Itoa_small N (by omega) w

theorem dec_len : ∀ n : Nat, n < 100 → (Lib.decDigits n).length ≤ 2 := by
  intro n h
  by_cases g : n < 10
  · rw [Lib.decDigits_one g]; simp
  · rw [Lib.decDigits_two g h]; simp

set_option maxHeartbeats 2000000 in
theorem row_any (a b : Int) (ha : 0 ≤ a ∧ a < 100) (hb : 0 ≤ b ∧ b < 100) (w : World) :
    Calls Tryd.prog 44 #[.int .i64 a, .int .i64 b] w fun e w' => e = .returned (strV (rowT (a, b))) ∧ w' = w := by
  have c1 := fun w => itoa_c a ha w
  have c2 := fun w => itoa_c b hb w
  by_cases h : a = b
  · subst h
    have HR : Hid (rowT (a, a) = Lib.decDigits a.toNat) := by unfold Hid rowT; simp
    clear ha hb c2
    go_enter Tryd.func44, Tryd.ntmps44
    go_wp2_with (go_at_call 21; (with_reducible refine (c1 _).mono ?_); rintro e w' ⟨rfl, rfl⟩)
    go_ret
    exact ⟨ret_str HR.out.symm, rfl⟩
  · have HR : Hid (rowT (a, b) = Lib.decDigits a.toNat ++ [45] ++ Lib.decDigits b.toNat) := by unfold Hid rowT; simp [h]
    have la := dec_len a.toNat (by omega)
    have lb := dec_len b.toNat (by omega)
    clear ha hb
    go_enter Tryd.func44, Tryd.ntmps44
    go_wp2_with (first
      | (go_at_call 21; (with_reducible refine (c1 _).mono ?_); rintro e w' ⟨rfl, rfl⟩)
      | (go_at_call 21; (with_reducible refine (c2 _).mono ?_); rintro e w' ⟨rfl, rfl⟩))
    go_ret
    exact ⟨ret_str HR.out.symm, rfl⟩
end Crn
end Go.Proofs.YtbfnjjdgiihngaaDoor
