
/- What tideref.Rest answers. -/
import Derived.Test.YtanlhkokghjadagRows
import Derived.WalkKit
import Derived.ProofKit
namespace Go.Proofs.Ytanlhkokghjadag
namespace Rsw
open Go.RowKit
theorem ret_int {k : IntKind} {a b : Int} (h : a = b) : Ending.returned (.int k a) = .returned (.int k b) := by rw [h]
theorem rest_any (n m : Int) (w : World) (h1 : 1 ≤ m) (h2 : m ≤ 1000000000000) :
    Calls Try.prog 9 #[.int .i64 n, .int .i64 m] w fun e w' => e = .returned (.int .i64 (n % m)) ∧ w' = w := by
  have hm : ¬ m = 0 := by omega
  have h3 := Int.tmod_lt_of_pos n (show 0 < m by omega)
  have h4 : -m < n.tmod m := by
    have := Int.tmod_lt_of_pos (-n) (show 0 < m by omega)
    rw [Int.neg_tmod] at this
    omega
  by_cases hr : n.tmod m < 0
  · have HE : Hid (n.tmod m + m = n % m) := by
      have := Int.emod_eq_add_self_emod (a := n.tmod m) (b := m)
      have h5 : (n.tmod m + m) % m = n.tmod m + m := Int.emod_eq_of_lt (by omega) (by omega)
      have h6 : n.tmod m % m = n % m := by
        have h7 := Int.tmod_add_mul_tdiv n m
        have h8 : n.tmod m = n + m * -(n.tdiv m) := by rw [Int.mul_neg]; omega
        rw [h8, Int.add_mul_emod_self_left]
      show n.tmod m + m = n % m
      omega
    go_enter Try.func9, Try.ntmps9
    go_wp2
    go_ret
    exact ⟨ret_int HE.out, rfl⟩
  · have HE : Hid (n.tmod m = n % m) := by
      have h5 : n.tmod m % m = n.tmod m := Int.emod_eq_of_lt (by omega) (by omega)
      have h6 : n.tmod m % m = n % m := by
        have h7 := Int.tmod_add_mul_tdiv n m
        have h8 : n.tmod m = n + m * -(n.tdiv m) := by rw [Int.mul_neg]; omega
        rw [h8, Int.add_mul_emod_self_left]
      show n.tmod m = n % m
      omega
    go_enter Try.func9, Try.ntmps9
    go_wp2
    go_ret
    exact ⟨ret_int HE.out, rfl⟩

end Rsw
end Go.Proofs.Ytanlhkokghjadag
