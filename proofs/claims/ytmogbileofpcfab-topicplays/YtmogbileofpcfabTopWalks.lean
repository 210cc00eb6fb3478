/- What each function of package topic answers: contracts, the leaves first. -/
import Derived.Test.YtmogbileofpcfabRows
import Derived.WalkKit
import Derived.ProofKit
import Derived.Deep.Quiet
import Derived.Deep.QuietTactic
import Derived.Deep.RegionWith
import Derived.Test.YtmogbileofpcfabTopPlain
namespace Go.Proofs.Ytmogbileofpcfab
namespace Top
open Go.RowKit
set_option maxRecDepth 8000

theorem info_int : (Try.prog.info? 3).map (fun i => (i.zero, i.size, i.bytes)) = some (some (.int .i64 0), 1, 8) := by kernel_rfl
theorem info_part : (Try.prog.info? 44).map (fun i => (i.zero, i.size, i.bytes)) = some (some (.agg #[.int .i64 0, .int .i64 0]), 2, 16) := by kernel_rfl

theorem clip_in (n : Int) (w : World) (h : 0 ≤ n ∧ n ≤ 1000000000) :
    Calls Try.prog 16 #[.int .i64 n] w fun e w' => e = .returned (.int .i64 n) ∧ w' = w := by
  go_enter Try.func16, Try.ntmps16
  go_wp2
  go_ret
  exact ⟨rfl, rfl⟩
theorem add_in (a b : Int) (w : World) (ha : 0 ≤ a ∧ a ≤ 100000000) (hb : 0 ≤ b ∧ b ≤ 100000000) :
    Calls Try.prog 14 #[.int .i64 a, .int .i64 b] w fun e w' => e = .returned (.int .i64 (a + b)) ∧ w' = w := by
  have c1 := fun w => clip_in a w (by omega)
  have c2 := fun w => clip_in b w (by omega)
  have c3 := fun w => clip_in (a + b) w (by omega)
  go_enter Try.func14, Try.ntmps14
  go_wp2_with (first | (go_at_call 16; (with_reducible refine (c1 _).mono ?_); rintro e w' ⟨rfl, rfl⟩) | (go_at_call 16; (with_reducible refine (c2 _).mono ?_); rintro e w' ⟨rfl, rfl⟩) | (go_at_call 16; (with_reducible refine (c3 _).mono ?_); rintro e w' ⟨rfl, rfl⟩))
  go_ret
  exact ⟨rfl, rfl⟩

theorem has_no (T G n : Nat) (p : Int) (w : World) (hT : w.cell? ⟨T, 0, none⟩ = some (.slice (some ⟨G, 0, none⟩) n n)) (h : ¬ (0 ≤ p ∧ p < (n : Int))) :
    Calls Try.prog 13 #[.pointer (some ⟨T, 0, none⟩), .int .i64 p] w fun e w' => e = .returned (.bool false) ∧ w' = w := by
  by_cases h0 : 0 ≤ p
  · have h1 : ¬ p < (n : Int) := fun g => h ⟨h0, g⟩
    clear h
    go_enter Try.func13, Try.ntmps13
    go_wp2
    go_ret
    exact ⟨rfl, rfl⟩
  · clear h
    go_enter Try.func13, Try.ntmps13
    go_wp2
    go_ret
    exact ⟨rfl, rfl⟩
theorem has_yes (T G n : Nat) (p : Int) (w : World) (hT : w.cell? ⟨T, 0, none⟩ = some (.slice (some ⟨G, 0, none⟩) n n)) (h0 : 0 ≤ p) (h1 : p < (n : Int)) :
    Calls Try.prog 13 #[.pointer (some ⟨T, 0, none⟩), .int .i64 p] w fun e w' => e = .returned (.bool true) ∧ w' = w := by
  go_enter Try.func13, Try.ntmps13
  go_wp2
  go_ret
  exact ⟨rfl, rfl⟩

theorem make_none (T G n : Nat) (p x : Int) (w : World) (hT : w.cell? ⟨T, 0, none⟩ = some (.slice (some ⟨G, 0, none⟩) n n)) (h : ¬ (0 ≤ p ∧ p < (n : Int))) :
    Calls Try.prog 6 #[.pointer (some ⟨T, 0, none⟩), .int .i64 p, .int .i64 x] w fun e w' => e = .returned (.int .i64 4) ∧ w' = w := by
  have c := has_no T G n p w hT h
  clear h
  go_enter Try.func6, Try.ntmps6
  go_wp2_with (go_at_call 13; (with_reducible refine c.mono ?_); rintro e w' ⟨rfl, rfl⟩)
  go_ret
  exact ⟨rfl, rfl⟩
theorem make_arg (T G n : Nat) (p x : Int) (w : World) (hT : w.cell? ⟨T, 0, none⟩ = some (.slice (some ⟨G, 0, none⟩) n n)) (h0 : 0 ≤ p) (h1 : p < (n : Int)) (h : ¬ (1 ≤ x ∧ x ≤ 100000)) :
    Calls Try.prog 6 #[.pointer (some ⟨T, 0, none⟩), .int .i64 p, .int .i64 x] w fun e w' => e = .returned (.int .i64 1) ∧ w' = w := by
  have c := has_yes T G n p w hT h0 h1
  by_cases h2 : x < 1
  · go_enter Try.func6, Try.ntmps6
    go_wp2_with (go_at_call 13; (with_reducible refine c.mono ?_); rintro e w' ⟨rfl, rfl⟩)
    go_ret
    exact ⟨rfl, rfl⟩
  · have h3 : 100000 < x := by omega
    go_enter Try.func6, Try.ntmps6
    go_wp2_with (go_at_call 13; (with_reducible refine c.mono ?_); rintro e w' ⟨rfl, rfl⟩)
    go_ret
    exact ⟨rfl, rfl⟩
set_option maxHeartbeats 4000000 in
theorem make_yes (T G n i : Nat) (x v : Int) (w : World) (hT : w.cell? ⟨T, 0, none⟩ = some (.slice (some ⟨G, 0, none⟩) n n)) (hi : i < n) (h1 : 1 ≤ x ∧ x ≤ 100000)
    (hc : w.cell? ⟨G, i * 2, none⟩ = some (.int .i64 v)) (hf : w.frozen? ⟨G, i * 2, none⟩ = false) (hv : 0 ≤ v ∧ v ≤ 100000000) :
    Calls Try.prog 6 #[.pointer (some ⟨T, 0, none⟩), .int .i64 (i : Int), .int .i64 x] w fun e w' => e = .returned (.int .i64 0) ∧ w' = w.drew.setCell ⟨G, i * 2, none⟩ (.int .i64 (v + x)) := by
  have c := has_yes T G n i w hT (by omega) (by omega)
  have c2 := fun w => add_in v x w hv (by omega)
  have hi' : (i : Int) < n := by omega
  go_enter Try.func6, Try.ntmps6
  go_wp2_with (go_at_call 13; (with_reducible refine c.mono ?_); rintro e w' ⟨rfl, h9⟩; have h8 := h9.symm; clear h9; subst h8)
  go_region_with (go_at_call 14; (with_reducible refine (c2 _).mono ?_); rintro e w' ⟨rfl, rfl⟩)
  all_goals go_wp2
  all_goals go_ret
  all_goals exact ⟨rfl, rfl⟩
end Top
end Go.Proofs.Ytmogbileofpcfab
