/- The law of a cron's text, read by the program and by the document, walked. -/
import Derived.Test.YtbfnjjdgiihngaaDoorRefRead3
namespace Go.Proofs.YtbfnjjdgiihngaaDoor
namespace Pie
open Go.RowKit Crn Lai Civ RCrn
set_option maxRecDepth 8000

/-- a text has one answer -/
theorem ans_is (s : List UInt8) : ∃ (mi ho da mn we : Int) (ad aw : Bool) (E : Int), ∀ e, ParseAns s e → e = .returned (.tuple #[cronV mi ho da mn we ad aw, .int .i64 E]) := by
  by_cases hl : 300 < s.length
  · refine ⟨0, 0, 0, 0, 0, false, false, 2, fun e h => ?_⟩
    rcases h with ⟨_, h⟩ | ⟨h, _⟩ | ⟨h, _⟩
    · exact h
    · omega
    · omega
  · by_cases hr : (pieces 32 s).length = 5 ∧ ∃ v, Right (pieces 32 s) v
    · obtain ⟨hp, v, hv⟩ := hr
      have hv' := hv
      obtain ⟨u, l, _, rfl⟩ := hv'
      refine ⟨u 0, u 1, u 2, u 3, u 4, (pieces 32 s).getD 2 [] == [42], (pieces 32 s).getD 4 [] == [42], 0, fun e h => ?_⟩
      rcases h with ⟨h, _⟩ | ⟨_, h, _⟩ | ⟨_, _, v', h, rfl⟩
      · exact absurd h hl
      · rcases h with h | h
        · exact absurd hp h
        · exact absurd h (right_not hv)
      · rw [right_one h hv]
    · refine ⟨0, 0, 0, 0, 0, false, false, 3, fun e h => ?_⟩
      rcases h with ⟨h, _⟩ | ⟨_, _, h⟩ | ⟨_, hp, v', h, _⟩
      · exact absurd h hl
      · exact h
      · exact absurd ⟨hp, v', h⟩ hr
set_option maxHeartbeats 4000000 in
theorem reads_any (s : List UInt8) (w : World) (hB : BdsAt w) : Calls Tryd.prog 4 #[strV s] w fun e w' => e = .returned (.bool true) ∧ Below w.heap.size w w' := by
  obtain ⟨mi, ho, da, mn, we, ad, aw, E, H⟩ := ans_is s
  have c1 : Calls Tryd.prog 12 #[strV s] w fun e w' => e = .returned (.tuple #[cronV mi ho da mn we ad aw, .int .i64 E]) ∧ Below w.heap.size w w' := (parse_any s w hB).mono fun e w' h => ⟨H e h.1, h.2⟩
  have c2 : ∀ w, Calls Tryd.prog 13 #[strV s] w fun e w' => e = .returned (.tuple #[cronV mi ho da mn we ad aw, .int .i64 E]) ∧ Below w.heap.size w w' := fun w => (rc_any s w).mono fun e w' h => ⟨H e h.1, h.2⟩
  clear H
  unfold cronV at c1 c2
  go_enter Tryd.func4, Tryd.ntmps4
  go_wp2_with (first
    | (go_at_call 12; (with_reducible refine c1.mono ?_); rintro e w1 ⟨rfl, hb1⟩; obtain ⟨w0, hw0⟩ : ∃ w0, w0 = w1.alloc (.cells #[.int .u64 mi, .int .u64 ho, .int .u64 da, .int .u64 mn, .int .u64 we, .bool ad, .bool aw] 24) := ⟨_, rfl⟩; have hC0 : ∀ o, w0.cell? ⟨w1.heap.size, o, none⟩ = (#[Value.int .u64 mi, .int .u64 ho, .int .u64 da, .int .u64 mn, .int .u64 we, .bool ad, .bool aw])[o]? := (fun o => by rw [hw0]; simp); have hz0 : w1.heap.size < w0.heap.size := (by rw [hw0]; simp); have hw1 : Below w.heap.size w w0 := (by rw [hw0]; exact hb1.alloc hb1.size _))
    | (go_at_call 13; rw [← hw0]; (with_reducible refine (c2 _).mono ?_); rintro e w2 ⟨rfl, hb2⟩; have hC2 := cells_on hC0 hb2 hz0; have d0 : w2.cell? ⟨w1.heap.size, 0, none⟩ = some (.int .u64 mi) := hC2 0; have d1 : w2.cell? ⟨w1.heap.size, 1, none⟩ = some (.int .u64 ho) := hC2 1; have d2 : w2.cell? ⟨w1.heap.size, 2, none⟩ = some (.int .u64 da) := hC2 2; have d3 : w2.cell? ⟨w1.heap.size, 3, none⟩ = some (.int .u64 mn) := hC2 3; have d4 : w2.cell? ⟨w1.heap.size, 4, none⟩ = some (.int .u64 we) := hC2 4; have d5 : w2.cell? ⟨w1.heap.size, 5, none⟩ = some (.bool ad) := hC2 5; have d6 : w2.cell? ⟨w1.heap.size, 6, none⟩ = some (.bool aw) := hC2 6; have hz2 : w1.heap.size < w2.heap.size := Nat.lt_of_lt_of_le hz0 hb2.size; clear hC2 hC0 hw0))
  go_ret
  exact ⟨rfl, (hw1.trans (hb2.mono hw1.size)).alloc (Nat.le_trans hw1.size hb2.size) _⟩
end Pie
end Go.Proofs.YtbfnjjdgiihngaaDoor
