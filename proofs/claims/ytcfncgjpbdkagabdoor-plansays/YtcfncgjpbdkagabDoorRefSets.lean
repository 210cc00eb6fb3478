/- What the document's answer (tideref) says of crons: sets. -/
import Derived.Test.YtcfncgjpbdkagabDoorRefCron
import Derived.Deep.RegionHeld
namespace Go.Proofs.YtcfncgjpbdkagabDoor
namespace RCrn
open Go.RowKit Lai Civ Cal Crn RCiv
set_option maxRecDepth 8000

theorem keep_alloc {W : World} {o : Obj} {a : Addr} {v : Value} (h : W.cell? a = some v) : (W.alloc o).cell? a = some v := by
  rw [World.cell?_alloc_some _ _ _ (by rw [h]; rfl)]; exact h
theorem keep_drew {W : World} {a : Addr} {v : Value} (h : W.cell? a = some v) : W.drew.cell? a = some v := h

theorem new1 (X : World) (D : Array Value) (t : TypeId) (o : Nat) : (X.alloc (.cells D t)).cell? ⟨X.heap.size, o, none⟩ = D[o]? := by simp
theorem new3 (W : World) (A B C : Array Value) (ta tb tc : TypeId) :
    (∀ o, (((W.alloc (.cells A ta)).alloc (.cells B tb)).alloc (.cells C tc)).drew.cell? ⟨W.heap.size, o, none⟩ = A[o]?) ∧
    (∀ o, (((W.alloc (.cells A ta)).alloc (.cells B tb)).alloc (.cells C tc)).drew.cell? ⟨W.heap.size + 1, o, none⟩ = B[o]?) ∧
    (∀ o, (((W.alloc (.cells A ta)).alloc (.cells B tb)).alloc (.cells C tc)).drew.cell? ⟨W.heap.size + 1 + 1, o, none⟩ = C[o]?) ∧
    W.heap.size + 1 + 1 < (((W.alloc (.cells A ta)).alloc (.cells B tb)).alloc (.cells C tc)).drew.heap.size ∧
    Below W.heap.size W (((W.alloc (.cells A ta)).alloc (.cells B tb)).alloc (.cells C tc)).drew := by
  refine ⟨fun o => ?_, fun o => ?_, fun o => ?_, ?_, ?_⟩
  · show (((W.alloc (.cells A ta)).alloc (.cells B tb)).alloc (.cells C tc)).cell? _ = _
    rw [(bcell (balloc _)).1 _ _ (by simp; omega), (bcell (balloc _)).1 _ _ (by simp)]; simp
  · show (((W.alloc (.cells A ta)).alloc (.cells B tb)).alloc (.cells C tc)).cell? _ = _
    rw [(bcell (balloc _)).1 _ _ (by simp)]
    have e : W.heap.size + 1 = (W.alloc (.cells A ta)).heap.size := by simp
    rw [e]; simp
  · show (((W.alloc (.cells A ta)).alloc (.cells B tb)).alloc (.cells C tc)).cell? _ = _
    have e : W.heap.size + 1 + 1 = ((W.alloc (.cells A ta)).alloc (.cells B tb)).heap.size := by simp
    rw [e]; exact new1 _ _ _ _
  · show _ < (((W.alloc (.cells A ta)).alloc (.cells B tb)).alloc (.cells C tc)).heap.size
    simp
  · exact ((((Below.refl _ _).alloc (Nat.le_refl _) _).alloc (by simp) _).alloc (by simp; omega) _).drew

set_option maxHeartbeats 8000000 in
theorem rsets_any (mi ho da mo we : Int) (ad aw : Bool) (w : World) :
    Calls Tryd.prog 44 #[cronV mi ho da mo we ad aw] w fun e w' => ∃ p q r : Nat, e = .returned (.tuple #[.slice (some ⟨p, 0, none⟩) 5 5, .slice (some ⟨q, 0, none⟩) 5 5, .slice (some ⟨r, 0, none⟩) 5 5]) ∧ p < w'.heap.size ∧ q < w'.heap.size ∧ r < w'.heap.size ∧
      (∀ o, w'.cell? ⟨p, o, none⟩ = (#[Value.int .u64 mi, .int .u64 ho, .int .u64 da, .int .u64 mo, .int .u64 we])[o]?) ∧
      (∀ o, w'.cell? ⟨q, o, none⟩ = (#[Value.int .i64 0, .int .i64 59, .int .i64 0, .int .i64 23, .int .i64 1, .int .i64 31, .int .i64 1, .int .i64 12, .int .i64 0, .int .i64 6])[o]?) ∧
      (∀ o, w'.cell? ⟨r, o, none⟩ = (#[Value.bool false, .bool false, .bool ad, .bool false, .bool aw])[o]?) ∧ Below w.heap.size w w' := by
  go_enter Tryd.func44, Tryd.ntmps44
  go_wp2
  obtain ⟨w0, hw0⟩ : ∃ w0, w0 = w.alloc (Obj.cells #[Value.int .u64 mi, .int .u64 ho, .int .u64 da, .int .u64 mo, .int .u64 we, .bool ad, .bool aw] 24) := ⟨_, rfl⟩
  have h0 : w0.cell? ⟨w.heap.size, 0, none⟩ = some (.int .u64 mi) := by rw [hw0]; simp
  have h1 : w0.cell? ⟨w.heap.size, 1, none⟩ = some (.int .u64 ho) := by rw [hw0]; simp
  have h2 : w0.cell? ⟨w.heap.size, 2, none⟩ = some (.int .u64 da) := by rw [hw0]; simp
  have h3 : w0.cell? ⟨w.heap.size, 3, none⟩ = some (.int .u64 mo) := by rw [hw0]; simp
  have h4 : w0.cell? ⟨w.heap.size, 4, none⟩ = some (.int .u64 we) := by rw [hw0]; simp
  have h5 : w0.cell? ⟨w.heap.size, 5, none⟩ = some (.bool ad) := by rw [hw0]; simp
  have h6 : w0.cell? ⟨w.heap.size, 6, none⟩ = some (.bool aw) := by rw [hw0]; simp
  have z0 : w.heap.size < w0.heap.size := by rw [hw0]; simp
  have z1 : w.heap.size < w0.heap.size + 1 := by omega
  have z2 : w.heap.size < w0.heap.size + 1 + 1 := by omega
  have hbel : Hid (Below w.heap.size w w0) := by rw [hw0]; exact balloc _
  rw [← hw0]
  clear hw0
  go_region_held (fun w' => w'.cell? ⟨w.heap.size, 0, none⟩ = some (.int .u64 mi) ∧ w'.cell? ⟨w.heap.size, 1, none⟩ = some (.int .u64 ho) ∧ w'.cell? ⟨w.heap.size, 2, none⟩ = some (.int .u64 da) ∧ w'.cell? ⟨w.heap.size, 3, none⟩ = some (.int .u64 mo) ∧ w'.cell? ⟨w.heap.size, 4, none⟩ = some (.int .u64 we) ∧ w'.cell? ⟨w.heap.size, 5, none⟩ = some (.bool ad) ∧ w'.cell? ⟨w.heap.size, 6, none⟩ = some (.bool aw)) ((refine ⟨?_, ?_, ?_, ?_, ?_, ?_, ?_⟩ <;> with_reducible refine keep_drew ?_) <;> ((repeat with_reducible refine keep_alloc ?_) <;> assumption)) (fail)
  all_goals
    go_wp2
    go_ret3
    refine ⟨_, _, _, rfl, ?_, ?_, ?_, ?_, ?_, ?_, ?_⟩
  all_goals first
    | exact (new3 w0 _ _ _ _ _ _).2.2.2.1
    | exact Nat.lt_trans (Nat.lt_succ_self _) (new3 w0 _ _ _ _ _ _).2.2.2.1
    | exact Nat.lt_trans (Nat.lt_succ_self _) (Nat.lt_trans (Nat.lt_succ_self _) (new3 w0 _ _ _ _ _ _).2.2.2.1)
    | exact (new3 w0 _ _ _ _ _ _).1
    | exact (new3 w0 _ _ _ _ _ _).2.1
    | exact (new3 w0 _ _ _ _ _ _).2.2.1
    | exact hbel.out.trans ((new3 w0 _ _ _ _ _ _).2.2.2.2.mono (Nat.le_of_lt z0))
end RCrn
end Go.Proofs.YtcfncgjpbdkagabDoor
