/- A trigger that is laid into a new block, by one step of a walk. -/
import Derived.Test.YtcfncgjpbdkagabDoorPlanCheck
namespace Go.Proofs.YtcfncgjpbdkagabDoor
namespace Pln
open Go.RowKit Lai Civ Crn
set_option maxRecDepth 8000

theorem setCells_new (w : World) (ta : TypeId) : ∀ (cs zs pre : List Value), zs.length = cs.length → (w.alloc (.cells (pre ++ zs).toArray ta)).setCells w.heap.size pre.length cs = w.alloc (.cells (pre ++ cs).toArray ta)
  | [], [], pre, _ => rfl
  | v :: r, z :: zs, pre, h => by
    have ih := setCells_new w ta r zs (pre ++ [v]) (by simpa using h)
    unfold World.setCells
    rw [World.setCell_alloc_at _ _ _ _ _ rfl]
    have e : (pre ++ z :: zs).toArray.setIfInBounds pre.length v = ((pre ++ [v]) ++ zs).toArray := by
      apply Array.ext'
      simp
    rw [show (pre ++ [v]).length = pre.length + 1 by simp] at ih
    first
      | (rw [e, ih]; simp)
      | (simp only [e]; rw [ih]; simp)
  | [], z :: zs, pre, h => by simp at h
  | v :: r, [], pre, h => by simp at h
def trZ : List Value := [.int .i64 0, .int .i64 0, .int .i64 0, .int .u64 0, .int .u64 0, .int .u64 0, .int .u64 0, .int .u64 0, .bool false, .bool false, .int .u64 0, .int .u64 0, .int .u64 0, .int .u64 0, .int .u64 0, .bool false, .bool false]
theorem there_new (w : World) (A : Array Value) (ta : TypeId) : (w.alloc (.cells A ta)).there w.heap.size 0 A.size := by
  intro j hj
  rw [Nat.zero_add]
  refine ⟨?_, by simp⟩
  rw [World.cell?_alloc_at _ _ _ _ rfl]
  simp [hj]
theorem wp_newTr {ops : Array Oper} {rest : List Oper} {x y : Operand} {ps : String} {af : Array Edge} {A : Act} {Q : Exit → Act → World → Prop} {w : World} {t : Tr} (_ : TrAt (w.alloc (.cells (trC t) 63)) w.heap.size 0 t) (hx : A.eval x = .pointer (some ⟨w.heap.size, 0, none⟩)) (hy : A.eval y = trV t)
    (g : wpList Tryd.prog ops Q rest (A.put none undef) (w.alloc (.cells (trC t) 63))) :
    wpList Tryd.prog ops Q ({ dst := none, op := .store 63 x y, type := 0, pos := ps, after := af, guard := none } :: rest) A (w.alloc (.cells #[.int .i64 0, .int .i64 0, .int .i64 0, .int .u64 0, .int .u64 0, .int .u64 0, .int .u64 0, .int .u64 0, .bool false, .bool false, .int .u64 0, .int .u64 0, .int .u64 0, .int .u64 0, .int .u64 0, .bool false, .bool false] 63)) := by
  have e := setCells_new w 63 (trC t).toList trZ [] (by rfl)
  refine wpList_store_mid rfl 63 x y rfl w.heap.size 0 (trC t) hx hy (there_new w _ _) (by kernel_rfl) (by simp [Value.oneCell']) ?_
  have e2 : (w.alloc (.cells #[.int .i64 0, .int .i64 0, .int .i64 0, .int .u64 0, .int .u64 0, .int .u64 0, .int .u64 0, .int .u64 0, .bool false, .bool false, .int .u64 0, .int .u64 0, .int .u64 0, .int .u64 0, .int .u64 0, .bool false, .bool false] 63)).setCells w.heap.size 0 (trC t).toList = w.alloc (.cells (trC t) 63) := e
  rw [e2]
  exact g
end Pln
end Go.Proofs.YtcfncgjpbdkagabDoor
