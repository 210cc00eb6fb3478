/- What New answers: a Stable that knows nothing. -/
import Derived.Test.YtohbnchfjphaeaaGreatDoorPsStbNew
import Derived.Laws.EntriesVeiled
namespace Go.Proofs.YtohbnchfjphaeaaGreatDoor
namespace Stb
open Rw Go.RowKit
set_option maxRecDepth 8000

def nilV : Nat → Value := fun _ => .slice none 0 0
def newC (u d : Pc) : Array Value := #[.int .i64 (cl u.w), .int .i64 (cl u.n), .int .i64 (cl u.c), .int .i64 (cl u.p), .int .i64 (cl d.w), .int .i64 (cl d.n), .int .i64 (cl d.c), .int .i64 (cl d.p), .int .i64 0, .slice none 0 0, .slice none 0 0, .slice none 0 0, .int .i64 0, .slice none 0 0, .int .i64 0]
theorem new_at (w : World) (B : Nat) (e : TypeId) (u d : Pc) (hB : B ≤ w.heap.size) : SAt (w.alloc (.cells (newC u d) e)) B w.heap.size 0 nilV (new u d) := by
 have hc : ∀ j v, (newC u d)[j]? = some v → (w.alloc (.cells (newC u d) e)).cell? ⟨w.heap.size, j, none⟩ = some v := fun j v h => by simpa using h
 refine ⟨by simp, hB, fun j => by simp, fun j hj => ?_, fun i hi => ?_, fun i hi => ?_, fun i _ => by simp [nilV, Value.ownBlock], fun i j _ _ _ g h => by simp [nilV, Value.ownBlock] at h⟩
 ·rw [Nat.zero_add]; refine hc j _ ?_
  rcases hj with hj | rfl | rfl
  ·rcases (by omega : j = 0 ∨ j = 1 ∨ j = 2 ∨ j = 3 ∨ j = 4 ∨ j = 5 ∨ j = 6 ∨ j = 7 ∨ j = 8) with rfl | rfl | rfl | rfl | rfl | rfl | rfl | rfl | rfl <;> rfl
  ·rfl
  ·rfl
 ·rw [Nat.zero_add]; refine hc (pos i) _ ?_
  rcases (by omega : i = 0 ∨ i = 1 ∨ i = 2 ∨ i = 3) with rfl | rfl | rfl | rfl <;> rfl
 ·have : rws (new u d) i = [] := by rcases (by omega : i = 0 ∨ i = 1 ∨ i = 2 ∨ i = 3) with rfl | rfl | rfl | rfl <;> rfl
  rw [this]
  exact Own.nil _ _ _ _
def NwA (u d : Pc) (w : World) (e : Ending) (w' : World) : Prop := ∃ Q, e = .returned (.pointer (some ⟨Q, 0, none⟩)) ∧ SAt w' w.heap.size Q 0 nilV (new u d) ∧ Below w.heap.size w w'
set_option maxHeartbeats 8000000 in
theorem new_any (u d : Pc) (w : World) : Calls Tryz.prog 50 #[pcV u, pcV d] w (NwA u d w) := by
 obtain ⟨uw, un, uc, up⟩ := u
 obtain ⟨dw, dn, dc, dp⟩ := d
 have cU := fun K w h => clip2_any ⟨uw, un, uc, up⟩ K w h
 have cD := fun K w h => clip2_any ⟨dw, dn, dc, dp⟩ K w h
 simp only [pcV, clP] at cU cD
 unfold pcV
 go_enter Tryz.func50, Tryz.ntmps50
 go_wp2_with fail
 have p0 : (((w.alloc (.cells #[.int .i64 uw, .int .i64 un, .int .i64 uc, .int .i64 up] 23)).alloc (.cells #[.int .i64 dw, .int .i64 dn, .int .i64 dc, .int .i64 dp] 23)).alloc (.cells #[.func (.func 73) #[] #[]] 133)).cell? ⟨w.heap.size, 0, none⟩ = some (.int .i64 uw) := by simp [go_sem]
 have p1 : (((w.alloc (.cells #[.int .i64 uw, .int .i64 un, .int .i64 uc, .int .i64 up] 23)).alloc (.cells #[.int .i64 dw, .int .i64 dn, .int .i64 dc, .int .i64 dp] 23)).alloc (.cells #[.func (.func 73) #[] #[]] 133)).cell? ⟨w.heap.size, 1, none⟩ = some (.int .i64 un) := by simp [go_sem]
 have p2 : (((w.alloc (.cells #[.int .i64 uw, .int .i64 un, .int .i64 uc, .int .i64 up] 23)).alloc (.cells #[.int .i64 dw, .int .i64 dn, .int .i64 dc, .int .i64 dp] 23)).alloc (.cells #[.func (.func 73) #[] #[]] 133)).cell? ⟨w.heap.size, 2, none⟩ = some (.int .i64 uc) := by simp [go_sem]
 have p3 : (((w.alloc (.cells #[.int .i64 uw, .int .i64 un, .int .i64 uc, .int .i64 up] 23)).alloc (.cells #[.int .i64 dw, .int .i64 dn, .int .i64 dc, .int .i64 dp] 23)).alloc (.cells #[.func (.func 73) #[] #[]] 133)).cell? ⟨w.heap.size, 3, none⟩ = some (.int .i64 up) := by simp [go_sem]
 have p4 : (((w.alloc (.cells #[.int .i64 uw, .int .i64 un, .int .i64 uc, .int .i64 up] 23)).alloc (.cells #[.int .i64 dw, .int .i64 dn, .int .i64 dc, .int .i64 dp] 23)).alloc (.cells #[.func (.func 73) #[] #[]] 133)).cell? ⟨w.heap.size + 1, 0, none⟩ = some (.int .i64 dw) := by simp [go_sem]
 have p5 : (((w.alloc (.cells #[.int .i64 uw, .int .i64 un, .int .i64 uc, .int .i64 up] 23)).alloc (.cells #[.int .i64 dw, .int .i64 dn, .int .i64 dc, .int .i64 dp] 23)).alloc (.cells #[.func (.func 73) #[] #[]] 133)).cell? ⟨w.heap.size + 1, 1, none⟩ = some (.int .i64 dn) := by simp [go_sem]
 have p6 : (((w.alloc (.cells #[.int .i64 uw, .int .i64 un, .int .i64 uc, .int .i64 up] 23)).alloc (.cells #[.int .i64 dw, .int .i64 dn, .int .i64 dc, .int .i64 dp] 23)).alloc (.cells #[.func (.func 73) #[] #[]] 133)).cell? ⟨w.heap.size + 1, 2, none⟩ = some (.int .i64 dc) := by simp [go_sem]
 have p7 : (((w.alloc (.cells #[.int .i64 uw, .int .i64 un, .int .i64 uc, .int .i64 up] 23)).alloc (.cells #[.int .i64 dw, .int .i64 dn, .int .i64 dc, .int .i64 dp] 23)).alloc (.cells #[.func (.func 73) #[] #[]] 133)).cell? ⟨w.heap.size + 1, 3, none⟩ = some (.int .i64 dp) := by simp [go_sem]
 have hK : (((w.alloc (.cells #[.int .i64 uw, .int .i64 un, .int .i64 uc, .int .i64 up] 23)).alloc (.cells #[.int .i64 dw, .int .i64 dn, .int .i64 dc, .int .i64 dp] 23)).alloc (.cells #[.func (.func 73) #[] #[]] 133)).cell? ⟨w.heap.size + 1 + 1, 0, none⟩ = some (.func (.func 73) #[] #[]) := by simp [go_sem]
 have hb : Below w.heap.size w (((w.alloc (.cells #[.int .i64 uw, .int .i64 un, .int .i64 uc, .int .i64 up] 23)).alloc (.cells #[.int .i64 dw, .int .i64 dn, .int .i64 dc, .int .i64 dp] 23)).alloc (.cells #[.func (.func 73) #[] #[]] 133)) := (((Below.refl _ _).alloc (Nat.le_refl _) _).alloc (by simp) _).alloc (by simp; omega) _
 have hsz : (((w.alloc (.cells #[.int .i64 uw, .int .i64 un, .int .i64 uc, .int .i64 up] 23)).alloc (.cells #[.int .i64 dw, .int .i64 dn, .int .i64 dc, .int .i64 dp] 23)).alloc (.cells #[.func (.func 73) #[] #[]] 133)).heap.size = w.heap.size + 3 := by simp
 generalize ((w.alloc (.cells #[.int .i64 uw, .int .i64 un, .int .i64 uc, .int .i64 up] 23)).alloc (.cells #[.int .i64 dw, .int .i64 dn, .int .i64 dc, .int .i64 dp] 23)).alloc (.cells #[.func (.func 73) #[] #[]] 133) = W at *
 have hKd : W.drew.cell? ⟨w.heap.size + 1 + 1, 0, none⟩ = some (.func (.func 73) #[] #[]) := hK
 have HB : Hid (Below w.heap.size w W) := hb
 have hl1 : w.heap.size + 1 < W.drew.heap.size := by show _ < W.heap.size; omega
 have hl2 : w.heap.size + 1 + 1 < W.drew.heap.size := by show _ < W.heap.size; omega
 clear hb hsz
 go_region_with (first
  | (go_at_call 74; (with_reducible refine (cU _ _ hKd).mono ?_); rintro e w2 ⟨rfl, hb2⟩; have hK2 := (hb2.cell (p := ⟨w.heap.size + 1 + 1, 0, none⟩) hl2).trans hKd; have d0 := (hb2.cell (p := ⟨w.heap.size + 1, 0, none⟩) hl1).trans p4; have d1 := (hb2.cell (p := ⟨w.heap.size + 1, 1, none⟩) hl1).trans p5; have d2 := (hb2.cell (p := ⟨w.heap.size + 1, 2, none⟩) hl1).trans p6; have d3 := (hb2.cell (p := ⟨w.heap.size + 1, 3, none⟩) hl1).trans p7)
  | (go_at_call 74; (with_reducible refine (cD _ _ hK2).mono ?_); rintro e w3 ⟨rfl, hb3⟩))
 all_goals
  have hbb : Below w.heap.size w w3 := (HB.out.drew.trans (hb2.mono (HB.out.size))).trans (hb3.mono (Nat.le_trans HB.out.size hb2.size))
  have HN : Hid (NwA ⟨uw, un, uc, up⟩ ⟨dw, dn, dc, dp⟩ w (.returned (.pointer (some ⟨w3.heap.size, 0, none⟩))) (w3.alloc (.cells (newC ⟨uw, un, uc, up⟩ ⟨dw, dn, dc, dp⟩) 82))) := ⟨_, rfl, new_at w3 w.heap.size _ _ _ hbb.size, hbb.alloc hbb.size _⟩
  go_wp2
  go_ret
  exact HN.out
end Stb
end Go.Proofs.YtohbnchfjphaeaaGreatDoor
