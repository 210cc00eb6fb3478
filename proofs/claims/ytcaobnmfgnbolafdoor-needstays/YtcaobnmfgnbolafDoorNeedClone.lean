
/- What slices.Clone answers at numbers. -/
import Derived.Test.YtcaobnmfgnbolafDoorNeedWalks
import Derived.OwnWalk
import Derived.Laws.OwnMore
import Derived.Lib.SliceRun
namespace Go.Proofs.YtcaobnmfgnbolafDoor
namespace Ned
open Go.RowKit Plain Num Pln Civ Crn Lai
set_option maxRecDepth 8000

theorem info_int : (Tryd.prog.info? 3).map (fun i => (i.zero, i.size, i.bytes)) = some (some (.int .i64 0), 1, 8) := by kernel_rfl
theorem info_parts {P : Program} {t : TypeId} {z : Value} {a b : Nat} (h : (P.info? t).map (fun i => (i.zero, i.size, i.bytes)) = some (some z, a, b)) : ∃ i, P.info? t = some i ∧ i.zero = some z ∧ i.size = a ∧ i.bytes = b := by
  cases hi : P.info? t with
  | none => rw [hi] at h; cases h
  | some i =>
    rw [hi] at h
    simp only [Option.map_some, Option.some.injEq, Prod.mk.injEq] at h
    exact ⟨i, rfl, h.1, h.2.1, h.2.2⟩
/-- the numbers as cells -/
def celN (X : Nat → Int) (len : Nat) : List Value := (List.range len).map fun i => Value.int .i64 (X i)
theorem celN_len (X : Nat → Int) (len : Nat) : (celN X len).length = len := by simp [celN]
theorem celN_get (X : Nat → Int) (len i : Nat) (h : i < len) : (celN X len)[i]? = some (.int .i64 (X i)) := by simp [celN, h]
set_option maxHeartbeats 2000000 in
theorem clone_any (a : Option Addr) (len cap : Nat) (X : Nat → Int) (w : World) (h0 : 0 < len) (hsz : len * 8 ≤ 140737488355328) (hX : IntsAt w a len X) :
    Calls Tryd.prog 12 #[.slice a len cap] w fun e w' => ∃ b c, e = .returned (.slice (some ⟨b, 0, none⟩) len c) ∧ w.heap.size ≤ b ∧ b < w'.heap.size ∧ (∀ i, i < len → w'.cell? ⟨b, i, none⟩ = some (.int .i64 (X i))) ∧ (∀ i, w'.frozen? ⟨b, i, none⟩ = false) ∧ Below w.heap.size w w' := by
  obtain ⟨g, off, rfl, hg, hc, hb⟩ := hX 0 h0
  obtain ⟨i0, hi, hz0, hz1, hz2⟩ := info_parts info_int
  have HX : Hid (∀ j u, (celN X len)[j]? = some u → w.cell? ⟨g, off + j, none⟩ = some u) := by
    intro j u hj
    have hlt : j < len := by have := (List.getElem?_eq_some_iff.1 hj).1; rwa [celN_len] at this
    rw [celN_get X len j hlt] at hj
    cases hj
    obtain ⟨g', off', e1, _, e2, _⟩ := hX j hlt
    cases e1
    exact e2
  have q : ∀ (w : World) (a : Option Addr) (n c n' c' : Nat), (binOp .eql 42 (.slice a n c) (.slice none n' c')).run Tryd.prog w = .ok (.bool a.isNone) w := fun w a n c n' c' => Lib.run_eql_slice_nil w _ _ a n c n' c' Tryd.underlying42
  clear hX hc hb
  go_enter Tryd.func12, Tryd.ntmps12
  go_wp2_with (at_builtin; (refine wpList_append_own _ rfl _ _ 42 rfl w.heap.size 3 i0 (.int .i64 0) 1 8 Tryd.underlying42 hi hz0 hz1 hz2 rfl (by decide) _ _ _ rfl (World.ownsRow_made w #[] 0 (Nat.le_refl _) (Nat.zero_le _) (by simp)) ⟨g, off, none⟩ len cap (celN X len) rfl ?qc1 ?qc2 ?qc3 ?qc4 ?qc5 ?qc6 ?_))
  case qc1 => rw [celN_len, Nat.mul_one]
  case qc2 =>
    intro j u hj
    rw [Addr.add_lit]
    exact Lib.cell?_alloc_some _ (HX.out j u hj)
  case qc3 =>
    intro u hu
    obtain ⟨i, _, rfl⟩ := List.mem_map.1 hu
    rfl
  case qc4 => unfold maxLen; omega
  case qc5 => omega
  case qc6 => simp
  intro v' w1 hown hgrow hnil
  go_wp2
  go_ret
  have ho : w1.ownsRow w.heap.size 3 1 v' len (celN X len) := by simpa using hown
  rcases ho.2 with ⟨_, h1⟩ | ⟨b, c, cur, rfl, _⟩
  · omega
  · refine ⟨b, c, rfl, (ho.lt b rfl).1, (ho.lt b rfl).2, fun i hi => ?_, fun i => ho.frozenAt i, ?_⟩
    · rw [ho.cellAt i (by omega)]; exact celN_get X len i hi
    · exact ((Below.refl _ w).alloc (Nat.le_refl _) _).grown hgrow (by simp) (by intro k hk; simp [Value.ownBlock] at hk; omega)
end Ned
end Go.Proofs.YtcaobnmfgnbolafDoor
