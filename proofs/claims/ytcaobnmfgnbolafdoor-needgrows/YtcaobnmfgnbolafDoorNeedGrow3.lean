
/- The law NeedGrows, at every input. -/
import Derived.Test.YtcaobnmfgnbolafDoorNeedGrow2
import Derived.Test.YtcaobnmfgnbolafDoorFrameSl
namespace Go.Proofs.YtcaobnmfgnbolafDoor
namespace Ned
open Go.RowKit Plain Num Pln Civ Crn Lai
set_option maxRecDepth 8000

theorem ints_of {w : World} {a : Option Addr} {len : Nat} {X : Nat → Nat → Int} (h : Frm.RowsIn w a len 1 X) : IntsAt w a len (fun i => X i 0) := by
  intro i hi
  obtain ⟨b, off, e, hb, hc⟩ := h i hi
  have h0 := hc 0 (by omega)
  exact ⟨b, off, e, hb, by simpa using h0.1, h0.2⟩
theorem ofIs_yes (t : Tr) (len : Nat) (hm : len ≤ maxLen) (hk : t.k = 1 ∨ t.k = 2) (ht : 1 ≤ t.tg) : OfIs t len (fun Y => podF t.k t.tg len Y) (fun Y => decide (t.ac < metF t.k len Y)) 0 :=
  fun w a c Y hY => of_pass t false a len c 0 0 _ 0 _ w hk fun w' hb => ofr_yes t a len c Y w' ht hm (hY.below hb (Nat.le_refl _))
theorem ofIs_no (t : Tr) (len : Nat) (hk : t.k ≠ 3) (h : ¬ ((t.k = 1 ∨ t.k = 2) ∧ 1 ≤ t.tg)) : OfIs t len (fun _ => 0) (fun _ => false) 1 := by
  intro w a c Y hY
  by_cases h1 : t.k = 1 ∨ t.k = 2
  · exact of_pass t false a len c 0 0 0 1 false w h1 fun w' _ => ofr_arg t false a len c w' (by omega)
  · exact of_arg t false a len c 0 0 w (fun e => h1 (Or.inl e)) (fun e => h1 (Or.inr e)) (Or.inl hk)
theorem grows_any (t : Tr) (a : Option Addr) (len cap : Nat) (X : Nat → Int) (i more : Int) (w : World) (hm : len ≤ maxLen) (hsz : len * 8 ≤ 140737488355328) (hX : IntsAt w a len X) :
    Calls Tryd.prog 4 #[trV t, .slice a len cap, .int .i64 i, .int .i64 more] w fun e w' => e = .returned (.bool true) ∧ Below w.heap.size w w' := by
  obtain ⟨k, tg, ac, ka, kb⟩ := t
  by_cases h : k = 3 ∨ len = 0
  · exact grow_skip k tg ac ka kb a len cap i more w h
  · have h3 : k ≠ 3 := fun e => h (Or.inl e)
    have h0 : 0 < len := Nat.pos_of_ne_zero fun e => h (Or.inr e)
    by_cases hy : (k = 1 ∨ k = 2) ∧ 1 ≤ tg
    · refine grow_go k tg ac ka kb a len cap X i more w h3 h0 hsz hX _ _ 0 (ofIs_yes ⟨k, tg, ac, ka, kb⟩ len hm hy.1 hy.2) (Or.inr ⟨rfl, fun Y hY => ⟨podF_mono k tg len hy.2 hY, fun hA => ?_, podF_ge k tg len X hy.2⟩⟩)
      have := metF_mono k len hY
      simp only [decide_eq_true_eq] at hA ⊢
      omega
    · exact grow_go k tg ac ka kb a len cap X i more w h3 h0 hsz hX _ _ 1 (ofIs_no ⟨k, tg, ac, ka, kb⟩ len h3 hy) (Or.inl ⟨rfl, fun _ => ⟨rfl, rfl⟩⟩)
end Ned
end Go.Proofs.YtcaobnmfgnbolafDoor
