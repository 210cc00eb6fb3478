
/- The law NeedStays, at every input. -/
import Derived.Test.YtcaobnmfgnbolafDoorNeedStay
import Derived.Test.YtcaobnmfgnbolafDoorSpanWalks
import Derived.Test.YtcaobnmfgnbolafDoorFrameSl
namespace Go.Proofs.YtcaobnmfgnbolafDoor
namespace Ned
open Go.RowKit Plain Num Pln Civ Crn Lai
set_option maxRecDepth 8000

theorem ints_of {w : World} {a : Option Addr} {len : Nat} {X : Nat → Nat → Int} (h : Frm.RowsIn w a len 1 X) : IntsAt w a len (fun i => X i 0) := by
  intro i hi
  obtain ⟨b, off, e, hb, hc⟩ := h i hi
  have h0 := hc 0 (by omega)
  exact ⟨b, off, e, hb, by simpa using h0.1, h0.2⟩
/-- span.In tells one thing, at whatever world -/
theorem in_one (a b : K) (sec shift : Int) (w : World) (hB : BdsAt w) (ua : Us a) (ub : Us b) :
    ∃ (r : Bool) (E : Int), ∀ w', Below w.heap.size w w' → Calls Tryd.prog 28 #[spanV a b, .int .i64 sec, .int .i64 shift] w' fun e w'' => e = .returned (.tuple #[.bool r, .int .i64 E]) ∧ Below w'.heap.size w' w'' := by
  classical
  by_cases h : kc a = true ∧ kc b = true ∧ tmB sec = true ∧ shB shift = true
  · by_cases g : InP (mt a) (mt b) (minOf sec shift) shift
    · exact ⟨true, 0, fun w' hb => (sin_yes a b sec shift w' (hB.below hb (Nat.le_refl _)) ua ub h.1 h.2.1 h.2.2.1 h.2.2.2).mono fun e w'' ⟨r, he, hr, hb⟩ => ⟨by rw [he, hr.2 g], hb⟩⟩
    · exact ⟨false, 0, fun w' hb => (sin_yes a b sec shift w' (hB.below hb (Nat.le_refl _)) ua ub h.1 h.2.1 h.2.2.1 h.2.2.2).mono fun e w'' ⟨r, he, hr, hb⟩ => ⟨by rw [he, show r = false by cases r; rfl; exact absurd (hr.1 rfl) g], hb⟩⟩
  · refine ⟨false, 1, fun w' hb => sin_no a b sec shift w' (hB.below hb (Nat.le_refl _)) ?_⟩
    cases h1 : kc a
    · exact Or.inl rfl
    · cases h2 : kc b
      · exact Or.inr (Or.inl rfl)
      · cases h3 : tmB sec
        · exact Or.inr (Or.inr (Or.inl rfl))
        · cases h4 : shB shift
          · exact Or.inr (Or.inr (Or.inr rfl))
          · exact absurd ⟨h1, h2, h3, h4⟩ h
/-- Of tells one thing, at whatever world -/
theorem of_one (t : Tr) (a : Option Addr) (len cap : Nat) (X : Nat → Int) (w : World) (hB : BdsAt w) (ua : Us t.a) (ub : Us t.b) (hm : len ≤ maxLen) (hX : IntsAt w a len X) :
    ∃ (p F : Int) (b : Bool), ∀ w', Below w.heap.size w w' → Calls Tryd.prog 10 #[trV t, rdV false a len cap, .int .i64 0, .int .i64 0] w' fun e w'' => e = .returned (.tuple #[needV p b, .int .i64 F]) ∧ Below w'.heap.size w' w'' := by
  by_cases hk : t.k = 1 ∨ t.k = 2
  · by_cases ht : 1 ≤ t.tg
    · exact ⟨_, _, _, fun w' hb => of_pass t false a len cap 0 0 _ 0 _ w' hk fun w'' hb' => ofr_yes t a len cap X w'' ht hm ((hX.below hb (Nat.le_refl _)).below hb' (Nat.le_refl _))⟩
    · exact ⟨_, _, _, fun w' _ => of_pass t false a len cap 0 0 0 1 false w' hk fun w'' _ => ofr_arg t false a len cap w'' (by omega)⟩
  · have h1 : t.k ≠ 1 := fun e => hk (Or.inl e)
    have h2 : t.k ≠ 2 := fun e => hk (Or.inr e)
    by_cases h3 : t.k ≠ 3 ∨ t.tg < 1
    · exact ⟨_, _, _, fun w' _ => of_arg t false a len cap 0 0 w' h1 h2 h3⟩
    · obtain ⟨k, tg, ac, ka, kb⟩ := t
      dsimp only at *
      obtain rfl : k = 3 := by omega
      obtain ⟨r, E, c⟩ := in_one ka kb 0 0 w hB ua ub
      exact ⟨_, _, _, fun w' hb => of_span tg ac ka kb false a len cap 0 0 E r w' (by omega) fun w'' hb' => c w'' (hb.trans (hb'.mono hb.size))⟩
theorem stays_any (now : Int) (t : Tr) (a : Option Addr) (len cap : Nat) (X : Nat → Int) (tol : Int) (w : World) (hB : BdsAt w) (ua : Us t.a) (ub : Us t.b) (hm : len ≤ maxLen) (hX : IntsAt w a len X) :
    Calls Tryd.prog 5 #[.int .i64 now, trV t, .slice a len cap, .int .i64 tol] w fun e w' => e = .returned (.bool true) ∧ Below w.heap.size w w' := by
  by_cases h : (t.k = 1 ∨ t.k = 2) ∧ (0 ≤ now ∧ now ≤ 50 ∧ 0 ≤ tol ∧ tol ≤ 1000) ∧ 1 ≤ t.tg
  · obtain ⟨hk, ⟨h1, h2, h3, h4⟩, ht⟩ := h
    obtain ⟨s1, s2, s3⟩ := stays (now := now) (tol := tol) (k := t.k) (tg := t.tg) (len := len) (X := X) h4
    exact stay_ok now tol t a len cap _ _ _ _ w
      (fun w' hb => want_yes now tol t a len cap X w' hk h1 h2 h3 h4 ht hm (hX.below hb (Nat.le_refl _)))
      (fun w' hb => of_pass t false a len cap 0 0 _ 0 _ w' hk fun w'' hb' => ofr_yes t a len cap X w'' ht hm ((hX.below hb (Nat.le_refl _)).below hb' (Nat.le_refl _)))
      (fun w' hb => want_yes now 1000 t a len cap X w' hk h1 h2 (by decide) (by decide) ht hm (hX.below hb (Nat.le_refl _)))
      s1 s2 s3
  · obtain ⟨p, F, b, c3⟩ := of_one t a len cap X w hB ua ub hm hX
    refine stay_err now tol t a len cap p F b w (fun w' _ => ?_) c3
    by_cases hk : t.k = 1 ∨ t.k = 2
    · by_cases hr : now < 0 ∨ 50 < now ∨ tol < 0 ∨ 1000 < tol
      · exact want_out now tol t false a len cap w' hk hr
      · exact want_err now tol t false a len cap w' 1 hk (by omega) (by omega) (by omega) (by omega) (by decide) fun w'' _ => ofr_arg t false a len cap w'' (by
          rcases Int.lt_or_le t.tg 1 with g | g
          · exact g
          · exact absurd ⟨hk, by omega, g⟩ h)
    · exact want_kind now tol t false a len cap w' (fun e => hk (Or.inl e)) (fun e => hk (Or.inr e))
end Ned
end Go.Proofs.YtcaobnmfgnbolafDoor
