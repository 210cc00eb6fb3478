/- What the document's answer (tideref) says of a number of one or two digits: digits. An item, read by its pieces: it is the same. -/
import Derived.Test.YtcaobnmfgnbolabDoorCutWalks
import Derived.Test.YtcaobnmfgnbolabDoorParsePlain
import Derived.Test.YtcaobnmfgnbolabDoorPk1
namespace Go.Proofs.YtcaobnmfgnbolabDoor
namespace Pie
open Go.RowKit Crn
set_option maxRecDepth 8000

/-- what digits(s, 2) tells -/
def dgV (t : List UInt8) : Int := match num2 t with
  | some n => n
  | none => -1
theorem dg_none {t : List UInt8} (h : num2 t = none) : dgV t = -1 := by unfold dgV; rw [h]
theorem dg_some {t : List UInt8} {n : Int} (h : num2 t = some n) : dgV t = n := by unfold dgV; rw [h]
theorem dgy {a : UInt8} (h : dg a = true) : 48 ≤ (a.toNat : Int) ∧ (a.toNat : Int) ≤ 57 := by unfold dg at h; rw [decide_eq_true_eq] at h; omega
theorem dgn {a : UInt8} (h : dg a = false) : (a.toNat : Int) < 48 ∨ 57 < (a.toNat : Int) := by unfold dg at h; rw [decide_eq_false_iff_not] at h; omega
theorem ret_i {a b : Int} (h : a = b) : Ending.returned (.int .i64 a) = .returned (.int .i64 b) := by rw [h]
/-- the number of the first k digits -/
def val (t : List UInt8) : Nat → Int
  | 0 => 0
  | k + 1 => val t k * 10 + ((t.getD k 0).toNat : Int) - 48
theorem val_bd (t : List UInt8) : ∀ k, k ≤ 3 → (∀ j, j < k → dg (t.getD j 0) = true) → 0 ≤ val t k ∧ val t k ≤ 999
  | 0, _, _ => ⟨Int.le_refl 0, (by decide : (0 : Int) ≤ 999)⟩
  | 1, _, h => by
    have g := dgy (h 0 (by omega))
    show 0 ≤ 0 * 10 + ((t.getD 0 0).toNat : Int) - 48 ∧ 0 * 10 + ((t.getD 0 0).toNat : Int) - 48 ≤ 999
    omega
  | 2, _, h => by
    have g := dgy (h 0 (by omega))
    have g1 := dgy (h 1 (by omega))
    show 0 ≤ (0 * 10 + ((t.getD 0 0).toNat : Int) - 48) * 10 + ((t.getD 1 0).toNat : Int) - 48 ∧ (0 * 10 + ((t.getD 0 0).toNat : Int) - 48) * 10 + ((t.getD 1 0).toNat : Int) - 48 ≤ 999
    omega
  | 3, _, h => by
    have g := dgy (h 0 (by omega))
    have g1 := dgy (h 1 (by omega))
    have g2 := dgy (h 2 (by omega))
    show 0 ≤ ((0 * 10 + ((t.getD 0 0).toNat : Int) - 48) * 10 + ((t.getD 1 0).toNat : Int) - 48) * 10 + ((t.getD 2 0).toNat : Int) - 48 ∧ ((0 * 10 + ((t.getD 0 0).toNat : Int) - 48) * 10 + ((t.getD 1 0).toNat : Int) - 48) * 10 + ((t.getD 2 0).toNat : Int) - 48 ≤ 999
    omega
theorem val_num {t : List UInt8} (h1 : 1 ≤ t.length) (h2 : t.length ≤ 2) (h : ∀ j, j < t.length → dg (t.getD j 0) = true) : num2 t = some (val t t.length) := by
  match t, h1, h2 with
  | [a], _, _ =>
    have g : dg a = true := h 0 (by simp)
    unfold num2; dsimp only; rw [if_pos g]
    show some ((a.toNat : Int) - 48) = some (0 * 10 + (a.toNat : Int) - 48)
    congr 1; omega
  | [a, b], _, _ =>
    have g : dg a = true := h 0 (by simp)
    have g1 : dg b = true := h 1 (by simp)
    unfold num2; dsimp only; rw [if_pos ⟨g, g1⟩]
    show some (10 * ((a.toNat : Int) - 48) + ((b.toNat : Int) - 48)) = some ((0 * 10 + (a.toNat : Int) - 48) * 10 + (b.toNat : Int) - 48)
    congr 1; omega
theorem num_len {t : List UInt8} (h : ¬ (1 ≤ t.length ∧ t.length ≤ 2)) : num2 t = none := by
  match t, h with
  | [], _ => rfl
  | [a], h => exact absurd ⟨by simp, by simp⟩ h
  | [a, b], h => exact absurd ⟨by simp, by simp⟩ h
  | a :: b :: c :: r, _ => rfl
def DgR (t : List UInt8) (w : World) (n i : Value) (wr : World) : Prop := ∃ k : Nat, k ≤ t.length ∧ k ≤ 3 ∧ i = .int .i64 k ∧ n = .int .i64 (val t k) ∧ (∀ j, j < k → dg (t.getD j 0) = true) ∧ wr = w

set_option maxHeartbeats 8000000 in
theorem rdigits (t : List UInt8) (w : World) (hl : t.length ≤ 1000) :
    Calls Tryd.prog 139 #[strV t, .int .i64 2] w fun e w' => e = .returned (.int .i64 (dgV t)) ∧ w' = w := by
  have hsz : (⟨t.toArray⟩ : ByteArray).size = t.length := rfl
  go_enter Tryd.func139, Tryd.ntmps139
  go_wp2
  go_loopw [5, 6] (fun n i wr => DgR t w n i wr) (fun _ i _ => 4 - (intOf i).toNat)
  case atStart => exact ⟨0, Nat.zero_le _, by omega, rfl, rfl, (fun j hj => absurd hj (by omega)), rfl⟩
  case round =>
    obtain ⟨k, hk, hk3, rfl, rfl, hd0, h9⟩ := hrel
    have h8 := h9.symm
    clear h9
    subst h8
    have hv := val_bd t k hk3 hd0
    have HD : Hid (∀ j, j < k → dg (t.getD j 0) = true) := hd0
    clear hd0
    by_cases hlt : k < t.length
    · have hlt' : (k : Int) < t.length := by omega
      by_cases hk2 : k ≤ 2
      · have hk2' : (k : Int) ≤ 2 := by omega
        obtain ⟨x, hx⟩ : ∃ x, t[k]? = some x := ⟨t[k], by simp [hlt]⟩
        have hxk : (⟨t.toArray⟩ : ByteArray)[k]'(by rw [hsz]; exact hlt) = x := by
          have : t[k] = x := by simpa [hlt] using hx
          exact this
        have HX : Hid (t.getD k 0 = x) := by unfold Hid; rw [List.getD_eq_getElem?_getD, hx]; rfl
        have hmem : x ∈ t := List.mem_of_getElem? hx
        have hxu : (x.toNat : Int) ≤ 255 := by have := x.toNat_lt; omega
        cases hd : dg x
        · have HN : Hid (dgV t = -1) := dg_none (num2_not hd hmem)
          clear hx hmem
          rcases dgn hd with g | g
          · clear hd
            go_wp2
            go_ret
            exact ⟨ret_i HN.out.symm, rfl⟩
          · clear hd
            go_wp2
            go_ret
            exact ⟨ret_i HN.out.symm, rfl⟩
        · have g := dgy hd
          have HE : Hid (dg x = true) := hd
          clear hx hmem hd
          generalize hvk : val t k = vk at *
          have HV : Hid (val t k = vk) := hvk
          clear hvk
          go_wp2
          go_roundw
          case rel =>
            refine ⟨k + 1, by omega, by omega, rfl, ?_, fun j hj => ?_, rfl⟩
            · rw [show val t (k + 1) = val t k * 10 + ((t.getD k 0).toNat : Int) - 48 from rfl, HV.out, HX.out]
            · by_cases e : j = k
              · rw [e, HX.out]; exact HE.out
              · exact HD.out j (by omega)
          case measure => simp [intOf]; omega
      · have hk2' : ¬ (k : Int) ≤ 2 := by omega
        have HN : Hid (dgV t = -1) := dg_none (num_len (by omega))
        have cI := RCiv.in_any (t.length : Int) 1 2 w
        rw [show RCiv.inB (t.length : Int) 1 2 = false by unfold RCiv.inB; rw [decide_eq_false_iff_not]; omega] at cI
        go_wp2_with (go_at_call 27; (with_reducible refine cI.mono ?_); rintro e w' ⟨rfl, rfl⟩)
        go_ret
        exact ⟨ret_i HN.out.symm, rfl⟩
    · obtain rfl : k = t.length := by omega
      have cI := RCiv.in_any (t.length : Int) 1 2 w
      by_cases h12 : 1 ≤ t.length ∧ t.length ≤ 2
      · have HN : Hid (dgV t = val t t.length) := dg_some (val_num h12.1 h12.2 HD.out)
        rw [show RCiv.inB (t.length : Int) 1 2 = true by unfold RCiv.inB; rw [decide_eq_true_eq]; omega] at cI
        generalize val t t.length = vk at *
        go_wp2_with (go_at_call 27; (with_reducible refine cI.mono ?_); rintro e w' ⟨rfl, rfl⟩)
        go_ret
        exact ⟨ret_i HN.out.symm, rfl⟩
      · have HN : Hid (dgV t = -1) := dg_none (num_len h12)
        rw [show RCiv.inB (t.length : Int) 1 2 = false by unfold RCiv.inB; rw [decide_eq_false_iff_not]; omega] at cI
        go_wp2_with (go_at_call 27; (with_reducible refine cI.mono ?_); rintro e w' ⟨rfl, rfl⟩)
        go_ret
        exact ⟨ret_i HN.out.symm, rfl⟩
end Pie
end Go.Proofs.YtcaobnmfgnbolabDoor
namespace Go.Proofs.YtcaobnmfgnbolabDoor
namespace Pie
open Crn

theorem dgV_bd (t : List UInt8) : -1 ≤ dgV t ∧ dgV t ≤ 99 := by
  unfold dgV
  cases h : num2 t with
  | none => decide
  | some n => have := num2_bd h; dsimp only; omega
theorem row_no45 {lo hi : Int} {t : List UInt8} (h0 : 0 ≤ lo) (hs : t ≠ [42]) (hc : (45 : UInt8) ∉ t) :
    (¬ (dgV t < lo ∨ hi < dgV t) → rowS lo hi t = some (dgV t, dgV t, true)) ∧ ((dgV t < lo ∨ hi < dgV t) → rowS lo hi t = none) := by
  unfold rowS dgV
  rw [if_neg hs, cutS_none hc]
  dsimp only
  cases h : num2 t with
  | none => exact ⟨fun g => absurd (Or.inl (by dsimp only; omega)) g, fun _ => rfl⟩
  | some n =>
    dsimp only
    exact ⟨fun g => if_pos (by omega), fun g => if_neg (by omega)⟩
theorem row_one45 {lo hi : Int} {u v : List UInt8} (h0 : 0 ≤ lo) (hu : (45 : UInt8) ∉ u) :
    (¬ (dgV u < lo ∨ hi < dgV v ∨ dgV v < dgV u) → rowS lo hi (u ++ 45 :: v) = some (dgV u, dgV v, false)) ∧ ((dgV u < lo ∨ hi < dgV v ∨ dgV v < dgV u) → rowS lo hi (u ++ 45 :: v) = none) := by
  have hs : u ++ 45 :: v ≠ [42] := fun e => by
    have : (45 : UInt8) ∈ ([42] : List UInt8) := by rw [← e]; simp
    simp at this
  unfold rowS dgV
  rw [if_neg hs, cutS_hit hu]
  dsimp only
  cases h : num2 u with
  | none => exact ⟨fun g => absurd (Or.inl (by dsimp only; omega)) g, fun _ => rfl⟩
  | some a =>
    have ha := num2_bd h
    cases h2 : num2 v with
    | none => exact ⟨fun g => absurd (Or.inr (Or.inr (by dsimp only; omega))) g, fun _ => rfl⟩
    | some b =>
      dsimp only
      exact ⟨fun g => if_pos (by omega), fun g => if_neg (by omega)⟩
theorem row_more45 {lo hi : Int} {u v : List UInt8} (hu : (45 : UInt8) ∉ u) (hv : (45 : UInt8) ∈ v) : rowS lo hi (u ++ 45 :: v) = none := by
  have hs : u ++ 45 :: v ≠ [42] := fun e => by
    have : (45 : UInt8) ∈ ([42] : List UInt8) := by rw [← e]; simp
    simp at this
  unfold rowS
  rw [if_neg hs, cutS_hit hu]
  dsimp only
  rw [num2_not (c := 45) (by decide) hv]
  cases num2 u <;> rfl
theorem item_more47 {lo hi : Int} {x y : List UInt8} (hx : (47 : UInt8) ∉ x) (hy : (47 : UInt8) ∈ y) : itemS lo hi (x ++ 47 :: y) = none := by
  unfold itemS
  rw [cutS_hit hx]
  dsimp only
  rw [num2_not (c := 47) (by decide) hy]
  cases rowS lo hi x with
  | none => rfl
  | some p => obtain ⟨a, b, s⟩ := p; cases s <;> rfl
theorem item_0 {lo hi : Int} {t : List UInt8} (h : (47 : UInt8) ∉ t) : (∀ a b s, rowS lo hi t = some (a, b, s) → itemS lo hi t = some (a, b, 1)) ∧ (rowS lo hi t = none → itemS lo hi t = none) := by
  unfold itemS
  rw [cutS_none h]
  dsimp only
  exact ⟨fun a b s e => by rw [e], fun e => by rw [e]⟩
theorem item_1 {lo hi : Int} {x y : List UInt8} (hx : (47 : UInt8) ∉ x) :
    (∀ a b, 1 ≤ dgV y → rowS lo hi x = some (a, b, false) → itemS lo hi (x ++ 47 :: y) = some (a, b, dgV y)) ∧ (dgV y < 1 → itemS lo hi (x ++ 47 :: y) = none) ∧ (rowS lo hi x = none → itemS lo hi (x ++ 47 :: y) = none) ∧ (∀ a b, rowS lo hi x = some (a, b, true) → itemS lo hi (x ++ 47 :: y) = none) := by
  unfold itemS dgV
  rw [cutS_hit hx]
  dsimp only
  refine ⟨fun a b h e => ?_, fun h => ?_, fun e => by rw [e], fun a b e => by rw [e]⟩
  · rw [e]
    cases h2 : num2 y with
    | none => rw [h2] at h; exact absurd h (by decide)
    | some st => rw [h2] at h; dsimp only at h ⊢; rw [if_pos h]
  · cases h2 : num2 y with
    | none =>
      cases rowS lo hi x with
      | none => rfl
      | some p => obtain ⟨a, b, s⟩ := p; cases s <;> rfl
    | some st =>
      rw [h2] at h
      dsimp only at h
      cases h3 : rowS lo hi x with
      | none => rfl
      | some p =>
        obtain ⟨a, b, s⟩ := p
        cases s
        · dsimp only; rw [if_neg (by omega)]
        · rfl
end Pie
end Go.Proofs.YtcaobnmfgnbolabDoor
