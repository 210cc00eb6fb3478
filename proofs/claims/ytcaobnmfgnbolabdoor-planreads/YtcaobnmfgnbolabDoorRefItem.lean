/- What the document's answer (tideref) says of an item: cronItem. -/
import Derived.Test.YtcaobnmfgnbolabDoorRefPieces
import Derived.Test.YtcaobnmfgnbolabDoorPk20
namespace Go.Proofs.YtcaobnmfgnbolabDoor
namespace Pie
open Go.RowKit Crn
set_option maxRecDepth 8000

theorem info_i : (Tryd.prog.info? 3).map (fun i => (i.zero, i.size, i.bytes)) = some (some (.int .i64 0), 1, 8) := by kernel_rfl
/-- the first k numbers of an item -/
def nums (a st : Int) (k : Nat) : List Value := (List.range k).map fun (j : Nat) => .int .i64 (a + st * (j : Int))
theorem nums_step (a st : Int) (k : Nat) : nums a st k ++ [.int .i64 (a + st * (k : Int))] = nums a st (k + 1) := by unfold nums; rw [List.range_succ, List.map_append]; rfl
theorem mul_step {a st m : Int} {k : Nat} (h : m = a + st * (k : Int)) : m + st = a + st * ((k + 1 : Nat) : Int) := by
  rw [h, Int.natCast_add, Int.mul_add]; simp; omega
/-- where cronItem stands: k numbers are made -/
def ItR (a b st : Int) (w : World) (v n : Value) (wr : World) : Prop := ∃ (k : Nat) (m : Int) (ao : Option Addr) (cw : Nat), v = .slice ao k cw ∧ n = .int .i64 m ∧ m = a + st * (k : Int) ∧ a ≤ m ∧ m ≤ b + st ∧ (k : Int) ≤ m - a ∧ wr.ownsRow w.heap.size 3 1 v k (nums a st k) ∧ Below w.heap.size w wr
theorem below_dN {B : Nat} {w w' : World} (h : Below B w w') (q : Nat) : Below B w (w'.drewN q) := ⟨h.os, h.tape, h.output, h.size, h.block⟩
/-- what cronItem tells -/
def RItemAns (lo hi : Int) (t : List UInt8) (w : World) (e : Ending) (w' : World) : Prop := (itemS lo hi t = none ∧ e = .returned (.slice none 0 0)) ∨
  ∃ (a b st : Int) (k g cw : Nat), itemS lo hi t = some (a, b, st) ∧ e = .returned (.slice (some ⟨g, 0, none⟩) k cw) ∧ 1 ≤ k ∧ (k : Int) ≤ b + st - a ∧ b < a + st * (k : Int) ∧ a + st * (k : Int) ≤ b + st ∧ w.heap.size ≤ g ∧ g < w'.heap.size ∧ ∀ j, j < k → w'.cell? ⟨g, j, none⟩ = some (.int .i64 (a + st * (j : Int)))
theorem item_end {lo hi a b st m : Int} {t : List UInt8} {w wr : World} {ao : Option Addr} {k cw : Nat} (h : itemS lo hi t = some (a, b, st)) (hm : m = a + st * (k : Int)) (h1 : b < m) (h2 : m ≤ b + st) (h3 : (k : Int) ≤ m - a) (hab : a ≤ b)
    (hown : wr.ownsRow w.heap.size 3 1 (.slice ao k cw) k (nums a st k)) : RItemAns lo hi t w (.returned (.slice ao k cw)) wr := by
  have hk : 1 ≤ k := by
    rcases Nat.eq_zero_or_pos k with g | g
    · rw [g] at hm; simp at hm; omega
    · exact g
  obtain ⟨g4, hv⟩ : ∃ g4, ao = some ⟨g4, 0, none⟩ := by
    rcases hown.2 with ⟨_, h⟩ | ⟨g4, cap3, _, h, _⟩
    · omega
    · cases h; exact ⟨g4, rfl⟩
  subst hv
  refine Or.inr ⟨a, b, st, k, g4, cw, h, rfl, hk, by omega, by omega, by omega, (hown.lt g4 rfl).1, (hown.lt g4 rfl).2, fun j hj => ?_⟩
  rw [hown.cellAt j (by omega)]
  simp [nums, hj]

set_option maxHeartbeats 4000000 in
theorem ri_many (t : List UInt8) (lo hi : Int) (w : World) (hl : t.length ≤ 1000) (hp : 2 < (pieces 47 t).length) (hn : itemS lo hi t = none) :
    Calls Tryd.prog 113 #[strV t, .int .i64 lo, .int .i64 hi] w fun e w' => RItemAns lo hi t w e w' ∧ Below w.heap.size w w' := by
  have c47 : ∀ w, Calls Tryd.prog 46 #[strV t, .int .u8 47] w _ := fun w => rpieces t 47 w (by omega)
  have hpl : (pieces 47 t).length ≤ 1001 := by rw [pieces_len]; have := List.count_le_length (a := (47 : UInt8)) (l := t); omega
  have HN : Hid (itemS lo hi t = none) := hn
  generalize pieces 47 t = ps at *
  have hp' : (2 : Int) < (ps.length : Int) := by omega
  go_enter Tryd.func113, Tryd.ntmps113
  go_wp2_with (go_at_call 46; (with_reducible refine (c47 _).mono ?_); rintro e w1 ⟨B1, k1, rfl, hB1, hT1, hb1⟩)
  go_ret
  exact ⟨Or.inl ⟨HN.out, rfl⟩, hb1⟩
set_option maxHeartbeats 16000000 in
theorem ri_plain (t : List UInt8) (lo hi : Int) (w : World) (h0 : 0 ≤ lo) (h1 : lo ≤ hi) (h2 : hi ≤ 63) (hl : t.length ≤ 1000) (h47 : (47 : UInt8) ∉ t) :
    Calls Tryd.prog 113 #[strV t, .int .i64 lo, .int .i64 hi] w fun e w' => RItemAns lo hi t w e w' ∧ Below w.heap.size w w' := by
  obtain ⟨i0, hi0, hz0, hz1, hz2⟩ := info_parts info_i
  have c47 : ∀ w, Calls Tryd.prog 46 #[strV t, .int .u8 47] w _ := fun w => rpieces t 47 w (by omega)
  rw [pieces_none h47] at c47
  go_enter Tryd.func113, Tryd.ntmps113
  by_cases hs0 : t = [42]
  · subst hs0
    have HI : Hid (itemS lo hi [42] = some (lo, hi, 1)) := (item_0 h47).1 lo hi false (by unfold rowS; rw [if_pos rfl])
    go_wp2_with (first
      | (go_at_call 46; (with_reducible refine (c47 _).mono ?_); rintro e w1 ⟨B1, k1, rfl, hB1, hT1, hb1⟩; have p0 := hT1.2 0 _ rfl))
    go_loopw [12, 13] (fun v n wr => ItR lo hi 1 w v n wr) (fun _ n _ => (hi + 1 + 1 - intOf n).toNat)
    case atStart => exact ⟨0, lo, none, 0, rfl, rfl, by simp, by omega, by omega, by omega, World.ownsRow_nil _ _ _ _, hb1⟩
    case round =>
      obtain ⟨k, m, ao, cw, rfl, rfl, hm, g1, g2, g3, hown, hbw⟩ := hrel
      have HM : Hid (m = lo + 1 * (k : Int)) := hm
      clear hm
      have hsb := hbw.size
      by_cases hle : m ≤ hi
      · go_wp2_with (at_builtin; refine wpList_append_own _ rfl _ _ 56 rfl w.heap.size 3 i0 (.int .i64 0) 1 8 Tryd.underlying56 hi0 hz0 hz1 hz2 rfl (by decide) _ _ _ rfl (hown.alloc _) ⟨wr.heap.size, 0, none⟩ 1 1 [.int .i64 m] rfl rfl (cell_new1 _ _ _) (fun x hx => by simp at hx; subst hx; rfl) (by unfold maxLen; omega) (by omega) (by simp; omega) ?_; intro v' w3 hown3 hgrow3 hnil3)
        go_roundw
        case rel =>
          obtain ⟨g4, cap3, hv3⟩ : ∃ g4 cap3, v' = .slice (some ⟨g4, 0, none⟩) (k + 1) cap3 := by
            rcases hown3.2 with ⟨_, h⟩ | ⟨g4, cap3, _, h, _⟩
            · omega
            · exact ⟨g4, cap3, h⟩
          have hB3 : Below w.heap.size w w3 := (hbw.alloc hsb _).grown hgrow3 (by simp; omega) (fun q hq => (hown.lt q hq).1)
          exact ⟨k + 1, m + 1, some ⟨g4, 0, none⟩, cap3, hv3, rfl, mul_step HM.out, by omega, by omega, by omega, by rw [← nums_step, ← HM.out]; exact hown3, hB3⟩
        case measure => simp [intOf]; omega
      · go_wp2
        go_ret
        exact ⟨item_end HI.out HM.out (by omega) g2 g3 (by omega) hown, hbw⟩
  · have hs : (t == [42]) = false := beq_eq_false_iff_ne.2 hs0
    have hs' : (t != [42]) = true := by simp [hs0]
    rcases cut_cases 45 t with h45 | ⟨u, v, hx, h45⟩
    · have c45 : ∀ w, Calls Tryd.prog 46 #[strV t, .int .u8 45] w _ := fun w => rpieces t 45 w (by omega)
      rw [pieces_none h45] at c45
      have cu := fun w => rdigits t w (by omega)
      have HR := row_no45 (hi := hi) h0 hs0 h45
      have hd := dgV_bd t
      by_cases hg : dgV t < lo ∨ hi < dgV t
      · have HN : Hid (itemS lo hi t = none) := (item_0 h47).2 (HR.2 hg)
        clear HR
        generalize dgV t = d at *
        rcases hg with hg | hg
        · go_wp2_with (first
            | (go_at_call 46; (with_reducible refine (c47 _).mono ?_); rintro e w1 ⟨B1, k1, rfl, hB1, hT1, hb1⟩; have p0 := hT1.2 0 _ rfl)
            | (go_at_call 46; (with_reducible refine (c45 _).mono ?_); rintro e w2 ⟨B2, k2, rfl, hB2, hT2, hb2⟩; have hw2 : Below w.heap.size w w2 := hb1.trans (hb2.mono hb1.size); have q0 := hT2.2 0 _ rfl))
          go_quiet (first | (go_at_call 139; with_reducible refine Calls.quiet_of_same (cu _)))
          go_wp2
          go_ret
          exact ⟨Or.inl ⟨HN.out, rfl⟩, below_dN hw2 nq⟩
        · have hg2 : ¬ d < lo := by omega
          go_wp2_with (first
            | (go_at_call 46; (with_reducible refine (c47 _).mono ?_); rintro e w1 ⟨B1, k1, rfl, hB1, hT1, hb1⟩; have p0 := hT1.2 0 _ rfl)
            | (go_at_call 46; (with_reducible refine (c45 _).mono ?_); rintro e w2 ⟨B2, k2, rfl, hB2, hT2, hb2⟩; have hw2 : Below w.heap.size w w2 := hb1.trans (hb2.mono hb1.size); have q0 := hT2.2 0 _ rfl))
          go_quiet (first | (go_at_call 139; with_reducible refine Calls.quiet_of_same (cu _)))
          go_wp2
          go_ret
          exact ⟨Or.inl ⟨HN.out, rfl⟩, below_dN hw2 nq⟩
      · have HI : Hid (itemS lo hi t = some (dgV t, dgV t, 1)) := (item_0 h47).1 _ _ true (HR.1 hg)
        clear HR
        generalize dgV t = d at *
        have hg1 : ¬ d < lo := fun h => hg (Or.inl h)
        have hg2 : ¬ hi < d := fun h => hg (Or.inr h)
        clear hg
        go_wp2_with (first
          | (go_at_call 46; (with_reducible refine (c47 _).mono ?_); rintro e w1 ⟨B1, k1, rfl, hB1, hT1, hb1⟩; have p0 := hT1.2 0 _ rfl)
          | (go_at_call 46; (with_reducible refine (c45 _).mono ?_); rintro e w2 ⟨B2, k2, rfl, hB2, hT2, hb2⟩; have hw2 : Below w.heap.size w w2 := hb1.trans (hb2.mono hb1.size); have q0 := hT2.2 0 _ rfl))
        go_quiet (first | (go_at_call 139; with_reducible refine Calls.quiet_of_same (cu _)))
        go_wp2
        go_loopw [12, 13] (fun v n wr => ItR d d 1 w v n wr) (fun _ n _ => (d + 1 + 1 - intOf n).toNat)
        case atStart => exact ⟨0, d, none, 0, rfl, rfl, by simp, by omega, by omega, by omega, World.ownsRow_nil _ _ _ _, (below_dN hw2 nq)⟩
        case round =>
          obtain ⟨k, m, ao, cw, rfl, rfl, hm, g1, g2, g3, hown, hbw⟩ := hrel
          have HM : Hid (m = d + 1 * (k : Int)) := hm
          clear hm
          have hsb := hbw.size
          by_cases hle : m ≤ d
          · go_wp2_with (at_builtin; refine wpList_append_own _ rfl _ _ 56 rfl w.heap.size 3 i0 (.int .i64 0) 1 8 Tryd.underlying56 hi0 hz0 hz1 hz2 rfl (by decide) _ _ _ rfl (hown.alloc _) ⟨wr.heap.size, 0, none⟩ 1 1 [.int .i64 m] rfl rfl (cell_new1 _ _ _) (fun x hx => by simp at hx; subst hx; rfl) (by unfold maxLen; omega) (by omega) (by simp; omega) ?_; intro v' w3 hown3 hgrow3 hnil3)
            go_roundw
            case rel =>
              obtain ⟨g4, cap3, hv3⟩ : ∃ g4 cap3, v' = .slice (some ⟨g4, 0, none⟩) (k + 1) cap3 := by
                rcases hown3.2 with ⟨_, h⟩ | ⟨g4, cap3, _, h, _⟩
                · omega
                · exact ⟨g4, cap3, h⟩
              have hB3 : Below w.heap.size w w3 := (hbw.alloc hsb _).grown hgrow3 (by simp; omega) (fun q hq => (hown.lt q hq).1)
              exact ⟨k + 1, m + 1, some ⟨g4, 0, none⟩, cap3, hv3, rfl, mul_step HM.out, by omega, by omega, by omega, by rw [← nums_step, ← HM.out]; exact hown3, hB3⟩
            case measure => simp [intOf]; omega
          · go_wp2
            go_ret
            exact ⟨item_end HI.out HM.out (by omega) g2 g3 (by omega) hown, hbw⟩
    · subst hx
      have hll := hl
      simp at hll
      by_cases hv : (45 : UInt8) ∈ v
      · have HN : Hid (itemS lo hi (u ++ 45 :: v) = none) := (item_0 h47).2 (row_more45 h45 hv)
        have c45 : ∀ w, Calls Tryd.prog 46 #[strV (u ++ 45 :: v), .int .u8 45] w _ := fun w => rpieces (u ++ 45 :: v) 45 w (by first | omega | (simp; omega))
        have hlen : 2 < (pieces 45 (u ++ 45 :: v)).length := by
          rw [pieces_hit h45, List.length_cons, pieces_len]
          have := List.count_pos_iff.2 hv
          omega
        have hlm : (pieces 45 (u ++ 45 :: v)).length ≤ 1001 := by rw [pieces_len]; have := List.count_le_length (a := (45 : UInt8)) (l := (u ++ 45 :: v)); have : (u ++ 45 :: v).length ≤ 1000 := (by first | omega | (simp; omega)); omega
        generalize pieces 45 (u ++ 45 :: v) = qs at *
        have hp' : (2 : Int) < (qs.length : Int) := by omega
        go_wp2_with (first
          | (go_at_call 46; (with_reducible refine (c47 _).mono ?_); rintro e w1 ⟨B1, k1, rfl, hB1, hT1, hb1⟩; have p0 := hT1.2 0 _ rfl)
          | (go_at_call 46; (with_reducible refine (c45 _).mono ?_); rintro e w2 ⟨B2, k2, rfl, hB2, hT2, hb2⟩; have hw2 : Below w.heap.size w w2 := hb1.trans (hb2.mono hb1.size)))
        go_ret
        exact ⟨Or.inl ⟨HN.out, rfl⟩, hw2⟩
      · have c45 : ∀ w, Calls Tryd.prog 46 #[strV (u ++ 45 :: v), .int .u8 45] w _ := fun w => rpieces (u ++ 45 :: v) 45 w (by first | omega | (simp; omega))
        rw [pieces_hit h45, pieces_none hv] at c45
        have cu := fun w => rdigits u w (by first | omega | (simp; omega))
        have cv := fun w => rdigits v w (by first | omega | (simp; omega))
        have HR := row_one45 (hi := hi) (v := v) h0 h45
        have hdu := dgV_bd u
        have hdv := dgV_bd v
        by_cases hg : dgV u < lo ∨ hi < dgV v ∨ dgV v < dgV u
        · have HN : Hid (itemS lo hi (u ++ 45 :: v) = none) := (item_0 h47).2 (HR.2 hg)
          clear HR
          generalize dgV u = da at *
          generalize dgV v = db at *
          by_cases e1 : da < lo
          · go_wp2_with (first
              | (go_at_call 46; (with_reducible refine (c47 _).mono ?_); rintro e w1 ⟨B1, k1, rfl, hB1, hT1, hb1⟩; have p0 := hT1.2 0 _ rfl)
              | (go_at_call 46; (with_reducible refine (c45 _).mono ?_); rintro e w2 ⟨B2, k2, rfl, hB2, hT2, hb2⟩; have hw2 : Below w.heap.size w w2 := hb1.trans (hb2.mono hb1.size); have q0 := hT2.2 0 _ rfl; have q1 := hT2.2 1 _ rfl))
            go_quiet (first | (go_at_call 139; with_reducible refine Calls.quiet_of_same (cu _)) | (go_at_call 139; with_reducible refine Calls.quiet_of_same (cv _)))
            go_wp2
            go_ret
            exact ⟨Or.inl ⟨HN.out, rfl⟩, below_dN hw2 nq⟩
          · by_cases e2 : hi < db
            · go_wp2_with (first
                | (go_at_call 46; (with_reducible refine (c47 _).mono ?_); rintro e w1 ⟨B1, k1, rfl, hB1, hT1, hb1⟩; have p0 := hT1.2 0 _ rfl)
                | (go_at_call 46; (with_reducible refine (c45 _).mono ?_); rintro e w2 ⟨B2, k2, rfl, hB2, hT2, hb2⟩; have hw2 : Below w.heap.size w w2 := hb1.trans (hb2.mono hb1.size); have q0 := hT2.2 0 _ rfl; have q1 := hT2.2 1 _ rfl))
              go_quiet (first | (go_at_call 139; with_reducible refine Calls.quiet_of_same (cu _)) | (go_at_call 139; with_reducible refine Calls.quiet_of_same (cv _)))
              go_wp2
              go_ret
              exact ⟨Or.inl ⟨HN.out, rfl⟩, below_dN hw2 nq⟩
            · have e3 : db < da := by omega
              go_wp2_with (first
                | (go_at_call 46; (with_reducible refine (c47 _).mono ?_); rintro e w1 ⟨B1, k1, rfl, hB1, hT1, hb1⟩; have p0 := hT1.2 0 _ rfl)
                | (go_at_call 46; (with_reducible refine (c45 _).mono ?_); rintro e w2 ⟨B2, k2, rfl, hB2, hT2, hb2⟩; have hw2 : Below w.heap.size w w2 := hb1.trans (hb2.mono hb1.size); have q0 := hT2.2 0 _ rfl; have q1 := hT2.2 1 _ rfl))
              go_quiet (first | (go_at_call 139; with_reducible refine Calls.quiet_of_same (cu _)) | (go_at_call 139; with_reducible refine Calls.quiet_of_same (cv _)))
              go_wp2
              go_ret
              exact ⟨Or.inl ⟨HN.out, rfl⟩, below_dN hw2 nq⟩
        · have HI : Hid (itemS lo hi (u ++ 45 :: v) = some (dgV u, dgV v, 1)) := (item_0 h47).1 _ _ false (HR.1 hg)
          clear HR
          generalize dgV u = da at *
          generalize dgV v = db at *
          have e1 : ¬ da < lo := by omega
          have e2 : ¬ hi < db := by omega
          have e3 : ¬ db < da := by omega
          clear hg
          go_wp2_with (first
            | (go_at_call 46; (with_reducible refine (c47 _).mono ?_); rintro e w1 ⟨B1, k1, rfl, hB1, hT1, hb1⟩; have p0 := hT1.2 0 _ rfl)
            | (go_at_call 46; (with_reducible refine (c45 _).mono ?_); rintro e w2 ⟨B2, k2, rfl, hB2, hT2, hb2⟩; have hw2 : Below w.heap.size w w2 := hb1.trans (hb2.mono hb1.size); have q0 := hT2.2 0 _ rfl; have q1 := hT2.2 1 _ rfl))
          go_quiet (first | (go_at_call 139; with_reducible refine Calls.quiet_of_same (cu _)) | (go_at_call 139; with_reducible refine Calls.quiet_of_same (cv _)))
          go_wp2
          go_loopw [12, 13] (fun v n wr => ItR da db 1 w v n wr) (fun _ n _ => (db + 1 + 1 - intOf n).toNat)
          case atStart => exact ⟨0, da, none, 0, rfl, rfl, by simp, by omega, by omega, by omega, World.ownsRow_nil _ _ _ _, (below_dN hw2 nq)⟩
          case round =>
            obtain ⟨k, m, ao, cw, rfl, rfl, hm, g1, g2, g3, hown, hbw⟩ := hrel
            have HM : Hid (m = da + 1 * (k : Int)) := hm
            clear hm
            have hsb := hbw.size
            by_cases hle : m ≤ db
            · go_wp2_with (at_builtin; refine wpList_append_own _ rfl _ _ 56 rfl w.heap.size 3 i0 (.int .i64 0) 1 8 Tryd.underlying56 hi0 hz0 hz1 hz2 rfl (by decide) _ _ _ rfl (hown.alloc _) ⟨wr.heap.size, 0, none⟩ 1 1 [.int .i64 m] rfl rfl (cell_new1 _ _ _) (fun x hx => by simp at hx; subst hx; rfl) (by unfold maxLen; omega) (by omega) (by simp; omega) ?_; intro v' w3 hown3 hgrow3 hnil3)
              go_roundw
              case rel =>
                obtain ⟨g4, cap3, hv3⟩ : ∃ g4 cap3, v' = .slice (some ⟨g4, 0, none⟩) (k + 1) cap3 := by
                  rcases hown3.2 with ⟨_, h⟩ | ⟨g4, cap3, _, h, _⟩
                  · omega
                  · exact ⟨g4, cap3, h⟩
                have hB3 : Below w.heap.size w w3 := (hbw.alloc hsb _).grown hgrow3 (by simp; omega) (fun q hq => (hown.lt q hq).1)
                exact ⟨k + 1, m + 1, some ⟨g4, 0, none⟩, cap3, hv3, rfl, mul_step HM.out, by omega, by omega, by omega, by rw [← nums_step, ← HM.out]; exact hown3, hB3⟩
              case measure => simp [intOf]; omega
            · go_wp2
              go_ret
              exact ⟨item_end HI.out HM.out (by omega) g2 g3 (by omega) hown, hbw⟩
set_option maxHeartbeats 16000000 in
theorem ri_step (T x y : List UInt8) (lo hi : Int) (w : World) (h0 : 0 ≤ lo) (h1 : lo ≤ hi) (h2 : hi ≤ 63) (hl : T.length ≤ 1000) (hT : T = x ++ 47 :: y) (h47 : (47 : UInt8) ∉ x) (hy : (47 : UInt8) ∉ y) :
    Calls Tryd.prog 113 #[strV T, .int .i64 lo, .int .i64 hi] w fun e w' => RItemAns lo hi T w e w' ∧ Below w.heap.size w w' := by
  obtain ⟨i0, hi0, hz0, hz1, hz2⟩ := info_parts info_i
  have hpT : pieces 47 T = [x, y] := by rw [hT, pieces_hit h47, pieces_none hy]
  have c47 : ∀ w, Calls Tryd.prog 46 #[strV T, .int .u8 47] w _ := fun w => rpieces T 47 w (by omega)
  rw [hpT] at c47
  have hll := hl
  rw [hT] at hll
  simp at hll
  have cy := fun w => rdigits y w (by omega)
  have hdy := dgV_bd y
  have HH := item_1 (lo := lo) (hi := hi) (y := y) h47
  rw [← hT] at HH
  clear hT hpT
  go_enter Tryd.func113, Tryd.ntmps113
  by_cases hst : dgV y < 1
  · have HN : Hid (itemS lo hi T = none) := HH.2.1 hst
    clear HH
    generalize dgV y = st at *
    go_wp2_with (first
      | (go_at_call 46; (with_reducible refine (c47 _).mono ?_); rintro e w1 ⟨B1, k1, rfl, hB1, hT1, hb1⟩; have p0 := hT1.2 0 _ rfl; have p1 := hT1.2 1 _ rfl)
      | (go_at_call 139; (with_reducible refine (cy _).mono ?_); rintro e w' ⟨rfl, h9⟩; have h8 := h9.symm; clear h9; subst h8))
    go_ret
    exact ⟨Or.inl ⟨HN.out, rfl⟩, hb1⟩
  · have hst1 : 1 ≤ dgV y := by omega
    by_cases hs0 : x = [42]
    · subst hs0
      have HI : Hid (itemS lo hi T = some (lo, hi, dgV y)) := HH.1 lo hi hst1 (by unfold rowS; rw [if_pos rfl])
      clear HH
      generalize dgV y = st at *
      go_wp2_with (first
        | (go_at_call 46; (with_reducible refine (c47 _).mono ?_); rintro e w1 ⟨B1, k1, rfl, hB1, hT1, hb1⟩; have p0 := hT1.2 0 _ rfl; have p1 := hT1.2 1 _ rfl)
        | (go_at_call 139; (with_reducible refine (cy _).mono ?_); rintro e w' ⟨rfl, h9⟩; have h8 := h9.symm; clear h9; subst h8))
      go_loopw [12, 13] (fun v n wr => ItR lo hi st w v n wr) (fun _ n _ => (hi + st + 1 - intOf n).toNat)
      case atStart => exact ⟨0, lo, none, 0, rfl, rfl, by simp, by omega, by omega, by omega, World.ownsRow_nil _ _ _ _, hb1⟩
      case round =>
        obtain ⟨k, m, ao, cw, rfl, rfl, hm, g1, g2, g3, hown, hbw⟩ := hrel
        have HM : Hid (m = lo + st * (k : Int)) := hm
        clear hm
        have hsb := hbw.size
        by_cases hle : m ≤ hi
        · go_wp2_with (at_builtin; refine wpList_append_own _ rfl _ _ 56 rfl w.heap.size 3 i0 (.int .i64 0) 1 8 Tryd.underlying56 hi0 hz0 hz1 hz2 rfl (by decide) _ _ _ rfl (hown.alloc _) ⟨wr.heap.size, 0, none⟩ 1 1 [.int .i64 m] rfl rfl (cell_new1 _ _ _) (fun x hx => by simp at hx; subst hx; rfl) (by unfold maxLen; omega) (by omega) (by simp; omega) ?_; intro v' w3 hown3 hgrow3 hnil3)
          go_roundw
          case rel =>
            obtain ⟨g4, cap3, hv3⟩ : ∃ g4 cap3, v' = .slice (some ⟨g4, 0, none⟩) (k + 1) cap3 := by
              rcases hown3.2 with ⟨_, h⟩ | ⟨g4, cap3, _, h, _⟩
              · omega
              · exact ⟨g4, cap3, h⟩
            have hB3 : Below w.heap.size w w3 := (hbw.alloc hsb _).grown hgrow3 (by simp; omega) (fun q hq => (hown.lt q hq).1)
            exact ⟨k + 1, m + st, some ⟨g4, 0, none⟩, cap3, hv3, rfl, mul_step HM.out, by omega, by omega, by omega, by rw [← nums_step, ← HM.out]; exact hown3, hB3⟩
          case measure => simp [intOf]; omega
        · go_wp2
          go_ret
          exact ⟨item_end HI.out HM.out (by omega) g2 g3 (by omega) hown, hbw⟩
    · have hs : (x == [42]) = false := beq_eq_false_iff_ne.2 hs0
      have hs' : (x != [42]) = true := by simp [hs0]
      rcases cut_cases 45 x with h45 | ⟨u, v, hx, h45⟩
      · have c45 : ∀ w, Calls Tryd.prog 46 #[strV x, .int .u8 45] w _ := fun w => rpieces x 45 w (by omega)
        rw [pieces_none h45] at c45
        have HR := row_no45 (hi := hi) h0 hs0 h45
        have HN : Hid (itemS lo hi T = none) := by
          by_cases hg : dgV x < lo ∨ hi < dgV x
          · exact HH.2.2.1 (HR.2 hg)
          · exact HH.2.2.2 _ _ (HR.1 hg)
        clear HR HH
        generalize dgV y = st at *
        go_wp2_with (first
          | (go_at_call 46; (with_reducible refine (c47 _).mono ?_); rintro e w1 ⟨B1, k1, rfl, hB1, hT1, hb1⟩; have p0 := hT1.2 0 _ rfl; have p1 := hT1.2 1 _ rfl)
          | (go_at_call 139; (with_reducible refine (cy _).mono ?_); rintro e w' ⟨rfl, h9⟩; have h8 := h9.symm; clear h9; subst h8)
          | (go_at_call 46; (with_reducible refine (c45 _).mono ?_); rintro e w2 ⟨B2, k2, rfl, hB2, hT2, hb2⟩; have hw2 : Below w.heap.size w w2 := hb1.trans (hb2.mono hb1.size); have q0 := hT2.2 0 _ rfl))
        go_ret
        exact ⟨Or.inl ⟨HN.out, rfl⟩, hw2⟩
      · subst hx
        simp at hll
        generalize hsy : dgV y = st at *
        by_cases hv : (45 : UInt8) ∈ v
        · have HN : Hid (itemS lo hi T = none) := HH.2.2.1 (row_more45 h45 hv)
          have c45 : ∀ w, Calls Tryd.prog 46 #[strV (u ++ 45 :: v), .int .u8 45] w _ := fun w => rpieces (u ++ 45 :: v) 45 w (by first | omega | (simp; omega))
          have hlen : 2 < (pieces 45 (u ++ 45 :: v)).length := by
            rw [pieces_hit h45, List.length_cons, pieces_len]
            have := List.count_pos_iff.2 hv
            omega
          have hlm : (pieces 45 (u ++ 45 :: v)).length ≤ 1001 := by rw [pieces_len]; have := List.count_le_length (a := (45 : UInt8)) (l := (u ++ 45 :: v)); have : (u ++ 45 :: v).length ≤ 1000 := (by first | omega | (simp; omega)); omega
          generalize pieces 45 (u ++ 45 :: v) = qs at *
          have hp' : (2 : Int) < (qs.length : Int) := by omega
          go_wp2_with (first
            | (go_at_call 46; (with_reducible refine (c47 _).mono ?_); rintro e w1 ⟨B1, k1, rfl, hB1, hT1, hb1⟩; have p0 := hT1.2 0 _ rfl; have p1 := hT1.2 1 _ rfl)
            | (go_at_call 139; (with_reducible refine (cy _).mono ?_); rintro e w' ⟨rfl, h9⟩; have h8 := h9.symm; clear h9; subst h8)
            | (go_at_call 46; (with_reducible refine (c45 _).mono ?_); rintro e w2 ⟨B2, k2, rfl, hB2, hT2, hb2⟩; have hw2 : Below w.heap.size w w2 := hb1.trans (hb2.mono hb1.size)))
          go_ret
          exact ⟨Or.inl ⟨HN.out, rfl⟩, hw2⟩
        · have c45 : ∀ w, Calls Tryd.prog 46 #[strV (u ++ 45 :: v), .int .u8 45] w _ := fun w => rpieces (u ++ 45 :: v) 45 w (by first | omega | (simp; omega))
          rw [pieces_hit h45, pieces_none hv] at c45
          have cu := fun w => rdigits u w (by first | omega | (simp; omega))
          have cv := fun w => rdigits v w (by first | omega | (simp; omega))
          have HR := row_one45 (hi := hi) (v := v) h0 h45
          have hdu := dgV_bd u
          have hdv := dgV_bd v
          by_cases hg : dgV u < lo ∨ hi < dgV v ∨ dgV v < dgV u
          · have HN : Hid (itemS lo hi T = none) := HH.2.2.1 (HR.2 hg)
            clear HR
            generalize dgV u = da at *
            generalize dgV v = db at *
            by_cases e1 : da < lo
            · go_wp2_with (first
                | (go_at_call 46; (with_reducible refine (c47 _).mono ?_); rintro e w1 ⟨B1, k1, rfl, hB1, hT1, hb1⟩; have p0 := hT1.2 0 _ rfl; have p1 := hT1.2 1 _ rfl)
                | (go_at_call 139; (with_reducible refine (cy _).mono ?_); rintro e w' ⟨rfl, h9⟩; have h8 := h9.symm; clear h9; subst h8)
                | (go_at_call 46; (with_reducible refine (c45 _).mono ?_); rintro e w2 ⟨B2, k2, rfl, hB2, hT2, hb2⟩; have hw2 : Below w.heap.size w w2 := hb1.trans (hb2.mono hb1.size); have q0 := hT2.2 0 _ rfl; have q1 := hT2.2 1 _ rfl))
              go_quiet (first | (go_at_call 139; with_reducible refine Calls.quiet_of_same (cu _)) | (go_at_call 139; with_reducible refine Calls.quiet_of_same (cv _)))
              go_wp2
              go_ret
              exact ⟨Or.inl ⟨HN.out, rfl⟩, below_dN hw2 nq⟩
            · by_cases e2 : hi < db
              · go_wp2_with (first
                  | (go_at_call 46; (with_reducible refine (c47 _).mono ?_); rintro e w1 ⟨B1, k1, rfl, hB1, hT1, hb1⟩; have p0 := hT1.2 0 _ rfl; have p1 := hT1.2 1 _ rfl)
                  | (go_at_call 139; (with_reducible refine (cy _).mono ?_); rintro e w' ⟨rfl, h9⟩; have h8 := h9.symm; clear h9; subst h8)
                  | (go_at_call 46; (with_reducible refine (c45 _).mono ?_); rintro e w2 ⟨B2, k2, rfl, hB2, hT2, hb2⟩; have hw2 : Below w.heap.size w w2 := hb1.trans (hb2.mono hb1.size); have q0 := hT2.2 0 _ rfl; have q1 := hT2.2 1 _ rfl))
                go_quiet (first | (go_at_call 139; with_reducible refine Calls.quiet_of_same (cu _)) | (go_at_call 139; with_reducible refine Calls.quiet_of_same (cv _)))
                go_wp2
                go_ret
                exact ⟨Or.inl ⟨HN.out, rfl⟩, below_dN hw2 nq⟩
              · have e3 : db < da := by omega
                go_wp2_with (first
                  | (go_at_call 46; (with_reducible refine (c47 _).mono ?_); rintro e w1 ⟨B1, k1, rfl, hB1, hT1, hb1⟩; have p0 := hT1.2 0 _ rfl; have p1 := hT1.2 1 _ rfl)
                  | (go_at_call 139; (with_reducible refine (cy _).mono ?_); rintro e w' ⟨rfl, h9⟩; have h8 := h9.symm; clear h9; subst h8)
                  | (go_at_call 46; (with_reducible refine (c45 _).mono ?_); rintro e w2 ⟨B2, k2, rfl, hB2, hT2, hb2⟩; have hw2 : Below w.heap.size w w2 := hb1.trans (hb2.mono hb1.size); have q0 := hT2.2 0 _ rfl; have q1 := hT2.2 1 _ rfl))
                go_quiet (first | (go_at_call 139; with_reducible refine Calls.quiet_of_same (cu _)) | (go_at_call 139; with_reducible refine Calls.quiet_of_same (cv _)))
                go_wp2
                go_ret
                exact ⟨Or.inl ⟨HN.out, rfl⟩, below_dN hw2 nq⟩
          · have HI : Hid (itemS lo hi T = some (dgV u, dgV v, st)) := HH.1 _ _ hst1 (HR.1 hg)
            clear HR
            generalize dgV u = da at *
            generalize dgV v = db at *
            have e1 : ¬ da < lo := by omega
            have e2 : ¬ hi < db := by omega
            have e3 : ¬ db < da := by omega
            clear hg
            go_wp2_with (first
              | (go_at_call 46; (with_reducible refine (c47 _).mono ?_); rintro e w1 ⟨B1, k1, rfl, hB1, hT1, hb1⟩; have p0 := hT1.2 0 _ rfl; have p1 := hT1.2 1 _ rfl)
              | (go_at_call 139; (with_reducible refine (cy _).mono ?_); rintro e w' ⟨rfl, h9⟩; have h8 := h9.symm; clear h9; subst h8)
              | (go_at_call 46; (with_reducible refine (c45 _).mono ?_); rintro e w2 ⟨B2, k2, rfl, hB2, hT2, hb2⟩; have hw2 : Below w.heap.size w w2 := hb1.trans (hb2.mono hb1.size); have q0 := hT2.2 0 _ rfl; have q1 := hT2.2 1 _ rfl))
            go_quiet (first | (go_at_call 139; with_reducible refine Calls.quiet_of_same (cu _)) | (go_at_call 139; with_reducible refine Calls.quiet_of_same (cv _)))
            go_wp2
            go_loopw [12, 13] (fun v n wr => ItR da db st w v n wr) (fun _ n _ => (db + st + 1 - intOf n).toNat)
            case atStart => exact ⟨0, da, none, 0, rfl, rfl, by simp, by omega, by omega, by omega, World.ownsRow_nil _ _ _ _, (below_dN hw2 nq)⟩
            case round =>
              obtain ⟨k, m, ao, cw, rfl, rfl, hm, g1, g2, g3, hown, hbw⟩ := hrel
              have HM : Hid (m = da + st * (k : Int)) := hm
              clear hm
              have hsb := hbw.size
              by_cases hle : m ≤ db
              · go_wp2_with (at_builtin; refine wpList_append_own _ rfl _ _ 56 rfl w.heap.size 3 i0 (.int .i64 0) 1 8 Tryd.underlying56 hi0 hz0 hz1 hz2 rfl (by decide) _ _ _ rfl (hown.alloc _) ⟨wr.heap.size, 0, none⟩ 1 1 [.int .i64 m] rfl rfl (cell_new1 _ _ _) (fun x hx => by simp at hx; subst hx; rfl) (by unfold maxLen; omega) (by omega) (by simp; omega) ?_; intro v' w3 hown3 hgrow3 hnil3)
                go_roundw
                case rel =>
                  obtain ⟨g4, cap3, hv3⟩ : ∃ g4 cap3, v' = .slice (some ⟨g4, 0, none⟩) (k + 1) cap3 := by
                    rcases hown3.2 with ⟨_, h⟩ | ⟨g4, cap3, _, h, _⟩
                    · omega
                    · exact ⟨g4, cap3, h⟩
                  have hB3 : Below w.heap.size w w3 := (hbw.alloc hsb _).grown hgrow3 (by simp; omega) (fun q hq => (hown.lt q hq).1)
                  exact ⟨k + 1, m + st, some ⟨g4, 0, none⟩, cap3, hv3, rfl, mul_step HM.out, by omega, by omega, by omega, by rw [← nums_step, ← HM.out]; exact hown3, hB3⟩
                case measure => simp [intOf]; omega
              · go_wp2
                go_ret
                exact ⟨item_end HI.out HM.out (by omega) g2 g3 (by omega) hown, hbw⟩
theorem ritem (t : List UInt8) (lo hi : Int) (w : World) (h0 : 0 ≤ lo) (h1 : lo ≤ hi) (h2 : hi ≤ 63) (hl : t.length ≤ 1000) :
    Calls Tryd.prog 113 #[strV t, .int .i64 lo, .int .i64 hi] w fun e w' => RItemAns lo hi t w e w' ∧ Below w.heap.size w w' := by
  rcases cut_cases 47 t with h | ⟨x, y, rfl, h⟩
  · exact ri_plain t lo hi w h0 h1 h2 hl h
  · by_cases hy : (47 : UInt8) ∈ y
    · refine ri_many _ lo hi w hl ?_ (item_more47 h hy)
      rw [pieces_hit h, List.length_cons, pieces_len]
      have := List.count_pos_iff.2 hy
      omega
    · exact ri_step _ x y lo hi w h0 h1 h2 hl rfl h hy
end Pie
end Go.Proofs.YtcaobnmfgnbolabDoor
