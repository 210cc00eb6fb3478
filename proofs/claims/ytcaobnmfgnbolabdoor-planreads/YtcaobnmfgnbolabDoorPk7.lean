/- What the document's answer (tideref) says of a number of a plan's text: digits, Whole. What the document's answer (tideref) says of a whole number: Whole. -/
import Derived.Test.YtcaobnmfgnbolabDoorPk5
import Derived.Test.YtcaobnmfgnbolabDoorPk6
import Derived.Test.YtcaobnmfgnbolabDoorCutWalks
import Derived.Test.YtcaobnmfgnbolabDoorPk1
namespace Go.Proofs.YtcaobnmfgnbolabDoor
namespace Pln
open Go.RowKit Lai Civ Crn Pie
set_option maxRecDepth 8000
set_option linter.unusedSimpArgs false

/-- what digits(s, 7) tells -/
def dgs7 (t : List UInt8) : Int := if okD t = true then valD t else -1
theorem dgs_bad {t : List UInt8} (h : (∃ x, x ∈ t ∧ dg x = false) ∨ ¬ (1 ≤ t.length ∧ t.length ≤ 7)) : dgs7 t = -1 := by
  unfold dgs7
  rw [if_neg]
  intro q
  unfold okD at q
  rw [Bool.and_eq_true, decide_eq_true_eq] at q
  rcases h with ⟨x, h1, h2⟩ | h
  · have := List.all_eq_true.1 q.2 x h1; rw [h2] at this; cases this
  · exact h q.1
theorem dgs_ok {t : List UInt8} (hl : 1 ≤ t.length ∧ t.length ≤ 7) (h : t.all dg = true) : dgs7 t = valD t := by
  unfold dgs7
  rw [if_pos (by unfold okD; rw [Bool.and_eq_true, decide_eq_true_eq]; exact ⟨hl, h⟩)]
theorem val_lt8 {D : List UInt8} {k : Nat} (hk : k ≤ 8) (hd : (D.take k).all dg = true) : 0 ≤ valD (D.take k) ∧ valD (D.take k) < 100000000 := by
  obtain ⟨b1, b2⟩ := valD_bd _ (D.take k) rfl hd
  refine ⟨b1, Int.lt_of_lt_of_le b2 ?_⟩
  have q : (10 : Nat) ^ (D.take k).length ≤ 10 ^ 8 := Nat.pow_le_pow_right (by decide) (by rw [List.length_take]; omega)
  have q2 : ((10 ^ (D.take k).length : Nat) : Int) ≤ ((10 ^ 8 : Nat) : Int) := Int.ofNat_le.2 q
  rw [Int.natCast_pow] at q2
  exact q2
def Dg7R (t : List UInt8) (w : World) (n i : Value) (wr : World) : Prop := ∃ k : Nat, k ≤ t.length ∧ k ≤ 8 ∧ i = .int .i64 k ∧ n = .int .i64 (valD (t.take k)) ∧ (t.take k).all dg = true ∧ wr = w
set_option maxHeartbeats 8000000 in
theorem rdigits7 (t : List UInt8) (w : World) (hl : t.length ≤ 3000) :
    Calls Tryd.prog 139 #[strV t, .int .i64 7] w fun e w' => e = .returned (.int .i64 (dgs7 t)) ∧ w' = w := by
  have hsz : (⟨t.toArray⟩ : ByteArray).size = t.length := rfl
  go_enter Tryd.func139, Tryd.ntmps139
  go_wp2
  go_loopw [5, 6] (fun n i wr => Dg7R t w n i wr) (fun _ i _ => 9 - (intOf i).toNat)
  case atStart => exact ⟨0, Nat.zero_le _, by omega, rfl, by simp [valD], by simp, rfl⟩
  case round =>
    obtain ⟨k, hk, hk3, rfl, rfl, hd0, h9⟩ := hrel
    have h8 := h9.symm
    clear h9
    subst h8
    have hv := val_lt8 hk3 hd0
    have HD : Hid ((t.take k).all dg = true) := hd0
    clear hd0
    by_cases hlt : k < t.length
    · have hlt' : (k : Int) < t.length := by omega
      by_cases hk2 : k ≤ 7
      · have hk2' : (k : Int) ≤ 7 := by omega
        obtain ⟨x, hx⟩ : ∃ x, t[k]? = some x := ⟨t[k], by simp [hlt]⟩
        have hxk : (⟨t.toArray⟩ : ByteArray)[k]'(by rw [hsz]; exact hlt) = x := by
          have : t[k] = x := by simpa [hlt] using hx
          exact this
        have hmem : x ∈ t := List.mem_of_getElem? hx
        have hxu : (x.toNat : Int) ≤ 255 := by have := x.toNat_lt; omega
        cases hd : dg x
        · have HN : Hid (dgs7 t = -1) := dgs_bad (Or.inl ⟨x, hmem, hd⟩)
          clear hx hmem
          rcases dgf hd with g | g
          · clear hd
            go_wp2
            go_ret
            exact ⟨ret_n HN.out.symm, rfl⟩
          · clear hd
            go_wp2
            go_ret
            exact ⟨ret_n HN.out.symm, rfl⟩
        · have g := dgb hd
          have HA : Hid ((t.take (k + 1)).all dg = true) := all_take hx HD.out hd
          have HV : Hid (valD (t.take (k + 1)) = 10 * valD (t.take k) + ((x.toNat : Int) - 48)) := val_take hx
          clear hx hmem hd
          generalize valD (t.take k) = V at hv HV ⊢
          go_wp2
          go_roundw
          case rel => exact ⟨k + 1, by omega, by omega, rfl, by rw [HV.out]; congr 1; omega, HA.out, rfl⟩
          case measure => simp [intOf]; omega
      · have hk2' : ¬ (k : Int) ≤ 7 := by omega
        have HN : Hid (dgs7 t = -1) := dgs_bad (Or.inr (by omega))
        have cI := RCiv.in_any (t.length : Int) 1 7 w
        rw [show RCiv.inB (t.length : Int) 1 7 = false by unfold RCiv.inB; rw [decide_eq_false_iff_not]; omega] at cI
        go_wp2_with (go_at_call 27; (with_reducible refine cI.mono ?_); rintro e w' ⟨rfl, rfl⟩)
        go_ret
        exact ⟨ret_n HN.out.symm, rfl⟩
    · obtain rfl : k = t.length := by omega
      have cI := RCiv.in_any (t.length : Int) 1 7 w
      by_cases h12 : 1 ≤ t.length ∧ t.length ≤ 7
      · have HN : Hid (dgs7 t = valD t) := dgs_ok h12 (by have := HD.out; rwa [List.take_length] at this)
        rw [show RCiv.inB (t.length : Int) 1 7 = true by unfold RCiv.inB; rw [decide_eq_true_eq]; omega] at cI
        rw [List.take_length] at hv ⊢
        generalize valD t = V at hv HN ⊢
        go_wp2_with (go_at_call 27; (with_reducible refine cI.mono ?_); rintro e w' ⟨rfl, rfl⟩)
        go_ret
        exact ⟨ret_n HN.out.symm, rfl⟩
      · have HN : Hid (dgs7 t = -1) := dgs_bad (Or.inr h12)
        rw [show RCiv.inB (t.length : Int) 1 7 = false by unfold RCiv.inB; rw [decide_eq_false_iff_not]; omega] at cI
        go_wp2_with (go_at_call 27; (with_reducible refine cI.mono ?_); rintro e w' ⟨rfl, rfl⟩)
        go_ret
        exact ⟨ret_n HN.out.symm, rfl⟩

/-! ### Whole -/
theorem val_pos {D : List UInt8} (h : okD D = true) (h0 : D.head? ≠ some 48) : 0 < valD D := by
  unfold okD at h
  rw [Bool.and_eq_true, decide_eq_true_eq] at h
  cases D with
  | nil => simp at h
  | cons d r =>
    have hd : dg d = true := List.all_eq_true.1 h.2 d List.mem_cons_self
    have hr : r.all dg = true := List.all_eq_true.2 fun x hx => List.all_eq_true.1 h.2 x (List.mem_cons_of_mem _ hx)
    obtain ⟨b1, _⟩ := valD_bd _ r rfl hr
    have e : valD (d :: r) = (10 * 0 + ((d.toNat : Int) - 48)) * 10 ^ r.length + valD r := foldD r _
    have hne : d.toNat ≠ 48 := fun q => h0 (by rw [List.head?_cons, UInt8.toNat_inj.1 (show d.toNat = (48 : UInt8).toNat from q)])
    unfold dg at hd
    rw [decide_eq_true_eq] at hd
    have hpos : (0 : Int) < 10 ^ r.length := Int.pow_pos (by decide)
    have h1 : (1 : Int) ≤ 10 * 0 + ((d.toNat : Int) - 48) := by omega
    have h2 : (1 : Int) * 10 ^ r.length ≤ (10 * 0 + ((d.toNat : Int) - 48)) * 10 ^ r.length := Int.mul_le_mul_of_nonneg_right h1 (Int.le_of_lt hpos)
    rw [e]
    omega
theorem val_zero {D : List UInt8} (h0 : D.head? = some 48) (hl : ¬ 1 < D.length) : valD D = 0 := by
  match D, h0, hl with
  | [d], h0, _ =>
    simp at h0
    subst h0
    rfl
  | _ :: _ :: _, _, hl => simp at hl
/-- what Whole tells, told apart -/
theorem whole_case {o : Option Int} {D : List UInt8} {b : Bool} (hq : NumIs o D b) :
    (dgs7 D = -1 ∧ o = none) ∨ (0 ≤ dgs7 D ∧ dgs7 D < 10000000 ∧ ((1 < D.length ∧ D[0]? = some 48 ∧ o = none) ∨ (¬ (1 < D.length ∧ D[0]? = some 48) ∧ ((b = true ∧ dgs7 D = 0 ∧ o = none) ∨ (¬ (b = true ∧ dgs7 D = 0) ∧ o = some (sgn b (dgs7 D))))))) := by
  have hh : D.head? = D[0]? := List.head?_eq_getElem?
  cases hk : okD D
  · left
    refine ⟨by unfold dgs7; rw [hk]; rfl, ?_⟩
    unfold NumIs at hq
    rw [hq, if_neg (fun q => by rw [hk] at q; cases q.1)]
  · right
    have e : dgs7 D = valD D := by unfold dgs7; rw [hk]; rfl
    have hk2 := hk
    unfold okD at hk2
    rw [Bool.and_eq_true, decide_eq_true_eq] at hk2
    have hb := val_lt (D := D) (k := D.length) hk2.1.2 (by rw [List.take_length]; exact hk2.2)
    rw [List.take_length] at hb
    rw [e]
    refine ⟨hb.1, hb.2, ?_⟩
    by_cases h1 : 1 < D.length ∧ D[0]? = some 48
    · left
      refine ⟨h1.1, h1.2, ?_⟩
      unfold NumIs at hq
      rw [hq, if_neg (fun q => q.2 ⟨hh.trans h1.2, Or.inr h1.1⟩)]
    · right
      refine ⟨h1, ?_⟩
      by_cases h2 : b = true ∧ valD D = 0
      · left
        refine ⟨h2.1, h2.2, ?_⟩
        have h0 : D.head? = some 48 := by
          by_cases g : D.head? = some 48
          · exact g
          · have := val_pos hk g; omega
        unfold NumIs at hq
        rw [hq, if_neg (fun q => q.2 ⟨h0, Or.inl h2.1⟩)]
      · right
        refine ⟨h2, yes_num hq hk2.1 hk2.2 ?_⟩
        rintro ⟨g1, g2 | g2⟩
        · by_cases g3 : 1 < D.length
          · exact h1 ⟨g3, hh.symm.trans g1⟩
          · exact h2 ⟨g2, val_zero g1 g3⟩
        · exact h1 ⟨g2, hh.symm.trans g1⟩
theorem ret_num {o o' : Option Int} (h : o = o') : Ending.returned (numV o) = .returned (numV o') := by rw [h]
end Pln
end Go.Proofs.YtcaobnmfgnbolabDoor
namespace Go.Proofs.YtcaobnmfgnbolabDoor
namespace Pln
open Go.RowKit Lai Civ Crn Pie
set_option maxRecDepth 8000
set_option linter.unusedSimpArgs false

set_option maxHeartbeats 4000000 in
theorem rwhole_min (r : List UInt8) (w : World) (hl : (r).length ≤ 3000) (hq : NumIs (num7 (45 :: r)) (r) true) :
    Calls Tryd.prog 112 #[strV (45 :: r), .int .i64 7] w fun e w' => e = .returned (numV (num7 (45 :: r))) ∧ w' = w := by
  have cD := fun w => rdigits7 (r) w hl
  have hsz : (⟨(45 :: r).toArray⟩ : ByteArray).size = r.length + 1 := rfl
  have hszD : (⟨r.toArray⟩ : ByteArray).size = r.length := rfl
  have hxx : (⟨(45 :: r).toArray⟩ : ByteArray)[0]'(by rw [hsz]; omega) = 45 := rfl
  have hex : (⟨(45 :: r).toArray⟩ : ByteArray).extract 1 (r.length + 1) = ⟨r.toArray⟩ := by
    have := str_cut (45 :: r) 1 (r.length + 1)
    rw [List.take_of_length_le (by simp)] at this
    exact Value.string.inj this
  have hc := whole_case hq
  clear hq
  generalize dgs7 (r) = V at cD hc
  generalize num7 (45 :: r) = O at hc ⊢
  rcases hc with ⟨rfl, ho⟩ | ⟨hv0, hv1, hc⟩
  · have HN : Hid (O = none) := ho
    clear ho
    go_enter Tryd.func112, Tryd.ntmps112
    go_wp2_with (go_at_call 139; (with_reducible refine (cD _).mono ?_); rintro e w1 ⟨rfl, h9⟩; have h8 := h9.symm; clear h9; subst h8)
    go_ret2
    exact ⟨by rw [HN.out]; rfl, rfl⟩
  · rcases hc with ⟨g1, g2, ho⟩ | ⟨hg, hc⟩
    · have HN : Hid (O = none) := ho
      have g1' : (1 : Int) < r.length := by omega
      have hx48 : (⟨r.toArray⟩ : ByteArray)[0]'(by rw [hszD]; omega) = 48 := by
        have : r[0] = 48 := by simpa [show 0 < r.length by omega] using g2
        exact this
      clear ho g2
      go_enter Tryd.func112, Tryd.ntmps112
      go_wp2_with (go_at_call 139; (with_reducible refine (cD _).mono ?_); rintro e w1 ⟨rfl, h9⟩; have h8 := h9.symm; clear h9; subst h8)
      go_ret2
      exact ⟨by rw [HN.out]; rfl, rfl⟩
    · rcases hc with ⟨hb, hz, ho⟩ | ⟨hnz, ho⟩
      · subst hz
        have HN : Hid (O = none) := ho
        clear ho hb
        by_cases g1 : 1 < (r).length
        · have g1' : (1 : Int) < (r).length := by omega
          obtain ⟨x0, hx0⟩ : ∃ x, (r)[0]? = some x := ⟨(r)[0], by simp⟩
          have hxk : (⟨(r).toArray⟩ : ByteArray)[0]'(by rw [hszD]; omega) = x0 := by
            have : (r)[0] = x0 := by simpa [show 0 < (r).length by omega] using hx0
            exact this
          have hx2 : ((x0.toNat : Int) == 48) = false := by
            rw [beq_eq_false_iff_ne]
            intro q
            exact hg ⟨g1, by rw [hx0, UInt8.toNat_inj.1 (show x0.toNat = (48 : UInt8).toNat by have : ((48 : UInt8).toNat : Int) = 48 := rfl; omega)]⟩
          clear hx0 hg
          go_enter Tryd.func112, Tryd.ntmps112
          go_wp2_with (go_at_call 139; (with_reducible refine (cD _).mono ?_); rintro e w1 ⟨rfl, h9⟩; have h8 := h9.symm; clear h9; subst h8)
          go_ret2
          exact ⟨by rw [HN.out]; rfl, rfl⟩
        · have g1' : ¬ (1 : Int) < (r).length := by omega
          clear hg g1
          go_enter Tryd.func112, Tryd.ntmps112
          go_wp2_with (go_at_call 139; (with_reducible refine (cD _).mono ?_); rintro e w1 ⟨rfl, h9⟩; have h8 := h9.symm; clear h9; subst h8)
          go_ret2
          exact ⟨by rw [HN.out]; rfl, rfl⟩
      · have hV : (V == 0) = false := by rw [beq_eq_false_iff_ne]; exact fun q => hnz ⟨rfl, q⟩
        have HN : Hid (O = some (sgn true V)) := ho
        clear ho hnz
        by_cases g1 : 1 < (r).length
        · have g1' : (1 : Int) < (r).length := by omega
          obtain ⟨x0, hx0⟩ : ∃ x, (r)[0]? = some x := ⟨(r)[0], by simp⟩
          have hxk : (⟨(r).toArray⟩ : ByteArray)[0]'(by rw [hszD]; omega) = x0 := by
            have : (r)[0] = x0 := by simpa [show 0 < (r).length by omega] using hx0
            exact this
          have hx2 : ((x0.toNat : Int) == 48) = false := by
            rw [beq_eq_false_iff_ne]
            intro q
            exact hg ⟨g1, by rw [hx0, UInt8.toNat_inj.1 (show x0.toNat = (48 : UInt8).toNat by have : ((48 : UInt8).toNat : Int) = 48 := rfl; omega)]⟩
          clear hx0 hg
          go_enter Tryd.func112, Tryd.ntmps112
          go_wp2_with (go_at_call 139; (with_reducible refine (cD _).mono ?_); rintro e w1 ⟨rfl, h9⟩; have h8 := h9.symm; clear h9; subst h8)
          go_ret2
          exact ⟨by rw [HN.out]; rfl, rfl⟩
        · have g1' : ¬ (1 : Int) < (r).length := by omega
          clear hg g1
          go_enter Tryd.func112, Tryd.ntmps112
          go_wp2_with (go_at_call 139; (with_reducible refine (cD _).mono ?_); rintro e w1 ⟨rfl, h9⟩; have h8 := h9.symm; clear h9; subst h8)
          go_ret2
          exact ⟨by rw [HN.out]; rfl, rfl⟩
set_option maxHeartbeats 4000000 in
theorem rwhole_plus (y : UInt8) (r : List UInt8) (hy : y ≠ 45) (w : World) (hl : (y :: r).length ≤ 3000) (hq : NumIs (num7 (y :: r)) (y :: r) false) :
    Calls Tryd.prog 112 #[strV (y :: r), .int .i64 7] w fun e w' => e = .returned (numV (num7 (y :: r))) ∧ w' = w := by
  have cD := fun w => rdigits7 (y :: r) w hl
  have hszD : (⟨(y :: r).toArray⟩ : ByteArray).size = r.length + 1 := rfl
  have hyy : (⟨(y :: r).toArray⟩ : ByteArray)[0]'(by rw [hszD]; omega) = y := rfl
  have hyn : ((y.toNat : Int) == 45) = false := by
    rw [beq_eq_false_iff_ne]
    intro q
    exact hy (UInt8.toNat_inj.1 (show y.toNat = (45 : UInt8).toNat by have : ((45 : UInt8).toNat : Int) = 45 := rfl; omega))
  have hc := whole_case hq
  clear hq
  generalize dgs7 (y :: r) = V at cD hc
  generalize num7 (y :: r) = O at hc ⊢
  rcases hc with ⟨rfl, ho⟩ | ⟨hv0, hv1, hc⟩
  · have HN : Hid (O = none) := ho
    clear ho
    go_enter Tryd.func112, Tryd.ntmps112
    go_wp2_with (go_at_call 139; (with_reducible refine (cD _).mono ?_); rintro e w1 ⟨rfl, h9⟩; have h8 := h9.symm; clear h9; subst h8)
    go_ret2
    exact ⟨by rw [HN.out]; rfl, rfl⟩
  · rcases hc with ⟨g1, g2, ho⟩ | ⟨hg, hc⟩
    · have HN : Hid (O = none) := ho
      have g1' : (1 : Int) < (r.length : Int) + 1 := by simp at g1; omega
      obtain rfl : y = 48 := by simpa using g2
      clear ho g1 g2
      go_enter Tryd.func112, Tryd.ntmps112
      go_wp2_with (go_at_call 139; (with_reducible refine (cD _).mono ?_); rintro e w1 ⟨rfl, h9⟩; have h8 := h9.symm; clear h9; subst h8)
      go_ret2
      exact ⟨by rw [HN.out]; rfl, rfl⟩
    · rcases hc with ⟨hb, hz, ho⟩ | ⟨hnz, ho⟩
      · cases hb
      · have HN : Hid (O = some (sgn false V)) := ho
        clear ho hnz
        by_cases g1 : 1 < (y :: r).length
        · have g1' : (1 : Int) < (r.length : Int) + 1 := by simp at g1; omega
          have hx2 : ((y.toNat : Int) == 48) = false := by
            rw [beq_eq_false_iff_ne]
            intro q
            exact hg ⟨g1, by rw [List.getElem?_cons_zero, UInt8.toNat_inj.1 (show y.toNat = (48 : UInt8).toNat by have : ((48 : UInt8).toNat : Int) = 48 := rfl; omega)]⟩
          clear hg g1
          go_enter Tryd.func112, Tryd.ntmps112
          go_wp2_with (go_at_call 139; (with_reducible refine (cD _).mono ?_); rintro e w1 ⟨rfl, h9⟩; have h8 := h9.symm; clear h9; subst h8)
          go_ret2
          exact ⟨by rw [HN.out]; rfl, rfl⟩
        · have g1' : ¬ (1 : Int) < (r.length : Int) + 1 := by simp at g1; simp [g1]
          clear hg g1
          go_enter Tryd.func112, Tryd.ntmps112
          go_wp2_with (go_at_call 139; (with_reducible refine (cD _).mono ?_); rintro e w1 ⟨rfl, h9⟩; have h8 := h9.symm; clear h9; subst h8)
          go_ret2
          exact ⟨by rw [HN.out]; rfl, rfl⟩
theorem rwhole_nil (w : World) (hq : NumIs (num7 []) [] false) :
    Calls Tryd.prog 112 #[strV [], .int .i64 7] w fun e w' => e = .returned (numV (num7 [])) ∧ w' = w := by
  have cD := fun w => rdigits7 [] w (by simp)
  rw [show dgs7 [] = -1 from rfl] at cD
  have HN : Hid (num7 [] = none) := no_num hq (Or.inr (by simp))
  clear hq
  generalize num7 [] = O at HN ⊢
  go_enter Tryd.func112, Tryd.ntmps112
  go_wp2_with (go_at_call 139; (with_reducible refine (cD _).mono ?_); rintro e w1 ⟨rfl, h9⟩; have h8 := h9.symm; clear h9; subst h8)
  go_ret2
  exact ⟨by rw [HN.out]; rfl, rfl⟩
theorem rwhole (t : List UInt8) (w : World) (hl : t.length ≤ 3000) :
    Calls Tryd.prog 112 #[strV t, .int .i64 7] w fun e w' => e = .returned (numV (num7 t)) ∧ w' = w := by
  have hq : NumIs (num7 t) (digs t) (minB t) := num7_eq t
  cases t with
  | nil => exact rwhole_nil w hq
  | cons y r =>
    by_cases hy : y = 45
    · subst hy
      exact rwhole_min r w (by simp at hl; omega) hq
    · have e1 : minB (y :: r) = false := by unfold minB; rw [beq_eq_false_iff_ne]; exact fun q => hy (Option.some.inj q)
      have e2 : digs (y :: r) = y :: r := by unfold digs; rw [e1]; rfl
      rw [e1, e2] at hq
      exact rwhole_plus y r hy w hl hq
end Pln
end Go.Proofs.YtcaobnmfgnbolabDoor
