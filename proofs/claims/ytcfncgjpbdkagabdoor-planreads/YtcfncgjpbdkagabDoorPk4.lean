/- strings.Split and strings.Cut at a byte. What tideref.Rest answers: the rest that is never below 0. What the document's answer (tideref) says of dates: In, Leap, Long, years, Days, Date: contracts, the leaves first. What the document's answer (tideref) says: Date, Of. What the document's answer (tideref) says of a number of a plan's text: digits, Whole. What the document's answer (tideref) says of a whole number: Whole. How a plan's text is read line by line: plain mathematics. What the reading of numbers does to a plan that is being read. Plain. Several numbers of a plan's text: parseNumbers. What the document's answer (tideref) says of several numbers: wholes. What plan.Check answers: triggers. What plan.Check answers. -/
import Derived.Test.YtcfncgjpbdkagabDoorRows
import Derived.Test.YtcfncgjpbdkagabDoorShelf3
import Derived.Test.YtcfncgjpbdkagabDoorParsePlain
import Derived.Test.YtcfncgjpbdkagabDoorTextWalks
import Derived.WalkKit
import Derived.Deep.QuietTactic
import Derived.ProofKit
import Derived.Test.YtcfncgjpbdkagabDoorPk2
import Derived.Test.YtcfncgjpbdkagabDoorPk3
import Derived.Deep.MidRow
namespace Go.Proofs.YtcfncgjpbdkagabDoor
namespace Pie
open Go.RowKit Crn
set_option maxRecDepth 8000

theorem info_st : (Tryd.prog.info? 9).map (fun i => (i.zero, i.size, i.bytes)) = some (some (.string ByteArray.empty), 1, 16) := by kernel_rfl
/-- a slice of texts -/
def Texts (w : World) (B : Nat) (l : List (List UInt8)) : Prop := B < w.heap.size ∧ ∀ (j : Nat) x, l[j]? = some x → w.cell? ⟨B, j, none⟩ = some (strV x)
theorem Texts.below {w w' : World} {B n : Nat} {l : List (List UInt8)} (h : Texts w B l) (hb : Below n w w') (hn : B < n) : Texts w' B l :=
  ⟨Nat.lt_of_lt_of_le h.1 hb.size, fun j x hx => (hb.cell (p := ⟨B, j, none⟩) hn).trans (h.2 j x hx)⟩

theorem gensplit (s : List UInt8) (c : UInt8) (w : World) (hs : s.length < 4294967281) :
    Calls Tryd.prog 87 #[strV s, .string ⟨#[c]⟩, .int .i64 0, .int .i64 (-1)] w fun e w' => e = .returned (.slice (some ⟨w.heap.size, 0, none⟩) (pieces c s).length (pieces c s).length) ∧ Texts w' w.heap.size (pieces c s) ∧ Below w.heap.size w w' := by
  have hcnt : Lib.countB ⟨s.toArray⟩ ⟨#[c]⟩ = s.count c := by
    show Lib.count s [c] = _
    exact Lib.count_one c s
  have hle : s.count c ≤ s.length := List.count_le_length
  have hsz : (⟨s.toArray⟩ : ByteArray).size = s.length := rfl
  have c0 := Any.strings_genSplit_core Tryd.lays221 info_st ⟨s.toArray⟩ ⟨#[c]⟩ 0 (-1) (s.count c + 1) w (by rw [hsz]; exact hs) (Nat.le_refl 1) (Nat.zero_le _)
    (fun x a _ => by
      have := Tryd.strings_Index_one x c (w.alloc (.cells a 9))
      rw [← Lib.index_one] at this
      exact this)
    (by
      rw [hcnt]
      exact Tryd.strings_Count_one ⟨s.toArray⟩ c w)
    (by decide) (by decide) (by rw [hcnt, if_pos (by decide), hsz]; omega)
  have hd : (Lib.splitB ⟨#[c]⟩ 0 (s.count c + 1 - 1) ⟨s.toArray⟩).map (·.data.toList) = pieces c s := by
    rw [Lib.splitB_data, Nat.add_sub_cancel]
    exact splitK_pieces c _ s rfl
  generalize Lib.splitB ⟨#[c]⟩ 0 (s.count c + 1 - 1) ⟨s.toArray⟩ = L at c0 hd
  have hlen : L.length = (pieces c s).length := by rw [← hd, List.length_map]
  have hN : s.count c + 1 = (pieces c s).length := (pieces_len c s).symm
  refine c0.mono fun e w' h => ?_
  obtain ⟨he, hw⟩ := h
  rw [hlen, hN] at he
  rw [hN, ← hlen] at hw
  refine ⟨he, ?_, ?_⟩
  · rw [hw]
    refine ⟨by simp, fun j x hx => ?_⟩
    rw [← hd, List.getElem?_map, Option.map_eq_some_iff] at hx
    obtain ⟨y, hy, rfl⟩ := hx
    rw [Lib.cellsOf_full]
    have e1 : ((L.map Value.string).toArray)[j]? = some (.string y) := by simp [hy]
    have := (World.cell?_of_block (w := w.alloc (.cells (L.map Value.string).toArray 9)) (w' := w.alloc (.cells (L.map Value.string).toArray 9)) (a := ⟨w.heap.size, j, none⟩) rfl)
    have e2 : strV y.data.toList = .string y := rfl
    rw [e2]
    simpa using e1
  · rw [hw]; exact (Below.refl _ _).alloc (Nat.le_refl _) _
theorem split_any (s : List UInt8) (c : UInt8) (w : World) (hs : s.length < 4294967281) :
    Calls Tryd.prog 65 #[strV s, .string ⟨#[c]⟩] w fun e w' => e = .returned (.slice (some ⟨w.heap.size, 0, none⟩) (pieces c s).length (pieces c s).length) ∧ Texts w' w.heap.size (pieces c s) ∧ Below w.heap.size w w' := by
  have c0 := gensplit s c w hs
  go_enter Tryd.func65, Tryd.ntmps65
  go_wp2_with (go_at_call 87; (with_reducible refine c0.mono ?_); rintro e w1 ⟨rfl, h1, h2⟩)
  go_ret
  exact ⟨rfl, h1, h2⟩
theorem ret_three {a b c d e : Value} (h : a = b) (g : c = d) : Ending.returned (.tuple #[a, c, e]) = .returned (.tuple #[b, d, e]) := by rw [h, g]
theorem str_cut (l : List UInt8) (i j : Nat) : Value.string ((⟨l.toArray⟩ : ByteArray).extract i j) = strV ((l.take j).drop i) := by
  have : (⟨l.toArray⟩ : ByteArray).extract i j = ⟨((l.take j).drop i).toArray⟩ := by
    apply ByteArray.ext
    rw [ByteArray.data_extract]
    simp [List.drop_take]
  rw [this]
theorem lcut_no (s : List UInt8) (c : UInt8) (w : World) (h : c ∉ s) :
    Calls Tryd.prog 64 #[strV s, .string ⟨#[c]⟩] w fun e w' => e = .returned (.tuple #[strV s, .string ⟨#[]⟩, .bool false]) ∧ w' = w := by
  have c0 : Calls Tryd.prog 86 #[strV s, .string ⟨#[c]⟩] w fun e w' => e = .returned (.int .i64 (-1)) ∧ w' = w := by
    have := Tryd.stringslite_Index_one ⟨s.toArray⟩ c w
    rw [index_none h] at this
    exact this
  clear h
  go_enter Tryd.func64, Tryd.ntmps64
  go_wp2_with (go_at_call 86; (with_reducible refine c0.mono ?_); rintro e w1 ⟨rfl, rfl⟩)
  go_ret3
  exact ⟨rfl, rfl⟩
set_option maxHeartbeats 2000000 in
theorem lcut_yes (a b : List UInt8) (c : UInt8) (w : World) (h : c ∉ a) (hl : (a ++ c :: b).length ≤ 4294967281) :
    Calls Tryd.prog 64 #[strV (a ++ c :: b), .string ⟨#[c]⟩] w fun e w' => e = .returned (.tuple #[strV a, strV b, .bool true]) ∧ ∃ q, w' = w.drewN q := by
  have c0 : Calls Tryd.prog 86 #[strV (a ++ c :: b), .string ⟨#[c]⟩] w fun e w' => e = .returned (.int .i64 a.length) ∧ w' = w := by
    have := Tryd.stringslite_Index_one ⟨(a ++ c :: b).toArray⟩ c w
    rw [show Lib.indexByte ((⟨(a ++ c :: b).toArray⟩ : ByteArray).data.toList) c = a.length from index_hit h] at this
    exact this
  have hsz : (⟨(a ++ c :: b).toArray⟩ : ByteArray).size = a.length + 1 + b.length := by show (a ++ c :: b).length = _; simp; omega
  have hsc : (⟨#[c]⟩ : ByteArray).size = 1 := rfl
  have hla : (a.length : Int) ≤ 4294967281 := by simp at hl; omega
  have hx : (a.length : Int) ≤ ((⟨(a ++ c :: b).toArray⟩ : ByteArray).size : Int) := by omega
  have hy : (a.length : Int) + 1 ≤ ((⟨(a ++ c :: b).toArray⟩ : ByteArray).size : Int) := by omega
  clear h
  go_enter Tryd.func64, Tryd.ntmps64
  go_wp2_with (go_at_call 86; (with_reducible refine c0.mono ?_); rintro e w1 ⟨rfl, h9⟩; have h8 := h9.symm; clear h9; subst h8)
  go_quiet (fail)
  go_wp2
  go_ret3
  refine ⟨?_, nq, rfl⟩
  have e1 := str_cut (a ++ c :: b) 0 a.length
  have e2 := str_cut (a ++ c :: b) (a.length + 1) (a.length + 1 + b.length)
  rw [show ((a ++ c :: b).take a.length).drop 0 = a by simp] at e1
  rw [show ((a ++ c :: b).take (a.length + 1 + b.length)).drop (a.length + 1) = b by rw [List.take_of_length_le (by simp; omega)]; simp] at e2
  exact ret_three e1 e2
theorem cut_no (s : List UInt8) (c : UInt8) (w : World) (h : c ∉ s) :
    Calls Tryd.prog 39 #[strV s, .string ⟨#[c]⟩] w fun e w' => e = .returned (.tuple #[strV s, .string ⟨#[]⟩, .bool false]) ∧ w' = w := by
  have c0 := lcut_no s c w h
  clear h
  go_enter Tryd.func39, Tryd.ntmps39
  go_wp2_with (go_at_call 64; (with_reducible refine c0.mono ?_); rintro e w1 ⟨rfl, rfl⟩)
  go_ret3
  exact ⟨rfl, rfl⟩
theorem cut_yes (a b : List UInt8) (c : UInt8) (w : World) (h : c ∉ a) (hl : (a ++ c :: b).length ≤ 4294967281) :
    Calls Tryd.prog 39 #[strV (a ++ c :: b), .string ⟨#[c]⟩] w fun e w' => e = .returned (.tuple #[strV a, strV b, .bool true]) ∧ ∃ q, w' = w.drewN q := by
  have c0 := lcut_yes a b c w h hl
  clear h hl
  go_enter Tryd.func39, Tryd.ntmps39
  go_wp2_with (go_at_call 64; (with_reducible refine c0.mono ?_); rintro e w1 ⟨rfl, q, rfl⟩)
  go_ret3
  exact ⟨rfl, q, rfl⟩
end Pie
end Go.Proofs.YtcfncgjpbdkagabDoor
namespace Go.Proofs.YtcfncgjpbdkagabDoor
namespace Rst
open Go.RowKit
theorem ret_int {k : IntKind} {a b : Int} (h : a = b) : Ending.returned (.int k a) = .returned (.int k b) := by rw [h]
theorem rest_any (n m : Int) (w : World) (h1 : 1 ≤ m) (h2 : m ≤ 1000000000000) :
    Calls Tryd.prog 23 #[.int .i64 n, .int .i64 m] w fun e w' => e = .returned (.int .i64 (n % m)) ∧ w' = w := by
  have hm : ¬ m = 0 := by omega
  have h3 := Int.tmod_lt_of_pos n (show 0 < m by omega)
  have h4 : -m < n.tmod m := by
    have := Int.tmod_lt_of_pos (-n) (show 0 < m by omega)
    rw [Int.neg_tmod] at this
    omega
  by_cases hr : n.tmod m < 0
  · have HE : Hid (n.tmod m + m = n % m) := by
      have := Int.emod_eq_add_self_emod (a := n.tmod m) (b := m)
      have h5 : (n.tmod m + m) % m = n.tmod m + m := Int.emod_eq_of_lt (by omega) (by omega)
      have h6 : n.tmod m % m = n % m := by
        have h7 := Int.tmod_add_mul_tdiv n m
        have h8 : n.tmod m = n + m * -(n.tdiv m) := by rw [Int.mul_neg]; omega
        rw [h8, Int.add_mul_emod_self_left]
      show n.tmod m + m = n % m
      omega
    go_enter Tryd.func23, Tryd.ntmps23
    go_wp2
    go_ret
    exact ⟨ret_int HE.out, rfl⟩
  · have HE : Hid (n.tmod m = n % m) := by
      have h5 : n.tmod m % m = n.tmod m := Int.emod_eq_of_lt (by omega) (by omega)
      have h6 : n.tmod m % m = n % m := by
        have h7 := Int.tmod_add_mul_tdiv n m
        have h8 : n.tmod m = n + m * -(n.tdiv m) := by rw [Int.mul_neg]; omega
        rw [h8, Int.add_mul_emod_self_left]
      show n.tmod m = n % m
      omega
    go_enter Tryd.func23, Tryd.ntmps23
    go_wp2
    go_ret
    exact ⟨ret_int HE.out, rfl⟩

end Rst
end Go.Proofs.YtcfncgjpbdkagabDoor
namespace Go.Proofs.YtcfncgjpbdkagabDoor
namespace RCiv
open Cal Civ Rst Go.RowKit

def inB (n lo hi : Int) : Bool := decide (lo ≤ n ∧ n ≤ hi)
theorem in_any (n lo hi : Int) (w : World) :
    Calls Tryd.prog 22 #[.int .i64 n, .int .i64 lo, .int .i64 hi] w fun e w' => e = .returned (.bool (inB n lo hi)) ∧ w' = w := by
  by_cases h1 : lo ≤ n
  · have d : decide (lo ≤ n) = true := by simp [h1]
    have HT : Hid (inB n lo hi = decide (n ≤ hi)) := by unfold Hid inB; rw [decide_eq_decide]; omega
    go_enter Tryd.func22, Tryd.ntmps22
    go_wp2
    go_ret
    exact ⟨ret_bool HT.out.symm, rfl⟩
  · have d : decide (lo ≤ n) = false := by simp; omega
    have HT : Hid (inB n lo hi = false) := by unfold Hid inB; simp; omega
    go_enter Tryd.func22, Tryd.ntmps22
    go_wp2
    go_ret
    exact ⟨ret_bool HT.out.symm, rfl⟩

theorem rleap_any (y : Int) (w : World) :
    Calls Tryd.prog 73 #[.int .i64 y] w fun e w' => e = .returned (.bool (lpB y)) ∧ w' = w := by
  have t4 := tz y 4
  have t1 : (y.tmod 100 != 0) = !decide (y % 100 = 0) := by rw [bne, tz]
  have t0 := tz y 400
  by_cases h0 : y % 400 = 0
  · have HL : Hid (lpB y = true) := by unfold Hid lpB; simp; omega
    simp only [h0, decide_true] at t0
    clear h0 t4 t1
    go_enter Tryd.func73, Tryd.ntmps73
    go_wp2
    go_ret
    exact ⟨ret_bool HL.out.symm, rfl⟩
  · simp only [h0, decide_false] at t0
    by_cases h4 : y % 4 = 0
    · have HL : Hid (lpB y = (y.tmod 100 != 0)) := by
        unfold Hid; rw [t1]; unfold lpB
        by_cases h1 : y % 100 = 0 <;> simp [h4, h1, h0]
      simp only [h4, decide_true] at t4
      clear h0 h4 t1
      go_enter Tryd.func73, Tryd.ntmps73
      go_wp2
      go_ret
      exact ⟨ret_bool HL.out.symm, rfl⟩
    · have HL : Hid (lpB y = false) := by unfold Hid lpB; simp; omega
      simp only [h4, decide_false] at t4
      clear h0 h4 t1
      go_enter Tryd.func73, Tryd.ntmps73
      go_wp2
      go_ret
      exact ⟨ret_bool HL.out.symm, rfl⟩

theorem long_any (y m : Int) (w : World) :
    Calls Tryd.prog 49 #[.int .i64 y, .int .i64 m] w fun e w' => e = .returned (.int .i64 (dim y m)) ∧ w' = w := by
  have hl := lpB_lp y
  by_cases h2 : m = 2
  · subst h2
    have hd : dim y 2 = 28 + lp y := by simp [dim]
    cases hb : lpB y
    all_goals
      have HD : Hid (dim y 2 = 28 + lp y) := hd
      have HL : Hid _ := hl
      rw [hb] at HL
      clear hd hl
      go_enter Tryd.func49, Tryd.ntmps49
      go_wp2_with (go_at_call 73; refine (rleap_any _ _).mono ?_; rintro e w' ⟨rfl, rfl⟩)
      go_ret
      exact ⟨Civ.ret_int (by rw [HD.out, HL.out]; rfl), rfl⟩
  · clear hl
    by_cases h30 : m = 4 ∨ m = 6 ∨ m = 9 ∨ m = 11
    · rcases h30 with rfl | rfl | rfl | rfl
      all_goals
        go_enter Tryd.func49, Tryd.ntmps49
        go_wp2
        go_ret
        exact ⟨Civ.ret_int (by simp [dim]), rfl⟩
    · have HD : Hid (dim y m = 31) := by unfold Hid dim; rw [if_neg h2, if_neg h30]
      have d2 : (m == 2) = false := by simp [h2]
      have d4 : (m == 4) = false := by simp; omega
      have d6 : (m == 6) = false := by simp; omega
      have d9 : (m == 9) = false := by simp; omega
      have d11 : (m == 11) = false := by simp; omega
      clear h2 h30
      go_enter Tryd.func49, Tryd.ntmps49
      go_wp2
      go_ret
      exact ⟨Civ.ret_int HD.out.symm, rfl⟩

theorem tdiv_neg (y s : Int) (h : y ≤ 0) : y.tdiv s = -((-y) / s) := by
  have e := Int.neg_tdiv (a := -y) (b := s)
  rw [Int.neg_neg] at e
  rw [e, Int.tdiv_eq_ediv_of_nonneg (by omega)]

set_option maxHeartbeats 1000000 in
theorem years_any (y : Int) (w : World) (h1 : -4000 ≤ y) (h2 : y ≤ 9000) :
    Calls Tryd.prog 48 #[.int .i64 y] w fun e w' => e = .returned (.int .i64 (ys y - 1460970)) ∧ Below w.heap.size w w' := by
  go_enter Tryd.func48, Tryd.ntmps48
  go_wp2
  go_loop [3, 13] (fun n i => (i = .int .i64 0 ∧ n = .int .i64 (365 * y)) ∨ (i = .int .i64 1 ∧ n = .int .i64 (365 * y + (y + 3) / 4)) ∨
    (i = .int .i64 2 ∧ n = .int .i64 (365 * y + (y + 3) / 4 - (y + 99) / 100)) ∨ (i = .int .i64 3 ∧ n = .int .i64 (365 * y + (y + 3) / 4 - (y + 99) / 100 + (y + 399) / 400))) (fun _ i => (3 - intOf i).toNat)
  case atStart => exact Or.inl ⟨rfl, rfl⟩
  case round =>
    rcases hrel with ⟨rfl, rfl⟩ | ⟨rfl, rfl⟩ | ⟨rfl, rfl⟩ | ⟨rfl, rfl⟩
    · by_cases hy : 0 < y
      · go_wp2
        go_round
        case rel => exact Or.inr (Or.inl ⟨rfl, by congr 1; omega⟩)
        case measure => simp [intOf]
      · have HE : Hid (y.tdiv 4 = (y + 3) / 4) := by unfold Hid; rw [tdiv_neg y 4 (by omega)]; omega
        obtain ⟨q, hq⟩ : ∃ q, y.tdiv 4 = q := ⟨_, rfl⟩
        have HQ : Hid (q = (y + 3) / 4) := by unfold Hid; rw [← hq]; exact HE.out
        have q1 : -4000 ≤ q := by have := HQ.out; omega
        have q2 : q ≤ 0 := by have := HQ.out; omega
        clear HE
        go_wp2
        go_round
        case rel => exact Or.inr (Or.inl ⟨rfl, by congr 1; have := HQ.out; omega⟩)
        case measure => simp [intOf]
    · by_cases hy : 0 < y
      · go_wp2
        go_round
        case rel => exact Or.inr (Or.inr (Or.inl ⟨rfl, by congr 1; omega⟩))
        case measure => simp [intOf]
      · have HE : Hid (y.tdiv 100 = (y + 99) / 100) := by unfold Hid; rw [tdiv_neg y 100 (by omega)]; omega
        obtain ⟨q, hq⟩ : ∃ q, y.tdiv 100 = q := ⟨_, rfl⟩
        have HQ : Hid (q = (y + 99) / 100) := by unfold Hid; rw [← hq]; exact HE.out
        have q1 : -4000 ≤ q := by have := HQ.out; omega
        have q2 : q ≤ 0 := by have := HQ.out; omega
        clear HE
        go_wp2
        go_round
        case rel => exact Or.inr (Or.inr (Or.inl ⟨rfl, by congr 1; have := HQ.out; omega⟩))
        case measure => simp [intOf]
    · by_cases hy : 0 < y
      · go_wp2
        go_round
        case rel => exact Or.inr (Or.inr (Or.inr ⟨rfl, by congr 1; omega⟩))
        case measure => simp [intOf]
      · have HE : Hid (y.tdiv 400 = (y + 399) / 400) := by unfold Hid; rw [tdiv_neg y 400 (by omega)]; omega
        obtain ⟨q, hq⟩ : ∃ q, y.tdiv 400 = q := ⟨_, rfl⟩
        have HQ : Hid (q = (y + 399) / 400) := by unfold Hid; rw [← hq]; exact HE.out
        have q1 : -4000 ≤ q := by have := HQ.out; omega
        have q2 : q ≤ 0 := by have := HQ.out; omega
        clear HE
        go_wp2
        go_round
        case rel => exact Or.inr (Or.inr (Or.inr ⟨rfl, by congr 1; have := HQ.out; omega⟩))
        case measure => simp [intOf]
    · go_wp2
      go_ret
      exact ⟨Civ.ret_int (by unfold ys; omega), (Below.refl _ _).alloc (Nat.le_refl _) _⟩
end RCiv
end Go.Proofs.YtcfncgjpbdkagabDoor
namespace Go.Proofs.YtcfncgjpbdkagabDoor
namespace RCiv
open Cal Civ Rst Go.RowKit

theorem in_iff (n lo hi : Int) : inB n lo hi = true ↔ (lo ≤ n ∧ n ≤ hi) := by unfold inB; simp
theorem years_c (w : World) : Calls Tryd.prog 48 #[.int .i64 1970] w fun e w' => e = .returned (.int .i64 719528) ∧ Below w.heap.size w w' :=
  years_any 1970 w (by omega) (by omega)

theorem tdiv_bd (n : Int) (h1 : -1200000 ≤ n) (h2 : n ≤ 1200000) : -3300 ≤ n.tdiv 366 ∧ n.tdiv 366 ≤ 3300 := by
  by_cases c : 0 ≤ n
  · rw [Int.tdiv_eq_ediv_of_nonneg c]; omega
  · rw [tdiv_neg n 366 (by omega)]; omega

theorem yr_lt (y n : Int) (h : ys y ≤ n) (h2 : n ≤ 4000000) : y ≤ 7000 := by
  by_cases c : 7000 < y
  · have := ys_mono 7001 y (by omega)
    have z : ys 7001 = 4018033 := by decide
    omega
  · omega
theorem ret_three {k l m : IntKind} {a b c d x y : Int} (h : a = b) (g : c = d) (i : x = y) : Ending.returned (.tuple #[.int k a, .int l c, .int m x]) = .returned (.tuple #[.int k b, .int l d, .int m y]) := by rw [h, g, i]

set_option maxHeartbeats 2000000 in
theorem rdate_any (n : Int) (w : World) (h1 : -1200000 ≤ n) (h2 : n ≤ 1200000) :
    Calls Tryd.prog 24 #[.int .i64 n] w fun e w' => e = .returned (.tuple #[.int .i64 (yr (n + 2180498)), .int .i64 (mo (n + 2180498)), .int .i64 (dy (n + 2180498))]) ∧ Below w.heap.size w w' := by
  have hq := tdiv_bd n h1 h2
  go_enter Tryd.func24, Tryd.ntmps24
  go_wp2
  go_loopw [2] (fun t wr => ∃ y : Int, -4000 ≤ y ∧ y ≤ 6000 ∧ t = .int .i64 y ∧ Below w.heap.size w wr) (fun t _ => (intOf t + 4000).toNat)
  case atStart => exact ⟨_, by omega, by omega, rfl, Below.refl _ _⟩
  case round =>
    obtain ⟨y, hy1, hy2, rfl, hbw⟩ := hrel
    have b1 := ys_bd y hy1 (by omega)
    clear hq
    by_cases hgt : n + 2180498 < ys y
    · have hy3 : -4000 < y := by
        by_cases e : y = -4000
        · subst e; have := ys_first; omega
        · omega
      have g : n < ys y - 1460970 - 719528 := by omega
      go_wp2_with (first | (go_at_call 48; with_reducible refine (years_c _).mono ?_; rintro e w2 ⟨rfl, hb2⟩) | (go_at_call 48; refine (years_any _ _ (by omega) (by omega)).mono ?_; rintro e w1 ⟨rfl, hb1⟩))
      go_roundw
      case rel => exact ⟨y - 1, by omega, by omega, rfl, bstep (bstep hbw hb1) hb2⟩
      case measure => simp [intOf]; omega
    · have g : ys y - 1460970 - 719528 ≤ n := by omega
      go_wp2_with (first | (go_at_call 48; with_reducible refine (years_c _).mono ?_; rintro e w2 ⟨rfl, hb2⟩) | (go_at_call 48; refine (years_any _ _ (by omega) (by omega)).mono ?_; rintro e w1 ⟨rfl, hb1⟩))
      go_loopw [2] (fun t wr => ∃ y : Int, -4000 ≤ y ∧ y ≤ 7000 ∧ t = .int .i64 y ∧ ys y ≤ n + 2180498 ∧ Below w.heap.size w wr) (fun t _ => (9000 - intOf t).toNat)
      case atStart => exact ⟨y, hy1, by omega, rfl, by omega, bstep (bstep hbw hb1) hb2⟩
      case round =>
        clear hgt g hb1 hb2 hbw b1
        obtain ⟨z, hz1, hz2, rfl, hz3, hbz⟩ := hrel
        have c1 := ys_bd z hz1 (by omega)
        have c2 := ys_bd (z + 1) (by omega) (by omega)
        by_cases hle : ys (z + 1) ≤ n + 2180498
        · have hz4 := yr_lt (z + 1) _ hle (by omega)
          have g : ys (z + 1) - 1460970 - 719528 ≤ n := by omega
          go_wp2_with (first | (go_at_call 48; with_reducible refine (years_c _).mono ?_; rintro e w4 ⟨rfl, hb4⟩) | (go_at_call 48; refine (years_any _ _ (by omega) (by omega)).mono ?_; rintro e w3 ⟨rfl, hb3⟩))
          go_roundw
          case rel => exact ⟨z + 1, by omega, by omega, rfl, hle, bstep (bstep hbz hb3) hb4⟩
          case measure => simp [intOf]; omega
        · have g : n < ys (z + 1) - 1460970 - 719528 := by omega
          have HN : Hid (ys (z + 1) = ys z + 365 + lp z) := ys_succ _
          go_wp2_with (first | (go_at_call 48; with_reducible refine (years_c _).mono ?_; rintro e w6 ⟨rfl, hb6⟩; replace hbz := bstep hbz hb6; clear hb6) | (go_at_call 48; refine (years_any _ _ (by omega) (by omega)).mono ?_; rintro e w5 ⟨rfl, hb5⟩; replace hbz := bstep hbz hb5; clear hb5))
          go_loop [0, 3] (fun r k => ∃ j : Int, 1 ≤ j ∧ j ≤ 12 ∧ k = .int .i64 j ∧ cum z j ≤ n + 2180498 - ys z ∧ r = .int .i64 (n + 2180498 - ys z - cum z j)) (fun _ k => (12 - intOf k).toNat)
          case atStart => exact ⟨1, by omega, by omega, rfl, by rw [cum_one]; omega, by rw [cum_one]; congr 1; omega⟩
          case round =>
            obtain ⟨j, hj1, hj2, rfl, hc, rfl⟩ := hrel
            have cb := cum_bd z j
            have db := dim_bd z j
            have HC : Hid (cum z (j + 1) = cum z j + dim z j) := cum_succ _ j hj1 hj2
            have hl := lp_01 z
            by_cases hlt : dim z j ≤ n + 2180498 - ys z - cum z j
            · have hj3 : j < 12 := by
                by_cases e : j = 12
                · subst e
                  have c13 := cum_last z
                  have q := HC.out
                  have q2 := HN.out
                  rw [show (12 : Int) + 1 = 13 by decide] at q
                  omega
                · omega
              go_wp2_with (first | (go_at_call 49; refine (long_any _ _ _).mono ?_; rintro e w' ⟨rfl, rfl⟩))
              go_round
              case rel => exact ⟨j + 1, by omega, by omega, rfl, by rw [HC.out]; omega, by rw [HC.out]; go_num⟩
              case measure => simp [intOf]; omega
            · obtain ⟨e1, e2, e3⟩ := date_is (n := n + 2180498) (y := z) (m := j) (d := n + 2180498 - ys z - cum z j + 1) ⟨hj1, hj2, by omega, by omega⟩ (by omega)
              have E : Hid (_ ∧ _ ∧ _) := ⟨e1, e2, e3⟩
              clear e1 e2 e3
              go_wp2_with (first | (go_at_call 49; refine (long_any _ _ _).mono ?_; rintro e w' ⟨rfl, rfl⟩))
              go_ret3
              exact ⟨ret_three E.out.1.symm E.out.2.1.symm E.out.2.2.symm, hbz⟩

theorem tm_in (n : Int) : tmB n = inB n (-100000000000) 100000000000 := rfl
theorem sh_in (n : Int) : shB n = inB n (-900) 900 := rfl

theorem rof_no (sec shift : Int) (w : World) (h : tmB sec = false ∨ shB shift = false) :
    Calls Tryd.prog 8 #[.int .i64 sec, .int .i64 shift] w fun e w' => e = .returned (.tuple #[civ 0 0 0 0 0 0 0, .int .i64 1]) ∧ Below w.heap.size w w' := by
  rw [tm_in, sh_in] at h
  cases ht : inB sec (-100000000000) 100000000000
  · clear h
    go_enter Tryd.func8, Tryd.ntmps8
    go_wp2_with (first | (go_at_call 22; refine (in_any _ _ _ _).mono ?_; rintro e w' ⟨rfl, rfl⟩))
    refine bodyPost_ret (v := .tuple #[civ 0 0 0 0 0 0 0, .int .i64 1]) (by simp [results, Tryd.results8, go_sem]) rfl ⟨rfl, ?_⟩
    exact (Below.refl _ _).alloc (Nat.le_refl _) _
  · have hs : inB shift (-900) 900 = false := by rcases h with h | h; (rw [ht] at h; exact Bool.noConfusion h); exact h
    clear h
    go_enter Tryd.func8, Tryd.ntmps8
    go_wp2_with (first | (go_at_call 22; refine (in_any _ _ _ _).mono ?_; rintro e w' ⟨rfl, rfl⟩))
    refine bodyPost_ret (v := .tuple #[civ 0 0 0 0 0 0 0, .int .i64 1]) (by simp [results, Tryd.results8, go_sem]) rfl ⟨rfl, ?_⟩
    exact (Below.refl _ _).alloc (Nat.le_refl _) _

/-- seven cells written one behind another read so -/
theorem set7 {W : World} {B : Nat} {x0 x1 x2 x3 x4 x5 x6 : Value} (v0 v1 v2 v3 v4 v5 v6 : Value) (h0 : W.cell? ⟨B, 0, none⟩ = some x0) (h1 : W.cell? ⟨B, 1, none⟩ = some x1) (h2 : W.cell? ⟨B, 2, none⟩ = some x2) (h3 : W.cell? ⟨B, 3, none⟩ = some x3) (h4 : W.cell? ⟨B, 4, none⟩ = some x4) (h5 : W.cell? ⟨B, 5, none⟩ = some x5) (h6 : W.cell? ⟨B, 6, none⟩ = some x6) :
    let W' := ((((((W.setCell ⟨B, 0, none⟩ v0).setCell ⟨B, 1, none⟩ v1).setCell ⟨B, 2, none⟩ v2).setCell ⟨B, 3, none⟩ v3).setCell ⟨B, 4, none⟩ v4).setCell ⟨B, 5, none⟩ v5).setCell ⟨B, 6, none⟩ v6
    W'.cell? ⟨B, 0, none⟩ = some v0 ∧ W'.cell? ⟨B, 1, none⟩ = some v1 ∧ W'.cell? ⟨B, 2, none⟩ = some v2 ∧ W'.cell? ⟨B, 3, none⟩ = some v3 ∧ W'.cell? ⟨B, 4, none⟩ = some v4 ∧ W'.cell? ⟨B, 5, none⟩ = some v5 ∧ W'.cell? ⟨B, 6, none⟩ = some v6 := by
  simp [go_sem, h0, h1, h2, h3, h4, h5, h6]
theorem fin7 {a : Act} {w Wf : World} {B : Nat} {y m d h i s k y' m' d' h' i' s' k' : Int} (hp : a.tmps[4]? = some (.pointer (some ⟨B, 0, none⟩))) (he : a.tmps[5]? = some (.int .i64 0)) (ha : a.defers = [])
    (hc : Wf.cell? ⟨B, 0, none⟩ = some (.int .i64 y) ∧ Wf.cell? ⟨B, 1, none⟩ = some (.int .i64 m) ∧ Wf.cell? ⟨B, 2, none⟩ = some (.int .i64 d) ∧ Wf.cell? ⟨B, 3, none⟩ = some (.int .i64 h) ∧ Wf.cell? ⟨B, 4, none⟩ = some (.int .i64 i) ∧ Wf.cell? ⟨B, 5, none⟩ = some (.int .i64 s) ∧ Wf.cell? ⟨B, 6, none⟩ = some (.int .i64 k))
    (hv : civ y m d h i s k = civ y' m' d' h' i' s' k') (hb : Below w.heap.size w Wf) :
    bodyPost Tryd.prog Tryd.f8 (fun e w' => e = .returned (.tuple #[civ y' m' d' h' i' s' k', .int .i64 0]) ∧ Below w.heap.size w w') Exit.ret a Wf := by
  obtain ⟨c0, c1, c2, c3, c4, c5, c6⟩ := hc
  refine bodyPost_ret (v := .tuple #[civ y m d h i s k, .int .i64 0]) ?_ ha ⟨by rw [hv], hb⟩
  simp [results, Tryd.results8, go_sem, hp, he, c0, c1, c2, c3, c4, c5, c6]

set_option maxHeartbeats 2000000 in
theorem rof_yes (sec shift : Int) (w : World) (ht : tmB sec = true) (hs : shB shift = true) :
    Calls Tryd.prog 8 #[.int .i64 sec, .int .i64 shift] w fun e w' => e = .returned (.tuple #[ofv (sc sec shift), .int .i64 0]) ∧ Below w.heap.size w w' := by
  have h1 := (tm_iff _).1 ht
  have h2 := (sh_iff _).1 hs
  rw [tm_in] at ht
  rw [sh_in] at hs
  have hq : (sec + shift * 60 - (sec + shift * 60) % 86400).tdiv 86400 = (sec + shift * 60) / 86400 := by
    have e : sec + shift * 60 - (sec + shift * 60) % 86400 = 86400 * ((sec + shift * 60) / 86400) := by omega
    rw [e, Int.mul_tdiv_cancel_left _ (by decide)]
  go_enter Tryd.func8, Tryd.ntmps8
  go_wp2_with (first | (go_at_call 22; refine (in_any _ _ _ _).mono ?_; rintro e w' ⟨rfl, rfl⟩) | (go_at_call 23; refine (rest_any _ _ _ (by omega) (by omega)).mono ?_; rintro e w' ⟨rfl, rfl⟩) | (go_at_call 24; refine (rdate_any _ _ (by omega) (by omega)).mono ?_; rintro e w1 ⟨rfl, hb⟩; obtain ⟨hc, hf⟩ := bcell hb; have hz : w.heap.size < w1.heap.size := (by have := hb.size; simp at this; omega)))
  have k : ∀ o, o < 7 → w1.cell? ⟨w.heap.size, o, none⟩ = some (.int .i64 0) := by
    intro o ho
    rw [hc _ _ (by simp; omega)]
    have : o = 0 ∨ o = 1 ∨ o = 2 ∨ o = 3 ∨ o = 4 ∨ o = 5 ∨ o = 6 := by omega
    rcases this with rfl | rfl | rfl | rfl | rfl | rfl | rfl <;> simp [go_sem]
  refine fin7 (B := w.heap.size) rfl rfl rfl (set7 (x0 := .int .i64 0) (x1 := .int .i64 0) (x2 := .int .i64 0) (x3 := .int .i64 0) (x4 := .int .i64 0) (x5 := .int .i64 0) (x6 := .int .i64 0) _ _ _ _ _ _ _ ?_ ?_ ?_ ?_ ?_ ?_ ?_) ?_ ?_
  all_goals try (simp [go_sem, k]; done)
  · have e0 : sc sec shift / 86400 = (sec + shift * 60) / 86400 + 2180498 := by unfold sc; omega
    have e1 : sc sec shift % 86400 / 3600 = (sec + shift * 60) % 86400 / 3600 := by unfold sc; omega
    have e2 : sc sec shift % 3600 / 60 = (sec + shift * 60) % 3600 / 60 := by unfold sc; omega
    have e3 : sc sec shift % 60 = sec % 60 := by unfold sc; omega
    have e4 : ((sec + shift * 60) / 86400 + 4) % 7 = ((sec + shift * 60) / 86400 + 2180498 + 6) % 7 := by omega
    rw [e0, e1, e2, e3, e4]
  · iterate 14 (refine Below.setCell ?_ (by simp) _)
    exact bstep (bstepA (bstepA (Below.refl _ _) _) _) hb

end RCiv
end Go.Proofs.YtcfncgjpbdkagabDoor
namespace Go.Proofs.YtcfncgjpbdkagabDoor
namespace Pln
open Go.RowKit Lai Civ Crn Pie
set_option maxRecDepth 8000
set_option linter.unusedSimpArgs false

/-- what digits(s, 7) tells -/
def dgs7 (t : List UInt8) : Int := if okD t = true then valD t else -1
theorem dgs_bad {t : List UInt8} (h : (∃ x, x ∈ t ∧ dg x = false) ∨ ¬ (1 ≤ t.length ∧ t.length ≤ 7)) : dgs7 t = -1 := by
  unfold dgs7
  rw [if_neg]
  intro q
  unfold okD at q
  rw [Bool.and_eq_true, decide_eq_true_eq] at q
  rcases h with ⟨x, h1, h2⟩ | h
  · have := List.all_eq_true.1 q.2 x h1; rw [h2] at this; cases this
  · exact h q.1
theorem dgs_ok {t : List UInt8} (hl : 1 ≤ t.length ∧ t.length ≤ 7) (h : t.all dg = true) : dgs7 t = valD t := by
  unfold dgs7
  rw [if_pos (by unfold okD; rw [Bool.and_eq_true, decide_eq_true_eq]; exact ⟨hl, h⟩)]
theorem val_lt8 {D : List UInt8} {k : Nat} (hk : k ≤ 8) (hd : (D.take k).all dg = true) : 0 ≤ valD (D.take k) ∧ valD (D.take k) < 100000000 := by
  obtain ⟨b1, b2⟩ := valD_bd _ (D.take k) rfl hd
  refine ⟨b1, Int.lt_of_lt_of_le b2 ?_⟩
  have q : (10 : Nat) ^ (D.take k).length ≤ 10 ^ 8 := Nat.pow_le_pow_right (by decide) (by rw [List.length_take]; omega)
  have q2 : ((10 ^ (D.take k).length : Nat) : Int) ≤ ((10 ^ 8 : Nat) : Int) := Int.ofNat_le.2 q
  rw [Int.natCast_pow] at q2
  exact q2
def Dg7R (t : List UInt8) (w : World) (n i : Value) (wr : World) : Prop := ∃ k : Nat, k ≤ t.length ∧ k ≤ 8 ∧ i = .int .i64 k ∧ n = .int .i64 (valD (t.take k)) ∧ (t.take k).all dg = true ∧ wr = w
set_option maxHeartbeats 8000000 in
theorem rdigits7 (t : List UInt8) (w : World) (hl : t.length ≤ 3000) :
    Calls Tryd.prog 116 #[strV t, .int .i64 7] w fun e w' => e = .returned (.int .i64 (dgs7 t)) ∧ w' = w := by
  have hsz : (⟨t.toArray⟩ : ByteArray).size = t.length := rfl
  go_enter Tryd.func116, Tryd.ntmps116
  go_wp2
  go_loopw [5, 6] (fun n i wr => Dg7R t w n i wr) (fun _ i _ => 9 - (intOf i).toNat)
  case atStart => exact ⟨0, Nat.zero_le _, by omega, rfl, by simp [valD], by simp, rfl⟩
  case round =>
    obtain ⟨k, hk, hk3, rfl, rfl, hd0, h9⟩ := hrel
    have h8 := h9.symm
    clear h9
    subst h8
    have hv := val_lt8 hk3 hd0
    have HD : Hid ((t.take k).all dg = true) := hd0
    clear hd0
    by_cases hlt : k < t.length
    · have hlt' : (k : Int) < t.length := by omega
      by_cases hk2 : k ≤ 7
      · have hk2' : (k : Int) ≤ 7 := by omega
        obtain ⟨x, hx⟩ : ∃ x, t[k]? = some x := ⟨t[k], by simp [hlt]⟩
        have hxk : (⟨t.toArray⟩ : ByteArray)[k]'(by rw [hsz]; exact hlt) = x := by
          have : t[k] = x := by simpa [hlt] using hx
          exact this
        have hmem : x ∈ t := List.mem_of_getElem? hx
        have hxu : (x.toNat : Int) ≤ 255 := by have := x.toNat_lt; omega
        cases hd : dg x
        · have HN : Hid (dgs7 t = -1) := dgs_bad (Or.inl ⟨x, hmem, hd⟩)
          clear hx hmem
          rcases dgf hd with g | g
          · clear hd
            go_wp2
            go_ret
            exact ⟨ret_n HN.out.symm, rfl⟩
          · clear hd
            go_wp2
            go_ret
            exact ⟨ret_n HN.out.symm, rfl⟩
        · have g := dgb hd
          have HA : Hid ((t.take (k + 1)).all dg = true) := all_take hx HD.out hd
          have HV : Hid (valD (t.take (k + 1)) = 10 * valD (t.take k) + ((x.toNat : Int) - 48)) := val_take hx
          clear hx hmem hd
          generalize valD (t.take k) = V at hv HV ⊢
          go_wp2
          go_roundw
          case rel => exact ⟨k + 1, by omega, by omega, rfl, by rw [HV.out]; congr 1; omega, HA.out, rfl⟩
          case measure => simp [intOf]; omega
      · have hk2' : ¬ (k : Int) ≤ 7 := by omega
        have HN : Hid (dgs7 t = -1) := dgs_bad (Or.inr (by omega))
        have cI := RCiv.in_any (t.length : Int) 1 7 w
        rw [show RCiv.inB (t.length : Int) 1 7 = false by unfold RCiv.inB; rw [decide_eq_false_iff_not]; omega] at cI
        go_wp2_with (go_at_call 22; (with_reducible refine cI.mono ?_); rintro e w' ⟨rfl, rfl⟩)
        go_ret
        exact ⟨ret_n HN.out.symm, rfl⟩
    · obtain rfl : k = t.length := by omega
      have cI := RCiv.in_any (t.length : Int) 1 7 w
      by_cases h12 : 1 ≤ t.length ∧ t.length ≤ 7
      · have HN : Hid (dgs7 t = valD t) := dgs_ok h12 (by have := HD.out; rwa [List.take_length] at this)
        rw [show RCiv.inB (t.length : Int) 1 7 = true by unfold RCiv.inB; rw [decide_eq_true_eq]; omega] at cI
        rw [List.take_length] at hv ⊢
        generalize valD t = V at hv HN ⊢
        go_wp2_with (go_at_call 22; (with_reducible refine cI.mono ?_); rintro e w' ⟨rfl, rfl⟩)
        go_ret
        exact ⟨ret_n HN.out.symm, rfl⟩
      · have HN : Hid (dgs7 t = -1) := dgs_bad (Or.inr h12)
        rw [show RCiv.inB (t.length : Int) 1 7 = false by unfold RCiv.inB; rw [decide_eq_false_iff_not]; omega] at cI
        go_wp2_with (go_at_call 22; (with_reducible refine cI.mono ?_); rintro e w' ⟨rfl, rfl⟩)
        go_ret
        exact ⟨ret_n HN.out.symm, rfl⟩

/-! ### Whole -/
theorem val_pos {D : List UInt8} (h : okD D = true) (h0 : D.head? ≠ some 48) : 0 < valD D := by
  unfold okD at h
  rw [Bool.and_eq_true, decide_eq_true_eq] at h
  cases D with
  | nil => simp at h
  | cons d r =>
    have hd : dg d = true := List.all_eq_true.1 h.2 d List.mem_cons_self
    have hr : r.all dg = true := List.all_eq_true.2 fun x hx => List.all_eq_true.1 h.2 x (List.mem_cons_of_mem _ hx)
    obtain ⟨b1, _⟩ := valD_bd _ r rfl hr
    have e : valD (d :: r) = (10 * 0 + ((d.toNat : Int) - 48)) * 10 ^ r.length + valD r := foldD r _
    have hne : d.toNat ≠ 48 := fun q => h0 (by rw [List.head?_cons, UInt8.toNat_inj.1 (show d.toNat = (48 : UInt8).toNat from q)])
    unfold dg at hd
    rw [decide_eq_true_eq] at hd
    have hpos : (0 : Int) < 10 ^ r.length := Int.pow_pos (by decide)
    have h1 : (1 : Int) ≤ 10 * 0 + ((d.toNat : Int) - 48) := by omega
    have h2 : (1 : Int) * 10 ^ r.length ≤ (10 * 0 + ((d.toNat : Int) - 48)) * 10 ^ r.length := Int.mul_le_mul_of_nonneg_right h1 (Int.le_of_lt hpos)
    rw [e]
    omega
theorem val_zero {D : List UInt8} (h0 : D.head? = some 48) (hl : ¬ 1 < D.length) : valD D = 0 := by
  match D, h0, hl with
  | [d], h0, _ =>
    simp at h0
    subst h0
    rfl
  | _ :: _ :: _, _, hl => simp at hl
/-- what Whole tells, told apart -/
theorem whole_case {o : Option Int} {D : List UInt8} {b : Bool} (hq : NumIs o D b) :
    (dgs7 D = -1 ∧ o = none) ∨ (0 ≤ dgs7 D ∧ dgs7 D < 10000000 ∧ ((1 < D.length ∧ D[0]? = some 48 ∧ o = none) ∨ (¬ (1 < D.length ∧ D[0]? = some 48) ∧ ((b = true ∧ dgs7 D = 0 ∧ o = none) ∨ (¬ (b = true ∧ dgs7 D = 0) ∧ o = some (sgn b (dgs7 D))))))) := by
  have hh : D.head? = D[0]? := List.head?_eq_getElem?
  cases hk : okD D
  · left
    refine ⟨by unfold dgs7; rw [hk]; rfl, ?_⟩
    unfold NumIs at hq
    rw [hq, if_neg (fun q => by rw [hk] at q; cases q.1)]
  · right
    have e : dgs7 D = valD D := by unfold dgs7; rw [hk]; rfl
    have hk2 := hk
    unfold okD at hk2
    rw [Bool.and_eq_true, decide_eq_true_eq] at hk2
    have hb := val_lt (D := D) (k := D.length) hk2.1.2 (by rw [List.take_length]; exact hk2.2)
    rw [List.take_length] at hb
    rw [e]
    refine ⟨hb.1, hb.2, ?_⟩
    by_cases h1 : 1 < D.length ∧ D[0]? = some 48
    · left
      refine ⟨h1.1, h1.2, ?_⟩
      unfold NumIs at hq
      rw [hq, if_neg (fun q => q.2 ⟨hh.trans h1.2, Or.inr h1.1⟩)]
    · right
      refine ⟨h1, ?_⟩
      by_cases h2 : b = true ∧ valD D = 0
      · left
        refine ⟨h2.1, h2.2, ?_⟩
        have h0 : D.head? = some 48 := by
          by_cases g : D.head? = some 48
          · exact g
          · have := val_pos hk g; omega
        unfold NumIs at hq
        rw [hq, if_neg (fun q => q.2 ⟨h0, Or.inl h2.1⟩)]
      · right
        refine ⟨h2, yes_num hq hk2.1 hk2.2 ?_⟩
        rintro ⟨g1, g2 | g2⟩
        · by_cases g3 : 1 < D.length
          · exact h1 ⟨g3, hh.symm.trans g1⟩
          · exact h2 ⟨g2, val_zero g1 g3⟩
        · exact h1 ⟨g2, hh.symm.trans g1⟩
theorem ret_num {o o' : Option Int} (h : o = o') : Ending.returned (numV o) = .returned (numV o') := by rw [h]
end Pln
end Go.Proofs.YtcfncgjpbdkagabDoor
namespace Go.Proofs.YtcfncgjpbdkagabDoor
namespace Pln
open Go.RowKit Lai Civ Crn Pie
set_option maxRecDepth 8000
set_option linter.unusedSimpArgs false

set_option maxHeartbeats 4000000 in
theorem rwhole_min (r : List UInt8) (w : World) (hl : (r).length ≤ 3000) (hq : NumIs (num7 (45 :: r)) (r) true) :
    Calls Tryd.prog 91 #[strV (45 :: r), .int .i64 7] w fun e w' => e = .returned (numV (num7 (45 :: r))) ∧ w' = w := by
  have cD := fun w => rdigits7 (r) w hl
  have hsz : (⟨(45 :: r).toArray⟩ : ByteArray).size = r.length + 1 := rfl
  have hszD : (⟨r.toArray⟩ : ByteArray).size = r.length := rfl
  have hxx : (⟨(45 :: r).toArray⟩ : ByteArray)[0]'(by rw [hsz]; omega) = 45 := rfl
  have hex : (⟨(45 :: r).toArray⟩ : ByteArray).extract 1 (r.length + 1) = ⟨r.toArray⟩ := by
    have := str_cut (45 :: r) 1 (r.length + 1)
    rw [List.take_of_length_le (by simp)] at this
    exact Value.string.inj this
  have hc := whole_case hq
  clear hq
  generalize dgs7 (r) = V at cD hc
  generalize num7 (45 :: r) = O at hc ⊢
  rcases hc with ⟨rfl, ho⟩ | ⟨hv0, hv1, hc⟩
  · have HN : Hid (O = none) := ho
    clear ho
    go_enter Tryd.func91, Tryd.ntmps91
    go_wp2_with (go_at_call 116; (with_reducible refine (cD _).mono ?_); rintro e w1 ⟨rfl, h9⟩; have h8 := h9.symm; clear h9; subst h8)
    go_ret2
    exact ⟨by rw [HN.out]; rfl, rfl⟩
  · rcases hc with ⟨g1, g2, ho⟩ | ⟨hg, hc⟩
    · have HN : Hid (O = none) := ho
      have g1' : (1 : Int) < r.length := by omega
      have hx48 : (⟨r.toArray⟩ : ByteArray)[0]'(by rw [hszD]; omega) = 48 := by
        have : r[0] = 48 := by simpa [show 0 < r.length by omega] using g2
        exact this
      clear ho g2
      go_enter Tryd.func91, Tryd.ntmps91
      go_wp2_with (go_at_call 116; (with_reducible refine (cD _).mono ?_); rintro e w1 ⟨rfl, h9⟩; have h8 := h9.symm; clear h9; subst h8)
      go_ret2
      exact ⟨by rw [HN.out]; rfl, rfl⟩
    · rcases hc with ⟨hb, hz, ho⟩ | ⟨hnz, ho⟩
      · subst hz
        have HN : Hid (O = none) := ho
        clear ho hb
        by_cases g1 : 1 < (r).length
        · have g1' : (1 : Int) < (r).length := by omega
          obtain ⟨x0, hx0⟩ : ∃ x, (r)[0]? = some x := ⟨(r)[0], by simp⟩
          have hxk : (⟨(r).toArray⟩ : ByteArray)[0]'(by rw [hszD]; omega) = x0 := by
            have : (r)[0] = x0 := by simpa [show 0 < (r).length by omega] using hx0
            exact this
          have hx2 : ((x0.toNat : Int) == 48) = false := by
            rw [beq_eq_false_iff_ne]
            intro q
            exact hg ⟨g1, by rw [hx0, UInt8.toNat_inj.1 (show x0.toNat = (48 : UInt8).toNat by have : ((48 : UInt8).toNat : Int) = 48 := rfl; omega)]⟩
          clear hx0 hg
          go_enter Tryd.func91, Tryd.ntmps91
          go_wp2_with (go_at_call 116; (with_reducible refine (cD _).mono ?_); rintro e w1 ⟨rfl, h9⟩; have h8 := h9.symm; clear h9; subst h8)
          go_ret2
          exact ⟨by rw [HN.out]; rfl, rfl⟩
        · have g1' : ¬ (1 : Int) < (r).length := by omega
          clear hg g1
          go_enter Tryd.func91, Tryd.ntmps91
          go_wp2_with (go_at_call 116; (with_reducible refine (cD _).mono ?_); rintro e w1 ⟨rfl, h9⟩; have h8 := h9.symm; clear h9; subst h8)
          go_ret2
          exact ⟨by rw [HN.out]; rfl, rfl⟩
      · have hV : (V == 0) = false := by rw [beq_eq_false_iff_ne]; exact fun q => hnz ⟨rfl, q⟩
        have HN : Hid (O = some (sgn true V)) := ho
        clear ho hnz
        by_cases g1 : 1 < (r).length
        · have g1' : (1 : Int) < (r).length := by omega
          obtain ⟨x0, hx0⟩ : ∃ x, (r)[0]? = some x := ⟨(r)[0], by simp⟩
          have hxk : (⟨(r).toArray⟩ : ByteArray)[0]'(by rw [hszD]; omega) = x0 := by
            have : (r)[0] = x0 := by simpa [show 0 < (r).length by omega] using hx0
            exact this
          have hx2 : ((x0.toNat : Int) == 48) = false := by
            rw [beq_eq_false_iff_ne]
            intro q
            exact hg ⟨g1, by rw [hx0, UInt8.toNat_inj.1 (show x0.toNat = (48 : UInt8).toNat by have : ((48 : UInt8).toNat : Int) = 48 := rfl; omega)]⟩
          clear hx0 hg
          go_enter Tryd.func91, Tryd.ntmps91
          go_wp2_with (go_at_call 116; (with_reducible refine (cD _).mono ?_); rintro e w1 ⟨rfl, h9⟩; have h8 := h9.symm; clear h9; subst h8)
          go_ret2
          exact ⟨by rw [HN.out]; rfl, rfl⟩
        · have g1' : ¬ (1 : Int) < (r).length := by omega
          clear hg g1
          go_enter Tryd.func91, Tryd.ntmps91
          go_wp2_with (go_at_call 116; (with_reducible refine (cD _).mono ?_); rintro e w1 ⟨rfl, h9⟩; have h8 := h9.symm; clear h9; subst h8)
          go_ret2
          exact ⟨by rw [HN.out]; rfl, rfl⟩
set_option maxHeartbeats 4000000 in
theorem rwhole_plus (y : UInt8) (r : List UInt8) (hy : y ≠ 45) (w : World) (hl : (y :: r).length ≤ 3000) (hq : NumIs (num7 (y :: r)) (y :: r) false) :
    Calls Tryd.prog 91 #[strV (y :: r), .int .i64 7] w fun e w' => e = .returned (numV (num7 (y :: r))) ∧ w' = w := by
  have cD := fun w => rdigits7 (y :: r) w hl
  have hszD : (⟨(y :: r).toArray⟩ : ByteArray).size = r.length + 1 := rfl
  have hyy : (⟨(y :: r).toArray⟩ : ByteArray)[0]'(by rw [hszD]; omega) = y := rfl
  have hyn : ((y.toNat : Int) == 45) = false := by
    rw [beq_eq_false_iff_ne]
    intro q
    exact hy (UInt8.toNat_inj.1 (show y.toNat = (45 : UInt8).toNat by have : ((45 : UInt8).toNat : Int) = 45 := rfl; omega))
  have hc := whole_case hq
  clear hq
  generalize dgs7 (y :: r) = V at cD hc
  generalize num7 (y :: r) = O at hc ⊢
  rcases hc with ⟨rfl, ho⟩ | ⟨hv0, hv1, hc⟩
  · have HN : Hid (O = none) := ho
    clear ho
    go_enter Tryd.func91, Tryd.ntmps91
    go_wp2_with (go_at_call 116; (with_reducible refine (cD _).mono ?_); rintro e w1 ⟨rfl, h9⟩; have h8 := h9.symm; clear h9; subst h8)
    go_ret2
    exact ⟨by rw [HN.out]; rfl, rfl⟩
  · rcases hc with ⟨g1, g2, ho⟩ | ⟨hg, hc⟩
    · have HN : Hid (O = none) := ho
      have g1' : (1 : Int) < (r.length : Int) + 1 := by simp at g1; omega
      obtain rfl : y = 48 := by simpa using g2
      clear ho g1 g2
      go_enter Tryd.func91, Tryd.ntmps91
      go_wp2_with (go_at_call 116; (with_reducible refine (cD _).mono ?_); rintro e w1 ⟨rfl, h9⟩; have h8 := h9.symm; clear h9; subst h8)
      go_ret2
      exact ⟨by rw [HN.out]; rfl, rfl⟩
    · rcases hc with ⟨hb, hz, ho⟩ | ⟨hnz, ho⟩
      · cases hb
      · have HN : Hid (O = some (sgn false V)) := ho
        clear ho hnz
        by_cases g1 : 1 < (y :: r).length
        · have g1' : (1 : Int) < (r.length : Int) + 1 := by simp at g1; omega
          have hx2 : ((y.toNat : Int) == 48) = false := by
            rw [beq_eq_false_iff_ne]
            intro q
            exact hg ⟨g1, by rw [List.getElem?_cons_zero, UInt8.toNat_inj.1 (show y.toNat = (48 : UInt8).toNat by have : ((48 : UInt8).toNat : Int) = 48 := rfl; omega)]⟩
          clear hg g1
          go_enter Tryd.func91, Tryd.ntmps91
          go_wp2_with (go_at_call 116; (with_reducible refine (cD _).mono ?_); rintro e w1 ⟨rfl, h9⟩; have h8 := h9.symm; clear h9; subst h8)
          go_ret2
          exact ⟨by rw [HN.out]; rfl, rfl⟩
        · have g1' : ¬ (1 : Int) < (r.length : Int) + 1 := by simp at g1; simp [g1]
          clear hg g1
          go_enter Tryd.func91, Tryd.ntmps91
          go_wp2_with (go_at_call 116; (with_reducible refine (cD _).mono ?_); rintro e w1 ⟨rfl, h9⟩; have h8 := h9.symm; clear h9; subst h8)
          go_ret2
          exact ⟨by rw [HN.out]; rfl, rfl⟩
theorem rwhole_nil (w : World) (hq : NumIs (num7 []) [] false) :
    Calls Tryd.prog 91 #[strV [], .int .i64 7] w fun e w' => e = .returned (numV (num7 [])) ∧ w' = w := by
  have cD := fun w => rdigits7 [] w (by simp)
  rw [show dgs7 [] = -1 from rfl] at cD
  have HN : Hid (num7 [] = none) := no_num hq (Or.inr (by simp))
  clear hq
  generalize num7 [] = O at HN ⊢
  go_enter Tryd.func91, Tryd.ntmps91
  go_wp2_with (go_at_call 116; (with_reducible refine (cD _).mono ?_); rintro e w1 ⟨rfl, h9⟩; have h8 := h9.symm; clear h9; subst h8)
  go_ret2
  exact ⟨by rw [HN.out]; rfl, rfl⟩
theorem rwhole (t : List UInt8) (w : World) (hl : t.length ≤ 3000) :
    Calls Tryd.prog 91 #[strV t, .int .i64 7] w fun e w' => e = .returned (numV (num7 t)) ∧ w' = w := by
  have hq : NumIs (num7 t) (digs t) (minB t) := num7_eq t
  cases t with
  | nil => exact rwhole_nil w hq
  | cons y r =>
    by_cases hy : y = 45
    · subst hy
      exact rwhole_min r w (by simp at hl; omega) hq
    · have e1 : minB (y :: r) = false := by unfold minB; rw [beq_eq_false_iff_ne]; exact fun q => hy (Option.some.inj q)
      have e2 : digs (y :: r) = y :: r := by unfold digs; rw [e1]; rfl
      rw [e1, e2] at hq
      exact rwhole_plus y r hy w hl hq
end Pln
end Go.Proofs.YtcfncgjpbdkagabDoor
namespace Go.Proofs.YtcfncgjpbdkagabDoor
namespace Pln
open Go.RowKit Crn Pie

section
variable {rd : List UInt8 → Option K} {i : Nat} {st : Pd × List Tr} {s a b : List UInt8}
theorem readL_stop (h : 4 ≤ i) : readL rd i st (pieces 10 []) = .inr st := by
  show readL rd i st [[]] = _
  unfold readL
  rw [if_pos ⟨h, rfl⟩]
theorem readL_none (h : (10 : UInt8) ∉ s) (hs : ¬ (4 ≤ i ∧ s = [])) : readL rd i st (pieces 10 s) = .inl (i + 1) := by
  rw [pieces_none h]
  unfold readL
  rw [if_neg hs]
theorem readL_bad (h : (10 : UInt8) ∉ a) (hl : lineS rd i st (pieces 32 a) = none) : readL rd i st (pieces 10 (a ++ 10 :: b)) = .inl (i + 1) := by
  rw [pieces_hit h]
  cases hp : pieces 10 b with
  | nil => exact absurd hp (pieces_ne 10 b)
  | cons y ys =>
    unfold readL
    rw [hl]
theorem readL_good {st' : Pd × List Tr} (h : (10 : UInt8) ∉ a) (hl : lineS rd i st (pieces 32 a) = some st') : readL rd i st (pieces 10 (a ++ 10 :: b)) = readL rd (i + 1) st' (pieces 10 b) := by
  rw [pieces_hit h]
  cases hp : pieces 10 b with
  | nil => exact absurd hp (pieces_ne 10 b)
  | cons y ys =>
    conv => lhs; unfold readL
    rw [hl]
end
theorem num7_I {x : List UInt8} {n : Int} (h : num7 x = some n) : -10000000 < n ∧ n < 10000000 := by
  have key : ∀ D : List UInt8, okD D = true → 0 ≤ valD D ∧ valD D < 10000000 := by
    intro D hD
    unfold okD at hD
    rw [Bool.and_eq_true, decide_eq_true_eq] at hD
    obtain ⟨b1, b2⟩ := valD_bd _ D rfl hD.2
    refine ⟨b1, Int.lt_of_lt_of_le b2 ?_⟩
    have q : (10 : Nat) ^ D.length ≤ 10 ^ 7 := Nat.pow_le_pow_right (by decide) hD.1.2
    have q2 : ((10 ^ D.length : Nat) : Int) ≤ ((10 ^ 7 : Nat) : Int) := Int.ofNat_le.2 q
    rw [Int.natCast_pow] at q2
    exact q2
  unfold num7 at h
  split at h
  · split at h
    · rename_i g
      have := key _ (by first | exact g.1 | exact g)
      cases h
      omega
    · cases h
  · split at h
    · rename_i g
      have := key _ (by first | exact g.1 | exact g)
      cases h
      omega
    · cases h
theorem four_I {ws : List (List UInt8)} {q : Int × Int × Int × Int} (h : four ws = some q) : I q.1 ∧ I q.2.1 ∧ I q.2.2.1 ∧ I q.2.2.2 := by
  cases hb : NsB 4 ws
  · rw [four_no hb] at h; cases h
  · obtain ⟨hw, hn⟩ := nsB_iff hb
    match ws, hw with
    | [x, y, z, u], _ =>
      obtain ⟨a, ha⟩ := hn x (by simp)
      obtain ⟨b, hb⟩ := hn y (by simp)
      obtain ⟨c, hc⟩ := hn z (by simp)
      obtain ⟨d, hd⟩ := hn u (by simp)
      unfold four at h
      dsimp only at h
      rw [ha, hb, hc, hd] at h
      cases h
      have a1 := num7_I ha
      have b1 := num7_I hb
      have c1 := num7_I hc
      have d1 := num7_I hd
      simp only [I]
      omega
/-- a plan's numbers are numbers, its name is short -/
def GoodP (p : Pd) : Prop := PdI p ∧ p.nm.length ≤ 3000
theorem I0 : I 0 := ⟨by decide, by decide⟩
theorem good0 : GoodP p0 := ⟨⟨I0, I0, I0, I0, I0, I0, I0, I0, I0, I0, I0, I0, I0, I0, I0, I0⟩, by decide⟩
theorem nm_l16 {t : List UInt8} (h : nmB t = true) : t.length ≤ 16 := by unfold nmB at h; rw [Bool.and_eq_true, decide_eq_true_eq] at h; exact h.1.2
theorem line_good {rd : List UInt8 → Option K} {i : Nat} {p p' : Pd} {ts ts' : List Tr} {ws : List (List UInt8)} (h : lineS rd i (p, ts) ws = some (p', ts')) (hp : GoodP p) : GoodP p' ∧ ts'.length ≤ ts.length + 1 := by
  obtain ⟨hi, hn⟩ := hp
  unfold lineS at h
  split at h
  · rw [Option.map_eq_some_iff] at h
    obtain ⟨q, h1, h2⟩ := h
    cases h2
    refine ⟨?_, Nat.le_succ _⟩
    unfold line0 at h1
    split at h1
    · split at h1
      · rename_i hw
        rw [Option.map_eq_some_iff] at h1
        obtain ⟨f, h3, rfl⟩ := h1
        obtain ⟨f0, f1, f2, f3⟩ := four_I h3
        exact ⟨⟨f0, f1, f2, f3, hi.tl, hi.bk, hi.af, hi.sh, hi.uw, hi.up, hi.uc, hi.ue, hi.dw, hi.dp, hi.dc, hi.de⟩, Nat.le_trans (nm_l16 hw.2) (by decide)⟩
      · cases h1
    · cases h1
  · split at h
    · rw [Option.map_eq_some_iff] at h
      obtain ⟨q, h1, h2⟩ := h
      cases h2
      refine ⟨?_, Nat.le_succ _⟩
      unfold line1 at h1
      split at h1
      · split at h1
        · rw [Option.map_eq_some_iff] at h1
          obtain ⟨f, h3, rfl⟩ := h1
          obtain ⟨f0, f1, f2, f3⟩ := four_I h3
          exact ⟨⟨hi.mn, hi.mx, hi.po, hi.co, f0, f1, f2, f3, hi.uw, hi.up, hi.uc, hi.ue, hi.dw, hi.dp, hi.dc, hi.de⟩, hn⟩
        · cases h1
      · cases h1
    · split at h
      · rw [Option.map_eq_some_iff] at h
        obtain ⟨q, h1, h2⟩ := h
        cases h2
        refine ⟨?_, Nat.le_succ _⟩
        unfold line2 at h1
        split at h1
        · split at h1
          · rw [Option.map_eq_some_iff] at h1
            obtain ⟨f, h3, rfl⟩ := h1
            obtain ⟨f0, f1, f2, f3⟩ := four_I h3
            exact ⟨⟨hi.mn, hi.mx, hi.po, hi.co, hi.tl, hi.bk, hi.af, hi.sh, f0, f1, f2, f3, hi.dw, hi.dp, hi.dc, hi.de⟩, hn⟩
          · cases h1
        · cases h1
      · split at h
        · rw [Option.map_eq_some_iff] at h
          obtain ⟨q, h1, h2⟩ := h
          cases h2
          refine ⟨?_, Nat.le_succ _⟩
          unfold line3 at h1
          split at h1
          · split at h1
            · rw [Option.map_eq_some_iff] at h1
              obtain ⟨f, h3, rfl⟩ := h1
              obtain ⟨f0, f1, f2, f3⟩ := four_I h3
              exact ⟨⟨hi.mn, hi.mx, hi.po, hi.co, hi.tl, hi.bk, hi.af, hi.sh, hi.uw, hi.up, hi.uc, hi.ue, f0, f1, f2, f3⟩, hn⟩
            · cases h1
          · cases h1
        · rw [Option.map_eq_some_iff] at h
          obtain ⟨q, h1, h2⟩ := h
          cases h2
          exact ⟨⟨hi, hn⟩, by simp⟩
theorem spanC_join {rd : List UInt8 → Option K} {r : List (List UInt8)} (h : ∀ y ∈ r, (32 : UInt8) ∉ y) : spanC rd (pieces 32 (Lib.join r [32])) = spanC rd r := by
  cases r with
  | nil => rfl
  | cons x r => rw [pieces_joins 32 x r h]
theorem two_I {ws : List (List UInt8)} {q : Int × Int} (h : two ws = some q) : I q.1 ∧ I q.2 := by
  cases hb : NsB 2 ws
  · rw [two_no hb] at h; cases h
  · obtain ⟨hw, hn⟩ := nsB_iff hb
    match ws, hw with
    | [x, y], _ =>
      obtain ⟨a, ha⟩ := hn x (by simp)
      obtain ⟨b, hb⟩ := hn y (by simp)
      unfold two at h
      dsimp only at h
      rw [ha, hb] at h
      cases h
      have a1 := num7_I ha
      have b1 := num7_I hb
      simp only [I]
      omega
theorem us0 : Us k0 := ⟨⟨by decide, by decide⟩, ⟨by decide, by decide⟩, ⟨by decide, by decide⟩, ⟨by decide, by decide⟩, ⟨by decide, by decide⟩⟩
theorem trS_u {rd : List UInt8 → Option K} (hrd : ∀ s c, rd s = some c → Us c) {x : List UInt8} {r : List (List UInt8)} {t : Tr} (h : trS rd x r = some t) : TrU t := by
  have i3 : ∀ n : Int, n = 1 ∨ n = 2 ∨ n = 3 ∨ n = 0 → I n := fun n hn => by unfold I; omega
  unfold trS at h
  split at h
  · rw [Option.map_eq_some_iff] at h
    obtain ⟨q, h1, rfl⟩ := h
    exact ⟨i3 1 (by omega), (two_I h1).1, (two_I h1).2, us0, us0⟩
  · split at h
    · rw [Option.map_eq_some_iff] at h
      obtain ⟨q, h1, rfl⟩ := h
      exact ⟨i3 2 (by omega), (two_I h1).1, (two_I h1).2, us0, us0⟩
    · split at h
      · unfold spanS at h
        split at h
        · cases h
        · split at h
          · rename_i n a b e1 e2
            cases h
            have hn := num7_I e1
            refine ⟨i3 3 (by omega), ?_, i3 0 (by omega), ?_, ?_⟩
            · show I n; unfold I; omega
            · unfold spanC at e2
              split at e2
              · exact hrd _ _ (both_some e2).1
              · cases e2
            · unfold spanC at e2
              split at e2
              · exact hrd _ _ (both_some e2).2
              · cases e2
          · cases h
      · cases h
theorem line_tr {rd : List UInt8 → Option K} (hrd : ∀ s c, rd s = some c → Us c) {i : Nat} {p p' : Pd} {ts ts' : List Tr} {ws : List (List UInt8)} (h : lineS rd i (p, ts) ws = some (p', ts')) (ht : ∀ t ∈ ts, TrU t) : ∀ t ∈ ts', TrU t := by
  unfold lineS at h
  split at h
  · rw [Option.map_eq_some_iff] at h; obtain ⟨q, h1, h2⟩ := h; cases h2; exact ht
  · split at h
    · rw [Option.map_eq_some_iff] at h; obtain ⟨q, h1, h2⟩ := h; cases h2; exact ht
    · split at h
      · rw [Option.map_eq_some_iff] at h; obtain ⟨q, h1, h2⟩ := h; cases h2; exact ht
      · split at h
        · rw [Option.map_eq_some_iff] at h; obtain ⟨q, h1, h2⟩ := h; cases h2; exact ht
        · rw [Option.map_eq_some_iff] at h
          obtain ⟨q, h1, h2⟩ := h
          cases h2
          intro t hm
          rcases List.mem_append.1 hm with hm | hm
          · exact ht t hm
          · simp at hm
            subst hm
            unfold lineT at h1
            split at h1
            · exact trS_u hrd h1
            · cases h1
theorem readL_ok {rd : List UInt8 → Option K} (hrd : ∀ s c, rd s = some c → Us c) : ∀ (ls : List (List UInt8)) (i : Nat) (st : Pd × List Tr) (p : Pd) (ts : List Tr), readL rd i st ls = .inr (p, ts) → GoodP st.1 → (∀ t ∈ st.2, TrU t) → GoodP p ∧ ∀ t ∈ ts, TrU t
  | [], i, st, p, ts, h, _, _ => by unfold readL at h; cases h
  | [l], i, st, p, ts, h, h1, h2 => by
    unfold readL at h
    split at h
    · cases h; exact ⟨h1, h2⟩
    · cases h
  | l :: m :: ls, i, st, p, ts, h, h1, h2 => by
    unfold readL at h
    cases hl : lineS rd i st (pieces 32 l) with
    | none => rw [hl] at h; cases h
    | some st' =>
      rw [hl] at h
      exact readL_ok hrd (m :: ls) (i + 1) st' p ts h (line_good (p := st.1) (ts := st.2) (p' := st'.1) (ts' := st'.2) hl h1).1 (line_tr hrd (p := st.1) (ts := st.2) (p' := st'.1) (ts' := st'.2) hl h2)
/-- what is answered of a plan's text -/
def pl0 : Value := planV p0 (.slice none 0 0)
def PlanEnd (w' : World) (p : Pd) (ts : List Tr) (e : Ending) : Prop :=
  ∃ a cap, e = .returned (.tuple #[planV p (.slice a ts.length cap), .int .i64 0, .int .i64 0]) ∧ TrsAt w' a ts ∧ ts.length ≤ cap ∧ cap ≤ maxLen
def ReadR (r : Nat ⊕ (Pd × List Tr)) (e : Ending) (w' : World) : Prop := match r with
  | .inl n => e = .returned (.tuple #[pl0, .int .i64 n, .int .i64 3])
  | .inr (p, ts) => (chkP p ts ≠ 0 ∧ e = .returned (.tuple #[pl0, .int .i64 0, .int .i64 (chkP p ts)])) ∨ (chkP p ts = 0 ∧ PlanEnd w' p ts e)
def PlanR (rd : List UInt8 → Option K) (s : List UInt8) (e : Ending) (w' : World) : Prop :=
  (2048 < s.length ∧ e = .returned (.tuple #[pl0, .int .i64 0, .int .i64 2])) ∨ (s.length ≤ 2048 ∧ ReadR (readL rd 0 (p0, []) (pieces 10 s)) e w')
end Pln
end Go.Proofs.YtcfncgjpbdkagabDoor
namespace Go.Proofs.YtcfncgjpbdkagabDoor
namespace Pln
open Go.RowKit Crn Pie

theorem told_refl {Q : Nat} {w : World} : ∀ os : List Nat, (∀ o ∈ os, ∃ n, w.cell? ⟨Q, o, none⟩ = some (.int .i64 n)) → ∃ ns, Told Q os ns w w
  | [], _ => ⟨[], rfl, fun j o n h => by simp at h, fun _ _ => rfl⟩
  | o :: os, h => by
    obtain ⟨n, hn⟩ := h o List.mem_cons_self
    obtain ⟨ns, hl, hg, _⟩ := told_refl os (fun x hx => h x (List.mem_cons_of_mem _ hx))
    refine ⟨n :: ns, by simp [hl], fun j o' n' h1 h2 => ?_, fun _ _ => rfl⟩
    cases j with
    | zero => simp at h1 h2; subst h1 h2; exact hn
    | succ j => exact hg j o' n' (by simpa using h1) (by simpa using h2)
theorem plan_int (p : Pd) (v : Value) : ∀ o, 1 ≤ o → o ≤ 16 → ∃ n, (planC p v)[o]? = some (.int .i64 n)
  | 0, h, _ => by omega
  | 1, _, _ => ⟨p.mn, by simp⟩
  | 2, _, _ => ⟨p.mx, by simp⟩
  | 3, _, _ => ⟨p.po, by simp⟩
  | 4, _, _ => ⟨p.co, by simp⟩
  | 5, _, _ => ⟨p.tl, by simp⟩
  | 6, _, _ => ⟨p.bk, by simp⟩
  | 7, _, _ => ⟨p.af, by simp⟩
  | 8, _, _ => ⟨p.sh, by simp⟩
  | 9, _, _ => ⟨p.uw, by simp⟩
  | 10, _, _ => ⟨p.up, by simp⟩
  | 11, _, _ => ⟨p.uc, by simp⟩
  | 12, _, _ => ⟨p.ue, by simp⟩
  | 13, _, _ => ⟨p.dw, by simp⟩
  | 14, _, _ => ⟨p.dp, by simp⟩
  | 15, _, _ => ⟨p.dc, by simp⟩
  | 16, _, _ => ⟨p.de, by simp⟩
  | o + 17, _, h => by omega
theorem PS.told0 {w : World} {e : TypeId} {N Q : Nat} {p : Pd} {ts : List Tr} {v : Value} (h : PS w e N Q p ts v) {os : List Nat} (ho : ∀ o ∈ os, 1 ≤ o ∧ o ≤ 16) : ∃ ns, Told Q os ns w w :=
  told_refl os fun o hm => by rw [h.cel o]; exact plan_int p v o (ho o hm).1 (ho o hm).2
/-- what parseNumbers does -/
def NumsR (ws : List (List UInt8)) (os : List Nat) (Q : Nat) (w : World) (e : Ending) (w' : World) : Prop :=
  e = .returned (.bool (NsB os.length ws)) ∧ OnlyQ Q w w' ∧ ∃ ns, Told Q os ns w w' ∧ (NsB os.length ws = true → ∀ (j : Nat) x, ws[j]? = some x → num7 x = ns[j]?)
theorem NumsR.from {ws : List (List UInt8)} {os : List Nat} {Q : Nat} {w w1 w' : World} {e : Ending} (h : NumsR ws os Q w1 e w') (hb : Below w.heap.size w w1) (hQ : Q < w.heap.size) : NumsR ws os Q w e w' := by
  obtain ⟨h1, h2, ns, h3, h4⟩ := h
  refine ⟨h1, (OnlyQ.of_below hb hQ).trans h2, ns, ⟨h3.len, h3.got, fun o ho => (h3.kept o ho).trans ?_⟩, h4⟩
  exact World.cell?_of_block (w := w) (a := ⟨Q, o, none⟩) (hb.block Q hQ)
section
variable {w w' : World} {e : TypeId} {N Q : Nat} {p : Pd} {ts : List Tr} {v : Value} {ws : List (List UInt8)} {os : List Nat} {E : Ending}
theorem NumsR.line (h : NumsR ws os Q w E w') (hS : PS w e N Q p ts v) (hl : os.length = 4) (hd : os.Nodup) (ho : ∀ o ∈ os, o < 18) (f : Int × Int × Int × Int → Pd) (hf : ∀ a b c d, setAll (planC p v) os [a, b, c, d] = planC (f (a, b, c, d)) v) : LineR e N Q w ((four ws).map fun q => (f q, ts)) E w' := by
  obtain ⟨h1, h2, ns, h3, h4⟩ := h
  have hb := h2.below hS.bQ hS.nN
  rw [hl] at h1 h4
  cases hB : NsB 4 ws
  · rw [hB] at h1
    rw [four_no hB]
    exact ⟨h1, hb⟩
  · rw [hB] at h1
    obtain ⟨a, b, c, d, rfl, hF⟩ := four_yes hB (by rw [h3.len, hl]) (h4 hB)
    rw [hF]
    exact ⟨h1, hb, v, hS.told h2 h3 hd ho (hf a b c d)⟩
theorem LineR.from {w1 : World} {o : Option (Pd × List Tr)} (h : LineR e N Q w1 o E w') (hb : Below N w w1) : LineR e N Q w o E w' := by
  unfold LineR at h ⊢
  split
  · exact ⟨h.1, hb.trans h.2⟩
  · exact ⟨h.1, hb.trans h.2.1, h.2.2⟩
end
/-- a trigger as it is read: the cells of its block -/
structure TS (w : World) (T : Nat) (t : Tr) : Prop where
  lt : T < w.heap.size
  cel : ∀ o, w.cell? ⟨T, o, none⟩ = (trC t)[o]?
  fz : ∀ o, w.frozen? ⟨T, o, none⟩ = false
def t0 : Tr := ⟨0, 0, 0, k0, k0⟩
section
variable {w w' : World} {T : Nat} {t t' : Tr} {ws : List (List UInt8)} {E : Ending}
theorem TS.new (w : World) (ta : TypeId) (t : Tr) : TS (w.alloc (.cells (trC t) ta)) w.heap.size t := ⟨by simp, fun o => by simp, fun o => by simp⟩
theorem TS.turn (h : TS w T t) (o : OnlyQ T w w') (hA : ∀ o, w'.cell? ⟨T, o, none⟩ = (trC t')[o]?) : TS w' T t' := ⟨Nat.lt_of_lt_of_le h.lt o.size, hA, fun j => (o.fz j).trans (h.fz j)⟩
theorem TS.below (h : TS w T t) (hb : Below w.heap.size w w') : TS w' T t :=
  ⟨Nat.lt_of_lt_of_le h.lt hb.size, fun o => (World.cell?_of_block (w := w) (a := ⟨T, o, none⟩) (hb.block T h.lt)).trans (h.cel o), fun o => (World.frozen?_of_block (w := w) (a := ⟨T, o, none⟩) (hb.block T h.lt)).trans (h.fz o)⟩
theorem TS.told2 (h : TS w T t) : ∃ ns, Told T [1, 2] ns w w := told_refl _ fun o ho => by
  rw [h.cel o]
  simp at ho
  rcases ho with rfl | rfl
  · exact ⟨t.tg, by simp⟩
  · exact ⟨t.ac, by simp⟩
theorem TS.told1 (h : TS w T t) : ∃ ns, Told T [1] ns w w := told_refl _ fun o ho => by
  rw [h.cel o]
  simp at ho
  subst ho
  exact ⟨t.tg, by simp⟩
/-- behind two numbers of a trigger -/
theorem NumsR.two (h : NumsR ws [1, 2] T w E w') (hS : TS w T t) : ∃ a b, TS w' T { t with tg := a, ac := b } ∧ E = .returned (.bool (two ws).isSome) ∧ OnlyQ T w w' ∧ ∀ q, two ws = some q → q = (a, b) := by
  obtain ⟨h1, h2, ns, h3, h4⟩ := h
  have hl := h3.len
  match ns, hl with
  | [a, b], _ =>
    refine ⟨a, b, hS.turn h2 (h3.arr (by decide) hS.cel (by simp)), ?_, h2, fun q hq => ?_⟩
    · cases hB : NsB 2 ws
      · rw [two_no hB, h1]; show Ending.returned (.bool (NsB 2 ws)) = _; rw [hB]; rfl
      · obtain ⟨x, y, _, hF⟩ := two_yes hB h3.len (h4 hB)
        rw [hF, h1]; show Ending.returned (.bool (NsB 2 ws)) = _; rw [hB]; rfl
    · cases hB : NsB 2 ws
      · rw [two_no hB] at hq; cases hq
      · obtain ⟨x, y, e, hF⟩ := two_yes hB h3.len (h4 hB)
        rw [hF] at hq
        cases hq
        cases e
        rfl
theorem NumsR.one {x : List UInt8} (h : NumsR [x] [1] T w E w') (hS : TS w T t) : ∃ a, TS w' T { t with tg := a } ∧ E = .returned (.bool (num7 x).isSome) ∧ OnlyQ T w w' ∧ ∀ q, num7 x = some q → q = a := by
  obtain ⟨h1, h2, ns, h3, h4⟩ := h
  have hl := h3.len
  match ns, hl with
  | [a], _ =>
    refine ⟨a, hS.turn h2 (h3.arr (by decide) hS.cel (by simp)), ?_, h2, fun q hq => ?_⟩
    · cases hB : NsB 1 [x]
      · rw [one_no hB, h1]; show Ending.returned (.bool (NsB 1 [x])) = _; rw [hB]; rfl
      · obtain ⟨y, _, hF⟩ := one_yes h3.len (h4 hB)
        rw [hF, h1]; show Ending.returned (.bool (NsB 1 [x])) = _; rw [hB]; rfl
    · cases hB : NsB 1 [x]
      · rw [one_no hB] at hq; cases hq
      · obtain ⟨y, e, hF⟩ := one_yes h3.len (h4 hB)
        rw [hF] at hq
        cases hq
        cases e
        rfl
/-- a cron is laid into a trigger -/
theorem TS.setA (h : TS w T t) (c : K) : TS (w.setCells T 3 [.int .u64 c.mi, .int .u64 c.ho, .int .u64 c.da, .int .u64 c.mn, .int .u64 c.we, .bool c.ad, .bool c.aw]) T { t with a := c } :=
  h.turn (OnlyQ.sets T _ _ _) (by
    have e : setRow (trC t) 3 [.int .u64 c.mi, .int .u64 c.ho, .int .u64 c.da, .int .u64 c.mn, .int .u64 c.we, .bool c.ad, .bool c.aw] = trC { t with a := c } := by simp [setRow]
    rw [← e]
    exact cells_sets _ 3 h.cel (by simp))
theorem TS.setB (h : TS w T t) (c : K) : TS (w.setCells T 10 [.int .u64 c.mi, .int .u64 c.ho, .int .u64 c.da, .int .u64 c.mn, .int .u64 c.we, .bool c.ad, .bool c.aw]) T { t with b := c } :=
  h.turn (OnlyQ.sets T _ _ _) (by
    have e : setRow (trC t) 10 [.int .u64 c.mi, .int .u64 c.ho, .int .u64 c.da, .int .u64 c.mn, .int .u64 c.we, .bool c.ad, .bool c.aw] = trC { t with b := c } := by simp [setRow]
    rw [← e]
    exact cells_sets _ 10 h.cel (by simp))
theorem TS.there (h : TS w T t) (o n : Nat) (ho : o + n ≤ 17) : ∀ j, j < n → (w.cell? ⟨T, o + j, none⟩).isSome = true ∧ w.frozen? ⟨T, o + j, none⟩ = false := fun j hj => by
  refine ⟨?_, h.fz _⟩
  rw [h.cel]
  simp
  omega
theorem TS.setK (h : TS w T t) (k : Int) : TS (w.setCell ⟨T, 0, none⟩ (.int .i64 k)) T { t with k := k } :=
  h.turn (OnlyQ.set T _ _ _) (cells_set h.cel 0 _ (by simp))
end
end Pln
end Go.Proofs.YtcfncgjpbdkagabDoor
namespace Go.Proofs.YtcfncgjpbdkagabDoor
namespace Pln
open Go.RowKit Lai Civ Crn Pie
set_option maxRecDepth 8000

/-- texts that lie in a row, from a place on -/
def TxAt (w : World) (B off : Nat) (l : List (List UInt8)) : Prop := B < w.heap.size ∧ ∀ (j : Nat) x, l[j]? = some x → w.cell? ⟨B, off + j, none⟩ = some (strV x)
theorem TxAt.of {w : World} {B : Nat} {l : List (List UInt8)} (h : Texts w B l) : TxAt w B 0 l := ⟨h.1, fun j x hx => by rw [Nat.zero_add]; exact h.2 j x hx⟩
theorem TxAt.tail {w : World} {B off : Nat} {x : List UInt8} {l : List (List UInt8)} (h : TxAt w B off (x :: l)) : TxAt w B (off + 1) l :=
  ⟨h.1, fun j y hy => by have := h.2 (j + 1) y (by simpa using hy); rw [show off + 1 + j = off + (j + 1) by omega]; exact this⟩
theorem TxAt.take {w : World} {B off : Nat} {l : List (List UInt8)} (h : TxAt w B off l) (n : Nat) : TxAt w B off (l.take n) :=
  ⟨h.1, fun j y hy => h.2 j y (by rw [List.getElem?_take] at hy; split at hy; exact hy; cases hy)⟩
theorem TxAt.below {w w' : World} {B off n : Nat} {l : List (List UInt8)} (h : TxAt w B off l) (hb : Below n w w') (hn : B < n) : TxAt w' B off l :=
  ⟨Nat.lt_of_lt_of_le h.1 hb.size, fun j x hx => (hb.cell (p := ⟨B, off + j, none⟩) hn).trans (h.2 j x hx)⟩
theorem TxAt.only {w w' : World} {B off Q : Nat} {l : List (List UInt8)} (h : TxAt w B off l) (hb : OnlyQ Q w w') (hn : B ≠ Q) : TxAt w' B off l :=
  ⟨Nat.lt_of_lt_of_le h.1 hb.size, fun j x hx => (hb.cell (a := ⟨B, off + j, none⟩) h.1 hn).trans (h.2 j x hx)⟩
/-- the places of a row of numbers -/
def PlcAt (w : World) (P Q : Nat) (os : List Nat) : Prop := P < w.heap.size ∧ ∀ (j o : Nat), os[j]? = some o → w.cell? ⟨P, j, none⟩ = some (.pointer (some ⟨Q, o, none⟩))
theorem PlcAt.only {w w' : World} {P Q : Nat} {os : List Nat} (h : PlcAt w P Q os) (hb : OnlyQ Q w w') (hn : P ≠ Q) : PlcAt w' P Q os :=
  ⟨Nat.lt_of_lt_of_le h.1 hb.size, fun j o ho => (hb.cell (a := ⟨P, j, none⟩) h.1 hn).trans (h.2 j o ho)⟩
def PnR (ws : List (List UInt8)) (os : List Nat) (Q : Nat) (w : World) (i : Value) (wr : World) : Prop :=
  ∃ (k : Nat) (ns : List Int), k ≤ ws.length ∧ i = .int .i64 k ∧ OnlyQ Q w wr ∧ Told Q os ns w wr ∧ ∀ (j : Nat) x, j < k → ws[j]? = some x → num7 x = ns[j]?
set_option maxHeartbeats 4000000 in
theorem pnums_any (ws : List (List UInt8)) (os : List Nat) (ns0 : List Int) (B off cap P Q : Nat) (w : World) (hW : TxAt w B off ws) (hBQ : B ≠ Q) (hP : PlcAt w P Q os) (hPQ : P ≠ Q) (hQ : Q < w.heap.size) (hf : ∀ o, w.frozen? ⟨Q, o, none⟩ = false) (h0 : Told Q os ns0 w w) (hd : os.Nodup) (ho : os.length ≤ 10) (hws : ws.length ≤ 3000) (hx : ∀ x ∈ ws, x.length ≤ 3000) :
    Calls Tryd.prog 67 #[.slice (some ⟨B, off, none⟩) ws.length cap, .slice (some ⟨P, 0, none⟩) os.length os.length] w fun e w' => NumsR ws os Q w e w' := by
  by_cases hl : ws.length = os.length
  · have HL : Hid (os.length = ws.length) := hl.symm
    rw [← hl]
    have hwl : ws.length ≤ 10 := by omega
    clear hl ho
    go_enter Tryd.func67, Tryd.ntmps67
    go_wp2
    go_loopw [16] (fun i wr => PnR ws os Q w i wr) (fun i _ => ws.length - (intOf i).toNat)
    case atStart => exact ⟨0, ns0, Nat.zero_le _, rfl, OnlyQ.refl _ _, h0, fun j x hj => absurd hj (by omega)⟩
    case round =>
      clear h0
      obtain ⟨k, ns, hk, rfl, hO, hT, hn⟩ := hrel
      have HN : Hid (∀ (j : Nat) x, j < k → ws[j]? = some x → num7 x = ns[j]?) := hn
      clear hn
      by_cases hlt : k < ws.length
      · have hlt' : (k : Int) < ws.length := by omega
        have hlt2 : k < os.length := by rw [HL.out]; exact hlt
        obtain ⟨x, hwx⟩ : ∃ x, ws[k]? = some x := ⟨ws[k], by simp [hlt]⟩
        obtain ⟨o, hoo⟩ : ∃ o, os[k]? = some o := ⟨os[k], by simp [hlt2]⟩
        clear hlt2
        have hbs := hW.1
        have hps := hP.1
        have hsz := hO.size
        have cx := (hW.only hO hBQ).2 k x hwx
        have cp := (hP.only hO hPQ).2 k o hoo
        have HX : Hid (ws[k]? = some x) := hwx
        have HO : Hid (os[k]? = some o) := hoo
        have HOn : Hid (OnlyQ Q w wr) := hO
        have HT : Hid (Told Q os ns w wr) := hT
        have c0 := fun w => pnum_any x w (hx x (List.mem_of_getElem? hwx))
        have hfr : ∀ o, wr.frozen? ⟨Q, o, none⟩ = false := fun o => (hO.fz o).trans (hf o)
        clear hwx hoo hx hW hP hO hT hf
        cases hnx : num7 x with
        | none =>
          rw [hnx] at c0
          replace c0 : ∀ w, Calls Tryd.prog 89 #[strV x] w fun e w' => e = .returned (.tuple #[.int .i64 0, .bool false]) ∧ Below w.heap.size w w' := c0
          have HB : Hid (NsB os.length ws = false) := nsB_no HX.out hnx
          clear hnx
          go_wp2_with (go_at_call 89; (with_reducible refine (c0 _).mono ?_); rintro e w1 ⟨rfl, hb1⟩)
          go_ret
          exact ⟨ret_b HB.out.symm, HOn.out.trans (OnlyQ.of_below hb1 (by omega)), ns, HT.out.below hb1 (by omega), fun h => by rw [HB.out] at h; cases h⟩
        | some m =>
          rw [hnx] at c0
          replace c0 : ∀ w, Calls Tryd.prog 89 #[strV x] w fun e w' => e = .returned (.tuple #[.int .i64 m, .bool true]) ∧ Below w.heap.size w w' := c0
          have HM : Hid (num7 x = some m) := hnx
          clear hnx
          go_wp2_with (go_at_call 89; (with_reducible refine (c0 _).mono ?_); rintro e w1 ⟨rfl, hb1⟩; have hb1s := hb1.size; have cp1 : w1.cell? ⟨P, k, none⟩ = some (.pointer (some ⟨Q, o, none⟩)) := (hb1.cell (p := ⟨P, k, none⟩) (by show P < _; omega)).trans cp; obtain ⟨n1, _, cq1⟩ := (HT.out.below hb1 (by omega)).ex HO.out; have fq1 : w1.frozen? ⟨Q, o, none⟩ = false := (World.frozen?_of_block (w := wr) (a := ⟨Q, o, none⟩) (hb1.block Q (by omega))).trans (hfr o); have hQ1 : Q < w1.heap.size := by omega)
          go_roundw
          case rel =>
            refine ⟨k + 1, ns.set k m, by omega, rfl, (HOn.out.trans (OnlyQ.of_below hb1 (by omega))).trans (OnlyQ.set Q _ _ _), (HT.out.below hb1 (by omega)).set hd HO.out m, fun j y hj hy => ?_⟩
            have hkl : k < ns.length := by rw [HT.out.len, HL.out]; exact hlt
            by_cases e : j = k
            · subst e
              rw [HX.out] at hy; cases hy
              rw [HM.out, List.getElem?_set_self hkl]
            · rw [List.getElem?_set_ne (fun g => e g.symm)]
              exact HN.out j y (by omega) hy
          case measure => simp [intOf]; omega
      · obtain rfl : k = ws.length := by omega
        have HB : Hid (NsB os.length ws = true) := nsB_all HL.out.symm fun j y hy => by
          have hj : j < ws.length := (List.getElem?_eq_some_iff.1 hy).1
          rw [HN.out j y hj hy, List.getElem?_eq_getElem (by rw [hT.len, HL.out]; exact hj)]
          rfl
        have HT : Hid (Told Q os ns w wr) := hT
        have HOn : Hid (OnlyQ Q w wr) := hO
        clear hT hO hW hP hx
        go_wp2
        go_ret
        exact ⟨ret_b HB.out.symm, HOn.out, ns, HT.out, fun _ j y hy => HN.out j y (List.getElem?_eq_some_iff.1 hy).1 hy⟩
  · have hl' : ¬ (ws.length : Int) = os.length := by omega
    have HN : Hid (NsB os.length ws = false) := nsB_len hl
    have HT : Hid (Told Q os ns0 w w) := h0
    clear h0 hl hW hP
    go_enter Tryd.func67, Tryd.ntmps67
    go_wp2
    go_ret
    exact ⟨ret_b HN.out.symm, OnlyQ.refl _ _, ns0, HT.out, fun h => by rw [HN.out] at h; cases h⟩
end Pln
end Go.Proofs.YtcfncgjpbdkagabDoor
namespace Go.Proofs.YtcfncgjpbdkagabDoor
namespace Pln
open Go.RowKit Lai Civ Crn Pie
set_option maxRecDepth 8000

theorem info_i : (Tryd.prog.info? 3).map (fun i => (i.zero, i.size, i.bytes)) = some (some (.int .i64 0), 1, 8) := by kernel_rfl
def iV (n : Int) : Value := .int .i64 n
/-- what wholes tells -/
def WhR (ws : List (List UInt8)) (n : Nat) (w : World) (e : Ending) (w' : World) : Prop :=
  Below w.heap.size w w' ∧ ((NsB n ws = false ∧ e = .returned (.slice none 0 0)) ∨ (NsB n ws = true ∧ ∃ (g c : Nat) (ns : List Int), e = .returned (.slice (some ⟨g, 0, none⟩) n c) ∧ ns.length = n ∧ g < w'.heap.size ∧ (∀ (j : Nat) m, ns[j]? = some m → w'.cell? ⟨g, j, none⟩ = some (.int .i64 m)) ∧ (∀ (j : Nat) x, ws[j]? = some x → num7 x = ns[j]?) ∧ w.heap.size ≤ g))
def WsR (ws : List (List UInt8)) (n : Nat) (w : World) (v i : Value) (wr : World) : Prop :=
  ∃ (k : Nat) (ns : List Int), k ≤ n ∧ i = .int .i64 k ∧ ns.length = k ∧ wr.ownsRow w.heap.size 3 1 v k (ns.map iV) ∧ (∀ (j : Nat) x, j < k → ws[j]? = some x → num7 x = ns[j]?) ∧ Below w.heap.size w wr
set_option maxHeartbeats 4000000 in
theorem rwholes (ws : List (List UInt8)) (n : Nat) (B off cap : Nat) (w : World) (hW : TxAt w B off ws) (hn : 1 ≤ n) (hn2 : n ≤ 10) (hws : ws.length ≤ 3000) (hx : ∀ x ∈ ws, x.length ≤ 3000) :
    Calls Tryd.prog 70 #[.slice (some ⟨B, off, none⟩) ws.length cap, .int .i64 n, .int .i64 7] w fun e w' => WhR ws n w e w' := by
  by_cases hl : ws.length = n
  · obtain ⟨i0, hi0, hz0, hz1, hz2⟩ := info_parts info_i
    subst hl
    have hBl := hW.1
    go_enter Tryd.func70, Tryd.ntmps70
    go_wp2
    go_loopw [7, 8] (fun v i wr => WsR ws ws.length w v i wr) (fun _ i _ => ws.length - (intOf i).toNat)
    case atStart => exact ⟨0, [], Nat.zero_le _, rfl, rfl, World.ownsRow_nil _ _ _ _, fun j x hj => absurd hj (by omega), Below.refl _ _⟩
    case round =>
      obtain ⟨k, ns, hk, rfl, hnl, hown, hN, hbw⟩ := hrel
      have HN : Hid (∀ (j : Nat) x, j < k → ws[j]? = some x → num7 x = ns[j]?) := hN
      clear hN
      have hsb := hbw.size
      by_cases hlt : k < ws.length
      · have hlt' : (k : Int) < ws.length := by omega
        obtain ⟨x, hwx⟩ : ∃ x, ws[k]? = some x := ⟨ws[k], by simp [hlt]⟩
        have cx := (hW.below hbw hBl).2 k x hwx
        have HX : Hid (ws[k]? = some x) := hwx
        have c0 := fun w => rwhole x w (hx x (List.mem_of_getElem? hwx))
        clear hwx hx hW
        cases hnx : num7 x with
        | none =>
          rw [hnx] at c0
          replace c0 : ∀ w, Calls Tryd.prog 91 #[strV x, .int .i64 7] w fun e w' => e = .returned (.tuple #[.int .i64 0, .bool false]) ∧ w' = w := c0
          have HB : Hid (NsB ws.length ws = false) := nsB_no HX.out hnx
          clear hnx hown
          go_wp2_with (go_at_call 91; (with_reducible refine (c0 _).mono ?_); rintro e w1 ⟨rfl, h9⟩; have h8 := h9.symm; clear h9; subst h8)
          go_ret
          exact ⟨hbw, Or.inl ⟨HB.out, rfl⟩⟩
        | some m =>
          rw [hnx] at c0
          replace c0 : ∀ w, Calls Tryd.prog 91 #[strV x, .int .i64 7] w fun e w' => e = .returned (.tuple #[.int .i64 m, .bool true]) ∧ w' = w := c0
          have HM : Hid (num7 x = some m) := hnx
          clear hnx
          go_wp2_with (first
            | (go_at_call 91; (with_reducible refine (c0 _).mono ?_); rintro e w1 ⟨rfl, h9⟩; have h8 := h9.symm; clear h9; subst h8)
            | (at_builtin; refine wpList_append_own _ rfl _ _ 110 rfl w.heap.size 3 i0 (.int .i64 0) 1 8 Tryd.underlying110 hi0 hz0 hz1 hz2 rfl (by decide) _ _ _ rfl (hown.alloc _) ⟨wr.heap.size, 0, none⟩ 1 1 [.int .i64 m] rfl rfl (cell_new1 _ _ _) (fun x hx => by simp at hx; subst hx; rfl) (by unfold maxLen; omega) (by omega) (by simp; omega) ?_; intro v' w3 hown3 hgrow3 hnil3))
          go_roundw
          case rel =>
            have hB3 : Below w.heap.size w w3 := (hbw.alloc hsb _).grown hgrow3 (by simp; omega) (fun q hq => (hown.lt q hq).1)
            refine ⟨k + 1, ns ++ [m], by omega, rfl, by simp [hnl], by rw [List.map_append]; exact hown3, fun j y hj hy => ?_, hB3⟩
            by_cases e : j = k
            · subst e
              rw [HX.out] at hy; cases hy
              rw [HM.out, List.getElem?_append_right (by omega), hnl]; simp
            · rw [List.getElem?_append_left (by omega)]
              exact HN.out j y (by omega) hy
          case measure => simp [intOf]; omega
      · obtain rfl : k = ws.length := by omega
        have HB : Hid (NsB ws.length ws = true) := nsB_all rfl fun j y hy => by
          have hj : j < ws.length := (List.getElem?_eq_some_iff.1 hy).1
          rw [HN.out j y hj hy, List.getElem?_eq_getElem (by omega)]
          rfl
        clear hW hx
        go_wp2
        go_ret
        refine ⟨hbw, Or.inr ⟨HB.out, ?_⟩⟩
        rcases hown.2 with ⟨_, h⟩ | ⟨g, cap3, _, h, _⟩
        · omega
        · subst h
          refine ⟨g, cap3, ns, rfl, hnl, (hown.lt g rfl).2, fun j m hm => ?_, fun j y hy => HN.out j y (List.getElem?_eq_some_iff.1 hy).1 hy, (hown.lt g rfl).1⟩
          have hj : j < ns.length := (List.getElem?_eq_some_iff.1 hm).1
          rw [hown.cellAt j (by omega), List.getElem?_map, hm]
          rfl
  · have hl' : ¬ (ws.length : Int) = n := by omega
    have HB : Hid (NsB n ws = false) := nsB_len hl
    clear hW hx hl
    go_enter Tryd.func70, Tryd.ntmps70
    go_wp2
    go_ret
    exact ⟨Below.refl _ _, Or.inl ⟨HB.out, rfl⟩⟩
end Pln
end Go.Proofs.YtcfncgjpbdkagabDoor
namespace Go.Proofs.YtcfncgjpbdkagabDoor
namespace Pln
open Go.RowKit Lai Civ Crn
set_option maxRecDepth 8000

theorem scheck_any (a b : K) (w : World) (hB : BdsAt w) : Calls Tryd.prog 7 #[spanV a b] w fun e w' => e = .returned (.int .i64 (if kc a = true ∧ kc b = true then 0 else 1)) ∧ Below w.heap.size w w' := by
  by_cases h : kc a = true ∧ kc b = true
  · rw [if_pos h]; exact scheck_yes a b w hB h.1 h.2
  · rw [if_neg h]
    refine scheck_no a b w hB ?_
    cases ha : kc a
    · exact Or.inl rfl
    · cases hb : kc b
      · exact Or.inr rfl
      · exact absurd ⟨ha, hb⟩ h
/-- what checkTrigger tells -/
def trE (t : Tr) : Int := if trB t = true then 0 else 1
set_option maxHeartbeats 4000000 in
theorem ctrig_span (t : Tr) (w : World) (hB : BdsAt w) (hk : t.k = 3) :
    Calls Tryd.prog 38 #[trV t] w fun e w' => e = .returned (.int .i64 (trE t)) ∧ Below w.heap.size w w' := by
  obtain ⟨k, tg, ac, a, b⟩ := t
  dsimp only at hk
  subst hk
  have HN : Hid (trE ⟨3, tg, ac, a, b⟩ = if rg tg 1 50 = true ∧ ac = 0 ∧ kc a = true ∧ kc b = true then 0 else 1) := by
    unfold Hid trE trB
    dsimp only
    rw [if_pos rfl]
    simp only [Bool.and_eq_true, decide_eq_true_eq]
  have cw := fun n lo hi w => within_any n lo hi w
  have cs := fun w hB => scheck_any a b w hB
  have hB2 := fun o => hB.below (balloc o) (Nat.le_refl _)
  by_cases hac : ac = 0
  · subst hac
    go_enter Tryd.func38, Tryd.ntmps38
    go_wp2_with (first
      | (go_at_call 63; (with_reducible refine (cw _ _ _ _).mono ?_); rintro e w1 ⟨rfl, rfl⟩)
      | (go_at_call 7; (with_reducible refine (cs _ (hB2 _)).mono ?_); rintro e w1 ⟨rfl, hb1⟩))
    all_goals
      go_ret
      clear cw cs hB2
      first
        | exact ⟨ret_n (by rw [HN.out]; simp [*]), balloc _⟩
        | exact ⟨ret_n (by rw [HN.out]; simp [*]), (balloc _).trans (hb1.mono (by simp))⟩
  · have hne : (ac != 0) = true := by rw [bne_iff_ne]; exact hac
    go_enter Tryd.func38, Tryd.ntmps38
    go_wp2_with (first
      | (go_at_call 63; (with_reducible refine (cw _ _ _ _).mono ?_); rintro e w1 ⟨rfl, rfl⟩)
      | (go_at_call 7; (with_reducible refine (cs _ (hB2 _)).mono ?_); rintro e w1 ⟨rfl, hb1⟩))
    all_goals
      go_ret
      clear cw cs hB2
      exact ⟨ret_n (by rw [HN.out]; simp [*]), balloc _⟩
set_option maxHeartbeats 4000000 in
theorem ctrig_two (k tg ac : Int) (a b : K) (w : World) (hk : k = 1 ∨ k = 2) :
    Calls Tryd.prog 38 #[trV ⟨k, tg, ac, a, b⟩] w fun e w' => e = .returned (.int .i64 (trE ⟨k, tg, ac, a, b⟩)) ∧ Below w.heap.size w w' := by
  have HN : Hid (trE ⟨k, tg, ac, a, b⟩ = if rg tg 1 1000000 = true ∧ rg ac 0 1000000 = true ∧ zK a = true ∧ zK b = true then 0 else 1) := by
    unfold Hid trE trB
    dsimp only
    rw [if_neg (show ¬ k = 3 by omega)]
    simp only [Bool.and_eq_true, decide_eq_true_eq]
    simp only [hk, true_and]
  have cw := fun n lo hi w => within_any n lo hi w
  obtain ⟨a0, a1, a2, a3, a4, a5, a6⟩ := a
  obtain ⟨b0, b1, b2, b3, b4, b5, b6⟩ := b
  go_enter Tryd.func38, Tryd.ntmps38
  rcases hk with rfl | rfl
  all_goals
    go_wp2_with (first
      | (go_at_call 63; (with_reducible refine (cw _ _ _ _).mono ?_); rintro e w1 ⟨rfl, rfl⟩))
    all_goals
      go_ret
      clear cw
      exact ⟨ret_n (by rw [HN.out]; simp [zK, *]), balloc _⟩
theorem ctrig_other (k tg ac : Int) (a b : K) (w : World) (h1 : k ≠ 1) (h2 : k ≠ 2) (h3 : k ≠ 3) :
    Calls Tryd.prog 38 #[trV ⟨k, tg, ac, a, b⟩] w fun e w' => e = .returned (.int .i64 (trE ⟨k, tg, ac, a, b⟩)) ∧ Below w.heap.size w w' := by
  have HN : Hid (trE ⟨k, tg, ac, a, b⟩ = 1) := by
    unfold Hid trE trB
    dsimp only
    rw [if_neg h3]
    simp [h1, h2]
  have d1 : (k == 1) = false := by rw [beq_eq_false_iff_ne]; exact h1
  have d2 : (k == 2) = false := by rw [beq_eq_false_iff_ne]; exact h2
  have d3 : (k == 3) = false := by rw [beq_eq_false_iff_ne]; exact h3
  go_enter Tryd.func38, Tryd.ntmps38
  go_wp2
  go_ret
  exact ⟨ret_n HN.out.symm, balloc _⟩
theorem ctrig_any (t : Tr) (w : World) (hB : BdsAt w) :
    Calls Tryd.prog 38 #[trV t] w fun e w' => e = .returned (.int .i64 (trE t)) ∧ Below w.heap.size w w' := by
  by_cases h3 : t.k = 3
  · exact ctrig_span t w hB h3
  · obtain ⟨k, tg, ac, a, b⟩ := t
    by_cases h1 : k = 1
    · exact ctrig_two k tg ac a b w (Or.inl h1)
    · by_cases h2 : k = 2
      · exact ctrig_two k tg ac a b w (Or.inr h2)
      · exact ctrig_other k tg ac a b w h1 h2 h3
end Pln
end Go.Proofs.YtcfncgjpbdkagabDoor
namespace Go.Proofs.YtcfncgjpbdkagabDoor
namespace Pln
open Go.RowKit Lai Civ Crn
set_option maxRecDepth 8000

/-- a trigger's cells, as a walk takes them -/
structure TrAt (w : World) (b o : Nat) (t : Tr) : Prop where
  c0 : w.cell? ⟨b, o, none⟩ = some (.int .i64 t.k)
  c1 : w.cell? ⟨b, o + 1, none⟩ = some (.int .i64 t.tg)
  c2 : w.cell? ⟨b, o + 2, none⟩ = some (.int .i64 t.ac)
  c3 : w.cell? ⟨b, o + 3, none⟩ = some (.int .u64 t.a.mi)
  c4 : w.cell? ⟨b, o + 4, none⟩ = some (.int .u64 t.a.ho)
  c5 : w.cell? ⟨b, o + 5, none⟩ = some (.int .u64 t.a.da)
  c6 : w.cell? ⟨b, o + 6, none⟩ = some (.int .u64 t.a.mn)
  c7 : w.cell? ⟨b, o + 7, none⟩ = some (.int .u64 t.a.we)
  c8 : w.cell? ⟨b, o + 8, none⟩ = some (.bool t.a.ad)
  c9 : w.cell? ⟨b, o + 9, none⟩ = some (.bool t.a.aw)
  c10 : w.cell? ⟨b, o + 10, none⟩ = some (.int .u64 t.b.mi)
  c11 : w.cell? ⟨b, o + 11, none⟩ = some (.int .u64 t.b.ho)
  c12 : w.cell? ⟨b, o + 12, none⟩ = some (.int .u64 t.b.da)
  c13 : w.cell? ⟨b, o + 13, none⟩ = some (.int .u64 t.b.mn)
  c14 : w.cell? ⟨b, o + 14, none⟩ = some (.int .u64 t.b.we)
  c15 : w.cell? ⟨b, o + 15, none⟩ = some (.bool t.b.ad)
  c16 : w.cell? ⟨b, o + 16, none⟩ = some (.bool t.b.aw)
theorem TrsAt.elem {w : World} {a : Option Addr} {ts : List Tr} (h : TrsAt w a ts) {i : Nat} {t : Tr} (hi : ts[i]? = some t) : ∃ b off, a = some ⟨b, off, none⟩ ∧ b < w.heap.size ∧ TrAt w b (off + i * 17) t := by
  obtain ⟨b, off, rfl, hlt, hc⟩ := h i t hi
  refine ⟨b, off, rfl, hlt, ?_⟩
  have q : ∀ j, j < 17 → w.cell? ⟨b, off + i * 17 + j, none⟩ = (trC t)[j]? := fun j hj => by rw [Nat.add_assoc]; exact hc j hj
  constructor
  · simpa using q 0 (by decide)
  · simpa using q 1 (by decide)
  · simpa using q 2 (by decide)
  · simpa using q 3 (by decide)
  · simpa using q 4 (by decide)
  · simpa using q 5 (by decide)
  · simpa using q 6 (by decide)
  · simpa using q 7 (by decide)
  · simpa using q 8 (by decide)
  · simpa using q 9 (by decide)
  · simpa using q 10 (by decide)
  · simpa using q 11 (by decide)
  · simpa using q 12 (by decide)
  · simpa using q 13 (by decide)
  · simpa using q 14 (by decide)
  · simpa using q 15 (by decide)
  · simpa using q 16 (by decide)
/-- where Check stands: k triggers are right -/
def CkR (ts : List Tr) (w : World) (i : Value) (wr : World) : Prop := ∃ k : Nat, k ≤ ts.length ∧ i = .int .i64 k ∧ (∀ j t, j < k → ts[j]? = some t → trB t = true) ∧ Below w.heap.size w wr
theorem cells_on {W w' : World} {N : Nat} {A : Array Value} (h : ∀ o, W.cell? ⟨N, o, none⟩ = A[o]?) (hb : Below W.heap.size W w') (hN : N < W.heap.size) : ∀ o, w'.cell? ⟨N, o, none⟩ = A[o]? :=
  fun o => (hb.cell (p := ⟨N, o, none⟩) hN).trans (h o)
theorem box_one (w : World) (A : Array Value) (ta : TypeId) : ∃ w0, w0 = w.alloc (.cells A ta) ∧ (∀ o, w0.cell? ⟨w.heap.size, o, none⟩ = A[o]?) ∧ (∀ o, w0.frozen? ⟨w.heap.size, o, none⟩ = false) ∧ w.heap.size < w0.heap.size ∧ Below w.heap.size w w0 :=
  ⟨_, rfl, fun o => by simp, fun o => by simp, by simp, balloc _⟩
theorem trE_bad {t : Tr} (h : trB t = false) : trE t = 1 := by unfold trE; rw [h]; rfl
theorem trE_ok {t : Tr} (h : trB t = true) : trE t = 0 := by unfold trE; rw [h]; rfl
theorem chk_bad {p : Pd} {ts : List Tr} {t : Tr} {k : Nat} (h1 : nmB p.nm = true) (h2 : ¬ 5 < ts.length) (h3 : okP p = true) (hk : ts[k]? = some t) (ht : trB t = false) : chkP p ts = 1 := by
  unfold chkP
  rw [h1, h3, if_neg (by decide), if_neg h2, if_neg (by decide), if_pos (List.all_eq_false.2 ⟨t, List.mem_of_getElem? hk, by rw [ht]; decide⟩)]
theorem chk_good {p : Pd} {ts : List Tr} (h1 : nmB p.nm = true) (h2 : ¬ 5 < ts.length) (h3 : okP p = true) (h : ∀ j t, j < ts.length → ts[j]? = some t → trB t = true) : chkP p ts = 0 := by
  unfold chkP
  have : ts.all trB = true := List.all_eq_true.2 fun t ht => by
    obtain ⟨j, hj⟩ := List.mem_iff_getElem?.1 ht
    exact h j t (List.getElem?_eq_some_iff.1 hj).1 hj
  rw [h1, h3, this, if_neg (by decide), if_neg h2, if_neg (by decide), if_neg (by decide)]
/-- a plan's cells, as a walk takes them -/
structure PlAt (w : World) (B : Nat) (p : Pd) (sl : Value) : Prop where
  c0 : w.cell? ⟨B, 0, none⟩ = some (.string ⟨p.nm.toArray⟩)
  c1 : w.cell? ⟨B, 1, none⟩ = some (.int .i64 p.mn)
  c2 : w.cell? ⟨B, 2, none⟩ = some (.int .i64 p.mx)
  c3 : w.cell? ⟨B, 3, none⟩ = some (.int .i64 p.po)
  c4 : w.cell? ⟨B, 4, none⟩ = some (.int .i64 p.co)
  c5 : w.cell? ⟨B, 5, none⟩ = some (.int .i64 p.tl)
  c6 : w.cell? ⟨B, 6, none⟩ = some (.int .i64 p.bk)
  c7 : w.cell? ⟨B, 7, none⟩ = some (.int .i64 p.af)
  c8 : w.cell? ⟨B, 8, none⟩ = some (.int .i64 p.sh)
  c9 : w.cell? ⟨B, 9, none⟩ = some (.int .i64 p.uw)
  c10 : w.cell? ⟨B, 10, none⟩ = some (.int .i64 p.up)
  c11 : w.cell? ⟨B, 11, none⟩ = some (.int .i64 p.uc)
  c12 : w.cell? ⟨B, 12, none⟩ = some (.int .i64 p.ue)
  c13 : w.cell? ⟨B, 13, none⟩ = some (.int .i64 p.dw)
  c14 : w.cell? ⟨B, 14, none⟩ = some (.int .i64 p.dp)
  c15 : w.cell? ⟨B, 15, none⟩ = some (.int .i64 p.dc)
  c16 : w.cell? ⟨B, 16, none⟩ = some (.int .i64 p.de)
  c17 : w.cell? ⟨B, 17, none⟩ = some sl
theorem PlAt.on {w w' : World} {B n : Nat} {p : Pd} {sl : Value} (h : PlAt w B p sl) (hb : Below n w w') (hn : B < n) : PlAt w' B p sl :=
  ⟨(hb.cell (p := ⟨B, 0, none⟩) hn).trans h.c0, (hb.cell (p := ⟨B, 1, none⟩) hn).trans h.c1, (hb.cell (p := ⟨B, 2, none⟩) hn).trans h.c2, (hb.cell (p := ⟨B, 3, none⟩) hn).trans h.c3, (hb.cell (p := ⟨B, 4, none⟩) hn).trans h.c4, (hb.cell (p := ⟨B, 5, none⟩) hn).trans h.c5, (hb.cell (p := ⟨B, 6, none⟩) hn).trans h.c6, (hb.cell (p := ⟨B, 7, none⟩) hn).trans h.c7, (hb.cell (p := ⟨B, 8, none⟩) hn).trans h.c8, (hb.cell (p := ⟨B, 9, none⟩) hn).trans h.c9, (hb.cell (p := ⟨B, 10, none⟩) hn).trans h.c10, (hb.cell (p := ⟨B, 11, none⟩) hn).trans h.c11, (hb.cell (p := ⟨B, 12, none⟩) hn).trans h.c12, (hb.cell (p := ⟨B, 13, none⟩) hn).trans h.c13, (hb.cell (p := ⟨B, 14, none⟩) hn).trans h.c14, (hb.cell (p := ⟨B, 15, none⟩) hn).trans h.c15, (hb.cell (p := ⟨B, 16, none⟩) hn).trans h.c16, (hb.cell (p := ⟨B, 17, none⟩) hn).trans h.c17⟩
theorem PlAt.of {w : World} {B : Nat} {p : Pd} {sl : Value} (h : ∀ o, w.cell? ⟨B, o, none⟩ = (planC p sl)[o]?) : PlAt w B p sl := by
  constructor
  · simpa using h 0
  · simpa using h 1
  · simpa using h 2
  · simpa using h 3
  · simpa using h 4
  · simpa using h 5
  · simpa using h 6
  · simpa using h 7
  · simpa using h 8
  · simpa using h 9
  · simpa using h 10
  · simpa using h 11
  · simpa using h 12
  · simpa using h 13
  · simpa using h 14
  · simpa using h 15
  · simpa using h 16
  · simpa using h 17
theorem range_plan {w : World} {B : Nat} {p : Pd} {sl : Value} (h : PlAt w B p sl) : w.rangeAt B 0 [.string ⟨p.nm.toArray⟩, .int .i64 p.mn, .int .i64 p.mx, .int .i64 p.po, .int .i64 p.co, .int .i64 p.tl, .int .i64 p.bk, .int .i64 p.af, .int .i64 p.sh, .int .i64 p.uw, .int .i64 p.up, .int .i64 p.uc, .int .i64 p.ue, .int .i64 p.dw, .int .i64 p.dp, .int .i64 p.dc, .int .i64 p.de, sl] := by
  intro j v hv
  match j, hv with
  | 0, hv => simp at hv; subst hv; simpa using h.c0
  | 1, hv => simp at hv; subst hv; simpa using h.c1
  | 2, hv => simp at hv; subst hv; simpa using h.c2
  | 3, hv => simp at hv; subst hv; simpa using h.c3
  | 4, hv => simp at hv; subst hv; simpa using h.c4
  | 5, hv => simp at hv; subst hv; simpa using h.c5
  | 6, hv => simp at hv; subst hv; simpa using h.c6
  | 7, hv => simp at hv; subst hv; simpa using h.c7
  | 8, hv => simp at hv; subst hv; simpa using h.c8
  | 9, hv => simp at hv; subst hv; simpa using h.c9
  | 10, hv => simp at hv; subst hv; simpa using h.c10
  | 11, hv => simp at hv; subst hv; simpa using h.c11
  | 12, hv => simp at hv; subst hv; simpa using h.c12
  | 13, hv => simp at hv; subst hv; simpa using h.c13
  | 14, hv => simp at hv; subst hv; simpa using h.c14
  | 15, hv => simp at hv; subst hv; simpa using h.c15
  | 16, hv => simp at hv; subst hv; simpa using h.c16
  | 17, hv => simp at hv; subst hv; simpa using h.c17
  | j + 18, hv => simp at hv
theorem range_tr {w : World} {b o : Nat} {t : Tr} (h : TrAt w b o t) : w.rangeAt b o [.int .i64 t.k, .int .i64 t.tg, .int .i64 t.ac, .int .u64 t.a.mi, .int .u64 t.a.ho, .int .u64 t.a.da, .int .u64 t.a.mn, .int .u64 t.a.we, .bool t.a.ad, .bool t.a.aw, .int .u64 t.b.mi, .int .u64 t.b.ho, .int .u64 t.b.da, .int .u64 t.b.mn, .int .u64 t.b.we, .bool t.b.ad, .bool t.b.aw] := by
  intro j v hv
  match j, hv with
  | 0, hv => simp at hv; subst hv; simpa using h.c0
  | 1, hv => simp at hv; subst hv; simpa using h.c1
  | 2, hv => simp at hv; subst hv; simpa using h.c2
  | 3, hv => simp at hv; subst hv; simpa using h.c3
  | 4, hv => simp at hv; subst hv; simpa using h.c4
  | 5, hv => simp at hv; subst hv; simpa using h.c5
  | 6, hv => simp at hv; subst hv; simpa using h.c6
  | 7, hv => simp at hv; subst hv; simpa using h.c7
  | 8, hv => simp at hv; subst hv; simpa using h.c8
  | 9, hv => simp at hv; subst hv; simpa using h.c9
  | 10, hv => simp at hv; subst hv; simpa using h.c10
  | 11, hv => simp at hv; subst hv; simpa using h.c11
  | 12, hv => simp at hv; subst hv; simpa using h.c12
  | 13, hv => simp at hv; subst hv; simpa using h.c13
  | 14, hv => simp at hv; subst hv; simpa using h.c14
  | 15, hv => simp at hv; subst hv; simpa using h.c15
  | 16, hv => simp at hv; subst hv; simpa using h.c16
  | j + 17, hv => simp at hv
/-- the whole plan, the whole trigger, by one step of a walk -/
theorem wp_plan {ops : Array Oper} {rest : List Oper} {d : Option Nat} {x : Operand} {ps : String} {af : Array Edge} {A : Act} {Q : Exit → Act → World → Prop} {w : World} {B : Nat} {p : Pd} {sl : Value} (h : PlAt w B p sl) (hx : A.eval x = .pointer (some ⟨B, 0, none⟩))
    (g : wpList Tryd.prog ops Q rest (A.put d (planV p sl)) w) : wpList Tryd.prog ops Q ({ dst := d, op := .load 44 x, type := 44, pos := ps, after := af, guard := none } :: rest) A w :=
  wpList_load_mid rfl 44 x rfl B 0 hx [.string ⟨p.nm.toArray⟩, .int .i64 p.mn, .int .i64 p.mx, .int .i64 p.po, .int .i64 p.co, .int .i64 p.tl, .int .i64 p.bk, .int .i64 p.af, .int .i64 p.sh, .int .i64 p.uw, .int .i64 p.up, .int .i64 p.uc, .int .i64 p.ue, .int .i64 p.dw, .int .i64 p.dp, .int .i64 p.dc, .int .i64 p.de, sl] _ (range_plan h) Tryd.underlying44 rfl (by kernel_rfl) g
theorem wp_tr {ops : Array Oper} {rest : List Oper} {d : Option Nat} {x : Operand} {ps : String} {af : Array Edge} {A : Act} {Q : Exit → Act → World → Prop} {w : World} {b o : Nat} {t : Tr} (h : TrAt w b o t) (hx : A.eval x = .pointer (some ⟨b, o, none⟩))
    (g : wpList Tryd.prog ops Q rest (A.put d (trV t)) w) : wpList Tryd.prog ops Q ({ dst := d, op := .load 63 x, type := 63, pos := ps, after := af, guard := none } :: rest) A w :=
  wpList_load_mid rfl 63 x rfl b o hx [.int .i64 t.k, .int .i64 t.tg, .int .i64 t.ac, .int .u64 t.a.mi, .int .u64 t.a.ho, .int .u64 t.a.da, .int .u64 t.a.mn, .int .u64 t.a.we, .bool t.a.ad, .bool t.a.aw, .int .u64 t.b.mi, .int .u64 t.b.ho, .int .u64 t.b.da, .int .u64 t.b.mn, .int .u64 t.b.we, .bool t.b.ad, .bool t.b.aw] _ (range_tr h) Tryd.underlying63 rfl (by kernel_rfl) g
theorem TrAt.new (w : World) (t : Tr) (ta : TypeId) : TrAt (w.alloc (.cells (trC t) ta)) w.heap.size 0 t := by
  constructor <;> simp
theorem boxB {w w1 : World} {A : Array Value} {ta : TypeId} (hb : Below (w.alloc (.cells A ta)).heap.size (w.alloc (.cells A ta)) w1) : (∀ o, w1.cell? ⟨w.heap.size, o, none⟩ = A[o]?) ∧ w.heap.size < w1.heap.size ∧ Below w.heap.size w w1 :=
  ⟨fun o => by rw [hb.cell (p := ⟨w.heap.size, o, none⟩) (by simp)]; simp, Nat.lt_of_lt_of_le (by simp) hb.size, (balloc _).trans (hb.mono (by simp))⟩
set_option maxHeartbeats 4000000 in
theorem check_name (p : Pd) (ts : List Tr) (a : Option Addr) (cap : Nat) (w : World) (hl : p.nm.length ≤ 9223372036854775807) (h1 : nmB p.nm = false) :
    Calls Tryd.prog 16 #[planV p (.slice a ts.length cap)] w fun e w' => e = .returned (.int .i64 (chkP p ts)) ∧ Below w.heap.size w w' := by
  have c1 := fun w => isName_any p.nm w hl
  rw [h1] at c1
  have HR : Hid (chkP p ts = 3) := by unfold Hid chkP; rw [if_pos h1]
  clear h1
  go_enter Tryd.func16, Tryd.ntmps16
  go_wp2_with (go_at_call 35; (with_reducible refine (c1 _).mono ?_); rintro e w1 ⟨rfl, hb1⟩; obtain ⟨hA1, hz1, hw1⟩ := boxB hb1; have hq : PlAt w1 w.heap.size p (.slice a ts.length cap) := PlAt.of hA1; clear hA1; have hA1 := hq; clear hq)
  go_ret
  exact ⟨ret_n HR.out.symm, hw1⟩
set_option maxHeartbeats 4000000 in
theorem check_many (p : Pd) (ts : List Tr) (a : Option Addr) (cap : Nat) (w : World) (hl : p.nm.length ≤ 9223372036854775807) (h1 : nmB p.nm = true) (h2 : 5 < ts.length) :
    Calls Tryd.prog 16 #[planV p (.slice a ts.length cap)] w fun e w' => e = .returned (.int .i64 (chkP p ts)) ∧ Below w.heap.size w w' := by
  have c1 := fun w => isName_any p.nm w hl
  rw [h1] at c1
  have HR : Hid (chkP p ts = 2) := by unfold Hid chkP; rw [h1, if_neg (by decide), if_pos h2]
  have h2' : (5 : Int) < ts.length := by omega
  clear h1
  go_enter Tryd.func16, Tryd.ntmps16
  go_wp2_with (go_at_call 35; (with_reducible refine (c1 _).mono ?_); rintro e w1 ⟨rfl, hb1⟩; obtain ⟨hA1, hz1, hw1⟩ := boxB hb1; have hq : PlAt w1 w.heap.size p (.slice a ts.length cap) := PlAt.of hA1; clear hA1; have hA1 := hq; clear hq; have p17 := hA1.c17)
  go_ret
  exact ⟨ret_n HR.out.symm, hw1⟩
set_option maxHeartbeats 4000000 in
theorem check_num (p : Pd) (ts : List Tr) (a : Option Addr) (cap : Nat) (w : World) (hi : PdI p) (hl : p.nm.length ≤ 9223372036854775807) (h1 : nmB p.nm = true) (h2 : ¬ 5 < ts.length) (hn : numB p = false) :
    Calls Tryd.prog 16 #[planV p (.slice a ts.length cap)] w fun e w' => e = .returned (.int .i64 (chkP p ts)) ∧ Below w.heap.size w w' := by
  have c1 := fun w => isName_any p.nm w hl
  rw [h1] at c1
  have h2' : ¬ (5 : Int) < ts.length := by omega
  have c2 := fun w => numbers_any p (.slice a ts.length cap) w hi
  rw [hn] at c2
  have HR : Hid (chkP p ts = 1) := by unfold Hid chkP okP; rw [h1, if_neg (by decide), if_neg h2, hn]; rfl
  clear h1 hn hi hl
  go_enter Tryd.func16, Tryd.ntmps16
  go_wp2_with (first
    | (with_reducible refine wp_plan hA1 (by with_unfolding_all rfl) ?_)
    | (go_at_call 35; (with_reducible refine (c1 _).mono ?_); rintro e w1 ⟨rfl, hb1⟩; obtain ⟨hA1, hz1, hw1⟩ := boxB hb1; have hq : PlAt w1 w.heap.size p (.slice a ts.length cap) := PlAt.of hA1; clear hA1; have hA1 := hq; clear hq; have p17 := hA1.c17)
    | (go_at_call 36; (with_reducible refine (c2 _).mono ?_); rintro e w2 ⟨rfl, hb2⟩; have hw2 : Below w.heap.size w w2 := hw1.trans (hb2.mono hw1.size); have hz2 := Nat.lt_of_lt_of_le hz1 hb2.size))
  go_ret
  exact ⟨ret_n HR.out.symm, hw2⟩
set_option maxHeartbeats 4000000 in
theorem check_up (p : Pd) (ts : List Tr) (a : Option Addr) (cap : Nat) (w : World) (hi : PdI p) (hl : p.nm.length ≤ 9223372036854775807) (h1 : nmB p.nm = true) (h2 : ¬ 5 < ts.length) (hn : numB p = true) (hu : paceB p.uw p.up p.uc p.ue = false) :
    Calls Tryd.prog 16 #[planV p (.slice a ts.length cap)] w fun e w' => e = .returned (.int .i64 (chkP p ts)) ∧ Below w.heap.size w w' := by
  have c1 := fun w => isName_any p.nm w hl
  rw [h1] at c1
  have h2' : ¬ (5 : Int) < ts.length := by omega
  have c2 := fun w => numbers_any p (.slice a ts.length cap) w hi
  rw [hn] at c2
  have c3 := fun w => pace_any p.uw p.up p.uc p.ue w
  rw [hu] at c3
  have HR : Hid (chkP p ts = 1) := by unfold Hid chkP okP; rw [h1, if_neg (by decide), if_neg h2, hn, hu]; rfl
  clear h1 hn hu hi hl
  go_enter Tryd.func16, Tryd.ntmps16
  go_wp2_with (first
    | (with_reducible refine wp_plan hA1 (by with_unfolding_all rfl) ?_)
    | (go_at_call 35; (with_reducible refine (c1 _).mono ?_); rintro e w1 ⟨rfl, hb1⟩; obtain ⟨hA1, hz1, hw1⟩ := boxB hb1; have hq : PlAt w1 w.heap.size p (.slice a ts.length cap) := PlAt.of hA1; clear hA1; have hA1 := hq; clear hq; have p17 := hA1.c17)
    | (go_at_call 36; (with_reducible refine (c2 _).mono ?_); rintro e w2 ⟨rfl, hb2⟩; have hw2 : Below w.heap.size w w2 := hw1.trans (hb2.mono hw1.size); have hz2 := Nat.lt_of_lt_of_le hz1 hb2.size; have hA2 := hA1.on hb2 hz1; clear p17; have u9 := hA2.c9; have u10 := hA2.c10; have u11 := hA2.c11; have u12 := hA2.c12)
    | (go_at_call 37; (with_reducible refine (c3 w2).mono ?_); rintro e w3 ⟨rfl, hb3⟩; have hw3 : Below w.heap.size w w3 := hw2.trans (hb3.mono hw2.size); have hz3 := Nat.lt_of_lt_of_le hz2 hb3.size))
  go_ret
  exact ⟨ret_n HR.out.symm, hw3⟩
set_option maxHeartbeats 4000000 in
theorem check_down (p : Pd) (ts : List Tr) (a : Option Addr) (cap : Nat) (w : World) (hi : PdI p) (hl : p.nm.length ≤ 9223372036854775807) (h1 : nmB p.nm = true) (h2 : ¬ 5 < ts.length) (hn : numB p = true) (hu : paceB p.uw p.up p.uc p.ue = true) (hd : paceB p.dw p.dp p.dc p.de = false) :
    Calls Tryd.prog 16 #[planV p (.slice a ts.length cap)] w fun e w' => e = .returned (.int .i64 (chkP p ts)) ∧ Below w.heap.size w w' := by
  have c1 := fun w => isName_any p.nm w hl
  rw [h1] at c1
  have h2' : ¬ (5 : Int) < ts.length := by omega
  have c2 := fun w => numbers_any p (.slice a ts.length cap) w hi
  rw [hn] at c2
  have c3 := fun w => pace_any p.uw p.up p.uc p.ue w
  rw [hu] at c3
  have c4 := fun w => pace_any p.dw p.dp p.dc p.de w
  rw [hd] at c4
  have HR : Hid (chkP p ts = 1) := by unfold Hid chkP okP; rw [h1, if_neg (by decide), if_neg h2, hn, hu, hd]; rfl
  clear h1 hn hu hd hi hl
  go_enter Tryd.func16, Tryd.ntmps16
  go_wp2_with (first
    | (with_reducible refine wp_plan hA1 (by with_unfolding_all rfl) ?_)
    | (go_at_call 35; (with_reducible refine (c1 _).mono ?_); rintro e w1 ⟨rfl, hb1⟩; obtain ⟨hA1, hz1, hw1⟩ := boxB hb1; have hq : PlAt w1 w.heap.size p (.slice a ts.length cap) := PlAt.of hA1; clear hA1; have hA1 := hq; clear hq; have p17 := hA1.c17)
    | (go_at_call 36; (with_reducible refine (c2 _).mono ?_); rintro e w2 ⟨rfl, hb2⟩; have hw2 : Below w.heap.size w w2 := hw1.trans (hb2.mono hw1.size); have hz2 := Nat.lt_of_lt_of_le hz1 hb2.size; have hA2 := hA1.on hb2 hz1; clear p17; have u9 := hA2.c9; have u10 := hA2.c10; have u11 := hA2.c11; have u12 := hA2.c12)
    | (go_at_call 37; (with_reducible refine (c3 w2).mono ?_); rintro e w3 ⟨rfl, hb3⟩; have hw3 : Below w.heap.size w w3 := hw2.trans (hb3.mono hw2.size); have hz3 := Nat.lt_of_lt_of_le hz2 hb3.size; have hA3 := hA2.on hb3 hz2; clear u9 u10 u11 u12; have d13 := hA3.c13; have d14 := hA3.c14; have d15 := hA3.c15; have d16 := hA3.c16)
    | (go_at_call 37; (with_reducible refine (c4 w3).mono ?_); rintro e w4 ⟨rfl, hb4⟩; have hw4 : Below w.heap.size w w4 := hw3.trans (hb4.mono hw3.size); have hz4 := Nat.lt_of_lt_of_le hz3 hb4.size))
  go_ret
  exact ⟨ret_n HR.out.symm, hw4⟩
end Pln
end Go.Proofs.YtcfncgjpbdkagabDoor
