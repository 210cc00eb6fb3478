/- strings.Split and strings.Cut at a byte. -/
import Derived.Test.YtcaobnmfgnbolabDoorRows
import Derived.Test.YtcaobnmfgnbolabDoorShelf3
import Derived.Test.YtcaobnmfgnbolabDoorParsePlain
import Derived.Test.YtcaobnmfgnbolabDoorPk4
import Derived.WalkKit
import Derived.Deep.QuietTactic
namespace Go.Proofs.YtcaobnmfgnbolabDoor
namespace Pie
open Go.RowKit Crn
set_option maxRecDepth 8000

theorem info_st : (Tryd.prog.info? 9).map (fun i => (i.zero, i.size, i.bytes)) = some (some (.string ByteArray.empty), 1, 16) := by kernel_rfl
/-- a slice of texts -/
def Texts (w : World) (B : Nat) (l : List (List UInt8)) : Prop := B < w.heap.size ∧ ∀ (j : Nat) x, l[j]? = some x → w.cell? ⟨B, j, none⟩ = some (strV x)
theorem Texts.below {w w' : World} {B n : Nat} {l : List (List UInt8)} (h : Texts w B l) (hb : Below n w w') (hn : B < n) : Texts w' B l :=
  ⟨Nat.lt_of_lt_of_le h.1 hb.size, fun j x hx => (hb.cell (p := ⟨B, j, none⟩) hn).trans (h.2 j x hx)⟩

theorem gensplit (s : List UInt8) (c : UInt8) (w : World) (hs : s.length < 4294967281) :
    Calls Tryd.prog 108 #[strV s, .string ⟨#[c]⟩, .int .i64 0, .int .i64 (-1)] w fun e w' => e = .returned (.slice (some ⟨w.heap.size, 0, none⟩) (pieces c s).length (pieces c s).length) ∧ Texts w' w.heap.size (pieces c s) ∧ Below w.heap.size w w' := by
  have hcnt : Lib.countB ⟨s.toArray⟩ ⟨#[c]⟩ = s.count c := by
    show Lib.count s [c] = _
    exact Lib.count_one c s
  have hle : s.count c ≤ s.length := List.count_le_length
  have hsz : (⟨s.toArray⟩ : ByteArray).size = s.length := rfl
  have c0 := Any.strings_genSplit_core Tryd.lays221 info_st ⟨s.toArray⟩ ⟨#[c]⟩ 0 (-1) (s.count c + 1) w (by rw [hsz]; exact hs) (Nat.le_refl 1) (Nat.zero_le _)
    (fun x a _ => by
      have := Tryd.strings_Index_one x c (w.alloc (.cells a 9))
      rw [← Lib.index_one] at this
      exact this)
    (by
      rw [hcnt]
      exact Tryd.strings_Count_one ⟨s.toArray⟩ c w)
    (by decide) (by decide) (by rw [hcnt, if_pos (by decide), hsz]; omega)
  have hd : (Lib.splitB ⟨#[c]⟩ 0 (s.count c + 1 - 1) ⟨s.toArray⟩).map (·.data.toList) = pieces c s := by
    rw [Lib.splitB_data, Nat.add_sub_cancel]
    exact splitK_pieces c _ s rfl
  generalize Lib.splitB ⟨#[c]⟩ 0 (s.count c + 1 - 1) ⟨s.toArray⟩ = L at c0 hd
  have hlen : L.length = (pieces c s).length := by rw [← hd, List.length_map]
  have hN : s.count c + 1 = (pieces c s).length := (pieces_len c s).symm
  refine c0.mono fun e w' h => ?_
  obtain ⟨he, hw⟩ := h
  rw [hlen, hN] at he
  rw [hN, ← hlen] at hw
  refine ⟨he, ?_, ?_⟩
  · rw [hw]
    refine ⟨by simp, fun j x hx => ?_⟩
    rw [← hd, List.getElem?_map, Option.map_eq_some_iff] at hx
    obtain ⟨y, hy, rfl⟩ := hx
    rw [Lib.cellsOf_full]
    have e1 : ((L.map Value.string).toArray)[j]? = some (.string y) := by simp [hy]
    have := (World.cell?_of_block (w := w.alloc (.cells (L.map Value.string).toArray 9)) (w' := w.alloc (.cells (L.map Value.string).toArray 9)) (a := ⟨w.heap.size, j, none⟩) rfl)
    have e2 : strV y.data.toList = .string y := rfl
    rw [e2]
    simpa using e1
  · rw [hw]; exact (Below.refl _ _).alloc (Nat.le_refl _) _
theorem split_any (s : List UInt8) (c : UInt8) (w : World) (hs : s.length < 4294967281) :
    Calls Tryd.prog 80 #[strV s, .string ⟨#[c]⟩] w fun e w' => e = .returned (.slice (some ⟨w.heap.size, 0, none⟩) (pieces c s).length (pieces c s).length) ∧ Texts w' w.heap.size (pieces c s) ∧ Below w.heap.size w w' := by
  have c0 := gensplit s c w hs
  go_enter Tryd.func80, Tryd.ntmps80
  go_wp2_with (go_at_call 108; (with_reducible refine c0.mono ?_); rintro e w1 ⟨rfl, h1, h2⟩)
  go_ret
  exact ⟨rfl, h1, h2⟩
theorem ret_three {a b c d e : Value} (h : a = b) (g : c = d) : Ending.returned (.tuple #[a, c, e]) = .returned (.tuple #[b, d, e]) := by rw [h, g]
theorem str_cut (l : List UInt8) (i j : Nat) : Value.string ((⟨l.toArray⟩ : ByteArray).extract i j) = strV ((l.take j).drop i) := by
  have : (⟨l.toArray⟩ : ByteArray).extract i j = ⟨((l.take j).drop i).toArray⟩ := by
    apply ByteArray.ext
    rw [ByteArray.data_extract]
    simp [List.drop_take]
  rw [this]
theorem lcut_no (s : List UInt8) (c : UInt8) (w : World) (h : c ∉ s) :
    Calls Tryd.prog 79 #[strV s, .string ⟨#[c]⟩] w fun e w' => e = .returned (.tuple #[strV s, .string ⟨#[]⟩, .bool false]) ∧ w' = w := by
  have c0 : Calls Tryd.prog 107 #[strV s, .string ⟨#[c]⟩] w fun e w' => e = .returned (.int .i64 (-1)) ∧ w' = w := by
    have := Tryd.stringslite_Index_one ⟨s.toArray⟩ c w
    rw [index_none h] at this
    exact this
  clear h
  go_enter Tryd.func79, Tryd.ntmps79
  go_wp2_with (go_at_call 107; (with_reducible refine c0.mono ?_); rintro e w1 ⟨rfl, rfl⟩)
  go_ret3
  exact ⟨rfl, rfl⟩
set_option maxHeartbeats 2000000 in
theorem lcut_yes (a b : List UInt8) (c : UInt8) (w : World) (h : c ∉ a) (hl : (a ++ c :: b).length ≤ 4294967281) :
    Calls Tryd.prog 79 #[strV (a ++ c :: b), .string ⟨#[c]⟩] w fun e w' => e = .returned (.tuple #[strV a, strV b, .bool true]) ∧ ∃ q, w' = w.drewN q := by
  have c0 : Calls Tryd.prog 107 #[strV (a ++ c :: b), .string ⟨#[c]⟩] w fun e w' => e = .returned (.int .i64 a.length) ∧ w' = w := by
    have := Tryd.stringslite_Index_one ⟨(a ++ c :: b).toArray⟩ c w
    rw [show Lib.indexByte ((⟨(a ++ c :: b).toArray⟩ : ByteArray).data.toList) c = a.length from index_hit h] at this
    exact this
  have hsz : (⟨(a ++ c :: b).toArray⟩ : ByteArray).size = a.length + 1 + b.length := by show (a ++ c :: b).length = _; simp; omega
  have hsc : (⟨#[c]⟩ : ByteArray).size = 1 := rfl
  have hla : (a.length : Int) ≤ 4294967281 := by simp at hl; omega
  have hx : (a.length : Int) ≤ ((⟨(a ++ c :: b).toArray⟩ : ByteArray).size : Int) := by omega
  have hy : (a.length : Int) + 1 ≤ ((⟨(a ++ c :: b).toArray⟩ : ByteArray).size : Int) := by omega
  clear h
  go_enter Tryd.func79, Tryd.ntmps79
  go_wp2_with (go_at_call 107; (with_reducible refine c0.mono ?_); rintro e w1 ⟨rfl, h9⟩; have h8 := h9.symm; clear h9; subst h8)
  go_quiet (fail)
  go_wp2
  go_ret3
  refine ⟨?_, nq, rfl⟩
  have e1 := str_cut (a ++ c :: b) 0 a.length
  have e2 := str_cut (a ++ c :: b) (a.length + 1) (a.length + 1 + b.length)
  rw [show ((a ++ c :: b).take a.length).drop 0 = a by simp] at e1
  rw [show ((a ++ c :: b).take (a.length + 1 + b.length)).drop (a.length + 1) = b by rw [List.take_of_length_le (by simp; omega)]; simp] at e2
  exact ret_three e1 e2
theorem cut_no (s : List UInt8) (c : UInt8) (w : World) (h : c ∉ s) :
    Calls Tryd.prog 44 #[strV s, .string ⟨#[c]⟩] w fun e w' => e = .returned (.tuple #[strV s, .string ⟨#[]⟩, .bool false]) ∧ w' = w := by
  have c0 := lcut_no s c w h
  clear h
  go_enter Tryd.func44, Tryd.ntmps44
  go_wp2_with (go_at_call 79; (with_reducible refine c0.mono ?_); rintro e w1 ⟨rfl, rfl⟩)
  go_ret3
  exact ⟨rfl, rfl⟩
theorem cut_yes (a b : List UInt8) (c : UInt8) (w : World) (h : c ∉ a) (hl : (a ++ c :: b).length ≤ 4294967281) :
    Calls Tryd.prog 44 #[strV (a ++ c :: b), .string ⟨#[c]⟩] w fun e w' => e = .returned (.tuple #[strV a, strV b, .bool true]) ∧ ∃ q, w' = w.drewN q := by
  have c0 := lcut_yes a b c w h hl
  clear h hl
  go_enter Tryd.func44, Tryd.ntmps44
  go_wp2_with (go_at_call 79; (with_reducible refine c0.mono ?_); rintro e w1 ⟨rfl, q, rfl⟩)
  go_ret3
  exact ⟨rfl, q, rfl⟩
end Pie
end Go.Proofs.YtcaobnmfgnbolabDoor
