/- What the document's answer (tideref) says of words that are joined again: Joined. -/
import Derived.Test.YtcfncgjpbdkagabDoorPlanSpan
import Derived.Test.YtcfncgjpbdkagabDoorTextWalks
namespace Go.Proofs.YtcfncgjpbdkagabDoor
namespace Pln
open Go.RowKit Lai Civ Crn Pie RCrn
set_option maxRecDepth 8000

set_option maxHeartbeats 8000000 in
theorem rjoin_tx (rows : List (List UInt8)) (B o cv : Nat) (w : World) (hW : TxAt w B o rows) (hl : rows.length ≤ 3000) (hk : ∀ x ∈ rows, x.length ≤ 3000) :
    Calls Tryd.prog 60 #[.slice (some ⟨B, o, none⟩) rows.length cv, strV [32]] w fun e w' => e = .returned (strV (Lib.join rows [32])) ∧ w' = w := by
  have hjl : ∀ k, (Lib.join (rows.take k) [32]).length ≤ 10000000 := fun k => join_small (rows.take k) (by rw [List.length_take]; omega) (fun x hx => hk x (List.mem_of_mem_take hx))
  have HJ : Hid (∀ k, (Lib.join (rows.take k) [32]).length ≤ 10000000) := hjl
  have HK : Hid (∀ x ∈ rows, x.length ≤ 3000) := hk
  have HC : Hid (∀ (j : Nat) x, rows[j]? = some x → w.cell? ⟨B, o + j, none⟩ = some (strV x)) := hW.2
  clear hjl hk hW
  go_enter Tryd.func60, Tryd.ntmps60
  go_wp2
  go_loopw [5, 6] (fun out i wr => JoR rows [32] w out i wr) (fun _ i _ => rows.length - (intOf i).toNat)
  case atStart => exact ⟨0, by omega, rfl, by simp [Lib.join_nil], rfl⟩
  case round =>
    obtain ⟨k, hk1, rfl, rfl, rfl⟩ := hrel
    by_cases hlt : k < rows.length
    · obtain ⟨x, hx⟩ : ∃ x, rows[k]? = some x := ⟨_, List.getElem?_eq_getElem hlt⟩
      have hc := HC.out k x hx
      have lx := HK.out x (List.mem_of_getElem? hx)
      have lj := HJ.out k
      cases k with
      | zero =>
        have HT1 : Hid (Lib.join (rows.take 1) [32] = x) := take_one hx
        have hc0 : wr.cell? ⟨B, o, none⟩ = some (strV x) := hc
        clear hc
        clear HC
        rw [List.take_zero, Lib.join_nil]
        go_wp2
        go_roundw
        case rel =>
          refine ⟨1, by omega, rfl, ?_, rfl⟩
          rw [HT1.out]
          first
            | rfl
            | (rw [show (⟨#[]⟩ : ByteArray) = ⟨([] : List UInt8).toArray⟩ from rfl, str_add]; rfl)
        case measure => simp [intOf]; omega
      | succ k =>
        have HT1 : Hid (Lib.join (rows.take (k + 1 + 1)) [32] = Lib.join (rows.take (k + 1)) [32] ++ [32] ++ x) := take_more hx
        generalize Lib.join (rows.take (k + 1)) [32] = L at lj HT1
        clear HC
        go_wp2
        go_roundw
        case rel =>
          refine ⟨k + 1 + 1, by omega, by go_num, ?_, rfl⟩
          rw [HT1.out, str_add, str_add]
        case measure => simp [intOf]; omega
    · obtain rfl : k = rows.length := by omega
      have HT1 : Hid (Lib.join (rows.take rows.length) [32] = Lib.join rows [32]) := by unfold Hid; rw [List.take_length]
      clear HC
      go_wp2
      go_ret
      exact ⟨ret_str HT1.out, rfl⟩
end Pln
end Go.Proofs.YtcfncgjpbdkagabDoor
