/- What the document's answer (tideref) says of texts that are joined: Joined. -/
import Derived.Test.YtbfnjjdgiihngaaDoorTextJoin
namespace Go.Proofs.YtbfnjjdgiihngaaDoor
namespace RCrn
open Go.RowKit Lai Civ Crn
set_option maxRecDepth 8000

theorem str_add (a b : List UInt8) : ((⟨a.toArray⟩ : ByteArray) ++ (⟨b.toArray⟩ : ByteArray)) = ⟨(a ++ b).toArray⟩ := by
  apply ByteArray.ext
  simp
theorem take_one {rows : List (List UInt8)} {sep x : List UInt8} (h : rows[0]? = some x) : Lib.join (rows.take 1) sep = x := by
  cases rows with
  | nil => cases h
  | cons y r => cases h; simp [Lib.join_one]
theorem take_more {rows : List (List UInt8)} {sep x : List UInt8} {k : Nat} (h : rows[k + 1]? = some x) : Lib.join (rows.take (k + 1 + 1)) sep = Lib.join (rows.take (k + 1)) sep ++ sep ++ x := by
  cases rows with
  | nil => cases h
  | cons y r =>
    rw [List.take_succ_cons, List.take_succ_cons, Lib.join_cons, Lib.join_cons, Lib.joinTail_take_succ sep r k x (by simpa using h)]
    simp [List.append_assoc]
/-- where Joined stands: k texts are done -/
def JoR (rows : List (List UInt8)) (sep : List UInt8) (w : World) (out i : Value) (wr : World) : Prop := ∃ k : Nat, k ≤ rows.length ∧ i = .int .i64 k ∧ out = strV (Lib.join (rows.take k) sep) ∧ wr = w

set_option maxHeartbeats 8000000 in
theorem rjoined (rows : List (List UInt8)) (sep : List UInt8) (w : World) (ao : Option Addr) (cv : Nat) (hl : rows.length ≤ 100) (hk : ∀ x ∈ rows, x.length ≤ 1000) (hsep : sep.length ≤ 10)
    (hcell : ∀ (j : Nat) x, rows[j]? = some x → ∃ bk, ao = some ⟨bk, 0, none⟩ ∧ w.cell? ⟨bk, j, none⟩ = some (strV x)) :
    Calls Tryd.prog 22 #[.slice ao rows.length cv, strV sep] w fun e w' => e = .returned (strV (Lib.join rows sep)) ∧ w' = w := by
  have hjl : ∀ k, (Lib.join (rows.take k) sep).length ≤ 200000 := by
    intro k
    have h1 := join_len sep 1000 (rows.take k) (fun x hx => hk x (List.mem_of_mem_take hx))
    have h2 : (rows.take k).length ≤ 100 := by rw [List.length_take]; omega
    have h3 : (rows.take k).length * (sep.length + 1000) ≤ 100 * 1010 := Nat.mul_le_mul h2 (by omega)
    omega
  have HJ : Hid (∀ k, (Lib.join (rows.take k) sep).length ≤ 200000) := hjl
  have HK : Hid (∀ x ∈ rows, x.length ≤ 1000) := hk
  have HC : Hid (∀ (j : Nat) x, rows[j]? = some x → ∃ bk, ao = some ⟨bk, 0, none⟩ ∧ w.cell? ⟨bk, j, none⟩ = some (strV x)) := hcell
  clear hjl hk hcell
  go_enter Tryd.func22, Tryd.ntmps22
  go_wp2
  go_loopw [5, 6] (fun out i wr => JoR rows sep w out i wr) (fun _ i _ => rows.length - (intOf i).toNat)
  case atStart => exact ⟨0, by omega, rfl, by simp [Lib.join_nil], rfl⟩
  case round =>
    obtain ⟨k, hk1, rfl, rfl, rfl⟩ := hrel
    by_cases hlt : k < rows.length
    · obtain ⟨x, hx⟩ : ∃ x, rows[k]? = some x := ⟨_, List.getElem?_eq_getElem hlt⟩
      obtain ⟨bk, rfl, hc⟩ := HC.out k x hx
      have lx := HK.out x (List.mem_of_getElem? hx)
      have lj := HJ.out k
      cases k with
      | zero =>
        have HT1 : Hid (Lib.join (rows.take 1) sep = x) := take_one hx
        clear HC
        rw [List.take_zero, Lib.join_nil]
        go_wp2
        go_roundw
        case rel =>
          refine ⟨1, by omega, rfl, ?_, rfl⟩
          rw [HT1.out]
          first
            | rfl
            | (rw [show (⟨#[]⟩ : ByteArray) = ⟨([] : List UInt8).toArray⟩ from rfl, str_add]; rfl)
        case measure => simp [intOf]; omega
      | succ k =>
        have HT1 : Hid (Lib.join (rows.take (k + 1 + 1)) sep = Lib.join (rows.take (k + 1)) sep ++ sep ++ x) := take_more hx
        generalize Lib.join (rows.take (k + 1)) sep = L at lj HT1
        clear HC
        go_wp2
        go_roundw
        case rel =>
          refine ⟨k + 1 + 1, by omega, by go_num, ?_, rfl⟩
          rw [HT1.out, str_add, str_add]
        case measure => simp [intOf]; omega
    · obtain rfl : k = rows.length := by omega
      have HT1 : Hid (Lib.join (rows.take rows.length) sep = Lib.join rows sep) := by unfold Hid; rw [List.take_length]
      clear HC
      go_wp2
      go_ret
      exact ⟨ret_str HT1.out, rfl⟩
end RCrn
end Go.Proofs.YtbfnjjdgiihngaaDoor
