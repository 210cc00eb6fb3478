/- How a set is printed: printRow, printWord. Texts that are joined; the rows of a set as texts. What the document's answer (tideref) says of texts that are joined: Joined. -/
import Derived.Test.YtcfncgjpbdkagabDoorParsePlain
import Derived.Test.YtcfncgjpbdkagabDoorCronBits
import Derived.Test.YtcfncgjpbdkagabDoorShelf2
namespace Go.Proofs.YtcfncgjpbdkagabDoor
namespace Crn
open Go.RowKit Lai Civ
set_option maxRecDepth 8000

abbrev strV (l : List UInt8) : Value := .string ⟨l.toArray⟩
theorem ret_str {a b : List UInt8} (h : a = b) : Ending.returned (strV a) = .returned (strV b) := by rw [h]
theorem itoa_c (i : Int) (h : 0 ≤ i ∧ i < 100) (w : World) : Calls Tryd.prog 29 #[.int .i64 i] w fun e w' => e = .returned (strV (Lib.decDigits i.toNat)) ∧ w' = w := by
  obtain ⟨N, rfl⟩ := Int.eq_ofNat_of_zero_le h.1
  exact Tryd.strconv_Itoa_small N (by omega) w

theorem dec_len : ∀ n : Nat, n < 100 → (Lib.decDigits n).length ≤ 2 := by
  intro n h
  by_cases g : n < 10
  · rw [Lib.decDigits_one g]; simp
  · rw [Lib.decDigits_two g h]; simp

set_option maxHeartbeats 2000000 in
theorem row_any (a b : Int) (ha : 0 ≤ a ∧ a < 100) (hb : 0 ≤ b ∧ b < 100) (w : World) :
    Calls Tryd.prog 104 #[.int .i64 a, .int .i64 b] w fun e w' => e = .returned (strV (rowT (a, b))) ∧ w' = w := by
  have c1 := fun w => itoa_c a ha w
  have c2 := fun w => itoa_c b hb w
  by_cases h : a = b
  · subst h
    have HR : Hid (rowT (a, a) = Lib.decDigits a.toNat) := by unfold Hid rowT; simp
    clear ha hb c2
    go_enter Tryd.func104, Tryd.ntmps104
    go_wp2_with (go_at_call 29; (with_reducible refine (c1 _).mono ?_); rintro e w' ⟨rfl, rfl⟩)
    go_ret
    exact ⟨ret_str HR.out.symm, rfl⟩
  · have HR : Hid (rowT (a, b) = Lib.decDigits a.toNat ++ [45] ++ Lib.decDigits b.toNat) := by unfold Hid rowT; simp [h]
    have la := dec_len a.toNat (by omega)
    have lb := dec_len b.toNat (by omega)
    clear ha hb
    go_enter Tryd.func104, Tryd.ntmps104
    go_wp2_with (first
      | (go_at_call 29; (with_reducible refine (c1 _).mono ?_); rintro e w' ⟨rfl, rfl⟩)
      | (go_at_call 29; (with_reducible refine (c2 _).mono ?_); rintro e w' ⟨rfl, rfl⟩))
    go_ret
    exact ⟨ret_str HR.out.symm, rfl⟩
end Crn
end Go.Proofs.YtcfncgjpbdkagabDoor
namespace Go.Proofs.YtcfncgjpbdkagabDoor
namespace Crn
open Go.RowKit Lai Civ
set_option maxRecDepth 8000

theorem info_str : (Tryd.prog.info? 9).map (fun i => (i.zero, i.size, i.bytes)) = some (some (.string ByteArray.empty), 1, 16) := by kernel_rfl
theorem frm_none (s n : Int) (h : frmB s n = false) : frm s n = 64 := by
  unfold frmB at h
  rw [decide_eq_false_iff_not, Decidable.not_not] at h
  unfold frm
  rw [h]; rfl
theorem rows_len (s : Int) : ∀ n : Nat, (rowsU s n).length ≤ n
  | 0 => Nat.le_refl _
  | n + 1 => by
    have e : rowsU s (n + 1) = rowsU s n ++ (if isSt s (n : Int) = true then [((n : Int), endOf s n)] else []) := rfl
    have := rows_len s n
    rw [e, List.length_append]
    split
    · simp; omega
    · simp; omega
/-- the rows as texts -/
def rowsT (s : Int) (n : Nat) : List (List UInt8) := (rowsU s n).map rowT
theorem tail_len (sep : List UInt8) (k : Nat) : ∀ r : List (List UInt8), (∀ x ∈ r, x.length ≤ k) → (Lib.joinTail sep r).length ≤ r.length * (sep.length + k)
  | [], _ => by simp [Lib.joinTail]
  | x :: r, h => by
    have := tail_len sep k r (fun y hy => h y (List.mem_cons_of_mem _ hy))
    have h2 := h x (List.mem_cons_self ..)
    simp only [Lib.joinTail, List.map_cons, List.flatten_cons, List.length_append, List.length_cons] at this ⊢
    rw [Nat.succ_mul]
    omega
theorem join_len (sep : List UInt8) (k : Nat) (r : List (List UInt8)) (h : ∀ x ∈ r, x.length ≤ k) : (Lib.join r sep).length ≤ k + r.length * (sep.length + k) := by
  cases r with
  | nil => simp [Lib.join_nil]
  | cons x r =>
    rw [Lib.join_cons, List.length_append, List.length_cons, Nat.succ_mul]
    have := tail_len sep k r (fun y hy => h y (List.mem_cons_of_mem _ hy))
    have := h x (List.mem_cons_self ..)
    omega
theorem not_eq (s : Int) (h : 0 ≤ s ∧ s ≤ 18446744073709551615) : bits .xor .u64 IntKind.u64.max s = ntS s := by
  rw [show IntKind.u64.max = 18446744073709551615 from rfl, u64_xor _ s (by omega) (by omega) h.1 (by omega)]
  obtain ⟨S, rfl⟩ := Int.eq_ofNat_of_zero_le h.1
  have e : ntS (S : Int) = ((2 ^ 64 - (S + 1) : Nat) : Int) := by unfold ntS; omega
  rw [e]
  congr 1
  rw [show ((18446744073709551615 : Int).toNat) = 2 ^ 64 - 1 from rfl, Int.toNat_natCast]
  apply Nat.eq_of_testBit_eq
  intro i
  rw [Nat.testBit_xor, Nat.testBit_two_pow_sub_one, Nat.testBit_two_pow_sub_succ (by omega)]
  by_cases g : i < 64
  · rw [decide_eq_true g]; cases S.testBit i <;> rfl
  · rw [decide_eq_false g, Nat.testBit_lt_two_pow (show S < 2 ^ i from Nat.lt_of_lt_of_le (show S < 2 ^ 64 by omega) (Nat.pow_le_pow_right (by omega) (by omega)))]; rfl
/-- strings.Join of a slice of the call's own -/
theorem join_own (rows : List (List UInt8)) (sep : List UInt8) (w : World) (base : Nat) (ao : Option Addr) (cv : Nat) (hown : w.ownsRow base 9 1 (.slice ao rows.length cv) rows.length (rows.map strV)) (hl : rows.length ≤ 100) (hk : ∀ x ∈ rows, x.length ≤ 1000) (hsep : sep.length ≤ 10) :
    Calls Tryd.prog 85 #[.slice ao rows.length cv, .string ⟨sep.toArray⟩] w fun e w' => e = .returned (strV (Lib.join rows sep)) ∧ Below w.heap.size w w' := by
  rcases hown.2 with ⟨h, hn⟩ | ⟨g, cap, cur, h, hb, hh, hc, hm, hcs, ht⟩
  · have hr : rows = [] := List.eq_nil_of_length_eq_zero hn
    subst hr
    exact (Tryd.strings_Join_none ao cv ⟨sep.toArray⟩ w).mono fun e w' ⟨he, hw⟩ => ⟨he, hw ▸ Below.refl _ _⟩
  · simp only [Value.slice.injEq] at h
    obtain ⟨rfl, _, rfl⟩ := h
    have hgl : g < w.heap.size := by
      rcases Nat.lt_or_ge g w.heap.size with h | h
      · exact h
      · rw [Array.getElem?_eq_none h] at hh; cases hh
    have em : (rows.map (fun x => (⟨x.toArray⟩ : ByteArray))).map (·.data.toList) = rows := by
      rw [List.map_map]
      conv => rhs; rw [← List.map_id rows]
      exact List.map_congr_left fun x _ => by simp
    have hjl := join_len sep 1000 rows hk
    have hle : rows.length * (sep.length + 1000) ≤ 100 * 1010 := Nat.mul_le_mul hl (by omega)
    have := Tryd.strings_Join g 0 cv (rows.map (fun x => (⟨x.toArray⟩ : ByteArray))) ⟨sep.toArray⟩ w (fun j x hj => by
      rw [List.getElem?_map, Option.map_eq_some_iff] at hj
      obtain ⟨y, hy, rfl⟩ := hj
      have := hown.cells rfl j (strV y) (by rw [List.getElem?_map, hy]; rfl)
      have e : ((⟨g, 0, none⟩ : Addr).add j) = ⟨g, 0 + j, none⟩ := by simp [Addr.add]; intro h; exact h.symm
      rw [← e]; exact this) hgl (by rw [List.length_map]; omega) (by rw [List.length_map]; omega) (by rw [em]; exact Nat.le_trans hjl (by omega))
    rw [List.length_map, em] at this
    exact this
theorem rowT_len (s : Int) (n : Nat) (hs : U s) (h60 : ∀ n, inS s n = true → n ≤ 59) : ∀ x ∈ rowsT s n, x.length ≤ 1000 := by
  intro x hx
  unfold rowsT at hx
  rw [List.mem_map] at hx
  obtain ⟨p, hp, rfl⟩ := hx
  have key : ∀ k : Nat, ∀ p ∈ rowsU s k, 0 ≤ p.1 ∧ p.1 < 100 ∧ 0 ≤ p.2 ∧ p.2 < 100 := by
    intro k
    induction k with
    | zero => intro p hp; cases hp
    | succ k ih =>
      intro p hp
      have e : rowsU s (k + 1) = rowsU s k ++ (if isSt s (k : Int) = true then [((k : Int), endOf s k)] else []) := rfl
      rw [e, List.mem_append] at hp
      rcases hp with hp | hp
      · exact ih p hp
      · by_cases g : isSt s (k : Int) = true
        · rw [if_pos g, List.mem_singleton] at hp
          subst hp
          unfold isSt at g
          rw [Bool.and_eq_true] at g
          obtain ⟨e1, e2, e3, _⟩ := end_spec hs h60 g.1
          have := inS_bd g.1
          unfold endOf
          exact ⟨by omega, by omega, by omega, by omega⟩
        · rw [if_neg g] at hp; cases hp
  obtain ⟨p1, p2, p3, p4⟩ := key n p hp
  have l1 := dec_len p.1.toNat (by omega)
  have l2 := dec_len p.2.toNat (by omega)
  unfold rowT
  split
  · omega
  · simp only [List.length_append, List.length_cons, List.length_nil]; omega
theorem word_end {s m : Int} (hs : U s) (hm0 : 0 ≤ m) (hm1 : m ≤ 60) (h : frmB s m = false) : wordT s false = Lib.join (rowsT s m.toNat) [44] := by
  have h1 := rows_to (s := s) hm0 (show m ≤ 64 by omega) (fun j h1 _ => frm_no s m hs hm0 h j h1)
  have h2 : (64 : Int).toNat = 64 := rfl
  rw [h2] at h1
  unfold wordT rowsT
  rw [h1]
  simp
theorem cell_new1 (w : World) (x : Value) (t : TypeId) : ∀ (j : Nat) u, ([x] : List Value)[j]? = some u → (w.alloc (.cells #[x] t)).cell? ((⟨w.heap.size, 0, none⟩ : Addr).add j) = some u := by
  intro j u hj
  match j, hj with
  | 0, hj => simp at hj; subst hj; simp [Addr.add]
end Crn
end Go.Proofs.YtcfncgjpbdkagabDoor
namespace Go.Proofs.YtcfncgjpbdkagabDoor
namespace RCrn
open Go.RowKit Lai Civ Crn
set_option maxRecDepth 8000

theorem str_add (a b : List UInt8) : ((⟨a.toArray⟩ : ByteArray) ++ (⟨b.toArray⟩ : ByteArray)) = ⟨(a ++ b).toArray⟩ := by
  apply ByteArray.ext
  simp
theorem take_one {rows : List (List UInt8)} {sep x : List UInt8} (h : rows[0]? = some x) : Lib.join (rows.take 1) sep = x := by
  cases rows with
  | nil => cases h
  | cons y r => cases h; simp [Lib.join_one]
theorem take_more {rows : List (List UInt8)} {sep x : List UInt8} {k : Nat} (h : rows[k + 1]? = some x) : Lib.join (rows.take (k + 1 + 1)) sep = Lib.join (rows.take (k + 1)) sep ++ sep ++ x := by
  cases rows with
  | nil => cases h
  | cons y r =>
    rw [List.take_succ_cons, List.take_succ_cons, Lib.join_cons, Lib.join_cons, Lib.joinTail_take_succ sep r k x (by simpa using h)]
    simp [List.append_assoc]
/-- where Joined stands: k texts are done -/
def JoR (rows : List (List UInt8)) (sep : List UInt8) (w : World) (out i : Value) (wr : World) : Prop := ∃ k : Nat, k ≤ rows.length ∧ i = .int .i64 k ∧ out = strV (Lib.join (rows.take k) sep) ∧ wr = w

set_option maxHeartbeats 8000000 in
theorem rjoined (rows : List (List UInt8)) (sep : List UInt8) (w : World) (ao : Option Addr) (cv : Nat) (hl : rows.length ≤ 100) (hk : ∀ x ∈ rows, x.length ≤ 1000) (hsep : sep.length ≤ 10)
    (hcell : ∀ (j : Nat) x, rows[j]? = some x → ∃ bk, ao = some ⟨bk, 0, none⟩ ∧ w.cell? ⟨bk, j, none⟩ = some (strV x)) :
    Calls Tryd.prog 60 #[.slice ao rows.length cv, strV sep] w fun e w' => e = .returned (strV (Lib.join rows sep)) ∧ w' = w := by
  have hjl : ∀ k, (Lib.join (rows.take k) sep).length ≤ 200000 := by
    intro k
    have h1 := join_len sep 1000 (rows.take k) (fun x hx => hk x (List.mem_of_mem_take hx))
    have h2 : (rows.take k).length ≤ 100 := by rw [List.length_take]; omega
    have h3 : (rows.take k).length * (sep.length + 1000) ≤ 100 * 1010 := Nat.mul_le_mul h2 (by omega)
    omega
  have HJ : Hid (∀ k, (Lib.join (rows.take k) sep).length ≤ 200000) := hjl
  have HK : Hid (∀ x ∈ rows, x.length ≤ 1000) := hk
  have HC : Hid (∀ (j : Nat) x, rows[j]? = some x → ∃ bk, ao = some ⟨bk, 0, none⟩ ∧ w.cell? ⟨bk, j, none⟩ = some (strV x)) := hcell
  clear hjl hk hcell
  go_enter Tryd.func60, Tryd.ntmps60
  go_wp2
  go_loopw [5, 6] (fun out i wr => JoR rows sep w out i wr) (fun _ i _ => rows.length - (intOf i).toNat)
  case atStart => exact ⟨0, by omega, rfl, by simp [Lib.join_nil], rfl⟩
  case round =>
    obtain ⟨k, hk1, rfl, rfl, rfl⟩ := hrel
    by_cases hlt : k < rows.length
    · obtain ⟨x, hx⟩ : ∃ x, rows[k]? = some x := ⟨_, List.getElem?_eq_getElem hlt⟩
      obtain ⟨bk, rfl, hc⟩ := HC.out k x hx
      have lx := HK.out x (List.mem_of_getElem? hx)
      have lj := HJ.out k
      cases k with
      | zero =>
        have HT1 : Hid (Lib.join (rows.take 1) sep = x) := take_one hx
        clear HC
        rw [List.take_zero, Lib.join_nil]
        go_wp2
        go_roundw
        case rel =>
          refine ⟨1, by omega, rfl, ?_, rfl⟩
          rw [HT1.out]
          first
            | rfl
            | (rw [show (⟨#[]⟩ : ByteArray) = ⟨([] : List UInt8).toArray⟩ from rfl, str_add]; rfl)
        case measure => simp [intOf]; omega
      | succ k =>
        have HT1 : Hid (Lib.join (rows.take (k + 1 + 1)) sep = Lib.join (rows.take (k + 1)) sep ++ sep ++ x) := take_more hx
        generalize Lib.join (rows.take (k + 1)) sep = L at lj HT1
        clear HC
        go_wp2
        go_roundw
        case rel =>
          refine ⟨k + 1 + 1, by omega, by go_num, ?_, rfl⟩
          rw [HT1.out, str_add, str_add]
        case measure => simp [intOf]; omega
    · obtain rfl : k = rows.length := by omega
      have HT1 : Hid (Lib.join (rows.take rows.length) sep = Lib.join rows sep) := by unfold Hid; rw [List.take_length]
      clear HC
      go_wp2
      go_ret
      exact ⟨ret_str HT1.out, rfl⟩
end RCrn
end Go.Proofs.YtcfncgjpbdkagabDoor
