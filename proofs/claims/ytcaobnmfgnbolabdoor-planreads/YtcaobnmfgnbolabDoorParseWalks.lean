/- How the text of a cron is read: the functions, the leaves first. -/
import Derived.Test.YtcaobnmfgnbolabDoorCutWalks
import Derived.Test.YtcaobnmfgnbolabDoorParsePlain
import Derived.Test.YtcaobnmfgnbolabDoorCronBits
import Derived.Lib.ConvBytes
namespace Go.Proofs.YtcaobnmfgnbolabDoor
namespace Pie
open Go.RowKit Crn
set_option maxRecDepth 8000

/-- is n within the bound? -/
def bhB (lo hi n : Int) : Bool := decide (lo ≤ n ∧ n ≤ hi)
abbrev bdV (lo hi : Int) : Value := .agg #[.int .i64 lo, .int .i64 hi]
theorem bhas_any (lo hi n : Int) (w : World) :
    Calls Tryd.prog 160 #[bdV lo hi, .int .i64 n] w fun e w' => e = .returned (.bool (bhB lo hi n)) ∧ Below w.heap.size w w' := by
  by_cases h1 : lo ≤ n
  · have d : decide (lo ≤ n) = true := by simp [h1]
    have HT : Hid (bhB lo hi n = decide (n ≤ hi)) := by unfold Hid bhB; rw [decide_eq_decide]; omega
    go_enter Tryd.func160, Tryd.ntmps160
    go_wp2
    go_ret
    exact ⟨by rw [HT.out]; rfl, (Below.refl _ _).alloc (Nat.le_refl _) _⟩
  · have d : decide (lo ≤ n) = false := by simp; omega
    have HT : Hid (bhB lo hi n = false) := by unfold Hid bhB; rw [decide_eq_false_iff_not]; omega
    go_enter Tryd.func160, Tryd.ntmps160
    go_wp2
    go_ret
    exact ⟨by rw [HT.out]; rfl, (Below.refl _ _).alloc (Nat.le_refl _) _⟩

set_option maxHeartbeats 2000000 in
theorem pn_long (t : List UInt8) (lo hi : Int) (w : World) (h : ¬ (1 ≤ t.length ∧ t.length ≤ 2)) (hl : t.length ≤ 4294967281) :
    Calls Tryd.prog 158 #[strV t, bdV lo hi] w fun e w' => e = .returned (.tuple #[.int .i64 0, .bool false]) ∧ Below w.heap.size w w' := by
  have hsz : (⟨t.toArray⟩ : ByteArray).size = t.length := rfl
  by_cases h1 : t.length < 1
  · have g1 : ((⟨t.toArray⟩ : ByteArray).size : Int) < 1 := by omega
    go_enter Tryd.func158, Tryd.ntmps158
    go_wp2
    go_ret2
    exact ⟨rfl, (Below.refl _ _).alloc (Nat.le_refl _) _⟩
  · have g1 : ¬ ((⟨t.toArray⟩ : ByteArray).size : Int) < 1 := by omega
    have g2 : (2 : Int) < ((⟨t.toArray⟩ : ByteArray).size : Int) := by omega
    go_enter Tryd.func158, Tryd.ntmps158
    go_wp2
    go_ret2
    exact ⟨rfl, (Below.refl _ _).alloc (Nat.le_refl _) _⟩
theorem bytes_of (w : World) (A : Array Value) (ta : TypeId) (t : List UInt8) (n : Nat) (hn : t.length = n) : ∃ (W : World) (cap : Nat),
    (convert 9 79 (strV t)).run Tryd.prog (w.alloc (.cells A ta)) = .ok (.slice (some ⟨w.heap.size + 1, 0, none⟩) n cap) W ∧
    (∀ (j : Nat) x, t[j]? = some x → W.cell? ⟨w.heap.size + 1, j, none⟩ = some (.int .u8 x.toNat)) ∧ (∀ o, W.cell? ⟨w.heap.size, o, none⟩ = A[o]?) ∧ Below w.heap.size w W ∧ w.heap.size < W.heap.size := by
  have hz : (w.alloc (.cells A ta)).heap.size = w.heap.size + 1 := by simp
  have h1 := Lib.run_convert_string_bytes (P := Tryd.prog) (w.alloc (.cells A ta)) 9 79 5 ⟨t.toArray⟩ Tryd.underlying9 Tryd.underlying79 Tryd.underlying5
  have hsz : (⟨t.toArray⟩ : ByteArray).size = t.length := rfl
  rw [hz, hsz, hn] at h1
  refine ⟨_, _, h1, fun j x hx => ?_, fun o => ?_, ⟨rfl, rfl, rfl, ?_, fun k hk => ?_⟩, ?_⟩
  · have hj : j < t.length := (List.getElem?_eq_some_iff.1 hx).1
    have := Lib.bytesWorld_cell (w.alloc (.cells A ta)) 5 ⟨t.toArray⟩ j hj
    rw [hz] at this
    rw [this]
    have e : (t.getD j 0) = x := by rw [List.getD_eq_getElem?_getD, hx]; rfl
    show some (Value.int .u8 ((t.getD j 0).toNat)) = _
    rw [e]
  · rw [Lib.bytesWorld_old _ _ _ _ (by simp)]; simp
  · rw [Lib.bytesWorld_size, hz]; omega
  · rw [Lib.bytesWorld_at_old _ _ _ _ (by rw [hz]; omega)]; exact Below.heap_alloc w _ k hk
  · rw [Lib.bytesWorld_size, hz]; omega

/-- where parseNumber stands in a text of two digits -/
def PnR (a b : UInt8) (W : World) (i n : Value) (wr : World) : Prop := wr = W ∧ ((i = .int .i64 0 ∧ n = .int .i64 0) ∨ (i = .int .i64 1 ∧ n = .int .i64 ((a.toNat : Int) - 48) ∧ dg a = true) ∨ (i = .int .i64 2 ∧ n = .int .i64 (10 * ((a.toNat : Int) - 48) + ((b.toNat : Int) - 48)) ∧ dg a = true ∧ dg b = true))
def PoR (a : UInt8) (W : World) (i n : Value) (wr : World) : Prop := wr = W ∧ ((i = .int .i64 0 ∧ n = .int .i64 0) ∨ (i = .int .i64 1 ∧ n = .int .i64 ((a.toNat : Int) - 48) ∧ dg a = true))
theorem dg_yes {a : UInt8} (h : dg a = true) : 48 ≤ (a.toNat : Int) ∧ (a.toNat : Int) ≤ 57 := by unfold dg at h; rw [decide_eq_true_eq] at h; omega
theorem dg_no {a : UInt8} (h : dg a = false) : (a.toNat : Int) < 48 ∨ 57 < (a.toNat : Int) := by unfold dg at h; rw [decide_eq_false_iff_not] at h; omega

/-- what parseNumber tells -/
def pnV (lo hi : Int) (t : List UInt8) : Value := match num2 t with
  | some n => .tuple #[.int .i64 n, .bool (bhB lo hi n)]
  | none => .tuple #[.int .i64 0, .bool false]
theorem pn_no {lo hi : Int} {t : List UInt8} (h : num2 t = none) : Ending.returned (.tuple #[.int .i64 0, .bool false]) = .returned (pnV lo hi t) := by unfold pnV; rw [h]
theorem pn_yes {lo hi n : Int} {t : List UInt8} (h : num2 t = some n) : Ending.returned (.tuple #[.int .i64 n, .bool (bhB lo hi n)]) = .returned (pnV lo hi t) := by unfold pnV; rw [h]
set_option maxHeartbeats 8000000 in
theorem pn_one (a : UInt8) (lo hi : Int) (w : World) :
    Calls Tryd.prog 158 #[strV [a], bdV lo hi] w fun e w' => e = .returned (pnV lo hi [a]) ∧ Below w.heap.size w w' := by
  have hsz : (⟨[a].toArray⟩ : ByteArray).size = 1 := rfl
  obtain ⟨W, cap, hk, hc, hA, hb, hz⟩ := bytes_of w #[.int .i64 lo, .int .i64 hi] 115 [a] 1 rfl
  have k0 := hc 0 a rfl
  have a0 : W.cell? ⟨w.heap.size, 0, none⟩ = some (.int .i64 lo) := hA 0
  have a1 : W.cell? ⟨w.heap.size, 1, none⟩ = some (.int .i64 hi) := hA 1
  have hau : (a.toNat : Int) ≤ 255 := by have := a.toNat_lt; omega
  clear hc hA
  go_enter Tryd.func158, Tryd.ntmps158
  go_wp2
  go_loopw [20, 6] (fun i n wr => PoR a W i n wr) (fun i _ _ => 3 - (intOf i).toNat)
  case atStart => exact ⟨rfl, Or.inl ⟨rfl, rfl⟩⟩
  case round =>
    obtain ⟨h9, h8⟩ := hrel
    have h7 := h9.symm
    clear h9
    subst h7
    rcases h8 with ⟨rfl, rfl⟩ | ⟨rfl, rfl, hd⟩
    · cases hda : dg a
      · rcases dg_no hda with g | g
        · go_wp2
          go_ret2
          exact ⟨pn_no (by simp [num2, hda]), hb⟩
        · go_wp2
          go_ret2
          exact ⟨pn_no (by simp [num2, hda]), hb⟩
      · have g := dg_yes hda
        have HD : Hid (dg a = true) := hda
        clear hda
        go_wp2
        go_roundw
        case rel => exact ⟨rfl, Or.inr ⟨rfl, rfl, HD.out⟩⟩
        case measure => simp [intOf]
    · have g := dg_yes hd
      have c0 := fun w => bhas_any lo hi ((a.toNat : Int) - 48) w
      have HD : Hid (dg a = true) := hd
      clear hd
      go_wp2_with (go_at_call 160; (with_reducible refine (c0 _).mono ?_); rintro e w1 ⟨rfl, hb1⟩)
      go_ret2
      exact ⟨pn_yes (by simp [num2, HD.out]), hb.trans (hb1.mono (Nat.le_of_lt hz))⟩
set_option maxHeartbeats 8000000 in
theorem pn_two (a b : UInt8) (lo hi : Int) (w : World) :
    Calls Tryd.prog 158 #[strV [a, b], bdV lo hi] w fun e w' => e = .returned (pnV lo hi [a, b]) ∧ Below w.heap.size w w' := by
  have hsz : (⟨[a, b].toArray⟩ : ByteArray).size = 2 := rfl
  obtain ⟨W, cap, hk, hc, hA, hb, hz⟩ := bytes_of w #[.int .i64 lo, .int .i64 hi] 115 [a, b] 2 rfl
  have k0 := hc 0 a rfl
  have k1 := hc 1 b rfl
  have hbu : (b.toNat : Int) ≤ 255 := by have := b.toNat_lt; omega
  have a0 : W.cell? ⟨w.heap.size, 0, none⟩ = some (.int .i64 lo) := hA 0
  have a1 : W.cell? ⟨w.heap.size, 1, none⟩ = some (.int .i64 hi) := hA 1
  have hau : (a.toNat : Int) ≤ 255 := by have := a.toNat_lt; omega
  clear hc hA
  go_enter Tryd.func158, Tryd.ntmps158
  go_wp2
  go_loopw [20, 6] (fun i n wr => PnR a b W i n wr) (fun i _ _ => 3 - (intOf i).toNat)
  case atStart => exact ⟨rfl, Or.inl ⟨rfl, rfl⟩⟩
  case round =>
    obtain ⟨h9, h8⟩ := hrel
    have h7 := h9.symm
    clear h9
    subst h7
    rcases h8 with ⟨rfl, rfl⟩ | ⟨rfl, rfl, hd⟩ | ⟨rfl, rfl, hd, he⟩
    · cases hda : dg a
      · rcases dg_no hda with g | g
        · go_wp2
          go_ret2
          exact ⟨pn_no (by simp [num2, hda]), hb⟩
        · go_wp2
          go_ret2
          exact ⟨pn_no (by simp [num2, hda]), hb⟩
      · have g := dg_yes hda
        have HD : Hid (dg a = true) := hda
        clear hda
        go_wp2
        go_roundw
        case rel => exact ⟨rfl, Or.inr (Or.inl ⟨rfl, rfl, HD.out⟩)⟩
        case measure => simp [intOf]
    · have g0 := dg_yes hd
      have HD : Hid (dg a = true) := hd
      clear hd
      cases hdb : dg b
      · rcases dg_no hdb with g | g
        · go_wp2
          go_ret2
          exact ⟨pn_no (by simp [num2, hdb]), hb⟩
        · go_wp2
          go_ret2
          exact ⟨pn_no (by simp [num2, hdb]), hb⟩
      · have g := dg_yes hdb
        have HE : Hid (dg b = true) := hdb
        clear hdb
        go_wp2
        go_roundw
        case rel => exact ⟨rfl, Or.inr (Or.inr ⟨rfl, rfl, HD.out, HE.out⟩)⟩
        case measure => simp [intOf]
    · have g := dg_yes hd
      have g2 := dg_yes he
      have c0 := fun w => bhas_any lo hi (10 * ((a.toNat : Int) - 48) + ((b.toNat : Int) - 48)) w
      have HD : Hid (dg a = true ∧ dg b = true) := ⟨hd, he⟩
      clear hd he
      go_wp2_with (go_at_call 160; (with_reducible refine (c0 _).mono ?_); rintro e w1 ⟨rfl, hb1⟩)
      go_ret2
      exact ⟨pn_yes (by simp [num2, HD.out.1, HD.out.2]), hb.trans (hb1.mono (Nat.le_of_lt hz))⟩
theorem pn_any (t : List UInt8) (lo hi : Int) (w : World) (hl : t.length ≤ 4294967281) :
    Calls Tryd.prog 158 #[strV t, bdV lo hi] w fun e w' => e = .returned (pnV lo hi t) ∧ Below w.heap.size w w' := by
  match t, hl with
  | [], hl => exact (pn_long [] lo hi w (by simp) hl).mono fun e w' ⟨h, g⟩ => ⟨h.trans (pn_no rfl), g⟩
  | [a], _ => exact pn_one a lo hi w
  | [a, b], _ => exact pn_two a b lo hi w
  | a :: b :: c :: r, hl => exact (pn_long (a :: b :: c :: r) lo hi w (by simp) hl).mono fun e w' ⟨h, g⟩ => ⟨h.trans (pn_no rfl), g⟩
end Pie
end Go.Proofs.YtcaobnmfgnbolabDoor
