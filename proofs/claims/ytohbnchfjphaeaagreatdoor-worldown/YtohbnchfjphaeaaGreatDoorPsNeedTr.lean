/- A trigger as it lies in memory: its cells, and how a walk takes it as a whole. What the functions of package need answer: sums and counts of lags, the METRIC, the tolerance. What the functions of package need answer: the METRIC, what a reading needs, the tolerance. -/
import Derived.Test.YtohbnchfjphaeaaGreatDoorPsCronMatch
import Derived.Test.YtohbnchfjphaeaaGreatDoorPsCronPlain
import Derived.Test.YtohbnchfjphaeaaGreatDoorPsNumWalks
import Derived.Deep.MidRow
import Derived.Test.YtohbnchfjphaeaaGreatDoorPsAr
namespace Go.Proofs.YtohbnchfjphaeaaGreatDoor
namespace Ned
open Go.RowKit Lai Civ Crn Pln
set_option maxRecDepth 8000

structure TrAt (w : World) (b o : Nat) (t : Tr) : Prop where
 c0 : w.cell? ⟨b, o, none⟩ = some (.int .i64 t.k)
 c1 : w.cell? ⟨b, o + 1, none⟩ = some (.int .i64 t.tg)
 c2 : w.cell? ⟨b, o + 2, none⟩ = some (.int .i64 t.ac)
 c3 : w.cell? ⟨b, o + 3, none⟩ = some (.int .u64 t.a.mi)
 c4 : w.cell? ⟨b, o + 4, none⟩ = some (.int .u64 t.a.ho)
 c5 : w.cell? ⟨b, o + 5, none⟩ = some (.int .u64 t.a.da)
 c6 : w.cell? ⟨b, o + 6, none⟩ = some (.int .u64 t.a.mn)
 c7 : w.cell? ⟨b, o + 7, none⟩ = some (.int .u64 t.a.we)
 c8 : w.cell? ⟨b, o + 8, none⟩ = some (.bool t.a.ad)
 c9 : w.cell? ⟨b, o + 9, none⟩ = some (.bool t.a.aw)
 c10 : w.cell? ⟨b, o + 10, none⟩ = some (.int .u64 t.b.mi)
 c11 : w.cell? ⟨b, o + 11, none⟩ = some (.int .u64 t.b.ho)
 c12 : w.cell? ⟨b, o + 12, none⟩ = some (.int .u64 t.b.da)
 c13 : w.cell? ⟨b, o + 13, none⟩ = some (.int .u64 t.b.mn)
 c14 : w.cell? ⟨b, o + 14, none⟩ = some (.int .u64 t.b.we)
 c15 : w.cell? ⟨b, o + 15, none⟩ = some (.bool t.b.ad)
 c16 : w.cell? ⟨b, o + 16, none⟩ = some (.bool t.b.aw)
theorem range_tr {w : World} {b o : Nat} {t : Tr} (h : TrAt w b o t) : w.rangeAt b o [.int .i64 t.k, .int .i64 t.tg, .int .i64 t.ac, .int .u64 t.a.mi, .int .u64 t.a.ho, .int .u64 t.a.da, .int .u64 t.a.mn, .int .u64 t.a.we, .bool t.a.ad, .bool t.a.aw, .int .u64 t.b.mi, .int .u64 t.b.ho, .int .u64 t.b.da, .int .u64 t.b.mn, .int .u64 t.b.we, .bool t.b.ad, .bool t.b.aw] := by
 intro j v hv
 match j, hv with
 | 0, hv => simp at hv; subst hv; simpa using h.c0
 | 1, hv => simp at hv; subst hv; simpa using h.c1
 | 2, hv => simp at hv; subst hv; simpa using h.c2
 | 3, hv => simp at hv; subst hv; simpa using h.c3
 | 4, hv => simp at hv; subst hv; simpa using h.c4
 | 5, hv => simp at hv; subst hv; simpa using h.c5
 | 6, hv => simp at hv; subst hv; simpa using h.c6
 | 7, hv => simp at hv; subst hv; simpa using h.c7
 | 8, hv => simp at hv; subst hv; simpa using h.c8
 | 9, hv => simp at hv; subst hv; simpa using h.c9
 | 10, hv => simp at hv; subst hv; simpa using h.c10
 | 11, hv => simp at hv; subst hv; simpa using h.c11
 | 12, hv => simp at hv; subst hv; simpa using h.c12
 | 13, hv => simp at hv; subst hv; simpa using h.c13
 | 14, hv => simp at hv; subst hv; simpa using h.c14
 | 15, hv => simp at hv; subst hv; simpa using h.c15
 | 16, hv => simp at hv; subst hv; simpa using h.c16
 | j + 17, hv => simp at hv
theorem wp_tr {ops : Array Oper} {rest : List Oper} {d : Option Nat} {x : Operand} {ps : String} {af : Array Edge} {A : Act} {Q : Exit → Act → World → Prop} {w : World} {b o : Nat} {t : Tr} (h : TrAt w b o t) (hx : A.eval x = .pointer (some ⟨b, o, none⟩))
  (g : wpList Tryz.prog ops Q rest (A.put d (trV t)) w) : wpList Tryz.prog ops Q ({ dst := d, op := .load 35 x, type := 35, pos := ps, after := af, guard := none } :: rest) A w :=
 wpList_load_mid rfl 35 x rfl b o hx [.int .i64 t.k, .int .i64 t.tg, .int .i64 t.ac, .int .u64 t.a.mi, .int .u64 t.a.ho, .int .u64 t.a.da, .int .u64 t.a.mn, .int .u64 t.a.we, .bool t.a.ad, .bool t.a.aw, .int .u64 t.b.mi, .int .u64 t.b.ho, .int .u64 t.b.da, .int .u64 t.b.mn, .int .u64 t.b.we, .bool t.b.ad, .bool t.b.aw] _ (range_tr h) Tryz.underlying35 rfl (by kernel_rfl) g
theorem TrAt.new (w : World) (t : Tr) (ta : TypeId) : TrAt (w.alloc (.cells (trC t) ta)) w.heap.size 0 t := by
 constructor <;> simp
theorem TrAt.below {w w' : World} {b o n : Nat} {t : Tr} (h : TrAt w b o t) (hb : Below n w w') (hn : b < n) : TrAt w' b o t := by
 constructor
 ·rw [hb.cell hn]; exact h.c0
 ·rw [hb.cell hn]; exact h.c1
 ·rw [hb.cell hn]; exact h.c2
 ·rw [hb.cell hn]; exact h.c3
 ·rw [hb.cell hn]; exact h.c4
 ·rw [hb.cell hn]; exact h.c5
 ·rw [hb.cell hn]; exact h.c6
 ·rw [hb.cell hn]; exact h.c7
 ·rw [hb.cell hn]; exact h.c8
 ·rw [hb.cell hn]; exact h.c9
 ·rw [hb.cell hn]; exact h.c10
 ·rw [hb.cell hn]; exact h.c11
 ·rw [hb.cell hn]; exact h.c12
 ·rw [hb.cell hn]; exact h.c13
 ·rw [hb.cell hn]; exact h.c14
 ·rw [hb.cell hn]; exact h.c15
 ·rw [hb.cell hn]; exact h.c16
theorem boxB {w w1 : World} {A : Array Value} {ta : TypeId} (hb : Below (w.alloc (.cells A ta)).heap.size (w.alloc (.cells A ta)) w1) : (∀ o, w1.cell? ⟨w.heap.size, o, none⟩ = A[o]?) ∧ w.heap.size < w1.heap.size ∧ Below w.heap.size w w1 :=
 ⟨fun o => by rw [hb.cell (p := ⟨w.heap.size, o, none⟩) (by simp)]; simp, Nat.lt_of_lt_of_le (by simp) hb.size, (balloc _).trans (hb.mono (by simp))⟩
theorem range_span {w : World} {b : Nat} {t : Tr} (h : TrAt w b 0 t) : w.rangeAt b 3 [.int .u64 t.a.mi, .int .u64 t.a.ho, .int .u64 t.a.da, .int .u64 t.a.mn, .int .u64 t.a.we, .bool t.a.ad, .bool t.a.aw, .int .u64 t.b.mi, .int .u64 t.b.ho, .int .u64 t.b.da, .int .u64 t.b.mn, .int .u64 t.b.we, .bool t.b.ad, .bool t.b.aw] := by
 intro j v hv
 match j, hv with
 | 0, hv => simp at hv; subst hv; simpa using h.c3
 | 1, hv => simp at hv; subst hv; simpa using h.c4
 | 2, hv => simp at hv; subst hv; simpa using h.c5
 | 3, hv => simp at hv; subst hv; simpa using h.c6
 | 4, hv => simp at hv; subst hv; simpa using h.c7
 | 5, hv => simp at hv; subst hv; simpa using h.c8
 | 6, hv => simp at hv; subst hv; simpa using h.c9
 | 7, hv => simp at hv; subst hv; simpa using h.c10
 | 8, hv => simp at hv; subst hv; simpa using h.c11
 | 9, hv => simp at hv; subst hv; simpa using h.c12
 | 10, hv => simp at hv; subst hv; simpa using h.c13
 | 11, hv => simp at hv; subst hv; simpa using h.c14
 | 12, hv => simp at hv; subst hv; simpa using h.c15
 | 13, hv => simp at hv; subst hv; simpa using h.c16
 | j + 14, hv => simp at hv
theorem wp_span {ops : Array Oper} {rest : List Oper} {d : Option Nat} {x : Operand} {ps : String} {af : Array Edge} {A : Act} {Q : Exit → Act → World → Prop} {w : World} {b : Nat} {t : Tr} (h : TrAt w b 0 t) (hx : A.eval x = .pointer (some ⟨b, 3, none⟩))
  (g : wpList Tryz.prog ops Q rest (A.put d (spanV t.a t.b)) w) : wpList Tryz.prog ops Q ({ dst := d, op := .load 33 x, type := 33, pos := ps, after := af, guard := none } :: rest) A w :=
 wpList_load_mid rfl 33 x rfl b 3 hx [.int .u64 t.a.mi, .int .u64 t.a.ho, .int .u64 t.a.da, .int .u64 t.a.mn, .int .u64 t.a.we, .bool t.a.ad, .bool t.a.aw, .int .u64 t.b.mi, .int .u64 t.b.ho, .int .u64 t.b.da, .int .u64 t.b.mn, .int .u64 t.b.we, .bool t.b.ad, .bool t.b.aw] _ (range_span h) Tryz.underlying33 rfl (by kernel_rfl) g
end Ned
namespace Ned
open Go.RowKit Plain Num Pln Civ Crn Lai
set_option maxRecDepth 8000

def IntsAt (w : World) (a : Option Addr) (len : Nat) (X : Nat → Int) : Prop :=
 ∀ i, i < len → ∃ b off, a = some ⟨b, off, none⟩ ∧ b < w.heap.size ∧ w.cell? ⟨b, off + i, none⟩ = some (.int .i64 (X i)) ∧ -9223372036854775808 ≤ X i ∧ X i ≤ 9223372036854775807
theorem IntsAt.below {w w' : World} {a : Option Addr} {len n : Nat} {X : Nat → Int} (h : IntsAt w a len X) (hb : Below n w w') (hn : w.heap.size ≤ n) : IntsAt w' a len X := by
 intro i hi
 obtain ⟨b, off, rfl, hlt, hc, hx⟩ := h i hi
 refine ⟨b, off, rfl, Nat.lt_of_lt_of_le hlt hb.size, ?_, hx⟩
 rw [← hc]
 exact hb.cell (Nat.lt_of_lt_of_le hlt hn)
theorem max_atz (n : Int) : max n 0 = atz n := by unfold atz; split <;> omega
def SmR (X : Nat → Int) (len : Nat) (w : World) (s i : Value) (wr : World) : Prop := ∃ k : Nat, k ≤ len ∧ s = .int .i64 (sumF X k) ∧ i = .int .i64 k ∧ wr = w
def CnR (X : Nat → Int) (len : Nat) (w : World) (s i : Value) (wr : World) : Prop := ∃ k : Nat, k ≤ len ∧ s = .int .i64 (cntF X k : Int) ∧ i = .int .i64 k ∧ wr = w

set_option maxHeartbeats 2000000 in
theorem sum_any (a : Option Addr) (len cap : Nat) (X : Nat → Int) (w : World) (hm : len ≤ maxLen) (hX : IntsAt w a len X) :
  Calls Tryz.prog 153 #[.slice a len cap] w fun e w' => e = .returned (.int .i64 (sumF X len)) ∧ w' = w := by
 have ca := fun x y w => add_any x y w
 unfold maxLen at hm
 go_enter Tryz.func153, Tryz.ntmps153
 go_wp2
 go_loopw [3, 8] (fun s i wr => SmR X len w s i wr) (fun _ i _ => len - (intOf i).toNat)
 case atStart => exact ⟨0, by omega, rfl, rfl, rfl⟩
 case round =>
  obtain ⟨k, hk, rfl, rfl, hwr⟩ := hrel
  have h8 := hwr.symm
  clear hwr
  subst h8
  by_cases hlt : k < len
  ·have hlt' : (k : Int) < len := by omega
   obtain ⟨b, off, rfl, hbl, cX, bX⟩ := hX k hlt
   have ea : max (X k) 0 = atz (X k) := max_atz _
   have es : clip (clip (sumF X k) + clip (atz (X k))) = sumF X (k + 1) := rfl
   go_wp2_with (go_at_call 56; (with_reducible refine (ca _ _ _).mono ?_); rintro e w1 ⟨rfl, h9⟩; have h8 := h9.symm; clear h9; subst h8)
   go_roundw
   case rel => exact ⟨k + 1, by omega, rfl, rfl, rfl⟩
   case measure => simp [intOf]; omega
  ·obtain rfl : k = len := by omega
   go_wp2
   go_ret
   exact ⟨rfl, rfl⟩
set_option maxHeartbeats 2000000 in
theorem cnt_any (a : Option Addr) (len cap : Nat) (X : Nat → Int) (w : World) (hm : len ≤ maxLen) (hX : IntsAt w a len X) :
  Calls Tryz.prog 151 #[.slice a len cap] w fun e w' => e = .returned (.int .i64 (cntF X len : Int)) ∧ w' = w := by
 unfold maxLen at hm
 go_enter Tryz.func151, Tryz.ntmps151
 go_wp2
 go_loopw [3, 8] (fun s i wr => CnR X len w s i wr) (fun _ i _ => len - (intOf i).toNat)
 case atStart => exact ⟨0, by omega, rfl, rfl, rfl⟩
 case round =>
  obtain ⟨k, hk, rfl, rfl, hwr⟩ := hrel
  have h8 := hwr.symm
  clear hwr
  subst h8
  by_cases hlt : k < len
  ·have hlt' : (k : Int) < len := by omega
   obtain ⟨b, off, rfl, hbl, cX, bX⟩ := hX k hlt
   have hc := cntF_le X k
   have hs : cntF X (k + 1) = if 0 < X k then cntF X k + 1 else cntF X k := rfl
   by_cases hp : 0 < X k
   ·rw [if_pos hp] at hs
    have HS : Hid (cntF X (k + 1) = cntF X k + 1) := hs
    clear hs
    go_wp2
    go_roundw
    case rel => exact ⟨k + 1, by omega, by rw [HS.out]; rfl, rfl, rfl⟩
    case measure => simp [intOf]; omega
   ·rw [if_neg hp] at hs
    have HS : Hid (cntF X (k + 1) = cntF X k) := hs
    clear hs
    go_wp2
    go_roundw
    case rel => exact ⟨k + 1, by omega, by rw [HS.out], rfl, rfl⟩
    case measure => simp [intOf]; omega
  ·obtain rfl : k = len := by omega
   go_wp2
   go_ret
   exact ⟨rfl, rfl⟩
end Ned
namespace Ned
open Go.RowKit Plain Num Pln Civ Crn Lai
set_option maxRecDepth 8000

abbrev rdV (f : Bool) (a : Option Addr) (len cap : Nat) : Value := .agg #[.bool f, .slice a len cap]
theorem ret_i {a b : Int} (h : a = b) : Ending.returned (.int .i64 a) = .returned (.int .i64 b) := by rw [h]
theorem ret_b {a b : Bool} (h : a = b) : Ending.returned (.bool a) = .returned (.bool b) := by rw [h]

set_option maxHeartbeats 2000000 in
theorem counts_any (t : Tr) (w : World) :
  Calls Tryz.prog 144 #[trV t] w fun e w' => e = .returned (.bool (decide (t.k = 1 ∨ t.k = 2))) ∧ Below w.heap.size w w' := by
 obtain ⟨k, tg, ac, a, b⟩ := t
 by_cases h1 : k = 1
 ·subst h1
  go_enter Tryz.func144, Tryz.ntmps144
  go_wp2
  go_ret
  exact ⟨rfl, balloc _⟩
 ·have d1 : (k == 1) = false := by rw [beq_eq_false_iff_ne]; exact h1
  by_cases h2 : k = 2
  ·subst h2
   go_enter Tryz.func144, Tryz.ntmps144
   go_wp2
   go_ret
   exact ⟨rfl, balloc _⟩
  ·have d2 : (k == 2) = false := by rw [beq_eq_false_iff_ne]; exact h2
   have HE : Hid (decide (k = 1 ∨ k = 2) = false) := by unfold Hid; simp [h1, h2]
   go_enter Tryz.func144, Tryz.ntmps144
   go_wp2
   go_ret
   exact ⟨ret_b HE.out.symm, balloc _⟩

set_option maxHeartbeats 2000000 in
theorem metric_any (t : Tr) (f : Bool) (a : Option Addr) (len cap : Nat) (X : Nat → Int) (w : World) (hm : len ≤ maxLen) (hX : IntsAt w a len X) :
  Calls Tryz.prog 148 #[trV t, rdV f a len cap] w fun e w' => e = .returned (.int .i64 (metF t.k len X)) ∧ Below w.heap.size w w' := by
 have hX2 := fun o p => hX.below (balloc2 o p) (Nat.le_refl _)
 have cs := fun w hX => sum_any a len cap X w hm hX
 unfold maxLen at hm
 obtain ⟨k, tg, ac, ka, kb⟩ := t
 by_cases h1 : k = 1
 ·subst h1
  have HE : Hid (metF 1 len X = sumF X len) := by unfold Hid metF; rw [if_pos rfl]
  clear hX
  go_enter Tryz.func148, Tryz.ntmps148
  go_wp2_with (go_at_call 153; (with_reducible refine (cs _ (hX2 _ _)).mono ?_); rintro e w1 ⟨rfl, h9⟩; have h8 := h9.symm; clear h9; subst h8)
  go_ret
  exact ⟨ret_i HE.out.symm, balloc2 _ _⟩
 ·have d1 : (k == 1) = false := by rw [beq_eq_false_iff_ne]; exact h1
  by_cases h0 : len = 0
  ·subst h0
   have HE : Hid (metF k 0 X = 0) := by unfold Hid metF; rw [if_neg h1, if_pos rfl]
   clear hX hX2 cs
   go_enter Tryz.func148, Tryz.ntmps148
   go_wp2
   go_ret
   exact ⟨ret_i HE.out.symm, balloc2 _ _⟩
  ·have HE : Hid (metF k len X = atz (X 0)) := by unfold Hid metF; rw [if_neg h1, if_neg h0]
   have d0 : ((len : Int) == 0) = false := by rw [beq_eq_false_iff_ne]; omega
   have hlt : (0 : Int) < len := by omega
   obtain ⟨b, off, rfl, hbl, cX, bX⟩ := hX 0 (by omega)
   have ea : max (X 0) 0 = atz (X 0) := max_atz _
   have cX2 := fun o p => (bcell (balloc2 (w := w) o p)).1 b (off + 0) hbl
   rw [cX] at cX2
   simp only [Nat.add_zero] at cX2
   clear hX hX2 cs
   go_enter Tryz.func148, Tryz.ntmps148
   go_wp2
   go_ret
   exact ⟨ret_i HE.out.symm, balloc2 _ _⟩
set_option maxHeartbeats 2000000 in
theorem near_any (m tk tol : Int) (w : World) (h1 : 0 ≤ m) (h2 : m ≤ 9223372036854775807) (h3 : 0 ≤ tk) (h4 : tk ≤ 1000000000000000) :
  Calls Tryz.prog 147 #[.int .i64 m, .int .i64 tk, .int .i64 tol] w fun e w' => e = .returned (.bool (nearF m tk tol)) ∧ w' = w := by
 have cs := fun w => share_any tk tol w
 go_enter Tryz.func147, Tryz.ntmps147
 go_wp2_with (go_at_call 143; (with_reducible refine (cs _).mono ?_); rintro e w1 ⟨rfl, h9⟩; have h8 := h9.symm; clear h9; subst h8)
 go_ret
 exact ⟨rfl, rfl⟩
end Ned
end Go.Proofs.YtohbnchfjphaeaaGreatDoor
