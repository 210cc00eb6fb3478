/- What the document's way of printing a set needs: a row's end, a row more, a slice that nobody touches. What tideref.Rest answers: the rest that is never below 0. What the document's answer (tideref) says of dates: In, Leap, Long, years, Days, Date: contracts, the leaves first. What the document's answer (tideref) says: Date, Of. What the document's answer (tideref) says of crons: Has, Match, sets. What the document's answer (tideref) says of crons: sets. What the document's answer (tideref) says of a cron: Cron. -/
import Derived.Test.YtcfncgjpbdkagafDoorTextWalks
import Derived.Test.YtcfncgjpbdkagafDoorRows
import Derived.WalkKit
import Derived.ProofKit
import Derived.Test.YtcfncgjpbdkagafDoorPk2
import Derived.Test.YtcfncgjpbdkagafDoorPk1
import Derived.BigQuiet
import Derived.BigRegion
import Derived.Deep.RegionHeld
namespace Go.Proofs.YtcfncgjpbdkagafDoor
namespace RCrn
open Go.RowKit Lai Civ Crn

theorem end_is {s n l : Int} (hs : 0 ≤ s ∧ s ≤ 18446744073709551615) (h60 : ∀ n, inS s n = true → n ≤ 59) (hnl : n ≤ l) (h : ∀ j, n ≤ j → j ≤ l → inS s j = true) (hl : inS s (l + 1) = false) : endOf s n = l := by
  obtain ⟨_, e2, _, e4, e5⟩ := end_spec hs h60 (h n (by omega) hnl)
  unfold endOf
  rcases Int.lt_trichotomy (frm (ntS s) n) (l + 1) with g | g | g
  · rw [h _ (by omega) (by omega)] at e4; cases e4
  · omega
  · rw [e5 (l + 1) (by omega) g] at hl; cases hl
theorem rowsT_step (s : Int) (n : Nat) : rowsT s (n + 1) = rowsT s n ++ (if isSt s (n : Int) = true then [rowT ((n : Int), endOf s n)] else []) := by
  unfold rowsT
  have e : rowsU s (n + 1) = rowsU s n ++ (if isSt s (n : Int) = true then [((n : Int), endOf s n)] else []) := rfl
  rw [e, List.map_append]
  split <;> rfl
/-- a slice of an elder block is as it was -/
theorem own_below {w w' : World} {base B : Nat} {e : TypeId} {size n : Nat} {v : Value} {xs : List Value} (h : w.ownsRow base e size v n xs) (hb : Below B w w') (hv : ∀ g, v.ownBlock = some g → g < B) : w'.ownsRow base e size v n xs := by
  refine ⟨h.1, ?_⟩
  rcases h.2 with h | ⟨g, cap, cur, h1, h2, h3, h4⟩
  · exact Or.inl h
  · refine Or.inr ⟨g, cap, cur, h1, h2, ?_, h4⟩
    rw [hb.block g (hv g (by rw [h1]; rfl))]; exact h3
/-- are all numbers from lo up to n - 1 in the set? -/
theorem full_star {s full lo hi : Int} (hs : 0 ≤ s ∧ s ≤ 18446744073709551615) (hF : 0 ≤ full ∧ full ≤ 18446744073709551615) (hf : ∀ n, inS full n = decide (lo ≤ n ∧ n ≤ hi)) (hsub : ∀ n, inS s n = true → lo ≤ n ∧ n ≤ hi) (b : Bool) (hb : b = true ↔ ∀ j, lo ≤ j → j ≤ hi → inS s j = true) : b = (s == full) := by
  rw [Bool.eq_iff_iff, hb, beq_iff_eq]
  constructor
  · intro h
    refine u_ext _ _ hs hF fun n => ?_
    rw [hf]
    cases g : inS s n
    · rw [eq_comm, decide_eq_false_iff_not]
      intro q
      rw [h n q.1 q.2] at g; cases g
    · rw [eq_comm, decide_eq_true_eq]; exact hsub n g
  · intro e j h1 h2
    rw [e, hf, decide_eq_true_eq]; exact ⟨h1, h2⟩
end RCrn
end Go.Proofs.YtcfncgjpbdkagafDoor
namespace Go.Proofs.YtcfncgjpbdkagafDoor
namespace Rst
open Go.RowKit
theorem ret_int {k : IntKind} {a b : Int} (h : a = b) : Ending.returned (.int k a) = .returned (.int k b) := by rw [h]
end Rst
end Go.Proofs.YtcfncgjpbdkagafDoor
namespace Go.Proofs.YtcfncgjpbdkagafDoor
namespace RCiv
open Cal Civ Rst Go.RowKit

def inB (n lo hi : Int) : Bool := decide (lo ≤ n ∧ n ≤ hi)
theorem tdiv_neg (y s : Int) (h : y ≤ 0) : y.tdiv s = -((-y) / s) := by
  have e := Int.neg_tdiv (a := -y) (b := s)
  rw [Int.neg_neg] at e
  rw [e, Int.tdiv_eq_ediv_of_nonneg (by omega)]

end RCiv
end Go.Proofs.YtcfncgjpbdkagafDoor
namespace Go.Proofs.YtcfncgjpbdkagafDoor
namespace RCiv
open Cal Civ Rst Go.RowKit

theorem in_iff (n lo hi : Int) : inB n lo hi = true ↔ (lo ≤ n ∧ n ≤ hi) := by unfold inB; simp
theorem tdiv_bd (n : Int) (h1 : -1200000 ≤ n) (h2 : n ≤ 1200000) : -3300 ≤ n.tdiv 366 ∧ n.tdiv 366 ≤ 3300 := by
  by_cases c : 0 ≤ n
  · rw [Int.tdiv_eq_ediv_of_nonneg c]; omega
  · rw [tdiv_neg n 366 (by omega)]; omega

theorem yr_lt (y n : Int) (h : ys y ≤ n) (h2 : n ≤ 4000000) : y ≤ 7000 := by
  by_cases c : 7000 < y
  · have := ys_mono 7001 y (by omega)
    have z : ys 7001 = 4018033 := by decide
    omega
  · omega
theorem ret_three {k l m : IntKind} {a b c d x y : Int} (h : a = b) (g : c = d) (i : x = y) : Ending.returned (.tuple #[.int k a, .int l c, .int m x]) = .returned (.tuple #[.int k b, .int l d, .int m y]) := by rw [h, g, i]

theorem tm_in (n : Int) : tmB n = inB n (-100000000000) 100000000000 := rfl
theorem sh_in (n : Int) : shB n = inB n (-900) 900 := rfl

/-- seven cells written one behind another read so -/
theorem set7 {W : World} {B : Nat} {x0 x1 x2 x3 x4 x5 x6 : Value} (v0 v1 v2 v3 v4 v5 v6 : Value) (h0 : W.cell? ⟨B, 0, none⟩ = some x0) (h1 : W.cell? ⟨B, 1, none⟩ = some x1) (h2 : W.cell? ⟨B, 2, none⟩ = some x2) (h3 : W.cell? ⟨B, 3, none⟩ = some x3) (h4 : W.cell? ⟨B, 4, none⟩ = some x4) (h5 : W.cell? ⟨B, 5, none⟩ = some x5) (h6 : W.cell? ⟨B, 6, none⟩ = some x6) :
    let W' := ((((((W.setCell ⟨B, 0, none⟩ v0).setCell ⟨B, 1, none⟩ v1).setCell ⟨B, 2, none⟩ v2).setCell ⟨B, 3, none⟩ v3).setCell ⟨B, 4, none⟩ v4).setCell ⟨B, 5, none⟩ v5).setCell ⟨B, 6, none⟩ v6
    W'.cell? ⟨B, 0, none⟩ = some v0 ∧ W'.cell? ⟨B, 1, none⟩ = some v1 ∧ W'.cell? ⟨B, 2, none⟩ = some v2 ∧ W'.cell? ⟨B, 3, none⟩ = some v3 ∧ W'.cell? ⟨B, 4, none⟩ = some v4 ∧ W'.cell? ⟨B, 5, none⟩ = some v5 ∧ W'.cell? ⟨B, 6, none⟩ = some v6 := by
  simp [go_sem, h0, h1, h2, h3, h4, h5, h6]
end RCiv
end Go.Proofs.YtcfncgjpbdkagafDoor
namespace Go.Proofs.YtcfncgjpbdkagafDoor
namespace RCrn
open Go.RowKit Lai Civ Cal Crn RCiv
set_option maxRecDepth 8000

theorem odd_in (s n : Int) (h0 : 0 ≤ s) (hn : 0 ≤ n ∧ n ≤ 63) : (s / 2 ^ n.toNat % 2 == 1) = inS s n := by
  obtain ⟨S, rfl⟩ := Int.eq_ofNat_of_zero_le h0
  obtain ⟨N, rfl⟩ := Int.eq_ofNat_of_zero_le hn.1
  rw [inS_nat, decide_eq_true (show N ≤ 63 by omega), Bool.true_and, Nat.testBit_eq_decide_div_mod_eq, Int.toNat_natCast]
  rw [show ((S : Int) / 2 ^ N) = ((S / 2 ^ N : Nat) : Int) by simp, Bool.eq_iff_iff]
  simp only [beq_iff_eq, decide_eq_true_eq]
  omega
theorem rm_eq (D W H M N ad aw : Bool) : (N && ((D && W) || ((!ad && !aw) && (D || W))) && (H && M)) = (((if (!ad && !aw) = true then D || W else D && W) && M) && H && N) := by
  revert D W H M N ad aw; decide

end RCrn
end Go.Proofs.YtcfncgjpbdkagafDoor
namespace Go.Proofs.YtcfncgjpbdkagafDoor
namespace RCrn
open Go.RowKit Lai Civ Cal Crn RCiv
set_option maxRecDepth 8000

theorem keep_alloc {W : World} {o : Obj} {a : Addr} {v : Value} (h : W.cell? a = some v) : (W.alloc o).cell? a = some v := by
  rw [World.cell?_alloc_some _ _ _ (by rw [h]; rfl)]; exact h
theorem keep_drew {W : World} {a : Addr} {v : Value} (h : W.cell? a = some v) : W.drew.cell? a = some v := h

theorem new1 (X : World) (D : Array Value) (t : TypeId) (o : Nat) : (X.alloc (.cells D t)).cell? ⟨X.heap.size, o, none⟩ = D[o]? := by simp
theorem new3 (W : World) (A B C : Array Value) (ta tb tc : TypeId) :
    (∀ o, (((W.alloc (.cells A ta)).alloc (.cells B tb)).alloc (.cells C tc)).drew.cell? ⟨W.heap.size, o, none⟩ = A[o]?) ∧
    (∀ o, (((W.alloc (.cells A ta)).alloc (.cells B tb)).alloc (.cells C tc)).drew.cell? ⟨W.heap.size + 1, o, none⟩ = B[o]?) ∧
    (∀ o, (((W.alloc (.cells A ta)).alloc (.cells B tb)).alloc (.cells C tc)).drew.cell? ⟨W.heap.size + 1 + 1, o, none⟩ = C[o]?) ∧
    W.heap.size + 1 + 1 < (((W.alloc (.cells A ta)).alloc (.cells B tb)).alloc (.cells C tc)).drew.heap.size ∧
    Below W.heap.size W (((W.alloc (.cells A ta)).alloc (.cells B tb)).alloc (.cells C tc)).drew := by
  refine ⟨fun o => ?_, fun o => ?_, fun o => ?_, ?_, ?_⟩
  · show (((W.alloc (.cells A ta)).alloc (.cells B tb)).alloc (.cells C tc)).cell? _ = _
    rw [(bcell (balloc _)).1 _ _ (by simp; omega), (bcell (balloc _)).1 _ _ (by simp)]; simp
  · show (((W.alloc (.cells A ta)).alloc (.cells B tb)).alloc (.cells C tc)).cell? _ = _
    rw [(bcell (balloc _)).1 _ _ (by simp)]
    have e : W.heap.size + 1 = (W.alloc (.cells A ta)).heap.size := by simp
    rw [e]; simp
  · show (((W.alloc (.cells A ta)).alloc (.cells B tb)).alloc (.cells C tc)).cell? _ = _
    have e : W.heap.size + 1 + 1 = ((W.alloc (.cells A ta)).alloc (.cells B tb)).heap.size := by simp
    rw [e]; exact new1 _ _ _ _
  · show _ < (((W.alloc (.cells A ta)).alloc (.cells B tb)).alloc (.cells C tc)).heap.size
    simp
  · exact ((((Below.refl _ _).alloc (Nat.le_refl _) _).alloc (by simp) _).alloc (by simp; omega) _).drew

end RCrn
end Go.Proofs.YtcfncgjpbdkagafDoor
namespace Go.Proofs.YtcfncgjpbdkagafDoor
namespace RCrn
open Go.RowKit Lai Civ Cal Crn RCiv
set_option maxRecDepth 8000

/-- the cells of the three slices, and the world's growth -/
def Laid3 (mi ho da mn we : Int) (ad aw : Bool) (p q r : Nat) (w wr : World) : Prop := p < wr.heap.size ∧ q < wr.heap.size ∧ r < wr.heap.size ∧ (∀ o, wr.cell? ⟨p, o, none⟩ = (#[Value.int .u64 mi, .int .u64 ho, .int .u64 da, .int .u64 mn, .int .u64 we])[o]?) ∧ (∀ o, wr.cell? ⟨q, o, none⟩ = (#[Value.int .i64 0, .int .i64 59, .int .i64 0, .int .i64 23, .int .i64 1, .int .i64 31, .int .i64 1, .int .i64 12, .int .i64 0, .int .i64 6])[o]?) ∧ (∀ o, wr.cell? ⟨r, o, none⟩ = (#[Value.bool false, .bool false, .bool ad, .bool false, .bool aw])[o]?) ∧ Below w.heap.size w wr
/-- the state of the round over the numbers -/
def ScanR (S lo hi mi ho da mn we : Int) (ad aw : Bool) (p q r : Nat) (w : World) (u v n : Value) (wr : World) : Prop := ∃ (x y : Bool) (m : Int), u = .bool x ∧ v = .bool y ∧ n = .int .i64 m ∧ 0 ≤ m ∧ m ≤ 64 ∧ Scan S lo hi m x y ∧ Laid3 mi ho da mn we ad aw p q r w wr
theorem laid_drewN {mi ho da mn we : Int} {ad aw : Bool} {p q r : Nat} {w wr : World} (h : Laid3 mi ho da mn we ad aw p q r w wr) (n : Nat) : Laid3 mi ho da mn we ad aw p q r w (wr.drewN n) := by
  obtain ⟨h1, h2, h3, h4, h5, h6, h7⟩ := h
  have b : Below wr.heap.size wr (wr.drewN n) := bdrewN (Below.refl _ _) n
  have s := b.size
  exact ⟨by omega, by omega, by omega, fun o => ((bcell b).1 _ _ h1).trans (h4 o), fun o => ((bcell b).1 _ _ h2).trans (h5 o), fun o => ((bcell b).1 _ _ h3).trans (h6 o), bdrewN h7 n⟩
end RCrn
end Go.Proofs.YtcfncgjpbdkagafDoor
