/- Plans that are the same: slices.Equal of triggers, and the document's SamePlan. -/
import Derived.Test.YtohbnchfjphaeaaGreatDoorPsAr
import Derived.Test.YtohbnchfjphaeaaGreatDoorPsPlanCheck
import Derived.Deep.RegionHeld
namespace Go.Proofs.YtohbnchfjphaeaaGreatDoor
namespace Pln
open Go.RowKit Lai Civ Crn
set_option maxRecDepth 8000
set_option linter.unusedSimpArgs false

def EqR (n : Nat) (w : World) (i : Value) (wr : World) : Prop := ∃ k : Nat, k ≤ n ∧ i = .int .i64 k ∧ Below w.heap.size w wr
set_option maxHeartbeats 4000000 in
theorem eqT (ts : List Tr) (a b : Option Addr) (c1 c2 : Nat) (w : World) (hA : TrsAt w a ts) (hB : TrsAt w b ts) (hl : ts.length ≤ 9223372036854775807) :
  Calls Tryz.prog 29 #[.slice a ts.length c1, .slice b ts.length c2] w fun e w' => e = .returned (.bool true) ∧ Below w.heap.size w w' := by
 go_enter Tryz.func29, Tryz.ntmps29
 go_wp2
 go_loopw [13] (fun i wr => EqR ts.length w i wr) (fun i _ => ts.length - (intOf i).toNat)
 case atStart => exact ⟨0, Nat.zero_le _, rfl, Below.refl _ _⟩
 case round =>
  obtain ⟨k, hk, rfl, hbw⟩ := hrel
  by_cases hlt : k < ts.length
  ·have hlt' : (k : Int) < ts.length := by omega
   obtain ⟨t, hx⟩ : ∃ x, ts[k]? = some x := ⟨ts[k], by simp [hlt]⟩
   obtain ⟨B1, o1, rfl, hl1, h1⟩ := (hA.below hbw (Nat.le_refl _)).elem hx
   obtain ⟨B2, o2, rfl, hl2, h2⟩ := (hB.below hbw (Nat.le_refl _)).elem hx
   have hS : wr.drew.rangeAt B1 (o1 + k * 17) [.int .i64 t.k, .int .i64 t.tg, .int .i64 t.ac, .int .u64 t.a.mi, .int .u64 t.a.ho, .int .u64 t.a.da, .int .u64 t.a.mn, .int .u64 t.a.we, .bool t.a.ad, .bool t.a.aw, .int .u64 t.b.mi, .int .u64 t.b.ho, .int .u64 t.b.da, .int .u64 t.b.mn, .int .u64 t.b.we, .bool t.b.ad, .bool t.b.aw] ∧ wr.drew.rangeAt B2 (o2 + k * 17) [.int .i64 t.k, .int .i64 t.tg, .int .i64 t.ac, .int .u64 t.a.mi, .int .u64 t.a.ho, .int .u64 t.a.da, .int .u64 t.a.mn, .int .u64 t.a.we, .bool t.a.ad, .bool t.a.aw, .int .u64 t.b.mi, .int .u64 t.b.ho, .int .u64 t.b.da, .int .u64 t.b.mn, .int .u64 t.b.we, .bool t.b.ad, .bool t.b.aw] := ⟨range_tr (w := wr) h1, range_tr (w := wr) h2⟩
   clear hA hB hx h1 h2
   go_wp2_with fail
   refine wp_region_held_drew (S := fun w' => w'.rangeAt B1 (o1 + k * 17) [.int .i64 t.k, .int .i64 t.tg, .int .i64 t.ac, .int .u64 t.a.mi, .int .u64 t.a.ho, .int .u64 t.a.da, .int .u64 t.a.mn, .int .u64 t.a.we, .bool t.a.ad, .bool t.a.aw, .int .u64 t.b.mi, .int .u64 t.b.ho, .int .u64 t.b.da, .int .u64 t.b.mn, .int .u64 t.b.we, .bool t.b.ad, .bool t.b.aw] ∧ w'.rangeAt B2 (o2 + k * 17) [.int .i64 t.k, .int .i64 t.tg, .int .i64 t.ac, .int .u64 t.a.mi, .int .u64 t.a.ho, .int .u64 t.a.da, .int .u64 t.a.mn, .int .u64 t.a.we, .bool t.a.ad, .bool t.a.aw, .int .u64 t.b.mi, .int .u64 t.b.ho, .int .u64 t.b.da, .int .u64 t.b.mn, .int .u64 t.b.we, .bool t.b.ad, .bool t.b.aw]) (by kernel_rfl) hS (fun hHeld => ?_)
   clear hS
   refine wpAnyH_take (i := 0) (oi := _) (v := ?_) rfl (by kernel_rfl) (by kernel_rfl) (by kernel_rfl) (fun _ _ _ h => h) (Or.inl ⟨by rfl, ?_⟩) (by assumption) ?_
   rotate_left
   ·intro w' hSw
    clear hSw
    go_simp
    all_goals with_reducible rfl
   (try simp only [Act.put, ar, ag])
   refine wpAnyH_take (i := 1) (oi := _) (v := ?_) rfl (by kernel_rfl) (by kernel_rfl) (by kernel_rfl) (fun _ _ _ h => h) (Or.inl ⟨by rfl, ?_⟩) (by assumption) ?_
   rotate_left
   ·intro w' hSw
    clear hSw
    go_simp
    all_goals with_reducible rfl
   (try simp only [Act.put, ar, ag])
   refine wpAnyH_take (i := 2) (oi := _) (v := ?_) rfl (by kernel_rfl) (by kernel_rfl) (by kernel_rfl) (fun _ _ _ h => h) (Or.inl ⟨by rfl, ?_⟩) (by assumption) ?_
   rotate_left
   ·intro w' hSw
    clear hSw
    go_simp
    all_goals with_reducible rfl
   (try simp only [Act.put, ar, ag])
   refine wpAnyH_take (i := 3) (oi := _) (v := trV t) rfl (by kernel_rfl) (by kernel_rfl) (by kernel_rfl) (fun _ _ _ h => h) (yieldsIf_load_mid (by rfl) 35 (.tmp 18) rfl B1 (o1 + k * 17) (by with_unfolding_all rfl) [.int .i64 t.k, .int .i64 t.tg, .int .i64 t.ac, .int .u64 t.a.mi, .int .u64 t.a.ho, .int .u64 t.a.da, .int .u64 t.a.mn, .int .u64 t.a.we, .bool t.a.ad, .bool t.a.aw, .int .u64 t.b.mi, .int .u64 t.b.ho, .int .u64 t.b.da, .int .u64 t.b.mn, .int .u64 t.b.we, .bool t.b.ad, .bool t.b.aw] _ (fun w h => h.1) Tryz.underlying35 rfl (by kernel_rfl)) (by assumption) ?_
   (try simp only [Act.put, ar, ag])
   refine wpAnyH_take (i := 4) (oi := _) (v := ?_) rfl (by kernel_rfl) (by kernel_rfl) (by kernel_rfl) (fun _ _ _ h => h) (Or.inl ⟨by rfl, ?_⟩) (by assumption) ?_
   rotate_left
   ·intro w' hSw
    clear hSw
    go_simp
    all_goals with_reducible rfl
   (try simp only [Act.put, ar, ag])
   refine wpAnyH_take (i := 5) (oi := _) (v := ?_) rfl (by kernel_rfl) (by kernel_rfl) (by kernel_rfl) (fun _ _ _ h => h) (Or.inl ⟨by rfl, ?_⟩) (by assumption) ?_
   rotate_left
   ·intro w' hSw
    clear hSw
    go_simp
    all_goals with_reducible rfl
   (try simp only [Act.put, ar, ag])
   refine wpAnyH_take (i := 6) (oi := _) (v := ?_) rfl (by kernel_rfl) (by kernel_rfl) (by kernel_rfl) (fun _ _ _ h => h) (Or.inl ⟨by rfl, ?_⟩) (by assumption) ?_
   rotate_left
   ·intro w' hSw
    clear hSw
    go_simp
    all_goals with_reducible rfl
   (try simp only [Act.put, ar, ag])
   refine wpAnyH_take (i := 7) (oi := _) (v := trV t) rfl (by kernel_rfl) (by kernel_rfl) (by kernel_rfl) (fun _ _ _ h => h) (yieldsIf_load_mid (by rfl) 35 (.tmp 22) rfl B2 (o2 + k * 17) (by with_unfolding_all rfl) [.int .i64 t.k, .int .i64 t.tg, .int .i64 t.ac, .int .u64 t.a.mi, .int .u64 t.a.ho, .int .u64 t.a.da, .int .u64 t.a.mn, .int .u64 t.a.we, .bool t.a.ad, .bool t.a.aw, .int .u64 t.b.mi, .int .u64 t.b.ho, .int .u64 t.b.da, .int .u64 t.b.mn, .int .u64 t.b.we, .bool t.b.ad, .bool t.b.aw] _ (fun w h => h.2) Tryz.underlying35 rfl (by kernel_rfl)) (by assumption) ?_
   (try simp only [Act.put, ar, ag])
   refine wpAnyH_take (i := 8) (oi := _) (v := ?_) rfl (by kernel_rfl) (by kernel_rfl) (by kernel_rfl) (fun _ _ _ h => h) (Or.inl ⟨by rfl, ?_⟩) (by assumption) ?_
   rotate_left
   ·intro w' hSw
    clear hSw
    go_simp
    all_goals with_reducible rfl
   (try simp only [Act.put, ar, ag])
   refine wpAnyH_done (by kernel_rfl) ?_ _
   clear hHeld
   go_wp2
   go_roundw
   case rel => exact ⟨k + 1, by omega, rfl, hbw.drew⟩
   case measure => simp [intOf]; omega
  ·obtain rfl : k = ts.length := by omega
   clear hA hB
   go_wp2
   go_ret
   exact ⟨rfl, hbw⟩
set_option maxHeartbeats 4000000 in
theorem same_any (p : Pd) (ts : List Tr) (a b : Option Addr) (c1 c2 : Nat) (w : World) (hA : TrsAt w a ts) (hB : TrsAt w b ts) (hl : ts.length ≤ 9223372036854775807) :
  Calls Tryz.prog 6 #[planV p (.slice a ts.length c1), planV p (.slice b ts.length c2)] w fun e w' => e = .returned (.bool true) ∧ Below w.heap.size w w' := by
 have c := fun w' (hb : Below w.heap.size w w') => (eqT ts a b c1 c2 w' (hA.below hb (Nat.le_refl _)) (hB.below hb (Nat.le_refl _)) hl).mono fun e w'' h => (⟨h.1, hb.trans (h.2.mono hb.size)⟩ : _ ∧ Below w.heap.size w w'')
 have hb0 := fun o1 o2 => ((Below.refl w.heap.size w).alloc (Nat.le_refl _) o1).alloc (o := o2) (by simp)
 clear hA hB
 go_enter Tryz.func6, Tryz.ntmps6
 go_wp2_with (go_at_call 29; (with_reducible refine (c _ (hb0 _ _)).mono ?_); rintro e w1 ⟨rfl, hb1⟩)
 go_ret
 exact ⟨rfl, hb1⟩
end Pln
end Go.Proofs.YtohbnchfjphaeaaGreatDoor
