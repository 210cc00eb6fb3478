/- What the document's answer (tideref) says of a cron's text: ReadCron, begun. ReadCron: where it stands. ReadCron: five words. -/
import Derived.Test.YtcaobnmfgnbolabDoorRefItem
import Derived.Test.YtcaobnmfgnbolabDoorPk11
import Derived.Test.YtcaobnmfgnbolabDoorParseCron
namespace Go.Proofs.YtcaobnmfgnbolabDoor
namespace Pie
open Go.RowKit Crn Lai Civ RCrn
set_option maxRecDepth 8000

/-- the set u, and the numbers of a row that are below m -/
def OnUp (u a st m v : Int) : Prop := ∃ x, Upper a st m x ∧ v = bits .or .u64 u x
theorem onUp_start {u a st : Int} (hu : 0 ≤ u ∧ u ≤ 18446744073709551615) : OnUp u a st a u := by
  refine ⟨0, ⟨by decide, fun n => ?_⟩, ?_⟩
  · rw [inS_zero, eq_comm, decide_eq_false_iff_not]; omega
  · refine u_ext _ _ hu (u_or _ _ hu (by decide)) fun n => ?_
    rw [in_or _ _ _ hu (by decide), inS_zero, Bool.or_false]
theorem onUp_step {u a st m v : Int} (hu : 0 ≤ u ∧ u ≤ 18446744073709551615) (h : OnUp u a st m v) (hst : 1 ≤ st) (ham : a ≤ m) (hm : 0 ≤ m ∧ m ≤ 63) (hmod : (m - a) % st = 0) : OnUp u a st (m + st) (bits .or .u64 v (IntKind.u64.wrap (2 ^ m.toNat))) := by
  obtain ⟨x, hx, rfl⟩ := h
  have h1 := upper_step hx hst ham hm hmod
  refine ⟨_, h1, ?_⟩
  have hy := uw (2 ^ m.toNat)
  generalize IntKind.u64.wrap (2 ^ m.toNat) = y at hy h1
  refine u_ext _ _ (u_or _ _ (u_or _ _ hu hx.1) hy) (u_or _ _ hu h1.1) fun n => ?_
  rw [in_or _ _ _ (u_or _ _ hu hx.1) hy, in_or _ _ _ hu hx.1, in_or _ _ _ hu h1.1, in_or _ _ _ hx.1 hy, Bool.or_assoc]
theorem onUp_end {l : List (Int × Int × Int)} {u a b st m v : Int} (hl : SetIs l u) (h : OnUp u a st m v) (hbm : b < m) (hmb : m ≤ b + st) (hmod : (m - a) % st = 0) : SetIs (l ++ [(a, b, st)]) v := by
  obtain ⟨x, hx, rfl⟩ := h
  exact setIs_add hl (upper_end hx hbm hmb hmod)
theorem onUp_u {u a st m v : Int} (hu : 0 ≤ u ∧ u ≤ 18446744073709551615) (h : OnUp u a st m v) : 0 ≤ v ∧ v ≤ 18446744073709551615 := by
  obtain ⟨x, hx, rfl⟩ := h
  exact u_or _ _ hu hx.1

theorem rc_long (s : List UInt8) (w : World) (h : 300 < s.length) :
    Calls Tryd.prog 87 #[strV s] w fun e w' => ParseAns s e ∧ Below w.heap.size w w' := by
  have hsz : (⟨s.toArray⟩ : ByteArray).size = s.length := rfl
  have g : (300 : Int) < ((⟨s.toArray⟩ : ByteArray).size : Int) := by omega
  go_enter Tryd.func87, Tryd.ntmps87
  go_wp2
  refine bodyPost_ret (v := .tuple #[cron0, .int .i64 2]) (by simp [results, Tryd.results87, go_sem]) rfl ⟨Or.inl ⟨h, rfl⟩, ?_⟩
  exact (Below.refl _ _).alloc (Nat.le_refl _) _
set_option maxHeartbeats 4000000 in
theorem rc_count (s : List UInt8) (w : World) (h : s.length ≤ 300) (hp : (pieces 32 s).length ≠ 5) :
    Calls Tryd.prog 87 #[strV s] w fun e w' => ParseAns s e ∧ Below w.heap.size w w' := by
  have hsz : (⟨s.toArray⟩ : ByteArray).size = s.length := rfl
  have g : ¬ (300 : Int) < ((⟨s.toArray⟩ : ByteArray).size : Int) := by omega
  have cS : ∀ w : World, Calls Tryd.prog 46 #[strV s, .int .u8 32] w fun e w' => ∃ B cv, e = .returned (.slice (some ⟨B, 0, none⟩) (pieces 32 s).length cv) ∧ w.heap.size ≤ B ∧ Texts w' B (pieces 32 s) ∧ Below w.heap.size w w' := fun w => rpieces s 32 w (by omega)
  have HA : Hid (ParseAns s (.returned (.tuple #[cron0, .int .i64 3]))) := Or.inr (Or.inl ⟨h, Or.inl hp, rfl⟩)
  have hne : (((pieces 32 s).length : Int) != 5) = true := by simp; omega
  have hpl : (pieces 32 s).length ≤ 1001 := by rw [pieces_len]; have := List.count_le_length (a := (32 : UInt8)) (l := s); omega
  generalize pieces 32 s = ps at *
  obtain ⟨w0, hw⟩ : ∃ w0, w0 = w.alloc (.cells (#[Value.int .u64 0, .int .u64 0, .int .u64 0, .int .u64 0, .int .u64 0, .bool false, .bool false]) 24) := ⟨_, rfl⟩
  have hC0 : ∀ o, w0.cell? ⟨w.heap.size, o, none⟩ = (#[Value.int .u64 0, .int .u64 0, .int .u64 0, .int .u64 0, .int .u64 0, .bool false, .bool false])[o]? := fun o => by rw [hw]; simp
  have hF0 : ∀ o, w0.frozen? ⟨w.heap.size, o, none⟩ = false := fun o => by rw [hw]; simp
  have hN : w0.heap.size = w.heap.size + 1 := by rw [hw]; simp
  have hz0 : w.heap.size < w0.heap.size := by omega
  have hw0 : Below w.heap.size w w0 := by rw [hw]; exact (Below.refl _ _).alloc (Nat.le_refl _) _
  go_enter Tryd.func87, Tryd.ntmps87
  go_wp2_with (go_at_call 46; rw [← hw]; (with_reducible refine (cS _).mono ?_); rintro e w1 ⟨B1, k1, rfl, hB1, hT1, hb1⟩; have hC1 := cells_on hC0 hb1 hz0; have hF1 := free_on hF0 hb1 hz0; have hw1 : Below w.heap.size w w1 := hw0.trans (hb1.mono hw0.size); have f0 := hF1 0; have f1 := hF1 1; have f2 := hF1 2; have f3 := hF1 3; have f4 := hF1 4; have f5 := hF1 5; have f6 := hF1 6)
  exact finP (B := w.heap.size) rfl rfl rfl (set7c (W := w1) (B := w.heap.size) (x0 := Value.int .u64 0) (x1 := Value.int .u64 0) (x2 := Value.int .u64 0) (x3 := Value.int .u64 0) (x4 := Value.int .u64 0) (x5 := Value.bool false) (x6 := Value.bool false) (.int .u64 0) (.int .u64 0) (.int .u64 0) (.int .u64 0) (.int .u64 0) (.bool false) (.bool false) (hC1 0) (hC1 1) (hC1 2) (hC1 3) (hC1 4) (hC1 5) (hC1 6)) HA.out ((((((((hw1.setCell (Nat.le_refl _) _).setCell (Nat.le_refl _) _).setCell (Nat.le_refl _) _).setCell (Nat.le_refl _) _).setCell (Nat.le_refl _) _).setCell (Nat.le_refl _) _).setCell (Nat.le_refl _) _))
end Pie
end Go.Proofs.YtcaobnmfgnbolabDoor
namespace Go.Proofs.YtcaobnmfgnbolabDoor
namespace Pie
open Go.RowKit Crn Lai Civ RCrn
set_option maxRecDepth 8000

/-- what ReadCron does not turn while it reads -/
structure RcS (ps : List (List UInt8)) (w : World) (B C q D : Nat) (W : World) : Prop where
  box : ∀ o, W.cell? ⟨w.heap.size, o, none⟩ = (#[Value.int .u64 0, .int .u64 0, .int .u64 0, .int .u64 0, .int .u64 0, .bool false, .bool false])[o]?
  fbox : ∀ o, W.frozen? ⟨w.heap.size, o, none⟩ = false
  tx : Texts W B ps
  lim : ∀ o, W.cell? ⟨q, o, none⟩ = (#[Value.int .i64 0, .int .i64 59, .int .i64 0, .int .i64 23, .int .i64 1, .int .i64 31, .int .i64 1, .int .i64 12, .int .i64 0, .int .i64 6])[o]?
  ptr : ∀ o, W.cell? ⟨D, o, none⟩ = (#[Value.pointer (some ⟨C, 0, none⟩), .pointer (some ⟨C, 1, none⟩), .pointer (some ⟨C, 2, none⟩), .pointer (some ⟨C, 3, none⟩), .pointer (some ⟨C, 4, none⟩)])[o]?
  fC : ∀ o, W.frozen? ⟨C, o, none⟩ = false
  zN : w.heap.size < C
  zB : B < C
  zq : C ≠ q
  zD : C < D
  zq2 : q < W.heap.size
  zD2 : D < W.heap.size
  bel : Below w.heap.size w W
/-- the sets as they stand -/
structure FcS (C : Nat) (f : Nat → Int) (W : World) : Prop where
  set : ∀ j, j < 5 → W.cell? ⟨C, j, none⟩ = some (.int .u64 (f j))
  ad : W.cell? ⟨C, 5, none⟩ = some (.bool false)
  aw : W.cell? ⟨C, 6, none⟩ = some (.bool false)
theorem RcS.on {ps : List (List UInt8)} {w W W' : World} {B C q D : Nat} (h : RcS ps w B C q D W) (hb : Below W.heap.size W W') : RcS ps w B C q D W' := by
  have hN : w.heap.size < W.heap.size := by have := h.zN; have := h.zD; have := h.zD2; omega
  have hC : C < W.heap.size := Nat.lt_trans h.zD h.zD2
  exact ⟨cells_on h.box hb hN, free_on h.fbox hb hN, h.tx.below hb (Nat.lt_trans h.zB hC), cells_on h.lim hb h.zq2, cells_on h.ptr hb h.zD2, free_on h.fC hb hC, h.zN, h.zB, h.zq, h.zD, Nat.lt_of_lt_of_le h.zq2 hb.size, Nat.lt_of_lt_of_le h.zD2 hb.size, h.bel.trans (hb.mono h.bel.size)⟩
theorem FcS.on {C : Nat} {f : Nat → Int} {W W' : World} (h : FcS C f W) (hb : Below W.heap.size W W') (hC : C < W.heap.size) : FcS C f W' :=
  ⟨fun j hj => (hb.cell (p := ⟨C, j, none⟩) hC).trans (h.set j hj), (hb.cell (p := ⟨C, 5, none⟩) hC).trans h.ad, (hb.cell (p := ⟨C, 6, none⟩) hC).trans h.aw⟩
theorem set_off {W : World} {a b : Addr} {v : Value} (h : b ≠ a) : (W.setCell b v).cell? a = W.cell? a := World.cell?_setCell_other _ _ _ _ h
theorem FcS.put {C i : Nat} {f : Nat → Int} {W : World} {v : Int} (h : FcS C f W) (hi : i < 5) : FcS C (fun x => if x = i then v else f x) (W.setCell ⟨C, i, none⟩ (.int .u64 v)) := by
  have ne : ∀ j, j ≠ i → (⟨C, i, none⟩ : Addr) ≠ ⟨C, j, none⟩ := fun j hj e => hj (congrArg Addr.off e).symm
  refine ⟨fun j hj => ?_, (set_off (ne 5 (by omega))).trans h.ad, (set_off (ne 6 (by omega))).trans h.aw⟩
  by_cases e : j = i
  · subst e
    have hc := h.set j hj
    simp [go_sem, hc]
  · rw [set_off (ne j e), h.set j hj]
    simp [e]
theorem RcS.put {ps : List (List UInt8)} {w W : World} {B C q D i : Nat} {v : Value} (h : RcS ps w B C q D W) : RcS ps w B C q D (W.setCell ⟨C, i, none⟩ v) := by
  have ne : ∀ b o, b ≠ C → (⟨C, i, none⟩ : Addr) ≠ ⟨b, o, none⟩ := fun b o hb e => hb (congrArg Addr.block e).symm
  have hN := h.zN; have hB := h.zB; have hq := h.zq; have hD := h.zD
  have sz : (W.setCell ⟨C, i, none⟩ v).heap.size = W.heap.size := by simp
  have bC : Below C W (W.setCell ⟨C, i, none⟩ v) := (Below.refl C W).setCell (Nat.le_refl _) _
  refine ⟨fun o => (set_off (ne _ o (by omega))).trans (h.box o), fun o => ?_, h.tx.below bC hB, fun o => (set_off (ne _ o (by omega))).trans (h.lim o), fun o => (set_off (ne _ o (by omega))).trans (h.ptr o), fun o => ?_, h.zN, h.zB, h.zq, h.zD, by rw [sz]; exact h.zq2, by rw [sz]; exact h.zD2, h.bel.setCell (by show w.heap.size ≤ C; omega) _⟩
  · have := h.fbox o; simp [this]
  · have := h.fC o; simp [this]
theorem rc_start {ps : List (List UInt8)} {w w1 w2 : World} {B q : Nat} {tc td : TypeId} (hC1 : ∀ o, w1.cell? ⟨w.heap.size, o, none⟩ = (#[Value.int .u64 0, .int .u64 0, .int .u64 0, .int .u64 0, .int .u64 0, .bool false, .bool false])[o]?) (hF1 : ∀ o, w1.frozen? ⟨w.heap.size, o, none⟩ = false) (hT1 : Texts w1 B ps) (hw1 : Below w.heap.size w w1) (hz1 : w.heap.size < w1.heap.size)
    (hb2 : Below (w1.alloc (.cells (#[Value.int .u64 0, .int .u64 0, .int .u64 0, .int .u64 0, .int .u64 0, .bool false, .bool false]) tc)).heap.size (w1.alloc (.cells (#[Value.int .u64 0, .int .u64 0, .int .u64 0, .int .u64 0, .int .u64 0, .bool false, .bool false]) tc)) w2) (hq2 : q < w2.heap.size) (hcq : ∀ o, w2.cell? ⟨q, o, none⟩ = (#[Value.int .i64 0, .int .i64 59, .int .i64 0, .int .i64 23, .int .i64 1, .int .i64 31, .int .i64 1, .int .i64 12, .int .i64 0, .int .i64 6])[o]?) :
    RcS ps w B w1.heap.size q w2.heap.size (w2.alloc (.cells (#[Value.pointer (some ⟨w1.heap.size, 0, none⟩), .pointer (some ⟨w1.heap.size, 1, none⟩), .pointer (some ⟨w1.heap.size, 2, none⟩), .pointer (some ⟨w1.heap.size, 3, none⟩), .pointer (some ⟨w1.heap.size, 4, none⟩)]) td)) ∧ FcS w1.heap.size (fun _ => 0) (w2.alloc (.cells (#[Value.pointer (some ⟨w1.heap.size, 0, none⟩), .pointer (some ⟨w1.heap.size, 1, none⟩), .pointer (some ⟨w1.heap.size, 2, none⟩), .pointer (some ⟨w1.heap.size, 3, none⟩), .pointer (some ⟨w1.heap.size, 4, none⟩)]) td)) := by
  have bA : Below w1.heap.size w1 (w1.alloc (.cells (#[Value.int .u64 0, .int .u64 0, .int .u64 0, .int .u64 0, .int .u64 0, .bool false, .bool false]) tc)) := (Below.refl _ _).alloc (Nat.le_refl _) _
  have bB : Below w1.heap.size w1 w2 := bA.trans (hb2.mono (by simp))
  have bD : Below w2.heap.size w2 (w2.alloc (.cells (#[Value.pointer (some ⟨w1.heap.size, 0, none⟩), .pointer (some ⟨w1.heap.size, 1, none⟩), .pointer (some ⟨w1.heap.size, 2, none⟩), .pointer (some ⟨w1.heap.size, 3, none⟩), .pointer (some ⟨w1.heap.size, 4, none⟩)]) td)) := (Below.refl _ _).alloc (Nat.le_refl _) _
  have hs : w1.heap.size < w2.heap.size := by have := hb2.size; simp at this; omega
  have hcC : ∀ o, w2.cell? ⟨w1.heap.size, o, none⟩ = (#[Value.int .u64 0, .int .u64 0, .int .u64 0, .int .u64 0, .int .u64 0, .bool false, .bool false])[o]? := cells_on (W := w1.alloc (.cells (#[Value.int .u64 0, .int .u64 0, .int .u64 0, .int .u64 0, .int .u64 0, .bool false, .bool false]) tc)) (fun o => by simp) hb2 (by simp)
  have hfC : ∀ o, w2.frozen? ⟨w1.heap.size, o, none⟩ = false := free_on (W := w1.alloc (.cells (#[Value.int .u64 0, .int .u64 0, .int .u64 0, .int .u64 0, .int .u64 0, .bool false, .bool false]) tc)) (fun o => by simp) hb2 (by simp)
  have hne : w1.heap.size ≠ q := fun e => by
    have h1 := hcC 0; have h2 := hcq 0
    rw [← e, h1] at h2
    simp at h2
  have hzD : w2.heap.size < (w2.alloc (.cells (#[Value.pointer (some ⟨w1.heap.size, 0, none⟩), .pointer (some ⟨w1.heap.size, 1, none⟩), .pointer (some ⟨w1.heap.size, 2, none⟩), .pointer (some ⟨w1.heap.size, 3, none⟩), .pointer (some ⟨w1.heap.size, 4, none⟩)]) td)).heap.size := by simp
  have cC := cells_on hcC bD hs
  exact ⟨⟨cells_on (cells_on hC1 bB hz1) bD (by omega), free_on (free_on hF1 bB hz1) bD (by omega), (hT1.below bB hT1.1).below bD (by have := hT1.1; omega), cells_on hcq bD hq2, fun o => by simp, free_on hfC bD hs, hz1, hT1.1, hne, hs, by omega, hzD, (hw1.trans (bB.mono (by omega))).trans (bD.mono (by omega))⟩,
    ⟨fun j hj => by rw [cC j]; match j, hj with | 0, _ => rfl | 1, _ => rfl | 2, _ => rfl | 3, _ => rfl | 4, _ => rfl, cC 5, cC 6⟩⟩
/-- where ReadCron stands: k words are read -/
def RcO (ps : List (List UInt8)) (w : World) (B C q D : Nat) (i : Value) (wr : World) : Prop := ∃ (k : Nat) (f : Nat → Int) (l : Nat → List (Int × Int × Int)), k ≤ 5 ∧ i = .int .i64 k ∧ (∀ j, j < k → wItems ps j = some (l j) ∧ SetIs (l j) (f j)) ∧ (∀ j, k ≤ j → f j = 0) ∧ RcS ps w B C q D wr ∧ FcS C f wr
/-- where it stands in word i: k items are read -/
def RcM (ps its : List (List UInt8)) (w : World) (B C q D N i : Nat) (lo hi : Int) (f : Nat → Int) (kv : Value) (wr : World) : Prop := ∃ (k : Nat) (v : Int) (l : List (Int × Int × Int)), k ≤ its.length ∧ kv = .int .i64 k ∧ wordS lo hi (its.take k) = some l ∧ SetIs l v ∧ C < N ∧ N < wr.heap.size ∧ Texts wr N its ∧ RcS ps w B C q D wr ∧ FcS C (fun x => if x = i then v else f x) wr
/-- where it stands in an item: j numbers are set -/
def RcI (ps its : List (List UInt8)) (w : World) (B C q D N G i K : Nat) (u a st : Int) (f : Nat → Int) (jv : Value) (wr : World) : Prop := ∃ (j : Nat) (v : Int), j ≤ K ∧ jv = .int .i64 j ∧ OnUp u a st (a + st * (j : Int)) v ∧ C < N ∧ C < G ∧ G < wr.heap.size ∧ Texts wr N its ∧ (∀ x, x < K → wr.cell? ⟨G, x, none⟩ = some (.int .i64 (a + st * (x : Int)))) ∧ RcS ps w B C q D wr ∧ FcS C (fun x => if x = i then v else f x) wr
theorem ritem_case (t : List UInt8) (lo hi : Int) (h0 : 0 ≤ lo) (h1 : lo ≤ hi) (h2 : hi ≤ 63) (hl : t.length ≤ 1000) : (itemS lo hi t = none ∧ ∀ w, Calls Tryd.prog 113 #[strV t, .int .i64 lo, .int .i64 hi] w fun e w' => e = .returned (.slice none 0 0) ∧ Below w.heap.size w w') ∨
    ∃ a b st : Int, itemS lo hi t = some (a, b, st) ∧ ∀ w, Calls Tryd.prog 113 #[strV t, .int .i64 lo, .int .i64 hi] w fun e w' => ∃ (k g cw : Nat), e = .returned (.slice (some ⟨g, 0, none⟩) k cw) ∧ 1 ≤ k ∧ (k : Int) ≤ b + st - a ∧ b < a + st * (k : Int) ∧ a + st * (k : Int) ≤ b + st ∧ w.heap.size ≤ g ∧ g < w'.heap.size ∧ (∀ j, j < k → w'.cell? ⟨g, j, none⟩ = some (.int .i64 (a + st * (j : Int)))) ∧ Below w.heap.size w w' := by
  cases h : itemS lo hi t with
  | none =>
    refine Or.inl ⟨rfl, fun w => (ritem t lo hi w h0 h1 h2 hl).mono ?_⟩
    rintro e w' ⟨⟨_, he⟩ | ⟨a, b, st, k, g, cw, g1, _⟩, hb⟩
    · exact ⟨he, hb⟩
    · rw [h] at g1; cases g1
  | some p =>
    obtain ⟨a, b, st⟩ := p
    refine Or.inr ⟨a, b, st, rfl, fun w => (ritem t lo hi w h0 h1 h2 hl).mono ?_⟩
    rintro e w' ⟨⟨g1, _⟩ | ⟨a', b', st', k, g, cw, g1, g2, g3, g4, g5, g6, g7, g8, g9⟩, hb⟩
    · rw [h] at g1; cases g1
    · rw [h] at g1; cases g1
      exact ⟨k, g, cw, g2, g3, g4, g5, g6, g7, g8, g9, hb⟩
theorem lim_at {ps : List (List UInt8)} {w W : World} {B C q D k : Nat} (h : RcS ps w B C q D W) (hk : k < 5) : W.cell? ⟨q, k * 2, none⟩ = some (.int .i64 (blo k)) ∧ W.cell? ⟨q, k * 2 + 1, none⟩ = some (.int .i64 (bhi k)) := by
  rw [h.lim, h.lim]
  have : k = 0 ∨ k = 1 ∨ k = 2 ∨ k = 3 ∨ k = 4 := by omega
  rcases this with rfl | rfl | rfl | rfl | rfl <;> exact ⟨rfl, rfl⟩
theorem ptr_at {ps : List (List UInt8)} {w W : World} {B C q D k : Nat} (h : RcS ps w B C q D W) (hk : k < 5) : W.cell? ⟨D, k, none⟩ = some (.pointer (some ⟨C, k, none⟩)) := by
  rw [h.ptr]
  have : k = 0 ∨ k = 1 ∨ k = 2 ∨ k = 3 ∨ k = 4 := by omega
  rcases this with rfl | rfl | rfl | rfl | rfl <;> rfl
theorem num_bd {a b st : Int} {j K : Nat} (ha : 0 ≤ a) (hb : b ≤ 63) (hst : 1 ≤ st) (h : a + st * (K : Int) ≤ b + st) (hj : j < K) : 0 ≤ a + st * (j : Int) ∧ a + st * (j : Int) ≤ 63 ∧ a ≤ a + st * (j : Int) ∧ (a + st * (j : Int) - a) % st = 0 := by
  have h1 : 0 ≤ st * (j : Int) := Int.mul_nonneg (by omega) (by omega)
  have h2 : st * ((j : Int) + 1) ≤ st * (K : Int) := Int.mul_le_mul_of_nonneg_left (by omega) (by omega)
  rw [Int.mul_add, Int.mul_one] at h2
  refine ⟨by omega, by omega, by omega, ?_⟩
  rw [show a + st * (j : Int) - a = st * (j : Int) by omega]
  exact Int.mul_emod_right _ _
end Pie
end Go.Proofs.YtcaobnmfgnbolabDoor
namespace Go.Proofs.YtcaobnmfgnbolabDoor
namespace Pie
open Go.RowKit Crn Lai Civ RCrn
set_option maxRecDepth 8000

theorem Texts.put {W : World} {N C i : Nat} {v : Value} {l : List (List UInt8)} (h : Texts W N l) (hne : N ≠ C) : Texts (W.setCell ⟨C, i, none⟩ v) N l :=
  ⟨by simpa using h.1, fun j x hx => (set_off (fun e => hne (congrArg Addr.block e).symm)).trans (h.2 j x hx)⟩
theorem RcS.drew {ps : List (List UInt8)} {w W : World} {B C q D : Nat} (h : RcS ps w B C q D W) : RcS ps w B C q D W.drew := h.on (Below.refl _ _).drew
theorem FcS.drew {C : Nat} {f : Nat → Int} {W : World} (h : FcS C f W) : FcS C f W.drew := ⟨h.set, h.ad, h.aw⟩
theorem Texts.drew {W : World} {N : Nat} {l : List (List UInt8)} (h : Texts W N l) : Texts W.drew N l := ⟨h.1, h.2⟩
/-- one number of an item is set -/
theorem rcI_step {ps its : List (List UInt8)} {w wr : World} {B C q D N G i K j : Nat} {u a st v2 v3 n : Int} {f : Nat → Int} (hi : i < 5) (hjK : j < K) (hCN : C < N) (hCG : C < G) (hGz : G < wr.heap.size) (hT : Texts wr N its) (hG : ∀ x, x < K → wr.cell? ⟨G, x, none⟩ = some (.int .i64 (a + st * (x : Int))))
    (hS : RcS ps w B C q D wr) (hF : FcS C (fun x => if x = i then v2 else f x) wr) (hon : OnUp u a st (n + st) v3) (hmn : n + st = a + st * ((j + 1 : Nat) : Int)) (jv : Value) (hjv : jv = .int .i64 ((j + 1 : Nat) : Int)) :
    RcI ps its w B C q D N G i K u a st f jv (wr.setCell ⟨C, i, none⟩ (.int .u64 v3)).drew := by
  have hff : (fun x => if x = i then v3 else (if x = i then v2 else f x)) = (fun x => if x = i then v3 else f x) := funext fun x => by by_cases e : x = i <;> simp [e]
  have hF3 := hF.put (v := v3) hi
  rw [hff] at hF3
  refine ⟨j + 1, v3, by omega, hjv, by rw [← hmn]; exact hon, hCN, hCG, ?_, (hT.put (by omega)).drew, fun x hx => ?_, hS.put.drew, hF3.drew⟩
  · show G < (wr.setCell ⟨C, i, none⟩ (.int .u64 v3)).heap.size
    simpa using hGz
  · show (wr.setCell ⟨C, i, none⟩ (.int .u64 v3)).cell? _ = _
    exact (set_off (fun e => by have := congrArg Addr.block e; simp at this; omega)).trans (hG x hx)
/-- an item is done -/
theorem rcM_step {ps its : List (List UInt8)} {w wr : World} {B C q D N i m K : Nat} {lo hi a b st v v2 : Int} {f : Nat → Int} {l2 : List (Int × Int × Int)} {y : List UInt8} (hml : m < its.length) (hy : its[m]? = some y) (hCN : C < N) (hT : Texts wr N its)
    (hS : RcS ps w B C q D wr) (hF : FcS C (fun x => if x = i then v2 else f x) wr) (hw : wordS lo hi (its.take m) = some l2) (hset : SetIs l2 v) (hn : itemS lo hi y = some (a, b, st)) (hon : OnUp v a st (a + st * (K : Int)) v2) (h3 : b < a + st * (K : Int)) (h4 : a + st * (K : Int) ≤ b + st) (kv : Value) (hkv : kv = .int .i64 ((m + 1 : Nat) : Int)) :
    RcM ps its w B C q D N i lo hi f kv wr := by
  refine ⟨m + 1, v2, l2 ++ [(a, b, st)], by omega, hkv, ?_, onUp_end hset hon h3 h4 ?_, hCN, hT.1, hT, hS, hF⟩
  · rw [List.take_add_one, hy]
    exact wordS_add lo hi _ l2 y _ hw hn
  · rw [show a + st * (K : Int) - a = st * (K : Int) by omega]
    exact Int.mul_emod_right _ _
/-- a word is done -/
theorem rcO_step {ps : List (List UInt8)} {w wr : World} {B C q D k : Nat} {f : Nat → Int} {v : Int} {l : Nat → List (Int × Int × Int)} {l2 : List (Int × Int × Int)} (hlt : k < 5) (hit : ∀ j, j < k → wItems ps j = some (l j) ∧ SetIs (l j) (f j)) (hz : ∀ j, k ≤ j → f j = 0)
    (hw : wItems ps k = some l2) (hset : SetIs l2 v) (hS : RcS ps w B C q D wr) (hF : FcS C (fun x => if x = k then v else f x) wr) (i : Value) (hi : i = .int .i64 ((k + 1 : Nat) : Int)) : RcO ps w B C q D i wr := by
  refine ⟨k + 1, fun x => if x = k then v else f x, fun x => if x = k then l2 else l x, by omega, hi, fun j hj => ?_, fun j hj => ?_, hS, hF⟩
  · dsimp only
    by_cases e : j = k
    · rw [if_pos e, if_pos e, e]; exact ⟨hw, hset⟩
    · rw [if_neg e, if_neg e]; exact hit j (by omega)
  · dsimp only
    rw [if_neg (by omega)]; exact hz j (by omega)

set_option maxHeartbeats 8000000 in
theorem rc_five (s : List UInt8) (w : World) (h : s.length ≤ 300) (hp : (pieces 32 s).length = 5) :
    Calls Tryd.prog 87 #[strV s] w fun e w' => ParseAns s e ∧ Below w.heap.size w w' := by
  have hsz : (⟨s.toArray⟩ : ByteArray).size = s.length := rfl
  have g : ¬ (300 : Int) < ((⟨s.toArray⟩ : ByteArray).size : Int) := by omega
  have cS : ∀ w : World, Calls Tryd.prog 46 #[strV s, .int .u8 32] w fun e w' => ∃ B cv, e = .returned (.slice (some ⟨B, 0, none⟩) (pieces 32 s).length cv) ∧ w.heap.size ≤ B ∧ Texts w' B (pieces 32 s) ∧ Below w.heap.size w w' := fun w => rpieces s 32 w (by omega)
  have HW : Hid ((∃ i, i < 5 ∧ wItems (pieces 32 s) i = none) → ParseAns s (.returned (.tuple #[cron0, .int .i64 3]))) := fun g => Or.inr (Or.inl ⟨h, Or.inr g, rfl⟩)
  have HR : Hid (∀ v, Right (pieces 32 s) v → ParseAns s (.returned (.tuple #[v, .int .i64 0]))) := fun v g => Or.inr (Or.inr ⟨h, hp, v, g, rfl⟩)
  have HP : Hid (∀ p ∈ pieces 32 s, p.length ≤ 1000) := fun p hp => by have := pieces_sub 32 s p hp; omega
  have hne : (((pieces 32 s).length : Int) != 5) = false := by rw [hp]; rfl
  generalize pieces 32 s = ps at *
  obtain ⟨w0, hw⟩ : ∃ w0, w0 = w.alloc (.cells (#[Value.int .u64 0, .int .u64 0, .int .u64 0, .int .u64 0, .int .u64 0, .bool false, .bool false]) 24) := ⟨_, rfl⟩
  have hC0 : ∀ o, w0.cell? ⟨w.heap.size, o, none⟩ = (#[Value.int .u64 0, .int .u64 0, .int .u64 0, .int .u64 0, .int .u64 0, .bool false, .bool false])[o]? := fun o => by rw [hw]; simp
  have hF0 : ∀ o, w0.frozen? ⟨w.heap.size, o, none⟩ = false := fun o => by rw [hw]; simp
  have hz0 : w.heap.size < w0.heap.size := by rw [hw]; simp
  have hw0 : Below w.heap.size w w0 := by rw [hw]; exact (Below.refl _ _).alloc (Nat.le_refl _) _
  go_enter Tryd.func87, Tryd.ntmps87
  go_wp2_with (first
    | (go_at_call 46; rw [← hw]; (with_reducible refine (cS _).mono ?_); rintro e w1 ⟨B, k1, rfl, hB1, hT1, hb1⟩; have hC1 := cells_on hC0 hb1 hz0; have hF1 := free_on hF0 hb1 hz0; have hw1 : Below w.heap.size w w1 := hw0.trans (hb1.mono hw0.size); have hz1 : w.heap.size < w1.heap.size := Nat.lt_of_lt_of_le hz0 hb1.size)
    | (go_at_call 59; (with_reducible refine (rsets_any _ _ _ _ _ _ _ _).mono ?_); rintro e w2 ⟨p, q, r, rfl, hp2, hq2, hr2, hcp, hcq, hcr, hb2⟩))
  obtain ⟨hS, hFc⟩ := rc_start (td := 159) hC1 hF1 hT1 hw1 hz1 hb2 hq2 hcq
  obtain ⟨W, hW⟩ : ∃ W, W = w2.alloc (.cells (#[Value.pointer (some ⟨w1.heap.size, 0, none⟩), .pointer (some ⟨w1.heap.size, 1, none⟩), .pointer (some ⟨w1.heap.size, 2, none⟩), .pointer (some ⟨w1.heap.size, 3, none⟩), .pointer (some ⟨w1.heap.size, 4, none⟩)]) 159) := ⟨_, rfl⟩
  rw [← hW] at hS hFc ⊢
  clear hW hC1 hF1 hT1 hw1 hz1 hb1 hb2 hcp hcq hcr hp2 hq2 hr2 hB1 hC0 hF0 hw0 hz0 hw cS
  generalize w1.heap.size = C at *
  generalize w2.heap.size = D at *
  go_loopw [10] (fun i wr => RcO ps w B C q D i wr) (fun i _ => 5 - (intOf i).toNat)
  case atStart => exact ⟨0, fun _ => 0, fun _ => [], by omega, rfl, (fun j hj => absurd hj (by omega)), (fun _ _ => rfl), hS, hFc⟩
  case round =>
    clear hS hFc
    obtain ⟨k, f, l, hk, rfl, hit0, hz, hS, hFc⟩ := hrel
    have HIt : Hid (∀ j, j < k → wItems ps j = some (l j) ∧ SetIs (l j) (f j)) := hit0
    clear hit0
    by_cases hlt : k < 5
    · have hlt' : (k : Int) < 5 := by omega
      obtain ⟨x, hx⟩ : ∃ x, ps[k]? = some x := ⟨ps[k], by simp [hp, hlt]⟩
      have cx := hS.tx.2 k x hx
      have HX : Hid (ps.getD k [] = x) := by unfold Hid; rw [List.getD_eq_getElem?_getD, hx]; rfl
      have hlx := HP.out x (List.mem_of_getElem? hx)
      have cI : ∀ w : World, Calls Tryd.prog 46 #[strV x, .int .u8 44] w fun e w' => ∃ B cv, e = .returned (.slice (some ⟨B, 0, none⟩) (pieces 44 x).length cv) ∧ w.heap.size ≤ B ∧ Texts w' B (pieces 44 x) ∧ Below w.heap.size w w' := fun w => rpieces x 44 w (by omega)
      have HI : Hid (∀ l', wordS (blo k) (bhi k) (pieces 44 x) = l' → wItems ps k = l') := fun l' e => by unfold wItems; rw [HX.out]; exact e
      have HPx : Hid (∀ p ∈ pieces 44 x, p.length ≤ 1000) := fun p hp => by have := pieces_sub 44 x p hp; omega
      have hil : (pieces 44 x).length ≤ 1001 := by rw [pieces_len]; have := List.count_le_length (a := (44 : UInt8)) (l := x); omega
      generalize pieces 44 x = its at *
      go_wp2_with (go_at_call 46; (with_reducible refine (cI _).mono ?_); rintro e w3 ⟨N, k3, rfl, hN3, hT3, hb3⟩)
      have hCw : C < wr.heap.size := Nat.lt_trans hS.zD hS.zD2
      have hS3 := hS.on hb3
      have hF3 := hFc.on hb3 hCw
      have hff : (fun x => if x = k then (0 : Int) else f x) = f := funext fun x => by
        by_cases e : x = k
        · subst e; simp [hz x (Nat.le_refl _)]
        · simp [e]
      clear cI hS hFc hb3
      go_loopw [12] (fun kv wr => RcM ps its w B C q D N k (blo k) (bhi k) f kv wr) (fun kv _ => its.length - (intOf kv).toNat)
      case atStart => exact ⟨0, 0, [], by omega, rfl, rfl, setIs_nil, by omega, hT3.1, hT3, hS3, by rw [hff]; exact hF3⟩
      case round =>
        clear hT3 hS3 hF3
        obtain ⟨m, v, l2, hm, rfl, hwd, hset, hCN, hNz, hTr, hSr, hFr⟩ := hrel
        have HWd : Hid (wordS (blo k) (bhi k) (its.take m) = some l2) := hwd
        have HSet : Hid (SetIs l2 v) := hset
        clear hwd hset
        by_cases hml : m < its.length
        · obtain ⟨y, hy⟩ : ∃ y, its[m]? = some y := ⟨its[m], by simp [hml]⟩
          have cy := hTr.2 m y hy
          have hml' : (m : Int) < (its.length : Int) := by omega
          obtain ⟨q0, q1⟩ := lim_at hSr hlt
          obtain ⟨r0, r1, r2⟩ := bl_bd hlt
          rcases ritem_case y (blo k) (bhi k) r0 r1 r2 (HPx.out y (List.mem_of_getElem? hy)) with ⟨hn, cT⟩ | ⟨a, b, st, hn, cT⟩
          · have HN : Hid (∃ i, i < 5 ∧ wItems ps i = none) := ⟨k, hlt, HI.out _ (wordS_not _ _ its y (List.mem_of_getElem? hy) hn)⟩
            clear hn
            generalize blo k = lo at *
            generalize bhi k = hi at *
            go_wp2_with fail
            go_region_held (fun w' => w'.cell? ⟨N, m, none⟩ = some (strV y) ∧ w'.cell? ⟨q, k * 2, none⟩ = some (.int .i64 lo) ∧ w'.cell? ⟨q, k * 2 + 1, none⟩ = some (.int .i64 hi)) (first | exact ⟨cy4, q04, q14⟩ | exact ⟨cy, q0, q1⟩) ((go_at_call 113; (with_reducible refine (cT _).mono ?_); rintro e w4 ⟨rfl, hb4'⟩; have hb4 : Below wr.heap.size wr w4 := ⟨hb4'.os, hb4'.tape, hb4'.output, hb4'.size, hb4'.block⟩; have cy4 := (hb4.cell (p := ⟨N, m, none⟩) hNz).trans cy; have q04 := (hb4.cell (p := ⟨q, k * 2, none⟩) hSr.zq2).trans q0; have q14 := (hb4.cell (p := ⟨q, k * 2 + 1, none⟩) hSr.zq2).trans q1))
            all_goals
            have hS4 := hSr.on hb4
            have hC4 := hS4.box
            have hF4 := hS4.fbox
            have f0 := hF4 0; have f1 := hF4 1; have f2 := hF4 2; have f3 := hF4 3; have f4 := hF4 4; have f5 := hF4 5; have f6 := hF4 6
            go_wp2
            exact finP (B := w.heap.size) rfl rfl rfl (set7c (W := w4) (B := w.heap.size) (x0 := Value.int .u64 0) (x1 := Value.int .u64 0) (x2 := Value.int .u64 0) (x3 := Value.int .u64 0) (x4 := Value.int .u64 0) (x5 := Value.bool false) (x6 := Value.bool false) (.int .u64 0) (.int .u64 0) (.int .u64 0) (.int .u64 0) (.int .u64 0) (.bool false) (.bool false) (hC4 0) (hC4 1) (hC4 2) (hC4 3) (hC4 4) (hC4 5) (hC4 6)) (HW.out HN.out) (((((((hS4.bel.setCell (Nat.le_refl _) _).setCell (Nat.le_refl _) _).setCell (Nat.le_refl _) _).setCell (Nat.le_refl _) _).setCell (Nat.le_refl _) _).setCell (Nat.le_refl _) _).setCell (Nat.le_refl _) _)
          · have HN : Hid (itemS (blo k) (bhi k) y = some (a, b, st)) := hn
            clear hn
            generalize blo k = lo at *
            generalize bhi k = hi at *
            go_wp2_with fail
            go_region_held (fun w' => w'.cell? ⟨N, m, none⟩ = some (strV y) ∧ w'.cell? ⟨q, k * 2, none⟩ = some (.int .i64 lo) ∧ w'.cell? ⟨q, k * 2 + 1, none⟩ = some (.int .i64 hi)) (first | exact ⟨cy4, q04, q14⟩ | exact ⟨cy, q0, q1⟩) ((go_at_call 113; (with_reducible refine (cT _).mono ?_); rintro e w4 ⟨K, G, cw, rfl, k1', k2', k3', k4', k5', k6', k7', hb4'⟩; have hb4 : Below wr.heap.size wr w4 := ⟨hb4'.os, hb4'.tape, hb4'.output, hb4'.size, hb4'.block⟩; have cy4 := (hb4.cell (p := ⟨N, m, none⟩) hNz).trans cy; have q04 := (hb4.cell (p := ⟨q, k * 2, none⟩) hSr.zq2).trans q0; have q14 := (hb4.cell (p := ⟨q, k * 2 + 1, none⟩) hSr.zq2).trans q1))
            all_goals
            have hS4 := hSr.on hb4
            have hF4 := hFr.on hb4 (Nat.lt_trans hSr.zD hSr.zD2)
            go_wp2
            have hCG : C < G := Nat.lt_of_lt_of_le (Nat.lt_trans hSr.zD hSr.zD2) k5'
            have hT4 := hTr.below hb4 hNz
            go_loopw [14] (fun jv wr => RcI ps its w B C q D N G k K v a st f jv wr) (fun jv _ => K - (intOf jv).toNat)
            case atStart => exact ⟨0, v, by omega, rfl, by have := onUp_start (u := v) (a := a) (st := st) HSet.out.1; simpa using this, hCN, hCG, k6', hT4, k7', hS4, hF4⟩
            case round =>
              clear hS4 hF4 hT4
              obtain ⟨j, v2, hj, rfl, hon, hCN5, hCG5, hGz, hT5, hG5, hS5, hF5⟩ := hrel
              have HOn : Hid (OnUp v a st (a + st * (j : Int)) v2) := hon
              clear hon
              have hbd := itemS_bd r1 HN.out
              by_cases hjK : j < K
              · have hjK' : (j : Int) < (K : Int) := by omega
                have cg := hG5 j hjK
                have HG : Hid (∀ x, x < K → wr.cell? ⟨G, x, none⟩ = some (.int .i64 (a + st * (x : Int)))) := hG5
                clear hG5 k7'
                have cp := ptr_at hS5 hlt
                have cc : wr.cell? ⟨C, k, none⟩ = some (.int .u64 v2) := by have := hF5.set k hlt; rw [if_pos rfl] at this; exact this
                have fc := hS5.fC k
                obtain ⟨n0, n1, n2, n3⟩ := num_bd (j := j) (show 0 ≤ a by omega) (show b ≤ 63 by omega) (by omega) k4' hjK
                have HSt : Hid (OnUp v a st (a + st * (j : Int) + st) (bits .or .u64 v2 (IntKind.u64.wrap (2 ^ (a + st * (j : Int)).toNat)))) := onUp_step HSet.out.1 HOn.out (by omega) n2 ⟨n0, n1⟩ n3
                have hmn : a + st * (j : Int) + st = a + st * ((j + 1 : Nat) : Int) := mul_step rfl
                have hK : K ≤ 200 := by omega
                clear n2 n3 k2' k3' k4' HOn
                generalize a + st * (j : Int) = n at *
                go_wp2_with fail
                go_region
                all_goals
                go_wp2
                go_roundw
                case rel => exact rcI_step hlt hjK hCN5 hCG5 hGz hT5 HG.out hS5 hF5 HSt.out hmn _ (by first | rfl | simp)
                case measure => simp [intOf]; omega
              · obtain rfl : j = K := by omega
                clear hG5 k7'
                go_wp2
                go_roundw
                case rel => exact rcM_step hml hy hCN5 hT5 hS5 hF5 HWd.out HSet.out HN.out HOn.out k3' k4' _ (by first | rfl | simp)
                case measure => simp [intOf]; omega
        · obtain rfl : m = its.length := by omega
          have hwd : Hid (wItems ps k = some l2) := HI.out _ (by have := HWd.out; rwa [List.take_length] at this)
          go_wp2
          go_roundw
          case rel => exact rcO_step hlt HIt.out hz hwd.out HSet.out hSr hFr _ (by first | rfl | simp)
          case measure => simp [intOf]; omega
    · obtain rfl : k = 5 := by omega
      have hk5 : ¬ ((5 : Nat) : Int) < 5 := by omega
      have c0 : wr.cell? ⟨C, 0, none⟩ = some (.int .u64 (f 0)) := hFc.set 0 (by decide)
      have c1 : wr.cell? ⟨C, 1, none⟩ = some (.int .u64 (f 1)) := hFc.set 1 (by decide)
      have c2 : wr.cell? ⟨C, 2, none⟩ = some (.int .u64 (f 2)) := hFc.set 2 (by decide)
      have c3 : wr.cell? ⟨C, 3, none⟩ = some (.int .u64 (f 3)) := hFc.set 3 (by decide)
      have c4 : wr.cell? ⟨C, 4, none⟩ = some (.int .u64 (f 4)) := hFc.set 4 (by decide)
      have c5 := hFc.ad
      have c6 := hFc.aw
      have d2 : wr.cell? ⟨B, 2, none⟩ = some (strV (ps.getD 2 [])) := hS.tx.2 2 _ (by rw [List.getD_eq_getElem?_getD, List.getElem?_eq_getElem (show 2 < ps.length by omega)]; rfl)
      have d4 : wr.cell? ⟨B, 4, none⟩ = some (strV (ps.getD 4 [])) := hS.tx.2 4 _ (by rw [List.getD_eq_getElem?_getD, List.getElem?_eq_getElem (show 4 < ps.length by omega)]; rfl)
      have HRi : Hid (Right ps (cronV (f 0) (f 1) (f 2) (f 3) (f 4) (ps.getD 2 [] == [42]) (ps.getD 4 [] == [42]))) := ⟨f, l, HIt.out, rfl⟩
      have fb0 := hS.fbox 0; have fb1 := hS.fbox 1; have fb2 := hS.fbox 2; have fb3 := hS.fbox 3; have fb4 := hS.fbox 4; have fb5 := hS.fbox 5; have fb6 := hS.fbox 6
      have fc5 := hS.fC 5; have fc6 := hS.fC 6
      have e0 : wr.cell? ⟨w.heap.size, 0, none⟩ = some (.int .u64 0) := hS.box 0; have e1 : wr.cell? ⟨w.heap.size, 1, none⟩ = some (.int .u64 0) := hS.box 1; have e2 : wr.cell? ⟨w.heap.size, 2, none⟩ = some (.int .u64 0) := hS.box 2; have e3 : wr.cell? ⟨w.heap.size, 3, none⟩ = some (.int .u64 0) := hS.box 3; have e4 : wr.cell? ⟨w.heap.size, 4, none⟩ = some (.int .u64 0) := hS.box 4; have e5 : wr.cell? ⟨w.heap.size, 5, none⟩ = some (.bool false) := hS.box 5; have e6 : wr.cell? ⟨w.heap.size, 6, none⟩ = some (.bool false) := hS.box 6
      generalize ps.getD 2 [] = t2 at *
      generalize ps.getD 4 [] = t4 at *
      have z1 : C ≠ w.heap.size := by have := hS.zN; omega
      have z2 : B ≠ C := by have := hS.zB; omega
      have HS : Hid (RcS ps w B C q D wr) := hS
      clear HIt hz hFc HW HP hS
      go_wp2_with fail
      go_region
      all_goals
      go_wp2
      have HS6 : RcS ps w B C q D ((wr.setCell ⟨C, 5, none⟩ (.bool (t2 == [42]))).setCell ⟨C, 6, none⟩ (.bool (t4 == [42]))) := HS.out.put.put
      exact finPd (B := w.heap.size) rfl rfl rfl (set7c (W := (wr.setCell ⟨C, 5, none⟩ (.bool (t2 == [42]))).setCell ⟨C, 6, none⟩ (.bool (t4 == [42]))) (B := w.heap.size) (x0 := Value.int .u64 0) (x1 := Value.int .u64 0) (x2 := Value.int .u64 0) (x3 := Value.int .u64 0) (x4 := Value.int .u64 0) (x5 := Value.bool false) (x6 := Value.bool false) (.int .u64 (f 0)) (.int .u64 (f 1)) (.int .u64 (f 2)) (.int .u64 (f 3)) (.int .u64 (f 4)) (.bool (t2 == [42])) (.bool (t4 == [42])) (HS6.box 0) (HS6.box 1) (HS6.box 2) (HS6.box 3) (HS6.box 4) (HS6.box 5) (HS6.box 6)) (HR.out _ HRi.out) ((((((((HS6.bel.setCell (Nat.le_refl _) _).setCell (Nat.le_refl _) _).setCell (Nat.le_refl _) _).setCell (Nat.le_refl _) _).setCell (Nat.le_refl _) _).setCell (Nat.le_refl _) _).setCell (Nat.le_refl _) _))
theorem rc_any (s : List UInt8) (w : World) : Calls Tryd.prog 87 #[strV s] w fun e w' => ParseAns s e ∧ Below w.heap.size w w' := by
  by_cases h : s.length ≤ 300
  · by_cases hp : (pieces 32 s).length = 5
    · exact rc_five s w h hp
    · exact rc_count s w h hp
  · exact rc_long s w (by omega)
end Pie
end Go.Proofs.YtcaobnmfgnbolabDoor
