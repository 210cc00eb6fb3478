/- ReadCron: where it stands. -/
import Derived.Test.YtbfnjjdgiihngaaDoorRefRead
namespace Go.Proofs.YtbfnjjdgiihngaaDoor
namespace Pie
open Go.RowKit Crn Lai Civ RCrn
set_option maxRecDepth 8000

/-- what ReadCron does not turn while it reads -/
structure RcS (ps : List (List UInt8)) (w : World) (B C q D : Nat) (W : World) : Prop where
  box : ∀ o, W.cell? ⟨w.heap.size, o, none⟩ = (#[Value.int .u64 0, .int .u64 0, .int .u64 0, .int .u64 0, .int .u64 0, .bool false, .bool false])[o]?
  fbox : ∀ o, W.frozen? ⟨w.heap.size, o, none⟩ = false
  tx : Texts W B ps
  lim : ∀ o, W.cell? ⟨q, o, none⟩ = (#[Value.int .i64 0, .int .i64 59, .int .i64 0, .int .i64 23, .int .i64 1, .int .i64 31, .int .i64 1, .int .i64 12, .int .i64 0, .int .i64 6])[o]?
  ptr : ∀ o, W.cell? ⟨D, o, none⟩ = (#[Value.pointer (some ⟨C, 0, none⟩), .pointer (some ⟨C, 1, none⟩), .pointer (some ⟨C, 2, none⟩), .pointer (some ⟨C, 3, none⟩), .pointer (some ⟨C, 4, none⟩)])[o]?
  fC : ∀ o, W.frozen? ⟨C, o, none⟩ = false
  zN : w.heap.size < C
  zB : B < C
  zq : C ≠ q
  zD : C < D
  zq2 : q < W.heap.size
  zD2 : D < W.heap.size
  bel : Below w.heap.size w W
/-- the sets as they stand -/
structure FcS (C : Nat) (f : Nat → Int) (W : World) : Prop where
  set : ∀ j, j < 5 → W.cell? ⟨C, j, none⟩ = some (.int .u64 (f j))
  ad : W.cell? ⟨C, 5, none⟩ = some (.bool false)
  aw : W.cell? ⟨C, 6, none⟩ = some (.bool false)
theorem RcS.on {ps : List (List UInt8)} {w W W' : World} {B C q D : Nat} (h : RcS ps w B C q D W) (hb : Below W.heap.size W W') : RcS ps w B C q D W' := by
  have hN : w.heap.size < W.heap.size := by have := h.zN; have := h.zD; have := h.zD2; omega
  have hC : C < W.heap.size := Nat.lt_trans h.zD h.zD2
  exact ⟨cells_on h.box hb hN, free_on h.fbox hb hN, h.tx.below hb (Nat.lt_trans h.zB hC), cells_on h.lim hb h.zq2, cells_on h.ptr hb h.zD2, free_on h.fC hb hC, h.zN, h.zB, h.zq, h.zD, Nat.lt_of_lt_of_le h.zq2 hb.size, Nat.lt_of_lt_of_le h.zD2 hb.size, h.bel.trans (hb.mono h.bel.size)⟩
theorem FcS.on {C : Nat} {f : Nat → Int} {W W' : World} (h : FcS C f W) (hb : Below W.heap.size W W') (hC : C < W.heap.size) : FcS C f W' :=
  ⟨fun j hj => (hb.cell (p := ⟨C, j, none⟩) hC).trans (h.set j hj), (hb.cell (p := ⟨C, 5, none⟩) hC).trans h.ad, (hb.cell (p := ⟨C, 6, none⟩) hC).trans h.aw⟩
theorem set_off {W : World} {a b : Addr} {v : Value} (h : b ≠ a) : (W.setCell b v).cell? a = W.cell? a := World.cell?_setCell_other _ _ _ _ h
theorem FcS.put {C i : Nat} {f : Nat → Int} {W : World} {v : Int} (h : FcS C f W) (hi : i < 5) : FcS C (fun x => if x = i then v else f x) (W.setCell ⟨C, i, none⟩ (.int .u64 v)) := by
  have ne : ∀ j, j ≠ i → (⟨C, i, none⟩ : Addr) ≠ ⟨C, j, none⟩ := fun j hj e => hj (congrArg Addr.off e).symm
  refine ⟨fun j hj => ?_, (set_off (ne 5 (by omega))).trans h.ad, (set_off (ne 6 (by omega))).trans h.aw⟩
  by_cases e : j = i
  · subst e
    have hc := h.set j hj
    simp [go_sem, hc]
  · rw [set_off (ne j e), h.set j hj]
    simp [e]
theorem RcS.put {ps : List (List UInt8)} {w W : World} {B C q D i : Nat} {v : Value} (h : RcS ps w B C q D W) : RcS ps w B C q D (W.setCell ⟨C, i, none⟩ v) := by
  have ne : ∀ b o, b ≠ C → (⟨C, i, none⟩ : Addr) ≠ ⟨b, o, none⟩ := fun b o hb e => hb (congrArg Addr.block e).symm
  have hN := h.zN; have hB := h.zB; have hq := h.zq; have hD := h.zD
  have sz : (W.setCell ⟨C, i, none⟩ v).heap.size = W.heap.size := by simp
  have bC : Below C W (W.setCell ⟨C, i, none⟩ v) := (Below.refl C W).setCell (Nat.le_refl _) _
  refine ⟨fun o => (set_off (ne _ o (by omega))).trans (h.box o), fun o => ?_, h.tx.below bC hB, fun o => (set_off (ne _ o (by omega))).trans (h.lim o), fun o => (set_off (ne _ o (by omega))).trans (h.ptr o), fun o => ?_, h.zN, h.zB, h.zq, h.zD, by rw [sz]; exact h.zq2, by rw [sz]; exact h.zD2, h.bel.setCell (by show w.heap.size ≤ C; omega) _⟩
  · have := h.fbox o; simp [this]
  · have := h.fC o; simp [this]
theorem rc_start {ps : List (List UInt8)} {w w1 w2 : World} {B q : Nat} {tc td : TypeId} (hC1 : ∀ o, w1.cell? ⟨w.heap.size, o, none⟩ = (#[Value.int .u64 0, .int .u64 0, .int .u64 0, .int .u64 0, .int .u64 0, .bool false, .bool false])[o]?) (hF1 : ∀ o, w1.frozen? ⟨w.heap.size, o, none⟩ = false) (hT1 : Texts w1 B ps) (hw1 : Below w.heap.size w w1) (hz1 : w.heap.size < w1.heap.size)
    (hb2 : Below (w1.alloc (.cells (#[Value.int .u64 0, .int .u64 0, .int .u64 0, .int .u64 0, .int .u64 0, .bool false, .bool false]) tc)).heap.size (w1.alloc (.cells (#[Value.int .u64 0, .int .u64 0, .int .u64 0, .int .u64 0, .int .u64 0, .bool false, .bool false]) tc)) w2) (hq2 : q < w2.heap.size) (hcq : ∀ o, w2.cell? ⟨q, o, none⟩ = (#[Value.int .i64 0, .int .i64 59, .int .i64 0, .int .i64 23, .int .i64 1, .int .i64 31, .int .i64 1, .int .i64 12, .int .i64 0, .int .i64 6])[o]?) :
    RcS ps w B w1.heap.size q w2.heap.size (w2.alloc (.cells (#[Value.pointer (some ⟨w1.heap.size, 0, none⟩), .pointer (some ⟨w1.heap.size, 1, none⟩), .pointer (some ⟨w1.heap.size, 2, none⟩), .pointer (some ⟨w1.heap.size, 3, none⟩), .pointer (some ⟨w1.heap.size, 4, none⟩)]) td)) ∧ FcS w1.heap.size (fun _ => 0) (w2.alloc (.cells (#[Value.pointer (some ⟨w1.heap.size, 0, none⟩), .pointer (some ⟨w1.heap.size, 1, none⟩), .pointer (some ⟨w1.heap.size, 2, none⟩), .pointer (some ⟨w1.heap.size, 3, none⟩), .pointer (some ⟨w1.heap.size, 4, none⟩)]) td)) := by
  have bA : Below w1.heap.size w1 (w1.alloc (.cells (#[Value.int .u64 0, .int .u64 0, .int .u64 0, .int .u64 0, .int .u64 0, .bool false, .bool false]) tc)) := (Below.refl _ _).alloc (Nat.le_refl _) _
  have bB : Below w1.heap.size w1 w2 := bA.trans (hb2.mono (by simp))
  have bD : Below w2.heap.size w2 (w2.alloc (.cells (#[Value.pointer (some ⟨w1.heap.size, 0, none⟩), .pointer (some ⟨w1.heap.size, 1, none⟩), .pointer (some ⟨w1.heap.size, 2, none⟩), .pointer (some ⟨w1.heap.size, 3, none⟩), .pointer (some ⟨w1.heap.size, 4, none⟩)]) td)) := (Below.refl _ _).alloc (Nat.le_refl _) _
  have hs : w1.heap.size < w2.heap.size := by have := hb2.size; simp at this; omega
  have hcC : ∀ o, w2.cell? ⟨w1.heap.size, o, none⟩ = (#[Value.int .u64 0, .int .u64 0, .int .u64 0, .int .u64 0, .int .u64 0, .bool false, .bool false])[o]? := cells_on (W := w1.alloc (.cells (#[Value.int .u64 0, .int .u64 0, .int .u64 0, .int .u64 0, .int .u64 0, .bool false, .bool false]) tc)) (fun o => by simp) hb2 (by simp)
  have hfC : ∀ o, w2.frozen? ⟨w1.heap.size, o, none⟩ = false := free_on (W := w1.alloc (.cells (#[Value.int .u64 0, .int .u64 0, .int .u64 0, .int .u64 0, .int .u64 0, .bool false, .bool false]) tc)) (fun o => by simp) hb2 (by simp)
  have hne : w1.heap.size ≠ q := fun e => by
    have h1 := hcC 0; have h2 := hcq 0
    rw [← e, h1] at h2
    simp at h2
  have hzD : w2.heap.size < (w2.alloc (.cells (#[Value.pointer (some ⟨w1.heap.size, 0, none⟩), .pointer (some ⟨w1.heap.size, 1, none⟩), .pointer (some ⟨w1.heap.size, 2, none⟩), .pointer (some ⟨w1.heap.size, 3, none⟩), .pointer (some ⟨w1.heap.size, 4, none⟩)]) td)).heap.size := by simp
  have cC := cells_on hcC bD hs
  exact ⟨⟨cells_on (cells_on hC1 bB hz1) bD (by omega), free_on (free_on hF1 bB hz1) bD (by omega), (hT1.below bB hT1.1).below bD (by have := hT1.1; omega), cells_on hcq bD hq2, fun o => by simp, free_on hfC bD hs, hz1, hT1.1, hne, hs, by omega, hzD, (hw1.trans (bB.mono (by omega))).trans (bD.mono (by omega))⟩,
    ⟨fun j hj => by rw [cC j]; match j, hj with | 0, _ => rfl | 1, _ => rfl | 2, _ => rfl | 3, _ => rfl | 4, _ => rfl, cC 5, cC 6⟩⟩
/-- where ReadCron stands: k words are read -/
def RcO (ps : List (List UInt8)) (w : World) (B C q D : Nat) (i : Value) (wr : World) : Prop := ∃ (k : Nat) (f : Nat → Int) (l : Nat → List (Int × Int × Int)), k ≤ 5 ∧ i = .int .i64 k ∧ (∀ j, j < k → wItems ps j = some (l j) ∧ SetIs (l j) (f j)) ∧ (∀ j, k ≤ j → f j = 0) ∧ RcS ps w B C q D wr ∧ FcS C f wr
/-- where it stands in word i: k items are read -/
def RcM (ps its : List (List UInt8)) (w : World) (B C q D N i : Nat) (lo hi : Int) (f : Nat → Int) (kv : Value) (wr : World) : Prop := ∃ (k : Nat) (v : Int) (l : List (Int × Int × Int)), k ≤ its.length ∧ kv = .int .i64 k ∧ wordS lo hi (its.take k) = some l ∧ SetIs l v ∧ C < N ∧ N < wr.heap.size ∧ Texts wr N its ∧ RcS ps w B C q D wr ∧ FcS C (fun x => if x = i then v else f x) wr
/-- where it stands in an item: j numbers are set -/
def RcI (ps its : List (List UInt8)) (w : World) (B C q D N G i K : Nat) (u a st : Int) (f : Nat → Int) (jv : Value) (wr : World) : Prop := ∃ (j : Nat) (v : Int), j ≤ K ∧ jv = .int .i64 j ∧ OnUp u a st (a + st * (j : Int)) v ∧ C < N ∧ C < G ∧ G < wr.heap.size ∧ Texts wr N its ∧ (∀ x, x < K → wr.cell? ⟨G, x, none⟩ = some (.int .i64 (a + st * (x : Int)))) ∧ RcS ps w B C q D wr ∧ FcS C (fun x => if x = i then v else f x) wr
theorem ritem_case (t : List UInt8) (lo hi : Int) (h0 : 0 ≤ lo) (h1 : lo ≤ hi) (h2 : hi ≤ 63) (hl : t.length ≤ 1000) : (itemS lo hi t = none ∧ ∀ w, Calls Tryd.prog 32 #[strV t, .int .i64 lo, .int .i64 hi] w fun e w' => e = .returned (.slice none 0 0) ∧ Below w.heap.size w w') ∨
    ∃ a b st : Int, itemS lo hi t = some (a, b, st) ∧ ∀ w, Calls Tryd.prog 32 #[strV t, .int .i64 lo, .int .i64 hi] w fun e w' => ∃ (k g cw : Nat), e = .returned (.slice (some ⟨g, 0, none⟩) k cw) ∧ 1 ≤ k ∧ (k : Int) ≤ b + st - a ∧ b < a + st * (k : Int) ∧ a + st * (k : Int) ≤ b + st ∧ w.heap.size ≤ g ∧ g < w'.heap.size ∧ (∀ j, j < k → w'.cell? ⟨g, j, none⟩ = some (.int .i64 (a + st * (j : Int)))) ∧ Below w.heap.size w w' := by
  cases h : itemS lo hi t with
  | none =>
    refine Or.inl ⟨rfl, fun w => (ritem t lo hi w h0 h1 h2 hl).mono ?_⟩
    rintro e w' ⟨⟨_, he⟩ | ⟨a, b, st, k, g, cw, g1, _⟩, hb⟩
    · exact ⟨he, hb⟩
    · rw [h] at g1; cases g1
  | some p =>
    obtain ⟨a, b, st⟩ := p
    refine Or.inr ⟨a, b, st, rfl, fun w => (ritem t lo hi w h0 h1 h2 hl).mono ?_⟩
    rintro e w' ⟨⟨g1, _⟩ | ⟨a', b', st', k, g, cw, g1, g2, g3, g4, g5, g6, g7, g8, g9⟩, hb⟩
    · rw [h] at g1; cases g1
    · rw [h] at g1; cases g1
      exact ⟨k, g, cw, g2, g3, g4, g5, g6, g7, g8, g9, hb⟩
theorem lim_at {ps : List (List UInt8)} {w W : World} {B C q D k : Nat} (h : RcS ps w B C q D W) (hk : k < 5) : W.cell? ⟨q, k * 2, none⟩ = some (.int .i64 (blo k)) ∧ W.cell? ⟨q, k * 2 + 1, none⟩ = some (.int .i64 (bhi k)) := by
  rw [h.lim, h.lim]
  have : k = 0 ∨ k = 1 ∨ k = 2 ∨ k = 3 ∨ k = 4 := by omega
  rcases this with rfl | rfl | rfl | rfl | rfl <;> exact ⟨rfl, rfl⟩
theorem ptr_at {ps : List (List UInt8)} {w W : World} {B C q D k : Nat} (h : RcS ps w B C q D W) (hk : k < 5) : W.cell? ⟨D, k, none⟩ = some (.pointer (some ⟨C, k, none⟩)) := by
  rw [h.ptr]
  have : k = 0 ∨ k = 1 ∨ k = 2 ∨ k = 3 ∨ k = 4 := by omega
  rcases this with rfl | rfl | rfl | rfl | rfl <;> rfl
theorem num_bd {a b st : Int} {j K : Nat} (ha : 0 ≤ a) (hb : b ≤ 63) (hst : 1 ≤ st) (h : a + st * (K : Int) ≤ b + st) (hj : j < K) : 0 ≤ a + st * (j : Int) ∧ a + st * (j : Int) ≤ 63 ∧ a ≤ a + st * (j : Int) ∧ (a + st * (j : Int) - a) % st = 0 := by
  have h1 : 0 ≤ st * (j : Int) := Int.mul_nonneg (by omega) (by omega)
  have h2 : st * ((j : Int) + 1) ≤ st * (K : Int) := Int.mul_le_mul_of_nonneg_left (by omega) (by omega)
  rw [Int.mul_add, Int.mul_one] at h2
  refine ⟨by omega, by omega, by omega, ?_⟩
  rw [show a + st * (j : Int) - a = st * (j : Int) by omega]
  exact Int.mul_emod_right _ _
end Pie
end Go.Proofs.YtbfnjjdgiihngaaDoor
