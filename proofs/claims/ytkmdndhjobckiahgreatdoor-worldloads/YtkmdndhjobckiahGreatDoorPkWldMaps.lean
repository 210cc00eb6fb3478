/- A world, and two maps of a law beside it. What runs at each pod, in a map of the law; a sum over what is left of a map. -/
import Derived.Test.YtkmdndhjobckiahGreatDoorPkWldPlay
import Derived.Test.YtkmdndhjobckiahGreatDoorPkMapInt
namespace Go.Proofs.YtkmdndhjobckiahGreatDoor
namespace Wld
open Go.RowKit Plain Pln Frm Lpp Crn Lop
set_option maxRecDepth 8000

theorem map_kept {w w' : World} {b n : Nat} {f : Int → Int} (h : Mp.MapAt w b n f) (hb : w'.heap[b]? = w.heap[b]?) : Mp.MapAt w' b n f := by
  obtain ⟨D, h1, h2, h3⟩ := h
  obtain ⟨es, clock, hh, F, hs, hD⟩ := h3
  exact ⟨D, h1, h2, es, clock, hb.trans hh, F, hs, hD⟩
/-- the world, and two maps that it knows nothing of -/
structure MpAt (w : World) (B : Nat) (c : Pc) (p : Pd) (ts : List Tr) (S : WS) (b1 b2 n : Nat) (f g : Int → Int) : Prop where
  wa : WAt w B c p ts S
  n1 : ¬ bk c ts b1
  n2 : ¬ bk c ts b2
  ne : b1 ≠ b2
  l1 : B ≤ b1
  l2 : B ≤ b2
  m1 : Mp.MapAt w b1 n f
  m2 : Mp.MapAt w b2 n g
section
variable {w w' : World} {B : Nat} {c c' : Pc} {p : Pd} {ts : List Tr} {S S' : WS} {b1 b2 n : Nat} {f g : Int → Int}
theorem MpAt.new (h : WAt w B c p ts S) : MpAt ((w.alloc (.map #[] 0)).alloc (.map #[] 0)) B c p ts S w.heap.size (w.alloc (.map #[] 0)).heap.size 0 (fun _ => 0) (fun _ => 0) := by
  have h1 : Below w.heap.size w (w.alloc (.map #[] 0)) := (Below.refl _ _).alloc (Nat.le_refl _) _
  have h2 : Below (w.alloc (.map #[] 0)).heap.size (w.alloc (.map #[] 0)) ((w.alloc (.map #[] 0)).alloc (.map #[] 0)) := (Below.refl _ _).alloc (Nat.le_refl _) _
  have hB := Nat.le_trans h.bD (Nat.le_of_lt h.lt)
  have hz : (w.alloc (.map #[] 0)).heap.size = w.heap.size + 1 := by simp
  refine ⟨(h.below h1).below h2, fun e => ?_, fun e => ?_, by omega, hB, by omega, (Mp.MapAt.new w).below h2, Mp.MapAt.new _⟩
  · have := (h.low e).2; omega
  · have := (h.low e).2; omega
theorem MpAt.below (h : MpAt w B c p ts S b1 b2 n f g) (hb : Below w.heap.size w w') : MpAt w' B c p ts S b1 b2 n f g :=
  ⟨h.wa.below hb, h.n1, h.n2, h.ne, h.l1, h.l2, h.m1.below hb, h.m2.below hb⟩
theorem MpAt.same {f' g' : Int → Int} (h : MpAt w B c p ts S b1 b2 n f g) (hf : ∀ i, f' i = f i) (hg : ∀ i, g' i = g i) : MpAt w B c p ts S b1 b2 n f' g' :=
  ⟨h.wa, h.n1, h.n2, h.ne, h.l1, h.l2, h.m1.same hf, h.m2.same hg⟩
theorem MpAt.mono {m : Nat} (h : MpAt w B c p ts S b1 b2 n f g) (hn : n ≤ m) : MpAt w B c p ts S b1 b2 m f g :=
  ⟨h.wa, h.n1, h.n2, h.ne, h.l1, h.l2, h.m1.mono hn, h.m2.mono hn⟩
/-- something happens to the world -/
theorem MpAt.moved (h : MpAt w B c p ts S b1 b2 n f g) (ha : WAt w' B c' p ts S') (m : Mm.Mv (bk c ts) (bk c' ts) w w') : MpAt w' B c' p ts S' b1 b2 n f g :=
  ⟨ha, m.off h.m1.lt h.n1, m.off h.m2.lt h.n2, h.ne, h.l1, h.l2, map_kept h.m1 (m.block _ h.m1.lt h.n1), map_kept h.m2 (m.block _ h.m2.lt h.n2)⟩
theorem wat_grown {b : Nat} (h : WAt w B c p ts S) (hn : ¬ bk c ts b) (hl : B ≤ b) (hg : w.grownBy w' (some b)) : WAt w' B c p ts S := by
  refine h.kept (fun k hk => hg.block k (h.low hk).2 (fun e => hn (by cases e; exact hk))) hg.size ?_
  obtain ⟨w0, a, e, d⟩ := h.ba
  have hz := Nat.le_trans h.bD (Nat.le_of_lt h.lt)
  exact ⟨w0, a, e, d.grown hg (by omega) (fun k hk => by cases hk; omega)⟩
end
end Wld
end Go.Proofs.YtkmdndhjobckiahGreatDoor
namespace Go.Proofs.YtkmdndhjobckiahGreatDoor
namespace Wld
open Go.RowKit Plain Pln Frm Lpp Crn Lop
set_option maxRecDepth 8000

/-- the world, and a map that it knows nothing of -/
structure M1 (w : World) (B : Nat) (c : Pc) (p : Pd) (ts : List Tr) (S : WS) (b n : Nat) (f : Int → Int) : Prop where
  wa : WAt w B c p ts S
  n1 : ¬ bk c ts b
  l1 : B ≤ b
  m1 : Mp.MapAt w b n f
section
variable {w w' : World} {B : Nat} {c c' : Pc} {p : Pd} {ts : List Tr} {S S' : WS} {b n : Nat} {f : Int → Int}
theorem M1.new (h : WAt w B c p ts S) : M1 (w.alloc (.map #[] 0)) B c p ts S w.heap.size 0 (fun _ => 0) := by
  have h1 : Below w.heap.size w (w.alloc (.map #[] 0)) := (Below.refl _ _).alloc (Nat.le_refl _) _
  have hB := Nat.le_trans h.bD (Nat.le_of_lt h.lt)
  exact ⟨h.below h1, fun e => by have := (h.low e).2; omega, hB, Mp.MapAt.new w⟩
theorem M1.below (h : M1 w B c p ts S b n f) (hb : Below w.heap.size w w') : M1 w' B c p ts S b n f := ⟨h.wa.below hb, h.n1, h.l1, h.m1.below hb⟩
theorem M1.same {f' : Int → Int} (h : M1 w B c p ts S b n f) (hf : ∀ i, f' i = f i) : M1 w B c p ts S b n f' := ⟨h.wa, h.n1, h.l1, h.m1.same hf⟩
theorem M1.mono {m : Nat} (h : M1 w B c p ts S b n f) (hn : n ≤ m) : M1 w B c p ts S b m f := ⟨h.wa, h.n1, h.l1, h.m1.mono hn⟩
theorem M1.put (h : M1 w B c p ts S b n f) (hn : n < maxLen) {i x : Int} (hi : -9223372036854775808 ≤ i ∧ i ≤ 9223372036854775807) (hx : -9223372036854775808 ≤ x ∧ x ≤ 9223372036854775807) :
    ∃ w', (Instr.mapUpdate 54 (.map (some b)) (.int .i64 i) (.int .i64 x)).run Tryz.prog w = .ok () w' ∧ M1 w' B c p ts S b (n + 1) (Mp.upd f i x) ∧ w.grownBy w' (some b) := by
  obtain ⟨w', hr, hm, hg⟩ := h.m1.put hn hi hx
  exact ⟨w', hr, ⟨wat_grown h.wa h.n1 h.l1 hg, h.n1, h.l1, hm⟩, hg⟩
end
/-- so many of the first k run at a pod -/
def atK (R : List Buf.Rq) (k : Nat) (id : Int) : Int := (at_ (R.take k) id : Int)
theorem atK_zero (R : List Buf.Rq) (id : Int) : atK R 0 id = 0 := by unfold atK at_; simp
theorem atK_all (R : List Buf.Rq) (id : Int) : atK R R.length id = (at_ R id : Int) := by unfold atK; rw [List.take_length]
theorem atK_step {R : List Buf.Rq} {k : Nat} {r : Buf.Rq} (h : R[k]? = some r) (id : Int) : atK R (k + 1) id = atK R k id + if Buf.isAt id r = true then 1 else 0 := by
  unfold atK at_
  rw [List.take_add_one, h, List.countP_append]
  simp [List.countP_cons]
  split <;> rfl
theorem atK_run {R : List Buf.Rq} {k : Nat} {r : Buf.Rq} (h : R[k]? = some r) (hf : r.fat = 2) (id : Int) : atK R (k + 1) id = Mp.upd (atK R k) r.pod (atK R k r.pod + 1) id := by
  rw [atK_step h]
  unfold Mp.upd Buf.isAt
  by_cases e : id = r.pod
  · subst e; simp [hf]
  · have : (r.pod == id) = false := by rw [beq_eq_false_iff_ne]; exact fun h => e h.symm
    rw [if_neg e, this]; simp
theorem atK_not {R : List Buf.Rq} {k : Nat} {r : Buf.Rq} (h : R[k]? = some r) (hf : r.fat ≠ 2) (id : Int) : atK R (k + 1) id = atK R k id := by
  rw [atK_step h]
  unfold Buf.isAt
  have : (r.fat == 2) = false := by rw [beq_eq_false_iff_ne]; exact hf
  rw [this]; simp
theorem atK_bd (R : List Buf.Rq) (k : Nat) (id : Int) : 0 ≤ atK R k id ∧ atK R k id ≤ (R.length : Int) := by
  have h1 : at_ (R.take k) id ≤ (R.take k).length := List.countP_le_length
  have h2 : (R.take k).length ≤ R.length := by simp; omega
  unfold atK
  omega
/-- the sum over what is left -/
def lsum (left : Int → Bool) (f : Int → Int) : List Int → Int
  | [] => 0
  | i :: l => (if left i = true then f i else 0) + lsum left f l
theorem lsum_bd {left : Int → Bool} {f : Int → Int} {N : Int} : ∀ {l : List Int}, (∀ i ∈ l, 0 ≤ f i ∧ f i ≤ N) → 0 ≤ N → 0 ≤ lsum left f l ∧ lsum left f l ≤ N * (l.length : Int)
  | [], _, _ => by simp [lsum]
  | i :: l, h, hN => by
    have h1 := lsum_bd (left := left) (l := l) (fun j hj => h j (List.mem_cons_of_mem _ hj)) hN
    have h2 := h i List.mem_cons_self
    unfold lsum
    rw [List.length_cons]
    have e : N * ((l.length + 1 : Nat) : Int) = N * (l.length : Int) + N := by
      rw [show ((l.length + 1 : Nat) : Int) = (l.length : Int) + 1 by omega, Int.mul_add, Int.mul_one]
    rw [e]
    split <;> omega
theorem lsum_none {left : Int → Bool} {f : Int → Int} : ∀ {l : List Int}, (∀ i ∈ l, left i = false) → lsum left f l = 0
  | [], _ => rfl
  | i :: l, h => by
    unfold lsum
    rw [h i List.mem_cons_self, lsum_none (fun j hj => h j (List.mem_cons_of_mem _ hj))]
    rfl
theorem lsum_congr {left left' : Int → Bool} {f : Int → Int} : ∀ {l : List Int}, (∀ i ∈ l, left i = left' i) → lsum left f l = lsum left' f l
  | [], _ => rfl
  | i :: l, h => by
    unfold lsum
    rw [h i List.mem_cons_self, lsum_congr (fun j hj => h j (List.mem_cons_of_mem _ hj))]
theorem lsum_strike {left : Int → Bool} {f : Int → Int} {x : Int} (hx : left x = true) : ∀ {l : List Int}, l.Nodup → lsum (fun i => left i && !(i == x)) f l = lsum left f l - if x ∈ l then f x else 0
  | [], _ => by simp [lsum]
  | i :: l, h => by
    obtain ⟨h1, h2⟩ := List.nodup_cons.1 h
    have ih := lsum_strike hx h2 (f := f)
    show (if (left i && !(i == x)) = true then f i else 0) + lsum (fun i => left i && !(i == x)) f l = (if left i = true then f i else 0) + lsum left f l - if x ∈ i :: l then f x else 0
    rw [ih]
    by_cases e : i = x
    · subst e
      rw [if_neg h1, if_pos hx, if_pos List.mem_cons_self]
      simp
      omega
    · have e2 : (i == x) = false := by rw [beq_eq_false_iff_ne]; exact e
      rw [e2]
      have e3 : (x ∈ i :: l) = (x ∈ l) := by
        rw [List.mem_cons]
        simp
        exact fun h => absurd h.symm e
      simp only [e3, Bool.not_false, Bool.and_true]
      omega
theorem lsum_all {left : Int → Bool} {f : Int → Int} : ∀ {l : List Int}, (∀ i ∈ l, left i = false → f i = 0) → lsum left f l = (l.map f).sum
  | [], _ => rfl
  | i :: l, h => by
    unfold lsum
    rw [List.map_cons, List.sum_cons, lsum_all (fun j hj => h j (List.mem_cons_of_mem _ hj))]
    congr 1
    split
    · rfl
    · rename_i e
      exact (h i List.mem_cons_self (by simpa using e)).symm
theorem ids_nodup {F : Flt.FS} (h : Flt.Inv F) : (F.L.map Flt.Pd.id).Nodup := by
  have := h.srt
  unfold List.Nodup
  rw [List.pairwise_map]
  exact this.imp (fun h e => by omega)
theorem loads_sum {F : Flt.FS} {R : List Buf.Rq} (h : LdI F R) : ((F.L.map Flt.Pd.id).map (atK R R.length)).sum = Flt.sumL F.L := by
  unfold Flt.sumL
  rw [List.map_map]
  congr 1
  refine List.map_congr_left (fun x hx => ?_)
  show atK R R.length x.id = x.ld
  rw [atK_all, h.a x hx]
theorem at_in {F : Flt.FS} {R : List Buf.Rq} (h : LdI F R) {x : Int} (hx : ¬ x ∈ F.L.map Flt.Pd.id) : atK R R.length x = 0 := by
  rw [atK_all, at_zero (fun r hr e e2 => hx ?_)]
  · rfl
  · obtain ⟨z, hz, ez⟩ := h.b r hr e
    exact List.mem_map.2 ⟨z, hz, ez.trans e2⟩
theorem sumL_bd {L : List Flt.Pd} (h : ∀ x ∈ L, 0 ≤ x.ld ∧ x.ld ≤ 100) : ∀ k, k ≤ L.length → 0 ≤ Flt.sumL (L.take k) ∧ Flt.sumL (L.take k) ≤ 100 * (k : Int)
  | 0, _ => by simp [Flt.sumL]
  | k + 1, hk => by
    obtain ⟨x, hx⟩ : ∃ x, L[k]? = some x := ⟨_, List.getElem?_eq_getElem (by omega)⟩
    have := sumL_bd h k (by omega)
    have := h x (List.mem_of_getElem? hx)
    rw [Flt.sum_step hx]
    omega
end Wld
end Go.Proofs.YtkmdndhjobckiahGreatDoor
