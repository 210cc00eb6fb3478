
/- A trigger as it lies in memory: its cells, and how a walk takes it as a whole. -/
import Derived.Test.YtcaobnmfgnbolafDoorCronMatch2
import Derived.Test.YtcaobnmfgnbolafDoorCronPlain
import Derived.Test.YtcaobnmfgnbolafDoorCivilOf
import Derived.Deep.MidRow
namespace Go.Proofs.YtcaobnmfgnbolafDoor
namespace Ned
open Go.RowKit Lai Civ Crn Pln
set_option maxRecDepth 8000

structure TrAt (w : World) (b o : Nat) (t : Tr) : Prop where
  c0 : w.cell? ⟨b, o, none⟩ = some (.int .i64 t.k)
  c1 : w.cell? ⟨b, o + 1, none⟩ = some (.int .i64 t.tg)
  c2 : w.cell? ⟨b, o + 2, none⟩ = some (.int .i64 t.ac)
  c3 : w.cell? ⟨b, o + 3, none⟩ = some (.int .u64 t.a.mi)
  c4 : w.cell? ⟨b, o + 4, none⟩ = some (.int .u64 t.a.ho)
  c5 : w.cell? ⟨b, o + 5, none⟩ = some (.int .u64 t.a.da)
  c6 : w.cell? ⟨b, o + 6, none⟩ = some (.int .u64 t.a.mn)
  c7 : w.cell? ⟨b, o + 7, none⟩ = some (.int .u64 t.a.we)
  c8 : w.cell? ⟨b, o + 8, none⟩ = some (.bool t.a.ad)
  c9 : w.cell? ⟨b, o + 9, none⟩ = some (.bool t.a.aw)
  c10 : w.cell? ⟨b, o + 10, none⟩ = some (.int .u64 t.b.mi)
  c11 : w.cell? ⟨b, o + 11, none⟩ = some (.int .u64 t.b.ho)
  c12 : w.cell? ⟨b, o + 12, none⟩ = some (.int .u64 t.b.da)
  c13 : w.cell? ⟨b, o + 13, none⟩ = some (.int .u64 t.b.mn)
  c14 : w.cell? ⟨b, o + 14, none⟩ = some (.int .u64 t.b.we)
  c15 : w.cell? ⟨b, o + 15, none⟩ = some (.bool t.b.ad)
  c16 : w.cell? ⟨b, o + 16, none⟩ = some (.bool t.b.aw)
theorem range_tr {w : World} {b o : Nat} {t : Tr} (h : TrAt w b o t) : w.rangeAt b o [.int .i64 t.k, .int .i64 t.tg, .int .i64 t.ac, .int .u64 t.a.mi, .int .u64 t.a.ho, .int .u64 t.a.da, .int .u64 t.a.mn, .int .u64 t.a.we, .bool t.a.ad, .bool t.a.aw, .int .u64 t.b.mi, .int .u64 t.b.ho, .int .u64 t.b.da, .int .u64 t.b.mn, .int .u64 t.b.we, .bool t.b.ad, .bool t.b.aw] := by
  intro j v hv
  match j, hv with
  | 0, hv => simp at hv; subst hv; simpa using h.c0
  | 1, hv => simp at hv; subst hv; simpa using h.c1
  | 2, hv => simp at hv; subst hv; simpa using h.c2
  | 3, hv => simp at hv; subst hv; simpa using h.c3
  | 4, hv => simp at hv; subst hv; simpa using h.c4
  | 5, hv => simp at hv; subst hv; simpa using h.c5
  | 6, hv => simp at hv; subst hv; simpa using h.c6
  | 7, hv => simp at hv; subst hv; simpa using h.c7
  | 8, hv => simp at hv; subst hv; simpa using h.c8
  | 9, hv => simp at hv; subst hv; simpa using h.c9
  | 10, hv => simp at hv; subst hv; simpa using h.c10
  | 11, hv => simp at hv; subst hv; simpa using h.c11
  | 12, hv => simp at hv; subst hv; simpa using h.c12
  | 13, hv => simp at hv; subst hv; simpa using h.c13
  | 14, hv => simp at hv; subst hv; simpa using h.c14
  | 15, hv => simp at hv; subst hv; simpa using h.c15
  | 16, hv => simp at hv; subst hv; simpa using h.c16
  | j + 17, hv => simp at hv
theorem wp_tr {ops : Array Oper} {rest : List Oper} {d : Option Nat} {x : Operand} {ps : String} {af : Array Edge} {A : Act} {Q : Exit → Act → World → Prop} {w : World} {b o : Nat} {t : Tr} (h : TrAt w b o t) (hx : A.eval x = .pointer (some ⟨b, o, none⟩))
    (g : wpList Tryd.prog ops Q rest (A.put d (trV t)) w) : wpList Tryd.prog ops Q ({ dst := d, op := .load 41 x, type := 41, pos := ps, after := af, guard := none } :: rest) A w :=
  wpList_load_mid rfl 41 x rfl b o hx [.int .i64 t.k, .int .i64 t.tg, .int .i64 t.ac, .int .u64 t.a.mi, .int .u64 t.a.ho, .int .u64 t.a.da, .int .u64 t.a.mn, .int .u64 t.a.we, .bool t.a.ad, .bool t.a.aw, .int .u64 t.b.mi, .int .u64 t.b.ho, .int .u64 t.b.da, .int .u64 t.b.mn, .int .u64 t.b.we, .bool t.b.ad, .bool t.b.aw] _ (range_tr h) Tryd.underlying41 rfl (by kernel_rfl) g
theorem TrAt.new (w : World) (t : Tr) (ta : TypeId) : TrAt (w.alloc (.cells (trC t) ta)) w.heap.size 0 t := by
  constructor <;> simp
theorem TrAt.below {w w' : World} {b o n : Nat} {t : Tr} (h : TrAt w b o t) (hb : Below n w w') (hn : b < n) : TrAt w' b o t := by
  constructor
  · rw [hb.cell hn]; exact h.c0
  · rw [hb.cell hn]; exact h.c1
  · rw [hb.cell hn]; exact h.c2
  · rw [hb.cell hn]; exact h.c3
  · rw [hb.cell hn]; exact h.c4
  · rw [hb.cell hn]; exact h.c5
  · rw [hb.cell hn]; exact h.c6
  · rw [hb.cell hn]; exact h.c7
  · rw [hb.cell hn]; exact h.c8
  · rw [hb.cell hn]; exact h.c9
  · rw [hb.cell hn]; exact h.c10
  · rw [hb.cell hn]; exact h.c11
  · rw [hb.cell hn]; exact h.c12
  · rw [hb.cell hn]; exact h.c13
  · rw [hb.cell hn]; exact h.c14
  · rw [hb.cell hn]; exact h.c15
  · rw [hb.cell hn]; exact h.c16
theorem boxB {w w1 : World} {A : Array Value} {ta : TypeId} (hb : Below (w.alloc (.cells A ta)).heap.size (w.alloc (.cells A ta)) w1) : (∀ o, w1.cell? ⟨w.heap.size, o, none⟩ = A[o]?) ∧ w.heap.size < w1.heap.size ∧ Below w.heap.size w w1 :=
  ⟨fun o => by rw [hb.cell (p := ⟨w.heap.size, o, none⟩) (by simp)]; simp, Nat.lt_of_lt_of_le (by simp) hb.size, (balloc _).trans (hb.mono (by simp))⟩
theorem range_span {w : World} {b : Nat} {t : Tr} (h : TrAt w b 0 t) : w.rangeAt b 3 [.int .u64 t.a.mi, .int .u64 t.a.ho, .int .u64 t.a.da, .int .u64 t.a.mn, .int .u64 t.a.we, .bool t.a.ad, .bool t.a.aw, .int .u64 t.b.mi, .int .u64 t.b.ho, .int .u64 t.b.da, .int .u64 t.b.mn, .int .u64 t.b.we, .bool t.b.ad, .bool t.b.aw] := by
  intro j v hv
  match j, hv with
  | 0, hv => simp at hv; subst hv; simpa using h.c3
  | 1, hv => simp at hv; subst hv; simpa using h.c4
  | 2, hv => simp at hv; subst hv; simpa using h.c5
  | 3, hv => simp at hv; subst hv; simpa using h.c6
  | 4, hv => simp at hv; subst hv; simpa using h.c7
  | 5, hv => simp at hv; subst hv; simpa using h.c8
  | 6, hv => simp at hv; subst hv; simpa using h.c9
  | 7, hv => simp at hv; subst hv; simpa using h.c10
  | 8, hv => simp at hv; subst hv; simpa using h.c11
  | 9, hv => simp at hv; subst hv; simpa using h.c12
  | 10, hv => simp at hv; subst hv; simpa using h.c13
  | 11, hv => simp at hv; subst hv; simpa using h.c14
  | 12, hv => simp at hv; subst hv; simpa using h.c15
  | 13, hv => simp at hv; subst hv; simpa using h.c16
  | j + 14, hv => simp at hv
theorem wp_span {ops : Array Oper} {rest : List Oper} {d : Option Nat} {x : Operand} {ps : String} {af : Array Edge} {A : Act} {Q : Exit → Act → World → Prop} {w : World} {b : Nat} {t : Tr} (h : TrAt w b 0 t) (hx : A.eval x = .pointer (some ⟨b, 3, none⟩))
    (g : wpList Tryd.prog ops Q rest (A.put d (spanV t.a t.b)) w) : wpList Tryd.prog ops Q ({ dst := d, op := .load 39 x, type := 39, pos := ps, after := af, guard := none } :: rest) A w :=
  wpList_load_mid rfl 39 x rfl b 3 hx [.int .u64 t.a.mi, .int .u64 t.a.ho, .int .u64 t.a.da, .int .u64 t.a.mn, .int .u64 t.a.we, .bool t.a.ad, .bool t.a.aw, .int .u64 t.b.mi, .int .u64 t.b.ho, .int .u64 t.b.da, .int .u64 t.b.mn, .int .u64 t.b.we, .bool t.b.ad, .bool t.b.aw] _ (range_span h) Tryd.underlying39 rfl (by kernel_rfl) g
theorem wp_spanG {ops : Array Oper} {rest : List Oper} {d : Option Nat} {x : Operand} {ps : String} {af : Array Edge} {gd : Option (Nat × Bool)} {A : Act} {Q : Exit → Act → World → Prop} {w : World} {b : Nat} {t : Tr} (h : TrAt w b 0 t) (hx : A.eval x = .pointer (some ⟨b, 3, none⟩))
    (hg : Region.wanted { dst := d, op := .load 39 x, type := 39, pos := ps, after := af, guard := gd } (yielded ops A.tmps) = true)
    (g : wpList Tryd.prog ops Q rest (A.put d (spanV t.a t.b)) w) : wpList Tryd.prog ops Q ({ dst := d, op := .load 39 x, type := 39, pos := ps, after := af, guard := gd } :: rest) A w := by
  unfold wpList
  rw [if_pos hg]
  exact Or.inl (wp_load_mid 39 x rfl b 3 hx [.int .u64 t.a.mi, .int .u64 t.a.ho, .int .u64 t.a.da, .int .u64 t.a.mn, .int .u64 t.a.we, .bool t.a.ad, .bool t.a.aw, .int .u64 t.b.mi, .int .u64 t.b.ho, .int .u64 t.b.da, .int .u64 t.b.mn, .int .u64 t.b.we, .bool t.b.ad, .bool t.b.aw] _ (range_span h) Tryd.underlying39 rfl (by kernel_rfl) g)
end Ned
end Go.Proofs.YtcaobnmfgnbolafDoor
