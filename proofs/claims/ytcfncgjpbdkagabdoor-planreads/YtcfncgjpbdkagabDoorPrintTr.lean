/- What plan.printTrigger writes. What plan.Print answers, of a right plan. -/
import Derived.Test.YtcfncgjpbdkagabDoorPrintPlan
import Derived.Test.YtcfncgjpbdkagabDoorPk7
import Derived.Test.YtcfncgjpbdkagabDoorPlanCheck2
import Derived.Shelf.Strings.Builder1
namespace Go.Proofs.YtcfncgjpbdkagabDoor
namespace Pln
open Go.RowKit Lai Civ Crn RCrn
set_option maxRecDepth 8000

/-- the text of a cron -/
def kT (c : K) : List UInt8 := cronT (wds c.mi c.ho c.da c.mn c.we c.ad c.aw)
theorem printK (c : K) (w : World) (hB : BdsAt w) (hT : TabIs64 w) (u : Us c) (hc : kc c = true) :
    Calls Tryd.prog 62 #[kV c] w fun e w' => e = .returned (.tuple #[strV (kT c), .int .i64 0]) ∧ Below w.heap.size w w' :=
  print_yes c.mi c.ho c.da c.mn c.we c.ad c.aw w hB hT u.u0 u.u1 u.u2 u.u3 u.u4 hc (words_len u.u0 u.u1 u.u2 u.u3 u.u4 hc)
theorem kT_len (c : K) (u : Us c) (hc : kc c = true) : (kT c).length ≤ 7000 := cron_len (words_len u.u0 u.u1 u.u2 u.u3 u.u4 hc)
theorem cat_span (N A B : List UInt8) : ((((((⟨#[115, 112, 97, 110, 32]⟩ : ByteArray) ++ (⟨N.toArray⟩ : ByteArray)) ++ (⟨#[32]⟩ : ByteArray)) ++ (⟨A.toArray⟩ : ByteArray)) ++ (⟨#[32, 47, 32]⟩ : ByteArray)) ++ (⟨B.toArray⟩ : ByteArray)) ++ (⟨#[10]⟩ : ByteArray) = ⟨(wSpan ++ [32] ++ N ++ [32] ++ A ++ [32, 47, 32] ++ B ++ [10]).toArray⟩ := by
  rw [show (⟨#[115, 112, 97, 110, 32]⟩ : ByteArray) = ⟨([115, 112, 97, 110, 32] : List UInt8).toArray⟩ from rfl, show (⟨#[32]⟩ : ByteArray) = ⟨([32] : List UInt8).toArray⟩ from rfl, show (⟨#[32, 47, 32]⟩ : ByteArray) = ⟨([32, 47, 32] : List UInt8).toArray⟩ from rfl, show (⟨#[10]⟩ : ByteArray) = ⟨([10] : List UInt8).toArray⟩ from rfl, str_add, str_add, str_add, str_add, str_add, str_add]
  rfl
theorem TrAt.on {w w' : World} {b o n : Nat} {t : Tr} (h : TrAt w b o t) (hb : Below n w w') (hn : b < n) : TrAt w' b o t :=
  ⟨(hb.cell (p := ⟨b, o, none⟩) hn).trans h.c0, (hb.cell (p := ⟨b, o + 1, none⟩) hn).trans h.c1, (hb.cell (p := ⟨b, o + 2, none⟩) hn).trans h.c2, (hb.cell (p := ⟨b, o + 3, none⟩) hn).trans h.c3, (hb.cell (p := ⟨b, o + 4, none⟩) hn).trans h.c4, (hb.cell (p := ⟨b, o + 5, none⟩) hn).trans h.c5, (hb.cell (p := ⟨b, o + 6, none⟩) hn).trans h.c6, (hb.cell (p := ⟨b, o + 7, none⟩) hn).trans h.c7, (hb.cell (p := ⟨b, o + 8, none⟩) hn).trans h.c8, (hb.cell (p := ⟨b, o + 9, none⟩) hn).trans h.c9, (hb.cell (p := ⟨b, o + 10, none⟩) hn).trans h.c10, (hb.cell (p := ⟨b, o + 11, none⟩) hn).trans h.c11, (hb.cell (p := ⟨b, o + 12, none⟩) hn).trans h.c12, (hb.cell (p := ⟨b, o + 13, none⟩) hn).trans h.c13, (hb.cell (p := ⟨b, o + 14, none⟩) hn).trans h.c14, (hb.cell (p := ⟨b, o + 15, none⟩) hn).trans h.c15, (hb.cell (p := ⟨b, o + 16, none⟩) hn).trans h.c16⟩
/-- a trigger's second cron, its target -/
theorem TrAt.end7 {w : World} {b : Nat} {t : Tr} (h : TrAt w b 0 t) : w.cell? ⟨b, 1, none⟩ = some (.int .i64 t.tg) ∧ w.cell? ⟨b, 10, none⟩ = some (.int .u64 t.b.mi) ∧ w.cell? ⟨b, 11, none⟩ = some (.int .u64 t.b.ho) ∧ w.cell? ⟨b, 12, none⟩ = some (.int .u64 t.b.da) ∧ w.cell? ⟨b, 13, none⟩ = some (.int .u64 t.b.mn) ∧ w.cell? ⟨b, 14, none⟩ = some (.int .u64 t.b.we) ∧ w.cell? ⟨b, 15, none⟩ = some (.bool t.b.ad) ∧ w.cell? ⟨b, 16, none⟩ = some (.bool t.b.aw) := by
  have h1 := h.c1; have h10 := h.c10; have h11 := h.c11; have h12 := h.c12; have h13 := h.c13; have h14 := h.c14; have h15 := h.c15; have h16 := h.c16
  simp only [Nat.zero_add] at h1 h10 h11 h12 h13 h14 h15 h16
  exact ⟨h1, h10, h11, h12, h13, h14, h15, h16⟩
/-- two numbers in a new slice -/
theorem two_cells (w : World) (A : Array Value) (ta : TypeId) (x y : Int) : ∀ (j : Nat) n, [x, y][j]? = some n → ((w.alloc (.cells A ta)).alloc (.cells #[.int .i64 x, .int .i64 y] 3)).cell? ⟨w.heap.size + 1, j, none⟩ = some (.int .i64 n) := by
  intro j n hj
  have e : w.heap.size + 1 = (w.alloc (.cells A ta)).heap.size := by simp
  match j, hj with
  | 0, hj => simp at hj; subst hj; rw [e]; simp
  | 1, hj => simp at hj; subst hj; rw [e]; simp
  | j + 2, hj => simp at hj
theorem pline2 (word : List UInt8) (x y : Int) (B : Nat) (w : World) (hP : PowAt w) (hI : ∀ n ∈ [x, y], I n) (hw : word.length ≤ 100) (hc : ∀ (j : Nat) n, [x, y][j]? = some n → w.cell? ⟨B, j, none⟩ = some (.int .i64 n)) (hB : B < w.heap.size) :
    Calls Tryd.prog 32 #[.string ⟨word.toArray⟩, .slice (some ⟨B, 0, none⟩) 2 2] w fun e w' => e = .returned (strV (lnT word [x, y] ++ [10])) ∧ Below w.heap.size w w' :=
  pline_any word [x, y] B 2 w hP (by simp) hI hw hc hB
set_option maxHeartbeats 4000000 in
theorem ptr_two (k tg ac : Int) (a b : K) (w : World) (hP : PowAt w) (hk : k = 1 ∨ k = 2) (h1 : I tg) (h2 : I ac) :
    Calls Tryd.prog 33 #[trV ⟨k, tg, ac, a, b⟩] w fun e w' => e = .returned (strV (trT kT ⟨k, tg, ac, a, b⟩ ++ [10])) ∧ Below w.heap.size w w' := by
  have hI : ∀ n ∈ [tg, ac], I n := fun n hn => by
    simp only [List.mem_cons, List.not_mem_nil, or_false] at hn
    rcases hn with rfl | rfl
    · exact h1
    · exact h2
  have hP2 := fun o p => hP.below (balloc2 o p) (Nat.le_refl _)
  rcases hk with rfl | rfl
  · have HT : Hid (trT kT ⟨1, tg, ac, a, b⟩ = lnT wLag [tg, ac]) := rfl
    go_enter Tryd.func33, Tryd.ntmps33
    go_wp2_with (go_at_call 32; (with_reducible refine (pline2 [108, 97, 103] tg ac (w.heap.size + 1) _ (hP2 _ _) hI (by decide) (two_cells _ _ _ _ _) (by simp)).mono ?_); rintro e w1 ⟨rfl, hb1⟩)
    go_ret
    exact ⟨by rw [HT.out]; rfl, ballocs hb1⟩
  · have HT : Hid (trT kT ⟨2, tg, ac, a, b⟩ = lnT wDepth [tg, ac]) := rfl
    go_enter Tryd.func33, Tryd.ntmps33
    go_wp2_with (go_at_call 32; (with_reducible refine (pline2 [100, 101, 112, 116, 104] tg ac (w.heap.size + 1) _ (hP2 _ _) hI (by decide) (two_cells _ _ _ _ _) (by simp)).mono ?_); rintro e w1 ⟨rfl, hb1⟩)
    go_ret
    exact ⟨by rw [HT.out]; rfl, ballocs hb1⟩
set_option maxHeartbeats 4000000 in
theorem ptr_span (tg ac : Int) (a b : K) (w : World) (hB : BdsAt w) (hT : TabIs64 w) (hP : PowAt w) (h1 : I tg) (ua : Us a) (ub : Us b) (ha : kc a = true) (hb : kc b = true) :
    Calls Tryd.prog 33 #[trV ⟨3, tg, ac, a, b⟩] w fun e w' => e = .returned (strV (trT kT ⟨3, tg, ac, a, b⟩ ++ [10])) ∧ Below w.heap.size w w' := by
  have HT : Hid (trT kT ⟨3, tg, ac, a, b⟩ = wSpan ++ [32] ++ Lib.itoa tg ++ [32] ++ kT a ++ [32, 47, 32] ++ kT b) := rfl
  have c1 := fun w hB hT => printK a w hB hT ua ha
  have c2 := fun w hB hT => printK b w hB hT ub hb
  have c3 := fun w hP => itoa_any tg h1 w hP
  have l1 := kT_len a ua ha
  have l2 := kT_len b ub hb
  have l3 := itoa_len20 h1
  have hB0 := fun o => hB.below (balloc o) (Nat.le_refl _)
  have hT0 := fun o => hT.below (balloc o) (Nat.le_refl _)
  clear ua ub ha hb h1
  generalize kT a = A at c1 l1 HT
  generalize kT b = B at c2 l2 HT
  generalize Lib.itoa tg = N at c3 l3 HT
  have z1 : (⟨A.toArray⟩ : ByteArray).size = A.length := rfl
  have z2 : (⟨B.toArray⟩ : ByteArray).size = B.length := rfl
  have z3 : (⟨N.toArray⟩ : ByteArray).size = N.length := rfl
  have hN0 := TrAt.new w ⟨3, tg, ac, a, b⟩ 63
  go_enter Tryd.func33, Tryd.ntmps33
  go_wp2_with (first
    | (go_at_call 62; (with_reducible refine (c1 _ (hB0 _) (hT0 _)).mono ?_); rintro e w1 ⟨rfl, hb1⟩; have hw1 : Below w.heap.size w w1 := (balloc _).trans (hb1.mono (by simp)); have hB1 := hB.below hw1 (Nat.le_refl _); have hT1 := hT.below hw1 (Nat.le_refl _); have hN1 := hN0.on hb1 (by simp); have hz1 : w.heap.size < w1.heap.size := Nat.lt_of_lt_of_le (by simp) hb1.size; obtain ⟨-, e10, e11, e12, e13, e14, e15, e16⟩ := hN1.end7)
    | (go_at_call 62; (with_reducible refine (c2 _ hB1 hT1).mono ?_); rintro e w2 ⟨rfl, hb2⟩; have hw2 : Below w.heap.size w w2 := hw1.trans (hb2.mono hw1.size); have hP2 := hP.below hw2 (Nat.le_refl _); obtain ⟨e1, -⟩ := (hN1.on hb2 hz1).end7)
    | (go_at_call 29; (with_reducible refine (c3 _ hP2).mono ?_); rintro e w3 ⟨rfl, hb3⟩; have hw3 : Below w.heap.size w w3 := hw2.trans (hb3.mono hw2.size)))
  go_ret
  exact ⟨by rw [HT.out]; exact ret_str' (cat_span N A B), hw3⟩
end Pln
end Go.Proofs.YtcfncgjpbdkagabDoor
namespace Go.Proofs.YtcfncgjpbdkagabDoor
namespace Pln
open Go.RowKit Lai Civ Crn RCrn
set_option maxRecDepth 8000

theorem PlAt.new' (w : World) (p : Pd) (sl : Value) (ta : TypeId) : PlAt (w.alloc (.cells (planC p sl) ta)) w.heap.size p sl := by
  constructor <;> simp
theorem bwrite (B b : Nat) (bs : List Value) (s : ByteArray) (w : World) (h : Lib.IsBuilder 71 5 B b bs w) (hlen : bs.length + s.size ≤ 140737488355328) (hBw : B ≤ w.heap.size) :
    Calls Tryd.prog 31 #[.pointer (some ⟨b, 0, none⟩), .string s] w fun e w' => e = .returned (.tuple #[.int .i64 s.size, .nilIface]) ∧ (Lib.BuilderAt 71 5 B b (.pointer (some ⟨b, 0, none⟩)) (bs ++ Lib.strCells s) w' ∧ Below B w w') :=
  Any.Builder_WriteString { Tryd.lays156 with } Tryd.Builder_Extra_156 B b bs s w h hlen hBw
theorem bat_below {T e : TypeId} {B b : Nat} {p : Value} {bs : List Value} {w w' : World} (h : Lib.BuilderAt T e B b p bs w) (hb : Below w.heap.size w w') : Lib.BuilderAt T e B b p bs w' := by
  have hlt := h.lt
  obtain ⟨hB, v, hk, hown, hne⟩ := h
  exact ⟨hB, v, by rw [hb.block b hlt]; exact hk, own_below hown hb (fun g hg => (hown.lt g hg).2), hne⟩
theorem bld_below {T e : TypeId} {B b : Nat} {bs : List Value} {w w' : World} (h : Lib.IsBuilder T e B b bs w) (hb : Below w.heap.size w w') : Lib.IsBuilder T e B b bs w' := by
  rcases h with h | h
  · exact Or.inl (bat_below h hb)
  · exact Or.inr (bat_below h hb)
/-- where Print stands: what is written; the plan; the builder, in block G -/
structure PrS (w : World) (G : Nat) (p : Pd) (sl : Value) (txt : List UInt8) (wr : World) : Prop where
  pl : PlAt wr w.heap.size p sl
  bd : Lib.IsBuilder 71 5 G G (Lib.byteCells txt) wr
  lt : w.heap.size < G
  bel : Below w.heap.size w wr
  le : G ≤ wr.heap.size
theorem PrS.below {w wr w' : World} {G : Nat} {p : Pd} {sl : Value} {txt : List UInt8} (h : PrS w G p sl txt wr) (hb : Below wr.heap.size wr w') : PrS w G p sl txt w' :=
  ⟨h.pl.on hb (Nat.lt_of_lt_of_le h.lt h.le), bld_below h.bd hb, h.lt, h.bel.trans (hb.mono h.bel.size), Nat.le_trans h.le hb.size⟩
theorem PrS.wrote {w wr w' : World} {G : Nat} {p : Pd} {sl : Value} {txt s : List UInt8} (h : PrS w G p sl txt wr) (hb : Lib.BuilderAt 71 5 G G (.pointer (some ⟨G, 0, none⟩)) (Lib.byteCells txt ++ Lib.strCells ⟨s.toArray⟩) w' ∧ Below G wr w') : PrS w G p sl (txt ++ s) w' := by
  refine ⟨h.pl.on hb.2 h.lt, Or.inr ?_, h.lt, h.bel.trans (hb.2.mono (Nat.le_of_lt h.lt)), Nat.le_trans h.le hb.2.size⟩
  have e : Lib.byteCells (txt ++ s) = Lib.byteCells txt ++ Lib.strCells ⟨s.toArray⟩ := by
    unfold Lib.byteCells Lib.strCells; rw [List.map_append]
  rw [e]; exact hb.1
theorem writeS {w wr : World} {G : Nat} {p : Pd} {sl : Value} {txt : List UInt8} (s : List UInt8) (h : PrS w G p sl txt wr) (hl : txt.length + s.length ≤ 1000000) :
    Calls Tryd.prog 31 #[.pointer (some ⟨G, 0, none⟩), .string ⟨s.toArray⟩] wr fun e w' => e = .returned (.tuple #[.int .i64 s.length, .nilIface]) ∧ PrS w G p sl (txt ++ s) w' :=
  (bwrite G G _ ⟨s.toArray⟩ wr h.bd (by rw [Lib.byteCells_length]; show txt.length + s.length ≤ _; omega) h.le).mono fun _ _ ⟨he, hb⟩ => ⟨he, h.wrote hb⟩
theorem pline4 (word : List UInt8) (x y z u : Int) (B : Nat) (w : World) (hP : PowAt w) (hI : ∀ n ∈ [x, y, z, u], I n) (hw : word.length ≤ 100) (hc : ∀ (j : Nat) n, [x, y, z, u][j]? = some n → w.cell? ⟨B, j, none⟩ = some (.int .i64 n)) (hB : B < w.heap.size) :
    Calls Tryd.prog 32 #[.string ⟨word.toArray⟩, .slice (some ⟨B, 0, none⟩) 4 4] w fun e w' => e = .returned (strV (lnT word [x, y, z, u] ++ [10])) ∧ Below w.heap.size w w' :=
  pline_any word [x, y, z, u] B 4 w hP (by simp) hI hw hc hB
theorem four_cells (w : World) (x y z u : Int) (B : Nat) (hB : B = w.heap.size) : ∀ (j : Nat) n, [x, y, z, u][j]? = some n → (w.alloc (.cells #[.int .i64 x, .int .i64 y, .int .i64 z, .int .i64 u] 3)).cell? ⟨B, j, none⟩ = some (.int .i64 n) := by
  intro j n hj
  subst hB
  match j, hj with
  | 0, hj => simp at hj; subst hj; simp
  | 1, hj => simp at hj; subst hj; simp
  | 2, hj => simp at hj; subst hj; simp
  | 3, hj => simp at hj; subst hj; simp
  | j + 4, hj => simp at hj
theorem I4 {x y z u : Int} (a : I x) (b : I y) (c : I z) (d : I u) : ∀ n ∈ [x, y, z, u], I n := fun n hn => by
  simp only [List.mem_cons, List.not_mem_nil, or_false] at hn
  rcases hn with rfl | rfl | rfl | rfl
  · exact a
  · exact b
  · exact c
  · exact d
theorem len4 {word : List UInt8} {x y z u : Int} (hw : word.length ≤ 100) (hI : ∀ n ∈ [x, y, z, u], I n) : (lnT word [x, y, z, u] ++ [10]).length ≤ 200 := by
  have := ln_len (word := word) hI
  simp only [List.length_append, List.length_cons, List.length_nil] at this ⊢
  omega
/-- the text up to line k -/
def hd1 (p : Pd) : List UInt8 := [] ++ (lnT (wPlan ++ [32] ++ p.nm) [p.mn, p.mx, p.po, p.co] ++ [10])
def hd2 (p : Pd) : List UInt8 := hd1 p ++ (lnT wRest [p.tl, p.bk, p.af, p.sh] ++ [10])
def hd3 (p : Pd) : List UInt8 := hd2 p ++ (lnT wUp [p.uw, p.up, p.uc, p.ue] ++ [10])
def hd4 (p : Pd) : List UInt8 := hd3 p ++ (lnT wDown [p.dw, p.dp, p.dc, p.de] ++ [10])
theorem hd_is (p : Pd) : hd4 p = headT p := by unfold hd4 hd3 hd2 hd1 headT; rw [List.nil_append]
theorem bld_new {w w1 : World} {p : Pd} {sl : Value} (hA : PlAt w1 w.heap.size p sl) (hz : w.heap.size < w1.heap.size) (hw : Below w.heap.size w w1) : PrS w w1.heap.size p sl [] (w1.alloc (.cells #[.pointer none, .slice none 0 0] 71)) :=
  ⟨hA.on (balloc _) hz, Lib.fresh_isBuilder _ _ w1, hz, hw.alloc hw.size _, by simp⟩
end Pln
end Go.Proofs.YtcfncgjpbdkagabDoor
