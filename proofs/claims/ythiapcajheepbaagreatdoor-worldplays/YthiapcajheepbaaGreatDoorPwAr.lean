/- A part. -/
import Derived.WalkKit
import Derived.Test.YthiapcajheepbaaGreatDoorProg
set_option linter.all false
open Go.Proofs.Tryz
namespace Go.Proofs.YthiapcajheepbaaGreatDoor
theorem ar {α : Type} : (∀ (l : List α) (i : Nat) (a : α), l.toArray.setIfInBounds i a = (l.set i a).toArray) ∧ (∀ (x : α) (l : List α) (a : α), (x :: l).set 0 a = a :: l) ∧ (∀ (x : α) (l : List α) (i : Nat) (a : α), (x :: l).set (i + 1) a = x :: l.set i a) :=
  ⟨fun _ _ _ => List.setIfInBounds_toArray _ _ _, fun _ _ _ => List.set_cons_zero, fun _ _ _ _ => List.set_cons_succ⟩
theorem ag {α : Type} : (∀ (l : List α) (i : Nat) (h : i < l.toArray.size), l.toArray[i] = l[i]'(by simpa using h)) ∧ (∀ (x : α) (l : List α) (h : 0 < (x :: l).length), (x :: l)[0] = x) ∧ (∀ (x : α) (l : List α) (i : Nat) (h : i + 1 < (x :: l).length), (x :: l)[i + 1] = l[i]'(by simpa using h)) :=
  ⟨fun _ _ h => List.getElem_toArray h, fun _ _ _ => List.getElem_cons_zero _ _ _, fun _ _ _ _ => List.getElem_cons_succ _ _ _ _⟩
open Go.RowKit
abbrev CB (f : Nat) (a : Array Value) (w : World) (v : Value) : Prop := Calls Tryz.prog f a w fun e w' => e = .returned v ∧ Below w.heap.size w w'
abbrev CS (f : Nat) (a : Array Value) (w : World) (v : Value) : Prop := Calls Tryz.prog f a w fun e w' => e = .returned v ∧ w' = w
theorem zg {f : Nat} {a : Array Value} {w : World} {v : Value} {Q : Ending → World → Prop} {R : World → Prop} (c : Calls Tryz.prog f a w fun e w' => e = .returned v ∧ R w') (h : ∀ w', R w' → Q (.returned v) w') : Calls Tryz.prog f a w Q := c.mono fun _ _ ⟨h1, h2⟩ => by rw [h1]; exact h _ h2
theorem zq {f : Nat} {a : Array Value} {w : World} {v : Value} {Q : Ending → World → Prop} (c : CS f a w v) (h : Q (.returned v) w) : Calls Tryz.prog f a w Q := c.mono fun _ _ ⟨h1, h2⟩ => by rw [h1, h2]; exact h
theorem zh {p : Prop} (h : p) : Go.RowKit.Hid p := h
theorem zk {w w' : World} {k j : Nat} {v : Value} (h : w.cell? ⟨k, j, none⟩ = some v) (hb : Below w.heap.size w w') : w'.cell? ⟨k, j, none⟩ = some v := (hb.cell (p := ⟨k, j, none⟩) (World.block_lt_of_cell? w _ h)).trans h
theorem zu {w w1 w2 : World} (h : Below w.heap.size w w1) (g : Below w1.heap.size w1 w2) : Below w.heap.size w w2 := h.trans (g.mono h.size)
theorem zf {P : Program} {n : Nat} {x y : Func} (h : P.funcs[n]? = some x) (e : x = y := by kernel_rfl) : P.funcs[n]? = some y := h.trans (congrArg some e)
abbrev Xa := @Nat.le_refl
abbrev Xb := @Nat.lt_of_lt_of_le
abbrev Xc := @Nat.le_trans
abbrev Xd := @Go.World.cell?_setCell_other
abbrev Xe := @List.getElem?_eq_some_iff
abbrev Xf := @Go.World.cell?_of_block
abbrev Xg := @List.length_append
abbrev Xh := @Int.eq_ofNat_of_zero_le
abbrev Xi := @Go.World.frozen?_setCell
abbrev Xj := @Go.World.block_lt_of_cell?
abbrev Xk := @List.mem_of_getElem?
abbrev Xl := @Go.World.frozen?_of_block
abbrev Xm := @Nat.le_succ
abbrev Xn := @Go.World.cell?_setCell_same
abbrev Xo := @Nat.lt_succ_self
abbrev Xp := @List.mem_append
abbrev Xq := @Bool.and_eq_true
abbrev Xr := @List.length_cons
abbrev Xs := @Nat.lt_succ_of_lt
abbrev Xt := @List.length_take
abbrev Xu := @Int.le_refl
abbrev Xv := @Nat.zero_add
abbrev Xw := @Nat.le_of_lt
abbrev Xx := @Nat.zero_le
abbrev Xy := @List.mem_cons_of_mem
abbrev Xz := @List.getElem?_eq_getElem
abbrev XA := @List.mem_singleton
abbrev XB := @List.take_add_one
abbrev XC := @List.take_length
abbrev XD := @Nat.add_zero
abbrev XE := @List.length_map
abbrev XF := @List.mem_cons_self
abbrev XG := @List.mem_cons
abbrev XH := @Option.map_eq_some_iff
abbrev XI := @Int.toNat_natCast
abbrev XJ := @Bool.true_and
abbrev XK := @List.length_nil
abbrev XL := @Nat.lt_irrefl
abbrev XM := @Array.getElem?_eq_some_iff
abbrev XN := @Int.lt_or_le
abbrev XO := @Go.World.ownsRow_nil
abbrev XP := @Bool.and_false
abbrev XQ := @List.getElem?_map
abbrev XR := @List.cons_append
abbrev XS := @List.mem_map
abbrev XT := @List.length_drop
abbrev XU := @Bool.false_eq_true
abbrev XV := @List.map_cons
abbrev XW := @List.eq_nil_of_length_eq_zero
abbrev XX := @Go.Sem.run_bind
abbrev XY := @List.getElem?_append_left
abbrev XZ := @Option.some.inj
abbrev X2 := @List.map_append
abbrev X3 := @List.pairwise_append
abbrev X4 := @List.append_assoc
abbrev X5 := @List.map_nil
abbrev X6 := @List.count_le_length
abbrev X7 := @Array.getElem?_eq_getElem
abbrev X8 := @Go.Sem.run_pure
abbrev X9 := @Go.Result.andThen_ok
abbrev Ya := @Bool.false_or
abbrev Yb := @Bool.and_eq_false_iff
abbrev Yc := @Int.le_trans
abbrev Yd := @Nat.pow_le_pow_right
abbrev Ye := @List.all_eq_true
abbrev Yf := @List.nil_append
abbrev Yg := @List.length_set
abbrev Yh := @List.getElem?_append_right
abbrev Yi := @Array.getD_eq_getD_getElem?
abbrev Yj := @Go.IntKind.wrap_u64
abbrev Yk := @List.getElem?_drop
abbrev Yl := @Go.World.cell?_alloc_at
abbrev Ym := @List.map_toArray
abbrev Yn := @List.drop_eq_getElem_cons
abbrev Yo := @List.ext_getElem?
abbrev Yp := @List.countP_cons
abbrev Yq := @List.getD_eq_getElem?_getD
abbrev Yr := @List.mem_iff_getElem?
abbrev Ys := @List.getElem?_set_self
abbrev Yt := @List.getElem?_set_ne
abbrev Yu := @Nat.mul_le_mul_right
abbrev Yv := @List.findIdx?_eq_some_iff_getElem
abbrev Yw := @List.countP_le_length
abbrev Yx := @List.take_of_length_le
abbrev Yy := @List.length_eq_zero_iff
abbrev Yz := @List.take_append_drop
abbrev YA := @List.takeWhile_append_dropWhile
abbrev YB := @List.getElem?_eq_none
