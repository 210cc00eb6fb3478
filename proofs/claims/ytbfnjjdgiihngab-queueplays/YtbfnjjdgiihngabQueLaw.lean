/- The law of a queue's loans, walked. -/
import Derived.Test.YtbfnjjdgiihngabQueDuo
import Derived.Test.YtbfnjjdgiihngabFrameSl
import Derived.Deep.RegionHeld
namespace Go.Proofs.Ytbfnjjdgiihngab
namespace Que
open Go.RowKit Frm
set_option maxRecDepth 8000

theorem cell_at {W : World} {cs : Array Value} {e : TypeId} {N j : Nat} {v : Value} (hN : N = W.heap.size) (hj : cs[j]? = some v) : (W.alloc (.cells cs e)).cell? ⟨N, j, none⟩ = some v := by
  subst hN; simpa using hj
/-- k loans are done -/
def PlayR (B Q D len : Nat) (w : World) (i : Value) (wr : World) : Prop :=
  ∃ (k : Nat) (last : Int) (v u : Value) (L : List M), k ≤ len ∧ i = .int .i64 k ∧ Duo wr B Q D last last v u L L ∧ Inv L last ∧ last ≤ 200 * k ∧ Below w.heap.size w wr
theorem duo_new (w : World) (w6 : World) (hA : QAt w6 54 w.heap.size w.heap.size 0 1 0 (.slice none 0 0) []) : Duo (w6.alloc (.cells #[.slice none 0 0, .int .i64 0] 44)) w.heap.size w.heap.size w6.heap.size 0 0 (.slice none 0 0) (.slice none 0 0) [] [] := by
  have hl := hA.lt
  exact ⟨hA.alloc _, ⟨by simp, by omega, cell_at rfl rfl, cell_at rfl rfl, fun j => by simp, World.ownsRow_nil _ _ _ _, by simp [Value.ownBlock]⟩, by omega, by simp [Value.ownBlock], by simp [Value.ownBlock], by simp [Value.ownBlock]⟩

theorem off_cell {w w' : World} {Q c j : Nat} {v v' x : Value} (t : Turn Q v v' w w') (h : w.cell? ⟨c, j, none⟩ = some x) (hv : v.ownBlock ≠ some c) : v'.ownBlock ≠ some c := fun e => by
  have := World.block_lt_of_cell? w _ h
  rcases t.loc c e with a | a
  · exact hv a
  · simp at this; omega
def OffR (w : World) (R : List M) (ao : Option Addr) (Q D : Nat) (v u : Value) : Prop := R ≠ [] → Off w ao Q D v u
theorem nil_of {R : List M} (h : ¬ R ≠ []) : R = [] := Classical.byContradiction h
/-- a row that the program's All has made -/
theorem off_new {w w' : World} {B Q D : Nat} {lq ld : Int} {v u v' : Value} {Lq Ld R : List M} {ao : Option Addr} (h : Duo w B Q D lq ld v u Lq Ld) (hR : RowAt w' ao R) (hn : ∀ g, ao = some ⟨g, 0, none⟩ → w.heap.size ≤ g) (ho : ∀ g, ao = some ⟨g, 0, none⟩ → v'.ownBlock ≠ some g) : OffR w' R ao Q D v' u := by
  intro hne g hg
  have h1 := hn g hg
  have := h.q.lt
  have := h.d.lt
  obtain ⟨g', e, h2, _⟩ := hR (List.length_pos_iff.2 hne)
  rw [hg] at e; cases e
  exact ⟨h2, by omega, by omega, ho g hg, fun e => by have := h.d.rowLt g e; omega⟩
/-- a row that the document's All has made -/
theorem off_newD {w w' : World} {B Q D : Nat} {lq ld : Int} {v u u' : Value} {Lq Ld R : List M} {ao : Option Addr} (h : Duo w B Q D lq ld v u Lq Ld) (hR : RowAt w' ao R) (hn : ∀ g, ao = some ⟨g, 0, none⟩ → w.heap.size ≤ g) (ho : ∀ g, ao = some ⟨g, 0, none⟩ → u'.ownBlock ≠ some g) : OffR w' R ao Q D v u' := by
  intro hne g hg
  have h1 := hn g hg
  have := h.q.lt
  have := h.d.lt
  obtain ⟨g', e, h2, _⟩ := hR (List.length_pos_iff.2 hne)
  rw [hg] at e; cases e
  exact ⟨h2, by omega, by omega, (fun e => by have := h.q.rowLt g e; omega), ho g hg⟩
theorem rowQ {w w' : World} {Q D : Nat} {v u v' : Value} {R : List M} {ao : Option Addr} (hR : RowAt w ao R) (hO : OffR w R ao Q D v u) (t : Turn Q v v' w w') : RowAt w' ao R ∧ OffR w' R ao Q D v' u := by
  refine ⟨fun hl => ?_, fun hne => (hO hne).left t⟩
  have hne : R ≠ [] := List.length_pos_iff.1 hl
  exact hR.turn (fun g hg => ⟨(hO hne g hg).2.1, (hO hne g hg).2.2.2.1⟩) t hl
theorem rowD {w w' : World} {Q D : Nat} {v u u' : Value} {R : List M} {ao : Option Addr} (hR : RowAt w ao R) (hO : OffR w R ao Q D v u) (t : Turn D u u' w w') : RowAt w' ao R ∧ OffR w' R ao Q D v u' := by
  refine ⟨fun hl => ?_, fun hne => (hO hne).right t⟩
  have hne : R ≠ [] := List.length_pos_iff.1 hl
  exact hR.turn (fun g hg => ⟨(hO hne g hg).2.2.1, (hO hne g hg).2.2.2.2⟩) t hl

theorem plays_long (w : World) (a1 : Option Addr) (len cap : Nat) (h3 : 100 < len) :
    Calls Try.prog 4 #[.slice a1 len cap] w fun e w' => e = .returned (.bool true) ∧ Below w.heap.size w w' := by
  have h3' : (100 : Int) < len := by omega
  go_enter Try.func4, Try.ntmps4
  go_wp2
  go_ret
  exact ⟨rfl, Below.refl _ _⟩
set_option maxHeartbeats 8000000 in
theorem plays_yes (w : World) (a1 : Option Addr) (len cap : Nat) (X : Nat → Nat → Int) (h3 : len ≤ 100) (hX : Frm.RowsIn w a1 len 3 X) :
    Calls Try.prog 4 #[.slice a1 len cap] w fun e w' => e = .returned (.bool true) ∧ Below w.heap.size w w' := by
  have h3' : ¬ (100 : Int) < len := by omega
  have c1 := fun w => new_any w
  go_enter Try.func4, Try.ntmps4
  go_wp2_with (go_at_call 14; (with_reducible refine (c1 _).mono ?_); rintro e w6 ⟨rfl, hA6, hb6⟩)
  have hD := duo_new w w6 hA6
  have hb7 : Below w.heap.size w (w6.alloc (.cells #[.slice none 0 0, .int .i64 0] 44)) := hb6.alloc hb6.size _
  clear c1 hA6
  go_loopw [32] (fun i wr => PlayR w.heap.size w.heap.size w6.heap.size len w i wr) (fun i _ => len - (intOf i).toNat)
  case atStart => exact ⟨0, 0, _, _, [], by omega, rfl, hD, Inv.nil, by omega, hb7⟩
  case round =>
    clear hD hb7
    obtain ⟨k, last, v, u, L, hk, rfl, hD, hI, hla, hbw⟩ := hrel
    by_cases hlt : k < len
    · have hlt' : (k : Int) < len := by omega
      obtain ⟨b, off, rfl, hbl, hcell⟩ := (hX.below hbw (Nat.le_refl _)) k hlt
      have k0 : wr.cell? ⟨b, off + k * 3, none⟩ = some (.int .i64 (X k 0)) := by have := (hcell 0 (by omega)).1; simpa using this
      have k1 : wr.cell? ⟨b, off + k * 3 + 1, none⟩ = some (.int .i64 (X k 1)) := by have := (hcell 1 (by omega)).1; simpa [Nat.add_assoc] using this
      have k2 : wr.cell? ⟨b, off + k * 3 + 2, none⟩ = some (.int .i64 (X k 2)) := by have := (hcell 2 (by omega)).1; simpa [Nat.add_assoc] using this
      have u0 := (hcell 0 (by omega)).2
      have u1 := (hcell 1 (by omega)).2
      have u2 := (hcell 2 (by omega)).2
      clear hcell
      generalize X k 0 = kd at k0 u0
      generalize X k 1 = p at k1 u1
      generalize X k 2 = x at k2 u2
      have hDW : Duo (wr.alloc (.cells #[.int .i64 kd, .int .i64 p, .int .i64 x] 46)) w.heap.size w.heap.size w6.heap.size last last v u L L := hD.below ((Below.refl _ _).alloc (Nat.le_refl _) _)
      have hbW : Below w.heap.size w (wr.alloc (.cells #[.int .i64 kd, .int .i64 p, .int .i64 x] 46)) := hbw.alloc hbw.size _
      have e0 : (wr.alloc (.cells #[.int .i64 kd, .int .i64 p, .int .i64 x] 46)).cell? ⟨wr.heap.size, 0, none⟩ = some (.int .i64 kd) := cell_at rfl rfl
      have e1 : (wr.alloc (.cells #[.int .i64 kd, .int .i64 p, .int .i64 x] 46)).cell? ⟨wr.heap.size, 1, none⟩ = some (.int .i64 p) := cell_at rfl rfl
      have e2 : (wr.alloc (.cells #[.int .i64 kd, .int .i64 p, .int .i64 x] 46)).cell? ⟨wr.heap.size, 2, none⟩ = some (.int .i64 x) := cell_at rfl rfl
      have n1 : wr.heap.size ≠ w.heap.size := by have := hD.q.lt; omega
      have n2 : wr.heap.size ≠ w6.heap.size := by have := hD.d.lt; omega
      have n3 : v.ownBlock ≠ some wr.heap.size := fun e => by have := hD.q.rowLt _ e; omega
      have n4 : u.ownBlock ≠ some wr.heap.size := fun e => by have := hD.d.rowLt _ e; omega
      clear hD hbw
      by_cases hk0 : kd = 0
      · subst hk0
        obtain ⟨a, bb, L', last', hI', hl', cQ, cD⟩ := put_both x L last hI (by omega)
        dsimp only [Does] at cQ cD
        go_wp2_with (first
          | (go_at_call 15; (with_reducible refine (cQ _ _ _ _ hDW.q).mono ?_); rintro e w8 ⟨rfl, v8, hA8, hT8⟩; have hD8 := hDW.left hA8 hT8; have hb8 := hbW.trans (hDW.turnQ hT8); have f2 := hT8.cell e2 n1 n3)
          | (go_at_call 16; (with_reducible refine (cD _ _ _ _ hD8.d).mono ?_); rintro e w9 ⟨rfl, u9, hA9, hT9⟩; have hD9 := hD8.right hA9 hT9; have hb9 := hb8.trans (hD8.turnD hT9)))
        go_roundw
        case rel => exact ⟨k + 1, last', v8, u9, L', by omega, rfl, hD9, hI', by omega, hb9⟩
        case measure => simp [intOf]; omega
      · by_cases hk1 : kd = 1
        · subst hk1
          obtain ⟨a, bb, L', hI', cQ, cD⟩ := lease_both p x L last hI
          dsimp only [Does] at cQ cD
          go_wp2_with (first
            | (go_at_call 17; (with_reducible refine (cQ _ _ _ _ hDW.q).mono ?_); rintro e w8 ⟨rfl, v8, hA8, hT8⟩; have hD8 := hDW.left hA8 hT8; have hb8 := hbW.trans (hDW.turnQ hT8); have f1 := hT8.cell e1 n1 n3; have f2 := hT8.cell e2 n1 n3)
            | (go_at_call 18; (with_reducible refine (cD _ _ _ _ hD8.d).mono ?_); rintro e w9 ⟨rfl, u9, hA9, hT9⟩; have hD9 := hD8.right hA9 hT9; have hb9 := hb8.trans (hD8.turnD hT9)))
          go_roundw
          case rel => exact ⟨k + 1, last, v8, u9, L', by omega, rfl, hD9, hI', by omega, hb9⟩
          case measure => simp [intOf]; omega
        · by_cases hk2 : kd = 2
          · subst hk2
            obtain ⟨bb, L', hI', cQ, cD⟩ := ack_both p x L last hI
            dsimp only [Does] at cQ cD
            go_wp2_with fail
            clear k0 k1 k2 hI
            generalize wr.alloc (.cells #[.int .i64 2, .int .i64 p, .int .i64 x] 46) = W at *
            generalize wr.heap.size = C at *
            go_region_held (fun w' => w'.cell? ⟨C, 1, none⟩ = some (.int .i64 p) ∧ w'.cell? ⟨C, 2, none⟩ = some (.int .i64 x)) (first | exact ⟨g1, g2⟩ | exact ⟨f1, f2⟩ | exact ⟨e1, e2⟩) (first
              | (go_at_call 19; (with_reducible refine (cQ _ _ _ _ hDW.drew.q).mono ?_); rintro e w8 ⟨rfl, v8, hA8, hT8⟩; have hD8 := hDW.drew.left hA8 hT8; have hb8 := hbW.drew.trans (hDW.drew.turnQ hT8); have f1 := hT8.cell (w := W.drew) e1 n1 n3; have f2 := hT8.cell (w := W.drew) e2 n1 n3)
              | (go_at_call 20; (with_reducible refine (cD _ _ _ _ hD8.d).mono ?_); rintro e w9 ⟨rfl, u9, hA9, hT9⟩; have hD9 := hD8.right hA9 hT9; have hb9 := hb8.trans (hD8.turnD hT9); have g1 := hT9.cell f1 n2 n4; have g2 := hT9.cell f2 n2 n4))
            go_wp2
            go_roundw
            case rel => exact ⟨k + 1, last, v8, u9, L', by omega, rfl, hD9, hI', by omega, hb9⟩
            case measure => simp [intOf]; omega
          · by_cases hk3 : kd = 3
            · subst hk3
              obtain ⟨bb, L', R, hI', hR, cQ, cD⟩ := all_both p L last hI
              obtain ⟨a2, b2, L2, hI2, cQ2, cD2⟩ := depth_both p L' last hI'
              dsimp only [Does] at cQ2 cD2
              dsimp only [Tells] at cQ cD
              go_wp2_with (first
                | (go_at_call 21; (with_reducible refine (cQ _ _ _ _ hDW.q).mono ?_); rintro e w8 ⟨ao, ca, rfl, hR8, hn8, v8, ho8, hA8, hT8⟩; have hD8 := hDW.left hA8 hT8; have hb8 := hbW.trans (hDW.turnQ hT8); have f1 := hT8.cell e1 n1 n3; have m3 := off_cell hT8 e1 n3; have hO8 := off_new hDW hR8 hn8 ho8)
                | (go_at_call 22; (with_reducible refine (cD _ _ _ _ hD8.d).mono ?_); rintro e w9 ⟨bo, cb, rfl, hS9, hn9, u9, ho9, hA9, hT9⟩; have hD9 := hD8.right hA9 hT9; have hb9 := hb8.trans (hD8.turnD hT9); have g1 := hT9.cell f1 n2 n4; have m4 := off_cell hT9 f1 n4; have hP9 := off_newD hD8 hS9 hn9 ho9; obtain ⟨hR9, hO9⟩ := rowD hR8 hO8 hT9)
                | (go_at_call 23; (with_reducible refine (cQ2 _ _ _ _ hD9.q).mono ?_); rintro e w10 ⟨rfl, v10, hA10, hT10⟩; have hD10 := hD9.left hA10 hT10; have hb10 := hb9.trans (hD9.turnQ hT10); have i1 := hT10.cell g1 n1 m3; obtain ⟨hR10, hO10⟩ := rowQ hR9 hO9 hT10; obtain ⟨hS10, hP10⟩ := rowQ hS9 hP9 hT10)
                | (go_at_call 24; (with_reducible refine (cD2 _ _ _ _ hD10.d).mono ?_); rintro e w11 ⟨rfl, u11, hA11, hT11⟩; have hD11 := hD10.right hA11 hT11; have hb11 := hb10.trans (hD10.turnD hT11); obtain ⟨hR11, hO11⟩ := rowD hR10 hO10 hT11; obtain ⟨hS11, hP11⟩ := rowD hS10 hP10 hT11)
                | (go_at_call 25; (with_reducible refine (equal_msgs ao bo R _ _ _ hR11 hS11 hR).mono ?_); rintro e w12 ⟨rfl, q, h9⟩; have hb12 : Below w11.heap.size w11 w12 := (by rw [h9]; exact ⟨rfl, rfl, rfl, Nat.le_refl _, fun _ _ => rfl⟩); clear h9))
              go_roundw
              case rel => exact ⟨k + 1, last, v10, u11, L2, by omega, rfl, hD11.below hb12, hI2, by omega, hb11.trans (hb12.mono hb11.size)⟩
              case measure => simp [intOf]; omega
            · go_wp2
              go_roundw
              case rel => exact ⟨k + 1, last, v, u, L, by omega, rfl, hDW, hI, by omega, hbW⟩
              case measure => simp [intOf]; omega
    · obtain rfl : k = len := by omega
      go_wp2
      go_ret
      exact ⟨rfl, hbw⟩
end Que
end Go.Proofs.Ytbfnjjdgiihngab
