
/- The law of who is given something, walked. -/
import Derived.Test.YtomdimljcbnnnagFltEvenW
import Derived.Test.YtomdimljcbnnnagFrameSl
import Derived.Deep.Onto
namespace Go.Proofs.Ytomdimljcbnnnag
namespace Flt
open Go.RowKit Rw Rec Frm
set_option maxRecDepth 8000

/-- k orders are done -/
def EvR (Q len : Nat) (w : World) (i : Value) (wr : World) : Prop :=
  ∃ (k : Nat) (v : Value) (F : FS), k ≤ len ∧ i = .int .i64 k ∧ FAt wr w.heap.size Q v F ∧ Inv F ∧ F.last ≤ 50 * k ∧ Below w.heap.size w wr
theorem all_any2 (B Q : Nat) (v : Value) (F : FS) (w : World) (hA : FAt w B Q v F) (hL : F.L.length ≤ 1000000000) :
    Calls Try.prog 18 #[.pointer (some ⟨Q, 0, none⟩)] w fun e w' => ∃ G, e = .returned (.slice (some ⟨G, 0, none⟩) F.L.length F.L.length) ∧ w.heap.size ≤ G ∧ RowAt pK w' (some ⟨G, 0, none⟩) F.L ∧ Below w.heap.size w w' := by
  refine (all_any B Q v F w hA hL).mono ?_
  rintro e w' ⟨rfl, h1, h2⟩
  exact ⟨_, rfl, Nat.le_refl _, h1, h2⟩
/-- what All has told, behind Give -/
theorem even_keep {w8 w9 w10 : World} {B Q G : Nat} {v8 v10 : Value} {F1 : FS} {x : Value} {e : TypeId} (hA8 : FAt w8 B Q v8 F1) (hG : w8.heap.size ≤ G) (hb9 : Below w8.heap.size w8 w9) (hR9 : RowAt pK w9 (some ⟨G, 0, none⟩) F1.L) (hT : Turn Q v8 v10 (w9.alloc (.cells #[x] e)) w10) :
    RowAt pK w10 (some ⟨G, 0, none⟩) F1.L ∧ w10.cell? ⟨w9.heap.size, 0, none⟩ = some x ∧ w9.heap.size < w10.heap.size := by
  have h1 := hA8.lt
  have h2 := hb9.size
  refine ⟨(hR9.below ((Below.refl _ _).alloc (Nat.le_refl _) _)).turn (fun g hg => ?_) hT, hT.cell (cell_one rfl rfl) (by omega) (fun e => ?_), by have := hT.size; simp at this; omega⟩
  · cases hg
    exact ⟨by omega, fun e => by have := hA8.rowLt _ e; omega⟩
  · have := hA8.rowLt _ e; omega
theorem even_keep2 {w10 w11 : World} {g C n i : Nat} {p : Pd} {L : List Pd} {o : Obj} (hR : RowAt pK w10 (some ⟨g, 0, none⟩) L) (hC : w10.cell? ⟨C, 0, none⟩ = some (.slice (some ⟨g, 0, none⟩) n n)) (hb : Below (w10.alloc o).heap.size (w10.alloc o) w11) (hp : L[i]? = some p) :
    RowAt pK w11 (some ⟨g, 0, none⟩) L ∧ w11.cell? ⟨C, 0, none⟩ = some (.slice (some ⟨g, 0, none⟩) n n) ∧ w11.cell? ⟨g, i * 3 + 2, none⟩ = some (.int .i64 p.ld) ∧ w11.cell? ⟨g, i * 3 + 1, none⟩ = some (.int .i64 p.st) ∧ C < w11.heap.size ∧ g < w11.heap.size := by
  have hb1 : Below w10.heap.size w10 w11 := ((Below.refl _ _).alloc (Nat.le_refl _) o).trans (hb.mono (by simp))
  have hR1 := hR.below hb1
  obtain ⟨g', hg, hgl, hc⟩ := row_pod hR1 (by have := (List.getElem?_eq_some_iff.1 hp).1; omega)
  cases hg
  obtain ⟨_, h1, h2⟩ := hc i p hp
  exact ⟨hR1, (hb1.cell (World.block_lt_of_cell? _ _ hC)).trans hC, h2, h1, Nat.lt_of_lt_of_le (World.block_lt_of_cell? _ _ hC) hb1.size, hgl⟩
theorem even_rel {w w10 w11 w12 : World} {Q len k : Nat} {v : Value} {F : FS} {o o2 : Obj} (hk : k < len) (hA : FAt w10 w.heap.size Q v F) (hI : Inv F) (hl : F.last ≤ 50 * ((k + 1 : Nat) : Int)) (hb : Below w.heap.size w w10) (hb11 : Below (w10.alloc o).heap.size (w10.alloc o) w11) (hb12 : Below (w11.alloc o2).heap.size (w11.alloc o2) w12) : EvR Q len w (.int .i64 ((k + 1 : Nat) : Int)) w12 := by
  have h1 : Below w10.heap.size w10 w11 := ((Below.refl _ _).alloc (Nat.le_refl _) o).trans (hb11.mono (by simp))
  have h2 : Below w11.heap.size w11 w12 := ((Below.refl _ _).alloc (Nat.le_refl _) o2).trans (hb12.mono (by simp))
  have h3 := h1.trans (h2.mono h1.size)
  exact ⟨k + 1, v, F, by omega, rfl, hA.below h3, hI, hl, hb.trans (h3.mono hb.size)⟩
/-- the orders, ahead of All -/
theorem order_any {w w8 : World} {B Q f : Nat} {args : Nat → Array Value} {F F1 : FS} {e : Ending} {v : Value} (hd : Does f args F F1 e) (hA : FAt w8 B Q v F) (hb : Below B w w8) :
    Calls Try.prog f (args Q) w8 fun e' w' => e' = e ∧ ∃ v', FAt w' B Q v' F1 ∧ Below B w w' := by
  refine (hd B Q v w8 hA).mono ?_
  rintro e' w' ⟨rfl, v', hA', hT⟩
  exact ⟨rfl, v', hA', hb.trans (RAt.turned hA hT)⟩

theorem first_scale : scaleF ⟨mostN 2, 0, []⟩ 1 = ⟨2, 1, [⟨1, 1, 0⟩]⟩ := by kernel_rfl
theorem first_give : giveS ⟨2, 1, [⟨1, 1, 0⟩]⟩ = ⟨2, 1, [⟨1, 1, 0⟩]⟩ ∧ giveN ⟨2, 1, [⟨1, 1, 0⟩]⟩ = 0 ∧ giveE ⟨2, 1, [⟨1, 1, 0⟩]⟩ = 4 := ⟨by kernel_rfl, by kernel_rfl, by kernel_rfl⟩
theorem first_inv : Inv ⟨2, 1, [⟨1, 1, 0⟩]⟩ := by have := scaleF_inv (inv_new 2) 1; rw [first_scale] at this; exact this
/-- the fleet is owned from the law's own beginning on -/
theorem even_start {w5 : World} {B Q : Nat} {v : Value} {F : FS} (h : FAt w5 Q Q v F) (hB : B ≤ Q) : FAt w5 B Q v F := ⟨h.lt, hB, RAt.cQ h, RAt.cS h, h.fz, World.ownsRow.mono (RAt.own h) hB, h.ne⟩
set_option maxHeartbeats 8000000 in
theorem even_law (w : World) (a0 : Int) (a1 : Option Addr) (len cap : Nat) (X : Nat → Nat → Int) (h3 : len ≤ 150) (hX : Frm.RowsIn w a1 len 2 X) :
    Calls Try.prog 7 #[.int .i64 a0, .slice a1 len cap] w fun e w' => e = .returned (.bool true) ∧ Below w.heap.size w w' := by
  have h3' : ¬ (150 : Int) < len := by omega
  have c1 := fun w => new_any 2 w
  have c2 := scale_any ⟨mostN 2, 0, []⟩ 1 (inv_new 2) (by decide)
  rw [first_scale] at c2
  have c3 := fun B Q v w h => count_any B Q v ⟨2, 1, [⟨1, 1, 0⟩]⟩ w h (by decide)
  have c4 := give_any ⟨2, 1, [⟨1, 1, 0⟩]⟩ first_inv (by decide)
  rw [first_give.1, first_give.2.1, first_give.2.2] at c4
  have c5 := fun w => new_any a0 w
  dsimp only [Does, scaleE] at c2 c4
  go_enter Try.func7, Try.ntmps7
  go_wp2_with (first
    | (go_at_call 12; (with_reducible refine (c1 _).mono ?_); rintro e w1 ⟨rfl, hA1, hb1⟩)
    | (go_at_call 13; (with_reducible refine (c2 _ _ _ _ hA1).mono ?_); rintro e w2 ⟨rfl, v2, hA2, hT2⟩; have hb2 := hb1.trans (RAt.turned hA1 hT2))
    | (go_at_call 14; (with_reducible refine (c3 _ _ _ _ hA2).mono ?_); rintro e w3 ⟨rfl, hb3⟩; have hA3 := hA2.below hb3; have hbw3 := hb2.trans (hb3.mono hb2.size))
    | (go_at_call 17; (with_reducible refine (c4 _ _ _ _ hA3).mono ?_); rintro e w4 ⟨rfl, v4, hA4, hT4⟩; have hb4 := hbw3.trans (RAt.turned hA3 hT4))
    | (go_at_call 12; (with_reducible refine (c5 _).mono ?_); rintro e w5 ⟨rfl, hA5, hb5⟩; have hb5w := hb4.trans (hb5.mono hb4.size)))
  go_loopw [38] (fun i wr => EvR w4.heap.size len w i wr) (fun i _ => len - (intOf i).toNat)
  case atStart => exact ⟨0, _, _, by omega, rfl, even_start hA5 hb4.size, inv_new a0, by simp, hb5w⟩
  case round =>
    clear hA1 hA2 hA3 hA4 hA5 hb1 hb2 hb3 hbw3 hb4 hb5 hb5w hT2 hT4 c1 c2 c3 c4 c5
    generalize w4.heap.size = Q at *
    obtain ⟨k, v, F, hk, rfl, hA, hI, hla, hbw⟩ := hrel
    by_cases hlt : k < len
    · have hlt' : (k : Int) < len := by omega
      have hlen := hI.len
      have hLn : F.L.length ≤ 1000000000 := by omega
      obtain ⟨b, off, rfl, hbl, hcell⟩ := (hX.below hbw (Nat.le_refl _)) k hlt
      have k0 : wr.cell? ⟨b, off + k * 2, none⟩ = some (.int .i64 (X k 0)) := by have := (hcell 0 (by omega)).1; simpa using this
      have k1 : wr.cell? ⟨b, off + k * 2 + 1, none⟩ = some (.int .i64 (X k 1)) := by have := (hcell 1 (by omega)).1; simpa [Nat.add_assoc] using this
      clear hcell hX
      generalize X k 0 = kd at k0
      generalize X k 1 = x at k1
      have hAW := hA.alloc (.cells #[.int .i64 kd, .int .i64 x] 47)
      have hbW := hbw.alloc hbw.size (.cells #[.int .i64 kd, .int .i64 x] 47)
      clear hA hbw
      by_cases hk0 : kd = 0
      · subst hk0
        obtain ⟨F1, zz, hI1, hl1, cO⟩ : ∃ (F1 : FS) (zz : Int), Inv F1 ∧ F1.last ≤ 50 * k + 50 ∧ Does 13 (fun Q => #[.pointer (some ⟨Q, 0, none⟩), .int .i64 x]) F F1 (.returned (.int .i64 zz)) := ⟨_, _, scaleF_inv hI x, (by have := scaleF_last (F := F) x; omega), scale_any F x hI (by omega)⟩
        have hlen1 := hI1.len
        have hL8 : F1.L.length ≤ 1000000000 := by omega
        have cG := give_any F1 hI1 hL8
        have cO2 := order_any cO hAW hbW
        dsimp only [Does] at cG
        clear hAW hbW cO hI hlen hla
        cases hpk : pick (room F1.most) given F1.L 0 none with
        | none =>
          obtain ⟨e1, e2, e3⟩ := give_none hpk
          rw [e1, e2, e3] at cG
          clear hpk e1 e2 e3
          go_wp2_with (first | (go_at_call 13; (with_reducible refine cO2.mono ?_); rintro e w8 ⟨rfl, v8, hA8, hb8⟩) | (go_at_call 18; (with_reducible refine (all_any2 w.heap.size Q v8 F1 _ hA8 hL8).mono ?_); rintro e w9 ⟨G, rfl, hG, hR9, hb9⟩; have hA9 := hA8.below hb9; have hb9w := hb8.trans (hb9.mono hb8.size)) | (go_at_call 17; (with_reducible refine (cG _ _ _ _ (hA9.alloc _)).mono ?_); rintro e w10 ⟨rfl, v10, hA10, hT10⟩; have hb10 := (hb9w.alloc hb9w.size _).trans (RAt.turned (hA9.alloc _) hT10)))
          go_roundw
          case rel => exact ⟨k + 1, v10, F1, by omega, rfl, hA10.alloc _, hI1, by omega, hb10.alloc hb10.size _⟩
          case measure => simp [intOf]; omega
        | some y =>
          obtain ⟨i, p⟩ := y
          obtain ⟨e1, e2, e3⟩ := give_some hpk
          rw [e2, e3] at cG
          have hI2 := give_inv hI1
          have hl2 := giveS_last F1
          obtain ⟨hst, hles⟩ := give_less hpk
          obtain ⟨hi8, hpi, _⟩ := pick_mem hpk
          simp only at hi8 hpi
          have hi8' : (i : Int) < (F1.L.length : Int) := by omega
          have hi0 : ¬ (i : Int) < 0 := by omega
          have hst' : (p.st != 3) = false := by simp [hst]
          have hfi := find_own hI1.srt hpi
          have HL : Hid (∀ (j : Nat) (x : Pd), F1.L[j]? = some x → less p.ld x = false) := hles
          have HF : Hid (F1.L.findIdx? (isId p.id) = some i) := hfi
          have HP : Hid (F1.L[i]? = some p) := hpi
          have HI2 : Hid (Inv (giveS F1)) := hI2
          have HL2 : Hid ((giveS F1).last = F1.last) := hl2
          clear hpk e1 e2 e3 hst hles hfi hpi hI2 hl2
          generalize giveS F1 = F2 at *
          go_wp2_with (first | (go_at_call 13; (with_reducible refine cO2.mono ?_); rintro e w8 ⟨rfl, v8, hA8, hb8⟩) | (go_at_call 18; (with_reducible refine (all_any2 w.heap.size Q v8 F1 _ hA8 hL8).mono ?_); rintro e w9 ⟨G, rfl, hG, hR9, hb9⟩; have hA9 := hA8.below hb9; have hb9w := hb8.trans (hb9.mono hb8.size)) | (go_at_call 17; (with_reducible refine (cG _ _ _ _ (hA9.alloc _)).mono ?_); rintro e w10 ⟨rfl, v10, hA10, hT10⟩; have hb10 := (hb9w.alloc hb9w.size _).trans (RAt.turned (hA9.alloc _) hT10); obtain ⟨hR10, hC10, hs10⟩ := even_keep hA8 hG hb9 hR9 hT10) | (go_at_call 22; (with_reducible refine (eid_some (some ⟨_, 0, none⟩) _ _ p.id F1.L _ (hR10.below ((Below.refl _ _).alloc (Nat.le_refl _) _)) hL8 (cell_one rfl rfl) HF.out).mono ?_); rintro e w11 ⟨rfl, hb11⟩; obtain ⟨hR11, hC11, hQ11, hP11, hs11, hg11⟩ := even_keep2 hR10 hC10 hb11 HP.out) | (go_at_call 24; (with_reducible refine (contains_no _ _ _ _ i p.ld F1.L _ (hR11.below ((Below.refl _ _).alloc (Nat.le_refl _) _)) hL8 ((((Below.refl _ _).alloc (Nat.le_refl _) _).cell (World.block_lt_of_cell? _ _ hC11)).trans hC11) (cell_one rfl rfl) hi8 ((((Below.refl _ _).alloc (Nat.le_refl _) _).cell (World.block_lt_of_cell? _ _ hQ11)).trans hQ11) HL.out).mono ?_); rintro e w12 ⟨rfl, hb12⟩))
          go_roundw
          case rel => exact even_rel hlt hA10 HI2.out (by have := HL2.out; omega) hb10 hb11 hb12
          case measure => simp [intOf]; omega
      · have hkk0 := hk0
        by_cases hk1 : kd = 1
        · subst hk1
          obtain ⟨F1, zz, hI1, hl1, cO⟩ : ∃ (F1 : FS) (zz : Int), Inv F1 ∧ F1.last ≤ 50 * k + 50 ∧ Does 15 (fun Q => #[.pointer (some ⟨Q, 0, none⟩), .int .i64 x]) F F1 (.returned (.int .i64 zz)) := ⟨_, _, turn_inv hI x 1 (Or.inl rfl), (by simp only [turnS]; omega), start_any F x hLn⟩
          have hlen1 := hI1.len
          have hL8 : F1.L.length ≤ 1000000000 := by omega
          have cG := give_any F1 hI1 hL8
          have cO2 := order_any cO hAW hbW
          dsimp only [Does] at cG
          clear hAW hbW cO hI hlen hla
          cases hpk : pick (room F1.most) given F1.L 0 none with
          | none =>
            obtain ⟨e1, e2, e3⟩ := give_none hpk
            rw [e1, e2, e3] at cG
            clear hpk e1 e2 e3
            go_wp2_with (first | (go_at_call 15; (with_reducible refine cO2.mono ?_); rintro e w8 ⟨rfl, v8, hA8, hb8⟩) | (go_at_call 18; (with_reducible refine (all_any2 w.heap.size Q v8 F1 _ hA8 hL8).mono ?_); rintro e w9 ⟨G, rfl, hG, hR9, hb9⟩; have hA9 := hA8.below hb9; have hb9w := hb8.trans (hb9.mono hb8.size)) | (go_at_call 17; (with_reducible refine (cG _ _ _ _ (hA9.alloc _)).mono ?_); rintro e w10 ⟨rfl, v10, hA10, hT10⟩; have hb10 := (hb9w.alloc hb9w.size _).trans (RAt.turned (hA9.alloc _) hT10)))
            go_roundw
            case rel => exact ⟨k + 1, v10, F1, by omega, rfl, hA10.alloc _, hI1, by omega, hb10.alloc hb10.size _⟩
            case measure => simp [intOf]; omega
          | some y =>
            obtain ⟨i, p⟩ := y
            obtain ⟨e1, e2, e3⟩ := give_some hpk
            rw [e2, e3] at cG
            have hI2 := give_inv hI1
            have hl2 := giveS_last F1
            obtain ⟨hst, hles⟩ := give_less hpk
            obtain ⟨hi8, hpi, _⟩ := pick_mem hpk
            simp only at hi8 hpi
            have hi8' : (i : Int) < (F1.L.length : Int) := by omega
            have hi0 : ¬ (i : Int) < 0 := by omega
            have hst' : (p.st != 3) = false := by simp [hst]
            have hfi := find_own hI1.srt hpi
            have HL : Hid (∀ (j : Nat) (x : Pd), F1.L[j]? = some x → less p.ld x = false) := hles
            have HF : Hid (F1.L.findIdx? (isId p.id) = some i) := hfi
            have HP : Hid (F1.L[i]? = some p) := hpi
            have HI2 : Hid (Inv (giveS F1)) := hI2
            have HL2 : Hid ((giveS F1).last = F1.last) := hl2
            clear hpk e1 e2 e3 hst hles hfi hpi hI2 hl2
            generalize giveS F1 = F2 at *
            go_wp2_with (first | (go_at_call 15; (with_reducible refine cO2.mono ?_); rintro e w8 ⟨rfl, v8, hA8, hb8⟩) | (go_at_call 18; (with_reducible refine (all_any2 w.heap.size Q v8 F1 _ hA8 hL8).mono ?_); rintro e w9 ⟨G, rfl, hG, hR9, hb9⟩; have hA9 := hA8.below hb9; have hb9w := hb8.trans (hb9.mono hb8.size)) | (go_at_call 17; (with_reducible refine (cG _ _ _ _ (hA9.alloc _)).mono ?_); rintro e w10 ⟨rfl, v10, hA10, hT10⟩; have hb10 := (hb9w.alloc hb9w.size _).trans (RAt.turned (hA9.alloc _) hT10); obtain ⟨hR10, hC10, hs10⟩ := even_keep hA8 hG hb9 hR9 hT10) | (go_at_call 22; (with_reducible refine (eid_some (some ⟨_, 0, none⟩) _ _ p.id F1.L _ (hR10.below ((Below.refl _ _).alloc (Nat.le_refl _) _)) hL8 (cell_one rfl rfl) HF.out).mono ?_); rintro e w11 ⟨rfl, hb11⟩; obtain ⟨hR11, hC11, hQ11, hP11, hs11, hg11⟩ := even_keep2 hR10 hC10 hb11 HP.out) | (go_at_call 24; (with_reducible refine (contains_no _ _ _ _ i p.ld F1.L _ (hR11.below ((Below.refl _ _).alloc (Nat.le_refl _) _)) hL8 ((((Below.refl _ _).alloc (Nat.le_refl _) _).cell (World.block_lt_of_cell? _ _ hC11)).trans hC11) (cell_one rfl rfl) hi8 ((((Below.refl _ _).alloc (Nat.le_refl _) _).cell (World.block_lt_of_cell? _ _ hQ11)).trans hQ11) HL.out).mono ?_); rintro e w12 ⟨rfl, hb12⟩))
            go_roundw
            case rel => exact even_rel hlt hA10 HI2.out (by have := HL2.out; omega) hb10 hb11 hb12
            case measure => simp [intOf]; omega
        · have hkk1 := hk1
          by_cases hk2 : kd = 2
          · subst hk2
            obtain ⟨F1, zz, hI1, hl1, cO⟩ : ∃ (F1 : FS) (zz : Int), Inv F1 ∧ F1.last ≤ 50 * k + 50 ∧ Does 16 (fun Q => #[.pointer (some ⟨Q, 0, none⟩), .int .i64 x]) F F1 (.returned (.int .i64 zz)) := ⟨_, _, turn_inv hI x 2 (Or.inr rfl), (by simp only [turnS]; omega), ready_any F x hLn⟩
            have hlen1 := hI1.len
            have hL8 : F1.L.length ≤ 1000000000 := by omega
            have cG := give_any F1 hI1 hL8
            have cO2 := order_any cO hAW hbW
            dsimp only [Does] at cG
            clear hAW hbW cO hI hlen hla
            cases hpk : pick (room F1.most) given F1.L 0 none with
            | none =>
              obtain ⟨e1, e2, e3⟩ := give_none hpk
              rw [e1, e2, e3] at cG
              clear hpk e1 e2 e3
              go_wp2_with (first | (go_at_call 16; (with_reducible refine cO2.mono ?_); rintro e w8 ⟨rfl, v8, hA8, hb8⟩) | (go_at_call 18; (with_reducible refine (all_any2 w.heap.size Q v8 F1 _ hA8 hL8).mono ?_); rintro e w9 ⟨G, rfl, hG, hR9, hb9⟩; have hA9 := hA8.below hb9; have hb9w := hb8.trans (hb9.mono hb8.size)) | (go_at_call 17; (with_reducible refine (cG _ _ _ _ (hA9.alloc _)).mono ?_); rintro e w10 ⟨rfl, v10, hA10, hT10⟩; have hb10 := (hb9w.alloc hb9w.size _).trans (RAt.turned (hA9.alloc _) hT10)))
              go_roundw
              case rel => exact ⟨k + 1, v10, F1, by omega, rfl, hA10.alloc _, hI1, by omega, hb10.alloc hb10.size _⟩
              case measure => simp [intOf]; omega
            | some y =>
              obtain ⟨i, p⟩ := y
              obtain ⟨e1, e2, e3⟩ := give_some hpk
              rw [e2, e3] at cG
              have hI2 := give_inv hI1
              have hl2 := giveS_last F1
              obtain ⟨hst, hles⟩ := give_less hpk
              obtain ⟨hi8, hpi, _⟩ := pick_mem hpk
              simp only at hi8 hpi
              have hi8' : (i : Int) < (F1.L.length : Int) := by omega
              have hi0 : ¬ (i : Int) < 0 := by omega
              have hst' : (p.st != 3) = false := by simp [hst]
              have hfi := find_own hI1.srt hpi
              have HL : Hid (∀ (j : Nat) (x : Pd), F1.L[j]? = some x → less p.ld x = false) := hles
              have HF : Hid (F1.L.findIdx? (isId p.id) = some i) := hfi
              have HP : Hid (F1.L[i]? = some p) := hpi
              have HI2 : Hid (Inv (giveS F1)) := hI2
              have HL2 : Hid ((giveS F1).last = F1.last) := hl2
              clear hpk e1 e2 e3 hst hles hfi hpi hI2 hl2
              generalize giveS F1 = F2 at *
              go_wp2_with (first | (go_at_call 16; (with_reducible refine cO2.mono ?_); rintro e w8 ⟨rfl, v8, hA8, hb8⟩) | (go_at_call 18; (with_reducible refine (all_any2 w.heap.size Q v8 F1 _ hA8 hL8).mono ?_); rintro e w9 ⟨G, rfl, hG, hR9, hb9⟩; have hA9 := hA8.below hb9; have hb9w := hb8.trans (hb9.mono hb8.size)) | (go_at_call 17; (with_reducible refine (cG _ _ _ _ (hA9.alloc _)).mono ?_); rintro e w10 ⟨rfl, v10, hA10, hT10⟩; have hb10 := (hb9w.alloc hb9w.size _).trans (RAt.turned (hA9.alloc _) hT10); obtain ⟨hR10, hC10, hs10⟩ := even_keep hA8 hG hb9 hR9 hT10) | (go_at_call 22; (with_reducible refine (eid_some (some ⟨_, 0, none⟩) _ _ p.id F1.L _ (hR10.below ((Below.refl _ _).alloc (Nat.le_refl _) _)) hL8 (cell_one rfl rfl) HF.out).mono ?_); rintro e w11 ⟨rfl, hb11⟩; obtain ⟨hR11, hC11, hQ11, hP11, hs11, hg11⟩ := even_keep2 hR10 hC10 hb11 HP.out) | (go_at_call 24; (with_reducible refine (contains_no _ _ _ _ i p.ld F1.L _ (hR11.below ((Below.refl _ _).alloc (Nat.le_refl _) _)) hL8 ((((Below.refl _ _).alloc (Nat.le_refl _) _).cell (World.block_lt_of_cell? _ _ hC11)).trans hC11) (cell_one rfl rfl) hi8 ((((Below.refl _ _).alloc (Nat.le_refl _) _).cell (World.block_lt_of_cell? _ _ hQ11)).trans hQ11) HL.out).mono ?_); rintro e w12 ⟨rfl, hb12⟩))
              go_roundw
              case rel => exact even_rel hlt hA10 HI2.out (by have := HL2.out; omega) hb10 hb11 hb12
              case measure => simp [intOf]; omega
          · have hkk2 := hk2
            by_cases hk3 : kd = 3
            · subst hk3
              obtain ⟨F1, zz, yy, hI1, hl1, cO⟩ : ∃ (F1 : FS) (zz : Int) (yy : Int), Inv F1 ∧ F1.last ≤ 50 * k + 50 ∧ Does 21 (fun Q => #[.pointer (some ⟨Q, 0, none⟩), .int .i64 x]) F F1 (.returned (.tuple #[.int .i64 zz, .int .i64 yy])) := ⟨_, _, _, crash_inv hI x, (by simp only [crashS]; omega), crash_any F x hLn⟩
              have hlen1 := hI1.len
              have hL8 : F1.L.length ≤ 1000000000 := by omega
              have cG := give_any F1 hI1 hL8
              have cO2 := order_any cO hAW hbW
              dsimp only [Does] at cG
              clear hAW hbW cO hI hlen hla
              cases hpk : pick (room F1.most) given F1.L 0 none with
              | none =>
                obtain ⟨e1, e2, e3⟩ := give_none hpk
                rw [e1, e2, e3] at cG
                clear hpk e1 e2 e3
                go_wp2_with (first | (go_at_call 21; (with_reducible refine cO2.mono ?_); rintro e w8 ⟨rfl, v8, hA8, hb8⟩) | (go_at_call 18; (with_reducible refine (all_any2 w.heap.size Q v8 F1 _ hA8 hL8).mono ?_); rintro e w9 ⟨G, rfl, hG, hR9, hb9⟩; have hA9 := hA8.below hb9; have hb9w := hb8.trans (hb9.mono hb8.size)) | (go_at_call 17; (with_reducible refine (cG _ _ _ _ (hA9.alloc _)).mono ?_); rintro e w10 ⟨rfl, v10, hA10, hT10⟩; have hb10 := (hb9w.alloc hb9w.size _).trans (RAt.turned (hA9.alloc _) hT10)))
                go_roundw
                case rel => exact ⟨k + 1, v10, F1, by omega, rfl, hA10.alloc _, hI1, by omega, hb10.alloc hb10.size _⟩
                case measure => simp [intOf]; omega
              | some y =>
                obtain ⟨i, p⟩ := y
                obtain ⟨e1, e2, e3⟩ := give_some hpk
                rw [e2, e3] at cG
                have hI2 := give_inv hI1
                have hl2 := giveS_last F1
                obtain ⟨hst, hles⟩ := give_less hpk
                obtain ⟨hi8, hpi, _⟩ := pick_mem hpk
                simp only at hi8 hpi
                have hi8' : (i : Int) < (F1.L.length : Int) := by omega
                have hi0 : ¬ (i : Int) < 0 := by omega
                have hst' : (p.st != 3) = false := by simp [hst]
                have hfi := find_own hI1.srt hpi
                have HL : Hid (∀ (j : Nat) (x : Pd), F1.L[j]? = some x → less p.ld x = false) := hles
                have HF : Hid (F1.L.findIdx? (isId p.id) = some i) := hfi
                have HP : Hid (F1.L[i]? = some p) := hpi
                have HI2 : Hid (Inv (giveS F1)) := hI2
                have HL2 : Hid ((giveS F1).last = F1.last) := hl2
                clear hpk e1 e2 e3 hst hles hfi hpi hI2 hl2
                generalize giveS F1 = F2 at *
                go_wp2_with (first | (go_at_call 21; (with_reducible refine cO2.mono ?_); rintro e w8 ⟨rfl, v8, hA8, hb8⟩) | (go_at_call 18; (with_reducible refine (all_any2 w.heap.size Q v8 F1 _ hA8 hL8).mono ?_); rintro e w9 ⟨G, rfl, hG, hR9, hb9⟩; have hA9 := hA8.below hb9; have hb9w := hb8.trans (hb9.mono hb8.size)) | (go_at_call 17; (with_reducible refine (cG _ _ _ _ (hA9.alloc _)).mono ?_); rintro e w10 ⟨rfl, v10, hA10, hT10⟩; have hb10 := (hb9w.alloc hb9w.size _).trans (RAt.turned (hA9.alloc _) hT10); obtain ⟨hR10, hC10, hs10⟩ := even_keep hA8 hG hb9 hR9 hT10) | (go_at_call 22; (with_reducible refine (eid_some (some ⟨_, 0, none⟩) _ _ p.id F1.L _ (hR10.below ((Below.refl _ _).alloc (Nat.le_refl _) _)) hL8 (cell_one rfl rfl) HF.out).mono ?_); rintro e w11 ⟨rfl, hb11⟩; obtain ⟨hR11, hC11, hQ11, hP11, hs11, hg11⟩ := even_keep2 hR10 hC10 hb11 HP.out) | (go_at_call 24; (with_reducible refine (contains_no _ _ _ _ i p.ld F1.L _ (hR11.below ((Below.refl _ _).alloc (Nat.le_refl _) _)) hL8 ((((Below.refl _ _).alloc (Nat.le_refl _) _).cell (World.block_lt_of_cell? _ _ hC11)).trans hC11) (cell_one rfl rfl) hi8 ((((Below.refl _ _).alloc (Nat.le_refl _) _).cell (World.block_lt_of_cell? _ _ hQ11)).trans hQ11) HL.out).mono ?_); rintro e w12 ⟨rfl, hb12⟩))
                go_roundw
                case rel => exact even_rel hlt hA10 HI2.out (by have := HL2.out; omega) hb10 hb11 hb12
                case measure => simp [intOf]; omega
            · have hkk3 := hk3
              by_cases hk5 : kd = 5
              · subst hk5
                obtain ⟨F1, zz, hI1, hl1, cO⟩ : ∃ (F1 : FS) (zz : Int), Inv F1 ∧ F1.last ≤ 50 * k + 50 ∧ Does 19 (fun Q => #[.pointer (some ⟨Q, 0, none⟩), .int .i64 x]) F F1 (.returned (.int .i64 zz)) := ⟨_, _, done_inv hI x, (by simp only [doneS]; omega), done_any F x hI hLn⟩
                have hlen1 := hI1.len
                have hL8 : F1.L.length ≤ 1000000000 := by omega
                have cG := give_any F1 hI1 hL8
                have cO2 := order_any cO hAW hbW
                dsimp only [Does] at cG
                clear hAW hbW cO hI hlen hla
                cases hpk : pick (room F1.most) given F1.L 0 none with
                | none =>
                  obtain ⟨e1, e2, e3⟩ := give_none hpk
                  rw [e1, e2, e3] at cG
                  clear hpk e1 e2 e3
                  go_wp2_with (first | (go_at_call 19; (with_reducible refine cO2.mono ?_); rintro e w8 ⟨rfl, v8, hA8, hb8⟩) | (go_at_call 18; (with_reducible refine (all_any2 w.heap.size Q v8 F1 _ hA8 hL8).mono ?_); rintro e w9 ⟨G, rfl, hG, hR9, hb9⟩; have hA9 := hA8.below hb9; have hb9w := hb8.trans (hb9.mono hb8.size)) | (go_at_call 17; (with_reducible refine (cG _ _ _ _ (hA9.alloc _)).mono ?_); rintro e w10 ⟨rfl, v10, hA10, hT10⟩; have hb10 := (hb9w.alloc hb9w.size _).trans (RAt.turned (hA9.alloc _) hT10)))
                  go_roundw
                  case rel => exact ⟨k + 1, v10, F1, by omega, rfl, hA10.alloc _, hI1, by omega, hb10.alloc hb10.size _⟩
                  case measure => simp [intOf]; omega
                | some y =>
                  obtain ⟨i, p⟩ := y
                  obtain ⟨e1, e2, e3⟩ := give_some hpk
                  rw [e2, e3] at cG
                  have hI2 := give_inv hI1
                  have hl2 := giveS_last F1
                  obtain ⟨hst, hles⟩ := give_less hpk
                  obtain ⟨hi8, hpi, _⟩ := pick_mem hpk
                  simp only at hi8 hpi
                  have hi8' : (i : Int) < (F1.L.length : Int) := by omega
                  have hi0 : ¬ (i : Int) < 0 := by omega
                  have hst' : (p.st != 3) = false := by simp [hst]
                  have hfi := find_own hI1.srt hpi
                  have HL : Hid (∀ (j : Nat) (x : Pd), F1.L[j]? = some x → less p.ld x = false) := hles
                  have HF : Hid (F1.L.findIdx? (isId p.id) = some i) := hfi
                  have HP : Hid (F1.L[i]? = some p) := hpi
                  have HI2 : Hid (Inv (giveS F1)) := hI2
                  have HL2 : Hid ((giveS F1).last = F1.last) := hl2
                  clear hpk e1 e2 e3 hst hles hfi hpi hI2 hl2
                  generalize giveS F1 = F2 at *
                  go_wp2_with (first | (go_at_call 19; (with_reducible refine cO2.mono ?_); rintro e w8 ⟨rfl, v8, hA8, hb8⟩) | (go_at_call 18; (with_reducible refine (all_any2 w.heap.size Q v8 F1 _ hA8 hL8).mono ?_); rintro e w9 ⟨G, rfl, hG, hR9, hb9⟩; have hA9 := hA8.below hb9; have hb9w := hb8.trans (hb9.mono hb8.size)) | (go_at_call 17; (with_reducible refine (cG _ _ _ _ (hA9.alloc _)).mono ?_); rintro e w10 ⟨rfl, v10, hA10, hT10⟩; have hb10 := (hb9w.alloc hb9w.size _).trans (RAt.turned (hA9.alloc _) hT10); obtain ⟨hR10, hC10, hs10⟩ := even_keep hA8 hG hb9 hR9 hT10) | (go_at_call 22; (with_reducible refine (eid_some (some ⟨_, 0, none⟩) _ _ p.id F1.L _ (hR10.below ((Below.refl _ _).alloc (Nat.le_refl _) _)) hL8 (cell_one rfl rfl) HF.out).mono ?_); rintro e w11 ⟨rfl, hb11⟩; obtain ⟨hR11, hC11, hQ11, hP11, hs11, hg11⟩ := even_keep2 hR10 hC10 hb11 HP.out) | (go_at_call 24; (with_reducible refine (contains_no _ _ _ _ i p.ld F1.L _ (hR11.below ((Below.refl _ _).alloc (Nat.le_refl _) _)) hL8 ((((Below.refl _ _).alloc (Nat.le_refl _) _).cell (World.block_lt_of_cell? _ _ hC11)).trans hC11) (cell_one rfl rfl) hi8 ((((Below.refl _ _).alloc (Nat.le_refl _) _).cell (World.block_lt_of_cell? _ _ hQ11)).trans hQ11) HL.out).mono ?_); rintro e w12 ⟨rfl, hb12⟩))
                  go_roundw
                  case rel => exact even_rel hlt hA10 HI2.out (by have := HL2.out; omega) hb10 hb11 hb12
                  case measure => simp [intOf]; omega
              · have hkk5 := hk5
                have hI1 := hI
                have hl1 : F.last ≤ 50 * k + 50 := by omega
                have hL8 := hLn
                have cG := give_any F hI1 hL8
                dsimp only [Does] at cG
                have hA8 := hAW
                have hb8 := hbW
                clear hAW hbW hI hla
                cases hpk : pick (room F.most) given F.L 0 none with
                | none =>
                  obtain ⟨e1, e2, e3⟩ := give_none hpk
                  rw [e1, e2, e3] at cG
                  clear hpk e1 e2 e3
                  go_wp2_with (first | (go_at_call 18; (with_reducible refine (all_any2 w.heap.size Q v F _ hA8 hL8).mono ?_); rintro e w9 ⟨G, rfl, hG, hR9, hb9⟩; have hA9 := hA8.below hb9; have hb9w := hb8.trans (hb9.mono hb8.size)) | (go_at_call 17; (with_reducible refine (cG _ _ _ _ (hA9.alloc _)).mono ?_); rintro e w10 ⟨rfl, v10, hA10, hT10⟩; have hb10 := (hb9w.alloc hb9w.size _).trans (RAt.turned (hA9.alloc _) hT10)))
                  go_roundw
                  case rel => exact ⟨k + 1, v10, F, by omega, rfl, hA10.alloc _, hI1, by omega, hb10.alloc hb10.size _⟩
                  case measure => simp [intOf]; omega
                | some y =>
                  obtain ⟨i, p⟩ := y
                  obtain ⟨e1, e2, e3⟩ := give_some hpk
                  rw [e2, e3] at cG
                  have hI2 := give_inv hI1
                  have hl2 := giveS_last F
                  obtain ⟨hst, hles⟩ := give_less hpk
                  obtain ⟨hi8, hpi, _⟩ := pick_mem hpk
                  simp only at hi8 hpi
                  have hi8' : (i : Int) < (F.L.length : Int) := by omega
                  have hi0 : ¬ (i : Int) < 0 := by omega
                  have hst' : (p.st != 3) = false := by simp [hst]
                  have hfi := find_own hI1.srt hpi
                  have HL : Hid (∀ (j : Nat) (x : Pd), F.L[j]? = some x → less p.ld x = false) := hles
                  have HF : Hid (F.L.findIdx? (isId p.id) = some i) := hfi
                  have HP : Hid (F.L[i]? = some p) := hpi
                  have HI2 : Hid (Inv (giveS F)) := hI2
                  have HL2 : Hid ((giveS F).last = F.last) := hl2
                  clear hpk e1 e2 e3 hst hles hfi hpi hI2 hl2
                  generalize giveS F = F2 at *
                  go_wp2_with (first | (go_at_call 18; (with_reducible refine (all_any2 w.heap.size Q v F _ hA8 hL8).mono ?_); rintro e w9 ⟨G, rfl, hG, hR9, hb9⟩; have hA9 := hA8.below hb9; have hb9w := hb8.trans (hb9.mono hb8.size)) | (go_at_call 17; (with_reducible refine (cG _ _ _ _ (hA9.alloc _)).mono ?_); rintro e w10 ⟨rfl, v10, hA10, hT10⟩; have hb10 := (hb9w.alloc hb9w.size _).trans (RAt.turned (hA9.alloc _) hT10); obtain ⟨hR10, hC10, hs10⟩ := even_keep hA8 hG hb9 hR9 hT10) | (go_at_call 22; (with_reducible refine (eid_some (some ⟨_, 0, none⟩) _ _ p.id F.L _ (hR10.below ((Below.refl _ _).alloc (Nat.le_refl _) _)) hL8 (cell_one rfl rfl) HF.out).mono ?_); rintro e w11 ⟨rfl, hb11⟩; obtain ⟨hR11, hC11, hQ11, hP11, hs11, hg11⟩ := even_keep2 hR10 hC10 hb11 HP.out) | (go_at_call 24; (with_reducible refine (contains_no _ _ _ _ i p.ld F.L _ (hR11.below ((Below.refl _ _).alloc (Nat.le_refl _) _)) hL8 ((((Below.refl _ _).alloc (Nat.le_refl _) _).cell (World.block_lt_of_cell? _ _ hC11)).trans hC11) (cell_one rfl rfl) hi8 ((((Below.refl _ _).alloc (Nat.le_refl _) _).cell (World.block_lt_of_cell? _ _ hQ11)).trans hQ11) HL.out).mono ?_); rintro e w12 ⟨rfl, hb12⟩))
                  go_roundw
                  case rel => exact even_rel hlt hA10 HI2.out (by have := HL2.out; omega) hb10 hb11 hb12
                  case measure => simp [intOf]; omega
    · obtain rfl : k = len := by omega
      go_wp2
      go_ret
      exact ⟨rfl, hbw⟩
set_option maxHeartbeats 2000000 in
theorem even_long (w : World) (a0 : Int) (a1 : Option Addr) (len cap : Nat) (h3 : 150 < len) :
    Calls Try.prog 7 #[.int .i64 a0, .slice a1 len cap] w fun e w' => e = .returned (.bool true) ∧ Below w.heap.size w w' := by
  have h3' : (150 : Int) < len := by omega
  have c1 := fun w => new_any 2 w
  have c2 := scale_any ⟨mostN 2, 0, []⟩ 1 (inv_new 2) (by decide)
  rw [first_scale] at c2
  have c3 := fun B Q v w h => count_any B Q v ⟨2, 1, [⟨1, 1, 0⟩]⟩ w h (by decide)
  have c4 := give_any ⟨2, 1, [⟨1, 1, 0⟩]⟩ first_inv (by decide)
  rw [first_give.1, first_give.2.1, first_give.2.2] at c4
  dsimp only [Does, scaleE] at c2 c4
  go_enter Try.func7, Try.ntmps7
  go_wp2_with (first
    | (go_at_call 12; (with_reducible refine (c1 _).mono ?_); rintro e w1 ⟨rfl, hA1, hb1⟩)
    | (go_at_call 13; (with_reducible refine (c2 _ _ _ _ hA1).mono ?_); rintro e w2 ⟨rfl, v2, hA2, hT2⟩; have hb2 := hb1.trans (RAt.turned hA1 hT2))
    | (go_at_call 14; (with_reducible refine (c3 _ _ _ _ hA2).mono ?_); rintro e w3 ⟨rfl, hb3⟩; have hA3 := hA2.below hb3; have hbw3 := hb2.trans (hb3.mono hb2.size))
    | (go_at_call 17; (with_reducible refine (c4 _ _ _ _ hA3).mono ?_); rintro e w4 ⟨rfl, v4, hA4, hT4⟩; have hb4 := hbw3.trans (RAt.turned hA3 hT4)))
  go_ret
  exact ⟨rfl, hb4⟩
end Flt
end Go.Proofs.Ytomdimljcbnnnag
