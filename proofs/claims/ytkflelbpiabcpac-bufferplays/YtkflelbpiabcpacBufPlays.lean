
/- The law of a buffer's turns, walked. -/
import Derived.Test.YtkflelbpiabcpacBufRun
import Derived.Test.YtkflelbpiabcpacFrameSl
import Derived.Deep.CutBlock
import Derived.Deep.DeepCutAuto
namespace Go.Proofs.Ytkflelbpiabcpac
namespace Buf
open Go.RowKit Rw Rec Frm
set_option maxRecDepth 8000

/-- two buffers side by side: the program's at Q, the document's at D -/
structure BD (w : World) (B Q D : Nat) (v u : Value) (L M : List Rq) : Prop where
  f : HAt w B Q v L
  d : HAt w B D u M
  ap : Apart Q D v u
section
variable {w w' : World} {B Q D : Nat} {v u v' u' : Value} {L M L' M' : List Rq}
theorem BD.left (h : BD w B Q D v u L M) (hA : HAt w' B Q v' L') (t : Turn Q v v' w w') : BD w' B Q D v' u L' M := by
  obtain ⟨h1, h2⟩ := h.ap.step (show RAt rK w 73 B D 0 [u] u M from h.d) t
  exact ⟨hA, h1, h2⟩
theorem BD.right (h : BD w B Q D v u L M) (hA : HAt w' B D u' M') (t : Turn D u u' w w') : BD w' B Q D v u' L M' := by
  obtain ⟨h1, h2⟩ := h.ap.symm.step (show RAt rK w 73 B Q 0 [v] v L from h.f) t
  exact ⟨h1, hA, h2.symm⟩
theorem BD.below (h : BD w B Q D v u L M) (hb : Below w.heap.size w w') : BD w' B Q D v u L M := ⟨h.f.below hb, h.d.below hb, h.ap⟩
theorem BD.drew (h : BD w B Q D v u L M) : BD w.drew B Q D v u L M := ⟨h.f.drew, h.d.drew, h.ap⟩
theorem BD.alloc (h : BD w B Q D v u L M) (o : Obj) : BD (w.alloc o) B Q D v u L M := ⟨h.f.alloc o, h.d.alloc o, h.ap⟩
/-- a block that neither has -/
structure Free (w : World) (Q D : Nat) (v u : Value) (C : Nat) : Prop where
  lt : C < w.heap.size
  q : C ≠ Q
  d : C ≠ D
  v : v.ownBlock ≠ some C
  u : u.ownBlock ≠ some C
theorem Free.drew {C : Nat} (h : Free w Q D v u C) : Free w.drew Q D v u C := ⟨h.lt, h.q, h.d, h.v, h.u⟩
theorem Free.left {C : Nat} (h : Free w Q D v u C) (t : Turn Q v v' w w') : Free w' Q D v' u C := ⟨Nat.lt_of_lt_of_le h.lt t.size, h.q, h.d, t.off h.lt h.v, h.u⟩
theorem Free.right {C : Nat} (h : Free w Q D v u C) (t : Turn D u u' w w') : Free w' Q D v u' C := ⟨Nat.lt_of_lt_of_le h.lt t.size, h.q, h.d, h.v, t.off h.lt h.u⟩
/-- numbers that a call has told are not touched by the other's -/
theorem ints_kept {w0 : World} {X : List Int} {o : Value} {ao : Option Addr} {n cap : Nat} (ho : o = .slice ao n cap) (hown : w.ownsRow w0.heap.size 3 1 o X.length (cels iK.c X)) (hR : RowAt iK w ao X) (hd : HAt w0 B D u M) (t : Turn D u u' w w') : RowAt iK w' ao X := by
  refine hR.turn (fun g hg => ?_) t
  have h1 := (hown.lt g (by rw [ho, hg]; rfl)).1
  have h2 := hd.lt
  refine ⟨by omega, fun e => ?_⟩
  have := hd.rowLt g e
  omega
end
/-- k turns are done -/
def PlR (Q D len : Nat) (w : World) (i : Value) (wr : World) : Prop :=
  ∃ (k : Nat) (v u : Value) (L : List Rq), k ≤ len ∧ i = .int .i64 k ∧ BD wr w.heap.size Q D v u L L ∧ Inv L ∧ Below w.heap.size w wr
/-- what a turn leaves -/
def PoR (B Q D : Nat) (w wx : World) : Prop :=
  ∃ (v u : Value) (L : List Rq), BD wx B Q D v u L L ∧ Inv L ∧ Below B w wx
theorem bd_new (w : World) (w6 : World) (hA : HAt w6 w.heap.size w.heap.size (.slice none 0 0) []) : BD (w6.alloc (.cells #[.slice none 0 0] 60)) w.heap.size w.heap.size w6.heap.size (.slice none 0 0) (.slice none 0 0) [] [] := by
  have hl := hA.lt
  refine ⟨hA.alloc _, ⟨by simp, by omega, fun j u hu => ?_, rfl, fun j => by simp, World.ownsRow_nil _ _ _ _, by simp [Value.ownBlock]⟩, by omega, by simp [Value.ownBlock], by simp [Value.ownBlock], by simp [Value.ownBlock]⟩
  match j, hu with
  | 0, hu => simp at hu; subst hu; exact cell_at rfl rfl
  | j + 1, hu => simp at hu
theorem plays_long (w : World) (a0 : Option Addr) (len cap : Nat) (h3 : 300 < len) :
    Calls Try.prog 5 #[.slice a0 len cap] w fun e w' => e = .returned (.bool true) ∧ Below w.heap.size w w' := by
  have h3' : (300 : Int) < len := by omega
  go_enter Try.func5, Try.ntmps5
  go_wp2
  go_ret
  exact ⟨rfl, Below.refl _ _⟩
set_option maxHeartbeats 8000000 in
theorem plays_law (w : World) (a0 : Option Addr) (len cap : Nat) (X : Nat → Nat → Int) (h3 : len ≤ 300) (hX : Frm.RowsIn w a0 len 4 X) :
    Calls Try.prog 5 #[.slice a0 len cap] w fun e w' => e = .returned (.bool true) ∧ Below w.heap.size w w' := by
  have h3' : ¬ (300 : Int) < len := by omega
  have c1 := fun w => new_any w
  go_enter Try.func5, Try.ntmps5
  go_wp2_with (go_at_call 26; (with_reducible refine (c1 _).mono ?_); rintro e w6 ⟨rfl, hA6, hb6⟩)
  have hD := bd_new w w6 hA6
  have hb7 : Below w.heap.size w (w6.alloc (.cells #[.slice none 0 0] 60)) := hb6.alloc hb6.size _
  clear c1 hA6 hb6
  generalize w6.heap.size = D at *
  go_loopw [32] (fun i wr => PlR w.heap.size D len w i wr) (fun i _ => len - (intOf i).toNat)
  case atStart => exact ⟨0, _, _, _, by omega, rfl, hD, Inv.nil, hb7⟩
  case round =>
    clear hD hb7
    obtain ⟨k, v, u, L, hk, rfl, hD, hI, hbw⟩ := hrel
    by_cases hlt : k < len
    · have hlt' : (k : Int) < len := by omega
      have hlen := hI.len
      obtain ⟨b, off, rfl, hbl, hcell⟩ := (hX.below hbw (Nat.le_refl _)) k hlt
      have k0 : wr.cell? ⟨b, off + k * 4, none⟩ = some (.int .i64 (X k 0)) := by have := (hcell 0 (by omega)).1; simpa using this
      have k1 : wr.cell? ⟨b, off + k * 4 + 1, none⟩ = some (.int .i64 (X k 1)) := by have := (hcell 1 (by omega)).1; simpa [Nat.add_assoc] using this
      have k2 : wr.cell? ⟨b, off + k * 4 + 2, none⟩ = some (.int .i64 (X k 2)) := by have := (hcell 2 (by omega)).1; simpa [Nat.add_assoc] using this
      have k3 : wr.cell? ⟨b, off + k * 4 + 3, none⟩ = some (.int .i64 (X k 3)) := by have := (hcell 3 (by omega)).1; simpa [Nat.add_assoc] using this
      clear hcell hX
      generalize X k 0 = kd at k0
      generalize X k 1 = now at k1
      generalize X k 2 = a at k2
      generalize X k 3 = n at k3
      obtain ⟨W, hW⟩ : ∃ W, W = wr.alloc (.cells #[.int .i64 kd, .int .i64 now, .int .i64 a, .int .i64 n] 62) := ⟨_, rfl⟩
      have hDW : BD W w.heap.size w.heap.size D v u L L := by rw [hW]; exact hD.alloc _
      have hbW : Below w.heap.size w W := by rw [hW]; exact hbw.alloc hbw.size _
      have e0 : W.cell? ⟨wr.heap.size, 0, none⟩ = some (.int .i64 kd) := by rw [hW]; exact cell_at rfl rfl
      have e1 : W.cell? ⟨wr.heap.size, 1, none⟩ = some (.int .i64 now) := by rw [hW]; exact cell_at rfl rfl
      have e2 : W.cell? ⟨wr.heap.size, 2, none⟩ = some (.int .i64 a) := by rw [hW]; exact cell_at rfl rfl
      have e3 : W.cell? ⟨wr.heap.size, 3, none⟩ = some (.int .i64 n) := by rw [hW]; exact cell_at rfl rfl
      have hC : Free W w.heap.size D v u wr.heap.size := by
        have h1 := hD.f.lt
        have h2 := hD.d.lt
        refine ⟨by rw [hW]; simp, by omega, by omega, fun e => ?_, fun e => ?_⟩
        · have := hD.f.rowLt _ e; omega
        · have := hD.d.rowLt _ e; omega
      have HW : Hid (W = wr.alloc (.cells #[.int .i64 kd, .int .i64 now, .int .i64 a, .int .i64 n] 62)) := hW
      clear hD hbw hW
      go_upto_block 2 with fail
      rw [← HW.out]
      clear HW k0 k1 k2 k3 hbl
      generalize wr.heap.size = C at *
      go_cut [7] (fun ok wx => ok = .bool true ∧ PoR w.heap.size w.heap.size D w wx)
      case first =>
        by_cases hk0 : kd = 0
        · subst hk0
          as_aux_lemma =>
            have cO := ask_any L now a n hI
            have cD := hask_any L now a n hI
            have hI1 := ask_inv hI now a n
            dsimp only [Doth] at cO cD
            generalize askL L now a n = L1 at *
            generalize askN L now a n = N at *
            generalize askE L now a n = E at *
            go_wp2_with (first | (go_at_call 27; (with_reducible refine (cO _ _ _ _ hDW.f).mono ?_); rintro e w8 ⟨rfl, v8, hA8, hT8⟩; have hD8 := hDW.left hA8 hT8; have hb8 := hbW.trans (RAt.turned hDW.f hT8); have q81 := hT8.cell e1 hC.q hC.v; have q82 := hT8.cell e2 hC.q hC.v; have q83 := hT8.cell e3 hC.q hC.v; have hC8 := hC.left hT8) | (go_at_call 28; (with_reducible refine (cD _ _ _ _ hD8.d).mono ?_); rintro e w9 ⟨rfl, u9, hA9, hT9⟩; have hD9 := hD8.right hA9 hT9; have hb9 := hb8.trans (RAt.turned hD8.d hT9); have q91 := hT9.cell q81 hC8.d hC8.u; have q92 := hT9.cell q82 hC8.d hC8.u; have q93 := hT9.cell q83 hC8.d hC8.u))
            go_meet
            exact ⟨by simp, _, _, L1, hD9, hI1, hb9⟩
        · have hk0b : (kd == 0) = false := by simp [hk0]
          by_cases hk1 : kd = 1
          · subst hk1
            as_aux_lemma =>
              by_cases hno : 0 ≤ now ∧ now ≤ 1099511627776
              · have cO := fun B Q v w h => late_any B Q v L now w h hI hno.1 hno.2
                have cD := fun B Q v w h => hlate_any B Q v L now w h hI hno.1 hno.2
                have hI1 := turn_inv hI (isLate now) 4 (by omega)
                have hXI : (turnI (isLate now) L).length ≤ 1000 := Nat.le_trans (turnI_le _ _) (by omega)
                clear hno
                generalize turnL (isLate now) 4 L = L1 at *
                generalize turnI (isLate now) L = XI at *
                go_wp2_with (first | (go_at_call 29; (with_reducible refine (cO _ _ _ _ hDW.f).mono ?_); rintro e w8 ⟨o8, rfl, hown8, hA8, hT8⟩; have hD8 := hDW.left hA8 hT8; have hb8 := hbW.trans (RAt.turned hDW.f hT8); have q81 := hT8.cell e1 hC.q hC.v; have q82 := hT8.cell e2 hC.q hC.v; have q83 := hT8.cell e3 hC.q hC.v; have hC8 := hC.left hT8; obtain ⟨ao8, cp8, ho8, hR8⟩ := ints_row hown8; subst ho8) | (go_at_call 30; (with_reducible refine (cD _ _ _ _ hD8.d).mono ?_); rintro e w9 ⟨o9, rfl, hown9, hA9, hT9⟩; have hD9 := hD8.right hA9 hT9; have hb9 := hb8.trans (RAt.turned hD8.d hT9); have q91 := hT9.cell q81 hC8.d hC8.u; have q92 := hT9.cell q82 hC8.d hC8.u; have q93 := hT9.cell q83 hC8.d hC8.u; obtain ⟨ao9, cp9, ho9, hR9⟩ := ints_row hown9; subst ho9; have hR8b := ints_kept rfl hown8 hR8 hDW.d hT9) | (go_at_call 31; (with_reducible refine (equal_int _ _ XI _ _ _ hR8b hR9 hXI).mono ?_); rintro e w10 ⟨rfl, qq, h9⟩; have hb10 : Below w9.heap.size w9 w10 := (by rw [h9]; exact ⟨rfl, rfl, rfl, Nat.le_refl _, fun _ _ => rfl⟩); clear h9; have hD10 := hD9.below hb10; have hbw10 := hb9.trans (hb10.mono hb9.size)))
                go_meet
                exact ⟨by simp, _, _, L1, hD10, hI1, hbw10⟩
              · have cO := fun Q w => late_no Q now w hno
                have cD := fun Q w => hlate_no Q now w hno
                have cE := fun w => equal_int none none [] 0 0 w (fun h => by simp at h) (fun h => by simp at h) (by simp)
                simp only [List.length_nil] at cE
                clear hno
                go_wp2_with (first
                  | (go_at_call 29; (with_reducible refine (cO _ _).mono ?_); rintro e w8 ⟨rfl, hb8⟩; have hD8 := hDW.below hb8; have hbw8 := hbW.trans (hb8.mono hbW.size); have q81 := (hb8.cell (p := ⟨C, 1, none⟩) hC.lt).trans e1)
                  | (go_at_call 30; (with_reducible refine (cD _ _).mono ?_); rintro e w9 ⟨rfl, h9⟩; have h8 := h9.symm; clear h9; subst h8)
                  | (go_at_call 31; (with_reducible refine (cE _).mono ?_); rintro e w10 ⟨rfl, qq, h9⟩; have hb10 : Below w8.heap.size w8 w10 := (by rw [h9]; exact ⟨rfl, rfl, rfl, Nat.le_refl _, fun _ _ => rfl⟩); clear h9; have hD10 := hD8.below hb10; have hbw10 := hbw8.trans (hb10.mono hbw8.size)))
                go_meet
                exact ⟨by simp, _, _, L, hD10, hI, hbw10⟩
          · have hk1b : (kd == 1) = false := by simp [hk1]
            by_cases hk2 : kd = 2
            · subst hk2
              as_aux_lemma =>
                have cO := fun B Q v w h => next_any B Q v L w h hI
                have cD := fun B Q v w h => hnext_any B Q v L w h hlen
                generalize nextN L = N at *
                generalize nextB L = E at *
                cases E <;> go_wp2_with (first
                  | (go_at_call 32; (with_reducible refine (cO _ _ _ _ hDW.f).mono ?_); rintro e w8 ⟨rfl, hb8⟩; have hD8 := hDW.below hb8; have hbw8 := hbW.trans (hb8.mono hbW.size))
                  | (go_at_call 33; (with_reducible refine (cD _ _ _ _ hD8.d).mono ?_); rintro e w9 ⟨rfl, h9⟩; have h8 := h9.symm; clear h9; subst h8))
                all_goals
                  go_meet
                  exact ⟨by simp, _, _, L, hD8, hI, hbw8⟩
            · have hk2b : (kd == 2) = false := by simp [hk2]
              by_cases hk3 : kd = 3
              · subst hk3
                as_aux_lemma =>
                  have cO := run_any L a n hI
                  have cD := hrun_any L a n hI
                  have hI1 := run_inv hI a n
                  dsimp only [Doth] at cO cD
                  generalize runL L a n = L1 at *
                  generalize runE L a = E at *
                  go_wp2_with fail
                  refine wp_region_held_drew (S := fun w' => w'.cell? ⟨C, 1, none⟩ = some (.int .i64 now) ∧ w'.cell? ⟨C, 2, none⟩ = some (.int .i64 a) ∧ w'.cell? ⟨C, 3, none⟩ = some (.int .i64 n)) (by kernel_rfl) (⟨e1, e2, e3⟩) (fun hHeld => ?_)
                  refine wpAnyH_take (i := 0) (oi := _) (v := ?_) rfl (by kernel_rfl) (by kernel_rfl) (by kernel_rfl) (fun _ _ _ h => h) (Or.inl ⟨by rfl, ?_⟩) (by assumption) ?_
                  rotate_left
                  · intro w' hSw
                    (try dsimp only at hSw)
                    go_simp
                    all_goals with_reducible rfl
                  (try simp only [Act.put, List.setIfInBounds_toArray, List.set_cons_zero, List.set_cons_succ, List.getElem_toArray, List.getElem_cons_zero])
                  refine wpAnyH_take (i := 1) (oi := _) (v := ?_) rfl (by kernel_rfl) (by kernel_rfl) (by kernel_rfl) (fun _ _ _ h => h) (Or.inl ⟨by rfl, ?_⟩) (by assumption) ?_
                  rotate_left
                  · intro w' hSw
                    (try dsimp only at hSw)
                    go_simp
                    all_goals with_reducible rfl
                  (try simp only [Act.put, List.setIfInBounds_toArray, List.set_cons_zero, List.set_cons_succ, List.getElem_toArray, List.getElem_cons_zero, List.getElem_cons_succ])
                  refine wpAnyH_take (i := 2) (oi := _) (v := ?_) rfl (by kernel_rfl) (by kernel_rfl) (by kernel_rfl) (fun _ _ _ h => h) (Or.inl ⟨by rfl, ?_⟩) (by assumption) ?_
                  rotate_left
                  · intro w' hSw
                    (try dsimp only at hSw)
                    go_simp
                    all_goals with_reducible rfl
                  (try simp only [Act.put, List.setIfInBounds_toArray, List.set_cons_zero, List.set_cons_succ, List.getElem_toArray, List.getElem_cons_zero, List.getElem_cons_succ])
                  refine wpAnyH_take (i := 3) (oi := _) (v := ?_) rfl (by kernel_rfl) (by kernel_rfl) (by kernel_rfl) (fun _ _ _ h => h) (Or.inl ⟨by rfl, ?_⟩) (by assumption) ?_
                  rotate_left
                  · intro w' hSw
                    (try dsimp only at hSw)
                    go_simp
                    all_goals with_reducible rfl
                  (try simp only [Act.put, List.setIfInBounds_toArray, List.set_cons_zero, List.set_cons_succ, List.getElem_toArray, List.getElem_cons_zero, List.getElem_cons_succ])
                  refine wpAnyH_take (i := 4) (oi := _) (v := ?_) rfl (by kernel_rfl) (by kernel_rfl) (by kernel_rfl) (fun _ _ _ h => h) (Or.inl ⟨by rfl, ?_⟩) (by assumption) ?_
                  rotate_left
                  · intro w' hSw
                    (try dsimp only at hSw)
                    go_simp
                    all_goals with_reducible rfl
                  (try simp only [Act.put, List.setIfInBounds_toArray, List.set_cons_zero, List.set_cons_succ, List.getElem_toArray, List.getElem_cons_zero, List.getElem_cons_succ])
                  refine wpAnyH_take (i := 6) (oi := _) (v := ?_) rfl (by kernel_rfl) (by kernel_rfl) (by kernel_rfl) (fun _ _ _ h => h) (Or.inl ⟨by rfl, ?_⟩) (by assumption) ?_
                  rotate_left
                  · intro w' hSw
                    (try dsimp only at hSw)
                    go_simp
                    all_goals with_reducible rfl
                  (try simp only [Act.put, List.setIfInBounds_toArray, List.set_cons_zero, List.set_cons_succ, List.getElem_toArray, List.getElem_cons_zero, List.getElem_cons_succ])
                  refine wpAnyH_take (i := 7) (oi := _) (v := ?_) rfl (by kernel_rfl) (by kernel_rfl) (by kernel_rfl) (fun _ _ _ h => h) (Or.inl ⟨by rfl, ?_⟩) (by assumption) ?_
                  rotate_left
                  · intro w' hSw
                    (try dsimp only at hSw)
                    go_simp
                    all_goals with_reducible rfl
                  (try simp only [Act.put, List.setIfInBounds_toArray, List.set_cons_zero, List.set_cons_succ, List.getElem_toArray, List.getElem_cons_zero, List.getElem_cons_succ])
                  refine wpAnyH_take (i := 8) (oi := _) (v := ?_) rfl (by kernel_rfl) (by kernel_rfl) (by kernel_rfl) (fun _ _ _ h => h) (Or.inl ⟨by rfl, ?_⟩) (by assumption) ?_
                  rotate_left
                  · intro w' hSw
                    (try dsimp only at hSw)
                    go_simp
                    all_goals with_reducible rfl
                  (try simp only [Act.put, List.setIfInBounds_toArray, List.set_cons_zero, List.set_cons_succ, List.getElem_toArray, List.getElem_cons_zero, List.getElem_cons_succ])
                  refine wpAnyH_take (i := 9) (oi := _) (v := ?_) rfl (by kernel_rfl) (by kernel_rfl) (by kernel_rfl) (fun _ _ _ h => h) (Or.inl ⟨by rfl, ?_⟩) (by assumption) ?_
                  rotate_left
                  · intro w' hSw
                    (try dsimp only at hSw)
                    go_simp
                    all_goals with_reducible rfl
                  (try simp only [Act.put, List.setIfInBounds_toArray, List.set_cons_zero, List.set_cons_succ, List.getElem_toArray, List.getElem_cons_zero, List.getElem_cons_succ])
                  refine wpAnyH_take (i := 10) (oi := _) (v := ?_) rfl (by kernel_rfl) (by kernel_rfl) (by kernel_rfl) (fun _ _ _ h => h) (Or.inl ⟨by rfl, ?_⟩) (by assumption) ?_
                  rotate_left
                  · intro w' hSw
                    (try dsimp only at hSw)
                    go_simp
                    all_goals with_reducible rfl
                  (try simp only [Act.put, List.setIfInBounds_toArray, List.set_cons_zero, List.set_cons_succ, List.getElem_toArray, List.getElem_cons_zero, List.getElem_cons_succ])
                  refine wpAnyH_ready (rs := [5]) (by kernel_rfl) (by simp) ?_
                  refine AllReadyH.cons rfl (fun K hK => ?_) AllReadyH.nil
                  go_simp
                  go_wp2_with ((go_at_call 34; (with_reducible refine (cO _ _ _ _ hDW.drew.f).mono ?_); rintro e w8 ⟨rfl, v8, hA8, hT8⟩; have hD8 := hDW.drew.left hA8 hT8; have hb8 := hbW.drew.trans (RAt.turned hDW.drew.f hT8); have q81 := hT8.cell (w := W.drew) e1 hC.q hC.v; have q82 := hT8.cell (w := W.drew) e2 hC.q hC.v; have q83 := hT8.cell (w := W.drew) e3 hC.q hC.v; have hC8 := hC.drew.left hT8))
                  refine hK.out _ _ (⟨q81, q82, q83⟩) (fun hHeld => ?_)
                  clear hK K
                  refine wpAnyH_ready (rs := [11]) (by kernel_rfl) (by simp) ?_
                  refine AllReadyH.cons rfl (fun K hK => ?_) AllReadyH.nil
                  go_simp
                  go_wp2_with ((go_at_call 35; (with_reducible refine (cD _ _ _ _ hD8.d).mono ?_); rintro e w9 ⟨rfl, u9, hA9, hT9⟩; have hD9 := hD8.right hA9 hT9; have hb9 := hb8.trans (RAt.turned hD8.d hT9); have q91 := hT9.cell q81 hC8.d hC8.u; have q92 := hT9.cell q82 hC8.d hC8.u; have q93 := hT9.cell q83 hC8.d hC8.u))
                  refine hK.out _ _ (⟨q91, q92, q93⟩) (fun hHeld => ?_)
                  clear hK K
                  refine wpAnyH_take (i := 12) (oi := _) (v := ?_) rfl (by kernel_rfl) (by kernel_rfl) (by kernel_rfl) (fun _ _ _ h => h) (Or.inl ⟨by rfl, ?_⟩) (by assumption) ?_
                  rotate_left
                  · intro w' hSw
                    (try dsimp only at hSw)
                    go_simp
                    all_goals with_reducible rfl
                  (try simp only [Act.put, List.setIfInBounds_toArray, List.set_cons_zero, List.set_cons_succ, List.getElem_toArray, List.getElem_cons_zero, List.getElem_cons_succ])
                  refine wpAnyH_take (i := 13) (oi := _) (v := ?_) rfl (by kernel_rfl) (by kernel_rfl) (by kernel_rfl) (fun _ _ _ h => h) (Or.inl ⟨by rfl, ?_⟩) (by assumption) ?_
                  rotate_left
                  · intro w' hSw
                    (try dsimp only at hSw)
                    go_simp
                    all_goals with_reducible rfl
                  (try simp only [Act.put, List.setIfInBounds_toArray, List.set_cons_zero, List.set_cons_succ, List.getElem_toArray, List.getElem_cons_zero, List.getElem_cons_succ])
                  refine wpAnyH_done (by kernel_rfl) ?_ _
                  go_wp2
                  go_meet
                  exact ⟨by simp, _, _, L1, hD9, hI1, hb9⟩
              · have hk3b : (kd == 3) = false := by simp [hk3]
                by_cases hk4 : kd = 4
                · subst hk4
                  as_aux_lemma =>
                    have cO := done_any L n hI
                    have cD := hdone_any L n hI
                    have hI1 := done_inv hI n
                    dsimp only [Doth] at cO cD
                    generalize doneL L n = L1 at *
                    generalize doneN L n = N at *
                    generalize doneE L n = E at *
                    go_wp2_with (first | (go_at_call 36; (with_reducible refine (cO _ _ _ _ hDW.f).mono ?_); rintro e w8 ⟨rfl, v8, hA8, hT8⟩; have hD8 := hDW.left hA8 hT8; have hb8 := hbW.trans (RAt.turned hDW.f hT8); have q81 := hT8.cell e1 hC.q hC.v; have q82 := hT8.cell e2 hC.q hC.v; have q83 := hT8.cell e3 hC.q hC.v; have hC8 := hC.left hT8) | (go_at_call 37; (with_reducible refine (cD _ _ _ _ hD8.d).mono ?_); rintro e w9 ⟨rfl, u9, hA9, hT9⟩; have hD9 := hD8.right hA9 hT9; have hb9 := hb8.trans (RAt.turned hD8.d hT9); have q91 := hT9.cell q81 hC8.d hC8.u; have q92 := hT9.cell q82 hC8.d hC8.u; have q93 := hT9.cell q83 hC8.d hC8.u))
                    go_meet
                    exact ⟨by simp, _, _, L1, hD9, hI1, hb9⟩
                · have hk4b : (kd == 4) = false := by simp [hk4]
                  by_cases hk5 : kd = 5
                  · subst hk5
                    as_aux_lemma =>
                      have cO := fun B Q v w h => lost_any B Q v L n w h hI
                      have cD := fun B Q v w h => hlost_any B Q v L n w h hI
                      have hI1 := turn_inv hI (isAt n) 5 (by omega)
                      have hXI : (turnI (isAt n) L).length ≤ 1000 := Nat.le_trans (turnI_le _ _) (by omega)
                      generalize turnL (isAt n) 5 L = L1 at *
                      generalize turnI (isAt n) L = XI at *
                      go_wp2_with fail
                      refine wp_region_held_drew (S := fun w' => w'.cell? ⟨C, 1, none⟩ = some (.int .i64 now) ∧ w'.cell? ⟨C, 2, none⟩ = some (.int .i64 a) ∧ w'.cell? ⟨C, 3, none⟩ = some (.int .i64 n)) (by kernel_rfl) (⟨e1, e2, e3⟩) (fun hHeld => ?_)
                      refine wpAnyH_take (i := 0) (oi := _) (v := ?_) rfl (by kernel_rfl) (by kernel_rfl) (by kernel_rfl) (fun _ _ _ h => h) (Or.inl ⟨by rfl, ?_⟩) (by assumption) ?_
                      rotate_left
                      · intro w' hSw
                        (try dsimp only at hSw)
                        go_simp
                        all_goals with_reducible rfl
                      (try simp only [Act.put, List.setIfInBounds_toArray, List.set_cons_zero, List.set_cons_succ, List.getElem_toArray, List.getElem_cons_zero])
                      refine wpAnyH_take (i := 1) (oi := _) (v := ?_) rfl (by kernel_rfl) (by kernel_rfl) (by kernel_rfl) (fun _ _ _ h => h) (Or.inl ⟨by rfl, ?_⟩) (by assumption) ?_
                      rotate_left
                      · intro w' hSw
                        (try dsimp only at hSw)
                        go_simp
                        all_goals with_reducible rfl
                      (try simp only [Act.put, List.setIfInBounds_toArray, List.set_cons_zero, List.set_cons_succ, List.getElem_toArray, List.getElem_cons_zero, List.getElem_cons_succ])
                      refine wpAnyH_take (i := 2) (oi := _) (v := ?_) rfl (by kernel_rfl) (by kernel_rfl) (by kernel_rfl) (fun _ _ _ h => h) (Or.inl ⟨by rfl, ?_⟩) (by assumption) ?_
                      rotate_left
                      · intro w' hSw
                        (try dsimp only at hSw)
                        go_simp
                        all_goals with_reducible rfl
                      (try simp only [Act.put, List.setIfInBounds_toArray, List.set_cons_zero, List.set_cons_succ, List.getElem_toArray, List.getElem_cons_zero, List.getElem_cons_succ])
                      refine wpAnyH_take (i := 4) (oi := _) (v := ?_) rfl (by kernel_rfl) (by kernel_rfl) (by kernel_rfl) (fun _ _ _ h => h) (Or.inl ⟨by rfl, ?_⟩) (by assumption) ?_
                      rotate_left
                      · intro w' hSw
                        (try dsimp only at hSw)
                        go_simp
                        all_goals with_reducible rfl
                      (try simp only [Act.put, List.setIfInBounds_toArray, List.set_cons_zero, List.set_cons_succ, List.getElem_toArray, List.getElem_cons_zero, List.getElem_cons_succ])
                      refine wpAnyH_take (i := 5) (oi := _) (v := ?_) rfl (by kernel_rfl) (by kernel_rfl) (by kernel_rfl) (fun _ _ _ h => h) (Or.inl ⟨by rfl, ?_⟩) (by assumption) ?_
                      rotate_left
                      · intro w' hSw
                        (try dsimp only at hSw)
                        go_simp
                        all_goals with_reducible rfl
                      (try simp only [Act.put, List.setIfInBounds_toArray, List.set_cons_zero, List.set_cons_succ, List.getElem_toArray, List.getElem_cons_zero, List.getElem_cons_succ])
                      refine wpAnyH_take (i := 6) (oi := _) (v := ?_) rfl (by kernel_rfl) (by kernel_rfl) (by kernel_rfl) (fun _ _ _ h => h) (Or.inl ⟨by rfl, ?_⟩) (by assumption) ?_
                      rotate_left
                      · intro w' hSw
                        (try dsimp only at hSw)
                        go_simp
                        all_goals with_reducible rfl
                      (try simp only [Act.put, List.setIfInBounds_toArray, List.set_cons_zero, List.set_cons_succ, List.getElem_toArray, List.getElem_cons_zero, List.getElem_cons_succ])
                      refine wpAnyH_ready (rs := [3]) (by kernel_rfl) (by simp) ?_
                      refine AllReadyH.cons rfl (fun K hK => ?_) AllReadyH.nil
                      go_simp
                      go_wp2_with ((go_at_call 38; (with_reducible refine (cO _ _ _ _ hDW.drew.f).mono ?_); rintro e w8 ⟨o8, rfl, hown8, hA8, hT8⟩; have hD8 := hDW.drew.left hA8 hT8; have hb8 := hbW.drew.trans (RAt.turned hDW.drew.f hT8); have q81 := hT8.cell (w := W.drew) e1 hC.q hC.v; have q82 := hT8.cell (w := W.drew) e2 hC.q hC.v; have q83 := hT8.cell (w := W.drew) e3 hC.q hC.v; have hC8 := hC.drew.left hT8; obtain ⟨ao8, cp8, ho8, hR8⟩ := ints_row hown8; subst ho8))
                      refine hK.out _ _ (⟨q81, q82, q83⟩) (fun hHeld => ?_)
                      clear hK K
                      refine wpAnyH_ready (rs := [7]) (by kernel_rfl) (by simp) ?_
                      refine AllReadyH.cons rfl (fun K hK => ?_) AllReadyH.nil
                      go_simp
                      go_wp2_with ((go_at_call 39; (with_reducible refine (cD _ _ _ _ hD8.d).mono ?_); rintro e w9 ⟨o9, rfl, hown9, hA9, hT9⟩; have hD9 := hD8.right hA9 hT9; have hb9 := hb8.trans (RAt.turned hD8.d hT9); have q91 := hT9.cell q81 hC8.d hC8.u; have q92 := hT9.cell q82 hC8.d hC8.u; have q93 := hT9.cell q83 hC8.d hC8.u; obtain ⟨ao9, cp9, ho9, hR9⟩ := ints_row hown9; subst ho9; have hR8b := ints_kept rfl hown8 hR8 hDW.drew.d hT9))
                      refine hK.out _ _ (⟨q91, q92, q93⟩) (fun hHeld => ?_)
                      clear hK K
                      refine wpAnyH_ready (rs := [8]) (by kernel_rfl) (by simp) ?_
                      refine AllReadyH.cons rfl (fun K hK => ?_) AllReadyH.nil
                      go_simp
                      go_wp2_with ((go_at_call 31; (with_reducible refine (equal_int _ _ XI _ _ _ hR8b hR9 hXI).mono ?_); rintro e w10 ⟨rfl, qq, h9⟩; have hb10 : Below w9.heap.size w9 w10 := (by rw [h9]; exact ⟨rfl, rfl, rfl, Nat.le_refl _, fun _ _ => rfl⟩); clear h9; have hD10 := hD9.below hb10; have hbw10 := hb9.trans (hb10.mono hb9.size)))
                      refine hK.out _ _ (⟨(hb10.cell (p := ⟨C, 1, none⟩) (World.block_lt_of_cell? w9 _ q91)).trans q91, (hb10.cell (p := ⟨C, 2, none⟩) (World.block_lt_of_cell? w9 _ q92)).trans q92, (hb10.cell (p := ⟨C, 3, none⟩) (World.block_lt_of_cell? w9 _ q93)).trans q93⟩) (fun hHeld => ?_)
                      clear hK K
                      refine wpAnyH_take (i := 9) (oi := _) (v := ?_) rfl (by kernel_rfl) (by kernel_rfl) (by kernel_rfl) (fun _ _ _ h => h) (Or.inl ⟨by rfl, ?_⟩) (by assumption) ?_
                      rotate_left
                      · intro w' hSw
                        (try dsimp only at hSw)
                        go_simp
                        all_goals with_reducible rfl
                      (try simp only [Act.put, List.setIfInBounds_toArray, List.set_cons_zero, List.set_cons_succ, List.getElem_toArray, List.getElem_cons_zero, List.getElem_cons_succ])
                      refine wpAnyH_done (by kernel_rfl) ?_ _
                      go_wp2
                      go_meet
                      exact ⟨by simp, _, _, L1, hD10, hI1, hbw10⟩
                  · have hk5b : (kd == 5) = false := by simp [hk5]
                    go_wp2
                    go_meet
                    exact ⟨rfl, _, _, L, hDW, hI, hbW⟩
      case rest =>
        obtain ⟨rfl, v1, u1, L1, hDx, hI1, hbx⟩ := hcut
        have hlen1 := hI1.len
        have cC := fun B Q D v u w h1 h2 => counted_any B Q D v u L1 w h1 h2 hlen1
        have HI1 : Hid (Inv L1) := hI1
        clear hI1 hI hDW hbW e0 e1 e2 e3 hC hlen
        go_wp2_with (go_at_call 40; (with_reducible refine (cC _ _ _ _ _ _ hDx.f hDx.d).mono ?_); rintro e w9 ⟨rfl, hb9⟩)
        go_roundw
        case rel => exact ⟨k + 1, v1, u1, L1, by omega, rfl, hDx.below hb9, HI1.out, hbx.trans (hb9.mono hbx.size)⟩
        case measure => simp [intOf]; omega
    · obtain rfl : k = len := by omega
      have hlen1 := hI.len
      obtain ⟨bo, bc, rfl, _, _, _⟩ := hD.d.form
      have qx := hD.d.cV
      have cA := fun B Q v w h => all_any B Q v L w h hlen1
      go_wp2_with fail
      refine wp_region_held_drew (S := fun w' => w'.cell? ⟨D, 0, none⟩ = some (.slice bo L.length bc)) (by kernel_rfl) (qx) (fun hHeld => ?_)
      refine wpAnyH_take (i := 0) (oi := _) (v := ?_) rfl (by kernel_rfl) (by kernel_rfl) (by kernel_rfl) (fun _ _ _ h => h) (Or.inl ⟨by rfl, ?_⟩) (by assumption) ?_
      rotate_left
      · intro w' hSw
        (try dsimp only at hSw)
        go_simp
        all_goals with_reducible rfl
      (try simp only [Act.put, List.setIfInBounds_toArray, List.set_cons_zero, List.set_cons_succ, List.getElem_toArray, List.getElem_cons_zero])
      refine wpAnyH_take (i := 2) (oi := _) (v := ?_) rfl (by kernel_rfl) (by kernel_rfl) (by kernel_rfl) (fun _ _ _ h => h) (Or.inl ⟨by rfl, ?_⟩) (by assumption) ?_
      rotate_left
      · intro w' hSw
        (try dsimp only at hSw)
        go_simp
        all_goals with_reducible rfl
      (try simp only [Act.put, List.setIfInBounds_toArray, List.set_cons_zero, List.set_cons_succ, List.getElem_toArray, List.getElem_cons_zero, List.getElem_cons_succ])
      refine wpAnyH_take (i := 3) (oi := _) (v := ?_) rfl (by kernel_rfl) (by kernel_rfl) (by kernel_rfl) (fun _ _ _ h => h) (Or.inl ⟨by rfl, ?_⟩) (by assumption) ?_
      rotate_left
      · intro w' hSw
        (try dsimp only at hSw)
        go_simp
        all_goals with_reducible rfl
      (try simp only [Act.put, List.setIfInBounds_toArray, List.set_cons_zero, List.set_cons_succ, List.getElem_toArray, List.getElem_cons_zero, List.getElem_cons_succ])
      refine wpAnyH_take (i := 4) (oi := _) (v := ?_) rfl (by kernel_rfl) (by kernel_rfl) (by kernel_rfl) (fun _ _ _ h => h) (Or.inl ⟨by rfl, ?_⟩) (by assumption) ?_
      rotate_left
      · intro w' hSw
        (try dsimp only at hSw)
        go_simp
        all_goals with_reducible rfl
      (try simp only [Act.put, List.setIfInBounds_toArray, List.set_cons_zero, List.set_cons_succ, List.getElem_toArray, List.getElem_cons_zero, List.getElem_cons_succ])
      refine wpAnyH_take (i := 5) (oi := _) (v := ?_) rfl (by kernel_rfl) (by kernel_rfl) (by kernel_rfl) (fun _ _ _ h => h) (Or.inl ⟨by rfl, ?_⟩) (by assumption) ?_
      rotate_left
      · intro w' hSw
        (try dsimp only at hSw)
        go_simp
        all_goals with_reducible rfl
      (try simp only [Act.put, List.setIfInBounds_toArray, List.set_cons_zero, List.set_cons_succ, List.getElem_toArray, List.getElem_cons_zero, List.getElem_cons_succ])
      refine wpAnyH_ready (rs := [1]) (by kernel_rfl) (by simp) ?_
      refine AllReadyH.cons rfl (fun K hK => ?_) AllReadyH.nil
      go_simp
      go_wp2_with ((go_at_call 42; (with_reducible refine (cA _ _ _ _ hD.drew.f).mono ?_); rintro e w9 ⟨G9, rfl, hG9, hR9, hb9⟩; have hD9 := hD.drew.below hb9; have hbw9 := hbw.drew.trans (hb9.mono hbw.drew.size); have q9 := hD9.d.cV))
      refine hK.out _ _ (q9) (fun hHeld => ?_)
      clear hK K
      refine wpAnyH_ready (rs := [6]) (by kernel_rfl) (by simp) ?_
      refine AllReadyH.cons rfl (fun K hK => ?_) AllReadyH.nil
      go_simp
      go_wp2_with ((go_at_call 41; (with_reducible refine (equal_reqs _ _ L _ _ _ hR9 hD9.d.row (by omega)).mono ?_); rintro e w10 ⟨rfl, qq, h9⟩; have hb10 : Below w9.heap.size w9 w10 := (by rw [h9]; exact ⟨rfl, rfl, rfl, Nat.le_refl _, fun _ _ => rfl⟩); clear h9; have hD10 := hD9.below hb10; have hbw10 := hbw9.trans (hb10.mono hbw9.size); have q10 := hD10.d.cV))
      refine hK.out _ _ (q10) (fun hHeld => ?_)
      clear hK K
      refine wpAnyH_take (i := 7) (oi := _) (v := ?_) rfl (by kernel_rfl) (by kernel_rfl) (by kernel_rfl) (fun _ _ _ h => h) (Or.inl ⟨by rfl, ?_⟩) (by assumption) ?_
      rotate_left
      · intro w' hSw
        (try dsimp only at hSw)
        go_simp
        all_goals with_reducible rfl
      (try simp only [Act.put, List.setIfInBounds_toArray, List.set_cons_zero, List.set_cons_succ, List.getElem_toArray, List.getElem_cons_zero, List.getElem_cons_succ])
      refine wpAnyH_done (by kernel_rfl) ?_ _
      go_wp2
      go_ret
      exact ⟨rfl, hbw10⟩
end Buf
end Go.Proofs.Ytkflelbpiabcpac
