
/- The law of a fleet's orders, walked. -/
import Derived.Test.YtomdimljcbnnnacFltDuo
import Derived.Test.YtomdimljcbnnnacFrameSl
import Derived.Deep.CutBlock
import Derived.Deep.DeepCutAuto
namespace Go.Proofs.Ytomdimljcbnnnac
namespace Flt
open Go.RowKit Rw Rec Frm
set_option maxRecDepth 8000

/-- k orders are done -/
def PlR (Q D len : Nat) (w : World) (i : Value) (wr : World) : Prop :=
  ∃ (k : Nat) (v u : Value) (F : FS), k ≤ len ∧ i = .int .i64 k ∧ FD wr w.heap.size Q D v u F F ∧ Inv F ∧ F.last ≤ 50 * k ∧ Below w.heap.size w wr
/-- what an order leaves -/
def PoR (B Q D k : Nat) (w wx : World) : Prop :=
  ∃ (v u : Value) (F : FS), FD wx B Q D v u F F ∧ Inv F ∧ F.last ≤ 50 * k + 50 ∧ Below B w wx
theorem start_p {w5 : World} {B Q : Nat} {v : Value} {F : FS} (h : FAt w5 Q Q v F) (hB : B ≤ Q) : FAt w5 B Q v F := ⟨h.lt, hB, RAt.cQ h, RAt.cS h, h.fz, World.ownsRow.mono (RAt.own h) hB, h.ne⟩
theorem fd_new (w : World) (w6 : World) (n : Int) (hA : FAt w6 w.heap.size w.heap.size (.slice none 0 0) ⟨n, 0, []⟩) : FD (w6.alloc (.cells #[.slice none 0 0, .int .i64 0, .int .i64 n] 41)) w.heap.size w.heap.size w6.heap.size (.slice none 0 0) (.slice none 0 0) ⟨n, 0, []⟩ ⟨n, 0, []⟩ := by
  have hl := hA.lt
  refine ⟨hA.alloc _, ⟨by simp, by omega, fun j u hu => ?_, rfl, fun j => by simp, World.ownsRow_nil _ _ _ _, by simp [Value.ownBlock]⟩, by omega, by simp [Value.ownBlock], by simp [Value.ownBlock], by simp [Value.ownBlock]⟩
  match j, hu with
  | 0, hu => simp at hu; subst hu; exact cell_one rfl rfl
  | 1, hu => simp at hu; subst hu; exact cell_one rfl rfl
  | 2, hu => simp at hu; subst hu; exact cell_one rfl rfl
  | j + 3, hu => simp at hu
def minmax (a : Int) : Int := if 100 < (if a < 1 then 1 else a) then 100 else (if a < 1 then 1 else a)
theorem minmax_is (a : Int) : minmax a = mostN a := by unfold minmax mostN; split <;> (try split) <;> (try split) <;> omega
theorem all_p (B Q : Nat) (v : Value) (F : FS) (w : World) (hA : FAt w B Q v F) (hL : F.L.length ≤ 1000000000) :
    Calls Try.prog 22 #[.pointer (some ⟨Q, 0, none⟩)] w fun e w' => ∃ G, e = .returned (.slice (some ⟨G, 0, none⟩) F.L.length F.L.length) ∧ w.heap.size ≤ G ∧ RowAt pK w' (some ⟨G, 0, none⟩) F.L ∧ Below w.heap.size w w' := by
  refine (all_any B Q v F w hA hL).mono ?_
  rintro e w' ⟨rfl, h1, h2⟩
  exact ⟨_, rfl, Nat.le_refl _, h1, h2⟩
theorem plays_long (w : World) (a0 : Int) (a1 : Option Addr) (len cap : Nat) (h3 : 150 < len) :
    Calls Try.prog 4 #[.int .i64 a0, .slice a1 len cap] w fun e w' => e = .returned (.bool true) ∧ Below w.heap.size w w' := by
  have h3' : (150 : Int) < len := by omega
  go_enter Try.func4, Try.ntmps4
  go_wp2
  go_ret
  exact ⟨rfl, Below.refl _ _⟩
set_option maxHeartbeats 8000000 in
theorem plays_law (w : World) (a0 : Int) (a1 : Option Addr) (len cap : Nat) (X : Nat → Nat → Int) (h3 : len ≤ 150) (hX : Frm.RowsIn w a1 len 2 X) :
    Calls Try.prog 4 #[.int .i64 a0, .slice a1 len cap] w fun e w' => e = .returned (.bool true) ∧ Below w.heap.size w w' := by
  have h3' : ¬ (150 : Int) < len := by omega
  have c1 := fun w => new_any a0 w
  obtain ⟨mx, hmx⟩ : ∃ mx : Int, (if a0 < 1 then (1 : Int) else a0) = mx := ⟨_, rfl⟩
  obtain ⟨mn, hmn⟩ : ∃ mn : Int, (if 100 < mx then (100 : Int) else mx) = mn := ⟨_, rfl⟩
  have HM : Hid (mn = mostN a0) := by unfold Hid; have := minmax_is a0; unfold minmax at this; rw [hmx, hmn] at this; exact this
  go_enter Try.func4, Try.ntmps4
  go_wp2_with (go_at_call 9; (with_reducible refine (c1 _).mono ?_); rintro e w6 ⟨rfl, hA6, hb6⟩)
  rw [HM.out]
  have hD := fd_new w w6 _ hA6
  have hb7 : Below w.heap.size w (w6.alloc (.cells #[.slice none 0 0, .int .i64 0, .int .i64 (mostN a0)] 41)) := hb6.alloc hb6.size _
  clear c1 hA6 hmx hmn hb6
  generalize w6.heap.size = D at *
  go_loopw [30] (fun i wr => PlR w.heap.size D len w i wr) (fun i _ => len - (intOf i).toNat)
  case atStart => exact ⟨0, _, _, _, by omega, rfl, hD, inv_new a0, by simp, hb7⟩
  case round =>
    clear hD hb7
    obtain ⟨k, v, u, F, hk, rfl, hD, hI, hla, hbw⟩ := hrel
    by_cases hlt : k < len
    · have hlt' : (k : Int) < len := by omega
      have hlen := hI.len
      have hLn : F.L.length ≤ 1000000000 := by omega
      obtain ⟨b, off, rfl, hbl, hcell⟩ := (hX.below hbw (Nat.le_refl _)) k hlt
      have k0 : wr.cell? ⟨b, off + k * 2, none⟩ = some (.int .i64 (X k 0)) := by have := (hcell 0 (by omega)).1; simpa using this
      have k1 : wr.cell? ⟨b, off + k * 2 + 1, none⟩ = some (.int .i64 (X k 1)) := by have := (hcell 1 (by omega)).1; simpa [Nat.add_assoc] using this
      clear hcell hX
      generalize X k 0 = kd at k0
      generalize X k 1 = x at k1
      obtain ⟨W, hW⟩ : ∃ W, W = wr.alloc (.cells #[.int .i64 kd, .int .i64 x] 43) := ⟨_, rfl⟩
      have hDW : FD W w.heap.size w.heap.size D v u F F := by rw [hW]; exact hD.alloc _
      have hbW : Below w.heap.size w W := by rw [hW]; exact hbw.alloc hbw.size _
      have e0 : W.cell? ⟨wr.heap.size, 0, none⟩ = some (.int .i64 kd) := by rw [hW]; exact cell_one rfl rfl
      have e1 : W.cell? ⟨wr.heap.size, 1, none⟩ = some (.int .i64 x) := by rw [hW]; exact cell_one rfl rfl
      have hC : Free W w.heap.size D v u wr.heap.size := by
        have h1 := hD.f.lt
        have h2 := hD.d.lt
        refine ⟨by rw [hW]; simp, by omega, by omega, fun e => ?_, fun e => ?_⟩
        · have := hD.f.rowLt _ e; omega
        · have := hD.d.rowLt _ e; omega
      have HW : Hid (W = wr.alloc (.cells #[.int .i64 kd, .int .i64 x] 43)) := hW
      clear hD hbw hW
      go_upto_block 2 with fail
      rw [← HW.out]
      clear HW k0 k1 hbl
      generalize wr.heap.size = C at *
      go_cut [9] (fun ok wx => ok = .bool true ∧ PoR w.heap.size w.heap.size D k w wx)
      case first =>
        by_cases hk0 : kd = 0
        · subst hk0
          as_aux_lemma =>
            have cO := scale_any F x hI (by omega)
            have cD := cscale_any F x hI (by omega)
            have hI1 := scaleF_inv hI x
            have hl1 : (scaleF F x).last ≤ 50 * k + 50 := (by have := scaleF_last (F := F) x; omega)
            dsimp only [Does] at cO
            dsimp only [Doth] at cD
            generalize scaleF F x = F1 at *
            generalize scaleE x = E at *
            go_wp2_with fail
            refine wp_region_held_drew (S := fun w' => w'.cell? ⟨C, 1, none⟩ = some (.int .i64 x)) (by kernel_rfl) (e1) (fun hHeld => ?_)
            refine wpAnyH_take (i := 0) (oi := _) (v := ?_) rfl (by kernel_rfl) (by kernel_rfl) (by kernel_rfl) (fun _ _ _ h => h) (Or.inl ⟨by rfl, ?_⟩) (by assumption) ?_
            rotate_left
            · intro w' hSw
              (try dsimp only at hSw)
              go_simp
              all_goals with_reducible rfl
            (try simp only [Act.put, List.setIfInBounds_toArray, List.set_cons_zero, List.set_cons_succ, List.getElem_toArray, List.getElem_cons_zero])
            refine wpAnyH_take (i := 1) (oi := _) (v := ?_) rfl (by kernel_rfl) (by kernel_rfl) (by kernel_rfl) (fun _ _ _ h => h) (Or.inl ⟨by rfl, ?_⟩) (by assumption) ?_
            rotate_left
            · intro w' hSw
              (try dsimp only at hSw)
              go_simp
              all_goals with_reducible rfl
            (try simp only [Act.put, List.setIfInBounds_toArray, List.set_cons_zero, List.set_cons_succ, List.getElem_toArray, List.getElem_cons_zero, List.getElem_cons_succ])
            refine wpAnyH_take (i := 2) (oi := _) (v := ?_) rfl (by kernel_rfl) (by kernel_rfl) (by kernel_rfl) (fun _ _ _ h => h) (Or.inl ⟨by rfl, ?_⟩) (by assumption) ?_
            rotate_left
            · intro w' hSw
              (try dsimp only at hSw)
              go_simp
              all_goals with_reducible rfl
            (try simp only [Act.put, List.setIfInBounds_toArray, List.set_cons_zero, List.set_cons_succ, List.getElem_toArray, List.getElem_cons_zero, List.getElem_cons_succ])
            refine wpAnyH_take (i := 4) (oi := _) (v := ?_) rfl (by kernel_rfl) (by kernel_rfl) (by kernel_rfl) (fun _ _ _ h => h) (Or.inl ⟨by rfl, ?_⟩) (by assumption) ?_
            rotate_left
            · intro w' hSw
              (try dsimp only at hSw)
              go_simp
              all_goals with_reducible rfl
            (try simp only [Act.put, List.setIfInBounds_toArray, List.set_cons_zero, List.set_cons_succ, List.getElem_toArray, List.getElem_cons_zero, List.getElem_cons_succ])
            refine wpAnyH_take (i := 5) (oi := _) (v := ?_) rfl (by kernel_rfl) (by kernel_rfl) (by kernel_rfl) (fun _ _ _ h => h) (Or.inl ⟨by rfl, ?_⟩) (by assumption) ?_
            rotate_left
            · intro w' hSw
              (try dsimp only at hSw)
              go_simp
              all_goals with_reducible rfl
            (try simp only [Act.put, List.setIfInBounds_toArray, List.set_cons_zero, List.set_cons_succ, List.getElem_toArray, List.getElem_cons_zero, List.getElem_cons_succ])
            refine wpAnyH_take (i := 6) (oi := _) (v := ?_) rfl (by kernel_rfl) (by kernel_rfl) (by kernel_rfl) (fun _ _ _ h => h) (Or.inl ⟨by rfl, ?_⟩) (by assumption) ?_
            rotate_left
            · intro w' hSw
              (try dsimp only at hSw)
              go_simp
              all_goals with_reducible rfl
            (try simp only [Act.put, List.setIfInBounds_toArray, List.set_cons_zero, List.set_cons_succ, List.getElem_toArray, List.getElem_cons_zero, List.getElem_cons_succ])
            refine wpAnyH_ready (rs := [3]) (by kernel_rfl) (by simp) ?_
            refine AllReadyH.cons rfl (fun K hK => ?_) AllReadyH.nil
            go_simp
            go_wp2_with ((go_at_call 10; (with_reducible refine (cO _ _ _ _ hDW.drew.f).mono ?_); rintro e w8 ⟨rfl, v8, hA8, hT8⟩; have hD8 := hDW.drew.left hA8 hT8; have hb8 := hbW.drew.trans (RAt.turned hDW.drew.f hT8); have q8 := hT8.cell (w := W.drew) e1 hC.q hC.v; have hC8 := hC.drew.left hT8))
            refine hK.out _ _ (q8) (fun hHeld => ?_)
            clear hK K
            refine wpAnyH_ready (rs := [7]) (by kernel_rfl) (by simp) ?_
            refine AllReadyH.cons rfl (fun K hK => ?_) AllReadyH.nil
            go_simp
            go_wp2_with ((go_at_call 11; (with_reducible refine (cD _ _ _ _ hD8.d).mono ?_); rintro e w9 ⟨rfl, u9, hA9, hT9⟩; have hD9 := hD8.right hA9 hT9; have hb9 := hb8.trans (RAt.turned hD8.d hT9); have q9 := hT9.cell q8 hC8.d hC8.u))
            refine hK.out _ _ (q9) (fun hHeld => ?_)
            clear hK K
            refine wpAnyH_take (i := 8) (oi := _) (v := ?_) rfl (by kernel_rfl) (by kernel_rfl) (by kernel_rfl) (fun _ _ _ h => h) (Or.inl ⟨by rfl, ?_⟩) (by assumption) ?_
            rotate_left
            · intro w' hSw
              (try dsimp only at hSw)
              go_simp
              all_goals with_reducible rfl
            (try simp only [Act.put, List.setIfInBounds_toArray, List.set_cons_zero, List.set_cons_succ, List.getElem_toArray, List.getElem_cons_zero, List.getElem_cons_succ])
            refine wpAnyH_take (i := 9) (oi := _) (v := ?_) rfl (by kernel_rfl) (by kernel_rfl) (by kernel_rfl) (fun _ _ _ h => h) (Or.inl ⟨by rfl, ?_⟩) (by assumption) ?_
            rotate_left
            · intro w' hSw
              (try dsimp only at hSw)
              go_simp
              all_goals with_reducible rfl
            (try simp only [Act.put, List.setIfInBounds_toArray, List.set_cons_zero, List.set_cons_succ, List.getElem_toArray, List.getElem_cons_zero, List.getElem_cons_succ])
            refine wpAnyH_done (by kernel_rfl) ?_ _
            go_wp2
            go_meet
            exact ⟨by simp, _, _, F1, hD9, hI1, hl1, hb9⟩
        · have hk0b : (kd == 0) = false := by simp [hk0]
          by_cases hk1 : kd = 1
          · subst hk1
            as_aux_lemma =>
              have cO := start_any F x hLn
              have cD := cturn_any F x 1 hLn (Or.inl rfl)
              have hI1 := turn_inv hI x 1 (Or.inl rfl)
              have hl1 : (turnS F x 1).last ≤ 50 * k + 50 := (by simp only [turnS]; omega)
              dsimp only [Does] at cO
              dsimp only [Doth] at cD
              generalize turnS F x 1 = F1 at *
              generalize turnE F.L x 1 = E at *
              go_wp2_with fail
              refine wp_region_held_drew (S := fun w' => w'.cell? ⟨C, 1, none⟩ = some (.int .i64 x)) (by kernel_rfl) (e1) (fun hHeld => ?_)
              refine wpAnyH_take (i := 0) (oi := _) (v := ?_) rfl (by kernel_rfl) (by kernel_rfl) (by kernel_rfl) (fun _ _ _ h => h) (Or.inl ⟨by rfl, ?_⟩) (by assumption) ?_
              rotate_left
              · intro w' hSw
                (try dsimp only at hSw)
                go_simp
                all_goals with_reducible rfl
              (try simp only [Act.put, List.setIfInBounds_toArray, List.set_cons_zero, List.set_cons_succ, List.getElem_toArray, List.getElem_cons_zero])
              refine wpAnyH_take (i := 1) (oi := _) (v := ?_) rfl (by kernel_rfl) (by kernel_rfl) (by kernel_rfl) (fun _ _ _ h => h) (Or.inl ⟨by rfl, ?_⟩) (by assumption) ?_
              rotate_left
              · intro w' hSw
                (try dsimp only at hSw)
                go_simp
                all_goals with_reducible rfl
              (try simp only [Act.put, List.setIfInBounds_toArray, List.set_cons_zero, List.set_cons_succ, List.getElem_toArray, List.getElem_cons_zero, List.getElem_cons_succ])
              refine wpAnyH_take (i := 2) (oi := _) (v := ?_) rfl (by kernel_rfl) (by kernel_rfl) (by kernel_rfl) (fun _ _ _ h => h) (Or.inl ⟨by rfl, ?_⟩) (by assumption) ?_
              rotate_left
              · intro w' hSw
                (try dsimp only at hSw)
                go_simp
                all_goals with_reducible rfl
              (try simp only [Act.put, List.setIfInBounds_toArray, List.set_cons_zero, List.set_cons_succ, List.getElem_toArray, List.getElem_cons_zero, List.getElem_cons_succ])
              refine wpAnyH_take (i := 4) (oi := _) (v := ?_) rfl (by kernel_rfl) (by kernel_rfl) (by kernel_rfl) (fun _ _ _ h => h) (Or.inl ⟨by rfl, ?_⟩) (by assumption) ?_
              rotate_left
              · intro w' hSw
                (try dsimp only at hSw)
                go_simp
                all_goals with_reducible rfl
              (try simp only [Act.put, List.setIfInBounds_toArray, List.set_cons_zero, List.set_cons_succ, List.getElem_toArray, List.getElem_cons_zero, List.getElem_cons_succ])
              refine wpAnyH_take (i := 5) (oi := _) (v := ?_) rfl (by kernel_rfl) (by kernel_rfl) (by kernel_rfl) (fun _ _ _ h => h) (Or.inl ⟨by rfl, ?_⟩) (by assumption) ?_
              rotate_left
              · intro w' hSw
                (try dsimp only at hSw)
                go_simp
                all_goals with_reducible rfl
              (try simp only [Act.put, List.setIfInBounds_toArray, List.set_cons_zero, List.set_cons_succ, List.getElem_toArray, List.getElem_cons_zero, List.getElem_cons_succ])
              refine wpAnyH_take (i := 6) (oi := _) (v := ?_) rfl (by kernel_rfl) (by kernel_rfl) (by kernel_rfl) (fun _ _ _ h => h) (Or.inl ⟨by rfl, ?_⟩) (by assumption) ?_
              rotate_left
              · intro w' hSw
                (try dsimp only at hSw)
                go_simp
                all_goals with_reducible rfl
              (try simp only [Act.put, List.setIfInBounds_toArray, List.set_cons_zero, List.set_cons_succ, List.getElem_toArray, List.getElem_cons_zero, List.getElem_cons_succ])
              refine wpAnyH_ready (rs := [3]) (by kernel_rfl) (by simp) ?_
              refine AllReadyH.cons rfl (fun K hK => ?_) AllReadyH.nil
              go_simp
              go_wp2_with ((go_at_call 12; (with_reducible refine (cO _ _ _ _ hDW.drew.f).mono ?_); rintro e w8 ⟨rfl, v8, hA8, hT8⟩; have hD8 := hDW.drew.left hA8 hT8; have hb8 := hbW.drew.trans (RAt.turned hDW.drew.f hT8); have q8 := hT8.cell (w := W.drew) e1 hC.q hC.v; have hC8 := hC.drew.left hT8))
              refine hK.out _ _ (q8) (fun hHeld => ?_)
              clear hK K
              refine wpAnyH_ready (rs := [7]) (by kernel_rfl) (by simp) ?_
              refine AllReadyH.cons rfl (fun K hK => ?_) AllReadyH.nil
              go_simp
              go_wp2_with ((go_at_call 13; (with_reducible refine (cD _ _ _ _ hD8.d).mono ?_); rintro e w9 ⟨rfl, u9, hA9, hT9⟩; have hD9 := hD8.right hA9 hT9; have hb9 := hb8.trans (RAt.turned hD8.d hT9); have q9 := hT9.cell q8 hC8.d hC8.u))
              refine hK.out _ _ (q9) (fun hHeld => ?_)
              clear hK K
              refine wpAnyH_take (i := 8) (oi := _) (v := ?_) rfl (by kernel_rfl) (by kernel_rfl) (by kernel_rfl) (fun _ _ _ h => h) (Or.inl ⟨by rfl, ?_⟩) (by assumption) ?_
              rotate_left
              · intro w' hSw
                (try dsimp only at hSw)
                go_simp
                all_goals with_reducible rfl
              (try simp only [Act.put, List.setIfInBounds_toArray, List.set_cons_zero, List.set_cons_succ, List.getElem_toArray, List.getElem_cons_zero, List.getElem_cons_succ])
              refine wpAnyH_take (i := 9) (oi := _) (v := ?_) rfl (by kernel_rfl) (by kernel_rfl) (by kernel_rfl) (fun _ _ _ h => h) (Or.inl ⟨by rfl, ?_⟩) (by assumption) ?_
              rotate_left
              · intro w' hSw
                (try dsimp only at hSw)
                go_simp
                all_goals with_reducible rfl
              (try simp only [Act.put, List.setIfInBounds_toArray, List.set_cons_zero, List.set_cons_succ, List.getElem_toArray, List.getElem_cons_zero, List.getElem_cons_succ])
              refine wpAnyH_done (by kernel_rfl) ?_ _
              go_wp2
              go_meet
              exact ⟨by simp, _, _, F1, hD9, hI1, hl1, hb9⟩
          · have hk1b : (kd == 1) = false := by simp [hk1]
            by_cases hk2 : kd = 2
            · subst hk2
              as_aux_lemma =>
                have cO := ready_any F x hLn
                have cD := cturn_any F x 2 hLn (Or.inr rfl)
                have hI1 := turn_inv hI x 2 (Or.inr rfl)
                have hl1 : (turnS F x 2).last ≤ 50 * k + 50 := (by simp only [turnS]; omega)
                dsimp only [Does] at cO
                dsimp only [Doth] at cD
                generalize turnS F x 2 = F1 at *
                generalize turnE F.L x 2 = E at *
                go_wp2_with fail
                refine wp_region_held_drew (S := fun w' => w'.cell? ⟨C, 1, none⟩ = some (.int .i64 x)) (by kernel_rfl) (e1) (fun hHeld => ?_)
                refine wpAnyH_take (i := 0) (oi := _) (v := ?_) rfl (by kernel_rfl) (by kernel_rfl) (by kernel_rfl) (fun _ _ _ h => h) (Or.inl ⟨by rfl, ?_⟩) (by assumption) ?_
                rotate_left
                · intro w' hSw
                  (try dsimp only at hSw)
                  go_simp
                  all_goals with_reducible rfl
                (try simp only [Act.put, List.setIfInBounds_toArray, List.set_cons_zero, List.set_cons_succ, List.getElem_toArray, List.getElem_cons_zero])
                refine wpAnyH_take (i := 1) (oi := _) (v := ?_) rfl (by kernel_rfl) (by kernel_rfl) (by kernel_rfl) (fun _ _ _ h => h) (Or.inl ⟨by rfl, ?_⟩) (by assumption) ?_
                rotate_left
                · intro w' hSw
                  (try dsimp only at hSw)
                  go_simp
                  all_goals with_reducible rfl
                (try simp only [Act.put, List.setIfInBounds_toArray, List.set_cons_zero, List.set_cons_succ, List.getElem_toArray, List.getElem_cons_zero, List.getElem_cons_succ])
                refine wpAnyH_take (i := 2) (oi := _) (v := ?_) rfl (by kernel_rfl) (by kernel_rfl) (by kernel_rfl) (fun _ _ _ h => h) (Or.inl ⟨by rfl, ?_⟩) (by assumption) ?_
                rotate_left
                · intro w' hSw
                  (try dsimp only at hSw)
                  go_simp
                  all_goals with_reducible rfl
                (try simp only [Act.put, List.setIfInBounds_toArray, List.set_cons_zero, List.set_cons_succ, List.getElem_toArray, List.getElem_cons_zero, List.getElem_cons_succ])
                refine wpAnyH_take (i := 4) (oi := _) (v := ?_) rfl (by kernel_rfl) (by kernel_rfl) (by kernel_rfl) (fun _ _ _ h => h) (Or.inl ⟨by rfl, ?_⟩) (by assumption) ?_
                rotate_left
                · intro w' hSw
                  (try dsimp only at hSw)
                  go_simp
                  all_goals with_reducible rfl
                (try simp only [Act.put, List.setIfInBounds_toArray, List.set_cons_zero, List.set_cons_succ, List.getElem_toArray, List.getElem_cons_zero, List.getElem_cons_succ])
                refine wpAnyH_take (i := 5) (oi := _) (v := ?_) rfl (by kernel_rfl) (by kernel_rfl) (by kernel_rfl) (fun _ _ _ h => h) (Or.inl ⟨by rfl, ?_⟩) (by assumption) ?_
                rotate_left
                · intro w' hSw
                  (try dsimp only at hSw)
                  go_simp
                  all_goals with_reducible rfl
                (try simp only [Act.put, List.setIfInBounds_toArray, List.set_cons_zero, List.set_cons_succ, List.getElem_toArray, List.getElem_cons_zero, List.getElem_cons_succ])
                refine wpAnyH_take (i := 6) (oi := _) (v := ?_) rfl (by kernel_rfl) (by kernel_rfl) (by kernel_rfl) (fun _ _ _ h => h) (Or.inl ⟨by rfl, ?_⟩) (by assumption) ?_
                rotate_left
                · intro w' hSw
                  (try dsimp only at hSw)
                  go_simp
                  all_goals with_reducible rfl
                (try simp only [Act.put, List.setIfInBounds_toArray, List.set_cons_zero, List.set_cons_succ, List.getElem_toArray, List.getElem_cons_zero, List.getElem_cons_succ])
                refine wpAnyH_ready (rs := [3]) (by kernel_rfl) (by simp) ?_
                refine AllReadyH.cons rfl (fun K hK => ?_) AllReadyH.nil
                go_simp
                go_wp2_with ((go_at_call 14; (with_reducible refine (cO _ _ _ _ hDW.drew.f).mono ?_); rintro e w8 ⟨rfl, v8, hA8, hT8⟩; have hD8 := hDW.drew.left hA8 hT8; have hb8 := hbW.drew.trans (RAt.turned hDW.drew.f hT8); have q8 := hT8.cell (w := W.drew) e1 hC.q hC.v; have hC8 := hC.drew.left hT8))
                refine hK.out _ _ (q8) (fun hHeld => ?_)
                clear hK K
                refine wpAnyH_ready (rs := [7]) (by kernel_rfl) (by simp) ?_
                refine AllReadyH.cons rfl (fun K hK => ?_) AllReadyH.nil
                go_simp
                go_wp2_with ((go_at_call 13; (with_reducible refine (cD _ _ _ _ hD8.d).mono ?_); rintro e w9 ⟨rfl, u9, hA9, hT9⟩; have hD9 := hD8.right hA9 hT9; have hb9 := hb8.trans (RAt.turned hD8.d hT9); have q9 := hT9.cell q8 hC8.d hC8.u))
                refine hK.out _ _ (q9) (fun hHeld => ?_)
                clear hK K
                refine wpAnyH_take (i := 8) (oi := _) (v := ?_) rfl (by kernel_rfl) (by kernel_rfl) (by kernel_rfl) (fun _ _ _ h => h) (Or.inl ⟨by rfl, ?_⟩) (by assumption) ?_
                rotate_left
                · intro w' hSw
                  (try dsimp only at hSw)
                  go_simp
                  all_goals with_reducible rfl
                (try simp only [Act.put, List.setIfInBounds_toArray, List.set_cons_zero, List.set_cons_succ, List.getElem_toArray, List.getElem_cons_zero, List.getElem_cons_succ])
                refine wpAnyH_take (i := 9) (oi := _) (v := ?_) rfl (by kernel_rfl) (by kernel_rfl) (by kernel_rfl) (fun _ _ _ h => h) (Or.inl ⟨by rfl, ?_⟩) (by assumption) ?_
                rotate_left
                · intro w' hSw
                  (try dsimp only at hSw)
                  go_simp
                  all_goals with_reducible rfl
                (try simp only [Act.put, List.setIfInBounds_toArray, List.set_cons_zero, List.set_cons_succ, List.getElem_toArray, List.getElem_cons_zero, List.getElem_cons_succ])
                refine wpAnyH_done (by kernel_rfl) ?_ _
                go_wp2
                go_meet
                exact ⟨by simp, _, _, F1, hD9, hI1, hl1, hb9⟩
            · have hk2b : (kd == 2) = false := by simp [hk2]
              by_cases hk3 : kd = 3
              · subst hk3
                as_aux_lemma =>
                  have cO := crash_any F x hLn
                  have cD := ccrash_any F x hI hLn
                  have hI1 := crash_inv hI x
                  have hl1 : (crashS F x).last ≤ 50 * k + 50 := (by simp only [crashS]; omega)
                  dsimp only [Does] at cO
                  dsimp only [Doth] at cD
                  generalize crashS F x = F1 at *
                  generalize crashN F.L x = E at *
                  generalize crashE F.L x = E2 at *
                  go_wp2_with (first | (go_at_call 15; (with_reducible refine (cO _ _ _ _ hDW.f).mono ?_); rintro e w8 ⟨rfl, v8, hA8, hT8⟩; have hD8 := hDW.left hA8 hT8; have hb8 := hbW.trans (RAt.turned hDW.f hT8); have q8 := hT8.cell (w := W) e1 hC.q hC.v; have hC8 := hC.left hT8) | (go_at_call 16; (with_reducible refine (cD _ _ _ _ hD8.d).mono ?_); rintro e w9 ⟨rfl, u9, hA9, hT9⟩; have hD9 := hD8.right hA9 hT9; have hb9 := hb8.trans (RAt.turned hD8.d hT9); have q9 := hT9.cell q8 hC8.d hC8.u))
                  go_meet
                  exact ⟨by simp, _, _, F1, hD9, hI1, hl1, hb9⟩
              · have hk3b : (kd == 3) = false := by simp [hk3]
                by_cases hk4 : kd = 4
                · subst hk4
                  as_aux_lemma =>
                    have cO := give_any F hI hLn
                    have cD := cgive_any F hI hLn
                    have hI1 := give_inv hI
                    have hl1 : (giveS F).last ≤ 50 * k + 50 := (by rw [giveS_last]; omega)
                    dsimp only [Does] at cO
                    dsimp only [Doth] at cD
                    generalize giveS F = F1 at *
                    generalize giveN F = E at *
                    generalize giveE F = E2 at *
                    go_wp2_with (first | (go_at_call 17; (with_reducible refine (cO _ _ _ _ hDW.f).mono ?_); rintro e w8 ⟨rfl, v8, hA8, hT8⟩; have hD8 := hDW.left hA8 hT8; have hb8 := hbW.trans (RAt.turned hDW.f hT8); have q8 := hT8.cell (w := W) e1 hC.q hC.v; have hC8 := hC.left hT8) | (go_at_call 18; (with_reducible refine (cD _ _ _ _ hD8.d).mono ?_); rintro e w9 ⟨rfl, u9, hA9, hT9⟩; have hD9 := hD8.right hA9 hT9; have hb9 := hb8.trans (RAt.turned hD8.d hT9); have q9 := hT9.cell q8 hC8.d hC8.u))
                    go_meet
                    exact ⟨by simp, _, _, F1, hD9, hI1, hl1, hb9⟩
                · have hk4b : (kd == 4) = false := by simp [hk4]
                  by_cases hk5 : kd = 5
                  · subst hk5
                    as_aux_lemma =>
                      have cO := done_any F x hI hLn
                      have cD := cdone_any F x hI hLn
                      have hI1 := done_inv hI x
                      have hl1 : (doneS F x).last ≤ 50 * k + 50 := (by simp only [doneS]; omega)
                      dsimp only [Does] at cO
                      dsimp only [Doth] at cD
                      generalize doneS F x = F1 at *
                      generalize doneE F.L x = E at *
                      go_wp2_with fail
                      refine wp_region_held_drew (S := fun w' => w'.cell? ⟨C, 1, none⟩ = some (.int .i64 x)) (by kernel_rfl) (e1) (fun hHeld => ?_)
                      refine wpAnyH_take (i := 0) (oi := _) (v := ?_) rfl (by kernel_rfl) (by kernel_rfl) (by kernel_rfl) (fun _ _ _ h => h) (Or.inl ⟨by rfl, ?_⟩) (by assumption) ?_
                      rotate_left
                      · intro w' hSw
                        (try dsimp only at hSw)
                        go_simp
                        all_goals with_reducible rfl
                      (try simp only [Act.put, List.setIfInBounds_toArray, List.set_cons_zero, List.set_cons_succ, List.getElem_toArray, List.getElem_cons_zero])
                      refine wpAnyH_take (i := 1) (oi := _) (v := ?_) rfl (by kernel_rfl) (by kernel_rfl) (by kernel_rfl) (fun _ _ _ h => h) (Or.inl ⟨by rfl, ?_⟩) (by assumption) ?_
                      rotate_left
                      · intro w' hSw
                        (try dsimp only at hSw)
                        go_simp
                        all_goals with_reducible rfl
                      (try simp only [Act.put, List.setIfInBounds_toArray, List.set_cons_zero, List.set_cons_succ, List.getElem_toArray, List.getElem_cons_zero, List.getElem_cons_succ])
                      refine wpAnyH_take (i := 2) (oi := _) (v := ?_) rfl (by kernel_rfl) (by kernel_rfl) (by kernel_rfl) (fun _ _ _ h => h) (Or.inl ⟨by rfl, ?_⟩) (by assumption) ?_
                      rotate_left
                      · intro w' hSw
                        (try dsimp only at hSw)
                        go_simp
                        all_goals with_reducible rfl
                      (try simp only [Act.put, List.setIfInBounds_toArray, List.set_cons_zero, List.set_cons_succ, List.getElem_toArray, List.getElem_cons_zero, List.getElem_cons_succ])
                      refine wpAnyH_take (i := 4) (oi := _) (v := ?_) rfl (by kernel_rfl) (by kernel_rfl) (by kernel_rfl) (fun _ _ _ h => h) (Or.inl ⟨by rfl, ?_⟩) (by assumption) ?_
                      rotate_left
                      · intro w' hSw
                        (try dsimp only at hSw)
                        go_simp
                        all_goals with_reducible rfl
                      (try simp only [Act.put, List.setIfInBounds_toArray, List.set_cons_zero, List.set_cons_succ, List.getElem_toArray, List.getElem_cons_zero, List.getElem_cons_succ])
                      refine wpAnyH_take (i := 5) (oi := _) (v := ?_) rfl (by kernel_rfl) (by kernel_rfl) (by kernel_rfl) (fun _ _ _ h => h) (Or.inl ⟨by rfl, ?_⟩) (by assumption) ?_
                      rotate_left
                      · intro w' hSw
                        (try dsimp only at hSw)
                        go_simp
                        all_goals with_reducible rfl
                      (try simp only [Act.put, List.setIfInBounds_toArray, List.set_cons_zero, List.set_cons_succ, List.getElem_toArray, List.getElem_cons_zero, List.getElem_cons_succ])
                      refine wpAnyH_take (i := 6) (oi := _) (v := ?_) rfl (by kernel_rfl) (by kernel_rfl) (by kernel_rfl) (fun _ _ _ h => h) (Or.inl ⟨by rfl, ?_⟩) (by assumption) ?_
                      rotate_left
                      · intro w' hSw
                        (try dsimp only at hSw)
                        go_simp
                        all_goals with_reducible rfl
                      (try simp only [Act.put, List.setIfInBounds_toArray, List.set_cons_zero, List.set_cons_succ, List.getElem_toArray, List.getElem_cons_zero, List.getElem_cons_succ])
                      refine wpAnyH_ready (rs := [3]) (by kernel_rfl) (by simp) ?_
                      refine AllReadyH.cons rfl (fun K hK => ?_) AllReadyH.nil
                      go_simp
                      go_wp2_with ((go_at_call 19; (with_reducible refine (cO _ _ _ _ hDW.drew.f).mono ?_); rintro e w8 ⟨rfl, v8, hA8, hT8⟩; have hD8 := hDW.drew.left hA8 hT8; have hb8 := hbW.drew.trans (RAt.turned hDW.drew.f hT8); have q8 := hT8.cell (w := W.drew) e1 hC.q hC.v; have hC8 := hC.drew.left hT8))
                      refine hK.out _ _ (q8) (fun hHeld => ?_)
                      clear hK K
                      refine wpAnyH_ready (rs := [7]) (by kernel_rfl) (by simp) ?_
                      refine AllReadyH.cons rfl (fun K hK => ?_) AllReadyH.nil
                      go_simp
                      go_wp2_with ((go_at_call 20; (with_reducible refine (cD _ _ _ _ hD8.d).mono ?_); rintro e w9 ⟨rfl, u9, hA9, hT9⟩; have hD9 := hD8.right hA9 hT9; have hb9 := hb8.trans (RAt.turned hD8.d hT9); have q9 := hT9.cell q8 hC8.d hC8.u))
                      refine hK.out _ _ (q9) (fun hHeld => ?_)
                      clear hK K
                      refine wpAnyH_take (i := 8) (oi := _) (v := ?_) rfl (by kernel_rfl) (by kernel_rfl) (by kernel_rfl) (fun _ _ _ h => h) (Or.inl ⟨by rfl, ?_⟩) (by assumption) ?_
                      rotate_left
                      · intro w' hSw
                        (try dsimp only at hSw)
                        go_simp
                        all_goals with_reducible rfl
                      (try simp only [Act.put, List.setIfInBounds_toArray, List.set_cons_zero, List.set_cons_succ, List.getElem_toArray, List.getElem_cons_zero, List.getElem_cons_succ])
                      refine wpAnyH_take (i := 9) (oi := _) (v := ?_) rfl (by kernel_rfl) (by kernel_rfl) (by kernel_rfl) (fun _ _ _ h => h) (Or.inl ⟨by rfl, ?_⟩) (by assumption) ?_
                      rotate_left
                      · intro w' hSw
                        (try dsimp only at hSw)
                        go_simp
                        all_goals with_reducible rfl
                      (try simp only [Act.put, List.setIfInBounds_toArray, List.set_cons_zero, List.set_cons_succ, List.getElem_toArray, List.getElem_cons_zero, List.getElem_cons_succ])
                      refine wpAnyH_done (by kernel_rfl) ?_ _
                      go_wp2
                      go_meet
                      exact ⟨by simp, _, _, F1, hD9, hI1, hl1, hb9⟩
                  · have hk5b : (kd == 5) = false := by simp [hk5]
                    go_wp2
                    go_meet
                    exact ⟨rfl, _, _, F, hDW, hI, by omega, hbW⟩
      case rest =>
        obtain ⟨rfl, v1, u1, F1, hDx, hI1, hl1, hbx⟩ := hcut
        have hlen1 := hI1.len
        have hL1 : F1.L.length ≤ 1000000000 := by omega
        obtain ⟨bo, bc, rfl, _, _, _⟩ := hDx.d.form
        have qx := hDx.d.cV
        have cA := fun B Q v w h => all_p B Q v F1 w h hL1
        have cC := fun B Q v w h => count_any B Q v F1 w h hL1
        have cDc := fun B Q v w h => ccount_any B Q v F1 w h hL1
        have HI1 : Hid (Inv F1) := hI1
        clear hI1 hI hla hDW hbW e0 e1 hC hlen hLn
        generalize cnt F1.L = cn at *
        go_wp2_with fail
        refine wp_region_held_drew (S := fun w' => w'.cell? ⟨D, 0, none⟩ = some (.slice bo F1.L.length bc)) (by kernel_rfl) (qx) (fun hHeld => ?_)
        refine wpAnyH_take (i := 0) (oi := _) (v := ?_) rfl (by kernel_rfl) (by kernel_rfl) (by kernel_rfl) (fun _ _ _ h => h) (Or.inl ⟨by rfl, ?_⟩) (by assumption) ?_
        rotate_left
        · intro w' hSw
          (try dsimp only at hSw)
          go_simp
          all_goals with_reducible rfl
        (try simp only [Act.put, List.setIfInBounds_toArray, List.set_cons_zero, List.set_cons_succ, List.getElem_toArray, List.getElem_cons_zero])
        refine wpAnyH_take (i := 1) (oi := _) (v := ?_) rfl (by kernel_rfl) (by kernel_rfl) (by kernel_rfl) (fun _ _ _ h => h) (Or.inl ⟨by rfl, ?_⟩) (by assumption) ?_
        rotate_left
        · intro w' hSw
          (try dsimp only at hSw)
          go_simp
          all_goals with_reducible rfl
        (try simp only [Act.put, List.setIfInBounds_toArray, List.set_cons_zero, List.set_cons_succ, List.getElem_toArray, List.getElem_cons_zero, List.getElem_cons_succ])
        refine wpAnyH_take (i := 2) (oi := _) (v := ?_) rfl (by kernel_rfl) (by kernel_rfl) (by kernel_rfl) (fun _ _ _ h => h) (Or.inl ⟨by rfl, ?_⟩) (by assumption) ?_
        rotate_left
        · intro w' hSw
          (try dsimp only at hSw)
          go_simp
          all_goals with_reducible rfl
        (try simp only [Act.put, List.setIfInBounds_toArray, List.set_cons_zero, List.set_cons_succ, List.getElem_toArray, List.getElem_cons_zero, List.getElem_cons_succ])
        refine wpAnyH_take (i := 3) (oi := _) (v := ?_) rfl (by kernel_rfl) (by kernel_rfl) (by kernel_rfl) (fun _ _ _ h => h) (Or.inl ⟨by rfl, ?_⟩) (by assumption) ?_
        rotate_left
        · intro w' hSw
          (try dsimp only at hSw)
          go_simp
          all_goals with_reducible rfl
        (try simp only [Act.put, List.setIfInBounds_toArray, List.set_cons_zero, List.set_cons_succ, List.getElem_toArray, List.getElem_cons_zero, List.getElem_cons_succ])
        refine wpAnyH_take (i := 5) (oi := _) (v := ?_) rfl (by kernel_rfl) (by kernel_rfl) (by kernel_rfl) (fun _ _ _ h => h) (Or.inl ⟨by rfl, ?_⟩) (by assumption) ?_
        rotate_left
        · intro w' hSw
          (try dsimp only at hSw)
          go_simp
          all_goals with_reducible rfl
        (try simp only [Act.put, List.setIfInBounds_toArray, List.set_cons_zero, List.set_cons_succ, List.getElem_toArray, List.getElem_cons_zero, List.getElem_cons_succ])
        refine wpAnyH_take (i := 6) (oi := _) (v := ?_) rfl (by kernel_rfl) (by kernel_rfl) (by kernel_rfl) (fun _ _ _ h => h) (Or.inl ⟨by rfl, ?_⟩) (by assumption) ?_
        rotate_left
        · intro w' hSw
          (try dsimp only at hSw)
          go_simp
          all_goals with_reducible rfl
        (try simp only [Act.put, List.setIfInBounds_toArray, List.set_cons_zero, List.set_cons_succ, List.getElem_toArray, List.getElem_cons_zero, List.getElem_cons_succ])
        refine wpAnyH_take (i := 7) (oi := _) (v := ?_) rfl (by kernel_rfl) (by kernel_rfl) (by kernel_rfl) (fun _ _ _ h => h) (Or.inl ⟨by rfl, ?_⟩) (by assumption) ?_
        rotate_left
        · intro w' hSw
          (try dsimp only at hSw)
          go_simp
          all_goals with_reducible rfl
        (try simp only [Act.put, List.setIfInBounds_toArray, List.set_cons_zero, List.set_cons_succ, List.getElem_toArray, List.getElem_cons_zero, List.getElem_cons_succ])
        refine wpAnyH_take (i := 8) (oi := _) (v := ?_) rfl (by kernel_rfl) (by kernel_rfl) (by kernel_rfl) (fun _ _ _ h => h) (Or.inl ⟨by rfl, ?_⟩) (by assumption) ?_
        rotate_left
        · intro w' hSw
          (try dsimp only at hSw)
          go_simp
          all_goals with_reducible rfl
        (try simp only [Act.put, List.setIfInBounds_toArray, List.set_cons_zero, List.set_cons_succ, List.getElem_toArray, List.getElem_cons_zero, List.getElem_cons_succ])
        refine wpAnyH_ready (rs := [4]) (by kernel_rfl) (by simp) ?_
        refine AllReadyH.cons rfl (fun K hK => ?_) AllReadyH.nil
        go_simp
        go_wp2_with ((go_at_call 22; (with_reducible refine (cA _ _ _ _ hDx.drew.f).mono ?_); rintro e w9 ⟨G9, rfl, hG9, hR9, hb9⟩; have hD9 := hDx.drew.below hb9; have hbw9 := hbx.drew.trans (hb9.mono hbx.drew.size); have q9 := hD9.d.cV))
        refine hK.out _ _ (q9) (fun hHeld => ?_)
        clear hK K
        refine wpAnyH_ready (rs := [9]) (by kernel_rfl) (by simp) ?_
        refine AllReadyH.cons rfl (fun K hK => ?_) AllReadyH.nil
        go_simp
        go_wp2_with ((go_at_call 21; (with_reducible refine (equal_pods _ _ F1.L _ _ _ hR9 hD9.d.row hL1).mono ?_); rintro e w10 ⟨rfl, qq, h9⟩; have hb10 : Below w9.heap.size w9 w10 := (by rw [h9]; exact ⟨rfl, rfl, rfl, Nat.le_refl _, fun _ _ => rfl⟩); clear h9; have hD10 := hD9.below hb10; have hbw10 := hbw9.trans (hb10.mono hbw9.size); have q10 := hD10.d.cV))
        refine hK.out _ _ (q10) (fun hHeld => ?_)
        clear hK K
        refine wpAnyH_take (i := 10) (oi := _) (v := ?_) rfl (by kernel_rfl) (by kernel_rfl) (by kernel_rfl) (fun _ _ _ h => h) (Or.inl ⟨by rfl, ?_⟩) (by assumption) ?_
        rotate_left
        · intro w' hSw
          (try dsimp only at hSw)
          go_simp
          all_goals with_reducible rfl
        (try simp only [Act.put, List.setIfInBounds_toArray, List.set_cons_zero, List.set_cons_succ, List.getElem_toArray, List.getElem_cons_zero, List.getElem_cons_succ])
        refine wpAnyH_take (i := 11) (oi := _) (v := ?_) rfl (by kernel_rfl) (by kernel_rfl) (by kernel_rfl) (fun _ _ _ h => h) (Or.inl ⟨by rfl, ?_⟩) (by assumption) ?_
        rotate_left
        · intro w' hSw
          (try dsimp only at hSw)
          go_simp
          all_goals with_reducible rfl
        (try simp only [Act.put, List.setIfInBounds_toArray, List.set_cons_zero, List.set_cons_succ, List.getElem_toArray, List.getElem_cons_zero, List.getElem_cons_succ])
        refine wpAnyH_take (i := 12) (oi := _) (v := ?_) rfl (by kernel_rfl) (by kernel_rfl) (by kernel_rfl) (fun _ _ _ h => h) (Or.inl ⟨by rfl, ?_⟩) (by assumption) ?_
        rotate_left
        · intro w' hSw
          (try dsimp only at hSw)
          go_simp
          all_goals with_reducible rfl
        (try simp only [Act.put, List.setIfInBounds_toArray, List.set_cons_zero, List.set_cons_succ, List.getElem_toArray, List.getElem_cons_zero, List.getElem_cons_succ])
        refine wpAnyH_take (i := 13) (oi := _) (v := ?_) rfl (by kernel_rfl) (by kernel_rfl) (by kernel_rfl) (fun _ _ _ h => h) (Or.inl ⟨by rfl, ?_⟩) (by assumption) ?_
        rotate_left
        · intro w' hSw
          (try dsimp only at hSw)
          go_simp
          all_goals with_reducible rfl
        (try simp only [Act.put, List.setIfInBounds_toArray, List.set_cons_zero, List.set_cons_succ, List.getElem_toArray, List.getElem_cons_zero, List.getElem_cons_succ])
        refine wpAnyH_take (i := 15) (oi := _) (v := ?_) rfl (by kernel_rfl) (by kernel_rfl) (by kernel_rfl) (fun _ _ _ h => h) (Or.inl ⟨by rfl, ?_⟩) (by assumption) ?_
        rotate_left
        · intro w' hSw
          (try dsimp only at hSw)
          go_simp
          all_goals with_reducible rfl
        (try simp only [Act.put, List.setIfInBounds_toArray, List.set_cons_zero, List.set_cons_succ, List.getElem_toArray, List.getElem_cons_zero, List.getElem_cons_succ])
        refine wpAnyH_ready (rs := [14]) (by kernel_rfl) (by simp) ?_
        refine AllReadyH.cons rfl (fun K hK => ?_) AllReadyH.nil
        go_simp
        go_wp2_with ((go_at_call 23; (with_reducible refine (cC _ _ _ _ hD10.f).mono ?_); rintro e w11 ⟨rfl, hb11⟩; have hD11 := hD10.below hb11; have hbw11 := hbw10.trans (hb11.mono hbw10.size); have q11 := hD11.d.cV))
        refine hK.out _ _ (q11) (fun hHeld => ?_)
        clear hK K
        refine wpAnyH_ready (rs := [16]) (by kernel_rfl) (by simp) ?_
        refine AllReadyH.cons rfl (fun K hK => ?_) AllReadyH.nil
        go_simp
        go_wp2_with ((go_at_call 24; (with_reducible refine (cDc _ _ _ _ hD11.d).mono ?_); rintro e w12 ⟨rfl, hb12⟩; have hD12 := hD11.below hb12; have hbw12 := hbw11.trans (hb12.mono hbw11.size); have q12 := hD12.d.cV))
        refine hK.out _ _ (q12) (fun hHeld => ?_)
        clear hK K
        refine wpAnyH_take (i := 17) (oi := _) (v := ?_) rfl (by kernel_rfl) (by kernel_rfl) (by kernel_rfl) (fun _ _ _ h => h) (Or.inl ⟨by rfl, ?_⟩) (by assumption) ?_
        rotate_left
        · intro w' hSw
          (try dsimp only at hSw)
          go_simp
          all_goals with_reducible rfl
        (try simp only [Act.put, List.setIfInBounds_toArray, List.set_cons_zero, List.set_cons_succ, List.getElem_toArray, List.getElem_cons_zero, List.getElem_cons_succ])
        refine wpAnyH_take (i := 18) (oi := _) (v := ?_) rfl (by kernel_rfl) (by kernel_rfl) (by kernel_rfl) (fun _ _ _ h => h) (Or.inl ⟨by rfl, ?_⟩) (by assumption) ?_
        rotate_left
        · intro w' hSw
          (try dsimp only at hSw)
          go_simp
          all_goals with_reducible rfl
        (try simp only [Act.put, List.setIfInBounds_toArray, List.set_cons_zero, List.set_cons_succ, List.getElem_toArray, List.getElem_cons_zero, List.getElem_cons_succ])
        refine wpAnyH_done (by kernel_rfl) ?_ _
        go_wp2
        go_roundw
        case rel => exact ⟨k + 1, _, _, F1, by omega, rfl, hD12, HI1.out, by omega, hbw12⟩
        case measure => simp [intOf]; omega
    · obtain rfl : k = len := by omega
      go_wp2
      go_ret
      exact ⟨rfl, hbw⟩
end Flt
end Go.Proofs.Ytomdimljcbnnnac
