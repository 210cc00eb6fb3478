/- A message is lent to one at a time: the law, walked. -/
import Derived.Test.YtbfnjjdgiihngafOnceMaps
import Derived.Test.YtbfnjjdgiihngafRestWalk
import Derived.Test.YtbfnjjdgiihngafFrameSl
namespace Go.Proofs.Ytbfnjjdgiihngaf
namespace Que
open Go.RowKit Go.Maps Frm
set_option maxRecDepth 8000

theorem put_two (B Q : Nat) (v : Value) (w : World) (hA : QAt w 53 B Q 0 1 0 v []) :
    Calls Try.prog 11 #[.pointer (some ⟨Q, 0, none⟩), .int .i64 2] w fun e w' => e = .returned (.tuple #[.int .i64 1, .int .i64 0]) ∧ ∃ v', QAt w' 53 B Q 0 1 2 v' (news 0 2) ∧ Turn Q v v' w w' :=
  put_yes B Q 0 v [] 2 w hA (by omega) (by omega) (by simp)
theorem lease_five (B Q : Nat) (v : Value) (w : World) (hA : QAt w 53 B Q 0 1 2 v (news 0 2)) :
    Calls Try.prog 12 #[.pointer (some ⟨Q, 0, none⟩), .int .i64 0, .int .i64 5] w fun e w' => e = .returned (.tuple #[.int .i64 1, .int .i64 0]) ∧ ∃ v', QAt w' 53 B Q 0 1 2 v' [⟨1, 5, true⟩, ⟨2, 0, false⟩] ∧ Turn Q v v' w w' :=
  lease_yes B Q 2 v (news 0 2) _ 0 5 0 ⟨1, 0, false⟩ w hA (by simp [news]) (by omega) (by omega) (by omega) (by omega) rfl start_find start_get
theorem put_more (B Q n : Nat) (v : Value) (w : World) (h1 : 1 ≤ n) (h2 : n ≤ 190) (hA : QAt w 53 B Q 0 1 2 v [⟨1, 5, true⟩, ⟨2, 0, false⟩]) :
    Calls Try.prog 11 #[.pointer (some ⟨Q, 0, none⟩), .int .i64 (n : Int)] w fun e w' => e = .returned (.tuple #[.int .i64 3, .int .i64 0]) ∧ ∃ v', QAt w' 53 B Q 0 1 (2 + (n : Int)) v' (start n) ∧ Turn Q v v' w w' :=
  put_yes B Q 2 v [⟨1, 5, true⟩, ⟨2, 0, false⟩] n w hA (by omega) h1 (by simp; omega)

/-- where the law stands: k waits are done -/
structure OnS (B Q bT bD n k : Nat) (now : Int) (w : World) (v : Value) (L : List M) (DT DD : DataW Unit) (f : Int → Int) (S : Int → Bool) (c : Nat) (wr : World) : Prop where
  q : QAt wr 53 B Q 0 1 (2 + (n : Int)) v L
  t : wr.ownsMap Try.prog 3 (plainElem (H := Unit) Try.prog 3) bT (k + 1) DT
  d : wr.ownsMap Try.prog 3 (plainElem (H := Unit) Try.prog 4) bD k DD
  tf : Tells DT f
  ds : Has DD S c
  dn : Done L S c (n + 2)
  ln : Lent L f now
  iv : Inv L (2 + (n : Int))
  n0 : 1 ≤ now
  n1 : now ≤ 1 + 6 * k
  bl : Below w.heap.size w wr
def OnR (B Q bT bD n len : Nat) (w : World) (nv i : Value) (wr : World) : Prop :=
  ∃ (k : Nat) (now : Int) (v : Value) (L : List M) (DT DD : DataW Unit) (f : Int → Int) (S : Int → Bool) (c : Nat), k ≤ len ∧ nv = .int .i64 now ∧ i = .int .i64 k ∧ OnS B Q bT bD n k now w v L DT DD f S c wr
theorem once_short (w : World) (a0 : Int) (a1 : Option Addr) (len cap : Nat) (h : 60 < len ∨ a0 < 1 ∨ 190 < a0) :
    Calls Try.prog 4 #[.int .i64 a0, .slice a1 len cap] w fun e w' => e = .returned (.bool true) ∧ Below w.heap.size w w' := by
  have c1 := fun w => new_any w
  by_cases h1 : 60 < len
  · have h1' : (60 : Int) < len := by omega
    clear h
    go_enter Try.func4, Try.ntmps4
    go_wp2_with (first
      | (go_at_call 10; (with_reducible refine (c1 _).mono ?_); rintro e w1 ⟨rfl, hA1, hb1⟩)
      | (go_at_call 11; (with_reducible refine (put_two _ _ _ _ hA1).mono ?_); rintro e w2 ⟨rfl, v2, hA2, hT2⟩; have hb2 := hb1.trans (hT2.below hA1.bQ hA1.rowB hb1.size))
      | (go_at_call 12; (with_reducible refine (lease_five _ _ _ _ hA2).mono ?_); rintro e w3 ⟨rfl, v3, hA3, hT3⟩; have hb3 := hb2.trans (hT3.below hA2.bQ hA2.rowB hb2.size)))
    go_ret
    exact ⟨rfl, hb3⟩
  · have h1' : ¬ (60 : Int) < len := by omega
    by_cases h2 : a0 < 1
    · clear h
      go_enter Try.func4, Try.ntmps4
      go_wp2_with (first
        | (go_at_call 10; (with_reducible refine (c1 _).mono ?_); rintro e w1 ⟨rfl, hA1, hb1⟩)
        | (go_at_call 11; (with_reducible refine (put_two _ _ _ _ hA1).mono ?_); rintro e w2 ⟨rfl, v2, hA2, hT2⟩; have hb2 := hb1.trans (hT2.below hA1.bQ hA1.rowB hb1.size))
        | (go_at_call 12; (with_reducible refine (lease_five _ _ _ _ hA2).mono ?_); rintro e w3 ⟨rfl, v3, hA3, hT3⟩; have hb3 := hb2.trans (hT3.below hA2.bQ hA2.rowB hb2.size)))
      go_ret
      exact ⟨rfl, hb3⟩
    · have h3 : 190 < a0 := by omega
      clear h
      go_enter Try.func4, Try.ntmps4
      go_wp2_with (first
        | (go_at_call 10; (with_reducible refine (c1 _).mono ?_); rintro e w1 ⟨rfl, hA1, hb1⟩)
        | (go_at_call 11; (with_reducible refine (put_two _ _ _ _ hA1).mono ?_); rintro e w2 ⟨rfl, v2, hA2, hT2⟩; have hb2 := hb1.trans (hT2.below hA1.bQ hA1.rowB hb1.size))
        | (go_at_call 12; (with_reducible refine (lease_five _ _ _ _ hA2).mono ?_); rintro e w3 ⟨rfl, v3, hA3, hT3⟩; have hb3 := hb2.trans (hT3.below hA2.bQ hA2.rowB hb2.size)))
      go_ret
      exact ⟨rfl, hb3⟩
set_option maxHeartbeats 8000000 in
theorem once_yes (w : World) (n : Nat) (a1 : Option Addr) (len cap : Nat) (X : Nat → Nat → Int) (h1 : 1 ≤ n) (h2 : n ≤ 190) (h3 : len ≤ 60) (hX : Frm.RowsIn w a1 len 1 X) :
    Calls Try.prog 4 #[.int .i64 (n : Int), .slice a1 len cap] w fun e w' => e = .returned (.bool true) ∧ Below w.heap.size w w' := by
  have c1 := fun w => new_any w
  have g1 : ¬ (60 : Int) < len := by omega
  have g2 : ¬ (n : Int) < 1 := by omega
  have g3 : ¬ (190 : Int) < n := by omega
  have hmm := @run_makeMap Try.prog
  go_enter Try.func4, Try.ntmps4
  go_wp2_with (first
    | (go_at_call 10; (with_reducible refine (c1 _).mono ?_); rintro e w1 ⟨rfl, hA1, hb1⟩)
    | (go_at_call 11; (with_reducible refine (put_two _ _ _ _ hA1).mono ?_); rintro e w2 ⟨rfl, v2, hA2, hT2⟩; have hb2 := hb1.trans (hT2.below hA1.bQ hA1.rowB hb1.size))
    | (go_at_call 12; (with_reducible refine (lease_five _ _ _ _ hA2).mono ?_); rintro e w3 ⟨rfl, v3, hA3, hT3⟩; have hb3 := hb2.trans (hT3.below hA2.bQ hA2.rowB hb2.size))
    | (go_at_call 11; (with_reducible refine (put_more _ _ n _ _ h1 h2 hA3).mono ?_); rintro e w4 ⟨rfl, v4, hA4, hT4⟩; have hb4 := hb3.trans (hT4.below hA3.bQ hA3.rowB hb3.size); obtain ⟨w5, hup5, hown5, hg5⟩ := (World.ownsMap_made w4 Try.prog 3 (plainElem (H := Unit) Try.prog 3)).update law3 Try.underlying36 (by decide) (key_of (i := 1) (by omega)) (plainElem_int (a := 5) Try.underlying3 (wf_of (by omega)))))
  have hA5 := queue_map (hA4.alloc _) (World.ownsMap_made w4 Try.prog 3 (plainElem (H := Unit) Try.prog 3)) hg5
  have hb5 : Below w.heap.size w w5 := (hb4.alloc hb4.size _).grown hg5 (by simp; have := hb4.size; omega) (fun j hj => by cases hj; exact hb4.size)
  have hS0 : OnS w.heap.size w.heap.size w4.heap.size w5.heap.size n 0 1 w v4 (start n) _ (.map []) (upd (fun _ => 0) 1 5) (fun _ => false) 0 (w5.alloc (.map #[] 0)) :=
    ⟨hA5.alloc _, hown5.alloc _, World.ownsMap_made w5 Try.prog 3 (plainElem (H := Unit) Try.prog 4), tells_put tells_empty isMap_empty, has_empty, start_done n, start_lent n, start_inv n h2, by omega, by omega, hb5.alloc hb5.size _⟩
  have hTB : w.heap.size ≤ w4.heap.size := hb4.size
  have hDB : w.heap.size ≤ w5.heap.size := hb5.size
  have hTD : w4.heap.size ≠ w5.heap.size := by have := hg5.size; simp at this; omega
  clear hA1 hA2 hA3 hA4 hA5 hb1 hb2 hb3 hb4 hb5 hT2 hT3 hT4 c1 hup5 hg5 hown5 hmm
  generalize w4.heap.size = bT at *
  generalize w5.heap.size = bD at *
  go_loopw [10, 62] (fun nv i wr => OnR w.heap.size w.heap.size bT bD n len w nv i wr) (fun _ i _ => len - (intOf i).toNat)
  case atStart => exact ⟨0, 1, v4, start n, _, _, _, _, 0, by omega, rfl, rfl, hS0⟩
  case round =>
    clear hS0
    obtain ⟨k, now, v, L, DT, DD, f, S, c, hk, rfl, rfl, hs⟩ := hrel
    have m0 := hs.n0
    have m1 := hs.n1
    by_cases hlt : k < len
    · have hlt' : (k : Int) < len := by omega
      obtain ⟨b, off, rfl, hbl, hcell⟩ := (hX.below hs.bl (Nat.le_refl _)) k hlt
      have cX : wr.cell? ⟨b, off + k, none⟩ = some (.int .i64 (X k 0)) := by have := (hcell 0 (by omega)).1; simpa using this
      have bX := (hcell 0 (by omega)).2
      clear hcell
      generalize X k 0 = x at cX bX
      have r7 := fun w => Rst.rest_any x 7 w (by omega) (by omega)
      have r5 := fun w => Rst.rest_any x 5 w (by omega) (by omega)
      have b7 : 0 ≤ x % 7 ∧ x % 7 ≤ 6 := by omega
      have b5 : 0 ≤ x % 5 ∧ x % 5 ≤ 4 := by omega
      generalize x % 7 = y7 at *
      generalize x % 5 = y5 at *
      have hLN := lent_back hs.ln (show now ≤ now + y7 by omega)
      have hI1 := hs.iv.back (now + y7)
      have hD1 : Done (backL (now + y7) L) S c (n + 2) := done_back hs.dn
      cases hf : (backL (now + y7) L).findIdx? free with
      | none =>
        have cL := lease_none _ _ _ _ L _ (now + y7) (1 + y5) wr hs.q hs.iv.len (by omega) (by omega) (by omega) (by omega) rfl hf
        have hAll := all_taken hLN hf
        have hll : (ids (backL (now + y7) L)).length + c = n + 2 := by unfold ids; rw [List.length_map]; exact hD1.all
        have HS : Hid (OnS w.heap.size w.heap.size bT bD n k now w v L DT DD f S c wr) := hs
        clear hD1 hLN hf hs
        by_cases hcN : c = n + 2
        · have hcN' : (c : Int) = (n : Int) + 2 := by omega
          go_wp2_with (first
          | (go_at_call 13; (with_reducible refine (r7 _).mono ?_); rintro e w' ⟨rfl, h9⟩; have h8 := h9.symm; clear h9; subst h8)
          | (go_at_call 13; (with_reducible refine (r5 _).mono ?_); rintro e w' ⟨rfl, h9⟩; have h8 := h9.symm; clear h9; subst h8)
          | (go_at_call 12; (with_reducible refine cL.mono ?_); rintro e w8 ⟨rfl, v8, hA8, hT8⟩; have hD8 := map_turn HS.out.q HS.out.d hT8; have hl8 := fun ty => len_d hD8 HS.out.ds ty; have hb8 := HS.out.bl.trans (hT8.below HS.out.q.bQ HS.out.q.rowB HS.out.bl.size)))
          go_ret
          exact ⟨rfl, hb8⟩
        · have hcN' : ¬ (c : Int) = (n : Int) + 2 := by omega
          have hcN2 : ((c : Int) == (n : Int) + 2) = false := by simpa using hcN'
          go_wp2_with (first
          | (go_at_call 13; (with_reducible refine (r7 _).mono ?_); rintro e w' ⟨rfl, h9⟩; have h8 := h9.symm; clear h9; subst h8)
          | (go_at_call 13; (with_reducible refine (r5 _).mono ?_); rintro e w' ⟨rfl, h9⟩; have h8 := h9.symm; clear h9; subst h8)
          | (go_at_call 12; (with_reducible refine cL.mono ?_); rintro e w8 ⟨rfl, v8, hA8, hT8⟩; have hD8 := map_turn HS.out.q HS.out.d hT8; have hM8 := map_turn HS.out.q HS.out.t hT8; have hl8 := fun ty => len_d hD8 HS.out.ds ty; have hb8 := HS.out.bl.trans (hT8.below HS.out.q.bQ HS.out.q.rowB HS.out.bl.size))
          | (go_at_call 14; (with_reducible refine (taken_any _ _ _ _ _ _ _ hM8 HS.out.tf (by omega) hI1.nd (by omega) hAll).mono ?_); rintro e w9 ⟨r, rfl, hr1, hr2, hb9⟩; have hge : (n : Int) + 2 ≤ (c : Int) + (r : Int) := (by omega)))
          go_ret
          exact ⟨rfl, hb8.trans (hb9.mono hb8.size)⟩
      | some i =>
        obtain ⟨m, hm, _⟩ := find_get hf
        have cL := lease_yes _ _ _ _ L _ (now + y7) (1 + y5) i m wr hs.q hs.iv.len (by omega) (by omega) (by omega) (by omega) rfl hf hm
        have hft := free_time hLN hf hm
        have hSm := hD1.off m (List.mem_of_getElem? hm)
        have hmb := hI1.bd m (List.mem_of_getElem? hm)
        have hLN2 := lent_set hLN hI1.nd hm (show now + y7 < now + y7 + (1 + y5) by omega)
        have hI2 := hI1.set hm (b := now + y7 + (1 + y5)) (c := true) (by omega)
        have hD2 : Done ((backL (now + y7) L).set i ⟨m.id, now + y7 + (1 + y5), true⟩) S c (n + 2) := done_set hD1 hm
        have hm2 : ((backL (now + y7) L).set i ⟨m.id, now + y7 + (1 + y5), true⟩)[i]? = some ⟨m.id, now + y7 + (1 + y5), true⟩ := by
          have : i < (backL (now + y7) L).length := (List.getElem?_eq_some_iff.1 hm).1
          simp [this]
        have hft' : ¬ now + y7 < f m.id := by omega
        have HS : Hid (OnS w.heap.size w.heap.size bT bD n k now w v L DT DD f S c wr) := hs
        clear hD1 hLN hI1 hf hs hft
        generalize (backL (now + y7) L).set i ⟨m.id, now + y7 + (1 + y5), true⟩ = L2 at *
        clear hm
        by_cases hpar : (k : Int) % 2 = 1
        · have hLN3 := lent_erase hLN2 hI2.nd hm2
          have hI3 := hI2.erase i
          have hD3 := done_erase hD2 hI2.nd hm2
          have cA1 := fun v W hA => ack_yes w.heap.size w.heap.size (2 + (n : Int)) v L2 L2 (now + y7) m.id i ⟨m.id, now + y7 + (1 + y5), true⟩ W hA hI2.len (by omega) (by omega) (back_same hLN2) (find_nd (m := ⟨m.id, now + y7 + (1 + y5), true⟩) hI2.nd hm2) hm2 rfl
          have cA2 := fun v W hA => ack_no w.heap.size w.heap.size (2 + (n : Int)) v (L2.eraseIdx i) _ (now + y7) m.id W hA hI3.len (by omega) (by omega) (back_same hLN3) (find_gone (m := ⟨m.id, now + y7 + (1 + y5), true⟩) hI2.nd hm2)
          have HN : Hid (LentN (L2.eraseIdx i) (upd (upd f m.id (now + y7 + (1 + y5))) m.id 0) (now + y7)) := hLN3
          have HD : Hid (Done (L2.eraseIdx i) (fun j => if j = m.id then true else S j) (c + 1) (n + 2)) := hD3
          clear hLN3 hD3 hLN2 hD2
          go_wp2_with (first
          | (go_at_call 13; (with_reducible refine (r7 _).mono ?_); rintro e w' ⟨rfl, h9⟩; have h8 := h9.symm; clear h9; subst h8)
          | (go_at_call 13; (with_reducible refine (r5 _).mono ?_); rintro e w' ⟨rfl, h9⟩; have h8 := h9.symm; clear h9; subst h8)
          | (go_at_call 12; (with_reducible refine cL.mono ?_); rintro e w8 ⟨rfl, v8, hA8, hT8⟩; have hD8 := map_turn HS.out.q HS.out.d hT8; have hM8 := map_turn HS.out.q HS.out.t hT8; have hb8 := HS.out.bl.trans (hT8.below HS.out.q.bQ HS.out.q.rowB HS.out.bl.size); have hld := look_d hD8 HS.out.ds (i := m.id) (by omega) hSm; have hlt8 := look_t hM8 HS.out.tf (i := m.id) (by omega); obtain ⟨w9, hup9, hown9, hg9⟩ := hM8.update law3 Try.underlying36 (by unfold maxLen; omega) (key_of (i := m.id) (by omega)) (plainElem_int (a := now + y7 + (1 + y5)) Try.underlying3 (wf_of (by omega))); have hA9 := queue_map hA8 hM8 hg9; have hD9 := hD8.kept hg9 (fun e => hTD (by cases e; rfl)); have hb9 := hb8.grown hg9 hb8.size (fun j hj => by cases hj; exact hTB))
          | (go_at_call 15; (with_reducible refine (cA2 _ _ hA10).mono ?_); rintro e w11 ⟨rfl, v11, hA11, hT11⟩; have hM11 := map_turn hA10 hM10 hT11; have hD11 := map_turn hA10 hD10 hT11; have hb11 := hb10.trans (hT11.below hA10.bQ hA10.rowB hb10.size); obtain ⟨w12, hup12, hown12, hg12⟩ := hD11.update law3 Try.underlying37 (by unfold maxLen; omega) (key_of (i := m.id) (by omega)) (plainElem_bool Try.underlying4 true); have hA12 := queue_map hA11 hD11 hg12; have hM12 := hM11.kept hg12 (fun e => hTD (by cases e; rfl)); have hb12 := hb11.grown hg12 hb11.size (fun j hj => by cases hj; exact hDB); obtain ⟨w13, hdel13, hown13, hturn13⟩ := hM12.drop law3 Try.underlying36 (key_of (i := m.id) (by omega)) 0)
          | (go_at_call 15; (with_reducible refine (cA1 _ _ hA9).mono ?_); rintro e w10 ⟨rfl, v10, hA10, hT10⟩; have hM10 := map_turn hA9 hown9 hT10; have hD10 := map_turn hA9 hD9 hT10; have hb10 := hb9.trans (hT10.below hA9.bQ hA9.rowB hb9.size)))
          have hA13 := queue_map hA12 hM12 hturn13.grown
          have hD13 := hown12.kept hturn13.grown (fun e => hTD (by cases e; rfl))
          have hb13 := hb12.grown hturn13.grown hb12.size (fun j hj => by cases hj; exact hTB)
          go_roundw
          case rel => exact ⟨k + 1, now + y7, v11, L2.eraseIdx i, _, _, _, _, c + 1, by omega, rfl, rfl, ⟨hA13, hown13, hD13, tells_del (tells_put HS.out.tf hM8.isMap), has_put HS.out.ds (hD11.tidy law3) hSm, HD.out, HN.out.lent, hI3, by omega, by omega, hb13⟩⟩
          case measure => simp [intOf]; omega
        · go_wp2_with (first
          | (go_at_call 13; (with_reducible refine (r7 _).mono ?_); rintro e w' ⟨rfl, h9⟩; have h8 := h9.symm; clear h9; subst h8)
          | (go_at_call 13; (with_reducible refine (r5 _).mono ?_); rintro e w' ⟨rfl, h9⟩; have h8 := h9.symm; clear h9; subst h8)
          | (go_at_call 12; (with_reducible refine cL.mono ?_); rintro e w8 ⟨rfl, v8, hA8, hT8⟩; have hD8 := map_turn HS.out.q HS.out.d hT8; have hM8 := map_turn HS.out.q HS.out.t hT8; have hb8 := HS.out.bl.trans (hT8.below HS.out.q.bQ HS.out.q.rowB HS.out.bl.size); have hld := look_d hD8 HS.out.ds (i := m.id) (by omega) hSm; have hlt8 := look_t hM8 HS.out.tf (i := m.id) (by omega); obtain ⟨w9, hup9, hown9, hg9⟩ := hM8.update law3 Try.underlying36 (by unfold maxLen; omega) (key_of (i := m.id) (by omega)) (plainElem_int (a := now + y7 + (1 + y5)) Try.underlying3 (wf_of (by omega)))))
          have hA9 := queue_map hA8 hM8 hg9
          have hD9 := hD8.kept hg9 (fun e => hTD (by cases e; rfl))
          have hb9 := hb8.grown hg9 hb8.size (fun j hj => by cases hj; exact hTB)
          go_roundw
          case rel => exact ⟨k + 1, now + y7, v8, L2, _, DD, _, S, c, by omega, rfl, rfl, ⟨hA9, hown9, hD9.mono (Nat.le_succ _), tells_put HS.out.tf hM8.isMap, HS.out.ds, hD2, hLN2.lent, hI2, by omega, by omega, hb9⟩⟩
          case measure => simp [intOf]; omega
    · obtain rfl : k = len := by omega
      have cA := all_yes _ _ _ _ L _ now wr hs.q hs.iv.len (by omega) (by omega) rfl
      have hln : (backL now L).length = L.length := backL_len now L
      have hll := hs.dn.all
      have HS : Hid (OnS w.heap.size w.heap.size bT bD n k now w v L DT DD f S c wr) := hs
      clear hs
      generalize (backL now L).length = ln at *
      have e1 : (n : Int) + 2 - (c : Int) = (ln : Int) := by omega
      have e2 : ((ln : Int) == (n : Int) + 2 - (c : Int)) = true := by rw [e1]; simp
      go_wp2_with (go_at_call 16; (with_reducible refine cA.mono ?_); rintro e w8 ⟨G, rfl, _, _, v8, _, hA8, hT8⟩; have hD8 := map_turn HS.out.q HS.out.d hT8; have hl8 := fun ty => len_d hD8 HS.out.ds ty; have hb8 := HS.out.bl.trans (hT8.below HS.out.q.bQ HS.out.q.rowB HS.out.bl.size))
      go_ret
      exact ⟨rfl, hb8⟩
end Que
end Go.Proofs.Ytbfnjjdgiihngaf
