/- What each function of package queue answers: Ack. -/
import Derived.Test.YtbfnjjdgiihngafQueDel
namespace Go.Proofs.Ytbfnjjdgiihngaf
namespace Que
open Go.RowKit
set_option maxRecDepth 8000

theorem ack_now (Q : Nat) (now id : Int) (w : World) (h : ¬ (0 ≤ now ∧ now ≤ 1099511627776)) :
    Calls Try.prog 15 #[.pointer (some ⟨Q, 0, none⟩), .int .i64 now, .int .i64 id] w fun e w' => e = .returned (.int .i64 1) ∧ Below w.heap.size w w' := by
  have c := fun w => giveBack_no Q now w h
  clear h
  go_enter Try.func15, Try.ntmps15
  go_wp2_with (go_at_call 19; (with_reducible refine (c _).mono ?_); rintro e w' ⟨rfl, rfl⟩)
  go_ret
  exact ⟨rfl, (Below.refl _ _).alloc (Nat.le_refl _) _⟩
/-- what stands behind giveBack in Ack: the queue, and the box of the number -/
theorem box_kept {w w1 : World} {Q C : Nat} {v v' : Value} {id : Int} (hT : Turn Q v v' w w1) (hC : w.cell? ⟨C, 0, none⟩ = some (.int .i64 id)) (h1 : C ≠ Q) (h2 : v.ownBlock ≠ some C) : w1.cell? ⟨C, 0, none⟩ = some (.int .i64 id) :=
  (World.cell?_of_block (w := w) (a := ⟨C, 0, none⟩) (hT.block C (World.block_lt_of_cell? w _ hC) h1 (fun e => h2 e.symm))).trans hC
set_option maxHeartbeats 1000000 in
theorem ack_no (B Q : Nat) (last : Int) (v : Value) (L L1 : List M) (now id : Int) (w : World) (hA : QAt w 53 B Q 0 1 last v L) (hL : L.length ≤ 200) (h3 : 0 ≤ now) (h4 : now ≤ 1099511627776) (hb : backL now L = L1) (hn : L1.findIdx? (isId id) = none) :
    Calls Try.prog 15 #[.pointer (some ⟨Q, 0, none⟩), .int .i64 now, .int .i64 id] w fun e w' => e = .returned (.int .i64 4) ∧ ∃ v', QAt w' 53 B Q 0 1 last v' L1 ∧ Turn Q v v' w w' := by
  have hl : L1.length ≤ 200 := by rw [← hb, backL_len]; exact hL
  obtain ⟨ao, cap, rfl, hc1, hc2, hao⟩ := hA.form
  obtain ⟨w0, hw0⟩ : ∃ w0, w0 = w.alloc (.cells #[.int .i64 id] 3) := ⟨_, rfl⟩
  have hA0 := hA.alloc (.cells #[.int .i64 id] 3)
  have hT0 := (Turn.refl Q (.slice ao L.length cap) w).alloc (.cells #[.int .i64 id] 3)
  have hC0 : w0.cell? ⟨w.heap.size, 0, none⟩ = some (.int .i64 id) := by rw [hw0]; simp
  have hCQ : w.heap.size ≠ Q := by have := hA.lt; omega
  have hCv : (Value.slice ao L.length cap).ownBlock ≠ some w.heap.size := fun e => by have := hA.rowLt _ e; omega
  rw [← hw0] at hA0 hT0
  have c := giveBackS B Q cap ao last L L1 now w0 hA0 h3 h4 hL hb
  have c2 := fun w hR hC => id_none ao cap w.heap.size id L1 w hR hl hC hn
  have c2 := fun C w hR hC => id_none ao cap C id L1 w hR hl hC hn
  clear hA hb hn hao hc1 hc2
  go_enter Try.func15, Try.ntmps15
  go_wp2_with (first
    | (go_at_call 19; rw [← hw0]; (with_reducible refine c.mono ?_); rintro e w1 ⟨rfl, hA1, hT1⟩; have cS1 := hA1.cS; have hR1 := hA1.row; have hC1 := box_kept hT1 hC0 hCQ hCv)
    | (go_at_call 20; (with_reducible refine (c2 _ w1 hR1 hC1).mono ?_); rintro e w2 ⟨rfl, hb2⟩))
  go_ret
  exact ⟨rfl, _, hA1.below hb2, (hT0.trans hT1).trans (Turn.of_below hb2)⟩
set_option maxHeartbeats 1000000 in
theorem ack_free (B Q : Nat) (last : Int) (v : Value) (L L1 : List M) (now id : Int) (i : Nat) (m : M) (w : World) (hA : QAt w 53 B Q 0 1 last v L) (hL : L.length ≤ 200) (h3 : 0 ≤ now) (h4 : now ≤ 1099511627776) (hb : backL now L = L1) (hn : L1.findIdx? (isId id) = some i) (hm : L1[i]? = some m) (hf : m.tk = false) :
    Calls Try.prog 15 #[.pointer (some ⟨Q, 0, none⟩), .int .i64 now, .int .i64 id] w fun e w' => e = .returned (.int .i64 7) ∧ ∃ v', QAt w' 53 B Q 0 1 last v' L1 ∧ Turn Q v v' w w' := by
  have hl : L1.length ≤ 200 := by rw [← hb, backL_len]; exact hL
  have hil : i < L1.length := (List.getElem?_eq_some_iff.1 hm).1
  have hil' : (i : Int) < (L1.length : Int) := by omega
  obtain ⟨ao, cap, rfl, hc1, hc2, hao⟩ := hA.form
  obtain ⟨g, rfl⟩ := hao (by rw [← hb, backL_len] at hil; omega)
  obtain ⟨w0, hw0⟩ : ∃ w0, w0 = w.alloc (.cells #[.int .i64 id] 3) := ⟨_, rfl⟩
  have hA0 := hA.alloc (.cells #[.int .i64 id] 3)
  have hT0 := (Turn.refl Q (.slice (some ⟨g, 0, none⟩) L.length cap) w).alloc (.cells #[.int .i64 id] 3)
  have hC0 : w0.cell? ⟨w.heap.size, 0, none⟩ = some (.int .i64 id) := by rw [hw0]; simp
  have hCQ : w.heap.size ≠ Q := by have := hA.lt; omega
  have hCv : (Value.slice (some ⟨g, 0, none⟩) L.length cap).ownBlock ≠ some w.heap.size := fun e => by have := hA.rowLt _ e; omega
  rw [← hw0] at hA0 hT0
  have c := giveBackS B Q cap (some ⟨g, 0, none⟩) last L L1 now w0 hA0 h3 h4 hL hb
  have c2 := fun C w hR hC => id_some (some ⟨g, 0, none⟩) cap C id L1 w hR hl hC hn
  have hfree : free m = true := by simp [free, hf]
  have c3 := fun w => waits_any m w
  rw [hfree] at c3
  simp only [mV, hf] at c3
  clear hA hb hn hao hc1 hc2
  go_enter Try.func15, Try.ntmps15
  go_wp2_with (first
    | (go_at_call 19; rw [← hw0]; (with_reducible refine c.mono ?_); rintro e w1 ⟨rfl, hA1, hT1⟩; have cS1 := hA1.cS; have hR1 := hA1.row; have hC1 := box_kept hT1 hC0 hCQ hCv)
    | (go_at_call 20; (with_reducible refine (c2 _ w1 hR1 hC1).mono ?_); rintro e w2 ⟨rfl, hb2⟩; have hA2 := hA1.below hb2; obtain ⟨d0, d1, d2, fz⟩ := hA2.cells rfl hm; have cS2 := hA2.cS)
    | (go_at_call 21; (with_reducible refine (c3 _).mono ?_); rintro e w3 ⟨rfl, hb3⟩))
  go_ret
  exact ⟨rfl, _, hA2.below hb3, ((hT0.trans hT1).trans (Turn.of_below hb2)).trans (Turn.of_below hb3)⟩
set_option maxHeartbeats 2000000 in
theorem ack_yes (B Q : Nat) (last : Int) (v : Value) (L L1 : List M) (now id : Int) (i : Nat) (m : M) (w : World) (hA : QAt w 53 B Q 0 1 last v L) (hL : L.length ≤ 200) (h3 : 0 ≤ now) (h4 : now ≤ 1099511627776) (hb : backL now L = L1) (hn : L1.findIdx? (isId id) = some i) (hm : L1[i]? = some m) (hf : m.tk = true) :
    Calls Try.prog 15 #[.pointer (some ⟨Q, 0, none⟩), .int .i64 now, .int .i64 id] w fun e w' => e = .returned (.int .i64 0) ∧ ∃ v', QAt w' 53 B Q 0 1 last v' (L1.eraseIdx i) ∧ Turn Q v v' w w' := by
  have hl : L1.length ≤ 200 := by rw [← hb, backL_len]; exact hL
  have hil : i < L1.length := (List.getElem?_eq_some_iff.1 hm).1
  have hil' : (i : Int) < (L1.length : Int) := by omega
  obtain ⟨ao, cap, rfl, hc1, hc2, hao⟩ := hA.form
  obtain ⟨g, rfl⟩ := hao (by rw [← hb, backL_len] at hil; omega)
  obtain ⟨w0, hw0⟩ : ∃ w0, w0 = w.alloc (.cells #[.int .i64 id] 3) := ⟨_, rfl⟩
  have hA0 := hA.alloc (.cells #[.int .i64 id] 3)
  have hT0 := (Turn.refl Q (.slice (some ⟨g, 0, none⟩) L.length cap) w).alloc (.cells #[.int .i64 id] 3)
  have hC0 : w0.cell? ⟨w.heap.size, 0, none⟩ = some (.int .i64 id) := by rw [hw0]; simp
  have hCQ : w.heap.size ≠ Q := by have := hA.lt; omega
  have hCv : (Value.slice (some ⟨g, 0, none⟩) L.length cap).ownBlock ≠ some w.heap.size := fun e => by have := hA.rowLt _ e; omega
  rw [← hw0] at hA0 hT0
  have c := giveBackS B Q cap (some ⟨g, 0, none⟩) last L L1 now w0 hA0 h3 h4 hL hb
  have c2 := fun C w hR hC => id_some (some ⟨g, 0, none⟩) cap C id L1 w hR hl hC hn
  have hfree : free m = false := by simp [free, hf]
  have c3 := fun w => waits_any m w
  rw [hfree] at c3
  simp only [mV, hf] at c3
  have c4 := fun w h => delete_one B g L1.length cap i (cels L1) w h (cels_one L1) hil hl
  have hLe : (L1.eraseIdx i).length = L1.length - 1 := List.length_eraseIdx_of_lt hil
  have hCe : (cels L1).take (i * 3) ++ (cels L1).drop ((i + 1) * 3) = cels (L1.eraseIdx i) := by rw [erase_at, cels_append, cels_take, cels_drop]
  clear hA hb hn hao hc1 hc2
  go_enter Try.func15, Try.ntmps15
  go_wp2_with (first
    | (go_at_call 19; rw [← hw0]; (with_reducible refine c.mono ?_); rintro e w1 ⟨rfl, hA1, hT1⟩; have cS1 := hA1.cS; have hR1 := hA1.row; have hC1 := box_kept hT1 hC0 hCQ hCv)
    | (go_at_call 20; (with_reducible refine (c2 _ w1 hR1 hC1).mono ?_); rintro e w2 ⟨rfl, hb2⟩; have hA2 := hA1.below hb2; obtain ⟨d0, d1, d2, fz⟩ := hA2.cells rfl hm; have cS2 := hA2.cS)
    | (go_at_call 21; (with_reducible refine (c3 _).mono ?_); rintro e w3 ⟨rfl, hb3⟩; have hA3 := hA2.below hb3; have cS3 := hA3.cS)
    | (go_at_call 23; (with_reducible refine (c4 _ hA3.own).mono ?_); rintro e w4 ⟨rfl, hown4, hg4⟩; have hQ4 : w4.heap[Q]? = w3.heap[Q]? := hg4.block Q hA3.lt (fun e => hA3.ne (by rw [e]; rfl)); have cS4 := (World.cell?_of_block (w := w3) (a := ⟨Q, 1, none⟩) hQ4).trans cS3; have fS4 := (World.frozen?_of_block (w := w3) (a := ⟨Q, 1, none⟩) hQ4).trans (hA3.fz 1)))
  go_ret
  rw [hCe, ← hLe] at hown4
  have hA5 := hA3.regrown (by decide) hQ4 hown4 hA3.ne
  rw [hLe] at hA5
  refine ⟨rfl, _, hA5, ((((hT0.trans hT1).trans (Turn.of_below hb2)).trans (Turn.of_below hb3)).trans (Turn.of_grown (v' := .slice (some ⟨g, 0, none⟩) (L1.length - 1) cap) hg4 (Or.inl rfl))).setRow 1 _⟩
end Que
end Go.Proofs.Ytbfnjjdgiihngaf
