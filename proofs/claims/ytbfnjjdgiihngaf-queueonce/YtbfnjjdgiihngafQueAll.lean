/- What each function of package queue answers: All, Depth; slices.Equal of messages. -/
import Derived.Test.YtbfnjjdgiihngafQueAck
namespace Go.Proofs.Ytbfnjjdgiihngaf
namespace Que
open Go.RowKit
set_option maxRecDepth 8000

/-- copy of a whole row into one that was made for it -/
theorem run_copy_all {P : Program} (w : World) (dT sT ty e : TypeId) (i : TypeInfo) (hu : P.underlying dT = some (.slice e)) (hi : P.info? e = some i) (g n dc sc : Nat) (sp : Option Addr) (cur : Array Value) (cs : List Value)
    (hg : w.heap[g]? = some (.cells cur e (0, 0))) (hcur : cur.size = n * i.size) (hl : cs.length = n * i.size) (hsrc : 0 < n → ∃ ad, sp = some ad ∧ ∀ j u, cs[j]? = some u → w.cell? (ad.add j) = some u) (h1 : ∀ u ∈ cs, u.oneCell' = true) :
    ∃ w', (Builtin.copy_ #[dT, sT] ty #[.slice (some ⟨g, 0, none⟩) n dc, .slice sp n sc]).run P w = .ok (goInt n) w' ∧ w'.heap[g]? = some (.cells cs.toArray e (0, 0)) ∧ w.grownBy w' (some g) := by
  by_cases h0 : n = 0
  · subst h0
    have hcs : cs = [] := List.eq_nil_of_length_eq_zero (by simpa using hl)
    have hce : cur = #[] := Array.eq_empty_of_size_eq_zero (by simpa using hcur)
    refine ⟨w, ?_, by rw [hcs, hg, hce], ⟨rfl, rfl, rfl, Nat.le_refl _, fun _ _ _ => rfl⟩⟩
    have hl0 : ∀ (x : Addr), (loadCells x 0).run P w = .ok #[] w := fun x => by simpa using run_loadCells_list (P := P) w x [] (by simp)
    cases sp <;> simp [Builtin.copy_, run_underlying hu, Builtin.lenOf, Builtin.firstCells, sizeOf, typeInfo, hi, storeCells, hl0]
  · obtain ⟨ad, rfl, hs⟩ := hsrc (by omega)
    have hf := run_firstCells_some (P := P) w i.size n ad n sc cs hl hs
    have hst := run_storeCells_at P g 0 e cs 0 cur w hg (by omega) h1
    simp only [Nat.add_zero, Nat.zero_add, List.take_zero, List.nil_append] at hst
    rw [List.drop_of_length_le (by rw [Array.length_toList, hcur, hl]; exact Nat.le_refl _), List.append_nil] at hst
    refine ⟨w.setRow g cs.toArray, ?_, setRow_heap w g cur _ e _ hg, ⟨rfl, rfl, rfl, by simp, fun k _ hk => setRow_other w g k _ (fun e => hk (by rw [e]))⟩⟩
    simp [Builtin.copy_, run_underlying hu, Builtin.lenOf, sizeOf, typeInfo, hi, hf, hst]
theorem wpList_copy_all {P : Program} {w : World} {ops : Array Oper} {rest : List Oper} {o : Oper} {a : Act} {Q : Exit → Act → World → Prop} (hgd : o.guard = none) (d s : Operand) (dT sT : TypeId)
    (ho : o.op = .call { callee := .builtin .copy, args := #[d, s], argTypes := #[dT, sT] }) (e : TypeId) (i : TypeInfo) (hu : P.underlying dT = some (.slice e)) (hi : P.info? e = some i) (g n dc sc : Nat) (sp : Option Addr) (cur : Array Value) (cs : List Value)
    (hd : a.eval d = .slice (some ⟨g, 0, none⟩) n dc) (hs : a.eval s = .slice sp n sc)
    (hg : w.heap[g]? = some (.cells cur e (0, 0))) (hcur : cur.size = n * i.size) (hl : cs.length = n * i.size) (hsrc : 0 < n → ∃ ad, sp = some ad ∧ ∀ j u, cs[j]? = some u → w.cell? (ad.add j) = some u) (h1 : ∀ u ∈ cs, u.oneCell' = true)
    (h : ∀ w', w'.heap[g]? = some (.cells cs.toArray e (0, 0)) → w.grownBy w' (some g) → wpList P ops Q rest (a.put o.dst (goInt n)) w') : wpList P ops Q (o :: rest) a w := by
  refine wpList_plain hgd fun K hK => ?_
  obtain ⟨w', hr, h2, h3⟩ := run_copy_all (P := P) w dT sT o.type e i hu hi g n dc sc sp cur cs hg hcur hl hsrc h1
  unfold Oper.wp
  simp [execOp, ho, resolve, invoke, builtin, hd, hs, hr, Result.andThen]
  exact hK _ _ (h w' h2 h3)
/-- a row that is known whole -/
theorem row_of_block {w : World} {g : Nat} {e : TypeId} {L : List M} (h : w.heap[g]? = some (.cells (cels L).toArray e (0, 0))) : RowAt w (some ⟨g, 0, none⟩) L := by
  intro _
  refine ⟨g, rfl, (Array.getElem?_eq_some_iff.1 h).1, fun i m hm => ?_⟩
  obtain ⟨a, b, c⟩ := cels_get L i m hm
  have hc : ∀ j, w.cell? ⟨g, j, none⟩ = (cels L)[j]? := fun j => by rw [cell_of_row w g j _ _ _ h]; simp
  exact ⟨(hc _).trans a, (hc _).trans b, (hc _).trans c⟩
theorem row_src {w : World} {ao : Option Addr} {B Q oN oS cap : Nat} {last : Int} {L : List M} (h : QAt w 53 B Q oN oS last (.slice ao L.length cap) L) : 0 < L.length → ∃ ad, ao = some ad ∧ ∀ j u, (cels L)[j]? = some u → w.cell? (ad.add j) = some u := by
  intro hl
  obtain ⟨ao', cap', he, _, _, hg⟩ := h.form
  cases he
  obtain ⟨g, rfl⟩ := hg hl
  exact ⟨_, rfl, h.own.cells rfl⟩

theorem own_block {w : World} {B g n cap : Nat} {e : TypeId} {xs : List Value} (h : w.ownsRow B e 3 (.slice (some ⟨g, 0, none⟩) n cap) n xs) : ∃ cur, w.heap[g]? = some (.cells cur e (0, 0)) ∧ cur.size = cap * 3 := by
  rcases h.2 with ⟨h0, _⟩ | ⟨g', cap', cur, h0, _, h1, _, _, h2, _⟩
  · cases h0
  · cases h0; exact ⟨cur, h1, h2⟩

theorem all_now (Q : Nat) (now : Int) (w : World) (h : ¬ (0 ≤ now ∧ now ≤ 1099511627776)) :
    Calls Try.prog 16 #[.pointer (some ⟨Q, 0, none⟩), .int .i64 now] w fun e w' => e = .returned (.tuple #[.slice none 0 0, .int .i64 1]) ∧ w' = w := by
  have c := fun w => giveBack_no Q now w h
  clear h
  go_enter Try.func16, Try.ntmps16
  go_wp2_with (go_at_call 19; (with_reducible refine (c _).mono ?_); rintro e w' ⟨rfl, rfl⟩)
  go_ret2
  exact ⟨rfl, rfl⟩
set_option maxHeartbeats 2000000 in
theorem all_yes (B Q : Nat) (last : Int) (v : Value) (L L1 : List M) (now : Int) (w : World) (hA : QAt w 53 B Q 0 1 last v L) (hL : L.length ≤ 200) (h3 : 0 ≤ now) (h4 : now ≤ 1099511627776) (hb : backL now L = L1) :
    Calls Try.prog 16 #[.pointer (some ⟨Q, 0, none⟩), .int .i64 now] w fun e w' => ∃ G, e = .returned (.tuple #[.slice (some ⟨G, 0, none⟩) L1.length L1.length, .int .i64 0]) ∧ w.heap.size ≤ G ∧ RowAt w' (some ⟨G, 0, none⟩) L1 ∧ ∃ v', v'.ownBlock ≠ some G ∧ QAt w' 53 B Q 0 1 last v' L1 ∧ Turn Q v v' w w' := by
  obtain ⟨i0, hi, hz0, hz1, hz2⟩ := info_parts info_msg
  have hl : L1.length ≤ 200 := by rw [← hb, backL_len]; exact hL
  obtain ⟨ao, cap, rfl, hc1, hc2, hao⟩ := hA.form
  have c := giveBackS B Q cap ao last L L1 now w hA h3 h4 hL hb
  clear hA hb hao hc1 hc2
  have hcl : (cels L1).length = L1.length * i0.size := by rw [hz1]; exact cels_len L1
  have HC : Hid ((cels L1).length = L1.length * i0.size) := hcl
  clear hcl
  go_enter Try.func16, Try.ntmps16
  go_wp2_with (first
    | (go_at_call 19; (with_reducible refine c.mono ?_); rintro e w1 ⟨rfl, hA1, hT1⟩; have cS1 := hA1.cS)
    | (at_make; refine wpList_make_full _ rfl _ _ 40 rfl w1.heap.size 53 i0 _ 3 Try.underlying40 hi hz0 hz1 _ _ _ _ L1.length rfl rfl rfl rfl (by rw [hz2]; omega) (by unfold maxLen; omega) (Nat.le_refl _) ?_; intro w2 hown2 hgrow2; have hb2 : Below w1.heap.size w1 w2 := (Below.refl _ _).grown hgrow2 (Nat.le_refl _) (fun _ h => by cases h); have hA2 := hA1.below hb2; have cS2 := hA2.cS; obtain ⟨cur2, q2, q5⟩ := own_block hown2; obtain ⟨w3, hcp, hr3, hgrow3⟩ := run_copy_all (P := Try.prog) w2 40 40 3 53 i0 Try.underlying40 hi w1.heap.size L1.length L1.length cap ao cur2 (cels L1) q2 (by rw [hz1]; exact q5) HC.out (row_src hA2) (cels_one L1); clear hown2 hgrow2))
  go_ret2
  have hlt := hA1.lt
  have hb3 : Below w1.heap.size w2 w3 := ⟨hgrow3.os, hgrow3.tape, hgrow3.output, hgrow3.size, fun k hk => hgrow3.block k (Nat.lt_of_lt_of_le hk hb2.size) (fun e => by cases e; omega)⟩
  have hb13 := hb2.trans hb3
  exact ⟨w1.heap.size, rfl, hT1.size, row_of_block hr3, _, (fun e => by have := hA1.rowLt _ e; omega), hA1.below hb13, hT1.trans (Turn.of_below hb13)⟩
end Que
end Go.Proofs.Ytbfnjjdgiihngaf
