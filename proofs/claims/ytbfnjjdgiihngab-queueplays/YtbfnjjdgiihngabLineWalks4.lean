/- What the document's queue (tideref.Line) answers: All, Depth. -/
import Derived.Test.YtbfnjjdgiihngabLineWalks3
namespace Go.Proofs.Ytbfnjjdgiihngab
namespace Que
open Go.RowKit
set_option maxRecDepth 8000

/-- append of a whole row onto nothing -/
theorem wpList_append_copy {P : Program} {w : World} {ops : Array Oper} {rest : List Oper} {o : Oper} {a : Act} {Q : Exit → Act → World → Prop} (hgd : o.guard = none) (s x : Operand) (t : TypeId)
    (ho : o.op = .call { callee := .builtin .append, args := #[s, x], argTypes := #[t, t] })
    (e : TypeId) (i : TypeInfo) (z : Value) (size bytes : Nat) (ht : P.underlying t = some (.slice e)) (hi : P.info? e = some i) (hz : i.zero = some z)
    (hsize : i.size = size) (hby : i.bytes = bytes) (hzs : z.cells.size = size) (hsz : 0 < size) (hs : a.eval s = .slice none 0 0)
    (ao : Option Addr) (n c : Nat) (cs : List Value) (hx : a.eval x = .slice ao n c) (hl : cs.length = n * size) (hsrc : 0 < n → ∃ ad, ao = some ad ∧ ∀ j u, cs[j]? = some u → w.cell? (ad.add j) = some u) (hnil : ao = none → c = 0) (h1 : ∀ u ∈ cs, u.oneCell' = true)
    (h63 : n ≤ maxLen) (hbytes : n * bytes ≤ 140737488355328)
    (h : ∀ bo c' w', w'.ownsRow w.heap.size e size (.slice bo n c') n cs → Below w.heap.size w w' → wpList P ops Q rest (a.put o.dst (.slice bo n c')) w') : wpList P ops Q (o :: rest) a w := by
  refine wpList_plain hgd fun K hK => ?_
  cases ao with
  | none =>
    have hn : n = 0 := by
      by_cases g : n = 0
      · exact g
      · obtain ⟨ad, h0, _⟩ := hsrc (by omega)
        cases h0
    subst hn
    have hcs : cs = [] := List.eq_nil_of_length_eq_zero (by simpa using hl)
    subst hcs
    have hc := hnil rfl
    subst hc
    have hr := run_append_owned_none (P := P) w w.heap.size t o.type e i size ht hi (.slice none 0 0) 0 [] (World.ownsRow_nil _ _ _ _)
    unfold Oper.wp execOp
    simp only [ho, resolve, invoke, builtin, Sem.run_bind, Sem.run_pure, Result.andThen_ok, List.map_toArray, List.map_cons, List.map_nil, hs, hx, hr]
    exact hK _ _ (h none 0 w (World.ownsRow_nil _ _ _ _) (Below.refl _ _))
  | some ad =>
    have hnews : ∀ j u, cs[j]? = some u → w.cell? (ad.add j) = some u := by
      by_cases g : n = 0
      · subst g
        have hcs : cs = [] := List.eq_nil_of_length_eq_zero (by simpa using hl)
        subst hcs
        intro j u hu; simp at hu
      · obtain ⟨ad', h0, h2⟩ := hsrc (by omega)
        cases h0; exact h2
    obtain ⟨v', w', hr, g2, g3, _⟩ := run_append_own (P := P) w w.heap.size t o.type e i z size bytes ht hi hz hsize hby hzs hsz (.slice none 0 0) 0 [] (World.ownsRow_nil _ _ _ _) ad n c cs hl hnews h1 (by omega) (by rw [Nat.zero_add]; exact hbytes) (Nat.le_refl _)
    rw [Nat.zero_add, List.nil_append] at g2
    have hb : Below w.heap.size w w' := (Below.refl _ _).grown g3 (Nat.le_refl _) (fun _ h => by cases h)
    obtain ⟨bo, c', hv⟩ : ∃ bo c', v' = .slice bo n c' := by
      rcases g2.2 with ⟨h0, h0'⟩ | ⟨_, _, _, h0, _⟩
      · exact ⟨none, 0, by rw [h0, h0']⟩
      · exact ⟨_, _, h0⟩
    subst hv
    unfold Oper.wp execOp
    simp only [ho, resolve, invoke, builtin, Sem.run_bind, Sem.run_pure, Result.andThen_ok, List.map_toArray, List.map_cons, List.map_nil, hs, hx, hr]
    exact hK _ _ (h bo c' w' g2 hb)
theorem row_of_own {w : World} {B c : Nat} {e : TypeId} {bo : Option Addr} {L : List M} (h : w.ownsRow B e 3 (.slice bo L.length c) L.length (cels L)) : RowAt w bo L := by
  intro hl
  rcases h.2 with ⟨h0, h1⟩ | ⟨g, cap, cur, h0, _⟩
  · omega
  · cases h0
    refine ⟨g, rfl, (h.lt g rfl).2, fun i m hm => ?_⟩
    have hi : i < L.length := (List.getElem?_eq_some_iff.1 hm).1
    obtain ⟨a, b, c⟩ := cels_get L i m hm
    exact ⟨(h.cellAt _ (by omega)).trans a, (h.cellAt _ (by omega)).trans b, (h.cellAt _ (by omega)).trans c⟩

theorem lall_now (Q : Nat) (now : Int) (w : World) (h : ¬ (0 ≤ now ∧ now ≤ 1099511627776)) :
    Calls Try.prog 22 #[.pointer (some ⟨Q, 0, none⟩), .int .i64 now] w fun e w' => e = .returned (.tuple #[.slice none 0 0, .int .i64 1]) ∧ w' = w := by
  have c2 := fun w => at_no Q now w h
  clear h
  go_enter Try.func22, Try.ntmps22
  go_wp2_with (go_at_call 32; (with_reducible refine (c2 _).mono ?_); rintro e w' ⟨rfl, rfl⟩)
  go_ret2
  exact ⟨rfl, rfl⟩
set_option maxHeartbeats 2000000 in
theorem lall_yes (B Q : Nat) (last : Int) (v : Value) (L L1 : List M) (now : Int) (w : World) (hA : QAt w 54 B Q 1 0 last v L) (hL : L.length ≤ 200) (h3 : 0 ≤ now) (h4 : now ≤ 1099511627776) (hb : backL now L = L1) :
    Calls Try.prog 22 #[.pointer (some ⟨Q, 0, none⟩), .int .i64 now] w fun e w' => ∃ bo c, e = .returned (.tuple #[.slice bo L1.length c, .int .i64 0]) ∧ RowAt w' bo L1 ∧ (∀ g, bo = some ⟨g, 0, none⟩ → w.heap.size ≤ g) ∧ ∃ v', (∀ g, bo = some ⟨g, 0, none⟩ → v'.ownBlock ≠ some g) ∧ QAt w' 54 B Q 1 0 last v' L1 ∧ Turn Q v v' w w' := by
  obtain ⟨i0, hi, hz0, hz1, hz2⟩ := info_parts info_msg
  have hl : L1.length ≤ 200 := by rw [← hb, backL_len]; exact hL
  have hnil : ∀ ao cap, v = .slice ao L.length cap → ao = none → cap = 0 := by
    intro ao cap hv h0
    rcases hA.own.2 with ⟨g0, _⟩ | ⟨g, cap', cur, g0, _⟩
    · rw [hv] at g0; exact (Value.slice.inj g0).2.2
    · rw [hv, h0] at g0; cases g0
  obtain ⟨ao, cap, rfl, hc1, hc2, hao⟩ := hA.form
  have hnil2 := hnil ao cap rfl
  have c := atS B Q cap ao last L L1 now w hA h3 h4 hL hb
  clear hA hb hao hc1 hc2 hnil
  go_enter Try.func22, Try.ntmps22
  go_wp2_with (first
    | (go_at_call 32; (with_reducible refine c.mono ?_); rintro e w1 ⟨rfl, hA1, hT1⟩; have cS1 := hA1.cS)
    | (at_builtin; (refine wpList_append_copy rfl (.const (.slice none 0 0)) (.tmp 13) 42 rfl 54 i0 (.agg #[.int .i64 0, .int .i64 0, .bool false]) 3 24 Try.underlying42 hi hz0 hz1 hz2 rfl (by decide) rfl ao L1.length cap (cels L1) rfl (cels_len L1) (row_src hA1) hnil2 (cels_one L1) (by unfold maxLen; omega) (by omega) ?_); intro bo c' w2 hown2 hb2))
  go_ret2
  refine ⟨bo, c', rfl, row_of_own hown2, fun g hg => ?_, _, fun g hg e => ?_, hA1.below hb2, hT1.trans (Turn.of_below hb2)⟩
  · subst hg
    exact Nat.le_trans hT1.size (hown2.lt g rfl).1
  · subst hg
    have h1 := (hown2.lt g rfl).1
    have h2 := hA1.rowLt g e
    omega

theorem ldepth_now (Q : Nat) (now : Int) (w : World) (h : ¬ (0 ≤ now ∧ now ≤ 1099511627776)) :
    Calls Try.prog 24 #[.pointer (some ⟨Q, 0, none⟩), .int .i64 now] w fun e w' => e = .returned (.tuple #[.int .i64 0, .int .i64 1]) ∧ w' = w := by
  have c2 := fun w => lall_now Q now w h
  clear h
  go_enter Try.func24, Try.ntmps24
  go_wp2_with (go_at_call 22; (with_reducible refine (c2 _).mono ?_); rintro e w' ⟨rfl, h9⟩; have h8 := h9.symm; clear h9; subst h8)
  go_loopw [8, 9] (fun n i wr => n = .int .i64 0 ∧ i = .int .i64 0 ∧ wr = w) (fun _ _ _ => 0)
  case atStart => exact ⟨rfl, rfl, rfl⟩
  case round =>
    obtain ⟨rfl, rfl, rfl⟩ := hrel
    go_wp2
    go_ret2
    exact ⟨rfl, rfl⟩
set_option maxHeartbeats 2000000 in
theorem ldepth_yes (B Q : Nat) (last : Int) (v : Value) (L L1 : List M) (now : Int) (w : World) (hA : QAt w 54 B Q 1 0 last v L) (hL : L.length ≤ 200) (h3 : 0 ≤ now) (h4 : now ≤ 1099511627776) (hb : backL now L = L1) :
    Calls Try.prog 24 #[.pointer (some ⟨Q, 0, none⟩), .int .i64 now] w fun e w' => e = .returned (.tuple #[.int .i64 (depth L1 : Int), .int .i64 0]) ∧ ∃ v', QAt w' 54 B Q 1 0 last v' L1 ∧ Turn Q v v' w w' := by
  have hl : L1.length ≤ 200 := by rw [← hb, backL_len]; exact hL
  have c := lall_yes B Q last v L L1 now w hA hL h3 h4 hb
  clear hA hb
  go_enter Try.func24, Try.ntmps24
  go_wp2_with (go_at_call 22; (with_reducible refine c.mono ?_); rintro e w1 ⟨bo, cb, rfl, hR1, _, v1, _, hA1, hT1⟩)
  go_loopw [8, 9] (fun d i wr => DpR L1 w1 d i wr) (fun _ i _ => L1.length - (intOf i).toNat)
  case atStart => exact ⟨0, by omega, rfl, by simp [depth], Below.refl _ _⟩
  case round =>
    obtain ⟨k, hk, rfl, rfl, hb⟩ := hrel
    by_cases hlt : k < L1.length
    · have hlt' : (k : Int) < (L1.length : Int) := by omega
      obtain ⟨g, rfl, hg, hc⟩ := hR1.below hb (by omega)
      obtain ⟨m, hm⟩ : ∃ m, L1[k]? = some m := ⟨L1[k], by simp [hlt]⟩
      obtain ⟨c0, c1, c2⟩ := hc k m hm
      have hs := depth_step hm
      have hd : depth (L1.take k) ≤ 200 := Nat.le_trans (depth_le _) (by rw [List.length_take]; omega)
      clear hc hR1
      obtain ⟨id, till, tk⟩ := m
      simp only at c0 c1 c2
      cases tk
      · simp only [free, Bool.not_false, if_true] at hs
        go_wp2
        go_roundw
        case rel => exact ⟨k + 1, by omega, rfl, by rw [hs]; simp, hb⟩
        case measure => simp [intOf]; omega
      · simp only [free, Bool.not_true, Bool.false_eq_true, if_false, Nat.add_zero] at hs
        go_wp2
        go_roundw
        case rel => exact ⟨k + 1, by omega, rfl, by rw [hs], hb⟩
        case measure => simp [intOf]; omega
    · obtain rfl : k = L1.length := by omega
      go_wp2
      go_ret2
      exact ⟨by rw [List.take_length]; rfl, _, hA1.below hb, hT1.trans (Turn.of_below hb)⟩
end Que
end Go.Proofs.Ytbfnjjdgiihngab
