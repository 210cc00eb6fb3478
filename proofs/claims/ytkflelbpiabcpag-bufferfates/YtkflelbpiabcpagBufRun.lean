
/- What each function of package buffer answers: Next, Run; and what the laws ask of the library. -/
import Derived.Test.YtkflelbpiabcpagBufAsk
namespace Go.Proofs.Ytkflelbpiabcpag
namespace Buf
open Go.RowKit Rw Rec
set_option maxRecDepth 8000

theorem ints_row {w : World} {B : Nat} {v : Value} {X : List Int} (h : w.ownsRow B 3 1 v X.length (cels iK.c X)) : ∃ ao cap, v = .slice ao X.length cap ∧ RowAt iK w ao X := by
  rcases h.2 with ⟨h1, h2⟩ | ⟨g, cap, cur, h1, h2, h3, h4⟩
  · exact ⟨none, 0, by rw [h1, h2], fun hl => by omega⟩
  · subst h1
    refine ⟨_, cap, rfl, fun hl => ⟨g, rfl, (h.lt g rfl).2, fun i m hm j u hu => ?_⟩⟩
    have hi : i < X.length := (List.getElem?_eq_some_iff.1 hm).1
    have hj : j < 1 := by have := (List.getElem?_eq_some_iff.1 hu).1; simpa [iK] using this
    show w.cell? ⟨g, i * 1 + j, none⟩ = some u
    rw [h.cellAt _ (by omega)]
    rw [← hu]
    exact Rw.cels_get iK.len X i j m hm hj
theorem row_int {w : World} {ao : Option Addr} {X : List Int} (h : RowAt iK w ao X) (hl : 0 < X.length) : ∃ g, ao = some ⟨g, 0, none⟩ ∧ g < w.heap.size ∧ ∀ (i : Nat) (x : Int), X[i]? = some x → w.cell? ⟨g, i, none⟩ = some (.int .i64 x) := by
  obtain ⟨g, rfl, hg, hc⟩ := h hl
  refine ⟨g, rfl, hg, fun i x hx => ?_⟩
  have := hc i x hx 0 _ rfl
  simpa [iK] using this
def IiR (X : List Int) (x : Int) (w : World) (i : Value) (wr : World) : Prop := ∃ k : Nat, k ≤ X.length ∧ i = .int .i64 k ∧ (∀ j, j < k → X[j]? ≠ some x) ∧ wr = w
set_option maxHeartbeats 1000000 in
theorem index_any (ao : Option Addr) (cap : Nat) (X : List Int) (x : Int) (w : World) (hR : RowAt iK w ao X) (hX : X.length ≤ 1000) :
    Calls Try.prog 77 #[.slice ao X.length cap, .int .i64 x] w fun e w' => ∃ n : Int, e = .returned (.int .i64 n) ∧ (0 ≤ n ↔ x ∈ X) ∧ w' = w := by
  go_enter Try.func77, Try.ntmps77
  go_wp2
  go_loopw [8] (fun i wr => IiR X x w i wr) (fun i _ => X.length - (intOf i).toNat)
  case atStart => exact ⟨0, by omega, rfl, fun j hj => absurd hj (by omega), rfl⟩
  case round =>
    obtain ⟨k, hk, rfl, hno, hwr⟩ := hrel
    subst hwr
    by_cases hlt : k < X.length
    · have hlt' : (k : Int) < (X.length : Int) := by omega
      obtain ⟨g, rfl, hg, hc⟩ := row_int hR (by omega)
      obtain ⟨y, hy⟩ : ∃ y, X[k]? = some y := ⟨X[k], by simp [hlt]⟩
      have c0 := hc k y hy
      have HY : Hid (X[k]? = some y) := hy
      have HNo : Hid (∀ j, j < k → X[j]? ≠ some x) := hno
      clear hc hR hy hno
      cases hp : (x == y)
      · go_wp2
        go_roundw
        case rel =>
          refine ⟨k + 1, by omega, rfl, fun j hj e => ?_, rfl⟩
          by_cases ek : j = k
          · subst ek; rw [HY.out] at e; simp at e; subst e; simp at hp
          · exact HNo.out j (by omega) e
        case measure => simp [intOf]; omega
      · have hxy : x = y := by simpa using hp
        subst hxy
        go_wp2
        go_ret
        exact ⟨k, rfl, ⟨fun _ => List.mem_of_getElem? HY.out, fun _ => by omega⟩, rfl⟩
    · obtain rfl : k = X.length := by omega
      have HNo : Hid (∀ j, j < X.length → X[j]? ≠ some x) := hno
      clear hno
      go_wp2
      go_ret
      refine ⟨-1, rfl, ⟨fun h => absurd h (by omega), fun h => ?_⟩, rfl⟩
      obtain ⟨j, hj, e⟩ := List.getElem_of_mem h
      exact absurd (by rw [List.getElem?_eq_getElem hj, e]) (HNo.out j hj)
theorem contains_any (ao : Option Addr) (cap : Nat) (X : List Int) (x : Int) (w : World) (hR : RowAt iK w ao X) (hX : X.length ≤ 1000) :
    Calls Try.prog 59 #[.slice ao X.length cap, .int .i64 x] w fun e w' => e = .returned (.bool (decide (x ∈ X))) ∧ w' = w := by
  have c := index_any ao cap X x w hR hX
  go_enter Try.func59, Try.ntmps59
  go_wp2_with (go_at_call 77; (with_reducible refine c.mono ?_); rintro e w' ⟨n, rfl, hn, h9⟩; have h8 := h9.symm; clear h9; subst h8; have HN : Hid (0 ≤ n ↔ x ∈ X) := hn; clear hn)
  go_ret
  refine ⟨?_, rfl⟩
  by_cases h : x ∈ X
  · have h1 := HN.out.2 h
    simp [h, h1]
  · have h1 : ¬ 0 ≤ n := fun e => h (HN.out.1 e)
    simp [h, h1]
def EiR (n : Nat) (w : World) (i : Value) (wr : World) : Prop := ∃ k q : Nat, k ≤ n ∧ i = .int .i64 k ∧ wr = w.drewN q
set_option maxHeartbeats 1000000 in
theorem next_any (B Q : Nat) (v : Value) (L : List Rq) (w : World) (hA : HAt w B Q v L) (hI : Inv L) :
    Calls Try.prog 52 #[.pointer (some ⟨Q, 0, none⟩)] w fun e w' => e = .returned (.tuple #[.int .i64 (nextN L), .bool (nextB L)]) ∧ Below w.heap.size w w' := by
  have c := may_any B Q v L w hA hI
  rcases may_next L with ⟨h1, h2, h3⟩ | ⟨x, l, h1, h2, h3⟩
  · rw [h1] at c
    rw [h2, h3]
    clear h1 h2 h3
    go_enter Try.func52, Try.ntmps52
    go_wp2_with (go_at_call 60; (with_reducible refine c.mono ?_); rintro e w2 ⟨o, rfl, hown2, hb2⟩; obtain ⟨ao2, cap2, rfl, hR2⟩ := ints_row hown2)
    go_ret2
    exact ⟨rfl, hb2⟩
  · rw [h1] at c
    rw [h2, h3]
    clear h1 h2 h3
    go_enter Try.func52, Try.ntmps52
    go_wp2_with (go_at_call 60; (with_reducible refine c.mono ?_); rintro e w2 ⟨o, rfl, hown2, hb2⟩; obtain ⟨ao2, cap2, rfl, hR2⟩ := ints_row hown2; obtain ⟨g2, rfl, hg2, hc2⟩ := row_int hR2 (by simp); have x0 := hc2 0 x rfl; clear hc2 hR2 hown2; simp only [List.length_cons]; have hl0 : ¬ ((l.length : Int) + 1 = 0) := (by omega); have hl1 : ((l.length : Int) + 1 == 0) = false := (by simpa using hl0); have hl2 : (0 : Int) < (l.length : Int) + 1 := (by omega))
    go_ret2
    exact ⟨rfl, hb2⟩
set_option maxHeartbeats 2000000 in
theorem run_any (L : List Rq) (id pod : Int) (hI : Inv L) : Doth 31 (fun Q => #[.pointer (some ⟨Q, 0, none⟩), .int .i64 id, .int .i64 pod]) L (runL L id pod) (.returned (.int .i64 (runE L id))) := by
  intro B Q v w hA
  have hlen := hI.len
  by_cases h : 1 ≤ id ∧ id ≤ L.length
  · have c := has_yes B Q v L id w hA h.1 h.2
    have c1 := may_any B Q v L w hA hI
    obtain ⟨ao, cap, rfl, hc1, hc2, hao⟩ := hA.form
    obtain ⟨i, rfl, hl⟩ := id_nat h
    obtain ⟨r, hr⟩ : ∃ r, L[i]? = some r := ⟨L[i], by simp [hl]⟩
    obtain ⟨g, rfl⟩ := hao (by omega)
    have hl' : (i : Int) < (L.length : Int) := by omega
    have hml : (mayL L L.length).length ≤ 1000 := Nat.le_trans (mayL_le L L.length) (by omega)
    have c2 := fun ao cap w hR => contains_any ao cap (mayL L L.length) ((i : Int) + 1) w hR hml
    have HA : Hid (HAt w B Q (.slice (some ⟨g, 0, none⟩) L.length cap) L) := hA
    have HR : Hid (L[i]? = some r) := hr
    cases hok : runOk L i r
    · have hm : decide (((i : Int) + 1) ∈ mayL L L.length) = false := by rw [decide_eq_false_iff_not, mayL_mem hr, hok]; simp
      rw [hm] at c2
      obtain ⟨r1, r2⟩ := run_state (pod := pod) hr hok
      rw [r1, r2]
      clear r1 r2 hm hA hr h hok hao
      go_enter Try.func31, Try.ntmps31
      go_wp2_with (first
        | (go_at_call 58; (with_reducible refine c.mono ?_); rintro e w' ⟨rfl, h9⟩; have h8 := h9.symm; clear h9; subst h8)
        | (go_at_call 60; (with_reducible refine c1.mono ?_); rintro e w2 ⟨o, rfl, hown2, hb2⟩; obtain ⟨ao2, cap2, rfl, hR2⟩ := ints_row hown2; clear hown2)
        | (go_at_call 59; (with_reducible refine (c2 _ _ _ hR2).mono ?_); rintro e w' ⟨rfl, h9⟩; have h8 := h9.symm; clear h9; subst h8))
      go_ret
      exact ⟨rfl, _, HA.out.below hb2, Turn.of_below hb2⟩
    · have hm : decide (((i : Int) + 1) ∈ mayL L L.length) = true := by rw [decide_eq_true_eq, mayL_mem hr, hok]
      rw [hm] at c2
      obtain ⟨r1, r2⟩ := run_ok (pod := pod) hr hok
      rw [r1, r2]
      have HP : Hid (∀ wr, HAt wr B Q (.slice (some ⟨g, 0, none⟩) L.length cap) L → HAt ((wr.setCell ⟨g, i * 5 + 3, none⟩ (.int .i64 2)).setCell ⟨g, i * 5 + 4, none⟩ (.int .i64 pod)) B Q (.slice (some ⟨g, 0, none⟩) L.length cap) (L.set i ⟨r.id, r.src, r.til, 2, pod⟩)) := by
        intro wr hAr
        have p1 : HAt (wr.setCell ⟨g, i * 5 + 3, none⟩ (.int .i64 2)) B Q (.slice (some ⟨g, 0, none⟩) L.length cap) (L.set i ⟨r.id, r.src, r.til, 2, r.pod⟩) := RAt.put (j := 3) hAr rfl hr (by decide) rfl
        have p2 : HAt ((wr.setCell ⟨g, i * 5 + 3, none⟩ (.int .i64 2)).setCell ⟨g, i * 5 + 4, none⟩ (.int .i64 pod)) B Q (.slice (some ⟨g, 0, none⟩) L.length cap) ((L.set i ⟨r.id, r.src, r.til, 2, r.pod⟩).set i ⟨r.id, r.src, r.til, 2, pod⟩) := RAt.put (j := 4) p1 (by simp) (show (L.set i ⟨r.id, r.src, r.til, 2, r.pod⟩)[i]? = some ⟨r.id, r.src, r.til, 2, r.pod⟩ by simp [hl]) (by decide) rfl
        rw [List.set_set] at p2
        exact p2
      clear r1 r2 hm hA hr h hok hao
      go_enter Try.func31, Try.ntmps31
      go_wp2_with (first
        | (go_at_call 58; (with_reducible refine c.mono ?_); rintro e w' ⟨rfl, h9⟩; have h8 := h9.symm; clear h9; subst h8)
        | (go_at_call 60; (with_reducible refine c1.mono ?_); rintro e w2 ⟨o, rfl, hown2, hb2⟩; obtain ⟨ao2, cap2, rfl, hR2⟩ := ints_row hown2; clear hown2; have hA2 := HA.out.below hb2; have cV2 := hA2.cV; obtain ⟨x0, x1, x2, x3, x4, fz2⟩ := hA2.req rfl HR.out; have f3 := fz2 (i * 5 + 3); have f4 := fz2 (i * 5 + 4); have hgQ := hA2.gQ; clear fz2)
        | (go_at_call 59; (with_reducible refine (c2 _ _ _ hR2).mono ?_); rintro e w' ⟨rfl, h9⟩; have h8 := h9.symm; clear h9; subst h8))
      go_ret
      exact ⟨rfl, _, HP.out _ hA2, ((Turn.of_below hb2).trans (Turn.setG _ _)).trans (Turn.setG _ _)⟩
  · obtain ⟨e1, e2⟩ := run_no (pod := pod) h
    rw [e1, e2]
    have c := has_no B Q v L id w hA h
    clear e1 e2 h
    go_enter Try.func31, Try.ntmps31
    go_wp2_with (go_at_call 58; (with_reducible refine c.mono ?_); rintro e w' ⟨rfl, h9⟩; have h8 := h9.symm; clear h9; subst h8)
    go_ret
    exact ⟨rfl, _, hA, Turn.refl _ _ _⟩
def CtR (L : List Rq) (w : World) (a d i : Value) (wr : World) : Prop := ∃ k : Nat, k ≤ L.length ∧ i = .int .i64 k ∧ a = .int .i64 ((L.take k).countP isW : Int) ∧ d = .int .i64 ((L.take k).countP isR : Int) ∧ Below w.heap.size w wr
end Buf
end Go.Proofs.Ytkflelbpiabcpag
