
/- What the document's buffer (tideref.Hall) answers: Late, Lost. -/
import Derived.Test.YtkflelbpiabcpacHallAsk
namespace Go.Proofs.Ytkflelbpiabcpac
namespace Buf
open Go.RowKit Rw Rec
set_option maxRecDepth 8000

theorem cell_u (w : World) (e : TypeId) (a : Value) (N : Nat) (hN : N = w.heap.size) : ∀ (j : Nat) (u : Value), [a][j]? = some u → (w.alloc (.cells #[a] e)).cell? ((⟨N, 0, none⟩ : Addr).add j) = some u := by
  subst hN
  intro j u h
  match j, h with
  | 0, h => simp at h; subst h; simp [Addr.add]
  | j + 1, h => simp at h
/-- k requests are looked at: their fates, and the numbers told -/
def TuR (p : Rq → Bool) (f : Int) (L : List Rq) (B Q : Nat) (v : Value) (w : World) (o i : Value) (wr : World) : Prop :=
  ∃ k : Nat, k ≤ L.length ∧ i = .int .i64 k ∧ HAt wr B Q v (halfL p f L k) ∧ Turn Q v v w wr ∧ wr.ownsRow w.heap.size 3 1 o (turnI p (L.take k)).length (cels iK.c (turnI p (L.take k)))
/-- the state ahead of a request -/
structure TuS (p : Rq → Bool) (f : Int) (L : List Rq) (B Q : Nat) (v : Value) (w : World) (k : Nat) (r : Rq) (o : Value) (wr : World) : Prop where
  lt : k < L.length
  hr : L[k]? = some r
  num : r.id = (k : Int) + 1
  hA : HAt wr B Q v (halfL p f L k)
  hT : Turn Q v v w wr
  own : wr.ownsRow w.heap.size 3 1 o (turnI p (L.take k)).length (cels iK.c (turnI p (L.take k)))
  qw : Q < w.heap.size
  gw : ∀ g, v.ownBlock = some g → g < w.heap.size
section
variable {p : Rq → Bool} {f : Int} {L : List Rq} {B Q g n cap k : Nat} {w wr w3 : World} {r : Rq} {o o' : Value} {ob : Obj}
theorem TuS.no {v : Value} (h : TuS p f L B Q v w k r o wr) (hp : p r = false) : TuR p f L B Q v w o (.int .i64 ((k + 1 : Nat) : Int)) wr := by
  have e1 : turnI p (L.take (k + 1)) = turnI p (L.take k) := by rw [turnI_step h.hr, hp]; simp
  exact ⟨k + 1, h.lt, rfl, by rw [← halfL_same h.hr hp]; exact h.hA, h.hT, by rw [e1]; exact h.own⟩
theorem TuS.store {N0 : Nat} {C0 : List Value} (h : TuS p f L B Q (.slice (some ⟨g, 0, none⟩) n cap) w k r o wr) (ho : wr.ownsRow w.heap.size 3 1 o N0 C0) {j : Nat} {u : Value} : (wr.setCell ⟨g, j, none⟩ u).ownsRow w.heap.size 3 1 o N0 C0 := by
  refine owns_block ho (fun b hb => Below.heap_setCell wr _ _ b (fun e => ?_))
  have h1 := (ho.lt b hb).1
  have h2 := h.gw g rfl
  simp only at e
  omega
theorem TuS.yes (h : TuS p f L B Q (.slice (some ⟨g, 0, none⟩) L.length cap) w k r o wr) (hp : p r = true)
    (hown3 : w3.ownsRow w.heap.size 3 1 o' ((turnI p (L.take k)).length + 1) (cels iK.c (turnI p (L.take k)) ++ [.int .i64 ((k : Int) + 1)]))
    (hg : ((wr.setCell ⟨g, k * 5 + 3, none⟩ (.int .i64 f)).alloc ob).grownBy w3 o.ownBlock) : TuR p f L B Q (.slice (some ⟨g, 0, none⟩) L.length cap) w o' (.int .i64 ((k + 1 : Nat) : Int)) w3 := by
  have e1 : turnI p (L.take (k + 1)) = turnI p (L.take k) ++ [(k : Int) + 1] := by rw [turnI_step h.hr, hp, h.num]; rfl
  have hA2 : HAt (wr.setCell ⟨g, k * 5 + 3, none⟩ (.int .i64 f)) B Q (.slice (some ⟨g, 0, none⟩) L.length cap) (halfL p f L (k + 1)) := by
    rw [← halfL_step h.hr]
    have e2 : turnF p f r = ⟨r.id, r.src, r.til, f, r.pod⟩ := by unfold turnF; rw [hp]; rfl
    rw [e2]
    exact RAt.put (j := 3) h.hA (halfL_len _ _ _ _).symm (halfL_get h.hr) (by decide) rfl
  have hA3 := hA2.alloc ob
  have hbo : ∀ b, o.ownBlock = some b → w.heap.size ≤ b := fun b hb => (h.own.lt b hb).1
  have hT2 := (h.hT.trans (Turn.setG (k * 5 + 3) (.int .i64 f))).alloc ob
  have hqw := h.qw
  refine ⟨k + 1, h.lt, rfl, RAt.kept hA3 (hg.block Q hA3.lt (fun e => by have := hbo Q e.symm; omega)) (fun b hb => hg.block b (hA3.rowLt b hb) (fun e => by have := hbo b e.symm; have := h.gw b hb; omega)), ?_, ?_⟩
  · refine ⟨hg.os.trans hT2.os, hg.tape.trans hT2.tape, hg.output.trans hT2.output, Nat.le_trans hT2.size hg.size, fun b hb h1 h2 => ?_, fun b hb => Or.inl hb⟩
    exact (hg.block b (Nat.lt_of_lt_of_le hb hT2.size) (fun e => by have := hbo b e.symm; omega)).trans (hT2.block b hb h1 h2)
  · rw [e1, List.length_append, cels_append]
    exact hown3
end

set_option maxHeartbeats 4000000 in
theorem hlate_any (B Q : Nat) (v : Value) (L : List Rq) (now : Int) (w : World) (hA : HAt w B Q v L) (hI : Inv L) (h0 : 0 ≤ now) (h9 : now ≤ 1099511627776) :
    Calls Try.prog 30 #[.pointer (some ⟨Q, 0, none⟩), .int .i64 now] w fun e w' => ∃ o, e = .returned (.tuple #[o, .int .i64 0]) ∧ w'.ownsRow w.heap.size 3 1 o (turnI (isLate now) L).length (cels iK.c (turnI (isLate now) L)) ∧ HAt w' B Q v (turnL (isLate now) 4 L) ∧ Turn Q v v w w' := by
  obtain ⟨i0, hi, hz0, hz1, hz2⟩ := info_parts info_int
  have hlen := hI.len
  obtain ⟨ao, cap, rfl, hc1, hc2, hao⟩ := hA.form
  have cI := fun w => rin_yes now 0 1099511627776 w h0 h9
  go_enter Try.func30, Try.ntmps30
  go_wp2_with (go_at_call 51; (with_reducible refine (cI _).mono ?_); rintro e w' ⟨rfl, h9⟩; have h8 := h9.symm; clear h9; subst h8)
  go_loopw [6, 7] (fun o i wr => TuR (isLate now) 4 L B Q (.slice ao L.length cap) w o i wr) (fun _ i _ => L.length - (intOf i).toNat)
  case atStart => exact ⟨0, by omega, rfl, by rw [halfL_zero]; exact hA, Turn.refl _ _ _, World.ownsRow_nil _ _ _ _⟩
  case round =>
    have hQw := hA.lt
    have hgw := hA.rowLt
    clear hA
    obtain ⟨k, hk, rfl, hA, hT, hown⟩ := hrel
    have cV := hA.cV
    have hQl := hA.lt
    by_cases hlt : k < L.length
    · have hlt' : (k : Int) < (L.length : Int) := by omega
      obtain ⟨g, rfl⟩ := hao (by omega)
      obtain ⟨r, hr⟩ : ∃ r, L[k]? = some r := ⟨L[k], by simp [hlt]⟩
      have hrg := halfL_get (p := isLate now) (f := 4) hr
      obtain ⟨d0, d1, d2, d3, d4, fz⟩ := hA.req (halfL_len _ _ _ _).symm hrg
      have hnum := hI.num k r hr
      have f3 := fz (k * 5 + 3)
      have hgQ := hA.gQ
      have hXl : (turnI (isLate now) (L.take k)).length ≤ 200 := Nat.le_trans (turnI_le _ _) (by rw [List.length_take]; omega)
      have hsz := hT.size
      have HS : Hid (TuS (isLate now) 4 L B Q (.slice (some ⟨g, 0, none⟩) L.length cap) w k r u6 wr) := ⟨hlt, hr, hnum, hA, hT, hown, hQw, hgw⟩
      clear hA hT fz hnum hrg hgw
      have HO : Hid (wr.ownsRow w.heap.size 3 1 u6 (turnI (isLate now) (L.take k)).length (cels iK.c (turnI (isLate now) (L.take k)))) := hown
      clear hown hr
      generalize hN0 : (turnI (isLate now) (L.take k)).length = N0 at *
      generalize hC0 : cels iK.c (turnI (isLate now) (L.take k)) = C0 at *
      have HN0 : Hid ((turnI (isLate now) (L.take k)).length = N0) := hN0
      have HC0 : Hid (cels iK.c (turnI (isLate now) (L.take k)) = C0) := hC0
      clear hN0 hC0
      cases h1 : (r.fat == 1)
      · have hp : (isLate now) r = false := by unfold isLate; rw [h1]; rfl
        go_wp2
        go_roundw
        case rel => exact HS.out.no hp
        case measure => simp [intOf]; omega
      · by_cases h2 : r.til ≤ now
        · have hp : (isLate now) r = true := by unfold isLate; rw [h1]; simp; exact h2
          have HO2 : Hid ((wr.setCell ⟨g, k * 5 + 3, none⟩ (.int .i64 4)).ownsRow w.heap.size 3 1 u6 N0 C0) := HS.out.store HO.out
          go_wp2_with (at_builtin; refine wpList_append_own _ rfl _ _ 63 rfl w.heap.size 3 i0 (.int .i64 0) 1 8 Try.underlying63 hi hz0 hz1 hz2 rfl (by decide) _ N0 C0 rfl (HO2.out.alloc _) ⟨wr.heap.size, 0, none⟩ 1 1 [.int .i64 ((k : Int) + 1)] rfl rfl (cell_u _ _ _ _ (by simp)) (fun u hu => by simp at hu; rcases hu with rfl; rfl) (by unfold maxLen; omega) (by omega) (by simp; omega) ?_; intro v' w3 hown3 hgrow3 _)
          go_wp2
          go_roundw
          case rel => exact HS.out.yes hp (by rw [HN0.out, HC0.out]; exact hown3) hgrow3
          case measure => simp [intOf]; omega
        · have hp : (isLate now) r = false := by unfold isLate; rw [h1]; simp; omega
          go_wp2
          go_roundw
          case rel => exact HS.out.no hp
          case measure => simp [intOf]; omega
    · obtain rfl : k = L.length := by omega
      rw [List.take_length] at hown
      rw [halfL_all] at hA
      obtain ⟨bo, bn, bc, hu⟩ : ∃ bo bn bc, u6 = .slice bo bn bc := by
        rcases hown.2 with ⟨h0, _⟩ | ⟨_, _, _, h0, _⟩ <;> exact ⟨_, _, _, h0⟩
      subst hu
      go_wp2
      go_ret2
      exact ⟨_, rfl, hown, hA, hT⟩

set_option maxHeartbeats 4000000 in
theorem hlost_any (B Q : Nat) (v : Value) (L : List Rq) (pod : Int) (w : World) (hA : HAt w B Q v L) (hI : Inv L) :
    Calls Try.prog 39 #[.pointer (some ⟨Q, 0, none⟩), .int .i64 pod] w fun e w' => ∃ o, e = .returned o ∧ w'.ownsRow w.heap.size 3 1 o (turnI (isAt pod) L).length (cels iK.c (turnI (isAt pod) L)) ∧ HAt w' B Q v (turnL (isAt pod) 5 L) ∧ Turn Q v v w w' := by
  obtain ⟨i0, hi, hz0, hz1, hz2⟩ := info_parts info_int
  have hlen := hI.len
  obtain ⟨ao, cap, rfl, hc1, hc2, hao⟩ := hA.form
  go_enter Try.func39, Try.ntmps39
  go_wp2
  go_loopw [5, 6] (fun o i wr => TuR (isAt pod) 5 L B Q (.slice ao L.length cap) w o i wr) (fun _ i _ => L.length - (intOf i).toNat)
  case atStart => exact ⟨0, by omega, rfl, by rw [halfL_zero]; exact hA, Turn.refl _ _ _, World.ownsRow_nil _ _ _ _⟩
  case round =>
    have hQw := hA.lt
    have hgw := hA.rowLt
    clear hA
    obtain ⟨k, hk, rfl, hA, hT, hown⟩ := hrel
    have cV := hA.cV
    have hQl := hA.lt
    by_cases hlt : k < L.length
    · have hlt' : (k : Int) < (L.length : Int) := by omega
      obtain ⟨g, rfl⟩ := hao (by omega)
      obtain ⟨r, hr⟩ : ∃ r, L[k]? = some r := ⟨L[k], by simp [hlt]⟩
      have hrg := halfL_get (p := isAt pod) (f := 5) hr
      obtain ⟨d0, d1, d2, d3, d4, fz⟩ := hA.req (halfL_len _ _ _ _).symm hrg
      have hnum := hI.num k r hr
      have f3 := fz (k * 5 + 3)
      have hgQ := hA.gQ
      have hXl : (turnI (isAt pod) (L.take k)).length ≤ 200 := Nat.le_trans (turnI_le _ _) (by rw [List.length_take]; omega)
      have hsz := hT.size
      have HS : Hid (TuS (isAt pod) 5 L B Q (.slice (some ⟨g, 0, none⟩) L.length cap) w k r u5 wr) := ⟨hlt, hr, hnum, hA, hT, hown, hQw, hgw⟩
      clear hA hT fz hnum hrg hgw
      have HO : Hid (wr.ownsRow w.heap.size 3 1 u5 (turnI (isAt pod) (L.take k)).length (cels iK.c (turnI (isAt pod) (L.take k)))) := hown
      clear hown hr
      generalize hN0 : (turnI (isAt pod) (L.take k)).length = N0 at *
      generalize hC0 : cels iK.c (turnI (isAt pod) (L.take k)) = C0 at *
      have HN0 : Hid ((turnI (isAt pod) (L.take k)).length = N0) := hN0
      have HC0 : Hid (cels iK.c (turnI (isAt pod) (L.take k)) = C0) := hC0
      clear hN0 hC0
      cases h1 : (r.fat == 2)
      · have hp : (isAt pod) r = false := by unfold isAt; rw [h1]; rfl
        go_wp2
        go_roundw
        case rel => exact HS.out.no hp
        case measure => simp [intOf]; omega
      · cases h2 : (r.pod == pod); rotate_left
        · have hp : (isAt pod) r = true := by unfold isAt; rw [h1, h2]; rfl
          have HO2 : Hid ((wr.setCell ⟨g, k * 5 + 3, none⟩ (.int .i64 5)).ownsRow w.heap.size 3 1 u5 N0 C0) := HS.out.store HO.out
          go_wp2_with (at_builtin; refine wpList_append_own _ rfl _ _ 63 rfl w.heap.size 3 i0 (.int .i64 0) 1 8 Try.underlying63 hi hz0 hz1 hz2 rfl (by decide) _ N0 C0 rfl (HO2.out.alloc _) ⟨wr.heap.size, 0, none⟩ 1 1 [.int .i64 ((k : Int) + 1)] rfl rfl (cell_u _ _ _ _ (by simp)) (fun u hu => by simp at hu; rcases hu with rfl; rfl) (by unfold maxLen; omega) (by omega) (by simp; omega) ?_; intro v' w3 hown3 hgrow3 _)
          go_wp2
          go_roundw
          case rel => exact HS.out.yes hp (by rw [HN0.out, HC0.out]; exact hown3) hgrow3
          case measure => simp [intOf]; omega
        · have hp : (isAt pod) r = false := by unfold isAt; rw [h1, h2]; rfl
          go_wp2
          go_roundw
          case rel => exact HS.out.no hp
          case measure => simp [intOf]; omega
    · obtain rfl : k = L.length := by omega
      rw [List.take_length] at hown
      rw [halfL_all] at hA
      obtain ⟨bo, bn, bc, hu⟩ : ∃ bo bn bc, u5 = .slice bo bn bc := by
        rcases hown.2 with ⟨h0, _⟩ | ⟨_, _, _, h0, _⟩ <;> exact ⟨_, _, _, h0⟩
      subst hu
      go_wp2
      go_ret
      exact ⟨_, rfl, hown, hA, hT⟩
theorem hlate_no (Q : Nat) (now : Int) (w : World) (h : ¬ (0 ≤ now ∧ now ≤ 1099511627776)) :
    Calls Try.prog 30 #[.pointer (some ⟨Q, 0, none⟩), .int .i64 now] w fun e w' => e = .returned (.tuple #[.slice none 0 0, .int .i64 1]) ∧ w' = w := by
  have c := fun w => rin_no now 0 1099511627776 w h
  clear h
  go_enter Try.func30, Try.ntmps30
  go_wp2_with (go_at_call 51; (with_reducible refine (c _).mono ?_); rintro e w' ⟨rfl, rfl⟩)
  go_ret2
  exact ⟨rfl, rfl⟩
end Buf
end Go.Proofs.Ytkflelbpiabcpac
