
/- What each function of package buffer answers: end. -/
import Derived.Test.YtkflelbpiabcpagBufWalks
namespace Go.Proofs.Ytkflelbpiabcpag
namespace Buf
open Go.RowKit Rw Rec
set_option maxRecDepth 8000

/-- the state ahead of a request, behind calls that turned nothing of it -/
theorem TuS.at {p : Rq → Bool} {f : Int} {L : List Rq} {B Q : Nat} {v : Value} {w : World} {k : Nat} {r : Rq} {o : Value} {wr W : World} (h : TuS p f L B Q v w k r o wr) (hb : Below wr.heap.size wr W) : TuS p f L B Q v w k r o W :=
  ⟨h.lt, h.hr, h.num, h.hA.below hb, h.hT.trans (Turn.of_below hb), owns_block h.own (fun g hg => hb.block g (h.own.lt g hg).2), h.qw, h.gw⟩
set_option maxHeartbeats 4000000 in
theorem end_late (B Q : Nat) (v : Value) (L : List Rq) (C : Nat) (c f : Int) (w : World) (hA : HAt w B Q v L) (hI : Inv L) (hC : w.cell? ⟨C, 0, none⟩ = some (.int .i64 c)) (hCQ : C ≠ Q) (hCv : v.ownBlock ≠ some C) :
    Calls Try.prog 57 #[.pointer (some ⟨Q, 0, none⟩), .func (.func 55) #[] #[.pointer (some ⟨C, 0, none⟩)], .int .i64 f] w fun e w' => ∃ o, e = .returned o ∧ w'.ownsRow w.heap.size 3 1 o (turnI (isLate c) L).length (cels iK.c (turnI (isLate c) L)) ∧ HAt w' B Q v (turnL (isLate c) f L) ∧ Turn Q v v w w' := by
  obtain ⟨i0, hi, hz0, hz1, hz2⟩ := info_parts info_int
  have hlen := hI.len
  obtain ⟨ao, cap, rfl, hc1, hc2, hao⟩ := hA.form
  have cV0 := hA.cV
  go_enter Try.func57, Try.ntmps57
  go_wp2
  go_loopw [7, 15] (fun o i wr => TuR (isLate c) f L B Q (.slice ao L.length cap) w o i wr) (fun _ i _ => L.length - (intOf i).toNat)
  case atStart => exact ⟨0, by omega, rfl, by rw [halfL_zero]; exact hA, Turn.refl _ _ _, World.ownsRow_nil _ _ _ _⟩
  case round =>
    have hQw := hA.lt
    have hgw := hA.rowLt
    clear hA cV0
    obtain ⟨k, hk, rfl, hA, hT, hown⟩ := hrel
    have hQl := hA.lt
    by_cases hlt : k < L.length
    · have hlt' : (k : Int) < (L.length : Int) := by omega
      obtain ⟨g, rfl⟩ := hao (by omega)
      obtain ⟨r, hr⟩ : ∃ r, L[k]? = some r := ⟨L[k], by simp [hlt]⟩
      have hrg := halfL_get (p := isLate c) (f := f) hr
      obtain ⟨d0, d1, d2, d3, d4, _⟩ := hA.req (halfL_len _ _ _ _).symm hrg
      have hnum := hI.num k r hr
      have hgQ := hA.gQ
      have hXl : (turnI (isLate c) (L.take k)).length ≤ 200 := Nat.le_trans (turnI_le _ _) (by rw [List.length_take]; omega)
      have hsz := hT.size
      have hCr := hT.cell hC hCQ hCv
      have hCl := World.block_lt_of_cell? wr _ hCr
      simp only at hCl
      obtain ⟨W, hW⟩ : ∃ W, W = wr.alloc (.cells #[.int .i64 r.id, .int .i64 r.src, .int .i64 r.til, .int .i64 r.fat, .int .i64 r.pod] 90) := ⟨_, rfl⟩
      have hbw : Below wr.heap.size wr W := by rw [hW]; exact (Below.refl _ _).alloc (Nat.le_refl _) _
      have hsW : W.heap.size = wr.heap.size + 1 := by rw [hW]; simp
      have x0 : W.cell? ⟨wr.heap.size, 0, none⟩ = some (.int .i64 r.id) := by rw [hW]; simp
      rw [hnum] at x0
      have hC2 := (hbw.cell (p := ⟨C, 0, none⟩) hCl).trans hCr
      have cl := late1_any r C c W hC2
      simp only [rV] at cl
      have HW : Hid (W = wr.alloc (.cells #[.int .i64 r.id, .int .i64 r.src, .int .i64 r.til, .int .i64 r.fat, .int .i64 r.pod] 90)) := hW
      have HS : Hid (TuS (isLate c) f L B Q (.slice (some ⟨g, 0, none⟩) L.length cap) w k r u7 W) := TuS.at ⟨hlt, hr, hnum, hA, hT, hown, hQw, hgw⟩ hbw
      have HN : Hid (r.id = (k : Int) + 1) := hnum
      clear hA hT hnum hrg hgw hown hr hW hbw hCr hCl hC hCQ hCv hC2
      generalize hN0 : (turnI (isLate c) (L.take k)).length = N0 at *
      generalize hC0 : cels iK.c (turnI (isLate c) (L.take k)) = C0 at *
      have HN0 : Hid ((turnI (isLate c) (L.take k)).length = N0) := hN0
      have HC0 : Hid (cels iK.c (turnI (isLate c) (L.take k)) = C0) := hC0
      clear hN0 hC0
      cases hp : isLate c r
      · rw [hp] at cl
        go_wp2_with (go_at_call 55; rw [← HW.out]; (with_reducible refine cl.mono ?_); rintro e w3 ⟨rfl, hb3⟩)
        go_roundw
        case rel => exact (HS.out.at hb3).no hp
        case measure => simp [intOf]; omega
      · rw [hp] at cl
        go_wp2_with (first
          | (go_at_call 55; rw [← HW.out]; (with_reducible refine cl.mono ?_); rintro e w3 ⟨rfl, hb3⟩; have HS3 : Hid (TuS (isLate c) f L B Q (.slice (some ⟨g, 0, none⟩) L.length cap) w k r u7 w3) := HS.out.at hb3; have cV3 := HS3.out.hA.cV; have y0 := (hb3.cell (p := ⟨wr.heap.size, 0, none⟩) (by rw [hsW]; exact Nat.lt_succ_self _)).trans x0; obtain ⟨_, _, _, y3, _, fz3⟩ := HS3.out.hA.req (halfL_len _ _ _ _).symm (halfL_get HS3.out.hr); have f3 := fz3 (k * 5 + 3); have hs3 := hb3.size; have hng : ¬ g = wr.heap.size := (fun e => by have h1 := HS.out.gw g rfl; omega); have hng2 : ¬ wr.heap.size = g := (fun e => hng e.symm); clear fz3; have HO2 : Hid ((w3.setCell ⟨g, k * 5 + 3, none⟩ (.int .i64 f)).ownsRow w.heap.size 3 1 u7 N0 C0) := HS3.out.store (by have h1 := HS3.out.own; rw [HN0.out, HC0.out] at h1; exact h1))
          | (at_builtin; refine wpList_append_own _ rfl _ _ 36 rfl w.heap.size 3 i0 (.int .i64 0) 1 8 Try.underlying36 hi hz0 hz1 hz2 rfl (by decide) _ N0 C0 rfl (HO2.out.alloc _) ⟨w3.heap.size, 0, none⟩ 1 1 [.int .i64 ((k : Int) + 1)] rfl rfl (cell_u _ _ _ _ (by simp)) (fun u hu => by simp at hu; rcases hu with rfl; rfl) (by unfold maxLen; omega) (by omega) (by simp; omega) ?_; intro v' w4 hown4 hgrow4 _))
        go_roundw
        case rel => exact HS3.out.yes hp (by rw [HN0.out, HC0.out]; exact hown4) hgrow4
        case measure => simp [intOf]; omega
    · obtain rfl : k = L.length := by omega
      rw [List.take_length] at hown
      rw [halfL_all] at hA
      obtain ⟨bo, bn, bc, hu⟩ : ∃ bo bn bc, u7 = .slice bo bn bc := by
        rcases hown.2 with ⟨h0, _⟩ | ⟨_, _, _, h0, _⟩ <;> exact ⟨_, _, _, h0⟩
      subst hu
      go_wp2
      go_ret
      exact ⟨_, rfl, hown, hA, hT⟩
set_option maxHeartbeats 4000000 in
theorem end_lost (B Q : Nat) (v : Value) (L : List Rq) (C : Nat) (c f : Int) (w : World) (hA : HAt w B Q v L) (hI : Inv L) (hC : w.cell? ⟨C, 0, none⟩ = some (.int .i64 c)) (hCQ : C ≠ Q) (hCv : v.ownBlock ≠ some C) :
    Calls Try.prog 57 #[.pointer (some ⟨Q, 0, none⟩), .func (.func 62) #[] #[.pointer (some ⟨C, 0, none⟩)], .int .i64 f] w fun e w' => ∃ o, e = .returned o ∧ w'.ownsRow w.heap.size 3 1 o (turnI (isAt c) L).length (cels iK.c (turnI (isAt c) L)) ∧ HAt w' B Q v (turnL (isAt c) f L) ∧ Turn Q v v w w' := by
  obtain ⟨i0, hi, hz0, hz1, hz2⟩ := info_parts info_int
  have hlen := hI.len
  obtain ⟨ao, cap, rfl, hc1, hc2, hao⟩ := hA.form
  have cV0 := hA.cV
  go_enter Try.func57, Try.ntmps57
  go_wp2
  go_loopw [7, 15] (fun o i wr => TuR (isAt c) f L B Q (.slice ao L.length cap) w o i wr) (fun _ i _ => L.length - (intOf i).toNat)
  case atStart => exact ⟨0, by omega, rfl, by rw [halfL_zero]; exact hA, Turn.refl _ _ _, World.ownsRow_nil _ _ _ _⟩
  case round =>
    have hQw := hA.lt
    have hgw := hA.rowLt
    clear hA cV0
    obtain ⟨k, hk, rfl, hA, hT, hown⟩ := hrel
    have hQl := hA.lt
    by_cases hlt : k < L.length
    · have hlt' : (k : Int) < (L.length : Int) := by omega
      obtain ⟨g, rfl⟩ := hao (by omega)
      obtain ⟨r, hr⟩ : ∃ r, L[k]? = some r := ⟨L[k], by simp [hlt]⟩
      have hrg := halfL_get (p := isAt c) (f := f) hr
      obtain ⟨d0, d1, d2, d3, d4, _⟩ := hA.req (halfL_len _ _ _ _).symm hrg
      have hnum := hI.num k r hr
      have hgQ := hA.gQ
      have hXl : (turnI (isAt c) (L.take k)).length ≤ 200 := Nat.le_trans (turnI_le _ _) (by rw [List.length_take]; omega)
      have hsz := hT.size
      have hCr := hT.cell hC hCQ hCv
      have hCl := World.block_lt_of_cell? wr _ hCr
      simp only at hCl
      obtain ⟨W, hW⟩ : ∃ W, W = wr.alloc (.cells #[.int .i64 r.id, .int .i64 r.src, .int .i64 r.til, .int .i64 r.fat, .int .i64 r.pod] 90) := ⟨_, rfl⟩
      have hbw : Below wr.heap.size wr W := by rw [hW]; exact (Below.refl _ _).alloc (Nat.le_refl _) _
      have hsW : W.heap.size = wr.heap.size + 1 := by rw [hW]; simp
      have x0 : W.cell? ⟨wr.heap.size, 0, none⟩ = some (.int .i64 r.id) := by rw [hW]; simp
      rw [hnum] at x0
      have hC2 := (hbw.cell (p := ⟨C, 0, none⟩) hCl).trans hCr
      have cl := lost1_any r C c W hC2
      simp only [rV] at cl
      have HW : Hid (W = wr.alloc (.cells #[.int .i64 r.id, .int .i64 r.src, .int .i64 r.til, .int .i64 r.fat, .int .i64 r.pod] 90)) := hW
      have HS : Hid (TuS (isAt c) f L B Q (.slice (some ⟨g, 0, none⟩) L.length cap) w k r u7 W) := TuS.at ⟨hlt, hr, hnum, hA, hT, hown, hQw, hgw⟩ hbw
      have HN : Hid (r.id = (k : Int) + 1) := hnum
      clear hA hT hnum hrg hgw hown hr hW hbw hCr hCl hC hCQ hCv hC2
      generalize hN0 : (turnI (isAt c) (L.take k)).length = N0 at *
      generalize hC0 : cels iK.c (turnI (isAt c) (L.take k)) = C0 at *
      have HN0 : Hid ((turnI (isAt c) (L.take k)).length = N0) := hN0
      have HC0 : Hid (cels iK.c (turnI (isAt c) (L.take k)) = C0) := hC0
      clear hN0 hC0
      cases hp : isAt c r
      · rw [hp] at cl
        go_wp2_with (go_at_call 62; rw [← HW.out]; (with_reducible refine cl.mono ?_); rintro e w3 ⟨rfl, hb3⟩)
        go_roundw
        case rel => exact (HS.out.at hb3).no hp
        case measure => simp [intOf]; omega
      · rw [hp] at cl
        go_wp2_with (first
          | (go_at_call 62; rw [← HW.out]; (with_reducible refine cl.mono ?_); rintro e w3 ⟨rfl, hb3⟩; have HS3 : Hid (TuS (isAt c) f L B Q (.slice (some ⟨g, 0, none⟩) L.length cap) w k r u7 w3) := HS.out.at hb3; have cV3 := HS3.out.hA.cV; have y0 := (hb3.cell (p := ⟨wr.heap.size, 0, none⟩) (by rw [hsW]; exact Nat.lt_succ_self _)).trans x0; obtain ⟨_, _, _, y3, _, fz3⟩ := HS3.out.hA.req (halfL_len _ _ _ _).symm (halfL_get HS3.out.hr); have f3 := fz3 (k * 5 + 3); have hs3 := hb3.size; have hng : ¬ g = wr.heap.size := (fun e => by have h1 := HS.out.gw g rfl; omega); have hng2 : ¬ wr.heap.size = g := (fun e => hng e.symm); clear fz3; have HO2 : Hid ((w3.setCell ⟨g, k * 5 + 3, none⟩ (.int .i64 f)).ownsRow w.heap.size 3 1 u7 N0 C0) := HS3.out.store (by have h1 := HS3.out.own; rw [HN0.out, HC0.out] at h1; exact h1))
          | (at_builtin; refine wpList_append_own _ rfl _ _ 36 rfl w.heap.size 3 i0 (.int .i64 0) 1 8 Try.underlying36 hi hz0 hz1 hz2 rfl (by decide) _ N0 C0 rfl (HO2.out.alloc _) ⟨w3.heap.size, 0, none⟩ 1 1 [.int .i64 ((k : Int) + 1)] rfl rfl (cell_u _ _ _ _ (by simp)) (fun u hu => by simp at hu; rcases hu with rfl; rfl) (by unfold maxLen; omega) (by omega) (by simp; omega) ?_; intro v' w4 hown4 hgrow4 _))
        go_roundw
        case rel => exact HS3.out.yes hp (by rw [HN0.out, HC0.out]; exact hown4) hgrow4
        case measure => simp [intOf]; omega
    · obtain rfl : k = L.length := by omega
      rw [List.take_length] at hown
      rw [halfL_all] at hA
      obtain ⟨bo, bn, bc, hu⟩ : ∃ bo bn bc, u7 = .slice bo bn bc := by
        rcases hown.2 with ⟨h0, _⟩ | ⟨_, _, _, h0, _⟩ <;> exact ⟨_, _, _, h0⟩
      subst hu
      go_wp2
      go_ret
      exact ⟨_, rfl, hown, hA, hT⟩
end Buf
end Go.Proofs.Ytkflelbpiabcpag
