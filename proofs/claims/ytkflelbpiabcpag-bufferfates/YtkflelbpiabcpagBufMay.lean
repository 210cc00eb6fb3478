
/- What each function of package buffer answers: mayRun. -/
import Derived.Test.YtkflelbpiabcpagBufEnd
import Derived.Test.YtkflelbpiabcpagBufMayP
namespace Go.Proofs.Ytkflelbpiabcpag
namespace Buf
open Go.RowKit Rw Rec
set_option maxRecDepth 8000

/-- k of them were looked at: which sources run -/
def M1R (L : List Rq) (w : World) (i : Value) (wr : World) : Prop := ∃ k : Nat, k ≤ L.length ∧ i = .int .i64 k ∧ BarAt wr w.heap.size (bar1 L k) ∧ Below w.heap.size w wr
/-- k of them were looked at: which may run -/
def M2R (L : List Rq) (w : World) (o i : Value) (wr : World) : Prop := ∃ k : Nat, k ≤ L.length ∧ i = .int .i64 k ∧ BarAt wr w.heap.size (bar2 L k) ∧ wr.ownsRow (w.heap.size + 1) 3 1 o (mayL L k).length (cels iK.c (mayL L k)) ∧ Below w.heap.size w wr
theorem bar_new {w W : World} (L : List Rq) (hW : W = w.alloc (.cells #[.bool false, .bool false, .bool false, .bool false, .bool false, .bool false] 106)) : BarAt W w.heap.size (bar1 L 0) := by
  subst hW
  refine ⟨by simp, fun s hs => ?_, fun j => by simp⟩
  have e : bar1 L 0 s = false := by simp [bar1]
  rw [e]
  match s, hs with
  | 0, _ => simp
  | 1, _ => simp
  | 2, _ => simp
  | 3, _ => simp
  | 4, _ => simp
  | 5, _ => simp
theorem set_below {w W : World} {N j : Nat} {u : Value} (h : Below N w W) : Below N w (W.setCell ⟨N, j, none⟩ u) :=
  ⟨h.os, h.tape, h.output, by simpa using h.size, fun k hk => (Below.heap_setCell W ⟨N, j, none⟩ u k (by simp only; omega)).trans (h.block k hk)⟩
/-- one that may run is told -/
theorem M2R.yes {L : List Rq} {w w3 w4 : World} {k s : Nat} {r : Rq} {o o' : Value} {ob : Obj} (hr : L[k]? = some r) (hs : r.src = (s : Int)) (hs6 : s < 6) (hf : r.fat = 1) (hok : runOk L k r = true)
    (hB : BarAt w3 w.heap.size (bar2 L k)) (hb : Below w.heap.size w w3) (ho : ∀ g, o.ownBlock = some g → w.heap.size + 1 ≤ g)
    (hg : ((w3.setCell ⟨w.heap.size, s, none⟩ (.bool true)).alloc ob).grownBy w4 o.ownBlock) (hown : w4.ownsRow (w.heap.size + 1) 3 1 o' ((mayL L k).length + 1) (cels iK.c (mayL L k) ++ [.int .i64 ((k : Int) + 1)])) :
    M2R L w o' (.int .i64 ((k + 1 : Nat) : Int)) w4 := by
  have hk : k < L.length := (List.getElem?_eq_some_iff.1 hr).1
  have e1 : mayL L (k + 1) = mayL L k ++ [(k : Int) + 1] := by rw [mayL_step hr, hok]; rfl
  have hB2 : BarAt (w3.setCell ⟨w.heap.size, s, none⟩ (.bool true)) w.heap.size (bar2 L (k + 1)) := hB.set hs6 (fun t => by rw [bar2_step hr, hs, hf]; simp)
  have hB3 := hB2.below ((Below.refl _ _).alloc (Nat.le_refl _) ob)
  have hb2 := (set_below (j := s) (u := .bool true) hb).alloc (by simpa using hb.size) ob
  refine ⟨k + 1, hk, rfl, hB3.kept (hg.block _ hB3.lt (fun e => by have := ho _ e.symm; omega)), by rw [e1, List.length_append, cels_append]; exact hown, ?_⟩
  exact ⟨hg.os.trans hb2.os, hg.tape.trans hb2.tape, hg.output.trans hb2.output, Nat.le_trans hb2.size hg.size, fun j hj => (hg.block j (Nat.lt_of_lt_of_le hj hb2.size) (fun e => by have := ho _ e.symm; omega)).trans (hb2.block j hj)⟩
theorem M2R.no {L : List Rq} {w w3 : World} {k : Nat} {r : Rq} {o : Value} (hr : L[k]? = some r) (hok : runOk L k r = false) (hf : r.fat = 1 → bar2 L k r.src = true)
    (hB : BarAt w3 w.heap.size (bar2 L k)) (hb : Below w.heap.size w w3) (hown : w3.ownsRow (w.heap.size + 1) 3 1 o (mayL L k).length (cels iK.c (mayL L k))) :
    M2R L w o (.int .i64 ((k + 1 : Nat) : Int)) w3 := by
  have hk : k < L.length := (List.getElem?_eq_some_iff.1 hr).1
  have e1 : mayL L (k + 1) = mayL L k := by rw [mayL_step hr, hok]; simp
  refine ⟨k + 1, hk, rfl, hB.same (fun t => ?_), by rw [e1]; exact hown, hb⟩
  rw [bar2_step hr]
  cases h1 : (r.src == (t : Int) && r.fat == 1) with
  | false => simp
  | true =>
    simp at h1
    rw [Bool.or_true, ← h1.1]
    exact (hf h1.2).symm
set_option maxHeartbeats 8000000 in
theorem may_any (B Q : Nat) (v : Value) (L : List Rq) (w : World) (hA : HAt w B Q v L) (hI : Inv L) :
    Calls Try.prog 60 #[.pointer (some ⟨Q, 0, none⟩)] w fun e w' => ∃ o, e = .returned o ∧ w'.ownsRow w.heap.size 3 1 o (mayL L L.length).length (cels iK.c (mayL L L.length)) ∧ Below w.heap.size w w' := by
  obtain ⟨i0, hi, hz0, hz1, hz2⟩ := info_parts info_int
  have hlen := hI.len
  obtain ⟨ao, cap, rfl, hc1, hc2, hao⟩ := hA.form
  have hR := hA.row
  have hQl := hA.lt
  have cV0 := hA.cV
  obtain ⟨W0, hW0⟩ : ∃ W0, W0 = w.alloc (.cells #[.bool false, .bool false, .bool false, .bool false, .bool false, .bool false] 106) := ⟨_, rfl⟩
  have hB0 := bar_new L hW0
  have hb0 : Below w.heap.size w W0 := by rw [hW0]; exact (Below.refl _ _).alloc (Nat.le_refl _) _
  have cV1 := (hb0.cell (p := ⟨Q, 0, none⟩) hQl).trans cV0
  have HW0 : Hid (W0 = w.alloc (.cells #[.bool false, .bool false, .bool false, .bool false, .bool false, .bool false] 106)) := hW0
  clear hA hW0
  go_enter Try.func60, Try.ntmps60
  go_upto_region 2 with fail
  rw [← HW0.out]
  clear HW0
  go_wp2
  go_loopw [14] (fun i wr => M1R L w i wr) (fun i _ => L.length - (intOf i).toNat)
  case atStart => exact ⟨0, by omega, rfl, hB0, hb0⟩
  case round =>
    obtain ⟨k, hk, rfl, hB, hb⟩ := hrel
    clear hB0 hb0 cV1
    by_cases hlt : k < L.length
    · have hlt' : (k : Int) < (L.length : Int) := by omega
      obtain ⟨g, rfl, hg, hc⟩ := row_req (hR.below hb) (by omega)
      obtain ⟨r, hr⟩ : ∃ r, L[k]? = some r := ⟨L[k], by simp [hlt]⟩
      obtain ⟨c0, c1, c2, c3, c4⟩ := hc k r hr
      have hbd := hI.bd r (List.mem_of_getElem? hr)
      have hnum := hI.num k r hr
      obtain ⟨s, hs⟩ : ∃ s : Nat, r.src = (s : Int) := ⟨r.src.toNat, by have := hbd.1; omega⟩
      have hs6 : s < 6 := by have := hbd.2.1; omega
      have hs6' : (s : Int) < 6 := by omega
      obtain ⟨W, hW⟩ : ∃ W, W = wr.alloc (.cells #[.int .i64 r.id, .int .i64 r.src, .int .i64 r.til, .int .i64 r.fat, .int .i64 r.pod] 90) := ⟨_, rfl⟩
      have bW : Below wr.heap.size wr W := by rw [hW]; exact (Below.refl _ _).alloc (Nat.le_refl _) _
      have hbw : Below w.heap.size w W := hb.trans (bW.mono hb.size)
      have hsW : W.heap.size = wr.heap.size + 1 := by rw [hW]; simp
      have x0 : W.cell? ⟨wr.heap.size, 0, none⟩ = some (.int .i64 r.id) := by rw [hW]; simp
      have x1 : W.cell? ⟨wr.heap.size, 1, none⟩ = some (.int .i64 r.src) := by rw [hW]; simp
      rw [hnum] at x0
      rw [hs] at x1
      have HW : Hid (W = wr.alloc (.cells #[.int .i64 r.id, .int .i64 r.src, .int .i64 r.til, .int .i64 r.fat, .int .i64 r.pod] 90)) := hW
      have HSr : Hid (r.src = (s : Int)) := hs
      have HLr : Hid (L[k]? = some r) := hr
      have hBW := hB.below bW
      have cl := runs_any r W
      simp only [rV, isR] at cl
      clear hc hb hB hW hR cV0 hbd hnum hs hr
      cases hp : (r.fat == 2)
      · have HR : Hid (BarAt W w.heap.size (bar1 L (k + 1))) := hBW.same (fun t => by rw [bar1_step HLr.out, hp]; simp)
        rw [hp] at cl
        go_wp2_with (go_at_call 61; rw [← HW.out]; (with_reducible refine cl.mono ?_); rintro e w3 ⟨rfl, hb3⟩)
        go_roundw
        case rel => exact ⟨k + 1, by omega, rfl, HR.out.below hb3, hbw.trans (hb3.mono hbw.size)⟩
        case measure => simp [intOf]; omega
      · have HR : Hid (∀ w3, BarAt w3 w.heap.size (bar1 L k) → BarAt (w3.setCell ⟨w.heap.size, s, none⟩ (.bool true)) w.heap.size (bar1 L (k + 1))) := fun w3 h => h.set hs6 (fun t => by rw [bar1_step HLr.out, hp, HSr.out]; simp)
        rw [hp] at cl
        go_wp2_with (go_at_call 61; rw [← HW.out]; (with_reducible refine cl.mono ?_); rintro e w3 ⟨rfl, hb3⟩; have hB3 := hBW.below hb3; have y1 := (hb3.cell (p := ⟨wr.heap.size, 1, none⟩) (by rw [hsW]; exact Nat.lt_succ_self _)).trans x1; have z1 := hB3.c s hs6; have f1 := hB3.fz s)
        go_roundw
        case rel => exact ⟨k + 1, by omega, rfl, HR.out _ hB3, set_below (hbw.trans (hb3.mono hbw.size))⟩
        case measure => simp [intOf]; omega
    · obtain rfl : k = L.length := by omega
      have hB2 : BarAt wr w.heap.size (bar2 L 0) := hB.same (fun t => bar_mid L t)
      have cVr := (hb.cell (p := ⟨Q, 0, none⟩) hQl).trans cV0
      clear hB
      go_wp2
      go_loopw [6, 29] (fun o i wr => M2R L w o i wr) (fun _ i _ => L.length - (intOf i).toNat)
      case atStart => exact ⟨0, by omega, rfl, hB2, World.ownsRow_nil _ _ _ _, hb⟩
      case round =>
        clear hB2 hb cVr
        obtain ⟨k, hk, rfl, hB, hown, hb⟩ := hrel
        by_cases hlt : k < L.length
        · have hlt' : (k : Int) < (L.length : Int) := by omega
          obtain ⟨g, rfl, hg, hc⟩ := row_req (hR.below hb) (by omega)
          obtain ⟨r, hr⟩ : ∃ r, L[k]? = some r := ⟨L[k], by simp [hlt]⟩
          obtain ⟨c0, c1, c2, c3, c4⟩ := hc k r hr
          have hbd := hI.bd r (List.mem_of_getElem? hr)
          have hnum := hI.num k r hr
          obtain ⟨s, hs⟩ : ∃ s : Nat, r.src = (s : Int) := ⟨r.src.toNat, by have := hbd.1; omega⟩
          have hs6 : s < 6 := by have := hbd.2.1; omega
          have hs6' : (s : Int) < 6 := by omega
          obtain ⟨W, hW⟩ : ∃ W, W = wr.alloc (.cells #[.int .i64 r.id, .int .i64 r.src, .int .i64 r.til, .int .i64 r.fat, .int .i64 r.pod] 90) := ⟨_, rfl⟩
          have bW : Below wr.heap.size wr W := by rw [hW]; exact (Below.refl _ _).alloc (Nat.le_refl _) _
          have hbw : Below w.heap.size w W := hb.trans (bW.mono hb.size)
          have hsW : W.heap.size = wr.heap.size + 1 := by rw [hW]; simp
          have x0 : W.cell? ⟨wr.heap.size, 0, none⟩ = some (.int .i64 r.id) := by rw [hW]; simp
          have x1 : W.cell? ⟨wr.heap.size, 1, none⟩ = some (.int .i64 r.src) := by rw [hW]; simp
          rw [hnum] at x0
          rw [hs] at x1
          have HW : Hid (W = wr.alloc (.cells #[.int .i64 r.id, .int .i64 r.src, .int .i64 r.til, .int .i64 r.fat, .int .i64 r.pod] 90)) := hW
          have HSr : Hid (r.src = (s : Int)) := hs
          have HLr : Hid (L[k]? = some r) := hr
          have hBW := hB.below bW
          have cl := waits_any r W
          simp only [rV, isW] at cl
          have HOK : Hid (runOk L k r = (r.fat == 1 && !(bar2 L k s))) := by unfold Hid; rw [runOk_bar L k r hbd.1, hs]
          have hownW := owns_block hown (fun g hg => bW.block g (hown.lt g hg).2)
          have hXl : (mayL L k).length ≤ 200 := Nat.le_trans (mayL_le L k) (by omega)
          have hbs := hbw.size
          have hBl := hB.lt
          have hne : ¬ wr.heap.size = w.heap.size := fun e => by omega
          have hne2 : ¬ w.heap.size = wr.heap.size := fun e => by omega
          have HO : Hid (W.ownsRow (w.heap.size + 1) 3 1 u6 (mayL L k).length (cels iK.c (mayL L k))) := hownW
          clear hc hb hB hW hR cV0 hbd hnum hs hr hown hownW
          generalize hN0 : (mayL L k).length = N0 at *
          generalize hC0 : cels iK.c (mayL L k) = C0 at *
          have HN0 : Hid ((mayL L k).length = N0) := hN0
          have HC0 : Hid (cels iK.c (mayL L k) = C0) := hC0
          clear hN0 hC0
          cases hp : (r.fat == 1)
          · rw [hp] at cl
            have HF : Hid (runOk L k r = false) := by unfold Hid; rw [HOK.out, hp]; rfl
            have HG : Hid (r.fat = 1 → bar2 L k r.src = true) := fun h => by rw [h] at hp; simp at hp
            go_wp2_with (go_at_call 56; rw [← HW.out]; (with_reducible refine cl.mono ?_); rintro e w3 ⟨rfl, hb3⟩)
            go_roundw
            case rel => exact M2R.no HLr.out HF.out HG.out (hBW.below hb3) (hbw.trans (hb3.mono hbw.size)) (by rw [HN0.out, HC0.out]; exact owns_block HO.out (fun g hg => hb3.block g (HO.out.lt g hg).2))
            case measure => simp [intOf]; omega
          · rw [hp] at cl
            have HP1 : Hid (r.fat = 1) := by unfold Hid; simpa using hp
            cases hq : bar2 L k s
            · have HF : Hid (runOk L k r = true) := by unfold Hid; rw [HOK.out, hp, hq]; rfl
              go_wp2_with (first
                | (go_at_call 56; rw [← HW.out]; (with_reducible refine cl.mono ?_); rintro e w3 ⟨rfl, hb3⟩; have hB3 := hBW.below hb3; have y1 := (hb3.cell (p := ⟨wr.heap.size, 1, none⟩) (by rw [hsW]; exact Nat.lt_succ_self _)).trans x1; have z1 := hB3.c s hs6; have f1 := hB3.fz s; have y0 := (hb3.cell (p := ⟨wr.heap.size, 0, none⟩) (by rw [hsW]; exact Nat.lt_succ_self _)).trans x0; rw [hq] at z1; have hs3 := hb3.size; have HO3 : Hid (w3.ownsRow (w.heap.size + 1) 3 1 u6 N0 C0) := owns_block HO.out (fun g hg => hb3.block g (HO.out.lt g hg).2); have HO2 : Hid ((w3.setCell ⟨w.heap.size, s, none⟩ (.bool true)).ownsRow (w.heap.size + 1) 3 1 u6 N0 C0) := owns_block HO3.out (fun g hg => Below.heap_setCell w3 _ _ g (fun e => by have h1 := (HO3.out.lt g hg).1; simp only at e; omega)))
                | (at_builtin; refine wpList_append_own _ rfl _ _ 36 rfl (w.heap.size + 1) 3 i0 (.int .i64 0) 1 8 Try.underlying36 hi hz0 hz1 hz2 rfl (by decide) _ N0 C0 rfl (HO2.out.alloc _) ⟨w3.heap.size, 0, none⟩ 1 1 [.int .i64 ((k : Int) + 1)] rfl rfl (cell_u _ _ _ _ (by simp)) (fun u hu => by simp at hu; rcases hu with rfl; rfl) (by unfold maxLen; omega) (by omega) (by simp; omega) ?_; intro v' w4 hown4 hgrow4 _))
              go_roundw
              case rel => exact M2R.yes HLr.out HSr.out hs6 HP1.out HF.out hB3 (hbw.trans (hb3.mono hbw.size)) (fun g hg => (HO3.out.lt g hg).1) hgrow4 (by rw [HN0.out, HC0.out]; exact hown4)
              case measure => simp [intOf]; omega
            · have HF : Hid (runOk L k r = false) := by unfold Hid; rw [HOK.out, hp, hq]; rfl
              have HG : Hid (r.fat = 1 → bar2 L k r.src = true) := fun _ => by rw [HSr.out]; exact hq
              go_wp2_with (go_at_call 56; rw [← HW.out]; (with_reducible refine cl.mono ?_); rintro e w3 ⟨rfl, hb3⟩; have hB3 := hBW.below hb3; have y1 := (hb3.cell (p := ⟨wr.heap.size, 1, none⟩) (by rw [hsW]; exact Nat.lt_succ_self _)).trans x1; have z1 := hB3.c s hs6; have f1 := hB3.fz s; rw [hq] at z1)
              go_roundw
              case rel => exact M2R.no HLr.out HF.out HG.out hB3 (hbw.trans (hb3.mono hbw.size)) (by rw [HN0.out, HC0.out]; exact owns_block HO.out (fun g hg => hb3.block g (HO.out.lt g hg).2))
              case measure => simp [intOf]; omega
        · obtain rfl : k = L.length := by omega
          obtain ⟨bo, bn, bc, hu⟩ : ∃ bo bn bc, u6 = .slice bo bn bc := by
            rcases hown.2 with ⟨h0, _⟩ | ⟨_, _, _, h0, _⟩ <;> exact ⟨_, _, _, h0⟩
          subst hu
          go_wp2
          go_ret
          exact ⟨_, rfl, World.ownsRow.mono hown (Nat.le_succ _), hb⟩
end Buf
end Go.Proofs.Ytkflelbpiabcpag
