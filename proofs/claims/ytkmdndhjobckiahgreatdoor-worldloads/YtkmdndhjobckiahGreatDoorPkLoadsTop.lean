/- What pods do is what runs: WorldLoads. -/
import Derived.Test.YtkmdndhjobckiahGreatDoorPkWldMaps
import Derived.Test.YtkmdndhjobckiahGreatDoorPkWldPlay
import Derived.Test.YtkmdndhjobckiahGreatDoorPkWldHand
import Derived.Maps.RangeWalk
import Derived.BigQuiet
import Derived.Deep.RegionHeld
namespace Go.Proofs.YtkmdndhjobckiahGreatDoor
namespace Wld
open Go.RowKit Go.Maps Plain Pln Frm Lpp Crn Lop
set_option maxRecDepth 8000

theorem row_held {α : Type} {K : Rec.Kd α} {w w' : World} {G : Nat} {L : List α} (h : Rec.RowAt K w (some ⟨G, 0, none⟩) L) (hb : w'.heap[G]? = w.heap[G]?) (hz : w.heap.size ≤ w'.heap.size) : Rec.RowAt K w' (some ⟨G, 0, none⟩) L := by
  intro hl
  obtain ⟨g, e, hg, hc⟩ := h hl
  cases e
  exact ⟨_, rfl, Nat.lt_of_lt_of_le hg hz, fun i m hm j v hv => (World.cell?_of_block (w := w) (a := ⟨G, _, none⟩) hb).trans (hc i m hm j v hv)⟩
theorem k64_self (i : Int) : (Mp.k64 i).sameKey (Mp.k64 i) = true := by simp [Lit.sameKey]
def LwR (w : World) (B D : Nat) (p : Pd) (ts : List Tr) (S : WS) (X : Nat → Nat → Int) (m : Nat) (i : Value) (wr : World) : Prop :=
  ∃ (j : Nat) (c : Pc), j ≤ m ∧ i = .int .i64 j ∧ WAt wr B c p ts (playW p ts X S j) ∧ c.x.D = D ∧ Below w.heap.size w wr
def LqR (w : World) (B b G : Nat) (c : Pc) (p : Pd) (ts : List Tr) (S : WS) (i : Value) (wr : World) : Prop :=
  ∃ k : Nat, k ≤ S.R.length ∧ i = .int .i64 k ∧ M1 wr B c p ts S b k (atK S.R k) ∧ Rec.RowAt Buf.rK wr (some ⟨G, 0, none⟩) S.R ∧ Below w.heap.size w wr
def LpR (w : World) (B b G : Nat) (c : Pc) (p : Pd) (ts : List Tr) (S : WS) (n i : Value) (wr : World) : Prop :=
  ∃ k : Nat, k ≤ S.F.L.length ∧ n = .int .i64 (Flt.sumL (S.F.L.take k)) ∧ i = .int .i64 k ∧ M1 wr B c p ts S b S.R.length (atK S.R S.R.length) ∧ Rec.RowAt Flt.pK wr (some ⟨G, 0, none⟩) S.F.L ∧ Below w.heap.size w wr
def LrR (N b c0 : Nat) (D : DataW Unit) (f : Int → Int) (l : List Int) (w : World) (nv : Value) (wr : World) : Prop :=
  ∃ (left : Lit → Bool) (cnt : Nat), nv = .int .i64 (lsum (fun i => left (Mp.k64 i)) f l) ∧ wr.ranges Tryz.prog 3 (plainElem (H := Unit) Tryz.prog 3) b N c0 D left cnt ∧ Below w.heap.size w wr
theorem strike_one {left : Lit → Bool} {f : Int → Int} {l : List Int} {x : Int} (hx : left (Mp.k64 x) = true) (hn : l.Nodup) : lsum (fun i => left (Mp.k64 i) && !(Mp.k64 i).sameKey (Mp.k64 x)) f l = lsum (fun i => left (Mp.k64 i)) f l - if x ∈ l then f x else 0 := by
  rw [← lsum_strike (left := fun i => left (Mp.k64 i)) (x := x) hx hn]
  refine lsum_congr (fun i _ => ?_)
  by_cases e : i = x
  · subst e; rw [k64_self]; simp
  · rw [sameKey_ne (Mp.k64_ne e)]; simp [e]
section
variable (p : Pd) (ta : Option Addr) (tc : Nat) (ts : List Tr) (parts most sec : Int) (ao : Option Addr) (m cap : Nat) (X : Nat → Nat → Int) (w : World)
set_option maxHeartbeats 4000000 in
theorem ld_no (hB : Lai.BdsAt w) (hi : PdI p) (hl : p.nm.length ≤ 9223372036854775807) (hT : TrsAt w ta ts) (hc : newE p ts parts sec ≠ 0) :
    Calls Tryz.prog 4 #[planV p (.slice ta ts.length tc), .int .i64 parts, .int .i64 most, .int .i64 sec, .slice ao m cap] w fun e w' => e = .returned (.bool true) ∧ Below w.heap.size w w' := by
  obtain ⟨W, hW⟩ : ∃ W, W = w.alloc (.cells (planC p (.slice ta ts.length tc)) 26) := ⟨_, rfl⟩
  have hPl : PlAt W w.heap.size p (.slice ta ts.length tc) := by rw [hW]; exact plan_new _ _ _ _
  have hbW : Below w.heap.size w W := by rw [hW]; exact (Below.refl _ _).alloc (Nat.le_refl _) _
  have hzW : w.heap.size < W.heap.size := by rw [hW]; simp
  have HW : Hid (W = w.alloc (.cells (planC p (.slice ta ts.length tc)) 26)) := hW
  have cW := works_any W (hB.below hbW (Nat.le_refl _))
  have HB : Hid (Below w.heap.size w W) := hbW
  have HN : Hid (∀ w', Below w.heap.size w w' → Calls Tryz.prog 6 #[planV p (.slice ta ts.length tc), .int .i64 parts, .int .i64 most, .int .i64 sec] w' fun e w'' => e = .returned (.tuple #[.pointer none, .int .i64 (newE p ts parts sec)]) ∧ Below w'.heap.size w' w'') := fun w' hb => new_no p ta tc ts parts most sec w' (hB.below hb (Nat.le_refl _)) hi hl (hT.below hb (Nat.le_refl _)) hc
  have dne : (newE p ts parts sec != 0) = true := by rw [bne_iff_ne]; exact hc
  clear hW hbW hB hi hl hT hc
  generalize newE p ts parts sec = E at *
  go_enter Tryz.func4, Tryz.ntmps4
  go_upto_region 1 with fail
  rw [← HW.out]
  clear HW
  go_wp2_with (first
    | (go_at_call 5; (with_reducible refine cW.mono ?_); rintro e w1 ⟨rfl, hb1⟩; clear cW; have hP1 := hPl.on hb1 hzW; have hz1 := Nat.lt_of_lt_of_le hzW hb1.size; have HB1 : Hid (Below w.heap.size w w1) := HB.out.trans (hb1.mono HB.out.size); clear hPl)
    | (with_reducible refine wp_plan hP1 (by with_unfolding_all rfl) ?_)
    | (go_at_call 6; have cN := HN.out w1 HB1.out; (with_reducible refine cN.mono ?_); rintro e w2 ⟨rfl, hb2⟩; clear cN))
  go_ret
  exact ⟨rfl, HB1.out.trans (hb2.mono HB1.out.size)⟩
set_option maxHeartbeats 4000000 in
theorem ld_many (N : Nat) (hB : Lai.BdsAt w) (hi : PdI p) (hl : p.nm.length ≤ 9223372036854775807) (hT : TrsAt w ta ts) (hc : chkP p ts = 0) (hn : 1 ≤ N ∧ N ≤ 20) (hs : -10000000000 ≤ sec ∧ sec ≤ 10000000000) (hm : 60 < m) :
    Calls Tryz.prog 4 #[planV p (.slice ta ts.length tc), .int .i64 (N : Int), .int .i64 most, .int .i64 sec, .slice ao m cap] w fun e w' => e = .returned (.bool true) ∧ Below w.heap.size w w' := by
  obtain ⟨W, hW⟩ : ∃ W, W = w.alloc (.cells (planC p (.slice ta ts.length tc)) 26) := ⟨_, rfl⟩
  have hPl : PlAt W w.heap.size p (.slice ta ts.length tc) := by rw [hW]; exact plan_new _ _ _ _
  have hbW : Below w.heap.size w W := by rw [hW]; exact (Below.refl _ _).alloc (Nat.le_refl _) _
  have hzW : w.heap.size < W.heap.size := by rw [hW]; simp
  have HW : Hid (W = w.alloc (.cells (planC p (.slice ta ts.length tc)) 26)) := hW
  have cW := works_any W (hB.below hbW (Nat.le_refl _))
  have HB : Hid (Below w.heap.size w W) := hbW
  have HN : Hid (∀ w', Below w.heap.size w w' → Calls Tryz.prog 6 #[planV p (.slice ta ts.length tc), .int .i64 (N : Int), .int .i64 most, .int .i64 sec] w' (NewWA p ts N most sec w')) := fun w' hb => new_yes p ta tc ts N most sec w' (hB.below hb (Nat.le_refl _)) hi hl (hT.below hb (Nat.le_refl _)) hc hn hs
  have hm' : (60 : Int) < (m : Int) := by omega
  clear hW hbW hB hi hl hT hc
  go_enter Tryz.func4, Tryz.ntmps4
  go_upto_region 1 with fail
  rw [← HW.out]
  clear HW
  go_wp2_with (first
    | (go_at_call 5; (with_reducible refine cW.mono ?_); rintro e w1 ⟨rfl, hb1⟩; clear cW; have hP1 := hPl.on hb1 hzW; have hz1 := Nat.lt_of_lt_of_le hzW hb1.size; have HB1 : Hid (Below w.heap.size w w1) := HB.out.trans (hb1.mono HB.out.size); clear hPl)
    | (with_reducible refine wp_plan hP1 (by with_unfolding_all rfl) ?_)
    | (go_at_call 6; have cN := HN.out w1 HB1.out; (with_reducible refine cN.mono ?_); rintro e w2 ⟨c, rfl, hA2, hb2⟩; clear cN; have HA2 : Hid (WAt w2 w1.heap.size c (noN p) ts (newW (noN p) ts N most sec)) := hA2; clear hA2; have hP2 := hP1.on hb2 hz1; have HB2 : Hid (Below w.heap.size w w2) := HB1.out.trans (hb2.mono HB1.out.size)))
  go_ret
  exact ⟨rfl, HB2.out⟩
set_option maxHeartbeats 16000000 in
theorem ld_yes (N : Nat) (hB : Lai.BdsAt w) (hi : PdI p) (hl : p.nm.length ≤ 9223372036854775807) (hT : TrsAt w ta ts) (hc : chkP p ts = 0) (hU : ∀ t ∈ ts, TrU t) (hn : 1 ≤ N ∧ N ≤ 20) (hs : -10000000000 ≤ sec ∧ sec ≤ 10000000000) (hm : m ≤ 60) (hH : Frm.RowsIn w ao m 3 X) :
    Calls Tryz.prog 4 #[planV p (.slice ta ts.length tc), .int .i64 (N : Int), .int .i64 most, .int .i64 sec, .slice ao m cap] w fun e w' => e = .returned (.bool true) ∧ Below w.heap.size w w' := by
  obtain ⟨W, hW⟩ : ∃ W, W = w.alloc (.cells (planC p (.slice ta ts.length tc)) 26) := ⟨_, rfl⟩
  have hPl : PlAt W w.heap.size p (.slice ta ts.length tc) := by rw [hW]; exact plan_new _ _ _ _
  have hbW : Below w.heap.size w W := by rw [hW]; exact (Below.refl _ _).alloc (Nat.le_refl _) _
  have hzW : w.heap.size < W.heap.size := by rw [hW]; simp
  have HW : Hid (W = w.alloc (.cells (planC p (.slice ta ts.length tc)) 26)) := hW
  have cW := works_any W (hB.below hbW (Nat.le_refl _))
  have HB : Hid (Below w.heap.size w W) := hbW
  have HN : Hid (∀ w', Below w.heap.size w w' → Calls Tryz.prog 6 #[planV p (.slice ta ts.length tc), .int .i64 (N : Int), .int .i64 most, .int .i64 sec] w' (NewWA p ts N most sec w')) := fun w' hb => new_yes p ta tc ts N most sec w' (hB.below hb (Nat.le_refl _)) hi hl (hT.below hb (Nat.le_refl _)) hc hn hs
  have hm' : ¬ (60 : Int) < (m : Int) := by omega
  have hP := ok_noN (plOk_of hc)
  have hI0 : WI ts (newW (noN p) ts N most sec) 0 0 := WI.new _ _ _ _ _ hn hs
  have hQ0 : PoB (newW (noN p) ts N most sec).R := fun r hr => by simp [newW] at hr
  have hD0 : LdI (newW (noN p) ts N most sec).F (newW (noN p) ts N most sec).R := ⟨fun x hx => by simp [newW] at hx, fun r hr => by simp [newW] at hr⟩
  have HH : Hid (Frm.RowsIn w ao m 3 X) := hH
  clear hW hbW hB hi hl hT hc hH
  go_enter Tryz.func4, Tryz.ntmps4
  go_upto_region 1 with fail
  rw [← HW.out]
  clear HW
  go_wp2_with (first
    | (go_at_call 5; (with_reducible refine cW.mono ?_); rintro e w1 ⟨rfl, hb1⟩; clear cW; have hP1 := hPl.on hb1 hzW; have hz1 := Nat.lt_of_lt_of_le hzW hb1.size; have HB1 : Hid (Below w.heap.size w w1) := HB.out.trans (hb1.mono HB.out.size); clear hPl)
    | (with_reducible refine wp_plan hP1 (by with_unfolding_all rfl) ?_)
    | (go_at_call 6; have cN := HN.out w1 HB1.out; (with_reducible refine cN.mono ?_); rintro e w2 ⟨c, rfl, hA2, hb2⟩; clear cN; have HA2 : Hid (WAt w2 w1.heap.size c (noN p) ts (newW (noN p) ts N most sec)) := hA2; clear hA2; have hP2 := hP1.on hb2 hz1; have HB2 : Hid (Below w.heap.size w w2) := HB1.out.trans (hb2.mono HB1.out.size)))
  have hA2 := HA2.out
  have hb3 : Below w.heap.size w w2 := HB2.out
  have HL1 : Hid (w.heap.size ≤ w1.heap.size) := HB1.out.size
  clear HN HA2 hb1 hb2 hP1 hP2 hz1 HB1 HB2 HB hm' hzW
  generalize newW (noN p) ts N most sec = S0 at *
  generalize hD : c.x.D = D at *
  go_loopw [42] (fun i wr => LwR w w1.heap.size D (noN p) ts S0 X m i wr) (fun i _ => m - (intOf i).toNat)
  case atStart => exact ⟨0, c, by omega, rfl, hA2, hD, hb3⟩
  case round =>
    clear hD hA2 hb3 c
    obtain ⟨j, c1, hj, rfl, hA, hD1, hbr⟩ := hrel
    by_cases hlt : j < m
    · have hlt' : (j : Int) < (m : Int) := by omega
      obtain ⟨g, off, rfl, hgl, hcx⟩ := (Frm.RowsIn.below HH.out hbr (Nat.le_refl _)) j hlt
      have x0 := (hcx 0 (by omega)).1
      have x1 := (hcx 1 (by omega)).1
      have x2 := (hcx 2 (by omega)).1
      simp only [Nat.add_zero] at x0
      rw [← Nat.add_assoc] at x1 x2
      obtain ⟨V, hV⟩ : ∃ V, V = wr.alloc (.cells #[.int .i64 (X j 0), .int .i64 (X j 1), .int .i64 (X j 2)] 34) := ⟨_, rfl⟩
      have hbV : Below wr.heap.size wr V := by rw [hV]; exact (Below.refl _ _).alloc (Nat.le_refl _) _
      have y0 : V.cell? ⟨wr.heap.size, 0, none⟩ = some (.int .i64 (X j 0)) := by rw [hV]; simp
      have y1 : V.cell? ⟨wr.heap.size, 1, none⟩ = some (.int .i64 (X j 1)) := by rw [hV]; simp
      have y2 : V.cell? ⟨wr.heap.size, 2, none⟩ = some (.int .i64 (X j 2)) := by rw [hV]; simp
      have HV : Hid (V = wr.alloc (.cells #[.int .i64 (X j 0), .int .i64 (X j 1), .int .i64 (X j 2)] 34)) := hV
      have HX1 : Hid (WAt V w1.heap.size c1 (noN p) ts (playW (noN p) ts X S0 j) ∧ Below w.heap.size w V) := ⟨hA.below hbV, hbr.trans (hbV.mono hbr.size)⟩
      have hIj := WI.play hP hI0 X j
      have hI1 := WI.play hP hI0 X (j + 1)
      have hQ1 := pods_play hP hI0 hQ0 X (j + 1) (by omega)
      have hD2 := play_loads hP hI0 hD0 X (j + 1)
      have cD := do_any w1.heap.size c1 (noN p) ts (playW (noN p) ts X S0 j) j (1000 * j) (X j 0) (X j 1) (X j 2) V HX1.out.1 hIj (by omega) (by omega) hP hU
      rw [hD1] at cD
      clear hA hbr hbV hV hcx hIj
      go_upto_region 9 with fail
      rw [← HV.out]
      clear HV x0 x1 x2
      generalize wr.heap.size = C at *
      obtain ⟨S1, hS1⟩ : ∃ S1, S1 = playW (noN p) ts X S0 (j + 1) := ⟨_, rfl⟩
      rw [← hS1] at hI1 hQ1 hD2
      have hlR : S1.R.length ≤ 200 := hI1.r.len
      have hlF : S1.F.L.length ≤ 3000000 := by have := hI1.len; omega
      have HS1 : Hid (S1 = playW (noN p) ts X S0 (j + 1)) := hS1
      clear hS1
      have hmm := @run_makeMap Tryz.prog
      go_wp2_with (first
        | (go_at_call 7; (with_reducible refine cD.mono ?_); rintro e w4 ⟨rfl, c4, a4, d4, m4⟩; clear cD; have HX4 : Hid (M1 (w4.alloc (.map #[] 0)) w1.heap.size c4 (noN p) ts S1 w4.heap.size 0 (fun _ => 0) ∧ c4.x.D = D ∧ Below w.heap.size w (w4.alloc (.map #[] 0))) := ⟨M1.new (by rw [HS1.out]; exact a4), d4.trans hD1, (HX1.out.2.trans (m4.below (fun k hk => Nat.le_trans HL1.out (HX1.out.1.low hk).1) HX1.out.2.size)).alloc (Nat.le_trans HX1.out.2.size m4.size) _⟩; clear a4 d4 m4)
        | (go_at_call 14; have cX := requests_any w1.heap.size c4 (noN p) ts S1 (w4.alloc (.map #[] 0)) HX4.out.1.wa hlR; rw [HX4.out.2.1] at cX; (with_reducible refine cX.mono ?_); rintro e w5 ⟨G, rfl, hG, hR5, hb5⟩; clear cX))
      have hM5 := (HX4.out.1.below hb5).same (fun i => atK_zero S1.R i)
      have hb6 : Below w.heap.size w w5 := HX4.out.2.2.trans (hb5.mono HX4.out.2.2.size)
      have hG1 : G ≠ w4.heap.size := by have := HX4.out.1.m1.lt; omega
      have hD5 : c4.x.D = D := HX4.out.2.1
      clear HX1 HX4 hb5 hG hmm
      generalize w4.heap.size = b1 at *
      go_loopw [53] (fun i wr => LqR w w1.heap.size b1 G c4 (noN p) ts S1 i wr) (fun i _ => S1.R.length - (intOf i).toNat)
      case atStart => exact ⟨0, by omega, rfl, hM5, hR5, hb6⟩
      case round =>
        clear hM5 hR5 hb6
        obtain ⟨k, hk, rfl, hMk, hRk, hbk⟩ := hrel
        by_cases hlk : k < S1.R.length
        · have hlk' : (k : Int) < (S1.R.length : Int) := by omega
          obtain ⟨r, hr⟩ : ∃ r, S1.R[k]? = some r := ⟨_, List.getElem?_eq_getElem hlk⟩
          obtain ⟨g5, e5, hg5, hc5⟩ := Buf.row_req hRk (by omega)
          cases e5
          obtain ⟨d0, d1, d2, d3, d4⟩ := hc5 k r hr
          obtain ⟨W1, hW1⟩ : ∃ W1, W1 = wr.alloc (.cells #[.int .i64 r.id, .int .i64 r.src, .int .i64 r.til, .int .i64 r.fat, .int .i64 r.pod] 46) := ⟨_, rfl⟩
          have bW1 : Below wr.heap.size wr W1 := by rw [hW1]; exact (Below.refl _ _).alloc (Nat.le_refl _) _
          have hMW := hMk.below bW1
          have hRW := hRk.below bW1
          have hbW : Below w.heap.size w W1 := hbk.trans (bW1.mono hbk.size)
          have q3 : W1.cell? ⟨wr.heap.size, 3, none⟩ = some (.int .i64 r.fat) := by rw [hW1]; simp
          have q4 : W1.cell? ⟨wr.heap.size, 4, none⟩ = some (.int .i64 r.pod) := by rw [hW1]; simp
          have HW1 : Hid (W1 = wr.alloc (.cells #[.int .i64 r.id, .int .i64 r.src, .int .i64 r.til, .int .i64 r.fat, .int .i64 r.pod] 46)) := hW1
          have HR : Hid (S1.R[k]? = some r) := hr
          have hpb : -9223372036854775808 ≤ r.pod ∧ r.pod ≤ 9223372036854775807 := by have := hQ1 r (List.mem_of_getElem? HR.out); omega
          clear hW1 hc5 hMk hRk bW1 hr
          go_upto_if 59 with fail
          rw [← HW1.out]
          clear HW1 d0 d1 d2 d3 d4 hg5 hbk
          generalize wr.heap.size = C at *
          by_cases hf : r.fat = 2
          · have hbd := atK_bd S1.R k r.pod
            have hlo := hMW.m1.look (i := r.pod) hpb
            obtain ⟨w6, hup, hm6, hg6⟩ := hMW.put (i := r.pod) (x := atK S1.R k r.pod + 1) (by unfold maxLen; omega) hpb (by omega)
            have HE : Hid (LqR w w1.heap.size b1 G c4 (noN p) ts S1 (.int .i64 ((k + 1 : Nat) : Int)) w6) := by
              have hGl : G < W1.heap.size := by
                obtain ⟨g, e2, hg2, _⟩ := hRW (by omega)
                cases e2
                exact hg2
              exact ⟨k + 1, hlk, rfl, hm6.same (atK_run HR.out hf), row_held hRW (hg6.block G hGl (fun e => hG1 (by cases e; rfl))) hg6.size, hbW.grown hg6 hbW.size (fun q hq => by cases hq; have := hMW.l1; have := HL1.out; omega)⟩
            rw [hf] at q3
            clear hm6 hg6 hMW hRW hbW
            generalize atK S1.R k r.pod = v at *
            go_wp2
            go_roundw
            case rel => exact HE.out
            case measure => simp [intOf]; omega
          · have hfb : (r.fat == 2) = false := by rw [beq_eq_false_iff_ne]; exact hf
            have HE : Hid (LqR w w1.heap.size b1 G c4 (noN p) ts S1 (.int .i64 ((k + 1 : Nat) : Int)) W1) := ⟨k + 1, hlk, rfl, (hMW.same (atK_not HR.out hf)).mono (by omega), hRW, hbW⟩
            clear hMW hRW hbW
            go_wp2
            go_roundw
            case rel => exact HE.out
            case measure => simp [intOf]; omega
        · obtain rfl : k = S1.R.length := by omega
          have HM : Hid (M1 wr w1.heap.size c4 (noN p) ts S1 b1 S1.R.length (atK S1.R S1.R.length) ∧ Below w.heap.size w wr) := ⟨hMk, hbk⟩
          clear hMk hRk hbk hG1
          have cP := pods_any w1.heap.size c4 (noN p) ts S1 wr HM.out.1.wa (by omega)
          rw [hD5] at cP
          go_wp2_with (go_at_call 12; (with_reducible refine cP.mono ?_); rintro e w7 ⟨rfl, hR7, hb7⟩; clear cP)
          have hM7 := HM.out.1.below hb7
          have hb8 : Below w.heap.size w w7 := HM.out.2.trans (hb7.mono HM.out.2.size)
          clear HM hb7
          generalize wr.heap.size = G2 at *
          go_loopw [18, 69] (fun n i wr => LpR w w1.heap.size b1 G2 c4 (noN p) ts S1 n i wr) (fun _ i _ => S1.F.L.length - (intOf i).toNat)
          case atStart => exact ⟨0, by omega, by simp [Flt.sumL], rfl, hM7, hR7, hb8⟩
          case round =>
            clear hM7 hR7 hb8
            obtain ⟨q, hq, rfl, rfl, hMq, hRq, hbq⟩ := hrel
            by_cases hlq : q < S1.F.L.length
            · have hlq' : (q : Int) < (S1.F.L.length : Int) := by omega
              obtain ⟨x, hx⟩ : ∃ x, S1.F.L[q]? = some x := ⟨_, List.getElem?_eq_getElem hlq⟩
              obtain ⟨g5, e5, hg5, hc5⟩ := Flt.row_pod hRq (by omega)
              cases e5
              obtain ⟨d0, d1, d2⟩ := hc5 q x hx
              have hok := hI1.f.bd x (List.mem_of_getElem? hx)
              have hst := Flt.sum_step hx
              have hsb := sumL_bd (L := S1.F.L) (fun y hy => by have h1 := hI1.f.bd y hy; have h2 := hI1.f.m; unfold Flt.Okp at h1; omega) q (by omega)
              have hlb : S1.F.last ≤ 3000000 := by have := hI1.fb; omega
              have hxb : (1 ≤ x.id ∧ x.id ≤ 3000000) ∧ 0 ≤ x.ld ∧ x.ld ≤ 100 := by have h2 := hI1.f.m; unfold Flt.Okp at hok; omega
              obtain ⟨W1, hW1⟩ : ∃ W1, W1 = wr.alloc (.cells #[.int .i64 x.id, .int .i64 x.st, .int .i64 x.ld] 41) := ⟨_, rfl⟩
              have bW1 : Below wr.heap.size wr W1 := by rw [hW1]; exact (Below.refl _ _).alloc (Nat.le_refl _) _
              have hlo := (hMq.below bW1).m1.look (i := x.id) (by omega)
              have hea : atK S1.R S1.R.length x.id = x.ld := by rw [atK_all, hD2.a x (List.mem_of_getElem? hx)]
              rw [hea] at hlo
              have q0 : W1.cell? ⟨wr.heap.size, 0, none⟩ = some (.int .i64 x.id) := by rw [hW1]; simp
              have q2 : W1.cell? ⟨wr.heap.size, 2, none⟩ = some (.int .i64 x.ld) := by rw [hW1]; simp
              have HE : Hid (LpR w w1.heap.size b1 G2 c4 (noN p) ts S1 (.int .i64 (Flt.sumL (S1.F.L.take q) + x.ld)) (.int .i64 ((q + 1 : Nat) : Int)) W1) := ⟨q + 1, hlq, by rw [hst], rfl, hMq.below bW1, hRq.below bW1, hbq.trans (bW1.mono hbq.size)⟩
              have HW1 : Hid (W1 = wr.alloc (.cells #[.int .i64 x.id, .int .i64 x.st, .int .i64 x.ld] 41)) := hW1
              clear hW1 hc5 hMq hRq bW1 hbq hx hok hst hea
              go_upto_region 21 with fail
              rw [← HW1.out]
              clear HW1 d0 d1 d2 hg5
              generalize wr.heap.size = C at *
              generalize Flt.sumL (S1.F.L.take q) = sm at *
              have hne : (x.ld != x.ld) = false := by simp
              go_wp2
              go_roundw
              case rel => exact HE.out
              case measure => simp [intOf]; omega
            · obtain rfl : q = S1.F.L.length := by omega
              obtain ⟨wo, rfl⟩ : ∃ wo, wo = wr := ⟨_, rfl⟩
              rw [List.take_length]
              obtain ⟨DM, hDm, hDt, hown⟩ := hMq.m1
              have hz := hown.size_le
              have HA : Hid (WAt wo w1.heap.size c4 (noN p) ts S1 ∧ Below w.heap.size w wo) := ⟨hMq.wa, hbq⟩
              have hnd := ids_nodup hI1.f
              have hin : ∀ x, ¬ x ∈ S1.F.L.map Flt.Pd.id → atK S1.R S1.R.length x = 0 := fun x hx => at_in hD2 hx
              have hbd := atK_bd S1.R S1.R.length
              have hsum := loads_sum hD2
              have hll : (S1.F.L.map Flt.Pd.id).length ≤ 3000000 := by simpa using hlF
              clear hMq hRq hbq
              generalize atK S1.R S1.R.length = f at *
              generalize S1.F.L.map Flt.Pd.id = l at *
              go_wp2_with (first
                | (at_range; refine wpList_range_own _ rfl _ 54 rfl 3 3 Mp.law3 Tryz.underlying54 _ b1 S1.R.length _ rfl hown ?_; intro w0 hrg0 hg0 hs0)
                | go_in)
              go_frame
              go_loopw [18] (fun nv wr2 => LrR wo.heap.size b1 S1.R.length DM f l wo nv wr2) (fun _ wr2 => wr2.rangeLeft b1 wo.heap.size)
              case atStart =>
                refine ⟨_, _, ?_, hrg0, (Below.refl _ _).grown hg0 (Nat.le_refl _) (fun _ h => by cases h)⟩
                rw [← hsum, ← lsum_all (left := fun i => Maps.has DM (Mp.k64 i)) (fun i _ h => ?_)]
                have h1 := atKey_of_not_has h (Mp.d64 0)
                rw [hDt i] at h1
                injection h1 with e; injection e
              case round =>
                clear hrg0 hg0 hs0
                obtain ⟨left, cnt, rfl, hrg, hbw⟩ := hrel
                go_wp2_with (first
                  | (at_next; refine wpList_next_ranges_ii _ rfl _ rfl 3 3 .i64 .i64 Mp.law3 Tryz.underlying3 Tryz.underlying3 b1 wo.heap.size S1.R.length _ _ _ rfl hrg ?_ ?_)
                  | go_in)
                · intro hc0 hl0
                  rw [lsum_none (fun i _ => by simp [hl0])]
                  have HE : Hid (LwR w w1.heap.size D (noN p) ts S0 X m (.int .i64 ((j + 1 : Nat) : Int)) wr) := ⟨j + 1, c4, hlt, rfl, by rw [← HS1.out]; exact HA.out.1.below hbw, hD5, HA.out.2.trans (hbw.mono HA.out.2.size)⟩
                  go_wp2
                  go_roundw
                  case rel => exact HE.out
                  case measure => simp [intOf]; omega
                · intro x tt w8 cnt1 hwx hwt hlx hat hrg1 hltc hg1 hs1 hen
                  have hb1 : Below wo.heap.size wo w8 := hbw.grown hg1 hbw.size (fun j hj => by cases hj; exact Nat.le_refl _)
                  have hst := strike_one (f := f) (l := l) hlx hnd
                  have hft : f x = tt := by
                    have h1 := hat (Mp.d64 0)
                    rw [hDt x] at h1
                    injection h1 with e; injection e
                  have hsx : (if x ∈ l then f x else 0) = tt := by
                    split
                    · exact hft
                    · rename_i e; rw [← hft, hin x e]
                  rw [hsx] at hst
                  have hls := lsum_bd (left := fun i => left (Mp.k64 i)) (f := f) (N := (S1.R.length : Int)) (l := l) (fun i _ => hbd i) (by omega)
                  have hlN : (S1.R.length : Int) * (l.length : Int) ≤ 200 * 3000000 := Int.mul_le_mul (by omega) (by omega) (by omega) (by omega)
                  have htb := hbd x
                  rw [hft] at htb
                  have HG : Hid (LrR wo.heap.size b1 S1.R.length DM f l wo (.int .i64 (lsum (fun i => left (Mp.k64 i)) f l - tt)) w8) := ⟨_, cnt1, by rw [← hst], hrg1, hb1⟩
                  have hme : w8.rangeLeft b1 wo.heap.size < wr.rangeLeft b1 wo.heap.size := by rw [hrg1.left_eq, hrg.left_eq]; exact hltc
                  clear hst hat hlx hsx hft hrg1 hrg hb1 hg1
                  generalize lsum (fun i => left (Mp.k64 i)) f l = sm at *
                  go_wp2
                  go_roundw
                  case rel => exact HG.out
                  case measure => exact hme
    · obtain rfl : j = m := by omega
      go_wp2
      go_ret
      exact ⟨rfl, hbr⟩
end
theorem worldLoads_any (p : Pd) (ta : Option Addr) (tc : Nat) (ts : List Tr) (parts most sec : Int) (ao : Option Addr) (m cap : Nat) (X : Nat → Nat → Int) (w : World) (hB : Lai.BdsAt w) (hi : PdI p) (hl : p.nm.length ≤ 9223372036854775807) (hT : TrsAt w ta ts) (hU : ∀ t ∈ ts, TrU t) (hH : Frm.RowsIn w ao m 3 X) :
    Calls Tryz.prog 4 #[planV p (.slice ta ts.length tc), .int .i64 parts, .int .i64 most, .int .i64 sec, .slice ao m cap] w fun e w' => e = .returned (.bool true) ∧ Below w.heap.size w w' := by
  by_cases hc : newE p ts parts sec = 0
  · obtain ⟨h1, h2, h3⟩ := newE_ok hc
    obtain ⟨N, rfl⟩ : ∃ N : Nat, parts = (N : Int) := ⟨parts.toNat, by omega⟩
    by_cases hm : m ≤ 60
    · exact ld_yes p ta tc ts most sec ao m cap X w N hB hi hl hT h1 hU (by omega) h3 hm hH
    · exact ld_many p ta tc ts most sec ao m cap w N hB hi hl hT h1 (by omega) h3 (by omega)
  · exact ld_no p ta tc ts parts most sec ao m cap w hB hi hl hT hc
end Wld
end Go.Proofs.YtkmdndhjobckiahGreatDoor
