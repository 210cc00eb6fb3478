/- A plan that is handed in isn't kept; what is answered shares nothing with what is kept. -/
import Derived.Test.YtohbnchfjphaeaaGreatDoorPsAr
import Derived.Test.YtohbnchfjphaeaaGreatDoorPsWldIn
import Derived.Test.YtohbnchfjphaeaaGreatDoorPsWldPlay
import Derived.Test.YtohbnchfjphaeaaGreatDoorPsWldHand
import Derived.Test.YtohbnchfjphaeaaGreatDoorPsSamePlan
import Derived.Test.YtohbnchfjphaeaaGreatDoorPsTak
import Derived.Test.YtohbnchfjphaeaaGreatDoorPsFrame
import Derived.Deep.DeepCutAuto
import Derived.Deep.RegionHeld
namespace Go.Proofs.YtohbnchfjphaeaaGreatDoor
namespace Wld
open Go.RowKit Plain Pln Frm Lpp Crn Lop
set_option maxRecDepth 8000

theorem bdrewQ (w : World) (q : Nat) : Below w.heap.size w (w.drewN q) := Top.below_drewN (Below.refl _ _) q
theorem Nr.same {Sa Sb : WS} (h : Nr Sa Sb) : Sa.tg = Sb.tg ∧ Sa.F = Sb.F ∧ Sa.R = Sb.R ∧ Sa.n = Sb.n ∧ Sa.E = Sb.E ∧ Sa.O = Sb.O ∧ Que.backL Sa.now Sa.qL = Que.backL Sb.now Sb.qL := by
  rcases h with rfl | ⟨t, ht, rfl⟩
  · exact ⟨rfl, rfl, rfl, rfl, rfl, rfl, rfl⟩
  · exact ⟨rfl, rfl, rfl, rfl, rfl, rfl, back_back _ ht⟩
theorem WI.msgs {ts : List Tr} {S : WS} {h k : Nat} (g : WI ts S h k) : WI ts { S with qL := Que.backL S.now S.qL } h k := ⟨g.nw, g.sc, g.fl, g.lp, g.la, g.pa, g.n, g.tb, g.q.back _, g.qb, g.f, g.fb, g.cn, g.r⟩
theorem row_lags {w : World} {G n : Nat} {X : Nat → Int} (h : Top.Row1 w G n X) : Rec.RowAt Buf.iK w (some ⟨G, 0, none⟩) ((List.range n).map X) := by
  intro _
  refine ⟨G, rfl, h.1, fun i m hm j u hu => ?_⟩
  have hj : j = 0 := by
    rcases j with _ | j
    · rfl
    · simp [Buf.iK] at hu
  subst hj
  simp [Buf.iK] at hu
  subst hu
  rw [List.getElem?_map] at hm
  have hi : i < n := by
    by_cases hi : i < n
    · exact hi
    · rw [List.getElem?_eq_none (by simp; omega)] at hm; simp at hm
  rw [List.getElem?_range hi] at hm
  simp at hm
  subst hm
  rw [show i * Buf.iK.s + 0 = i by simp [Buf.iK]]
  exact h.2.1 i hi
theorem equal_lags (G H n : Nat) (X : Nat → Int) (w : World) (h1 : Top.Row1 w G n X) (h2 : Top.Row1 w H n X) (hn : n ≤ 20) :
    Calls Tryz.prog 20 #[.slice (some ⟨G, 0, none⟩) n n, .slice (some ⟨H, 0, none⟩) n n] w fun e w' => e = .returned (.bool true) ∧ ∃ q, w' = w.drewN q := by
  have := Buf.equal_int _ _ ((List.range n).map X) n n w (row_lags h1) (row_lags h2) (by simp; omega)
  simpa using this
theorem row1_below {w w' : World} {G n : Nat} {X : Nat → Int} (h : Top.Row1 w G n X) (hb : Below w.heap.size w w') : Top.Row1 w' G n X := ⟨Nat.lt_of_lt_of_le h.1 hb.size, fun i hi => (hb.cell (p := ⟨G, i, none⟩) h.1).trans (h.2.1 i hi), fun j => (hb.frozen (p := ⟨G, j, none⟩) h.1).trans (h.2.2 j)⟩
/-- two worlds side by side, the one's answers written over -/
structure OwS (w : World) (B1 B2 D1 D2 : Nat) (p : Pd) (ts : List Tr) (j : Nat) (c1 c2 : Pc) (Sa Sb : WS) (wr : World) : Prop where
  w2 : W2 wr B1 B2 c1 c2 p ts Sa Sb
  d1 : c1.x.D = D1
  d2 : c2.x.D = D2
  ia : WI ts Sa j (1000 * j)
  ib : WI ts Sb j (1000 * j)
  nr : Nr Sa Sb
  be : Below w.heap.size w wr
  ba : Lai.BdsAt w
  le : w.heap.size ≤ B1
section
variable {w wr wr' w6 w7 : World} {B1 B2 D1 D2 G j : Nat} {p : Pd} {ts : List Tr} {c1 c2 : Pc} {Sa Sb : WS}
theorem OwS.below (h : OwS w B1 B2 D1 D2 p ts j c1 c2 Sa Sb wr) (g : Below wr.heap.size wr wr') : OwS w B1 B2 D1 D2 p ts j c1 c2 Sa Sb wr' := ⟨h.w2.below g, h.d1, h.d2, h.ia, h.ib, h.nr, h.be.trans (g.mono h.be.size), h.ba, h.le⟩
theorem OwS.only (h : OwS w B1 B2 D1 D2 p ts j c1 c2 Sa Sb wr) (o : OnlyQ G wr wr') (h1 : ¬ bk c1 ts G) (h2 : ¬ bk c2 ts G) (hG : w.heap.size ≤ G) : OwS w B1 B2 D1 D2 p ts j c1 c2 Sa Sb wr' :=
  have hb := h.be.trans (o.below hG h.be.size)
  ⟨h.w2.only o h1 h2 ⟨w, h.ba, h.le, hb⟩, h.d1, h.d2, h.ia, h.ib, h.nr, hb, h.ba, h.le⟩
theorem OwS.spoilt (h : OwS w B1 B2 D1 D2 p ts j c1 c2 Sa Sb wr) (g : Below wr.heap.size wr w6) (o : OnlyQ G w6 w7) (hG : wr.heap.size ≤ G) : OwS w B1 B2 D1 D2 p ts j c1 c2 Sa Sb w7 :=
  (h.below g).only o (fun e => absurd (h.w2.a.low e).2 (Nat.not_lt.2 hG)) (fun e => absurd (h.w2.b.low e).2 (Nat.not_lt.2 hG)) (Nat.le_trans h.be.size hG)
/-- something happens to both -/
theorem OwS.did (h : OwS w B1 B2 D1 D2 p ts j c1 c2 Sa Sb wr) (hP : PlOk p ts) (x a n : Int) {c3 c4 : Pc} (h2 : W2 wr' B1 B2 c3 c4 p ts (doW p ts Sa x a n) (doW p ts Sb x a n)) (d3 : c3.x.D = D1) (d4 : c4.x.D = D2) (hb : Below w.heap.size w wr') : OwS w B1 B2 D1 D2 p ts (j + 1) c3 c4 (doW p ts Sa x a n) (doW p ts Sb x a n) wr' :=
  ⟨h2, d3, d4, h.ia.do hP x a n, h.ib.do hP x a n, (h.nr.do x a n).2, hb, h.ba, h.le⟩
/-- the one's messages were asked for, and written over -/
theorem OwS.asked (h : OwS w B1 B2 D1 D2 p ts j c1 c2 Sa Sb wr) {c3 : Pc} (ha : WAt w6 B1 c3 p ts { Sa with qL := Que.backL Sa.now Sa.qL }) (d3 : c3.x.D = c1.x.D) (m : Mm.Mv (bk c1 ts) (bk c3 ts) wr w6) (hn : ¬ bk c3 ts G) (hG : wr.heap.size ≤ G) (o : OnlyQ G w6 w7) :
    ∃ c4, OwS w B1 B2 D1 D2 p ts j c4 c2 { Sa with qL := Que.backL Sa.now Sa.qL } Sb w7 := by
  have hb6 : W2 w6 B1 B2 c3 c2 p ts { Sa with qL := Que.backL Sa.now Sa.qL } Sb := by
    refine ⟨ha, h.w2.b.kept (fun k hk => m.block k (h.w2.b.low hk).2 (fun e => h.w2.ap k e hk)) m.size (ha.ba.up h.w2.le), fun k hk hq => ?_, h.w2.le⟩
    rcases m.loc k hk with x | x
    · exact h.w2.ap k x hq
    · have := (h.w2.b.low hq).2; omega
  have hbe : Below w.heap.size w w6 := h.be.trans (m.below (fun k hk => Nat.le_trans h.le (h.w2.a.low hk).1) h.be.size)
  have h6 : OwS w B1 B2 D1 D2 p ts j c3 c2 { Sa with qL := Que.backL Sa.now Sa.qL } Sb w6 := ⟨hb6, d3.trans h.d1, h.d2, h.ia.msgs, h.ib, h.nr.msgs, hbe, h.ba, h.le⟩
  exact ⟨c3, h6.only o hn (fun e => absurd (h.w2.b.low e).2 (Nat.not_lt.2 hG)) (Nat.le_trans h.be.size hG)⟩
end
def OwR (w : World) (B1 B2 D1 D2 : Nat) (p : Pd) (ts : List Tr) (m : Nat) (i : Value) (wr : World) : Prop :=
  ∃ (j : Nat) (c1 c2 : Pc) (Sa Sb : WS), j ≤ m ∧ i = .int .i64 j ∧ OwS w B1 B2 D1 D2 p ts j c1 c2 Sa Sb wr
section
variable (p : Pd) (ta : Option Addr) (tc : Nat) (ts : List Tr) (ao : Option Addr) (m cap : Nat) (X : Nat → Nat → Int) (w : World)
set_option maxHeartbeats 32000000 in
theorem worldOwn_any (hB : Lai.BdsAt w) (hi : PdI p) (hl : p.nm.length ≤ 9223372036854775807) (hT : TrsAt w ta ts) (hU : ∀ t ∈ ts, TrU t) (hsz : ts.length * 120 ≤ 140737488355328) (hH : Frm.RowsIn w ao m 3 X) :
    Calls Tryz.prog 3 #[planV p (.slice ta ts.length tc), .slice ao m cap] w fun e w' => e = .returned (.bool true) ∧ Below w.heap.size w w' := by
  obtain ⟨W, hW⟩ : ∃ W, W = w.alloc (.cells (planC p (.slice ta ts.length tc)) 26) := ⟨_, rfl⟩
  have hPl : PlAt W w.heap.size p (.slice ta ts.length tc) := by rw [hW]; exact plan_new _ _ _ _
  have hbW : Below w.heap.size w W := by rw [hW]; exact (Below.refl _ _).alloc (Nat.le_refl _) _
  have hzW : w.heap.size < W.heap.size := by rw [hW]; simp
  have HW : Hid (W = w.alloc (.cells (planC p (.slice ta ts.length tc)) 26)) := hW
  have cW := works_any W (hB.below hbW (Nat.le_refl _))
  have HB : Hid (Below w.heap.size w W) := hbW
  have HH : Hid (Frm.RowsIn w ao m 3 X) := hH
  have HT : Hid (Lai.BdsAt w ∧ TrsAt w ta ts) := ⟨hB, hT⟩
  have hwl : IntKind.i64.wrap ((ts.length : Int) + 2) = (ts.length : Int) + 2 := by rw [IntKind.wrap_i64]; omega
  have hmk := fun X => run_mk X ts.length hsz
  clear hW hbW hB hT hH
  go_enter Tryz.func3, Tryz.ntmps3
  go_upto_region 1 with fail
  rw [← HW.out]
  clear HW
  go_upto_region 4 with (first
    | (go_at_call 4; (with_reducible refine cW.mono ?_); rintro e w1 ⟨rfl, hb1⟩; clear cW; have hP1 := hPl.on hb1 hzW; have hz1 := Nat.lt_of_lt_of_le hzW hb1.size; have HB1 : Hid (Below w.heap.size w w1) := HB.out.trans (hb1.mono HB.out.size); clear hPl)
    | (with_reducible refine wp_plan hP1 (by with_unfolding_all rfl) ?_)
    | (with_reducible refine wp_newPx (p' := p) (v' := .slice ta ts.length tc) rfl (by with_unfolding_all rfl) (by with_unfolding_all rfl) ?_; intro w2 hX2 hb2))
  have hP2 := hP1.on hb2 hz1
  have hbd : Below w2.heap.size w2 w2.drew := (Below.refl _ _).drew
  have HS : Hid (∀ X, Below w2.heap.size w2 X → X.cell? ⟨w.heap.size, 17, none⟩ = some (.slice ta ts.length tc)) := fun X h => (h.cell (p := ⟨w.heap.size, 17, none⟩) (Nat.lt_of_lt_of_le hz1 hb2.size)).trans hP2.c17
  have hT2 : TrsAt w2 ta ts := (HT.out.2.below HB1.out (Nat.le_refl _)).below hb2 (Nat.le_refl _)
  have HB2 : Hid (Below w1.heap.size w1 w2) := hb2
  have HP1 : Hid (PlAt w1 w.heap.size p (.slice ta ts.length tc)) := hP1
  have hle : (ts.length : Int) ≤ (ts.length : Int) + 2 := by omega
  clear hP1 hP2 hb2
  (try simp only [Act.put])
  go_cut [] (fun wx => InR w1 w1.heap.size p ts wx)
  case first =>
    refine Tk.st 17 [false, false, false, false, false, false, false, false, false, false, false, false, false, false, false, false, false] (S := fun w' => w'.cell? ⟨w.heap.size, 17, none⟩ = some (.slice ta ts.length tc)) (by kernel_rfl) (by kernel_rfl) (HS.out _ hbd) (fun hHeld => ?_)
    generalize w2.drew = Y at *
    iterate 4
      refine Tk.tk (v := ?_) rfl (by kernel_rfl) (fun _ _ _ h => h) (Or.inl ⟨by rfl, ?_⟩) (by assumption) ?_
      rotate_left
      · intro w' hSw
        (try dsimp only at hSw)
        (try simp only [Tk.nx, ag])
        go_simp
        all_goals with_reducible rfl
      (try simp only [Tk.nx, Act.put, ar, ag])
    refine wpAnyH_take (i := 5) (oi := _) (v := ?_) rfl (by kernel_rfl) (by kernel_rfl) (by kernel_rfl) (fun _ _ _ h => h) (Or.inl ⟨by rfl, ?_⟩) (by assumption) ?_
    rotate_left
    · intro w' hSw
      (try dsimp only at hSw)
      go_simp
      all_goals with_reducible rfl
    (try simp only [Act.put, ar, ag])
    refine wpAnyH_take (i := 6) (oi := _) (v := ?_) rfl (by kernel_rfl) (by kernel_rfl) (by kernel_rfl) (fun _ _ _ h => h) (Or.inl ⟨by rfl, ?_⟩) (by assumption) ?_
    rotate_left
    · intro w' hSw
      (try dsimp only at hSw)
      go_simp
      all_goals with_reducible rfl
    (try simp only [Act.put, ar, ag])
    refine wpAnyH_take (i := 8) (oi := _) (v := ?_) rfl (by kernel_rfl) (by kernel_rfl) (by kernel_rfl) (fun _ _ _ h => h) (Or.inl ⟨by rfl, ?_⟩) (by assumption) ?_
    rotate_left
    · intro w' hSw
      (try dsimp only at hSw)
      go_simp
      all_goals with_reducible rfl
    (try simp only [Act.put, ar, ag])
    refine wpAnyH_take (i := 11) (oi := _) (v := ?_) rfl (by kernel_rfl) (by kernel_rfl) (by kernel_rfl) (fun _ _ _ h => h) (Or.inl ⟨by rfl, ?_⟩) (by assumption) ?_
    rotate_left
    · intro w' hSw
      (try dsimp only at hSw)
      go_simp
      all_goals with_reducible rfl
    (try simp only [Act.put, ar, ag])
    refine wpAnyH_take (i := 12) (oi := _) (v := ?_) rfl (by kernel_rfl) (by kernel_rfl) (by kernel_rfl) (fun _ _ _ h => h) (Or.inl ⟨by rfl, ?_⟩) (by assumption) ?_
    rotate_left
    · intro w' hSw
      (try dsimp only at hSw)
      go_simp
      all_goals with_reducible rfl
    (try simp only [Act.put, ar, ag])
    refine wpAnyH_take (i := 13) (oi := _) (v := ?_) rfl (by kernel_rfl) (by kernel_rfl) (by kernel_rfl) (fun _ _ _ h => h) (Or.inl ⟨by rfl, ?_⟩) (by assumption) ?_
    rotate_left
    · intro w' hSw
      (try dsimp only at hSw)
      go_simp
      all_goals with_reducible rfl
    (try simp only [Act.put, ar, ag])
    refine wpAnyH_ready (rs := [4, 9]) (by kernel_rfl) (by simp) ?_
    refine AllReadyH.cons rfl (fun K hK => ?_) (AllReadyH.cons rfl (fun K hK => ?_) AllReadyH.nil)
    · have M1 := Mkd.new hbd trZ.toArray ts.length 35
      go_simp
      refine hK.out _ _ (HS.out _ M1.b) (fun hHeld => ?_)
      clear hK K
      generalize Y.alloc (.cells (madeCells trZ.toArray ((ts.length + 2) * 17)) 35) = X1 at *
      generalize Y.heap.size = G at *
      have e1 := run_ap1 tc M1 hT2
      (try simp only [ar])
      refine wpAnyH_ready (rs := [7, 9]) (by kernel_rfl) (by simp) ?_
      refine AllReadyH.cons rfl (fun K hK => ?_) (AllReadyH.cons rfl (fun K hK => ?_) AllReadyH.nil)
      · have M2 := M1.sets 0 (Rw.cels tK.c ts)
        have R2 := rws_ap1 M1
        refine step_ap rfl _ _ 24 rfl e1 (by with_unfolding_all rfl) (by with_unfolding_all rfl) ?_
        refine hK.out _ _ (HS.out _ M2.b) (fun hHeld => ?_)
        clear hK K
        clear e1
        generalize X1.setCells G 0 (Rw.cels tK.c ts) = X2 at *
        (try simp only [Act.put, ar])
        have M3 := M2.below (X' := X2.alloc (.cells #[.int .i64 9, .int .i64 0, .int .i64 0, .int .u64 0, .int .u64 0, .int .u64 0, .int .u64 0, .int .u64 0, .bool false, .bool false, .int .u64 0, .int .u64 0, .int .u64 0, .int .u64 0, .int .u64 0, .bool false, .bool false] 35)) ((Below.refl _ _).alloc (Nat.le_refl _) _)
        have R3 := R2.below (w' := X2.alloc (.cells #[.int .i64 9, .int .i64 0, .int .i64 0, .int .u64 0, .int .u64 0, .int .u64 0, .int .u64 0, .int .u64 0, .bool false, .bool false, .int .u64 0, .int .u64 0, .int .u64 0, .int .u64 0, .int .u64 0, .bool false, .bool false] 35)) ((Below.refl _ _).alloc (Nat.le_refl _) _) M2.r.lt
        have N3 := T9.new X2 35
        refine wpAnyH_ready (rs := [9]) (by kernel_rfl) (by simp) ?_
        refine AllReadyH.cons rfl (fun K hK => ?_) AllReadyH.nil
        go_simp
        refine hK.out _ _ (HS.out _ M3.b) (fun hHeld => ?_)
        clear hK K
        generalize X2.alloc (.cells #[.int .i64 9, .int .i64 0, .int .i64 0, .int .u64 0, .int .u64 0, .int .u64 0, .int .u64 0, .int .u64 0, .bool false, .bool false, .int .u64 0, .int .u64 0, .int .u64 0, .int .u64 0, .int .u64 0, .bool false, .bool false] 35) = X3 at *
        generalize X2.heap.size = E at *
        (try simp only [ar])
        have M8 := M3.sets (ts.length * 17) (trC t9).toList
        have HR : Hid (InR w1 w1.heap.size p ts ((X3.setCells G (ts.length * 17) (trC t9).toList).setCell ⟨w1.heap.size, 17, none⟩ (.slice (some ⟨G, 0, none⟩) ts.length (ts.length + 2)))) := InR.mk HB2.out (Nat.le_refl _) hX2 M3 R3
        have e8 := run_ap2 M3 N3
        refine wpAnyH_ready (rs := [10]) (by kernel_rfl) (by simp) ?_
        refine AllReadyH.cons rfl (fun K hK => ?_) AllReadyH.nil
        refine step_ap rfl _ _ 24 rfl e8 (by with_unfolding_all rfl) (by with_unfolding_all rfl) ?_
        refine hK.out _ _ (HS.out _ M8.b) (fun hHeld => ?_)
        clear hK K
        clear e8
        generalize X3.setCells G (ts.length * 17) (trC t9).toList = X8 at *
        have hP8 := hX2.below M8.b hX2.lt
        have q8 := hP8.cel 17
        have f8 := hP8.fz 17
        have z8 : (planC p (.slice ta ts.length tc))[17]? = some (.slice ta ts.length tc) := rfl
        rw [z8] at q8
        clear z8 hP8
        have s8 : (X8.setCell ⟨w1.heap.size, 17, none⟩ (.slice (some ⟨G, 0, none⟩) ts.length (ts.length + 2))).cell? ⟨w.heap.size, 17, none⟩ = some (.slice ta ts.length tc) := by rw [World.cell?_setCell_other (h := fun e => absurd (congrArg Addr.block e) (by simp only; omega))]; exact HS.out _ M8.b
        (try simp only [Act.put, ar])
        refine wpAnyH_take (i := 14) (oi := _) (v := ?_) rfl (by kernel_rfl) (by kernel_rfl) (by kernel_rfl) (fun _ _ _ h => h) (Or.inl ⟨by rfl, ?_⟩) (by assumption) ?_
        rotate_left
        · intro w' hSw
          (try dsimp only at hSw)
          go_simp
          all_goals with_reducible rfl
        (try simp only [Act.put, ar, ag])
        refine wpAnyH_take (i := 15) (oi := _) (v := ?_) rfl (by kernel_rfl) (by kernel_rfl) (by kernel_rfl) (fun _ _ _ h => h) (Or.inl ⟨by rfl, ?_⟩) (by assumption) ?_
        rotate_left
        · intro w' hSw
          (try dsimp only at hSw)
          go_simp
          all_goals with_reducible rfl
        (try simp only [Act.put, ar, ag])
        refine wpAnyH_ready (rs := [16]) (by kernel_rfl) (by simp) ?_
        refine AllReadyH.cons rfl (fun K hK => ?_) AllReadyH.nil
        go_simp
        refine hK.out _ _ (s8) (fun hHeld => ?_)
        clear hK K
        (try simp only [ar])
        refine wpAnyH_done (by kernel_rfl) ?_ _
        go_wp2
        go_meet
        exact HR.out
      · clear e1
        have M2 := M1.below (X' := X1.alloc (.cells #[.int .i64 9, .int .i64 0, .int .i64 0, .int .u64 0, .int .u64 0, .int .u64 0, .int .u64 0, .int .u64 0, .bool false, .bool false, .int .u64 0, .int .u64 0, .int .u64 0, .int .u64 0, .int .u64 0, .bool false, .bool false] 35)) ((Below.refl _ _).alloc (Nat.le_refl _) _)
        have N2 := T9.new X1 35
        have hne : X1.heap.size ≠ G := by have := M1.r.lt; omega
        go_simp
        refine hK.out _ _ (HS.out _ M2.b) (fun hHeld => ?_)
        clear hK K
        generalize X1.alloc (.cells #[.int .i64 9, .int .i64 0, .int .i64 0, .int .u64 0, .int .u64 0, .int .u64 0, .int .u64 0, .int .u64 0, .bool false, .bool false, .int .u64 0, .int .u64 0, .int .u64 0, .int .u64 0, .int .u64 0, .bool false, .bool false] 35) = X2 at *
        generalize X1.heap.size = E at *
        have e2 := run_ap1 tc M2 hT2
        have M3 := M2.sets 0 (Rw.cels tK.c ts)
        have R3 := rws_ap1 M2
        have N3 := N2.sets hne 0 (Rw.cels tK.c ts)
        (try simp only [ar])
        refine wpAnyH_ready (rs := [7]) (by kernel_rfl) (by simp) ?_
        refine AllReadyH.cons rfl (fun K hK => ?_) AllReadyH.nil
        refine step_ap rfl _ _ 24 rfl e2 (by with_unfolding_all rfl) (by with_unfolding_all rfl) ?_
        refine hK.out _ _ (HS.out _ M3.b) (fun hHeld => ?_)
        clear hK K
        clear e2
        generalize X2.setCells G 0 (Rw.cels tK.c ts) = X3 at *
        (try simp only [Act.put, ar])
        have M8 := M3.sets (ts.length * 17) (trC t9).toList
        have HR : Hid (InR w1 w1.heap.size p ts ((X3.setCells G (ts.length * 17) (trC t9).toList).setCell ⟨w1.heap.size, 17, none⟩ (.slice (some ⟨G, 0, none⟩) ts.length (ts.length + 2)))) := InR.mk HB2.out (Nat.le_refl _) hX2 M3 R3
        have e8 := run_ap2 M3 N3
        refine wpAnyH_ready (rs := [10]) (by kernel_rfl) (by simp) ?_
        refine AllReadyH.cons rfl (fun K hK => ?_) AllReadyH.nil
        refine step_ap rfl _ _ 24 rfl e8 (by with_unfolding_all rfl) (by with_unfolding_all rfl) ?_
        refine hK.out _ _ (HS.out _ M8.b) (fun hHeld => ?_)
        clear hK K
        clear e8
        generalize X3.setCells G (ts.length * 17) (trC t9).toList = X8 at *
        have hP8 := hX2.below M8.b hX2.lt
        have q8 := hP8.cel 17
        have f8 := hP8.fz 17
        have z8 : (planC p (.slice ta ts.length tc))[17]? = some (.slice ta ts.length tc) := rfl
        rw [z8] at q8
        clear z8 hP8
        have s8 : (X8.setCell ⟨w1.heap.size, 17, none⟩ (.slice (some ⟨G, 0, none⟩) ts.length (ts.length + 2))).cell? ⟨w.heap.size, 17, none⟩ = some (.slice ta ts.length tc) := by rw [World.cell?_setCell_other (h := fun e => absurd (congrArg Addr.block e) (by simp only; omega))]; exact HS.out _ M8.b
        (try simp only [Act.put, ar])
        refine wpAnyH_take (i := 14) (oi := _) (v := ?_) rfl (by kernel_rfl) (by kernel_rfl) (by kernel_rfl) (fun _ _ _ h => h) (Or.inl ⟨by rfl, ?_⟩) (by assumption) ?_
        rotate_left
        · intro w' hSw
          (try dsimp only at hSw)
          go_simp
          all_goals with_reducible rfl
        (try simp only [Act.put, ar, ag])
        refine wpAnyH_take (i := 15) (oi := _) (v := ?_) rfl (by kernel_rfl) (by kernel_rfl) (by kernel_rfl) (fun _ _ _ h => h) (Or.inl ⟨by rfl, ?_⟩) (by assumption) ?_
        rotate_left
        · intro w' hSw
          (try dsimp only at hSw)
          go_simp
          all_goals with_reducible rfl
        (try simp only [Act.put, ar, ag])
        refine wpAnyH_ready (rs := [16]) (by kernel_rfl) (by simp) ?_
        refine AllReadyH.cons rfl (fun K hK => ?_) AllReadyH.nil
        go_simp
        refine hK.out _ _ (s8) (fun hHeld => ?_)
        clear hK K
        (try simp only [ar])
        refine wpAnyH_done (by kernel_rfl) ?_ _
        go_wp2
        go_meet
        exact HR.out
    · have b1 : Below w2.heap.size w2 (Y.alloc (.cells #[.int .i64 9, .int .i64 0, .int .i64 0, .int .u64 0, .int .u64 0, .int .u64 0, .int .u64 0, .int .u64 0, .bool false, .bool false, .int .u64 0, .int .u64 0, .int .u64 0, .int .u64 0, .int .u64 0, .bool false, .bool false] 35)) := hbd.trans (((Below.refl _ _).alloc (Nat.le_refl _) _).mono hbd.size)
      have N1 := T9.new Y 35
      go_simp
      refine hK.out _ _ (HS.out _ b1) (fun hHeld => ?_)
      clear hK K
      generalize Y.alloc (.cells #[.int .i64 9, .int .i64 0, .int .i64 0, .int .u64 0, .int .u64 0, .int .u64 0, .int .u64 0, .int .u64 0, .bool false, .bool false, .int .u64 0, .int .u64 0, .int .u64 0, .int .u64 0, .int .u64 0, .bool false, .bool false] 35) = X1 at *
      generalize Y.heap.size = E at *
      have M2 := Mkd.new b1 trZ.toArray ts.length 35
      have N2 := N1.below (w' := X1.alloc (.cells (madeCells trZ.toArray ((ts.length + 2) * 17)) 35)) ((Below.refl _ _).alloc (Nat.le_refl _) _)
      have hne : E ≠ X1.heap.size := by have := N1.1; omega
      (try simp only [ar])
      refine wpAnyH_ready (rs := [4]) (by kernel_rfl) (by simp) ?_
      refine AllReadyH.cons rfl (fun K hK => ?_) AllReadyH.nil
      go_simp
      refine hK.out _ _ (HS.out _ M2.b) (fun hHeld => ?_)
      clear hK K
      generalize X1.alloc (.cells (madeCells trZ.toArray ((ts.length + 2) * 17)) 35) = X2 at *
      generalize X1.heap.size = G at *
      have e2 := run_ap1 tc M2 hT2
      have M3 := M2.sets 0 (Rw.cels tK.c ts)
      have R3 := rws_ap1 M2
      have N3 := N2.sets hne 0 (Rw.cels tK.c ts)
      (try simp only [ar])
      refine wpAnyH_ready (rs := [7]) (by kernel_rfl) (by simp) ?_
      refine AllReadyH.cons rfl (fun K hK => ?_) AllReadyH.nil
      refine step_ap rfl _ _ 24 rfl e2 (by with_unfolding_all rfl) (by with_unfolding_all rfl) ?_
      refine hK.out _ _ (HS.out _ M3.b) (fun hHeld => ?_)
      clear hK K
      clear e2
      generalize X2.setCells G 0 (Rw.cels tK.c ts) = X3 at *
      (try simp only [Act.put, ar])
      have M8 := M3.sets (ts.length * 17) (trC t9).toList
      have HR : Hid (InR w1 w1.heap.size p ts ((X3.setCells G (ts.length * 17) (trC t9).toList).setCell ⟨w1.heap.size, 17, none⟩ (.slice (some ⟨G, 0, none⟩) ts.length (ts.length + 2)))) := InR.mk HB2.out (Nat.le_refl _) hX2 M3 R3
      have e8 := run_ap2 M3 N3
      refine wpAnyH_ready (rs := [10]) (by kernel_rfl) (by simp) ?_
      refine AllReadyH.cons rfl (fun K hK => ?_) AllReadyH.nil
      refine step_ap rfl _ _ 24 rfl e8 (by with_unfolding_all rfl) (by with_unfolding_all rfl) ?_
      refine hK.out _ _ (HS.out _ M8.b) (fun hHeld => ?_)
      clear hK K
      clear e8
      generalize X3.setCells G (ts.length * 17) (trC t9).toList = X8 at *
      have hP8 := hX2.below M8.b hX2.lt
      have q8 := hP8.cel 17
      have f8 := hP8.fz 17
      have z8 : (planC p (.slice ta ts.length tc))[17]? = some (.slice ta ts.length tc) := rfl
      rw [z8] at q8
      clear z8 hP8
      have s8 : (X8.setCell ⟨w1.heap.size, 17, none⟩ (.slice (some ⟨G, 0, none⟩) ts.length (ts.length + 2))).cell? ⟨w.heap.size, 17, none⟩ = some (.slice ta ts.length tc) := by rw [World.cell?_setCell_other (h := fun e => absurd (congrArg Addr.block e) (by simp only; omega))]; exact HS.out _ M8.b
      (try simp only [Act.put, ar])
      refine wpAnyH_take (i := 14) (oi := _) (v := ?_) rfl (by kernel_rfl) (by kernel_rfl) (by kernel_rfl) (fun _ _ _ h => h) (Or.inl ⟨by rfl, ?_⟩) (by assumption) ?_
      rotate_left
      · intro w' hSw
        (try dsimp only at hSw)
        go_simp
        all_goals with_reducible rfl
      (try simp only [Act.put, ar, ag])
      refine wpAnyH_take (i := 15) (oi := _) (v := ?_) rfl (by kernel_rfl) (by kernel_rfl) (by kernel_rfl) (fun _ _ _ h => h) (Or.inl ⟨by rfl, ?_⟩) (by assumption) ?_
      rotate_left
      · intro w' hSw
        (try dsimp only at hSw)
        go_simp
        all_goals with_reducible rfl
      (try simp only [Act.put, ar, ag])
      refine wpAnyH_ready (rs := [16]) (by kernel_rfl) (by simp) ?_
      refine AllReadyH.cons rfl (fun K hK => ?_) AllReadyH.nil
      go_simp
      refine hK.out _ _ (s8) (fun hHeld => ?_)
      clear hK K
      (try simp only [ar])
      refine wpAnyH_done (by kernel_rfl) ?_ _
      go_wp2
      go_meet
      exact HR.out
  case rest =>
    clear hbd HS hT2 HB2 hX2 hmk hwl hb1 HB
    obtain ⟨G, hQG, hXc, hTc, hWc, h9c, hbc⟩ := hcut
    have hPc := HP1.out.on hbc hz1
    have hzc : w.heap.size < wc.heap.size := Nat.lt_of_lt_of_le hz1 hbc.size
    have HBc : Hid (Below w.heap.size w wc) := HB1.out.trans (hbc.mono HB1.out.size)
    have hBc := HT.out.1.below HBc.out (Nat.le_refl _)
    have HTp : Hid (TrsAt wc ta ts) := HT.out.2.below HBc.out (Nat.le_refl _)
    have hlX := hXc.plat
    by_cases hE : newE p ts 3 0 = 0
    · obtain ⟨hc, _, _⟩ := newE_ok hE
      have cN1 := new_yes p (some ⟨G, 0, none⟩) (ts.length + 2) ts 3 2 0 wc hBc hi hl hTc hc (by decide) (by decide)
      have HN2 : Hid (∀ w3, Below wc.heap.size wc w3 → Calls Tryz.prog 5 #[planV p (.slice ta ts.length tc), .int .i64 ((3 : Nat) : Int), .int .i64 2, .int .i64 0] w3 (NewWA p ts 3 2 0 w3)) := fun w3 hb => new_yes p ta tc ts 3 2 0 w3 (hBc.below hb (Nat.le_refl _)) hi hl (HTp.out.below hb (Nat.le_refl _)) hc (by decide) (by decide)
      have hP := ok_noN (plOk_of hc)
      have hI0 : WI ts (newW (noN p) ts 3 2 0) 0 0 := WI.new _ _ _ _ _ (by decide) (by decide)
      have HlX : Hid (PX wc w1.heap.size p (.slice (some ⟨G, 0, none⟩) ts.length (ts.length + 2)) ∧ TrsAt wc (some ⟨G, 0, none⟩) ts ∧ Wri wc G ((ts.length + 2) * 17) ∧ wc.cell? ⟨G, ts.length * 17, none⟩ = some (.int .i64 9) ∧ w1.heap.size < G ∧ w.heap.size < w1.heap.size) := ⟨hXc, hTc, hWc, h9c, hQG, hz1⟩
      clear hXc hTc hWc h9c hbc hBc
      rw [show ((3 : Nat) : Int) = 3 from rfl] at cN1 HN2
      go_upto_region 7 with (first
        | (with_reducible refine wp_plan hP3 (by with_unfolding_all rfl) ?_)
        | (with_reducible refine wp_plan hlX (by with_unfolding_all rfl) ?_)
        | (go_at_call 5; (with_reducible refine cN1.mono ?_); rintro e w3 ⟨c1, rfl, hA3, hb3⟩; clear cN1; have HA3 : Hid (WAt w3 wc.heap.size c1 (noN p) ts (newW (noN p) ts 3 2 0) ∧ Below wc.heap.size wc w3) := ⟨hA3, hb3⟩; have hP3 := hPc.on hb3 hzc; have cN2 := HN2.out w3 hb3; clear hA3 hlX hb3)
        | (go_at_call 5; (with_reducible refine cN2.mono ?_); rintro e w4 ⟨c2, rfl, hA4, hb4⟩; clear cN2; have HA4 : Hid (WAt w4 w3.heap.size c2 (noN p) ts (newW (noN p) ts 3 2 0) ∧ Below w3.heap.size w3 w4) := ⟨hA4, hb4⟩; clear hA4 hb4))
      have hb34 : Below wc.heap.size wc w4 := HA3.out.2.trans (HA4.out.2.mono HA3.out.2.size)
      have HO : Hid (∃ D1 D2, OwS w wc.heap.size w3.heap.size c1.x.D c2.x.D (noN p) ts 0 c1 c2 (newW (noN p) ts 3 2 0) (newW (noN p) ts 3 2 0) w4 ∧ D1 = c1.x.D ∧ D2 = c2.x.D) := ⟨_, _, ⟨W2.new HA3.out.1 HA4.out.2 HA4.out.1, rfl, rfl, hI0, hI0, Or.inl rfl, HBc.out.trans (hb34.mono HBc.out.size), HT.out.1, HBc.out.size⟩, rfl, rfl⟩
      by_cases hm : m ≤ 60
      · have hm' : ¬ (60 : Int) < (m : Int) := by omega
        have hP4 := hPc.on hb34 hzc
        have hX4 := (HlX.out.1.below hb34 HlX.out.1.lt)
        have hT4 := HlX.out.2.1.below hb34 (Nat.le_refl _)
        have hT5 := HTp.out.below hb34 (Nat.le_refl _)
        have hl5 := (plOk_of hc).len
        have hW4 : Wri w4 G ((ts.length + 2) * 17) := ⟨Nat.lt_of_lt_of_le HlX.out.2.2.1.lt hb34.size, fun o ho => by rw [World.cell?_of_block (w := wc) (a := ⟨G, o, none⟩) (hb34.block G HlX.out.2.2.1.lt)]; exact HlX.out.2.2.1.c o ho, fun o => by rw [World.frozen?_of_block (w := wc) (a := ⟨G, o, none⟩) (hb34.block G HlX.out.2.2.1.lt)]; exact HlX.out.2.2.1.f o⟩
        have h94 := (hb34.cell (p := ⟨G, ts.length * 17, none⟩) HlX.out.2.2.1.lt).trans HlX.out.2.2.2.1
        have HG : Hid (G < wc.heap.size ∧ w.heap.size ≤ G) := ⟨HlX.out.2.2.1.lt, by have h1 := HlX.out.2.2.2.2.1; have h2 := HlX.out.2.2.2.2.2; omega⟩
        have HQG : Hid (w1.heap.size < G ∧ w.heap.size < w1.heap.size) := HlX.out.2.2.2.2
        clear hPc hP3 HN2 HlX HTp hzc hb34 HA3 HA4 HB1 HP1 hz1 HBc hc hE hl hi hsz
        generalize newW (noN p) ts 3 2 0 = S0 at *
        obtain ⟨D1, D2, hO, hD1, hD2⟩ := HO.out
        rw [← hD1, ← hD2] at hO
        rw [← hD1, ← hD2]
        have HO4 : Hid (OwS w wc.heap.size w3.heap.size D1 D2 (noN p) ts 0 c1 c2 S0 S0 w4) := hO
        clear HO hO hD1 hD2 hI0
        have hbd : Below w4.heap.size w4 w4.drew := (Below.refl _ _).drew
        have cS := same_any p ts (some ⟨G, 0, none⟩) ta (ts.length + 2) tc w4.drew (hT4.below hbd (Nat.le_refl _)) (hT5.below hbd (Nat.le_refl _)) (by omega)
        have hw1 : IntKind.i64.wrap ((ts.length : Int) + 1) = (ts.length : Int) + 1 := by rw [IntKind.wrap_i64]; omega
        have hle1 : (ts.length : Int) + 1 ≤ (ts.length : Int) + 2 := by omega
        have hlt1 : (ts.length : Int) < (ts.length : Int) + 1 := by omega
        have hge1 : (0 : Int) ≤ (ts.length : Int) + 1 := by omega
        have HSt : Hid (∀ X, Below w4.heap.size w4 X → X.rangeAt w1.heap.size 0 [.string ⟨p.nm.toArray⟩, .int .i64 p.mn, .int .i64 p.mx, .int .i64 p.po, .int .i64 p.co, .int .i64 p.tl, .int .i64 p.bk, .int .i64 p.af, .int .i64 p.sh, .int .i64 p.uw, .int .i64 p.up, .int .i64 p.uc, .int .i64 p.ue, .int .i64 p.dw, .int .i64 p.dp, .int .i64 p.dc, .int .i64 p.de, .slice (some ⟨G, 0, none⟩) ts.length (ts.length + 2)] ∧ X.rangeAt w.heap.size 0 [.string ⟨p.nm.toArray⟩, .int .i64 p.mn, .int .i64 p.mx, .int .i64 p.po, .int .i64 p.co, .int .i64 p.tl, .int .i64 p.bk, .int .i64 p.af, .int .i64 p.sh, .int .i64 p.uw, .int .i64 p.up, .int .i64 p.uc, .int .i64 p.ue, .int .i64 p.dw, .int .i64 p.dp, .int .i64 p.dc, .int .i64 p.de, .slice ta ts.length tc] ∧ X.cell? ⟨w1.heap.size, 17, none⟩ = some (.slice (some ⟨G, 0, none⟩) ts.length (ts.length + 2)) ∧ X.cell? ⟨w.heap.size, 17, none⟩ = some (.slice ta ts.length tc) ∧ X.cell? ⟨G, ts.length * 17, none⟩ = some (.int .i64 9)) := fun X h => by
          have a1 := (hX4.below h hX4.lt).plat
          have a2 := hP4.on h (World.block_lt_of_cell? w4 _ hP4.c0)
          exact ⟨range_plan a1, range_plan a2, a1.c17, a2.c17, (h.cell (p := ⟨G, ts.length * 17, none⟩) hW4.lt).trans h94⟩
        have HW4 : Hid (Wri w4 G ((ts.length + 2) * 17)) := hW4
        clear hX4 hP4 hT4 hT5 hW4 h94
        go_upto_region 9 with fail
        refine Tk.st 20 [false, false, false, false, false, false, false, false, false, false, false, false, false, false, false, false, false, false, false, false] (S := fun w' => w'.rangeAt w1.heap.size 0 [.string ⟨p.nm.toArray⟩, .int .i64 p.mn, .int .i64 p.mx, .int .i64 p.po, .int .i64 p.co, .int .i64 p.tl, .int .i64 p.bk, .int .i64 p.af, .int .i64 p.sh, .int .i64 p.uw, .int .i64 p.up, .int .i64 p.uc, .int .i64 p.ue, .int .i64 p.dw, .int .i64 p.dp, .int .i64 p.dc, .int .i64 p.de, .slice (some ⟨G, 0, none⟩) ts.length (ts.length + 2)] ∧ w'.rangeAt w.heap.size 0 [.string ⟨p.nm.toArray⟩, .int .i64 p.mn, .int .i64 p.mx, .int .i64 p.po, .int .i64 p.co, .int .i64 p.tl, .int .i64 p.bk, .int .i64 p.af, .int .i64 p.sh, .int .i64 p.uw, .int .i64 p.up, .int .i64 p.uc, .int .i64 p.ue, .int .i64 p.dw, .int .i64 p.dp, .int .i64 p.dc, .int .i64 p.de, .slice ta ts.length tc] ∧ w'.cell? ⟨w1.heap.size, 17, none⟩ = some (.slice (some ⟨G, 0, none⟩) ts.length (ts.length + 2)) ∧ w'.cell? ⟨w.heap.size, 17, none⟩ = some (.slice ta ts.length tc) ∧ w'.cell? ⟨G, ts.length * 17, none⟩ = some (.int .i64 9)) (by kernel_rfl) (by kernel_rfl) (HSt.out _ hbd) (fun hHeld => ?_)
        generalize w4.drew = Y at *
        refine wpAnyH_take (i := 0) (oi := _) (v := planV p (.slice (some ⟨G, 0, none⟩) ts.length (ts.length + 2))) rfl (by kernel_rfl) (by kernel_rfl) (by kernel_rfl) (fun _ _ _ h => h) (yieldsIf_load_mid (by rfl) 26 (.tmp 5) rfl w1.heap.size 0 (by with_unfolding_all rfl) [.string ⟨p.nm.toArray⟩, .int .i64 p.mn, .int .i64 p.mx, .int .i64 p.po, .int .i64 p.co, .int .i64 p.tl, .int .i64 p.bk, .int .i64 p.af, .int .i64 p.sh, .int .i64 p.uw, .int .i64 p.up, .int .i64 p.uc, .int .i64 p.ue, .int .i64 p.dw, .int .i64 p.dp, .int .i64 p.dc, .int .i64 p.de, .slice (some ⟨G, 0, none⟩) ts.length (ts.length + 2)] _ (fun w h => h.1) Tryz.underlying26 rfl (by kernel_rfl)) (by assumption) ?_
        (try simp only [Act.put, ar, ag])
        refine wpAnyH_take (i := 1) (oi := _) (v := planV p (.slice ta ts.length tc)) rfl (by kernel_rfl) (by kernel_rfl) (by kernel_rfl) (fun _ _ _ h => h) (yieldsIf_load_mid (by rfl) 26 (.tmp 2) rfl w.heap.size 0 (by with_unfolding_all rfl) [.string ⟨p.nm.toArray⟩, .int .i64 p.mn, .int .i64 p.mx, .int .i64 p.po, .int .i64 p.co, .int .i64 p.tl, .int .i64 p.bk, .int .i64 p.af, .int .i64 p.sh, .int .i64 p.uw, .int .i64 p.up, .int .i64 p.uc, .int .i64 p.ue, .int .i64 p.dw, .int .i64 p.dp, .int .i64 p.dc, .int .i64 p.de, .slice ta ts.length tc] _ (fun w h => h.2.1) Tryz.underlying26 rfl (by kernel_rfl)) (by assumption) ?_
        (try simp only [Act.put, ar, ag])
        refine wpAnyH_ready (rs := [2]) (by kernel_rfl) (by simp) ?_
        refine AllReadyH.cons rfl (fun K hK => ?_) AllReadyH.nil
        go_simp
        go_wp2_with (go_at_call 6; (with_reducible refine cS.mono ?_); rintro e w5 ⟨rfl, hb5⟩; clear cS)
        have hb45 : Below w4.heap.size w4 w5 := hbd.trans (hb5.mono hbd.size)
        refine hK.out _ _ (HSt.out _ hb45) (fun hHeld => ?_)
        clear hK K
        (try simp only [ar])
        iterate 17
          refine Tk.tk (v := ?_) rfl (by kernel_rfl) (fun _ _ _ h => h) (Or.inl ⟨by rfl, ?_⟩) (by assumption) ?_
          rotate_left
          · intro w' hSw
            (try dsimp only at hSw)
            (try simp only [Tk.nx, ag])
            go_simp
            all_goals with_reducible rfl
          (try simp only [Tk.nx, Act.put, ar, ag])
        refine wpAnyH_done (by kernel_rfl) ?_ _
        clear hbd hb5
        obtain ⟨_, _, s17, _, _⟩ := HSt.out _ hb45
        have hW5 := HW4.out.below hb45
        have cSp := spoilTrigger G ts.length (ts.length + 2) 2 1 0 0 0 0 0 0 false false 0 0 0 0 0 false false w5 hW5 (by omega)
        have HO5 := HO4.out.below hb45
        clear HSt HW4 HO4 hb45
        go_wp2_with (go_at_call 7; (with_reducible refine cSp.mono ?_); rintro e w6 ⟨rfl, o6⟩; clear cSp; have HO6 : Hid (OwS w wc.heap.size w3.heap.size D1 D2 (noN p) ts 0 c1 c2 S0 S0 w6) := HO5.only o6 (fun e => absurd (HO5.w2.a.low e).1 (Nat.not_le.2 HG.out.1)) (fun e => absurd (Nat.le_trans HO5.w2.le (HO5.w2.b.low e).1) (Nat.not_le.2 HG.out.1)) HG.out.2)
        clear HO5 o6 hW5 s17 HQG
        generalize wc.heap.size = B1 at *
        generalize w3.heap.size = B2 at *
        go_loopw [81] (fun i wr => OwR w B1 B2 D1 D2 (noN p) ts m i wr) (fun i _ => m - (intOf i).toNat)
        case atStart => exact ⟨0, c1, c2, S0, S0, by omega, rfl, HO6.out⟩
        case round =>
          clear HO6 c1 c2
          obtain ⟨j, c1, c2, Sa, Sb, hj, rfl, hO⟩ := hrel
          by_cases hlt : j < m
          · have hlt' : (j : Int) < (m : Int) := by omega
            obtain ⟨g, off, rfl, hgl, hcx⟩ := (Frm.RowsIn.below HH.out hO.be (Nat.le_refl _)) j hlt
            have x0 := (hcx 0 (by omega)).1
            have x1 := (hcx 1 (by omega)).1
            have x2 := (hcx 2 (by omega)).1
            simp only [Nat.add_zero] at x0
            rw [← Nat.add_assoc] at x1 x2
            obtain ⟨V, hV⟩ : ∃ V, V = wr.alloc (.cells #[.int .i64 (X j 0), .int .i64 (X j 1), .int .i64 (X j 2)] 43) := ⟨_, rfl⟩
            have hbV : Below wr.heap.size wr V := by rw [hV]; exact (Below.refl _ _).alloc (Nat.le_refl _) _
            have y0 : V.cell? ⟨wr.heap.size, 0, none⟩ = some (.int .i64 (X j 0)) := by rw [hV]; simp
            have y1 : V.cell? ⟨wr.heap.size, 1, none⟩ = some (.int .i64 (X j 1)) := by rw [hV]; simp
            have y2 : V.cell? ⟨wr.heap.size, 2, none⟩ = some (.int .i64 (X j 2)) := by rw [hV]; simp
            have HV : Hid (V = wr.alloc (.cells #[.int .i64 (X j 0), .int .i64 (X j 1), .int .i64 (X j 2)] 43)) := hV
            have HO1 : Hid (OwS w B1 B2 D1 D2 (noN p) ts j c1 c2 Sa Sb V) := hO.below hbV
            have cD := do_any B1 c1 (noN p) ts Sa j (1000 * j) (X j 0) (X j 1) (X j 2) V HO1.out.w2.a hO.ia (by omega) (by omega) hP hU
            rw [hO.d1] at cD
            have hC : ¬ bk c1 ts wr.heap.size := fun e => absurd (hO.w2.a.low e).2 (Nat.lt_irrefl _)
            clear hO hbV hV hcx
            go_upto_region 15 with fail
            rw [← HV.out]
            clear HV x0 x1 x2
            generalize wr.heap.size = C at *
            go_wp2_with (first
              | (go_at_call 8; (with_reducible refine cD.mono ?_); rintro e w4 ⟨rfl, t4⟩; clear cD; obtain ⟨c3, h4, d4, m4⟩ := HO1.out.w2.left t4; clear t4; have HX4 : Hid (W2 w4 B1 B2 c3 c2 (noN p) ts (doW (noN p) ts Sa (X j 0) (X j 1) (X j 2)) Sb ∧ c3.x.D = D1 ∧ Below w.heap.size w w4) := ⟨h4, d4.trans HO1.out.d1, HO1.out.be.trans (m4.below (fun k hk => Nat.le_trans HO1.out.le (HO1.out.w2.a.low hk).1) HO1.out.be.size)⟩; have z0 := m4.cell y0 hC; have z1 := m4.cell y1 hC; have z2 := m4.cell y2 hC; clear h4 d4 m4 y0 y1 y2; have cE := do_any B2 c2 (noN p) ts Sb j (1000 * j) (X j 0) (X j 1) (X j 2) w4 HX4.out.1.b HO1.out.ib (by omega) (by omega) hP hU; rw [HO1.out.d2] at cE)
              | (go_at_call 8; (with_reducible refine cE.mono ?_); rintro e w5 ⟨rfl, t5⟩; clear cE; obtain ⟨c4, h5, d5, m5⟩ := HX4.out.1.right t5; clear t5; have HO5 : Hid (OwS w B1 B2 D1 D2 (noN p) ts (j + 1) c3 c4 (doW (noN p) ts Sa (X j 0) (X j 1) (X j 2)) (doW (noN p) ts Sb (X j 0) (X j 1) (X j 2)) w5) := HO1.out.did hP _ _ _ h5 HX4.out.2.1 (d5.trans HO1.out.d2) (HX4.out.2.2.trans (m5.below (fun k hk => Nat.le_trans HO1.out.le (Nat.le_trans HX4.out.1.le (HX4.out.1.b.low hk).1)) HX4.out.2.2.size)); clear h5 d5 m5 HX4 HO1; generalize doW (noN p) ts Sa (X j 0) (X j 1) (X j 2) = Ta at *; generalize doW (noN p) ts Sb (X j 0) (X j 1) (X j 2) = Tb at *; have cX := pods_own B1 c3 (noN p) ts Ta w5 HO5.out.w2.a (by have := HO5.out.ia.len; omega); rw [HO5.out.d1] at cX)
              | (go_at_call 10; (with_reducible refine cX.mono ?_); rintro e w6 ⟨rfl, hW6, hb6⟩; clear cX; have cX := spoilPod w5.heap.size Ta.F.L.length Ta.F.L.length 77 3 0 w6 hW6 (by have := HO5.out.ia.len; omega))
              | (go_at_call 9; (with_reducible refine cX.mono ?_); rintro e w7 ⟨rfl, o7⟩; clear cX; have HO7 : Hid (OwS w B1 B2 D1 D2 (noN p) ts (j + 1) c3 c4 Ta Tb w7) := HO5.out.spoilt hb6 o7 (Nat.le_refl _); clear HO5 hb6 o7 hW6; have cX := requests_own B1 c3 (noN p) ts Ta w7 HO7.out.w2.a HO7.out.ia.r.len; rw [HO7.out.d1] at cX)
              | (go_at_call 12; (with_reducible refine cX.mono ?_); rintro e w8 ⟨G8, rfl, hG8, hW8, hb8⟩; clear cX; have cX := spoilRequest G8 Ta.R.length Ta.R.length 0 0 0 4 0 w8 hW8 (by have := HO7.out.ia.r.len; omega))
              | (go_at_call 11; (with_reducible refine cX.mono ?_); rintro e w9 ⟨rfl, o9⟩; clear cX; have HO9 : Hid (OwS w B1 B2 D1 D2 (noN p) ts (j + 1) c3 c4 Ta Tb w9) := HO7.out.spoilt hb8 o9 hG8; clear HO7 hb8 o9 hW8 hG8; have cX := lagsW B1 c3 (noN p) ts Ta (j + 1) (1000 * (j + 1)) w9 HO9.out.w2.a HO9.out.ia (by omega); rw [HO9.out.d1] at cX)
              | (go_at_call 14; (with_reducible refine cX.mono ?_); rintro e w10 ⟨G10, rfl, hG10, hR10, hb10⟩; clear cX; have cX := spoilInt G10 Ta.n Ta.n 99 w10 (Wri.ints hR10) (by have := HO9.out.ia.n; omega))
              | (go_at_call 13; (with_reducible refine cX.mono ?_); rintro e w11 ⟨rfl, o11⟩; clear cX; have HO11 : Hid (OwS w B1 B2 D1 D2 (noN p) ts (j + 1) c3 c4 Ta Tb w11) := HO9.out.spoilt hb10 o11 hG10; clear HO9 hb10 o11 hR10 hG10; have cX := messages_wri B1 c3 (noN p) ts Ta (j + 1) (1000 * (j + 1)) w11 HO11.out.w2.a HO11.out.ia; rw [HO11.out.d1] at cX)
              | (go_at_call 16; (with_reducible refine cX.mono ?_); rintro e w12 ⟨G12, rfl, hG12, hW12, c5, a12, d12, n12, m12⟩; clear cX; have cX := spoilMessage G12 (Que.backL Ta.now Ta.qL).length (Que.backL Ta.now Ta.qL).length 88 0 false w12 hW12 (by have := (HO11.out.ia.q.back Ta.now).len; omega); have HX12 : Hid (∀ w13, OnlyQ G12 w12 w13 → ∃ c4', OwS w B1 B2 D1 D2 (noN p) ts (j + 1) c4' c4 { Ta with qL := Que.backL Ta.now Ta.qL } Tb w13) := (fun w13 o => HO11.out.asked a12 (d12.trans HO11.out.d1.symm) m12 n12 hG12 o); clear a12 d12 n12 m12 hW12 hG12 HO11)
              | (go_at_call 15; (with_reducible refine cX.mono ?_); rintro e w13 ⟨rfl, o13⟩; clear cX; obtain ⟨c6, hO13⟩ := HX12.out w13 o13; have HE : Hid (OwR w B1 B2 D1 D2 (noN p) ts m (.int .i64 ((j + 1 : Nat) : Int)) w13) := ⟨j + 1, c6, c4, _, Tb, hlt, rfl, hO13⟩; clear hO13 HX12 o13))
            go_roundw
            case rel => exact HE.out
            case measure => simp [intOf]; omega
          · obtain rfl : j = m := by omega
            obtain ⟨eT, eF, eR, en, eE, eO, eM⟩ := hO.nr.same
            have hlF : Sb.F.L.length ≤ 1000000000 := by have := hO.ib.len; omega
            have hlR : Sb.R.length ≤ 200 := hO.ib.r.len
            have hlM : (Que.backL Sb.now Sb.qL).length ≤ 200 := (hO.ib.q.back _).len
            have hln : Sb.n ≤ 20 := hO.ib.n.2
            have HE : Hid (Sa.tg = Sb.tg ∧ Sa.F = Sb.F ∧ Sa.R = Sb.R ∧ Sa.n = Sb.n ∧ Sa.E = Sb.E ∧ Sa.O = Sb.O ∧ Que.backL Sa.now Sa.qL = Que.backL Sb.now Sb.qL) := ⟨eT, eF, eR, en, eE, eO, eM⟩
            have HO1 : Hid (OwS w B1 B2 D1 D2 (noN p) ts j c1 c2 Sa Sb wr) := hO
            clear hO eT eF eR en eE eO eM
            go_wp2_with (first
              | (go_at_call 17; have cX := target_any B1 c1 (noN p) ts Sa wr HO1.out.w2.a; rw [HO1.out.d1, HE.out.1] at cX; (with_reducible refine cX.mono ?_); rintro e w' ⟨rfl, h9⟩; have h8 := h9.symm; clear h9; subst h8; clear cX)
              | (go_at_call 17; have cX := target_any B2 c2 (noN p) ts Sb wr HO1.out.w2.b; rw [HO1.out.d2] at cX; (with_reducible refine cX.mono ?_); rintro e w' ⟨rfl, h9⟩; have h8 := h9.symm; clear h9; subst h8; clear cX)
              | (go_at_call 10; have cX := pods_any B1 c1 (noN p) ts Sa wr HO1.out.w2.a (by rw [HE.out.2.1]; exact hlF); rw [HO1.out.d1, HE.out.2.1] at cX; (with_reducible refine cX.mono ?_); rintro e w5 ⟨rfl, hR5, hb5⟩; clear cX; have HO2 : Hid (OwS w B1 B2 D1 D2 (noN p) ts j c1 c2 Sa Sb w5) := HO1.out.below hb5)
              | (go_at_call 10; have cX := pods_any B2 c2 (noN p) ts Sb w5 HO2.out.w2.b hlF; rw [HO2.out.d2] at cX; (with_reducible refine cX.mono ?_); rintro e w6 ⟨rfl, hR6, hb6⟩; clear cX; have HO3 : Hid (OwS w B1 B2 D1 D2 (noN p) ts j c1 c2 Sa Sb w6) := HO2.out.below hb6)
              | (go_at_call 18; have cX := Flt.equal_pods _ _ Sb.F.L Sb.F.L.length Sb.F.L.length w6 (hR5.below hb6) hR6 hlF; (with_reducible refine cX.mono ?_); rintro e w7 ⟨rfl, q7, hq7⟩; clear cX; have HO4 : Hid (OwS w B1 B2 D1 D2 (noN p) ts j c1 c2 Sa Sb w7) := by
                  rw [hq7]
                  exact HO3.out.below (bdrewQ _ _)
                 clear hq7 hR5 hR6)
              | (go_at_call 12; have cX := requests_any B1 c1 (noN p) ts Sa w7 HO4.out.w2.a (by rw [HE.out.2.2.1]; exact hlR); rw [HO4.out.d1, HE.out.2.2.1] at cX; (with_reducible refine cX.mono ?_); rintro e w8 ⟨G8, rfl, hG8, hR8, hb8⟩; clear cX; have HO5 : Hid (OwS w B1 B2 D1 D2 (noN p) ts j c1 c2 Sa Sb w8) := HO4.out.below hb8)
              | (go_at_call 12; have cX := requests_any B2 c2 (noN p) ts Sb w8 HO5.out.w2.b hlR; rw [HO5.out.d2] at cX; (with_reducible refine cX.mono ?_); rintro e w9 ⟨G9, rfl, hG9, hR9, hb9⟩; clear cX; have HO6 : Hid (OwS w B1 B2 D1 D2 (noN p) ts j c1 c2 Sa Sb w9) := HO5.out.below hb9)
              | (go_at_call 19; have cX := Buf.equal_reqs _ _ Sb.R Sb.R.length Sb.R.length w9 (hR8.below hb9) hR9 (by omega); (with_reducible refine cX.mono ?_); rintro e w10 ⟨rfl, q10, hq10⟩; clear cX; have HO7 : Hid (OwS w B1 B2 D1 D2 (noN p) ts j c1 c2 Sa Sb w10) := by
                  rw [hq10]
                  exact HO6.out.below (bdrewQ _ _)
                 clear hq10 hR8 hR9)
              | (go_at_call 14; have cX := lagsW B1 c1 (noN p) ts Sa j (1000 * j) w10 HO7.out.w2.a HO7.out.ia (by omega); rw [HO7.out.d1, HE.out.2.2.2.1, HE.out.2.2.2.2.1, HE.out.2.2.2.2.2.1] at cX; (with_reducible refine cX.mono ?_); rintro e w11 ⟨G11, rfl, hG11, hR11, hb11⟩; clear cX; have HO8 : Hid (OwS w B1 B2 D1 D2 (noN p) ts j c1 c2 Sa Sb w11) := HO7.out.below hb11)
              | (go_at_call 14; have cX := lagsW B2 c2 (noN p) ts Sb j (1000 * j) w11 HO8.out.w2.b HO8.out.ib (by omega); rw [HO8.out.d2] at cX; (with_reducible refine cX.mono ?_); rintro e w12 ⟨G12, rfl, hG12, hR12, hb12⟩; clear cX; have HO9 : Hid (OwS w B1 B2 D1 D2 (noN p) ts j c1 c2 Sa Sb w12) := HO8.out.below hb12)
              | (go_at_call 20; have cX := equal_lags G11 G12 Sb.n _ w12 (row1_below hR11 hb12) hR12 hln; (with_reducible refine cX.mono ?_); rintro e w13 ⟨rfl, q13, hq13⟩; clear cX; have HO10 : Hid (OwS w B1 B2 D1 D2 (noN p) ts j c1 c2 Sa Sb w13) := by
                  rw [hq13]
                  exact HO9.out.below (bdrewQ _ _)
                 clear hq13 hR11 hR12)
              | (go_at_call 16; have cX := messages_any B1 c1 (noN p) ts Sa j (1000 * j) w13 HO10.out.w2.a HO10.out.ia; rw [HO10.out.d1, HE.out.2.2.2.2.2.2] at cX; (with_reducible refine cX.mono ?_); rintro e w14 ⟨G14, rfl, hG14, hR14, t14⟩; clear cX; obtain ⟨c5, h14, d14, m14⟩ := HO10.out.w2.left t14; clear t14; have HX14 : Hid (WAt w14 B2 c2 (noN p) ts Sb ∧ Below w.heap.size w w14 ∧ ¬ bk c2 ts G14) := ⟨h14.b, HO10.out.be.trans (m14.below (fun k hk => Nat.le_trans HO10.out.le (HO10.out.w2.a.low hk).1) HO10.out.be.size), fun e => absurd (HO10.out.w2.b.low e).2 (by omega)⟩; clear h14 d14 m14)
              | (go_at_call 16; have cX := messages_any B2 c2 (noN p) ts Sb j (1000 * j) w14 HX14.out.1 HO10.out.ib; rw [HO10.out.d2] at cX; (with_reducible refine cX.mono ?_); rintro e w15 ⟨G15, rfl, hG15, hR15, c6, a15, d15, m15⟩; clear cX; have hR16 := rowM_mv hR14 m15 HX14.out.2.2; have HX15 : Hid (Below w.heap.size w w15) := HX14.out.2.1.trans (m15.below (fun k hk => Nat.le_trans HO10.out.le (Nat.le_trans HO10.out.w2.le (HX14.out.1.low hk).1)) HX14.out.2.1.size); clear a15 d15 m15)
              | (go_at_call 21; have cX := Que.equal_msgs _ _ (Que.backL Sb.now Sb.qL) (Que.backL Sb.now Sb.qL).length (Que.backL Sb.now Sb.qL).length w15 hR16 hR15 hlM; (with_reducible refine cX.mono ?_); rintro e w16 ⟨rfl, q16, hq16⟩; clear cX))
            go_ret
            exact ⟨rfl, HX15.out.trans ((bdrewQ _ _).mono HX15.out.size)⟩
      · have hm' : (60 : Int) < (m : Int) := by omega
        obtain ⟨_, _, hO, _, _⟩ := HO.out
        have hbe := hO.be
        clear HO hO HA3 HA4 hPc hP3 HN2 HlX HTp
        go_wp2
        go_ret
        exact ⟨rfl, hbe⟩
    · have cN1 := new_no p (some ⟨G, 0, none⟩) (ts.length + 2) ts 3 2 0 wc hBc hi hl hTc hE
      have HN2 : Hid (∀ w3, Below wc.heap.size wc w3 → Calls Tryz.prog 5 #[planV p (.slice ta ts.length tc), .int .i64 3, .int .i64 2, .int .i64 0] w3 fun e w'' => e = .returned (.tuple #[.pointer none, .int .i64 (newE p ts 3 0)]) ∧ Below w3.heap.size w3 w'') := fun w3 hb => new_no p ta tc ts 3 2 0 w3 (hBc.below hb (Nat.le_refl _)) hi hl (HTp.out.below hb (Nat.le_refl _)) hE
      have dne : (newE p ts 3 0 != 0) = true := by rw [bne_iff_ne]; exact hE
      clear hXc hTc hWc h9c hbc hBc hE
      generalize newE p ts 3 0 = E at *
      go_wp2_with (first
        | (with_reducible refine wp_plan hP3 (by with_unfolding_all rfl) ?_)
        | (with_reducible refine wp_plan hlX (by with_unfolding_all rfl) ?_)
        | (go_at_call 5; (with_reducible refine cN1.mono ?_); rintro e w3 ⟨rfl, hb3⟩; clear cN1; have hP3 := hPc.on hb3 hzc; have cN2 := HN2.out w3 hb3; clear hlX)
        | (go_at_call 5; (with_reducible refine cN2.mono ?_); rintro e w4 ⟨rfl, hb4⟩; clear cN2))
      go_ret
      exact ⟨by simp, HBc.out.trans ((hb3.trans (hb4.mono hb3.size)).mono HBc.out.size)⟩
end
end Wld
end Go.Proofs.YtohbnchfjphaeaaGreatDoor
