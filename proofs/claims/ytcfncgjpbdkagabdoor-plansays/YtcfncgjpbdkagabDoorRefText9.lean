/- What the document's PlanText writes. -/
import Derived.Test.YtcfncgjpbdkagabDoorPrintFin
import Derived.Test.YtcfncgjpbdkagabDoorRefText
import Derived.Test.YtcfncgjpbdkagabDoorNewTr
import Derived.Deep.RegionHeld
namespace Go.Proofs.YtcfncgjpbdkagabDoor
namespace Pln
open Go.RowKit Lai Civ Crn RCrn
set_option maxRecDepth 8000
set_option linter.unusedSimpArgs false

theorem rtextK (c : K) (w : World) (u : Us c) (hc : kc c = true) :
    Calls Tryd.prog 30 #[kV c] w fun e w' => e = .returned (strV (kT c)) ∧ Below w.heap.size w w' :=
  rtext c.mi c.ho c.da c.mn c.we c.ad c.aw w u.u0 u.u1 u.u2 u.u3 u.u4 hc (words_len u.u0 u.u1 u.u2 u.u3 u.u4 hc)
theorem rline4 (word : List UInt8) (x y z u : Int) (B : Nat) (w : World) (hP : PowAt w) (hI : ∀ n ∈ [x, y, z, u], I n) (hw : word.length ≤ 100) (hc : ∀ (j : Nat) n, [x, y, z, u][j]? = some n → w.cell? ⟨B, j, none⟩ = some (.int .i64 n)) (hB : B < w.heap.size) :
    Calls Tryd.prog 28 #[.string ⟨word.toArray⟩, .slice (some ⟨B, 0, none⟩) 4 4] w fun e w' => e = .returned (strV (lnT word [x, y, z, u] ++ [10])) ∧ Below w.heap.size w w' :=
  rrow_any word [x, y, z, u] B 4 w hP (by simp) hI hw hc hB
theorem rline4n (nm : List UInt8) (x y z u : Int) (B : Nat) (w : World) (hP : PowAt w) (hI : ∀ n ∈ [x, y, z, u], I n) (hw : (wPlan ++ [32] ++ nm).length ≤ 100) (hc : ∀ (j : Nat) n, [x, y, z, u][j]? = some n → w.cell? ⟨B, j, none⟩ = some (.int .i64 n)) (hB : B < w.heap.size) :
    Calls Tryd.prog 28 #[.string ((⟨#[112, 108, 97, 110, 32]⟩ : ByteArray) ++ (⟨nm.toArray⟩ : ByteArray)), .slice (some ⟨B, 0, none⟩) 4 4] w fun e w' => e = .returned (strV (lnT (wPlan ++ [32] ++ nm) [x, y, z, u] ++ [10])) ∧ Below w.heap.size w w' := by
  rw [cat_name]; exact rline4 _ x y z u B w hP hI hw hc hB
theorem rline2 (word : List UInt8) (x y : Int) (B : Nat) (w : World) (hP : PowAt w) (hI : ∀ n ∈ [x, y], I n) (hw : word.length ≤ 100) (hc : ∀ (j : Nat) n, [x, y][j]? = some n → w.cell? ⟨B, j, none⟩ = some (.int .i64 n)) (hB : B < w.heap.size) :
    Calls Tryd.prog 28 #[.string ⟨word.toArray⟩, .slice (some ⟨B, 0, none⟩) 2 2] w fun e w' => e = .returned (strV (lnT word [x, y] ++ [10])) ∧ Below w.heap.size w w' :=
  rrow_any word [x, y] B 2 w hP (by simp) hI hw hc hB
/-- where PlanText stands: the plan, the world -/
structure PtS (w : World) (p : Pd) (sl : Value) (wr : World) : Prop where
  pl : PlAt wr w.heap.size p sl
  bel : Below w.heap.size w wr
  lt : w.heap.size < wr.heap.size
theorem PtS.below {w wr w' : World} {p : Pd} {sl : Value} (h : PtS w p sl wr) (hb : Below wr.heap.size wr w') : PtS w p sl w' :=
  ⟨h.pl.on hb h.lt, h.bel.trans (hb.mono h.bel.size), Nat.lt_of_lt_of_le h.lt hb.size⟩
/-- in the triggers -/
def RxR (w : World) (p : Pd) (sl : Value) (ts : List Tr) (o i : Value) (wr : World) : Prop := ∃ k : Nat, k ≤ ts.length ∧ i = .int .i64 k ∧ o = strV (hd4 p ++ tailT kT (ts.take k)) ∧ PtS w p sl wr
theorem TrAt.sp {w : World} {b : Nat} {t : Tr} (h : TrAt w b 0 t) : w.cell? ⟨b, 1, none⟩ = some (.int .i64 t.tg) ∧ w.cell? ⟨b, 3, none⟩ = some (.int .u64 t.a.mi) ∧ w.cell? ⟨b, 4, none⟩ = some (.int .u64 t.a.ho) ∧ w.cell? ⟨b, 5, none⟩ = some (.int .u64 t.a.da) ∧ w.cell? ⟨b, 6, none⟩ = some (.int .u64 t.a.mn) ∧ w.cell? ⟨b, 7, none⟩ = some (.int .u64 t.a.we) ∧ w.cell? ⟨b, 8, none⟩ = some (.bool t.a.ad) ∧ w.cell? ⟨b, 9, none⟩ = some (.bool t.a.aw) ∧ w.cell? ⟨b, 10, none⟩ = some (.int .u64 t.b.mi) ∧ w.cell? ⟨b, 11, none⟩ = some (.int .u64 t.b.ho) ∧ w.cell? ⟨b, 12, none⟩ = some (.int .u64 t.b.da) ∧ w.cell? ⟨b, 13, none⟩ = some (.int .u64 t.b.mn) ∧ w.cell? ⟨b, 14, none⟩ = some (.int .u64 t.b.we) ∧ w.cell? ⟨b, 15, none⟩ = some (.bool t.b.ad) ∧ w.cell? ⟨b, 16, none⟩ = some (.bool t.b.aw) := by
  have h1 := h.c1; have h3 := h.c3; have h4 := h.c4; have h5 := h.c5; have h6 := h.c6; have h7 := h.c7; have h8 := h.c8; have h9 := h.c9; have h10 := h.c10; have h11 := h.c11; have h12 := h.c12; have h13 := h.c13; have h14 := h.c14; have h15 := h.c15; have h16 := h.c16
  simp only [Nat.zero_add] at h1 h3 h4 h5 h6 h7 h8 h9 h10 h11 h12 h13 h14 h15 h16
  exact ⟨h1, h3, h4, h5, h6, h7, h8, h9, h10, h11, h12, h13, h14, h15, h16⟩
theorem beld {w w' : World} (h : Below w.drew.heap.size w.drew w') : Below w.heap.size w w' := ⟨h.os, h.tape, h.output, h.size, h.block⟩
theorem TrAt.drew {w : World} {b o : Nat} {t : Tr} (h : TrAt w b o t) : TrAt w.drew b o t := h.on (Below.refl (w.heap.size) w).drew (Lai.cell_lt h.c0)
theorem load_a {w : World} {b : Nat} {t : Tr} (h : TrAt w b 0 t) : (Instr.loadAt 24 (.pointer (some ⟨b, 3, none⟩))).run Tryd.prog w = .ok (kV t.a) w := by
  refine run_loadAt_mid w b 3 24 [.int .u64 t.a.mi, .int .u64 t.a.ho, .int .u64 t.a.da, .int .u64 t.a.mn, .int .u64 t.a.we, .bool t.a.ad, .bool t.a.aw] _ (fun j v hv => ?_) Tryd.underlying24 rfl (by kernel_rfl)
  match j, hv with
  | 0, hv => simp at hv; subst hv; simpa using h.c3
  | 1, hv => simp at hv; subst hv; simpa using h.c4
  | 2, hv => simp at hv; subst hv; simpa using h.c5
  | 3, hv => simp at hv; subst hv; simpa using h.c6
  | 4, hv => simp at hv; subst hv; simpa using h.c7
  | 5, hv => simp at hv; subst hv; simpa using h.c8
  | 6, hv => simp at hv; subst hv; simpa using h.c9
  | j + 7, hv => simp at hv
theorem load_b {w : World} {b : Nat} {t : Tr} (h : TrAt w b 0 t) : (Instr.loadAt 24 (.pointer (some ⟨b, 10, none⟩))).run Tryd.prog w = .ok (kV t.b) w := by
  refine run_loadAt_mid w b 10 24 [.int .u64 t.b.mi, .int .u64 t.b.ho, .int .u64 t.b.da, .int .u64 t.b.mn, .int .u64 t.b.we, .bool t.b.ad, .bool t.b.aw] _ (fun j v hv => ?_) Tryd.underlying24 rfl (by kernel_rfl)
  match j, hv with
  | 0, hv => simp at hv; subst hv; simpa using h.c10
  | 1, hv => simp at hv; subst hv; simpa using h.c11
  | 2, hv => simp at hv; subst hv; simpa using h.c12
  | 3, hv => simp at hv; subst hv; simpa using h.c13
  | 4, hv => simp at hv; subst hv; simpa using h.c14
  | 5, hv => simp at hv; subst hv; simpa using h.c15
  | 6, hv => simp at hv; subst hv; simpa using h.c16
  | j + 7, hv => simp at hv
theorem cat_two (a b : List UInt8) : (⟨a.toArray⟩ : ByteArray) ++ (⟨b.toArray⟩ : ByteArray) = ⟨(a ++ b).toArray⟩ := str_add a b
theorem cat_sp (T N A B : List UInt8) : Value.string ((⟨T.toArray⟩ : ByteArray) ++ (((((((⟨#[115, 112, 97, 110, 32]⟩ : ByteArray) ++ (⟨N.toArray⟩ : ByteArray)) ++ (⟨#[32]⟩ : ByteArray)) ++ (⟨A.toArray⟩ : ByteArray)) ++ (⟨#[32, 47, 32]⟩ : ByteArray)) ++ (⟨B.toArray⟩ : ByteArray)) ++ (⟨#[10]⟩ : ByteArray))) = strV (T ++ (wSpan ++ [32] ++ N ++ [32] ++ A ++ [32, 47, 32] ++ B ++ [10])) := by
  rw [cat_span, str_add]
theorem dal2 (W : World) (o q : Obj) : Below W.heap.size W ((W.alloc o).alloc q).drew := (((Below.refl W.heap.size W).alloc (Nat.le_refl _) o).alloc (by simp) q).drew
theorem two_first (W : World) (x y : Int) (A : Array Value) (ta : TypeId) : ∀ (j : Nat) n, [x, y][j]? = some n → ((W.alloc (.cells #[.int .i64 x, .int .i64 y] 3)).alloc (.cells A ta)).cell? ⟨W.heap.size, j, none⟩ = some (.int .i64 n) := by
  intro j n hj
  have e : ∀ j, ((W.alloc (.cells #[.int .i64 x, .int .i64 y] 3)).alloc (.cells A ta)).cell? ⟨W.heap.size, j, none⟩ = (W.alloc (.cells #[.int .i64 x, .int .i64 y] 3)).cell? ⟨W.heap.size, j, none⟩ := fun j => (balloc _).cell (p := ⟨W.heap.size, j, none⟩) (by simp)
  match j, hj with
  | 0, hj => simp at hj; subst hj; rw [e]; simp
  | 1, hj => simp at hj; subst hj; rw [e]; simp
  | j + 2, hj => simp at hj
theorem keep3 {W w' : World} {b : Nat} {x y z : Value} (h : W.cell? ⟨b, 0, none⟩ = some x ∧ W.cell? ⟨b, 1, none⟩ = some y ∧ W.cell? ⟨b, 2, none⟩ = some z) (hb : Below W.heap.size W w') (hz : b < W.heap.size) : w'.cell? ⟨b, 0, none⟩ = some x ∧ w'.cell? ⟨b, 1, none⟩ = some y ∧ w'.cell? ⟨b, 2, none⟩ = some z :=
  ⟨(hb.cell (p := ⟨b, 0, none⟩) hz).trans h.1, (hb.cell (p := ⟨b, 1, none⟩) hz).trans h.2.1, (hb.cell (p := ⟨b, 2, none⟩) hz).trans h.2.2⟩
set_option maxHeartbeats 8000000 in
theorem rtext_ok (p : Pd) (ts : List Tr) (a : Option Addr) (cap : Nat) (w : World) (hP : PowAt w) (hi : PdI p) (hTr : TrsAt w a ts) (hU : ∀ t ∈ ts, TrU t) (h : chkP p ts = 0) :
    Calls Tryd.prog 14 #[planV p (.slice a ts.length cap)] w fun e w' => e = .returned (strV (planT kT p ts)) ∧ Below w.heap.size w w' := by
  obtain ⟨h1, h2, h3, h4⟩ := chk_parts h
  have hln := nm_len h1
  have S0 : PtS w p (.slice a ts.length cap) (w.alloc (.cells (planC p (.slice a ts.length cap)) 44)) := ⟨PlAt.new' w p (.slice a ts.length cap) 44, balloc _, by simp⟩
  have hPs : ∀ {W : World}, PtS w p (.slice a ts.length cap) W → PowAt W := fun h => hP.below h.bel (Nat.le_refl _)
  have i1 := I4 hi.mn hi.mx hi.po hi.co
  have i2 := I4 hi.tl hi.bk hi.af hi.sh
  have i3 := I4 hi.uw hi.up hi.uc hi.ue
  have i4 := I4 hi.dw hi.dp hi.dc hi.de
  have m1 : (wPlan ++ [32] ++ p.nm).length ≤ 100 := by simp; omega
  have n1 := len4 m1 i1
  have n2 := len4 (word := wRest) (by decide) i2
  have n3 := len4 (word := wUp) (by decide) i3
  have n4 := len4 (word := wDown) (by decide) i4
  obtain ⟨T1, hT1⟩ : ∃ T, T = lnT (wPlan ++ [32] ++ p.nm) [p.mn, p.mx, p.po, p.co] ++ [10] := ⟨_, rfl⟩
  obtain ⟨T2, hT2⟩ : ∃ T, T = lnT wRest [p.tl, p.bk, p.af, p.sh] ++ [10] := ⟨_, rfl⟩
  obtain ⟨T3, hT3⟩ : ∃ T, T = lnT wUp [p.uw, p.up, p.uc, p.ue] ++ [10] := ⟨_, rfl⟩
  obtain ⟨T4, hT4⟩ : ∃ T, T = lnT wDown [p.dw, p.dp, p.dc, p.de] ++ [10] := ⟨_, rfl⟩
  have k1 := fun B w hP hc hB => rline4n p.nm p.mn p.mx p.po p.co B w hP i1 m1 hc hB
  have k2 := fun B w hP hc hB => rline4 [114, 101, 115, 116] p.tl p.bk p.af p.sh B w hP i2 (by decide) hc hB
  have k3 := fun B w hP hc hB => rline4 [117, 112] p.uw p.up p.uc p.ue B w hP i3 (by decide) hc hB
  have k4 := fun B w hP hc hB => rline4 [100, 111, 119, 110] p.dw p.dp p.dc p.de B w hP i4 (by decide) hc hB
  rw [← hT1] at k1 n1
  rw [← hT2] at k2 n2
  rw [← hT3] at k3 n3
  rw [← hT4] at k4 n4
  have HH : Hid (T1 ++ T2 ++ T3 ++ T4 = hd4 p) := by unfold Hid hd4 hd3 hd2 hd1; rw [hT1, hT2, hT3, hT4, List.nil_append]
  clear hT1 hT2 hT3 hT4 i1 i2 i3 i4 m1 h1 h3 h
  have z0 : (⟨p.nm.toArray⟩ : ByteArray).size = p.nm.length := rfl
  have z1 : (⟨T1.toArray⟩ : ByteArray).size = T1.length := rfl
  have z2 : (⟨T2.toArray⟩ : ByteArray).size = T2.length := rfl
  have z3 : (⟨T3.toArray⟩ : ByteArray).size = T3.length := rfl
  have z4 : (⟨T4.toArray⟩ : ByteArray).size = T4.length := rfl
  have q0 := S0.pl.c0; have q1 := S0.pl.c1; have q2 := S0.pl.c2; have q3 := S0.pl.c3; have q4 := S0.pl.c4
  go_enter Tryd.func14, Tryd.ntmps14
  go_wp2_with (first
    | (go_at_call 28; (with_reducible refine (k1 (w.heap.size + 1) _ (hPs (S0.below (balloc _))) (four_cells _ _ _ _ _ _ (by simp)) (by simp)).mono ?_); rintro e w2 ⟨rfl, hb2⟩; have S1 := (S0.below (balloc _)).below hb2; clear q0 q1 q2 q3 q4; have r0 := S1.pl.c5; have r1 := S1.pl.c6; have r2 := S1.pl.c7; have r3 := S1.pl.c8)
    | (go_at_call 28; (with_reducible refine (k2 w2.heap.size _ (hPs (S1.below (balloc _))) (four_cells _ _ _ _ _ _ rfl) (by simp)).mono ?_); rintro e w4 ⟨rfl, hb4⟩; have S2 := (S1.below (balloc _)).below hb4; clear r0 r1 r2 r3; have r0 := S2.pl.c9; have r1 := S2.pl.c10; have r2 := S2.pl.c11; have r3 := S2.pl.c12)
    | (go_at_call 28; (with_reducible refine (k3 w4.heap.size _ (hPs (S2.below (balloc _))) (four_cells _ _ _ _ _ _ rfl) (by simp)).mono ?_); rintro e w6 ⟨rfl, hb6⟩; have S3 := (S2.below (balloc _)).below hb6; clear r0 r1 r2 r3; have r0 := S3.pl.c13; have r1 := S3.pl.c14; have r2 := S3.pl.c15; have r3 := S3.pl.c16)
    | (go_at_call 28; (with_reducible refine (k4 w6.heap.size _ (hPs (S3.below (balloc _))) (four_cells _ _ _ _ _ _ rfl) (by simp)).mono ?_); rintro e w8 ⟨rfl, hb8⟩; have S4 := (S3.below (balloc _)).below hb8; clear r0 r1 r2 r3))
  have H4 : Hid ((hd4 p).length ≤ 800) := by unfold Hid; rw [← HH.out]; simp only [List.length_append]; omega
  clear S0 S1 S2 S3 hb2 hb4 hb6 hb8 k1 k2 k3 k4
  go_loopw [3, 4] (fun o i wr => RxR w p (.slice a ts.length cap) ts o i wr) (fun _ i _ => ts.length - (intOf i).toNat)
  case atStart => exact ⟨0, Nat.zero_le _, rfl, by rw [show tailT kT (ts.take 0) = [] from rfl, List.append_nil, cat_two, cat_two, cat_two, HH.out], S4⟩
  case round =>
    clear S4
    obtain ⟨k, hk1, rfl, rfl, S9⟩ := hrel
    have lt9 : (hd4 p ++ tailT kT (ts.take k)).length ≤ 100000 := by
      have := tail_len (ts := ts) (fun t ht => tr_len (hU t ht) (h4 t ht)) k
      have := H4.out
      rw [List.length_append]; omega
    have r17 := S9.pl.c17
    by_cases hlt : k < ts.length
    · have hlt' : (k : Int) < ts.length := by omega
      obtain ⟨t, hx⟩ : ∃ x, ts[k]? = some x := ⟨ts[k], by simp [hlt]⟩
      have hm := List.mem_of_getElem? hx
      obtain ⟨b, off, rfl, hbl, hE⟩ := (hTr.below S9.bel (Nat.le_refl _)).elem hx
      have hN := TrAt.new wr t 63
      have lT := tr_len (hU t hm) (h4 t hm)
      have ut := hU t hm
      have hb := h4 t hm
      have HX : Hid (hd4 p ++ tailT kT (ts.take (k + 1)) = hd4 p ++ tailT kT (ts.take k) ++ (trT kT t ++ [10])) := by unfold Hid; rw [tail_step hx, List.append_assoc]
      have SA := S9.below (balloc (.cells (trC t) 63))
      have hPA := hP.below SA.bel (Nat.le_refl _)
      generalize hd4 p ++ tailT kT (ts.take k) = TX at lt9 HX ⊢
      clear hx hm hTr hU h4
      obtain ⟨tk, tg, ac, ka, kb⟩ := t
      by_cases h3 : tk = 3
      · subst h3
        obtain ⟨g1, g2, g3, g4⟩ : rg tg 1 50 = true ∧ ac = 0 ∧ kc ka = true ∧ kc kb = true := by
          unfold trB at hb
          dsimp only at hb
          rw [if_pos rfl] at hb
          simpa only [Bool.and_eq_true, decide_eq_true_eq] using hb
        have HT : Hid (trT kT ⟨3, tg, ac, ka, kb⟩ = wSpan ++ [32] ++ Lib.itoa tg ++ [32] ++ kT ka ++ [32, 47, 32] ++ kT kb) := rfl
        have c1 := fun w => rtextK ka w ut.a g3
        have c2 := fun w => rtextK kb w ut.b g4
        have c3 := fun w hP => itoa_any tg ut.tg w hP
        have l1 := kT_len ka ut.a g3
        have l2 := kT_len kb ut.b g4
        have l3 : (Lib.itoa tg).length ≤ 20 := itoa_len20 ut.tg
        clear hb g1 g2 g3 g4 ut
        rw [HT.out] at HX lT
        generalize kT ka = A1 at c1 l1 HX lT
        generalize kT kb = A2 at c2 l2 HX lT
        generalize Lib.itoa tg = N1 at c3 l3 HX lT
        have y1 : (⟨A1.toArray⟩ : ByteArray).size = A1.length := rfl
        have y2 : (⟨A2.toArray⟩ : ByteArray).size = A2.length := rfl
        have y3 : (⟨N1.toArray⟩ : ByteArray).size = N1.length := rfl
        have y4 : (⟨TX.toArray⟩ : ByteArray).size = TX.length := rfl
        go_wp2_with (first
          | (with_reducible refine wp_tr hE (by with_unfolding_all rfl) ?_)
          | (with_reducible refine wp_newTr hN (by with_unfolding_all rfl) (by with_unfolding_all rfl) ?_))
        have hPD : PowAt (wr.alloc (.cells (trC ⟨3, tg, ac, ka, kb⟩) 63)).drew := hPA.below ((Below.refl _ _).drew) (Nat.le_refl _)
        have hz : wr.heap.size < (wr.alloc (.cells (trC ⟨3, tg, ac, ka, kb⟩) 63)).heap.size := by simp
        obtain ⟨tt, htt⟩ : ∃ t : Tr, t = ⟨3, tg, ac, ka, kb⟩ := ⟨_, rfl⟩
        generalize hW0 : wr.alloc (.cells (trC ⟨3, tg, ac, ka, kb⟩) 63) = W0 at hN SA hPA hPD hz ⊢
        rw [← htt] at hN
        have o1 : ∀ {W : World}, TrAt W wr.heap.size 0 tt → W.cell? ⟨wr.heap.size, 1, none⟩ = some (.int .i64 tg) := fun h => by have := h.end7.1; rw [htt] at this; exact this
        have o15 : ∀ {W : World}, TrAt W wr.heap.size 0 tt → W.cell? ⟨wr.heap.size, 1, none⟩ = some (.int .i64 tg) ∧ W.cell? ⟨wr.heap.size, 3, none⟩ = some (.int .u64 ka.mi) ∧ W.cell? ⟨wr.heap.size, 4, none⟩ = some (.int .u64 ka.ho) ∧ W.cell? ⟨wr.heap.size, 5, none⟩ = some (.int .u64 ka.da) ∧ W.cell? ⟨wr.heap.size, 6, none⟩ = some (.int .u64 ka.mn) ∧ W.cell? ⟨wr.heap.size, 7, none⟩ = some (.int .u64 ka.we) ∧ W.cell? ⟨wr.heap.size, 8, none⟩ = some (.bool ka.ad) ∧ W.cell? ⟨wr.heap.size, 9, none⟩ = some (.bool ka.aw) ∧ W.cell? ⟨wr.heap.size, 10, none⟩ = some (.int .u64 kb.mi) ∧ W.cell? ⟨wr.heap.size, 11, none⟩ = some (.int .u64 kb.ho) ∧ W.cell? ⟨wr.heap.size, 12, none⟩ = some (.int .u64 kb.da) ∧ W.cell? ⟨wr.heap.size, 13, none⟩ = some (.int .u64 kb.mn) ∧ W.cell? ⟨wr.heap.size, 14, none⟩ = some (.int .u64 kb.we) ∧ W.cell? ⟨wr.heap.size, 15, none⟩ = some (.bool kb.ad) ∧ W.cell? ⟨wr.heap.size, 16, none⟩ = some (.bool kb.aw) := fun h => by have := h.sp; rw [htt] at this; exact this
        have sA := o15 hN
        have sE := o15 hN.drew
        have hND : Hid (TrAt W0 wr.heap.size 0 tt) := hN
        clear htt hW0 o1 hN
        go_region_held (fun w' => w'.cell? ⟨wr.heap.size, 1, none⟩ = some (.int .i64 tg) ∧ w'.cell? ⟨wr.heap.size, 3, none⟩ = some (.int .u64 ka.mi) ∧ w'.cell? ⟨wr.heap.size, 4, none⟩ = some (.int .u64 ka.ho) ∧ w'.cell? ⟨wr.heap.size, 5, none⟩ = some (.int .u64 ka.da) ∧ w'.cell? ⟨wr.heap.size, 6, none⟩ = some (.int .u64 ka.mn) ∧ w'.cell? ⟨wr.heap.size, 7, none⟩ = some (.int .u64 ka.we) ∧ w'.cell? ⟨wr.heap.size, 8, none⟩ = some (.bool ka.ad) ∧ w'.cell? ⟨wr.heap.size, 9, none⟩ = some (.bool ka.aw) ∧ w'.cell? ⟨wr.heap.size, 10, none⟩ = some (.int .u64 kb.mi) ∧ w'.cell? ⟨wr.heap.size, 11, none⟩ = some (.int .u64 kb.ho) ∧ w'.cell? ⟨wr.heap.size, 12, none⟩ = some (.int .u64 kb.da) ∧ w'.cell? ⟨wr.heap.size, 13, none⟩ = some (.int .u64 kb.mn) ∧ w'.cell? ⟨wr.heap.size, 14, none⟩ = some (.int .u64 kb.we) ∧ w'.cell? ⟨wr.heap.size, 15, none⟩ = some (.bool kb.ad) ∧ w'.cell? ⟨wr.heap.size, 16, none⟩ = some (.bool kb.aw)) (first | (with_reducible exact sA) | (with_reducible exact sE) | (with_reducible exact sB) | (with_reducible exact sC) | (with_reducible exact sD)) (first
          | (go_at_call 29; (with_reducible refine (c3 _ hPD).mono ?_); rintro e w10 ⟨rfl, hb10'⟩; have hb10 := beld hb10'; have hN10 : Hid (TrAt w10 wr.heap.size 0 tt) := hND.out.on hb10 hz; have hz10 := Nat.lt_of_lt_of_le hz hb10.size; have S10 := SA.below hb10; have sB := o15 hN10.out; clear sA sE)
          | (go_at_call 30; (with_reducible refine (c1 _).mono ?_); rintro e w11 ⟨rfl, hb11⟩; have hN11 : Hid (TrAt w11 wr.heap.size 0 tt) := hN10.out.on hb11 hz10; have hz11 := Nat.lt_of_lt_of_le hz10 hb11.size; have S11 := S10.below hb11; have sC := o15 hN11.out; clear sB)
          | (go_at_call 30; (with_reducible refine (c2 _).mono ?_); rintro e w12 ⟨rfl, hb12⟩; have hN12 : Hid (TrAt w12 wr.heap.size 0 tt) := hN11.out.on hb12 hz11; have S12 := S11.below hb12; have sD := o15 hN12.out; clear sC))
        all_goals
          go_wp2
          first
            | (go_roundw
               case rel => exact ⟨k + 1, by omega, rfl, by rw [HX.out]; exact cat_sp TX N1 A1 A2, S12⟩
               case measure => simp [intOf]; omega)
            | (refine ⟨?_, ?measure⟩
               (repeat apply Exists.intro)
               refine ⟨?rel, rfl⟩
               case rel => exact ⟨k + 1, by omega, rfl, by rw [HX.out]; exact cat_sp TX N1 A1 A2, S12⟩
               case measure => simp [intOf]; omega)
      · have h3' : (tk == 3) = false := by rw [beq_eq_false_iff_ne]; exact h3
        have h12 : tk = 1 ∨ tk = 2 := by
          unfold trB at hb
          dsimp only at hb
          rw [if_neg h3] at hb
          simp only [Bool.and_eq_true, decide_eq_true_eq] at hb
          exact hb.1
        have hI : ∀ n ∈ [tg, ac], I n := fun n hn => by
          simp only [List.mem_cons, List.not_mem_nil, or_false] at hn
          rcases hn with rfl | rfl
          · exact ut.tg
          · exact ut.ac
        have y4 : (⟨TX.toArray⟩ : ByteArray).size = TX.length := rfl
        have sA : (wr.alloc (.cells (trC ⟨tk, tg, ac, ka, kb⟩) 63)).cell? ⟨wr.heap.size, 0, none⟩ = some (.int .i64 tk) ∧ (wr.alloc (.cells (trC ⟨tk, tg, ac, ka, kb⟩) 63)).cell? ⟨wr.heap.size, 1, none⟩ = some (.int .i64 tg) ∧ (wr.alloc (.cells (trC ⟨tk, tg, ac, ka, kb⟩) 63)).cell? ⟨wr.heap.size, 2, none⟩ = some (.int .i64 ac) := ⟨by simp, by simp, by simp⟩
        have hz : wr.heap.size < (wr.alloc (.cells (trC ⟨tk, tg, ac, ka, kb⟩) 63)).heap.size := by simp
        clear hb ut
        rcases h12 with rfl | rfl
        · go_wp2_with (first
            | (with_reducible refine wp_tr hE (by with_unfolding_all rfl) ?_)
            | (with_reducible refine wp_newTr hN (by with_unfolding_all rfl) (by with_unfolding_all rfl) ?_))
          generalize wr.alloc (.cells (trC ⟨1, tg, ac, ka, kb⟩) 63) = W0 at hN SA hPA hz sA ⊢
          clear hN hE
          have HT : Hid (trT kT ⟨1, tg, ac, ka, kb⟩ = lnT wLag [tg, ac]) := rfl
          rw [HT.out] at HX lT
          have hPR : ∀ o q, PowAt ((W0.alloc o).alloc q).drew := fun o q => hPA.below (dal2 W0 o q) (Nat.le_refl _)
          have hcA : ∀ (j : Nat) n, [tg, ac][j]? = some n → ((W0.alloc (.cells #[.string ⟨#[]⟩, .string ⟨#[108, 97, 103]⟩, .string ⟨#[100, 101, 112, 116, 104]⟩] 9)).alloc (.cells #[.int .i64 tg, .int .i64 ac] 3)).drew.cell? ⟨W0.heap.size + 1, j, none⟩ = some (.int .i64 n) := two_cells W0 _ _ tg ac
          have hcB : ∀ (j : Nat) n, [tg, ac][j]? = some n → ((W0.alloc (.cells #[.int .i64 tg, .int .i64 ac] 3)).alloc (.cells #[.string ⟨#[]⟩, .string ⟨#[108, 97, 103]⟩, .string ⟨#[100, 101, 112, 116, 104]⟩] 9)).drew.cell? ⟨W0.heap.size, j, none⟩ = some (.int .i64 n) := two_first W0 tg ac _ _
          have cA := rline2 [108, 97, 103] tg ac (W0.heap.size + 1) _ (hPR _ _) hI (by decide) hcA (by simp)
          have cB := rline2 [108, 97, 103] tg ac W0.heap.size _ (hPR _ _) hI (by decide) hcB (by simp; omega)
          rw [show lnT [108, 97, 103] [tg, ac] = lnT wLag [tg, ac] from rfl] at cA cB
          obtain ⟨TL, hTL⟩ : ∃ T, T = lnT wLag [tg, ac] ++ [10] := ⟨_, rfl⟩
          rw [← hTL] at cA cB HX lT
          clear hTL HT hcA hcB
          have yL : (⟨TL.toArray⟩ : ByteArray).size = TL.length := rfl
          have hadd : ¬ (9223372036854775807 < TX.length + TL.length) := by omega
          refine wp_region_held_drew (S := (fun w' => w'.cell? ⟨wr.heap.size, 0, none⟩ = some (.int .i64 1) ∧ w'.cell? ⟨wr.heap.size, 1, none⟩ = some (.int .i64 tg) ∧ w'.cell? ⟨wr.heap.size, 2, none⟩ = some (.int .i64 ac))) (by kernel_rfl) ?_ (fun hHeld => ?_)
          · go_keep
          refine wpAnyH_take (i := 0) (oi := _) (v := ?_) rfl (by kernel_rfl) (by kernel_rfl) (by kernel_rfl) (fun _ _ _ h => h) (Or.inl ⟨by rfl, ?_⟩) (by assumption) ?_
          rotate_left
          · intro w' hSw
            (try dsimp only at hSw)
            go_simp
            all_goals with_reducible rfl
          (try simp only [Act.put, List.setIfInBounds_toArray, List.set_cons_zero, List.set_cons_succ])
          refine wpAnyH_take (i := 2) (oi := _) (v := ?_) rfl (by kernel_rfl) (by kernel_rfl) (by kernel_rfl) (fun _ _ _ h => h) (Or.inl ⟨by rfl, ?_⟩) (by assumption) ?_
          rotate_left
          · intro w' hSw
            (try dsimp only at hSw)
            go_simp
            all_goals with_reducible rfl
          (try simp only [Act.put, List.setIfInBounds_toArray, List.set_cons_zero, List.set_cons_succ])
          refine wpAnyH_take (i := 3) (oi := _) (v := ?_) rfl (by kernel_rfl) (by kernel_rfl) (by kernel_rfl) (fun _ _ _ h => h) (Or.inl ⟨by rfl, ?_⟩) (by assumption) ?_
          rotate_left
          · intro w' hSw
            (try dsimp only at hSw)
            go_simp
            all_goals with_reducible rfl
          (try simp only [Act.put, List.setIfInBounds_toArray, List.set_cons_zero, List.set_cons_succ])
          refine wpAnyH_take (i := 6) (oi := _) (v := ?_) rfl (by kernel_rfl) (by kernel_rfl) (by kernel_rfl) (fun _ _ _ h => h) (Or.inl ⟨by rfl, ?_⟩) (by assumption) ?_
          rotate_left
          · intro w' hSw
            (try dsimp only at hSw)
            go_simp
            all_goals with_reducible rfl
          (try simp only [Act.put, List.setIfInBounds_toArray, List.set_cons_zero, List.set_cons_succ])
          refine wpAnyH_take (i := 7) (oi := _) (v := ?_) rfl (by kernel_rfl) (by kernel_rfl) (by kernel_rfl) (fun _ _ _ h => h) (Or.inl ⟨by rfl, ?_⟩) (by assumption) ?_
          rotate_left
          · intro w' hSw
            (try dsimp only at hSw)
            go_simp
            all_goals with_reducible rfl
          (try simp only [Act.put, List.setIfInBounds_toArray, List.set_cons_zero, List.set_cons_succ])
          refine wpAnyH_take (i := 8) (oi := _) (v := ?_) rfl (by kernel_rfl) (by kernel_rfl) (by kernel_rfl) (fun _ _ _ h => h) (Or.inl ⟨by rfl, ?_⟩) (by assumption) ?_
          rotate_left
          · intro w' hSw
            (try dsimp only at hSw)
            go_simp
            all_goals with_reducible rfl
          (try simp only [Act.put, List.setIfInBounds_toArray, List.set_cons_zero, List.set_cons_succ])
          refine wpAnyH_take (i := 9) (oi := _) (v := ?_) rfl (by kernel_rfl) (by kernel_rfl) (by kernel_rfl) (fun _ _ _ h => h) (Or.inl ⟨by rfl, ?_⟩) (by assumption) ?_
          rotate_left
          · intro w' hSw
            (try dsimp only at hSw)
            go_simp
            all_goals with_reducible rfl
          (try simp only [Act.put, List.setIfInBounds_toArray, List.set_cons_zero, List.set_cons_succ])
          refine wpAnyH_ready (rs := [1, 10]) (by kernel_rfl) (by simp) ?_
          refine AllReadyH.cons rfl (fun K hK => ?_) (AllReadyH.cons rfl (fun K hK => ?_) AllReadyH.nil)
          · go_simp
            refine hK.out _ _ ?_ (fun hHeld => ?_)
            · go_keep
            clear hK K
            refine wpAnyH_take (i := 4) (oi := _) (v := ?_) rfl (by kernel_rfl) (by kernel_rfl) (by kernel_rfl) (fun _ _ _ h => h) (Or.inl ⟨by rfl, ?_⟩) (by assumption) ?_
            rotate_left
            · intro w' hSw
              (try dsimp only at hSw)
              go_simp
              all_goals with_reducible rfl
            (try simp only [Act.put, List.setIfInBounds_toArray, List.set_cons_zero, List.set_cons_succ])
            refine wpAnyH_ready (rs := [5, 10]) (by kernel_rfl) (by simp) ?_
            refine AllReadyH.cons rfl (fun K hK => ?_) (AllReadyH.cons rfl (fun K hK => ?_) AllReadyH.nil)
            · go_simp
              refine hK.out _ _ ?_ (fun hHeld => ?_)
              · go_keep
              clear hK K
              refine wpAnyH_ready (rs := [10]) (by kernel_rfl) (by simp) ?_
              refine AllReadyH.cons rfl (fun K hK => ?_) AllReadyH.nil
              · go_simp
                refine hK.out _ _ ?_ (fun hHeld => ?_)
                · go_keep
                clear hK K
                refine wpAnyH_ready (rs := [11]) (by kernel_rfl) (by simp) ?_
                refine AllReadyH.cons rfl (fun K hK => ?_) AllReadyH.nil
                · go_simp
                  go_wp2_with (first | (go_at_call 28; (with_reducible refine cA.mono ?_); rintro e w10 ⟨rfl, hb10⟩; have S10 := (SA.below (dal2 W0 _ _)).below hb10; obtain ⟨t0, t1, t2⟩ := keep3 sA ((dal2 W0 _ _).trans (hb10.mono (dal2 W0 _ _).size)) hz) | (go_at_call 28; (with_reducible refine cB.mono ?_); rintro e w10 ⟨rfl, hb10⟩; have S10 := (SA.below (dal2 W0 _ _)).below hb10; obtain ⟨t0, t1, t2⟩ := keep3 sA ((dal2 W0 _ _).trans (hb10.mono (dal2 W0 _ _).size)) hz))
                  refine hK.out _ _ ?_ (fun hHeld => ?_)
                  · go_keep
                  clear hK K
                  refine wpAnyH_take (i := 12) (oi := _) (v := ?_) rfl (by kernel_rfl) (by kernel_rfl) (by kernel_rfl) (fun _ _ _ h => h) (Or.inl ⟨by rfl, ?_⟩) (by assumption) ?_
                  rotate_left
                  · intro w' hSw
                    (try dsimp only at hSw)
                    go_simp
                    all_goals with_reducible rfl
                  (try simp only [Act.put, List.setIfInBounds_toArray, List.set_cons_zero, List.set_cons_succ])
                  refine wpAnyH_take (i := 13) (oi := _) (v := ?_) rfl (by kernel_rfl) (by kernel_rfl) (by kernel_rfl) (fun _ _ _ h => h) (Or.inl ⟨by rfl, ?_⟩) (by assumption) ?_
                  rotate_left
                  · intro w' hSw
                    (try dsimp only at hSw)
                    go_simp
                    all_goals with_reducible rfl
                  (try simp only [Act.put, List.setIfInBounds_toArray, List.set_cons_zero, List.set_cons_succ])
                  refine wpAnyH_done (by kernel_rfl) ?_ _
                  go_wp2
                  first
                    | (go_roundw
                       case rel => exact ⟨k + 1, by omega, rfl, by rw [HX.out]; exact congrArg Value.string (cat_two TX TL), S10⟩
                       case measure => simp [intOf]; omega)
                    | (refine ⟨?_, ?measure⟩
                       (repeat apply Exists.intro)
                       refine ⟨?rel, rfl⟩
                       case rel => exact ⟨k + 1, by omega, rfl, by rw [HX.out]; exact congrArg Value.string (cat_two TX TL), S10⟩
                       case measure => simp [intOf]; omega)
            · go_simp
              refine hK.out _ _ ?_ (fun hHeld => ?_)
              · go_keep
              clear hK K
              refine wpAnyH_ready (rs := [5]) (by kernel_rfl) (by simp) ?_
              refine AllReadyH.cons rfl (fun K hK => ?_) AllReadyH.nil
              · go_simp
                refine hK.out _ _ ?_ (fun hHeld => ?_)
                · go_keep
                clear hK K
                refine wpAnyH_ready (rs := [11]) (by kernel_rfl) (by simp) ?_
                refine AllReadyH.cons rfl (fun K hK => ?_) AllReadyH.nil
                · go_simp
                  go_wp2_with (first | (go_at_call 28; (with_reducible refine cA.mono ?_); rintro e w10 ⟨rfl, hb10⟩; have S10 := (SA.below (dal2 W0 _ _)).below hb10; obtain ⟨t0, t1, t2⟩ := keep3 sA ((dal2 W0 _ _).trans (hb10.mono (dal2 W0 _ _).size)) hz) | (go_at_call 28; (with_reducible refine cB.mono ?_); rintro e w10 ⟨rfl, hb10⟩; have S10 := (SA.below (dal2 W0 _ _)).below hb10; obtain ⟨t0, t1, t2⟩ := keep3 sA ((dal2 W0 _ _).trans (hb10.mono (dal2 W0 _ _).size)) hz))
                  refine hK.out _ _ ?_ (fun hHeld => ?_)
                  · go_keep
                  clear hK K
                  refine wpAnyH_take (i := 12) (oi := _) (v := ?_) rfl (by kernel_rfl) (by kernel_rfl) (by kernel_rfl) (fun _ _ _ h => h) (Or.inl ⟨by rfl, ?_⟩) (by assumption) ?_
                  rotate_left
                  · intro w' hSw
                    (try dsimp only at hSw)
                    go_simp
                    all_goals with_reducible rfl
                  (try simp only [Act.put, List.setIfInBounds_toArray, List.set_cons_zero, List.set_cons_succ])
                  refine wpAnyH_take (i := 13) (oi := _) (v := ?_) rfl (by kernel_rfl) (by kernel_rfl) (by kernel_rfl) (fun _ _ _ h => h) (Or.inl ⟨by rfl, ?_⟩) (by assumption) ?_
                  rotate_left
                  · intro w' hSw
                    (try dsimp only at hSw)
                    go_simp
                    all_goals with_reducible rfl
                  (try simp only [Act.put, List.setIfInBounds_toArray, List.set_cons_zero, List.set_cons_succ])
                  refine wpAnyH_done (by kernel_rfl) ?_ _
                  go_wp2
                  first
                    | (go_roundw
                       case rel => exact ⟨k + 1, by omega, rfl, by rw [HX.out]; exact congrArg Value.string (cat_two TX TL), S10⟩
                       case measure => simp [intOf]; omega)
                    | (refine ⟨?_, ?measure⟩
                       (repeat apply Exists.intro)
                       refine ⟨?rel, rfl⟩
                       case rel => exact ⟨k + 1, by omega, rfl, by rw [HX.out]; exact congrArg Value.string (cat_two TX TL), S10⟩
                       case measure => simp [intOf]; omega)
          · go_simp
            refine hK.out _ _ ?_ (fun hHeld => ?_)
            · go_keep
            clear hK K
            refine wpAnyH_ready (rs := [1]) (by kernel_rfl) (by simp) ?_
            refine AllReadyH.cons rfl (fun K hK => ?_) AllReadyH.nil
            · go_simp
              refine hK.out _ _ ?_ (fun hHeld => ?_)
              · go_keep
              clear hK K
              refine wpAnyH_take (i := 4) (oi := _) (v := ?_) rfl (by kernel_rfl) (by kernel_rfl) (by kernel_rfl) (fun _ _ _ h => h) (Or.inl ⟨by rfl, ?_⟩) (by assumption) ?_
              rotate_left
              · intro w' hSw
                (try dsimp only at hSw)
                go_simp
                all_goals with_reducible rfl
              (try simp only [Act.put, List.setIfInBounds_toArray, List.set_cons_zero, List.set_cons_succ])
              refine wpAnyH_ready (rs := [5]) (by kernel_rfl) (by simp) ?_
              refine AllReadyH.cons rfl (fun K hK => ?_) AllReadyH.nil
              · go_simp
                refine hK.out _ _ ?_ (fun hHeld => ?_)
                · go_keep
                clear hK K
                refine wpAnyH_ready (rs := [11]) (by kernel_rfl) (by simp) ?_
                refine AllReadyH.cons rfl (fun K hK => ?_) AllReadyH.nil
                · go_simp
                  go_wp2_with (first | (go_at_call 28; (with_reducible refine cA.mono ?_); rintro e w10 ⟨rfl, hb10⟩; have S10 := (SA.below (dal2 W0 _ _)).below hb10; obtain ⟨t0, t1, t2⟩ := keep3 sA ((dal2 W0 _ _).trans (hb10.mono (dal2 W0 _ _).size)) hz) | (go_at_call 28; (with_reducible refine cB.mono ?_); rintro e w10 ⟨rfl, hb10⟩; have S10 := (SA.below (dal2 W0 _ _)).below hb10; obtain ⟨t0, t1, t2⟩ := keep3 sA ((dal2 W0 _ _).trans (hb10.mono (dal2 W0 _ _).size)) hz))
                  refine hK.out _ _ ?_ (fun hHeld => ?_)
                  · go_keep
                  clear hK K
                  refine wpAnyH_take (i := 12) (oi := _) (v := ?_) rfl (by kernel_rfl) (by kernel_rfl) (by kernel_rfl) (fun _ _ _ h => h) (Or.inl ⟨by rfl, ?_⟩) (by assumption) ?_
                  rotate_left
                  · intro w' hSw
                    (try dsimp only at hSw)
                    go_simp
                    all_goals with_reducible rfl
                  (try simp only [Act.put, List.setIfInBounds_toArray, List.set_cons_zero, List.set_cons_succ])
                  refine wpAnyH_take (i := 13) (oi := _) (v := ?_) rfl (by kernel_rfl) (by kernel_rfl) (by kernel_rfl) (fun _ _ _ h => h) (Or.inl ⟨by rfl, ?_⟩) (by assumption) ?_
                  rotate_left
                  · intro w' hSw
                    (try dsimp only at hSw)
                    go_simp
                    all_goals with_reducible rfl
                  (try simp only [Act.put, List.setIfInBounds_toArray, List.set_cons_zero, List.set_cons_succ])
                  refine wpAnyH_done (by kernel_rfl) ?_ _
                  go_wp2
                  first
                    | (go_roundw
                       case rel => exact ⟨k + 1, by omega, rfl, by rw [HX.out]; exact congrArg Value.string (cat_two TX TL), S10⟩
                       case measure => simp [intOf]; omega)
                    | (refine ⟨?_, ?measure⟩
                       (repeat apply Exists.intro)
                       refine ⟨?rel, rfl⟩
                       case rel => exact ⟨k + 1, by omega, rfl, by rw [HX.out]; exact congrArg Value.string (cat_two TX TL), S10⟩
                       case measure => simp [intOf]; omega)
        · go_wp2_with (first
            | (with_reducible refine wp_tr hE (by with_unfolding_all rfl) ?_)
            | (with_reducible refine wp_newTr hN (by with_unfolding_all rfl) (by with_unfolding_all rfl) ?_))
          generalize wr.alloc (.cells (trC ⟨2, tg, ac, ka, kb⟩) 63) = W0 at hN SA hPA hz sA ⊢
          clear hN hE
          have HT : Hid (trT kT ⟨2, tg, ac, ka, kb⟩ = lnT wDepth [tg, ac]) := rfl
          rw [HT.out] at HX lT
          have hPR : ∀ o q, PowAt ((W0.alloc o).alloc q).drew := fun o q => hPA.below (dal2 W0 o q) (Nat.le_refl _)
          have hcA : ∀ (j : Nat) n, [tg, ac][j]? = some n → ((W0.alloc (.cells #[.string ⟨#[]⟩, .string ⟨#[108, 97, 103]⟩, .string ⟨#[100, 101, 112, 116, 104]⟩] 9)).alloc (.cells #[.int .i64 tg, .int .i64 ac] 3)).drew.cell? ⟨W0.heap.size + 1, j, none⟩ = some (.int .i64 n) := two_cells W0 _ _ tg ac
          have hcB : ∀ (j : Nat) n, [tg, ac][j]? = some n → ((W0.alloc (.cells #[.int .i64 tg, .int .i64 ac] 3)).alloc (.cells #[.string ⟨#[]⟩, .string ⟨#[108, 97, 103]⟩, .string ⟨#[100, 101, 112, 116, 104]⟩] 9)).drew.cell? ⟨W0.heap.size, j, none⟩ = some (.int .i64 n) := two_first W0 tg ac _ _
          have cA := rline2 [100, 101, 112, 116, 104] tg ac (W0.heap.size + 1) _ (hPR _ _) hI (by decide) hcA (by simp)
          have cB := rline2 [100, 101, 112, 116, 104] tg ac W0.heap.size _ (hPR _ _) hI (by decide) hcB (by simp; omega)
          rw [show lnT [100, 101, 112, 116, 104] [tg, ac] = lnT wDepth [tg, ac] from rfl] at cA cB
          obtain ⟨TL, hTL⟩ : ∃ T, T = lnT wDepth [tg, ac] ++ [10] := ⟨_, rfl⟩
          rw [← hTL] at cA cB HX lT
          clear hTL HT hcA hcB
          have yL : (⟨TL.toArray⟩ : ByteArray).size = TL.length := rfl
          have hadd : ¬ (9223372036854775807 < TX.length + TL.length) := by omega
          refine wp_region_held_drew (S := (fun w' => w'.cell? ⟨wr.heap.size, 0, none⟩ = some (.int .i64 2) ∧ w'.cell? ⟨wr.heap.size, 1, none⟩ = some (.int .i64 tg) ∧ w'.cell? ⟨wr.heap.size, 2, none⟩ = some (.int .i64 ac))) (by kernel_rfl) ?_ (fun hHeld => ?_)
          · go_keep
          refine wpAnyH_take (i := 0) (oi := _) (v := ?_) rfl (by kernel_rfl) (by kernel_rfl) (by kernel_rfl) (fun _ _ _ h => h) (Or.inl ⟨by rfl, ?_⟩) (by assumption) ?_
          rotate_left
          · intro w' hSw
            (try dsimp only at hSw)
            go_simp
            all_goals with_reducible rfl
          (try simp only [Act.put, List.setIfInBounds_toArray, List.set_cons_zero, List.set_cons_succ])
          refine wpAnyH_take (i := 2) (oi := _) (v := ?_) rfl (by kernel_rfl) (by kernel_rfl) (by kernel_rfl) (fun _ _ _ h => h) (Or.inl ⟨by rfl, ?_⟩) (by assumption) ?_
          rotate_left
          · intro w' hSw
            (try dsimp only at hSw)
            go_simp
            all_goals with_reducible rfl
          (try simp only [Act.put, List.setIfInBounds_toArray, List.set_cons_zero, List.set_cons_succ])
          refine wpAnyH_take (i := 3) (oi := _) (v := ?_) rfl (by kernel_rfl) (by kernel_rfl) (by kernel_rfl) (fun _ _ _ h => h) (Or.inl ⟨by rfl, ?_⟩) (by assumption) ?_
          rotate_left
          · intro w' hSw
            (try dsimp only at hSw)
            go_simp
            all_goals with_reducible rfl
          (try simp only [Act.put, List.setIfInBounds_toArray, List.set_cons_zero, List.set_cons_succ])
          refine wpAnyH_take (i := 6) (oi := _) (v := ?_) rfl (by kernel_rfl) (by kernel_rfl) (by kernel_rfl) (fun _ _ _ h => h) (Or.inl ⟨by rfl, ?_⟩) (by assumption) ?_
          rotate_left
          · intro w' hSw
            (try dsimp only at hSw)
            go_simp
            all_goals with_reducible rfl
          (try simp only [Act.put, List.setIfInBounds_toArray, List.set_cons_zero, List.set_cons_succ])
          refine wpAnyH_take (i := 7) (oi := _) (v := ?_) rfl (by kernel_rfl) (by kernel_rfl) (by kernel_rfl) (fun _ _ _ h => h) (Or.inl ⟨by rfl, ?_⟩) (by assumption) ?_
          rotate_left
          · intro w' hSw
            (try dsimp only at hSw)
            go_simp
            all_goals with_reducible rfl
          (try simp only [Act.put, List.setIfInBounds_toArray, List.set_cons_zero, List.set_cons_succ])
          refine wpAnyH_take (i := 8) (oi := _) (v := ?_) rfl (by kernel_rfl) (by kernel_rfl) (by kernel_rfl) (fun _ _ _ h => h) (Or.inl ⟨by rfl, ?_⟩) (by assumption) ?_
          rotate_left
          · intro w' hSw
            (try dsimp only at hSw)
            go_simp
            all_goals with_reducible rfl
          (try simp only [Act.put, List.setIfInBounds_toArray, List.set_cons_zero, List.set_cons_succ])
          refine wpAnyH_take (i := 9) (oi := _) (v := ?_) rfl (by kernel_rfl) (by kernel_rfl) (by kernel_rfl) (fun _ _ _ h => h) (Or.inl ⟨by rfl, ?_⟩) (by assumption) ?_
          rotate_left
          · intro w' hSw
            (try dsimp only at hSw)
            go_simp
            all_goals with_reducible rfl
          (try simp only [Act.put, List.setIfInBounds_toArray, List.set_cons_zero, List.set_cons_succ])
          refine wpAnyH_ready (rs := [1, 10]) (by kernel_rfl) (by simp) ?_
          refine AllReadyH.cons rfl (fun K hK => ?_) (AllReadyH.cons rfl (fun K hK => ?_) AllReadyH.nil)
          · go_simp
            refine hK.out _ _ ?_ (fun hHeld => ?_)
            · go_keep
            clear hK K
            refine wpAnyH_take (i := 4) (oi := _) (v := ?_) rfl (by kernel_rfl) (by kernel_rfl) (by kernel_rfl) (fun _ _ _ h => h) (Or.inl ⟨by rfl, ?_⟩) (by assumption) ?_
            rotate_left
            · intro w' hSw
              (try dsimp only at hSw)
              go_simp
              all_goals with_reducible rfl
            (try simp only [Act.put, List.setIfInBounds_toArray, List.set_cons_zero, List.set_cons_succ])
            refine wpAnyH_ready (rs := [5, 10]) (by kernel_rfl) (by simp) ?_
            refine AllReadyH.cons rfl (fun K hK => ?_) (AllReadyH.cons rfl (fun K hK => ?_) AllReadyH.nil)
            · go_simp
              refine hK.out _ _ ?_ (fun hHeld => ?_)
              · go_keep
              clear hK K
              refine wpAnyH_ready (rs := [10]) (by kernel_rfl) (by simp) ?_
              refine AllReadyH.cons rfl (fun K hK => ?_) AllReadyH.nil
              · go_simp
                refine hK.out _ _ ?_ (fun hHeld => ?_)
                · go_keep
                clear hK K
                refine wpAnyH_ready (rs := [11]) (by kernel_rfl) (by simp) ?_
                refine AllReadyH.cons rfl (fun K hK => ?_) AllReadyH.nil
                · go_simp
                  go_wp2_with (first | (go_at_call 28; (with_reducible refine cA.mono ?_); rintro e w10 ⟨rfl, hb10⟩; have S10 := (SA.below (dal2 W0 _ _)).below hb10; obtain ⟨t0, t1, t2⟩ := keep3 sA ((dal2 W0 _ _).trans (hb10.mono (dal2 W0 _ _).size)) hz) | (go_at_call 28; (with_reducible refine cB.mono ?_); rintro e w10 ⟨rfl, hb10⟩; have S10 := (SA.below (dal2 W0 _ _)).below hb10; obtain ⟨t0, t1, t2⟩ := keep3 sA ((dal2 W0 _ _).trans (hb10.mono (dal2 W0 _ _).size)) hz))
                  refine hK.out _ _ ?_ (fun hHeld => ?_)
                  · go_keep
                  clear hK K
                  refine wpAnyH_take (i := 12) (oi := _) (v := ?_) rfl (by kernel_rfl) (by kernel_rfl) (by kernel_rfl) (fun _ _ _ h => h) (Or.inl ⟨by rfl, ?_⟩) (by assumption) ?_
                  rotate_left
                  · intro w' hSw
                    (try dsimp only at hSw)
                    go_simp
                    all_goals with_reducible rfl
                  (try simp only [Act.put, List.setIfInBounds_toArray, List.set_cons_zero, List.set_cons_succ])
                  refine wpAnyH_take (i := 13) (oi := _) (v := ?_) rfl (by kernel_rfl) (by kernel_rfl) (by kernel_rfl) (fun _ _ _ h => h) (Or.inl ⟨by rfl, ?_⟩) (by assumption) ?_
                  rotate_left
                  · intro w' hSw
                    (try dsimp only at hSw)
                    go_simp
                    all_goals with_reducible rfl
                  (try simp only [Act.put, List.setIfInBounds_toArray, List.set_cons_zero, List.set_cons_succ])
                  refine wpAnyH_done (by kernel_rfl) ?_ _
                  go_wp2
                  first
                    | (go_roundw
                       case rel => exact ⟨k + 1, by omega, rfl, by rw [HX.out]; exact congrArg Value.string (cat_two TX TL), S10⟩
                       case measure => simp [intOf]; omega)
                    | (refine ⟨?_, ?measure⟩
                       (repeat apply Exists.intro)
                       refine ⟨?rel, rfl⟩
                       case rel => exact ⟨k + 1, by omega, rfl, by rw [HX.out]; exact congrArg Value.string (cat_two TX TL), S10⟩
                       case measure => simp [intOf]; omega)
            · go_simp
              refine hK.out _ _ ?_ (fun hHeld => ?_)
              · go_keep
              clear hK K
              refine wpAnyH_ready (rs := [5]) (by kernel_rfl) (by simp) ?_
              refine AllReadyH.cons rfl (fun K hK => ?_) AllReadyH.nil
              · go_simp
                refine hK.out _ _ ?_ (fun hHeld => ?_)
                · go_keep
                clear hK K
                refine wpAnyH_ready (rs := [11]) (by kernel_rfl) (by simp) ?_
                refine AllReadyH.cons rfl (fun K hK => ?_) AllReadyH.nil
                · go_simp
                  go_wp2_with (first | (go_at_call 28; (with_reducible refine cA.mono ?_); rintro e w10 ⟨rfl, hb10⟩; have S10 := (SA.below (dal2 W0 _ _)).below hb10; obtain ⟨t0, t1, t2⟩ := keep3 sA ((dal2 W0 _ _).trans (hb10.mono (dal2 W0 _ _).size)) hz) | (go_at_call 28; (with_reducible refine cB.mono ?_); rintro e w10 ⟨rfl, hb10⟩; have S10 := (SA.below (dal2 W0 _ _)).below hb10; obtain ⟨t0, t1, t2⟩ := keep3 sA ((dal2 W0 _ _).trans (hb10.mono (dal2 W0 _ _).size)) hz))
                  refine hK.out _ _ ?_ (fun hHeld => ?_)
                  · go_keep
                  clear hK K
                  refine wpAnyH_take (i := 12) (oi := _) (v := ?_) rfl (by kernel_rfl) (by kernel_rfl) (by kernel_rfl) (fun _ _ _ h => h) (Or.inl ⟨by rfl, ?_⟩) (by assumption) ?_
                  rotate_left
                  · intro w' hSw
                    (try dsimp only at hSw)
                    go_simp
                    all_goals with_reducible rfl
                  (try simp only [Act.put, List.setIfInBounds_toArray, List.set_cons_zero, List.set_cons_succ])
                  refine wpAnyH_take (i := 13) (oi := _) (v := ?_) rfl (by kernel_rfl) (by kernel_rfl) (by kernel_rfl) (fun _ _ _ h => h) (Or.inl ⟨by rfl, ?_⟩) (by assumption) ?_
                  rotate_left
                  · intro w' hSw
                    (try dsimp only at hSw)
                    go_simp
                    all_goals with_reducible rfl
                  (try simp only [Act.put, List.setIfInBounds_toArray, List.set_cons_zero, List.set_cons_succ])
                  refine wpAnyH_done (by kernel_rfl) ?_ _
                  go_wp2
                  first
                    | (go_roundw
                       case rel => exact ⟨k + 1, by omega, rfl, by rw [HX.out]; exact congrArg Value.string (cat_two TX TL), S10⟩
                       case measure => simp [intOf]; omega)
                    | (refine ⟨?_, ?measure⟩
                       (repeat apply Exists.intro)
                       refine ⟨?rel, rfl⟩
                       case rel => exact ⟨k + 1, by omega, rfl, by rw [HX.out]; exact congrArg Value.string (cat_two TX TL), S10⟩
                       case measure => simp [intOf]; omega)
          · go_simp
            refine hK.out _ _ ?_ (fun hHeld => ?_)
            · go_keep
            clear hK K
            refine wpAnyH_ready (rs := [1]) (by kernel_rfl) (by simp) ?_
            refine AllReadyH.cons rfl (fun K hK => ?_) AllReadyH.nil
            · go_simp
              refine hK.out _ _ ?_ (fun hHeld => ?_)
              · go_keep
              clear hK K
              refine wpAnyH_take (i := 4) (oi := _) (v := ?_) rfl (by kernel_rfl) (by kernel_rfl) (by kernel_rfl) (fun _ _ _ h => h) (Or.inl ⟨by rfl, ?_⟩) (by assumption) ?_
              rotate_left
              · intro w' hSw
                (try dsimp only at hSw)
                go_simp
                all_goals with_reducible rfl
              (try simp only [Act.put, List.setIfInBounds_toArray, List.set_cons_zero, List.set_cons_succ])
              refine wpAnyH_ready (rs := [5]) (by kernel_rfl) (by simp) ?_
              refine AllReadyH.cons rfl (fun K hK => ?_) AllReadyH.nil
              · go_simp
                refine hK.out _ _ ?_ (fun hHeld => ?_)
                · go_keep
                clear hK K
                refine wpAnyH_ready (rs := [11]) (by kernel_rfl) (by simp) ?_
                refine AllReadyH.cons rfl (fun K hK => ?_) AllReadyH.nil
                · go_simp
                  go_wp2_with (first | (go_at_call 28; (with_reducible refine cA.mono ?_); rintro e w10 ⟨rfl, hb10⟩; have S10 := (SA.below (dal2 W0 _ _)).below hb10; obtain ⟨t0, t1, t2⟩ := keep3 sA ((dal2 W0 _ _).trans (hb10.mono (dal2 W0 _ _).size)) hz) | (go_at_call 28; (with_reducible refine cB.mono ?_); rintro e w10 ⟨rfl, hb10⟩; have S10 := (SA.below (dal2 W0 _ _)).below hb10; obtain ⟨t0, t1, t2⟩ := keep3 sA ((dal2 W0 _ _).trans (hb10.mono (dal2 W0 _ _).size)) hz))
                  refine hK.out _ _ ?_ (fun hHeld => ?_)
                  · go_keep
                  clear hK K
                  refine wpAnyH_take (i := 12) (oi := _) (v := ?_) rfl (by kernel_rfl) (by kernel_rfl) (by kernel_rfl) (fun _ _ _ h => h) (Or.inl ⟨by rfl, ?_⟩) (by assumption) ?_
                  rotate_left
                  · intro w' hSw
                    (try dsimp only at hSw)
                    go_simp
                    all_goals with_reducible rfl
                  (try simp only [Act.put, List.setIfInBounds_toArray, List.set_cons_zero, List.set_cons_succ])
                  refine wpAnyH_take (i := 13) (oi := _) (v := ?_) rfl (by kernel_rfl) (by kernel_rfl) (by kernel_rfl) (fun _ _ _ h => h) (Or.inl ⟨by rfl, ?_⟩) (by assumption) ?_
                  rotate_left
                  · intro w' hSw
                    (try dsimp only at hSw)
                    go_simp
                    all_goals with_reducible rfl
                  (try simp only [Act.put, List.setIfInBounds_toArray, List.set_cons_zero, List.set_cons_succ])
                  refine wpAnyH_done (by kernel_rfl) ?_ _
                  go_wp2
                  first
                    | (go_roundw
                       case rel => exact ⟨k + 1, by omega, rfl, by rw [HX.out]; exact congrArg Value.string (cat_two TX TL), S10⟩
                       case measure => simp [intOf]; omega)
                    | (refine ⟨?_, ?measure⟩
                       (repeat apply Exists.intro)
                       refine ⟨?rel, rfl⟩
                       case rel => exact ⟨k + 1, by omega, rfl, by rw [HX.out]; exact congrArg Value.string (cat_two TX TL), S10⟩
                       case measure => simp [intOf]; omega)
    · obtain rfl : k = ts.length := by omega
      rw [List.take_length]
      have HT : Hid (hd4 p ++ tailT kT ts = planT kT p ts) := by unfold Hid planT; rw [hd_is]
      rw [HT.out]
      clear hTr hU h4 HT lt9
      obtain ⟨TX, hTX⟩ : ∃ T, T = planT kT p ts := ⟨_, rfl⟩
      have HT2 : Hid (TX = planT kT p ts) := hTX
      rw [← hTX]
      clear hTX
      go_wp2
      go_ret
      exact ⟨by rw [← HT2.out]; rfl, S9.bel⟩
end Pln
end Go.Proofs.YtcfncgjpbdkagabDoor
