/- What plan.Print answers, of a right plan: the walk. -/
import Derived.Test.YtcfncgjpbdkagabDoorPrintTr
namespace Go.Proofs.YtcfncgjpbdkagabDoor
namespace Pln
open Go.RowKit Lai Civ Crn RCrn
set_option maxRecDepth 8000

theorem cat_name (nm : List UInt8) : (⟨#[112, 108, 97, 110, 32]⟩ : ByteArray) ++ (⟨nm.toArray⟩ : ByteArray) = ⟨(wPlan ++ [32] ++ nm).toArray⟩ := by
  rw [show (⟨#[112, 108, 97, 110, 32]⟩ : ByteArray) = ⟨([112, 108, 97, 110, 32] : List UInt8).toArray⟩ from rfl, str_add]
  rfl
theorem pline4n (nm : List UInt8) (x y z u : Int) (B : Nat) (w : World) (hP : PowAt w) (hI : ∀ n ∈ [x, y, z, u], I n) (hw : (wPlan ++ [32] ++ nm).length ≤ 100) (hc : ∀ (j : Nat) n, [x, y, z, u][j]? = some n → w.cell? ⟨B, j, none⟩ = some (.int .i64 n)) (hB : B < w.heap.size) :
    Calls Tryd.prog 32 #[.string ((⟨#[112, 108, 97, 110, 32]⟩ : ByteArray) ++ (⟨nm.toArray⟩ : ByteArray)), .slice (some ⟨B, 0, none⟩) 4 4] w fun e w' => e = .returned (strV (lnT (wPlan ++ [32] ++ nm) [x, y, z, u] ++ [10])) ∧ Below w.heap.size w w' := by
  rw [cat_name]; exact pline4 _ x y z u B w hP hI hw hc hB
theorem chk_parts {p : Pd} {ts : List Tr} (h : chkP p ts = 0) : nmB p.nm = true ∧ ts.length ≤ 5 ∧ okP p = true ∧ ∀ t ∈ ts, trB t = true := by
  unfold chkP at h
  cases h1 : nmB p.nm
  · rw [if_pos h1] at h; cases h
  · rw [h1, if_neg (by decide)] at h
    by_cases h2 : 5 < ts.length
    · rw [if_pos h2] at h; cases h
    · rw [if_neg h2] at h
      cases h3 : okP p
      · rw [if_pos h3] at h; cases h
      · rw [h3, if_neg (by decide)] at h
        cases h4 : ts.all trB
        · rw [if_pos h4] at h; cases h
        · exact ⟨rfl, by omega, rfl, fun t ht => List.all_eq_true.1 h4 t ht⟩
theorem nm_len {s : List UInt8} (h : nmB s = true) : s.length ≤ 16 := by
  unfold nmB at h; rw [Bool.and_eq_true, decide_eq_true_eq] at h; exact h.1.2
/-- what printTrigger writes -/
theorem ptr_any (t : Tr) (w : World) (hB : BdsAt w) (hT : TabIs64 w) (hP : PowAt w) (u : TrU t) (h : trB t = true) :
    Calls Tryd.prog 33 #[trV t] w fun e w' => e = .returned (strV (trT kT t ++ [10])) ∧ Below w.heap.size w w' := by
  obtain ⟨k, tg, ac, a, b⟩ := t
  unfold trB at h
  dsimp only at h
  by_cases hk : k = 3
  · subst hk
    rw [if_pos rfl] at h
    simp only [Bool.and_eq_true, decide_eq_true_eq] at h
    exact ptr_span tg ac a b w hB hT hP u.tg u.a u.b h.2.2.1 h.2.2.2
  · rw [if_neg hk] at h
    simp only [Bool.and_eq_true, decide_eq_true_eq] at h
    exact ptr_two k tg ac a b w hP h.1 u.tg u.ac
theorem tr_len {t : Tr} (u : TrU t) (h : trB t = true) : (trT kT t ++ [10]).length ≤ 15000 := by
  obtain ⟨k, tg, ac, a, b⟩ := t
  unfold trB at h
  dsimp only at h
  have h2 : ∀ n ∈ [tg, ac], I n := fun n hn => by
    simp only [List.mem_cons, List.not_mem_nil, or_false] at hn
    rcases hn with rfl | rfl
    · exact u.tg
    · exact u.ac
  by_cases hk : k = 3
  · subst hk
    rw [if_pos rfl] at h
    simp only [Bool.and_eq_true, decide_eq_true_eq] at h
    have e : trT kT ⟨3, tg, ac, a, b⟩ = wSpan ++ [32] ++ Lib.itoa tg ++ [32] ++ kT a ++ [32, 47, 32] ++ kT b := rfl
    have l1 := kT_len a u.a h.2.2.1
    have l2 := kT_len b u.b h.2.2.2
    have l3 := itoa_len20 u.tg
    dsimp only at l3
    rw [e]
    simp only [List.length_append, List.length_cons, List.length_nil]
    omega
  · rw [if_neg hk] at h
    simp only [Bool.and_eq_true, decide_eq_true_eq] at h
    rcases h.1 with rfl | rfl
    · have e : trT kT ⟨1, tg, ac, a, b⟩ = lnT wLag [tg, ac] := rfl
      have := ln_len (word := wLag) h2
      rw [e]
      simp only [List.length_append, List.length_cons, List.length_nil] at this ⊢
      omega
    · have e : trT kT ⟨2, tg, ac, a, b⟩ = lnT wDepth [tg, ac] := rfl
      have := ln_len (word := wDepth) h2
      rw [e]
      simp only [List.length_append, List.length_cons, List.length_nil] at this ⊢
      omega
theorem tail_step {ts : List Tr} {k : Nat} {t : Tr} (h : ts[k]? = some t) : tailT kT (ts.take (k + 1)) = tailT kT (ts.take k) ++ (trT kT t ++ [10]) := by
  unfold tailT
  rw [List.take_add_one, h, Option.toList_some, List.map_append, List.map_cons, List.map_nil, List.flatten_append]
  simp
theorem tail_len {ts : List Tr} (h : ∀ t ∈ ts, (trT kT t ++ [10]).length ≤ 15000) : ∀ k, (tailT kT (ts.take k)).length ≤ 15000 * k
  | 0 => by simp [tailT]
  | k + 1 => by
    have ih := tail_len h k
    cases hk : ts[k]? with
    | none =>
      have e : ts.take (k + 1) = ts.take k := by rw [List.take_add_one, hk]; simp
      rw [e]; omega
    | some t =>
      have := h t (List.mem_of_getElem? hk)
      rw [tail_step hk, List.length_append]
      omega
/-- where Print stands in the triggers -/
def PtR (w : World) (G : Nat) (p : Pd) (sl : Value) (ts : List Tr) (i : Value) (wr : World) : Prop := ∃ k : Nat, k ≤ ts.length ∧ i = .int .i64 k ∧ PrS w G p sl (hd4 p ++ tailT kT (ts.take k)) wr
set_option maxHeartbeats 8000000 in
theorem print_ok (p : Pd) (ts : List Tr) (a : Option Addr) (cap : Nat) (w : World) (hB : BdsAt w) (hT : TabIs64 w) (hP : PowAt w) (hi : PdI p) (hTr : TrsAt w a ts) (hU : ∀ t ∈ ts, TrU t) (h : chkP p ts = 0) :
    Calls Tryd.prog 15 #[planV p (.slice a ts.length cap)] w fun e w' => e = .returned (.tuple #[strV (planT kT p ts), .int .i64 0]) ∧ Below w.heap.size w w' := by
  obtain ⟨h1, h2, h3, h4⟩ := chk_parts h
  have hln := nm_len h1
  have c0 := fun w hB hTr => check_any p ts a cap w hB hi (by omega) hTr
  rw [h] at c0
  have hA0 := PlAt.new' w p (.slice a ts.length cap) 44
  have hB0 := fun o => hB.below (balloc o) (Nat.le_refl _)
  have hTr0 := fun o => hTr.below (balloc o) (Nat.le_refl _)
  have hPs : ∀ {G : Nat} {txt : List UInt8} {W : World}, PrS w G p (.slice a ts.length cap) txt W → PowAt W := fun h => hP.below h.bel (Nat.le_refl _)
  have i1 := I4 hi.mn hi.mx hi.po hi.co
  have i2 := I4 hi.tl hi.bk hi.af hi.sh
  have i3 := I4 hi.uw hi.up hi.uc hi.ue
  have i4 := I4 hi.dw hi.dp hi.dc hi.de
  have m1 : (wPlan ++ [32] ++ p.nm).length ≤ 100 := by simp; omega
  have n1 := len4 m1 i1
  have n2 := len4 (word := wRest) (by decide) i2
  have n3 := len4 (word := wUp) (by decide) i3
  have n4 := len4 (word := wDown) (by decide) i4
  have e1 : (hd1 p).length ≤ 200 := by unfold hd1; rw [List.nil_append]; exact n1
  have e2 : (hd2 p).length ≤ 400 := by unfold hd2; rw [List.length_append]; omega
  have e3 : (hd3 p).length ≤ 600 := by unfold hd3; rw [List.length_append]; omega
  have e4 : (hd4 p).length ≤ 800 := by unfold hd4; rw [List.length_append]; omega
  have E4 : Hid ((hd4 p).length ≤ 800) := e4
  obtain ⟨T1, hT1⟩ : ∃ T, T = lnT (wPlan ++ [32] ++ p.nm) [p.mn, p.mx, p.po, p.co] ++ [10] := ⟨_, rfl⟩
  obtain ⟨T2, hT2⟩ : ∃ T, T = lnT wRest [p.tl, p.bk, p.af, p.sh] ++ [10] := ⟨_, rfl⟩
  obtain ⟨T3, hT3⟩ : ∃ T, T = lnT wUp [p.uw, p.up, p.uc, p.ue] ++ [10] := ⟨_, rfl⟩
  obtain ⟨T4, hT4⟩ : ∃ T, T = lnT wDown [p.dw, p.dp, p.dc, p.de] ++ [10] := ⟨_, rfl⟩
  have k1 := fun B w hP hc hB => pline4n p.nm p.mn p.mx p.po p.co B w hP i1 m1 hc hB
  have k2 := fun B w hP hc hB => pline4 [114, 101, 115, 116] p.tl p.bk p.af p.sh B w hP i2 (by decide) hc hB
  have k3 := fun B w hP hc hB => pline4 [117, 112] p.uw p.up p.uc p.ue B w hP i3 (by decide) hc hB
  have k4 := fun B w hP hc hB => pline4 [100, 111, 119, 110] p.dw p.dp p.dc p.de B w hP i4 (by decide) hc hB
  rw [← hT1] at k1 n1
  rw [← hT2] at k2 n2
  rw [← hT3] at k3 n3
  rw [← hT4] at k4 n4
  have HH : Hid (([] ++ T1) ++ T2 ++ T3 ++ T4 = hd4 p) := by unfold Hid hd4 hd3 hd2 hd1; rw [hT1, hT2, hT3, hT4]
  clear hT1 hT2 hT3 hT4
  clear e1 e2 e3 e4 i1 i2 i3 i4 m1 h1 h3 h
  have z0 : (⟨p.nm.toArray⟩ : ByteArray).size = p.nm.length := rfl
  go_enter Tryd.func15, Tryd.ntmps15
  go_wp2_with (first
    | (with_reducible refine wp_plan hA0 (by with_unfolding_all rfl) ?_)
    | (go_at_call 16; (with_reducible refine (c0 _ (hB0 _) (hTr0 _)).mono ?_); rintro e w1 ⟨rfl, hb1⟩; obtain ⟨hC1, hz1, hw1⟩ := boxB hb1; have hA1 : PlAt w1 w.heap.size p (.slice a ts.length cap) := PlAt.of hC1; clear hC1; have S0 := bld_new hA1 hz1 hw1; have q0 := S0.pl.c0; have q1 := S0.pl.c1; have q2 := S0.pl.c2; have q3 := S0.pl.c3; have q4 := S0.pl.c4)
    | (go_at_call 32; (with_reducible refine (k1 (w1.heap.size + 1) _ (hPs (S0.below (balloc _))) (four_cells _ _ _ _ _ _ (by simp)) (by simp)).mono ?_); rintro e w2 ⟨rfl, hb2⟩; have S1 := (S0.below (balloc _)).below hb2)
    | (go_at_call 31; (with_reducible refine (writeS T1 S1 (by simp only [List.length_nil]; omega)).mono ?_); rintro e w3 ⟨rfl, S2⟩; clear q0 q1 q2 q3 q4; have r0 := S2.pl.c5; have r1 := S2.pl.c6; have r2 := S2.pl.c7; have r3 := S2.pl.c8)
    | (go_at_call 32; (with_reducible refine (k2 w3.heap.size _ (hPs (S2.below (balloc _))) (four_cells _ _ _ _ _ _ rfl) (by simp)).mono ?_); rintro e w4 ⟨rfl, hb4⟩; have S3 := (S2.below (balloc _)).below hb4)
    | (go_at_call 31; (with_reducible refine (writeS T2 S3 (by simp only [List.length_append, List.length_nil]; omega)).mono ?_); rintro e w5 ⟨rfl, S4⟩; clear r0 r1 r2 r3; have r0 := S4.pl.c9; have r1 := S4.pl.c10; have r2 := S4.pl.c11; have r3 := S4.pl.c12)
    | (go_at_call 32; (with_reducible refine (k3 w5.heap.size _ (hPs (S4.below (balloc _))) (four_cells _ _ _ _ _ _ rfl) (by simp)).mono ?_); rintro e w6 ⟨rfl, hb6⟩; have S5 := (S4.below (balloc _)).below hb6)
    | (go_at_call 31; (with_reducible refine (writeS T3 S5 (by simp only [List.length_append, List.length_nil]; omega)).mono ?_); rintro e w7 ⟨rfl, S6⟩; clear r0 r1 r2 r3; have r0 := S6.pl.c13; have r1 := S6.pl.c14; have r2 := S6.pl.c15; have r3 := S6.pl.c16)
    | (go_at_call 32; (with_reducible refine (k4 w7.heap.size _ (hPs (S6.below (balloc _))) (four_cells _ _ _ _ _ _ rfl) (by simp)).mono ?_); rintro e w8 ⟨rfl, hb8⟩; have S7 := (S6.below (balloc _)).below hb8)
    | (go_at_call 31; (with_reducible refine (writeS T4 S7 (by simp only [List.length_append, List.length_nil]; omega)).mono ?_); rintro e w9 ⟨rfl, S8⟩; clear r0 r1 r2 r3; have r17 := S8.pl.c17))
  rw [HH.out] at S8
  clear S0 S1 S2 S3 S4 S5 S6 S7 r17 hb1 hb2 hb4 hb6 hb8 hA1 hw1 k1 k2 k3 k4 c0 hA0
  generalize hG : w1.heap.size = G at *
  clear hG
  go_loopw [71] (fun i wr => PtR w G p (.slice a ts.length cap) ts i wr) (fun i _ => ts.length - (intOf i).toNat)
  case atStart => exact ⟨0, Nat.zero_le _, rfl, by rw [show tailT kT (ts.take 0) = [] from rfl, List.append_nil]; exact S8⟩
  case round =>
    clear S8
    obtain ⟨k, hk1, rfl, S9⟩ := hrel
    have lt9 : (hd4 p ++ tailT kT (ts.take k)).length ≤ 100000 := by
      have := tail_len (ts := ts) (fun t ht => tr_len (hU t ht) (h4 t ht)) k
      have := E4.out
      rw [List.length_append]; omega
    by_cases hlt : k < ts.length
    · have hlt' : (k : Int) < ts.length := by omega
      obtain ⟨t, hx⟩ : ∃ x, ts[k]? = some x := ⟨ts[k], by simp [hlt]⟩
      have hm := List.mem_of_getElem? hx
      obtain ⟨b, off, rfl, hbl, hE⟩ := (hTr.below S9.bel (Nat.le_refl _)).elem hx
      have hN := TrAt.new wr t 63
      have lT := tr_len (hU t hm) (h4 t hm)
      have c1 := fun w hB hT hP => ptr_any t w hB hT hP (hU t hm) (h4 t hm)
      have HX : Hid (hd4 p ++ tailT kT (ts.take (k + 1)) = hd4 p ++ tailT kT (ts.take k) ++ (trT kT t ++ [10])) := by unfold Hid; rw [tail_step hx, List.append_assoc]
      have SA := S9.below (balloc (.cells (trC t) 63))
      have hBA := hB.below SA.bel (Nat.le_refl _)
      have hTA := hT.below SA.bel (Nat.le_refl _)
      have hPA := hP.below SA.bel (Nat.le_refl _)
      generalize trT kT t ++ [10] = TT at c1 lT HX
      generalize hd4 p ++ tailT kT (ts.take k) = TX at lt9 HX SA S9
      clear hx hm hTr hU h4
      go_wp2_with (first
        | (with_reducible refine wp_tr hE (by with_unfolding_all rfl) ?_)
        | (with_reducible refine wp_tr hN (by with_unfolding_all rfl) ?_)
        | (go_at_call 33; (with_reducible refine (c1 _ hBA hTA hPA).mono ?_); rintro e w10 ⟨rfl, hb10⟩; have SB := SA.below hb10)
        | (go_at_call 31; (with_reducible refine (writeS TT SB (by omega)).mono ?_); rintro e w11 ⟨rfl, SC⟩))
      go_roundw
      case rel => exact ⟨k + 1, by omega, rfl, by rw [HX.out]; exact SC⟩
      case measure => simp [intOf]; omega
    · obtain rfl : k = ts.length := by omega
      rw [List.take_length] at S9
      have HT : Hid (hd4 p ++ tailT kT ts = planT kT p ts) := by unfold Hid planT; rw [hd_is]
      rw [HT.out] at S9
      have cS := Tryd.Builder_String_any G G (planT kT p ts) wr S9.bd S9.le
      clear hTr hU h4 HT lt9
      obtain ⟨TX, hTX⟩ : ∃ T, T = planT kT p ts := ⟨_, rfl⟩
      have HT2 : Hid (TX = planT kT p ts) := hTX
      rw [← hTX] at cS S9
      clear hTX
      go_wp2_with (go_at_call 34; (with_reducible refine cS.mono ?_); rintro e w12 ⟨rfl, hb12⟩)
      go_ret2
      exact ⟨by rw [← HT2.out]; rfl, S9.bel.trans (hb12.mono (Nat.le_of_lt S9.lt))⟩
end Pln
end Go.Proofs.YtcfncgjpbdkagabDoor
