/- What the document's answer (tideref) says of a cron's text: CronText. What the document's way of printing a cron needs: the five sets by their number. How long a cron's words are; Print of a wrong cron. -/
import Derived.Test.YtcaobnmfgnbolabDoorPk4
import Derived.Test.YtcaobnmfgnbolabDoorPk11
namespace Go.Proofs.YtcaobnmfgnbolabDoor
namespace RCrn
open Go.RowKit Lai Civ Cal Crn RCiv
set_option maxRecDepth 8000

theorem laid_below {mi ho da mn we : Int} {ad aw : Bool} {p q r : Nat} {w wr w' : World} (h : Laid3 mi ho da mn we ad aw p q r w wr) (hb : Below wr.heap.size wr w') (hz : w.heap.size ≤ wr.heap.size) : Laid3 mi ho da mn we ad aw p q r w w' := by
  obtain ⟨h1, h2, h3, h4, h5, h6, h7⟩ := h
  have s := hb.size
  exact ⟨by omega, by omega, by omega, fun o => ((bcell hb).1 _ _ h1).trans (h4 o), fun o => ((bcell hb).1 _ _ h2).trans (h5 o), fun o => ((bcell hb).1 _ _ h3).trans (h6 o), h7.trans (hb.mono hz)⟩
/-- the texts so far -/
def OutR (wd : Nat → List UInt8) (mi ho da mn we : Int) (ad aw : Bool) (p q r : Nat) (w : World) (out i : Value) (wr : World) : Prop := ∃ (k : Nat) (ao : Option Addr) (cv : Nat), k ≤ 5 ∧ i = .int .i64 k ∧ out = .slice ao k cv ∧ wr.ownsRow w.heap.size 9 1 out k ((List.range k).map fun j => strV (wd j)) ∧ Laid3 mi ho da mn we ad aw p q r w wr
/-- the rows so far, of one set -/
def MidR (s lo hi : Int) (W : World) (rows all n : Value) (wr : World) : Prop := ∃ (m : Int) (b : Bool) (ao : Option Addr) (cv : Nat), lo ≤ m ∧ m ≤ hi + 1 ∧ n = .int .i64 m ∧ all = .bool b ∧ (b = true ↔ ∀ j, lo ≤ j → j < m → inS s j = true) ∧ rows = .slice ao (rowsT s m.toNat).length cv ∧ wr.ownsRow W.heap.size 9 1 rows (rowsT s m.toNat).length ((rowsT s m.toNat).map strV) ∧ Below W.heap.size W wr
def LastQ (s m hi : Int) (W : World) (l : Value) (wr : World) : Prop := ∃ x : Int, l = .int .i64 x ∧ m ≤ x ∧ x ≤ hi ∧ (∀ j, m ≤ j → j ≤ x → inS s j = true) ∧ wr = W
theorem all_step {s lo m : Int} {b x : Bool} (h : b = true ↔ ∀ j, lo ≤ j → j < m → inS s j = true) (hm : lo ≤ m) (hx : inS s m = x) : (b && x) = true ↔ ∀ j, lo ≤ j → j < m + 1 → inS s j = true := by
  rw [Bool.and_eq_true, h]
  constructor
  · rintro ⟨h1, h2⟩ j g1 g2
    by_cases e : j = m
    · rw [e, hx]; exact h2
    · exact h1 j g1 (by omega)
  · intro g
    exact ⟨fun j g1 g2 => g j g1 (by omega), hx.symm.trans (g m hm (by omega))⟩
theorem rows_same {s m : Int} (hm : 0 ≤ m) (h : isSt s m = false) : rowsT s (m + 1).toNat = rowsT s m.toNat := by
  obtain ⟨M, rfl⟩ := Int.eq_ofNat_of_zero_le hm
  rw [show ((M : Int) + 1).toNat = M + 1 by omega, rowsT_step, h, Int.toNat_natCast]; simp
theorem rows_more {s m : Int} (hm : 0 ≤ m) (h : isSt s m = true) : rowsT s (m + 1).toNat = rowsT s m.toNat ++ [rowT (m, endOf s m)] := by
  obtain ⟨M, rfl⟩ := Int.eq_ofNat_of_zero_le hm
  rw [show ((M : Int) + 1).toNat = M + 1 by omega, rowsT_step, h, Int.toNat_natCast]; simp
theorem rows_zero {s lo : Int} (hlo : 0 ≤ lo) (h : ∀ n, inS s n = true → lo ≤ n) : rowsT s lo.toNat = [] := by
  unfold rowsT
  rw [rows_to (s := s) (n := 0) (by omega) hlo (fun j h1 h2 => by cases g : inS s j; rfl; have := h j g; omega)]; rfl
end RCrn
end Go.Proofs.YtcaobnmfgnbolabDoor
namespace Go.Proofs.YtcaobnmfgnbolabDoor
namespace RCrn
open Go.RowKit Lai Civ Cal Crn RCiv
set_option maxRecDepth 8000

def sK (mi ho da mn we : Int) : Nat → Int
  | 0 => mi
  | 1 => ho
  | 2 => da
  | 3 => mn
  | _ => we
def loK : Nat → Int
  | 0 => 0
  | 1 => 0
  | 2 => 1
  | 3 => 1
  | _ => 0
def hiK : Nat → Int
  | 0 => 59
  | 1 => 23
  | 2 => 31
  | 3 => 12
  | _ => 6
def anK (ad aw : Bool) : Nat → Bool
  | 2 => ad
  | 4 => aw
  | _ => false
def starK (mi ho mn : Int) (ad aw : Bool) : Nat → Bool
  | 0 => mi == 1152921504606846975
  | 1 => ho == 16777215
  | 2 => ad
  | 3 => mn == 8190
  | _ => aw
theorem five {k : Nat} (h : k < 5) : k = 0 ∨ k = 1 ∨ k = 2 ∨ k = 3 ∨ k = 4 := by omega
theorem wds_k {mi ho da mn we : Int} {ad aw : Bool} {k : Nat} (h : k < 5) : wds mi ho da mn we ad aw k = wordT (sK mi ho da mn we k) (starK mi ho mn ad aw k) := by
  rcases five h with rfl | rfl | rfl | rfl | rfl <;> rfl
theorem lim_k {k : Nat} (h : k < 5) : 0 ≤ loK k ∧ loK k ≤ 1 ∧ loK k < hiK k ∧ hiK k ≤ 59 := by
  rcases five h with rfl | rfl | rfl | rfl | rfl <;> decide
theorem laid_k {mi ho da mn we : Int} {ad aw : Bool} {p q r : Nat} {w wr : World} {k : Nat} (h : Laid3 mi ho da mn we ad aw p q r w wr) (hk : k < 5) :
    wr.cell? ⟨p, k, none⟩ = some (.int .u64 (sK mi ho da mn we k)) ∧ wr.cell? ⟨q, k * 2, none⟩ = some (.int .i64 (loK k)) ∧ wr.cell? ⟨q, k * 2 + 1, none⟩ = some (.int .i64 (hiK k)) ∧ wr.cell? ⟨r, k, none⟩ = some (.bool (anK ad aw k)) := by
  obtain ⟨_, _, _, h1, h2, h3, _⟩ := h
  rw [h1, h2, h2, h3]
  rcases five hk with rfl | rfl | rfl | rfl | rfl <;> exact ⟨rfl, rfl, rfl, rfl⟩
theorem set_k {mi ho da mn we : Int} {k : Nat} (G : Crn.Good mi ho da mn we) (b0 : U mi) (b1 : U ho) (b2 : U da) (b3 : U mn) (b4 : U we) (hk : k < 5) :
    U (sK mi ho da mn we k) ∧ ∀ n, inS (sK mi ho da mn we k) n = true → loK k ≤ n ∧ n ≤ hiK k := by
  rcases five hk with rfl | rfl | rfl | rfl | rfl
  · exact ⟨b0, fun n h => ⟨(inS_bd h).1, G.gmi.2 n h⟩⟩
  · exact ⟨b1, fun n h => ⟨(inS_bd h).1, G.gho.2 n h⟩⟩
  · exact ⟨b2, fun n h => G.g31 n h⟩
  · exact ⟨b3, fun n h => G.g12 n h⟩
  · exact ⟨b4, fun n h => ⟨(inS_bd h).1, G.gwe.2 n h⟩⟩
theorem laid_B {mi ho da mn we : Int} {ad aw : Bool} {p q r B : Nat} {w wr w' : World} (h : Laid3 mi ho da mn we ad aw p q r w wr) (hb : Below B wr w') (hp : p < B) (hq : q < B) (hr : r < B) (hw : w.heap.size ≤ B) : Laid3 mi ho da mn we ad aw p q r w w' := by
  obtain ⟨h1, h2, h3, h4, h5, h6, h7⟩ := h
  have s := hb.size
  exact ⟨by omega, by omega, by omega, fun o => (hb.cell (p := ⟨p, o, none⟩) hp).trans (h4 o), fun o => (hb.cell (p := ⟨q, o, none⟩) hq).trans (h5 o), fun o => (hb.cell (p := ⟨r, o, none⟩) hr).trans (h6 o), h7.trans (hb.mono hw)⟩
/-- the texts so far: their slice lies behind B -/
def OutB (wd : Nat → List UInt8) (mi ho da mn we : Int) (ad aw : Bool) (p q r B : Nat) (w : World) (out i : Value) (wr : World) : Prop := ∃ (k : Nat) (ao : Option Addr) (cv : Nat), k ≤ 5 ∧ i = .int .i64 k ∧ out = .slice ao k cv ∧ wr.ownsRow B 9 1 out k ((List.range k).map fun j => strV (wd j)) ∧ B ≤ wr.heap.size ∧ Laid3 mi ho da mn we ad aw p q r w wr
theorem own_cell {w : World} {base : Nat} {e : TypeId} {ao : Option Addr} {cv : Nat} {rows : List (List UInt8)} (h : w.ownsRow base e 1 (.slice ao rows.length cv) rows.length (rows.map strV)) :
    ∀ (j : Nat) x, rows[j]? = some x → ∃ bk, ao = some ⟨bk, 0, none⟩ ∧ w.cell? ⟨bk, j, none⟩ = some (strV x) := by
  intro j x hx
  have hj : j < rows.length := (List.getElem?_eq_some_iff.1 hx).1
  rcases h.2 with ⟨_, h0⟩ | ⟨g, cap, cur, hv, _⟩
  · omega
  · have : ao = some ⟨g, 0, none⟩ := by cases hv; rfl
    subst this
    refine ⟨g, rfl, ?_⟩
    rw [h.cellAt j (by omega), List.getElem?_map, hx]; rfl
theorem full_int {full lo hi : Int} {P : Nat → Prop} [DecidablePred P] (hlo : 0 ≤ lo) (h : ∀ k : Nat, inS full (k : Int) = decide (P k)) (hP : ∀ k : Nat, P k ↔ lo ≤ (k : Int) ∧ (k : Int) ≤ hi) (n : Int) : inS full n = decide (lo ≤ n ∧ n ≤ hi) := by
  by_cases g : 0 ≤ n
  · obtain ⟨k, rfl⟩ := Int.eq_ofNat_of_zero_le g
    rw [h, decide_eq_decide]; exact hP k
  · rw [inS_neg _ _ (by omega), eq_comm, decide_eq_false_iff_not]; omega
theorem fMin_in (n : Int) : inS 1152921504606846975 n = decide (0 ≤ n ∧ n ≤ 59) := full_int (P := fun k => k ≤ 59) (by omega) (fun k => (full_in k).1) (fun k => by omega) n
theorem fHour_in (n : Int) : inS 16777215 n = decide (0 ≤ n ∧ n ≤ 23) := full_int (P := fun k => k ≤ 23) (by omega) (fun k => (full_in k).2.1) (fun k => by omega) n
theorem fDay_in (n : Int) : inS 4294967294 n = decide (1 ≤ n ∧ n ≤ 31) := full_int (P := fun k => 1 ≤ k ∧ k ≤ 31) (by omega) (fun k => (full_in k).2.2.1) (fun k => by omega) n
theorem fMon_in (n : Int) : inS 8190 n = decide (1 ≤ n ∧ n ≤ 12) := full_int (P := fun k => 1 ≤ k ∧ k ≤ 12) (by omega) (fun k => (full_in k).2.2.2.1) (fun k => by omega) n
theorem fWeek_in (n : Int) : inS 127 n = decide (0 ≤ n ∧ n ≤ 6) := full_int (P := fun k => k ≤ 6) (by omega) (fun k => (full_in k).2.2.2.2) (fun k => by omega) n
theorem mark_all {s full lo hi : Int} {a b : Bool} (hf : ∀ n, inS full n = decide (lo ≤ n ∧ n ≤ hi)) (hok : okB s full a = true) (hb : b = true ↔ ∀ j, lo ≤ j → j < hi + 1 → inS s j = true) : (b && a) = a := by
  cases a
  · simp
  · have e := ok_any hok
    have : b = true := by
      rw [hb]; intro j h1 h2
      rw [e, hf, decide_eq_true_eq]; omega
    rw [this]; rfl
theorem full_all {s full lo hi : Int} {b : Bool} (hs : 0 ≤ s ∧ s ≤ 18446744073709551615) (hF : 0 ≤ full ∧ full ≤ 18446744073709551615) (hf : ∀ n, inS full n = decide (lo ≤ n ∧ n ≤ hi)) (hsub : ∀ n, inS s n = true → lo ≤ n ∧ n ≤ hi) (hb : b = true ↔ ∀ j, lo ≤ j → j < hi + 1 → inS s j = true) : b = (s == full) :=
  full_star hs hF hf hsub b (hb.trans ⟨fun h j h1 h2 => h j h1 (by omega), fun h j h1 h2 => h j h1 (by omega)⟩)
theorem star_k {mi ho da mn we : Int} {ad aw : Bool} (b0 : U mi) (b1 : U ho) (b2 : U da) (b3 : U mn) (b4 : U we) (hc : chkB mi ho da mn we ad aw = true) {k : Nat} (hk : k < 5) {b : Bool}
    (hb : b = true ↔ ∀ j, loK k ≤ j → j < hiK k + 1 → inS (sK mi ho da mn we k) j = true) :
    (b && ((!decide (k = 2) && !decide (k = 4)) || anK ad aw k)) = starK mi ho mn ad aw k := by
  have hS := (set_k (good_of b0 b1 b2 b3 b4 hc) b0 b1 b2 b3 b4 hk).2
  unfold chkB at hc
  simp only [Bool.and_eq_true] at hc
  obtain ⟨h0, h1, h2, h3, h4⟩ := hc
  rcases five hk with rfl | rfl | rfl | rfl | rfl
  · have := full_all (full := 1152921504606846975) b0 (by decide) fMin_in hS hb
    simpa [starK, anK] using this
  · have := full_all (full := 16777215) b1 (by decide) fHour_in hS hb
    simpa [starK, anK] using this
  · have := mark_all fDay_in h2 hb
    simpa [starK, anK] using this
  · have := full_all (full := 8190) b3 (by decide) fMon_in hS hb
    simpa [starK, anK] using this
  · have := mark_all fWeek_in h4 hb
    simpa [starK, anK] using this
theorem word_hi {s lo hi : Int} (hs : U s) (hlo : 0 ≤ lo) (hlh : lo < hi) (h59 : hi ≤ 59) (hsub : ∀ n, inS s n = true → lo ≤ n ∧ n ≤ hi) : wordT s false = Lib.join (rowsT s (hi + 1).toNat) [44] := by
  refine word_end hs (by omega) (by omega) ?_
  cases h : frmB s (hi + 1)
  · rfl
  · obtain ⟨f1, f2, f3, f4⟩ := frm_yes s (hi + 1) hs (by omega) h
    have := hsub _ f3
    omega
theorem word_st (s : Int) : wordT s true = [42] := by unfold wordT; rw [if_pos rfl]
/-- all that the document's round over one set needs -/
theorem one_set {mi ho da mn we : Int} {ad aw : Bool} {p q r : Nat} {w W : World} {k : Nat} (b0 : U mi) (b1 : U ho) (b2 : U da) (b3 : U mn) (b4 : U we) (hc : chkB mi ho da mn we ad aw = true) (hL : Laid3 mi ho da mn we ad aw p q r w W) (hk : k < 5) :
    ∃ (s lo hi : Int) (an star : Bool), W.cell? ⟨p, k, none⟩ = some (.int .u64 s) ∧ W.cell? ⟨q, k * 2, none⟩ = some (.int .i64 lo) ∧ W.cell? ⟨q, k * 2 + 1, none⟩ = some (.int .i64 hi) ∧ W.cell? ⟨r, k, none⟩ = some (.bool an) ∧
      U s ∧ (∀ n, inS s n = true → lo ≤ n ∧ n ≤ hi) ∧ (0 ≤ lo ∧ lo ≤ 1 ∧ lo < hi ∧ hi ≤ 59) ∧ wds mi ho da mn we ad aw k = wordT s star ∧
      ∀ b : Bool, (b = true ↔ ∀ j, lo ≤ j → j < hi + 1 → inS s j = true) → (b && ((!decide (k = 2) && !decide (k = 4)) || an)) = star := by
  obtain ⟨c1, c2, c3, c4⟩ := laid_k hL hk
  obtain ⟨h1, h2⟩ := set_k (good_of b0 b1 b2 b3 b4 hc) b0 b1 b2 b3 b4 hk
  exact ⟨_, _, _, _, _, c1, c2, c3, c4, h1, h2, lim_k hk, wds_k hk, fun b hb => star_k b0 b1 b2 b3 b4 hc hk hb⟩
theorem row_two {a b : Int} (h : ¬ a = b) : Value.string (({ data := (Lib.decDigits a.toNat).toArray } : ByteArray) ++ (({ data := #[45] } : ByteArray) ++ { data := (Lib.decDigits b.toNat).toArray })) = strV (rowT (a, b)) := by
  have e : (({ data := #[45] } : ByteArray)) = ⟨([45] : List UInt8).toArray⟩ := rfl
  rw [e, str_add, str_add]
  unfold rowT
  rw [if_neg (by simpa using h)]
  simp
theorem row_one (a : Int) : Value.string { data := (Lib.decDigits a.toNat).toArray } = strV (rowT (a, a)) := by
  unfold rowT; rw [if_pos rfl]
theorem cell_newN {w : World} {x : Value} {t : TypeId} {N : Nat} (hN : N = w.heap.size) : ∀ (j : Nat) u, ([x] : List Value)[j]? = some u → (w.alloc (.cells #[x] t)).cell? ((⟨N, 0, none⟩ : Addr).add j) = some u := by
  subst hN; exact cell_new1 w x t
theorem star_cell (w : World) (t : TypeId) : ∀ (j : Nat) x, ([[42]] : List (List UInt8))[j]? = some x → ∃ bk, some (⟨w.heap.size, 0, none⟩ : Addr) = some ⟨bk, 0, none⟩ ∧ (w.alloc (.cells #[.string ⟨#[42]⟩] t)).cell? ⟨bk, j, none⟩ = some (strV x) := by
  intro j x h
  match j, h with
  | 0, h => simp at h; subst h; exact ⟨_, rfl, by simp⟩
  | j + 1, h => simp at h
theorem five_len {wd : Nat → List UInt8} (h : ∀ j, (wd j).length ≤ 1000) : ∀ x ∈ [wd 0, wd 1, wd 2, wd 3, wd 4], x.length ≤ 1000 := by
  intro x hx
  simp only [List.mem_cons, List.not_mem_nil, or_false] at hx
  rcases hx with rfl | rfl | rfl | rfl | rfl <;> exact h _
theorem five_list (wd : Nat → List UInt8) : (List.range 5).map (fun j => strV (wd j)) = [wd 0, wd 1, wd 2, wd 3, wd 4].map strV := rfl
theorem list_step (wd : Nat → List UInt8) (k : Nat) : (List.range (k + 1)).map (fun j => strV (wd j)) = (List.range k).map (fun j => strV (wd j)) ++ [strV (wd k)] := by
  rw [List.range_succ, List.map_append]; rfl
end RCrn
end Go.Proofs.YtcaobnmfgnbolabDoor
namespace Go.Proofs.YtcaobnmfgnbolabDoor
namespace RCrn
open Go.RowKit Lai Civ Cal Crn RCiv
set_option maxRecDepth 8000

theorem print_no (mi ho da mn we : Int) (ad aw : Bool) (w : World) (hB : BdsAt w) (hc : chkB mi ho da mn we ad aw = false) :
    Calls Tryd.prog 77 #[cronV mi ho da mn we ad aw] w fun e w' => e = .returned (.tuple #[.string ⟨#[]⟩, .int .i64 1]) ∧ Below w.heap.size w w' := by
  have hB2 := fun o => hB.below (balloc o) (Nat.le_refl _)
  go_enter Tryd.func77, Tryd.ntmps77
  go_wp2_with (go_at_call 26; (with_reducible refine (check_no _ _ _ _ _ _ _ _ (hB2 _) hc).mono ?_); rintro e w1 ⟨rfl, hb1⟩)
  go_ret2
  exact ⟨rfl, (balloc _).trans (hb1.mono (by simp))⟩

theorem row_len5 {s : Int} (hs : U s) (h60 : ∀ n, inS s n = true → n ≤ 59) : ∀ k : Nat, ∀ p ∈ rowsU s k, (rowT p).length ≤ 5
  | 0, p, hp => by cases hp
  | k + 1, p, hp => by
    have e : rowsU s (k + 1) = rowsU s k ++ (if isSt s (k : Int) = true then [((k : Int), endOf s k)] else []) := rfl
    rw [e, List.mem_append] at hp
    rcases hp with hp | hp
    · exact row_len5 hs h60 k p hp
    · by_cases g : isSt s (k : Int) = true
      · rw [if_pos g, List.mem_singleton] at hp
        subst hp
        unfold isSt at g
        rw [Bool.and_eq_true] at g
        obtain ⟨e1, e2, e3, _⟩ := end_spec hs h60 g.1
        have := inS_bd g.1
        have l1 := dec_len (k : Int).toNat (by omega)
        have l2 := dec_len (endOf s k).toNat (by unfold endOf; omega)
        unfold rowT
        dsimp only
        split
        · omega
        · simp only [List.length_append, List.length_cons, List.length_nil]; omega
      · rw [if_neg g] at hp; cases hp
theorem word_len {s lo hi : Int} (star : Bool) (hs : U s) (hsub : ∀ n, inS s n = true → lo ≤ n ∧ n ≤ hi) (hl : 0 ≤ lo ∧ lo ≤ 1 ∧ lo < hi ∧ hi ≤ 59) : (wordT s star).length ≤ 1000 := by
  cases star
  · rw [word_hi hs hl.1 hl.2.2.1 hl.2.2.2 hsub]
    have h5 : ∀ x ∈ rowsT s (hi + 1).toNat, x.length ≤ 5 := by
      intro x hx
      unfold rowsT at hx
      rw [List.mem_map] at hx
      obtain ⟨p, hp, rfl⟩ := hx
      exact row_len5 hs (fun n h => by have := hsub n h; omega) _ p hp
    have h1 := join_len [44] 5 (rowsT s (hi + 1).toNat) h5
    have h2 : (rowsT s (hi + 1).toNat).length ≤ 64 := by unfold rowsT; rw [List.length_map]; have := rows_len s (hi + 1).toNat; omega
    have h3 : (rowsT s (hi + 1).toNat).length * (([44] : List UInt8).length + 5) ≤ 64 * 6 := Nat.mul_le_mul h2 (by decide)
    omega
  · rw [word_st]; decide
theorem words_len {mi ho da mn we : Int} {ad aw : Bool} (b0 : U mi) (b1 : U ho) (b2 : U da) (b3 : U mn) (b4 : U we) (hc : chkB mi ho da mn we ad aw = true) : ∀ j, (wds mi ho da mn we ad aw j).length ≤ 1000 := by
  have key : ∀ k, k < 5 → (wds mi ho da mn we ad aw k).length ≤ 1000 := fun k hk => by
    obtain ⟨h1, h2⟩ := set_k (good_of b0 b1 b2 b3 b4 hc) b0 b1 b2 b3 b4 hk
    rw [wds_k hk]
    exact word_len _ h1 h2 (lim_k hk)
  intro j
  match j with
  | 0 => exact key 0 (by decide)
  | 1 => exact key 1 (by decide)
  | 2 => exact key 2 (by decide)
  | 3 => exact key 3 (by decide)
  | j + 4 => exact key 4 (by decide)
theorem cron_len {mi ho da mn we : Int} {ad aw : Bool} (hl : ∀ j, (wds mi ho da mn we ad aw j).length ≤ 1000) : (cronT (wds mi ho da mn we ad aw)).length ≤ 7000 := by
  unfold cronT
  have := join_len [32] 1000 [wds mi ho da mn we ad aw 0, wds mi ho da mn we ad aw 1, wds mi ho da mn we ad aw 2, wds mi ho da mn we ad aw 3, wds mi ho da mn we ad aw 4] (fun x hx => by
    simp only [List.mem_cons, List.not_mem_nil, or_false] at hx
    rcases hx with rfl | rfl | rfl | rfl | rfl <;> exact hl _)
  simp only [List.length_cons, List.length_nil] at this
  omega
end RCrn
end Go.Proofs.YtcaobnmfgnbolabDoor
