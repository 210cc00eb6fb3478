
/- What the document's Settle (tideref.Calm) answers. -/
import Derived.Test.YtanlhkokghjadacCalmAt
import Derived.Test.YtanlhkokghjadacRefNumWalks
import Derived.Test.YtanlhkokghjadacStbForget
import Derived.Deep.DeepCutAuto
namespace Go.Proofs.Ytanlhkokghjadac
namespace Stb
open Rw Go.RowKit Plain Num
set_option maxRecDepth 8000

theorem rin_yes (n lo hi : Int) (w : World) (h1 : lo ≤ n) (h2 : n ≤ hi) :
    Calls Try.prog 16 #[.int .i64 n, .int .i64 lo, .int .i64 hi] w fun e w' => e = .returned (.bool true) ∧ w' = w := by
  have d1 : decide (lo ≤ n) = true := by simp [h1]
  have d2 : decide (n ≤ hi) = true := by simp [h2]
  go_enter Try.func16, Try.ntmps16
  go_wp2
  go_ret
  exact ⟨rfl, rfl⟩
theorem rin_no (n lo hi : Int) (w : World) (h : ¬ (lo ≤ n ∧ n ≤ hi)) :
    Calls Try.prog 16 #[.int .i64 n, .int .i64 lo, .int .i64 hi] w fun e w' => e = .returned (.bool false) ∧ w' = w := by
  by_cases h1 : lo ≤ n
  · have d1 : decide (lo ≤ n) = true := by simp [h1]
    have d2 : decide (n ≤ hi) = false := by simp; omega
    clear h
    go_enter Try.func16, Try.ntmps16
    go_wp2
    go_ret
    exact ⟨rfl, rfl⟩
  · have d1 : decide (lo ≤ n) = false := by simp; omega
    clear h
    go_enter Try.func16, Try.ntmps16
    go_wp2
    go_ret
    exact ⟨rfl, rfl⟩
theorem info_ma : (Try.prog.info? 53).map (fun i => (i.zero, i.size, i.bytes)) = some (some (.agg #[.int .i64 0, .int .i64 0]), 2, 16) := by kernel_rfl
/-- what Settle comes to -/
def CeA (B D : Nat) (vw vm : Value) (c : Cm) (now hv want : Int) (w : World) (e : Ending) (w' : World) : Prop :=
  e = .returned (.tuple #[.int .i64 (cN c now hv want), .int .i64 (cE c now hv want)]) ∧ ∃ vw' vm', CAt w' B D vw' vm' (cS c now hv want) ∧ CStep D vw vm vw' vm' w w'
/-- what it holds fits -/
structure CFit (c : Cm) (k : Nat) : Prop where
  u : PcOk c.u
  d : PcOk c.d
  last : 0 ≤ c.last ∧ c.last ≤ 1099511627776
  ws : ∀ m ∈ c.ws, 0 ≤ m.p ∧ m.p ≤ 50
  ms : ∀ m ∈ c.ms, -50 ≤ m.p ∧ m.p ≤ 50
  wl : c.ws.length ≤ k
  ml : c.ms.length ≤ k
theorem cset_no (B D : Nat) (vw vm : Value) (c : Cm) (now hv want : Int) (w : World) (hA : CAt w B D vw vm c) (h : ¬ (c.last ≤ now ∧ now ≤ 1099511627776 ∧ 0 ≤ hv ∧ hv ≤ 50 ∧ 0 ≤ want ∧ want ≤ 50)) :
    Calls Try.prog 7 #[.pointer (some ⟨D, 0, none⟩), .int .i64 now, .int .i64 hv, .int .i64 want] w (CeA B D vw vm c now hv want w) := by
  have HN : Hid (CeA B D vw vm c now hv want w (.returned (.tuple #[.int .i64 0, .int .i64 1])) w) := by
    have ho : okArg c.last now hv want = false := by simp only [okArg, decide_eq_false_iff_not]; exact h
    refine ⟨?_, vw, vm, ?_, CStep.refl _ _ _ _⟩
    · simp [cN, cE, ho]
    · simpa [cS, ho] using hA
  have k8 := hA.num 8 (by decide)
  simp only [cnum] at k8
  have hQ := hA.lt
  by_cases h1 : c.last ≤ now ∧ now ≤ 1099511627776
  · have c1 := fun w => rin_yes now c.last 1099511627776 w h1.1 h1.2
    by_cases h2 : 0 ≤ hv ∧ hv ≤ 50
    · have c2 := fun w => rin_yes hv 0 50 w h2.1 h2.2
      have h3 : ¬ (0 ≤ want ∧ want ≤ 50) := fun h3 => h ⟨h1.1, h1.2, h2.1, h2.2, h3.1, h3.2⟩
      have c3 := fun w => rin_no want 0 50 w h3
      have hne : hv ≠ want := fun e => h3 (e ▸ h2)
      clear h hA h3
      go_enter Try.func7, Try.ntmps7
      go_wp2_with (first
        | (go_at_call 16; (with_reducible refine (c1 _).mono ?_); rintro e w2 ⟨rfl, h9⟩; have h8 := h9.symm; clear h9; subst h8)
        | (go_at_call 16; (with_reducible refine (c2 _).mono ?_); rintro e w2 ⟨rfl, h9⟩; have h8 := h9.symm; clear h9; subst h8)
        | (go_at_call 16; (with_reducible refine (c3 _).mono ?_); rintro e w2 ⟨rfl, h9⟩; have h8 := h9.symm; clear h9; subst h8))
      go_ret2
      exact HN.out
    · have c2 := fun w => rin_no hv 0 50 w h2
      clear h hA h2
      go_enter Try.func7, Try.ntmps7
      go_wp2_with (first
        | (go_at_call 16; (with_reducible refine (c1 _).mono ?_); rintro e w2 ⟨rfl, h9⟩; have h8 := h9.symm; clear h9; subst h8)
        | (go_at_call 16; (with_reducible refine (c2 _).mono ?_); rintro e w2 ⟨rfl, h9⟩; have h8 := h9.symm; clear h9; subst h8))
      go_ret2
      exact HN.out
  · have c1 := fun w => rin_no now c.last 1099511627776 w h1
    clear h hA h1
    go_enter Try.func7, Try.ntmps7
    go_wp2_with (go_at_call 16; (with_reducible refine (c1 _).mono ?_); rintro e w2 ⟨rfl, h9⟩; have h8 := h9.symm; clear h9; subst h8)
    go_ret2
    exact HN.out
/-- a want is known -/
theorem app_w {B D : Nat} {vw vm v' : Value} {c : Cm} {now want : Int} {w w3 : World} {x : Obj} (hA : CAt w B D vw vm c)
    (hO : Own w3 B 53 2 v' (c.ws.length + 1) (cels mc c.ws ++ [.int .i64 now, .int .i64 want])) (hg : ((w.setCell ⟨D, 8, none⟩ (.int .i64 now)).alloc x).grownBy w3 vw.ownBlock) (hl : v'.ownBlock = vw.ownBlock ∨ v'.ownBlock = some ((w.setCell ⟨D, 8, none⟩ (.int .i64 now)).alloc x).heap.size) :
    Hid (CAt (w3.setCell ⟨D, 9, none⟩ v') B D v' vm ⟨c.u, c.d, now, c.ws ++ [⟨now, want⟩], c.ms⟩ ∧ CStep D vw vm v' vm w (w3.setCell ⟨D, 9, none⟩ v')) ∧ w3.cell? ⟨D, 9, none⟩ = some vw ∧ w3.frozen? ⟨D, 9, none⟩ = false := by
  obtain ⟨h1, s1⟩ := hA.setLast now
  have h2 := h1.alloc x
  have s2 : CStep D vw vm vw vm (w.setCell ⟨D, 8, none⟩ (.int .i64 now)) ((w.setCell ⟨D, 8, none⟩ (.int .i64 now)).alloc x) := CStep.of_below ((Below.refl _ _).alloc (Nat.le_refl _) _)
  have hO' : Own w3 B 53 2 v' (c.ws ++ [(⟨now, want⟩ : Mo)]).length (cels mc (c.ws ++ [(⟨now, want⟩ : Mo)])) := by
    rw [cels_append, List.length_append]; exact hO
  obtain ⟨h3, s3, c9, f9⟩ := h2.newW hg hO' (hl.imp id fun e => ⟨_, e, Nat.le_refl _⟩)
  exact ⟨⟨h3, (s1.trans s2).trans s3⟩, c9, f9⟩
/-- a move is known -/
theorem app_m {B D : Nat} {vw vm v' : Value} {c : Cm} {now d : Int} {w w3 : World} {x : Obj} (hA : CAt w B D vw vm c)
    (hO : Own w3 B 53 2 v' (c.ms.length + 1) (cels mc c.ms ++ [.int .i64 now, .int .i64 d])) (hg : (w.alloc x).grownBy w3 vm.ownBlock) (hl : v'.ownBlock = vm.ownBlock ∨ v'.ownBlock = some (w.alloc x).heap.size) :
    Hid (CAt (w3.setCell ⟨D, 10, none⟩ v') B D vw v' ⟨c.u, c.d, c.last, c.ws, c.ms ++ [⟨now, d⟩]⟩ ∧ CStep D vw vm vw v' w (w3.setCell ⟨D, 10, none⟩ v')) ∧ w3.cell? ⟨D, 10, none⟩ = some vm ∧ w3.frozen? ⟨D, 10, none⟩ = false := by
  have h2 := hA.alloc x
  have s2 : CStep D vw vm vw vm w (w.alloc x) := CStep.of_below ((Below.refl _ _).alloc (Nat.le_refl _) _)
  have hO' : Own w3 B 53 2 v' (c.ms ++ [(⟨now, d⟩ : Mo)]).length (cels mc (c.ms ++ [(⟨now, d⟩ : Mo)])) := by
    rw [cels_append, List.length_append]; exact hO
  obtain ⟨h3, s3, c9, f9⟩ := h2.newM hg hO' (hl.imp id fun e => ⟨_, e, Nat.le_refl _⟩)
  exact ⟨⟨h3, s2.trans s3⟩, c9, f9⟩
theorem fold_step (up : Bool) (t n : Int) (L : List Mo) (i : Nat) (m : Mo) (hm : L[i]? = some m) : (L.take (i + 1)).foldl (stF up t) n = stF up t ((L.take i).foldl (stF up t) n) m := by
  obtain ⟨hl, he⟩ := List.getElem?_eq_some_iff.1 hm
  rw [← List.take_append_getElem hl, List.foldl_append, he]; rfl
theorem stF_up (t n : Int) (m : Mo) : stF true t n m ≤ n := by unfold stF; simp only [if_true]; split <;> omega
theorem stF_dn (t n : Int) (m : Mo) : n ≤ stF false t n m := by unfold stF; simp only [Bool.false_eq_true, if_false]; split <;> omega
theorem fold_bd (up : Bool) (t : Int) (L : List Mo) (n : Int) (h : ∀ m ∈ L, 0 ≤ m.p ∧ m.p ≤ 50) (hn : 0 ≤ n ∧ n ≤ 50) : 0 ≤ L.foldl (stF up t) n ∧ L.foldl (stF up t) n ≤ 50 ∧ (up = true → L.foldl (stF up t) n ≤ n) ∧ (up = false → n ≤ L.foldl (stF up t) n) := by
  induction L generalizing n with
  | nil => exact ⟨hn.1, hn.2, fun _ => Int.le_refl _, fun _ => Int.le_refl _⟩
  | cons a L ih =>
    have ha := h a (by simp)
    have h2 : 0 ≤ stF up t n a ∧ stF up t n a ≤ 50 := by unfold stF; split <;> omega
    have h3 := ih (stF up t n a) (fun m hm => h m (by simp [hm])) h2
    have h4 : (up = true → stF up t n a ≤ n) ∧ (up = false → n ≤ stF up t n a) := ⟨fun e => by rw [e]; exact stF_up t n a, fun e => by rw [e]; exact stF_dn t n a⟩
    simp only [List.foldl_cons]
    refine ⟨h3.1, h3.2.1, fun e => ?_, fun e => ?_⟩
    · have a := h3.2.2.1 e; have b := h4.1 e; omega
    · have a := h3.2.2.2 e; have b := h4.2 e; omega
theorem sumF_step (f : Int → Int) (t : Int) (L : List Mo) (i : Nat) (m : Mo) (hm : L[i]? = some m) : sumF f (L.take (i + 1)) t = sumF f (L.take i) t + (if t < m.t then f m.p else 0) := by
  obtain ⟨hl, he⟩ := List.getElem?_eq_some_iff.1 hm
  rw [← List.take_append_getElem hl, sumF_append, he]; simp only [sumF]; omega
theorem sumF_bd (f : Int → Int) (hf : ∀ x, -50 ≤ x → x ≤ 50 → 0 ≤ f x ∧ f x ≤ 50) (t : Int) (L : List Mo) (h : ∀ m ∈ L, -50 ≤ m.p ∧ m.p ≤ 50) : 0 ≤ sumF f L t ∧ sumF f L t ≤ 50 * L.length := by
  induction L with
  | nil => simp [sumF]
  | cons a L ih =>
    have ha := h a (by simp)
    have h1 := hf a.p ha.1 ha.2
    have h2 := ih (fun m hm => h m (by simp [hm]))
    simp only [sumF, List.length_cons]
    split <;> omega
theorem fup_bd (x : Int) (h1 : -50 ≤ x) (h2 : x ≤ 50) : 0 ≤ fup x ∧ fup x ≤ 50 := by unfold fup; omega
theorem fdn_bd (x : Int) (h1 : -50 ≤ x) (h2 : x ≤ 50) : 0 ≤ fdn x ∧ fdn x ≤ 50 := by unfold fdn; omega
/-- some wants are looked at -/
def L1R (up : Bool) (t want : Int) (L : List Mo) (wa : World) (vn vi : Value) (wr : World) : Prop :=
  ∃ i : Nat, i ≤ L.length ∧ vi = .int .i64 i ∧ vn = .int .i64 ((L.take i).foldl (stF up t) want) ∧ Below wa.heap.size wa wr
/-- some moves are summed up -/
def L2R (f : Int → Int) (t : Int) (L : List Mo) (wa : World) (vm vi : Value) (wr : World) : Prop :=
  ∃ i : Nat, i ≤ L.length ∧ vi = .int .i64 i ∧ vm = .int .i64 (sumF f (L.take i) t) ∧ Below wa.heap.size wa wr
theorem cell_new {W : World} {cs : Array Value} {e : TypeId} {N j : Nat} {v : Value} (hN : N = W.heap.size) (hj : cs[j]? = some v) : (W.alloc (.cells cs e)).cell? ⟨N, j, none⟩ = some v := by
  subst hN; simpa using hj
theorem last_of (ws : List Mo) (x : Mo) (i : Nat) (m : Mo) (h : (ws ++ [x])[i]? = some m) (hi : i = ws.length) : m = x := by
  subst hi; simp at h; exact h.symm
end Stb
end Go.Proofs.Ytanlhkokghjadac
