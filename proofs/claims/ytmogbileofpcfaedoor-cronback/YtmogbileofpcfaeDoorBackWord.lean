/- A word of a cron's text is read back; what is read is right; how long a word is. -/
import Derived.Test.YtmogbileofpcfaeDoorBackPlain
namespace Go.Proofs.YtmogbileofpcfaeDoor
namespace Pie
open Crn

theorem join_no {c d : UInt8} (hcd : c ≠ d) : ∀ (r : List (List UInt8)), (∀ y ∈ r, c ∉ y) → c ∉ Lib.join r [d]
  | [], _ => by simp [Lib.join_nil]
  | [x], h => by rw [Lib.join_one]; exact h x (by simp)
  | x :: y :: r, h => by
    have e : Lib.join (x :: y :: r) [d] = x ++ d :: Lib.join (y :: r) [d] := by
      rw [Lib.join_cons, Lib.join_cons]; simp [Lib.joinTail]
    rw [e]
    intro g
    rcases List.mem_append.1 g with g | g
    · exact h x (by simp) g
    · rcases List.mem_cons.1 g with g | g
      · exact hcd g
      · exact join_no hcd (y :: r) (fun z hz => h z (by simp only [List.mem_cons] at hz ⊢; exact Or.inr hz)) g
theorem wordS_map {lo hi : Int} : ∀ (r : List (Int × Int)), (∀ p ∈ r, itemS lo hi (rowT p) = some (p.1, p.2, 1)) → wordS lo hi (r.map rowT) = some (r.map fun p => (p.1, p.2, 1))
  | [], _ => rfl
  | p :: r, h => by
    have e : wordS lo hi (rowT p :: r.map rowT) = match itemS lo hi (rowT p), wordS lo hi (r.map rowT) with | some p, some l => some (p :: l) | _, _ => none := rfl
    rw [List.map_cons, e, h p (by simp), wordS_map r (fun q hq => h q (by simp [hq]))]; rfl
theorem star_word {lo hi : Int} : wordS lo hi (pieces 44 [42]) = some [(lo, hi, 1)] := by
  have e : pieces 44 [42] = [[42]] := pieces_none (by decide)
  have i : itemS lo hi [42] = some (lo, hi, 1) := by
    unfold itemS
    rw [cutS_none (by decide)]
    dsimp only
    unfold rowS; rw [if_pos rfl]
  rw [e]; unfold wordS; rw [i]; rfl
section
variable {s lo hi : Int} (hs : 0 ≤ s ∧ s ≤ 18446744073709551615) (hsub : ∀ n, inS s n = true → lo ≤ n ∧ n ≤ hi) (h59 : hi ≤ 59)
include hs hsub h59
theorem rows_ne {K : Nat} (hK : 60 ≤ K) (hne : ∃ n, inS s n = true) : rowsU s K ≠ [] := by
  obtain ⟨n, hn⟩ := hne
  have h60 : ∀ n, inS s n = true → n ≤ 59 := fun n h => by have := hsub n h; omega
  intro e
  have := (rows_set hs h60 K hK).2 n
  rw [e, hn] at this; cases this
theorem rows_read {K : Nat} (hK : 60 ≤ K) (hne : ∃ n, inS s n = true) : pieces 44 (Lib.join ((rowsU s K).map rowT) [44]) = (rowsU s K).map rowT ∧ wordS lo hi ((rowsU s K).map rowT) = some ((rowsU s K).map fun p => (p.1, p.2, 1)) ∧ SetIs ((rowsU s K).map fun p => (p.1, p.2, 1)) s ∧
    (32 : UInt8) ∉ Lib.join ((rowsU s K).map rowT) [44] ∧ Lib.join ((rowsU s K).map rowT) [44] ≠ [42] := by
  have h60 : ∀ n, inS s n = true → n ≤ 59 := fun n h => by have := hsub n h; omega
  have hr := rows_are hs h60 K
  have hno : ∀ (c : UInt8), dg c = false → c ≠ 45 → ∀ y ∈ (rowsU s K).map rowT, c ∉ y := by
    intro c h1 h2 y hy
    rw [List.mem_map] at hy
    obtain ⟨p, hp, rfl⟩ := hy
    obtain ⟨a1, a2, a3, a4, a5, a6⟩ := hr p hp
    exact row_no (a := p.1) (b := p.2) (by omega) (by omega) h1 h2
  have hp44 : pieces 44 (Lib.join ((rowsU s K).map rowT) [44]) = (rowsU s K).map rowT := by
    have hn := rows_ne hs hsub h59 hK hne
    cases e : rowsU s K with
    | nil => exact absurd e hn
    | cons p r =>
      rw [e] at hno
      rw [List.map_cons]
      exact pieces_join 44 _ _ (fun y hy => hno 44 (by decide) (by decide) y (by rw [List.map_cons]; exact hy))
  refine ⟨hp44, wordS_map _ (fun p hp => ?_), rows_set hs h60 K hK, join_no (by decide) _ (hno 32 (by decide) (by decide)), fun e => ?_⟩
  · obtain ⟨a1, a2, a3, a4, a5, a6⟩ := hr p hp
    have q1 := hsub p.1 (a5 p.1 (Int.le_refl _) a2)
    have q2 := hsub p.2 (a5 p.2 a2 (Int.le_refl _))
    exact row_item a1 q1.1 a2 q2.2 (by omega)
  · rw [e, pieces_none (by decide)] at hp44
    exact hno 42 (by decide) (by decide) [42] (by rw [← hp44]; simp) (by simp)
end
/-- the set of one row that is all numbers from lo to hi -/
theorem full_one {full lo hi v : Int} (hF : 0 ≤ full ∧ full ≤ 18446744073709551615) (hf : ∀ n, inS full n = decide (lo ≤ n ∧ n ≤ hi)) : SetIs [(lo, hi, 1)] v ↔ v = full := by
  have e : ∀ n, ([(lo, hi, 1)] : List (Int × Int × Int)).any (fun p => inI p n) = decide (lo ≤ n ∧ n ≤ hi) := fun n => by
    simp only [List.any_cons, List.any_nil, Bool.or_false, inI]
    rw [decide_eq_decide]
    exact ⟨fun h => ⟨h.1, h.2.1⟩, fun h => ⟨h.1, h.2, Int.emod_one _⟩⟩
  constructor
  · intro h
    exact u_ext _ _ h.1 hF fun n => by rw [h.2, e, hf]
  · rintro rfl
    exact ⟨hF, fun n => by rw [hf, e]⟩
/-- what was read lies within the bounds, and is something -/
theorem word_in {lo hi : Int} (hl : lo ≤ hi) : ∀ (r : List (List UInt8)) (l : List (Int × Int × Int)), wordS lo hi r = some l → (∀ p ∈ l, lo ≤ p.1 ∧ p.1 ≤ p.2.1 ∧ p.2.1 ≤ hi) ∧ l.length = r.length
  | [], l, h => by cases h; exact ⟨(fun p hp => by cases hp), rfl⟩
  | t :: r, l, h => by
    have e : wordS lo hi (t :: r) = match itemS lo hi t, wordS lo hi r with | some p, some l => some (p :: l) | _, _ => none := rfl
    rw [e] at h
    cases h1 : itemS lo hi t with
    | none => rw [h1] at h; cases h
    | some q =>
      cases h2 : wordS lo hi r with
      | none => rw [h1, h2] at h; cases h
      | some m =>
        rw [h1, h2] at h
        cases h
        obtain ⟨g1, g2⟩ := word_in hl r m h2
        obtain ⟨a, b, st⟩ := q
        have := itemS_bd hl h1
        refine ⟨fun p hp => ?_, by simp [g2]⟩
        rcases List.mem_cons.1 hp with rfl | hp
        · exact ⟨this.1, this.2.1, this.2.2.1⟩
        · exact g1 p hp
theorem set_in {lo hi v : Int} {t : List UInt8} {l : List (Int × Int × Int)} (hl : lo ≤ hi) (h : wordS lo hi (pieces 44 t) = some l) (hv : SetIs l v) : (∀ n, inS v n = true → lo ≤ n ∧ n ≤ hi) ∧ ∃ n, inS v n = true := by
  obtain ⟨g1, g2⟩ := word_in hl _ l h
  refine ⟨fun n hn => ?_, ?_⟩
  · rw [hv.2, List.any_eq_true] at hn
    obtain ⟨p, hp, hq⟩ := hn
    unfold inI at hq
    rw [decide_eq_true_eq] at hq
    have := g1 p hp
    omega
  · cases l with
    | nil =>
      rw [pieces_len] at g2; simp at g2
    | cons p r =>
      refine ⟨p.1, ?_⟩
      have := g1 p (by simp)
      rw [hv.2, List.any_cons]
      have e : inI p p.1 = true := by
        unfold inI; rw [decide_eq_true_eq]
        exact ⟨Int.le_refl _, this.2.1, by simp⟩
      rw [e]; rfl
/-- a set that was read is right -/
theorem ok_read {full lo hi v : Int} {t : List UInt8} {l : List (Int × Int × Int)} (hF : 0 ≤ full ∧ full ≤ 18446744073709551615) (hf : ∀ n, inS full n = decide (lo ≤ n ∧ n ≤ hi)) (hl : lo ≤ hi) (h : wordS lo hi (pieces 44 t) = some l) (hv : SetIs l v) {m : Bool} (hm : m = true → t = [42]) : okB v full m = true := by
  obtain ⟨g1, n, g2⟩ := set_in hl h hv
  have z : v ≠ 0 := fun e => by rw [e, inS_zero] at g2; cases g2
  have a : bits .andNot .u64 v full = 0 := by
    refine u_ext _ _ (u_andNot v full hv.1 hF) (by decide) fun n => ?_
    rw [in_andNot v full n hv.1 hF, inS_zero, hf]
    cases q : inS v n
    · rfl
    · have := g1 n q
      rw [decide_eq_true this]; rfl
  unfold okB
  cases m
  · simp [z, a]
  · have e := hm rfl
    subst e
    rw [star_word] at h
    cases h
    have := (full_one hF hf).1 hv
    subst this
    simp [z, a]
/-- how many numbers the rows take up -/
def taken : List (Int × Int) → Int
  | [] => 0
  | p :: r => (p.2 - p.1 + 2) + taken r
theorem taken_add : ∀ (a b : List (Int × Int)), taken (a ++ b) = taken a + taken b
  | [], b => by simp [taken]
  | p :: a, b => by
    show (p.2 - p.1 + 2) + taken (a ++ b) = ((p.2 - p.1 + 2) + taken a) + taken b
    rw [taken_add a b]; omega
def wide : List (Int × Int) → Int
  | [] => 0
  | p :: r => ((rowT p).length : Int) + 1 + wide r
theorem dec_two (n : Nat) (h : n < 100) : (Lib.decDigits n).length ≤ 2 := by
  by_cases g : n < 10
  · rw [Lib.decDigits_one g]; simp
  · rw [Lib.decDigits_two g h]; simp
theorem wide_le : ∀ (r : List (Int × Int)), (∀ p ∈ r, 0 ≤ p.1 ∧ p.1 ≤ p.2 ∧ p.2 ≤ 59) → wide r ≤ 2 * taken r
  | [], _ => by simp [wide, taken]
  | p :: r, h => by
    have ih := wide_le r (fun q hq => h q (by simp [hq]))
    obtain ⟨h1, h2, h3⟩ := h p (by simp)
    have l1 := dec_two p.1.toNat (by omega)
    have l2 := dec_two p.2.toNat (by omega)
    unfold wide taken
    have : ((rowT p).length : Int) + 1 ≤ 2 * (p.2 - p.1 + 2) := by
      unfold rowT
      split
      · omega
      · simp only [List.length_append, List.length_cons, List.length_nil]
        omega
    omega
theorem join_wide : ∀ (r : List (Int × Int)), ((Lib.join (r.map rowT) [44]).length : Int) ≤ wide r
  | [] => by simp [Lib.join_nil, wide]
  | [p] => by simp [Lib.join_one, wide]; omega
  | p :: q :: r => by
    have ih := join_wide (q :: r)
    have e : Lib.join ((p :: q :: r).map rowT) [44] = rowT p ++ 44 :: Lib.join ((q :: r).map rowT) [44] := by
      rw [List.map_cons, List.map_cons, Lib.join_cons, Lib.join_cons]; simp [Lib.joinTail]
    rw [e]
    have e2 : wide (p :: q :: r) = ((rowT p).length : Int) + 1 + wide (q :: r) := rfl
    rw [e2]
    simp only [List.length_append, List.length_cons]
    omega
/-- the rows take up no more than there is -/
theorem taken_le {s lo hi : Int} (hs : 0 ≤ s ∧ s ≤ 18446744073709551615) (hsub : ∀ n, inS s n = true → lo ≤ n ∧ n ≤ hi) (h59 : hi ≤ 59) (hlh : lo ≤ hi) :
    ∀ k : Nat, taken (rowsU s k) ≤ hi + 2 - lo ∧ (∀ n : Int, (k : Int) ≤ n → isSt s n = true → taken (rowsU s k) ≤ n - lo)
  | 0 => ⟨by simp [rowsU, taken]; omega, fun n h1 h2 => by
      simp [rowsU, taken]
      unfold isSt at h2; rw [Bool.and_eq_true] at h2
      have := hsub n h2.1; omega⟩
  | k + 1 => by
    obtain ⟨g1, g2⟩ := taken_le hs hsub h59 hlh k
    have h60 : ∀ n, inS s n = true → n ≤ 59 := fun n h => by have := hsub n h; omega
    have e : rowsU s (k + 1) = rowsU s k ++ (if isSt s (k : Int) = true then [((k : Int), endOf s k)] else []) := rfl
    cases g : isSt s (k : Int)
    · rw [e, g]
      simp only [Bool.false_eq_true, if_false, List.append_nil]
      exact ⟨g1, fun n h1 h2 => g2 n (by omega) h2⟩
    · have g' := g
      unfold isSt at g'
      rw [Bool.and_eq_true] at g'
      obtain ⟨e1, e2, e3, e4, e5⟩ := end_spec hs h60 g'.1
      have hend := hsub (frm (ntS s) (k : Int) - 1) (e5 _ (by omega) (by omega))
      have q := g2 k (Int.le_refl _) g
      rw [e, if_pos g, taken_add]
      have t1 : taken [((k : Int), endOf s k)] = endOf s k - k + 2 := by simp [taken]
      rw [t1]
      unfold endOf
      refine ⟨by omega, fun n h1 h2 => ?_⟩
      unfold isSt at h2
      rw [Bool.and_eq_true] at h2
      have : frm (ntS s) (k : Int) < n := by
        rcases Int.lt_trichotomy n (frm (ntS s) (k : Int)) with c | c | c
        · exfalso
          have b1 := e5 (n - 1) (by omega) (by omega)
          rw [b1] at h2; exact absurd h2.2 (by decide)
        · rw [c, e4] at h2; exact absurd h2.1 (by decide)
        · exact c
      omega
theorem word_short {s lo hi : Int} (hs : 0 ≤ s ∧ s ≤ 18446744073709551615) (hsub : ∀ n, inS s n = true → lo ≤ n ∧ n ≤ hi) (h59 : hi ≤ 59) (hlh : lo ≤ hi) (K : Nat) : ((Lib.join ((rowsU s K).map rowT) [44]).length : Int) ≤ 2 * (hi + 2 - lo) := by
  have h60 : ∀ n, inS s n = true → n ≤ 59 := fun n h => by have := hsub n h; omega
  have h1 := join_wide (rowsU s K)
  have h2 := wide_le (rowsU s K) (fun p hp => by obtain ⟨a1, a2, a3, _⟩ := rows_are hs h60 K p hp; exact ⟨a1, a2, a3⟩)
  have h3 := (taken_le hs hsub h59 hlh K).1
  omega
end Pie
end Go.Proofs.YtmogbileofpcfaeDoor
