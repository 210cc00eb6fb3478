/- What civil.Of and civil.Seconds answer, at every input. -/
import Derived.Test.YtdoblmgilinknadCivilWalks
namespace Go.Proofs.Ytdoblmgilinknad
namespace Civ
open Cal Go.RowKit

theorem bcell {W w1 : World} (hb : Below W.heap.size W w1) : (∀ b o, b < W.heap.size → w1.cell? ⟨b, o, none⟩ = W.cell? ⟨b, o, none⟩) ∧ (∀ b o, b < W.heap.size → w1.frozen? ⟨b, o, none⟩ = W.frozen? ⟨b, o, none⟩) :=
  ⟨fun b o h => hb.cell (p := ⟨b, o, none⟩) h, fun b o h => hb.frozen (p := ⟨b, o, none⟩) h⟩

/-- one call behind another; a new block behind a call -/
theorem bstep {a b c : World} (h : Below a.heap.size a b) (k : Below b.heap.size b c) : Below a.heap.size a c := h.trans (k.mono h.size)
theorem bstepA {a b : World} (h : Below a.heap.size a b) (o : Obj) : Below a.heap.size a (b.alloc o) := h.alloc h.size o

theorem of_no (sec shift : Int) (w : World) (h : tmB sec = false ∨ shB shift = false) :
    Calls Try.prog 16 #[.int .i64 sec, .int .i64 shift] w fun e w' => e = .returned (.tuple #[civ 0 0 0 0 0 0 0, .int .i64 1]) ∧ Below w.heap.size w w' := by
  cases ht : tmB sec
  · clear h
    go_enter Try.func16, Try.ntmps16
    go_wp2_with (first | (go_at_call 21; refine (time_any _ _).mono ?_; rintro e w' ⟨rfl, rfl⟩) | (go_at_call 22; refine (shift_any _ _).mono ?_; rintro e w' ⟨rfl, rfl⟩))
    refine bodyPost_ret (v := .tuple #[civ 0 0 0 0 0 0 0, .int .i64 1]) (by simp [results, Try.results16, go_sem]) rfl ⟨rfl, ?_⟩
    exact (Below.refl _ _).alloc (Nat.le_refl _) _
  · have hs : shB shift = false := by rcases h with h | h; (rw [ht] at h; exact Bool.noConfusion h); exact h
    clear h
    go_enter Try.func16, Try.ntmps16
    go_wp2_with (first | (go_at_call 21; refine (time_any _ _).mono ?_; rintro e w' ⟨rfl, rfl⟩) | (go_at_call 22; refine (shift_any _ _).mono ?_; rintro e w' ⟨rfl, rfl⟩))
    refine bodyPost_ret (v := .tuple #[civ 0 0 0 0 0 0 0, .int .i64 1]) (by simp [results, Try.results16, go_sem]) rfl ⟨rfl, ?_⟩
    exact (Below.refl _ _).alloc (Nat.le_refl _) _

/-- seconds behind the beginning of -4000 -/
abbrev sc (sec shift : Int) : Int := sec + (188395027200 + shift * 60)
abbrev ofv (t : Int) : Value := civ (yr (t / 86400)) (mo (t / 86400)) (dy (t / 86400)) (t % 86400 / 3600) (t % 3600 / 60) (t % 60) ((t / 86400 + 6) % 7)

theorem ys_c (w : World) : Calls Try.prog 23 #[.int .i64 1970] w fun e w' => e = .returned (.int .i64 2180498) ∧ w' = w := by
  have := ys_any 1970 w (by omega) (by omega)
  rw [ys_1970] at this
  exact this

set_option maxHeartbeats 1000000 in
theorem of_yes (sec shift : Int) (w : World) (ht : tmB sec = true) (hs : shB shift = true) :
    Calls Try.prog 16 #[.int .i64 sec, .int .i64 shift] w fun e w' => e = .returned (.tuple #[ofv (sc sec shift), .int .i64 0]) ∧ Below w.heap.size w w' := by
  have h1 := (tm_iff _).1 ht
  have h2 := (sh_iff _).1 hs
  go_enter Try.func16, Try.ntmps16
  go_wp2_with (first | (go_at_call 21; refine (time_any _ _).mono ?_; rintro e w' ⟨rfl, rfl⟩) | (go_at_call 22; refine (shift_any _ _).mono ?_; rintro e w' ⟨rfl, rfl⟩) | (go_at_call 23; refine (ys_c _).mono ?_; rintro e w' ⟨rfl, rfl⟩) | (go_at_call 24; refine (date_any _ _ (by omega) (by omega)).mono ?_; rintro e w1 ⟨rfl, hb⟩; obtain ⟨hc, hf⟩ := bcell hb; have hz : w.heap.size < w1.heap.size := (by have := hb.size; simp at this; omega)))
  refine bodyPost_ret (v := .tuple #[ofv (sc sec shift), .int .i64 0]) (by simp [results, Try.results16, go_sem, hc, hz]) rfl ⟨rfl, ?_⟩
  exact (((((((((((Below.refl _ _).alloc (Nat.le_refl _) _).trans (hb.mono (by simp))).setCell (Nat.le_refl _) _).setCell (Nat.le_refl _) _).setCell (Nat.le_refl _) _).setCell (Nat.le_refl _) _).setCell (Nat.le_refl _) _).setCell (Nat.le_refl _) _).setCell (Nat.le_refl _) _).alloc (by simp; omega) _)

def ckB (h i s : Int) : Bool := decide (0 ≤ h ∧ h ≤ 23 ∧ 0 ≤ i ∧ i ≤ 59 ∧ 0 ≤ s ∧ s ≤ 59)
theorem ck_iff (h i s : Int) : ckB h i s = true ↔ (0 ≤ h ∧ h ≤ 23 ∧ 0 ≤ i ∧ i ≤ 59 ∧ 0 ≤ s ∧ s ≤ 59) := by unfold ckB; simp
theorem ck_no {h i s : Int} (g : ¬ (0 ≤ h ∧ h ≤ 23 ∧ 0 ≤ i ∧ i ≤ 59 ∧ 0 ≤ s ∧ s ≤ 59)) : ckB h i s = false := by unfold ckB; simp only [g, decide_false]

theorem clock_any (y m d h i s k : Int) (w : World) :
    Calls Try.prog 25 #[civ y m d h i s k] w fun e w' => e = .returned (.bool (ckB h i s)) ∧ Below w.heap.size w w' := by
  go_enter Try.func25, Try.ntmps25
  go_wp2
  all_goals
    go_ret
    refine ⟨ret_bool ?_, (Below.refl _ _).alloc (Nat.le_refl _) _⟩
    first | exact (ck_no (by omega)).symm | (unfold ckB; rw [decide_eq_decide]; omega)

abbrev sv (y m d h i s shift : Int) : Int := num y m d * 86400 + h * 3600 + i * 60 + s - shift * 60
def secB (y m d h i s shift : Int) : Bool := vldB y m d && (shB shift && (ckB h i s && tmB (sv y m d h i s shift)))

set_option maxHeartbeats 1000000 in
theorem secs_no (y m d h i s k shift : Int) (w : World) (hn : secB y m d h i s shift = false) :
    Calls Try.prog 17 #[civ y m d h i s k, .int .i64 shift] w fun e w' => e = .returned (.tuple #[.int .i64 0, .int .i64 1]) ∧ Below w.heap.size w w' := by
  cases hv : vldB y m d
  · clear hn
    go_enter Try.func17, Try.ntmps17
    go_wp2_with (first | (go_at_call 18; with_reducible refine (days_no _ _ _ _ (by assumption)).mono ?_; rintro e w' ⟨rfl, rfl⟩) | (go_at_call 18; with_reducible refine (days_yes _ _ _ _ (by assumption)).mono ?_; rintro e w' ⟨rfl, rfl⟩) | (go_at_call 22; refine (shift_any _ _).mono ?_; rintro e w' ⟨rfl, rfl⟩) | (go_at_call 21; refine (time_any _ _).mono ?_; rintro e w' ⟨rfl, rfl⟩) | (go_at_call 25; refine (clock_any _ _ _ _ _ _ _ _).mono ?_; rintro e w1 ⟨rfl, hb⟩; obtain ⟨hc, hf⟩ := bcell hb; have hz : w.heap.size < w1.heap.size := (by have := hb.size; simp at this; omega)))
    go_ret2
    exact ⟨rfl, (Below.refl _ _).alloc (Nat.le_refl _) _⟩
  cases hs : shB shift
  · clear hn
    go_enter Try.func17, Try.ntmps17
    go_wp2_with (first | (go_at_call 18; with_reducible refine (days_no _ _ _ _ (by assumption)).mono ?_; rintro e w' ⟨rfl, rfl⟩) | (go_at_call 18; with_reducible refine (days_yes _ _ _ _ (by assumption)).mono ?_; rintro e w' ⟨rfl, rfl⟩) | (go_at_call 22; refine (shift_any _ _).mono ?_; rintro e w' ⟨rfl, rfl⟩) | (go_at_call 21; refine (time_any _ _).mono ?_; rintro e w' ⟨rfl, rfl⟩) | (go_at_call 25; refine (clock_any _ _ _ _ _ _ _ _).mono ?_; rintro e w1 ⟨rfl, hb⟩; obtain ⟨hc, hf⟩ := bcell hb; have hz : w.heap.size < w1.heap.size := (by have := hb.size; simp at this; omega)))
    go_ret2
    exact ⟨rfl, (Below.refl _ _).alloc (Nat.le_refl _) _⟩
  cases hk : ckB h i s
  · clear hn
    go_enter Try.func17, Try.ntmps17
    go_wp2_with (first | (go_at_call 18; with_reducible refine (days_no _ _ _ _ (by assumption)).mono ?_; rintro e w' ⟨rfl, rfl⟩) | (go_at_call 18; with_reducible refine (days_yes _ _ _ _ (by assumption)).mono ?_; rintro e w' ⟨rfl, rfl⟩) | (go_at_call 22; refine (shift_any _ _).mono ?_; rintro e w' ⟨rfl, rfl⟩) | (go_at_call 21; refine (time_any _ _).mono ?_; rintro e w' ⟨rfl, rfl⟩) | (go_at_call 25; refine (clock_any _ _ _ _ _ _ _ _).mono ?_; rintro e w1 ⟨rfl, hb⟩; obtain ⟨hc, hf⟩ := bcell hb; have hz : w.heap.size < w1.heap.size := (by have := hb.size; simp at this; omega)))
    go_ret2
    exact ⟨rfl, ((Below.refl _ _).alloc (Nat.le_refl _) _).trans (hb.mono (by simp))⟩
  have ht : tmB (sv y m d h i s shift) = false := by
    unfold secB at hn; rw [hv, hs, hk] at hn; simpa using hn
  clear hn
  have n1 := num_bd _ _ _ hv
  have k1 := (ck_iff _ _ _).1 hk
  have s1 := (sh_iff _).1 hs
  go_enter Try.func17, Try.ntmps17
  go_wp2_with (first | (go_at_call 18; with_reducible refine (days_no _ _ _ _ (by assumption)).mono ?_; rintro e w' ⟨rfl, rfl⟩) | (go_at_call 18; with_reducible refine (days_yes _ _ _ _ (by assumption)).mono ?_; rintro e w' ⟨rfl, rfl⟩) | (go_at_call 22; refine (shift_any _ _).mono ?_; rintro e w' ⟨rfl, rfl⟩) | (go_at_call 21; refine (time_any _ _).mono ?_; rintro e w' ⟨rfl, rfl⟩) | (go_at_call 25; refine (clock_any _ _ _ _ _ _ _ _).mono ?_; rintro e w1 ⟨rfl, hb⟩; obtain ⟨hc, hf⟩ := bcell hb; have hz : w.heap.size < w1.heap.size := (by have := hb.size; simp at this; omega)))
  go_ret2
  exact ⟨rfl, ((Below.refl _ _).alloc (Nat.le_refl _) _).trans (hb.mono (by simp))⟩

set_option maxHeartbeats 1000000 in
theorem secs_yes (y m d h i s k shift : Int) (w : World) (hy : secB y m d h i s shift = true) :
    Calls Try.prog 17 #[civ y m d h i s k, .int .i64 shift] w fun e w' => e = .returned (.tuple #[.int .i64 (sv y m d h i s shift), .int .i64 0]) ∧ Below w.heap.size w w' := by
  unfold secB at hy
  simp only [Bool.and_eq_true] at hy
  obtain ⟨hv, hs, hk, ht⟩ := hy
  have n1 := num_bd _ _ _ hv
  have k1 := (ck_iff _ _ _).1 hk
  have s1 := (sh_iff _).1 hs
  go_enter Try.func17, Try.ntmps17
  go_wp2_with (first | (go_at_call 18; with_reducible refine (days_no _ _ _ _ (by assumption)).mono ?_; rintro e w' ⟨rfl, rfl⟩) | (go_at_call 18; with_reducible refine (days_yes _ _ _ _ (by assumption)).mono ?_; rintro e w' ⟨rfl, rfl⟩) | (go_at_call 22; refine (shift_any _ _).mono ?_; rintro e w' ⟨rfl, rfl⟩) | (go_at_call 21; refine (time_any _ _).mono ?_; rintro e w' ⟨rfl, rfl⟩) | (go_at_call 25; refine (clock_any _ _ _ _ _ _ _ _).mono ?_; rintro e w1 ⟨rfl, hb⟩; obtain ⟨hc, hf⟩ := bcell hb; have hz : w.heap.size < w1.heap.size := (by have := hb.size; simp at this; omega)))
  go_ret2
  exact ⟨rfl, ((Below.refl _ _).alloc (Nat.le_refl _) _).trans (hb.mono (by simp))⟩
end Civ
end Go.Proofs.Ytdoblmgilinknad
