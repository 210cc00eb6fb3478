
/- What civil.Of answers, at every input. -/
import Derived.Test.YtcaobnmfgnbolafDoorCivilWalks
namespace Go.Proofs.YtcaobnmfgnbolafDoor
namespace Civ
open Cal Go.RowKit

theorem bcell {W w1 : World} (hb : Below W.heap.size W w1) : (∀ b o, b < W.heap.size → w1.cell? ⟨b, o, none⟩ = W.cell? ⟨b, o, none⟩) ∧ (∀ b o, b < W.heap.size → w1.frozen? ⟨b, o, none⟩ = W.frozen? ⟨b, o, none⟩) :=
  ⟨fun b o h => hb.cell (p := ⟨b, o, none⟩) h, fun b o h => hb.frozen (p := ⟨b, o, none⟩) h⟩

/-- one call behind another; a new block behind a call -/
theorem bstep {a b c : World} (h : Below a.heap.size a b) (k : Below b.heap.size b c) : Below a.heap.size a c := h.trans (k.mono h.size)
theorem bstepA {a b : World} (h : Below a.heap.size a b) (o : Obj) : Below a.heap.size a (b.alloc o) := h.alloc h.size o

theorem of_no (sec shift : Int) (w : World) (h : tmB sec = false ∨ shB shift = false) :
    Calls Tryd.prog 89 #[.int .i64 sec, .int .i64 shift] w fun e w' => e = .returned (.tuple #[civ 0 0 0 0 0 0 0, .int .i64 1]) ∧ Below w.heap.size w w' := by
  cases ht : tmB sec
  · clear h
    go_enter Tryd.func89, Tryd.ntmps89
    go_wp2_with (first | (go_at_call 108; refine (time_any _ _).mono ?_; rintro e w' ⟨rfl, rfl⟩) | (go_at_call 109; refine (shift_any _ _).mono ?_; rintro e w' ⟨rfl, rfl⟩))
    refine bodyPost_ret (v := .tuple #[civ 0 0 0 0 0 0 0, .int .i64 1]) (by simp [results, Tryd.results89, go_sem]) rfl ⟨rfl, ?_⟩
    exact (Below.refl _ _).alloc (Nat.le_refl _) _
  · have hs : shB shift = false := by rcases h with h | h; (rw [ht] at h; exact Bool.noConfusion h); exact h
    clear h
    go_enter Tryd.func89, Tryd.ntmps89
    go_wp2_with (first | (go_at_call 108; refine (time_any _ _).mono ?_; rintro e w' ⟨rfl, rfl⟩) | (go_at_call 109; refine (shift_any _ _).mono ?_; rintro e w' ⟨rfl, rfl⟩))
    refine bodyPost_ret (v := .tuple #[civ 0 0 0 0 0 0 0, .int .i64 1]) (by simp [results, Tryd.results89, go_sem]) rfl ⟨rfl, ?_⟩
    exact (Below.refl _ _).alloc (Nat.le_refl _) _

/-- seconds behind the beginning of -4000 -/
abbrev sc (sec shift : Int) : Int := sec + (188395027200 + shift * 60)
abbrev ofv (t : Int) : Value := civ (yr (t / 86400)) (mo (t / 86400)) (dy (t / 86400)) (t % 86400 / 3600) (t % 3600 / 60) (t % 60) ((t / 86400 + 6) % 7)

theorem ys_c (w : World) : Calls Tryd.prog 91 #[.int .i64 1970] w fun e w' => e = .returned (.int .i64 2180498) ∧ w' = w := by
  have := ys_any 1970 w (by omega) (by omega)
  rw [ys_1970] at this
  exact this

set_option maxHeartbeats 1000000 in
theorem of_yes (sec shift : Int) (w : World) (ht : tmB sec = true) (hs : shB shift = true) :
    Calls Tryd.prog 89 #[.int .i64 sec, .int .i64 shift] w fun e w' => e = .returned (.tuple #[ofv (sc sec shift), .int .i64 0]) ∧ Below w.heap.size w w' := by
  have h1 := (tm_iff _).1 ht
  have h2 := (sh_iff _).1 hs
  go_enter Tryd.func89, Tryd.ntmps89
  go_wp2_with (first | (go_at_call 108; refine (time_any _ _).mono ?_; rintro e w' ⟨rfl, rfl⟩) | (go_at_call 109; refine (shift_any _ _).mono ?_; rintro e w' ⟨rfl, rfl⟩) | (go_at_call 91; refine (ys_c _).mono ?_; rintro e w' ⟨rfl, rfl⟩) | (go_at_call 110; refine (date_any _ _ (by omega) (by omega)).mono ?_; rintro e w1 ⟨rfl, hb⟩; obtain ⟨hc, hf⟩ := bcell hb; have hz : w.heap.size < w1.heap.size := (by have := hb.size; simp at this; omega)))
  refine bodyPost_ret (v := .tuple #[ofv (sc sec shift), .int .i64 0]) (by simp [results, Tryd.results89, go_sem, hc, hz]) rfl ⟨rfl, ?_⟩
  exact (((((((((((Below.refl _ _).alloc (Nat.le_refl _) _).trans (hb.mono (by simp))).setCell (Nat.le_refl _) _).setCell (Nat.le_refl _) _).setCell (Nat.le_refl _) _).setCell (Nat.le_refl _) _).setCell (Nat.le_refl _) _).setCell (Nat.le_refl _) _).setCell (Nat.le_refl _) _).alloc (by simp; omega) _)
end Civ
end Go.Proofs.YtcaobnmfgnbolafDoor
