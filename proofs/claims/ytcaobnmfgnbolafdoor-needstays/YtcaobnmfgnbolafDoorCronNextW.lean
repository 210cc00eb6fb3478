
/- What cron.begin and cron.answer answer. -/
import Derived.Test.YtcaobnmfgnbolafDoorCronAhead
namespace Go.Proofs.YtcaobnmfgnbolafDoor
namespace Crn
open Go.RowKit Lai Civ Cal
set_option maxRecDepth 8000

/-- seven cells written one behind another read so -/
theorem s7 {W : World} {B : Nat} (v0 v1 v2 v3 v4 v5 v6 : Value) (hk : ∀ o, o < 7 → W.cell? ⟨B, o, none⟩ = some (.int .i64 0)) :
    let W' := ((((((W.setCell ⟨B, 0, none⟩ v0).setCell ⟨B, 1, none⟩ v1).setCell ⟨B, 2, none⟩ v2).setCell ⟨B, 3, none⟩ v3).setCell ⟨B, 4, none⟩ v4).setCell ⟨B, 5, none⟩ v5).setCell ⟨B, 6, none⟩ v6
    W'.cell? ⟨B, 0, none⟩ = some v0 ∧ W'.cell? ⟨B, 1, none⟩ = some v1 ∧ W'.cell? ⟨B, 2, none⟩ = some v2 ∧ W'.cell? ⟨B, 3, none⟩ = some v3 ∧ W'.cell? ⟨B, 4, none⟩ = some v4 ∧ W'.cell? ⟨B, 5, none⟩ = some v5 ∧ W'.cell? ⟨B, 6, none⟩ = some v6 := by
  simp [go_sem, hk 0 (by decide), hk 1 (by decide), hk 2 (by decide), hk 3 (by decide), hk 4 (by decide), hk 5 (by decide), hk 6 (by decide)]
theorem b7 {n : Nat} {a W : World} {B : Nat} (v0 v1 v2 v3 v4 v5 v6 : Value) (h : Below n a W) (hB : n ≤ B) :
    Below n a (((((((W.setCell ⟨B, 0, none⟩ v0).setCell ⟨B, 1, none⟩ v1).setCell ⟨B, 2, none⟩ v2).setCell ⟨B, 3, none⟩ v3).setCell ⟨B, 4, none⟩ v4).setCell ⟨B, 5, none⟩ v5).setCell ⟨B, 6, none⟩ v6) :=
  ((((((h.setCell hB _).setCell hB _).setCell hB _).setCell hB _).setCell hB _).setCell hB _).setCell hB _
theorem f7 {a : Act} {w Wf : World} {B : Nat} {y m d h i s k er : Int} (hp : a.tmps[6]? = some (.pointer (some ⟨B, 0, none⟩))) (he : a.tmps[7]? = some (.int .i64 er)) (ha : a.defers = [])
    (hc : Wf.cell? ⟨B, 0, none⟩ = some (.int .i64 y) ∧ Wf.cell? ⟨B, 1, none⟩ = some (.int .i64 m) ∧ Wf.cell? ⟨B, 2, none⟩ = some (.int .i64 d) ∧ Wf.cell? ⟨B, 3, none⟩ = some (.int .i64 h) ∧ Wf.cell? ⟨B, 4, none⟩ = some (.int .i64 i) ∧ Wf.cell? ⟨B, 5, none⟩ = some (.int .i64 s) ∧ Wf.cell? ⟨B, 6, none⟩ = some (.int .i64 k))
    (hb : Below w.heap.size w Wf) :
    bodyPost Tryd.prog Tryd.f69 (fun e w' => e = .returned (.tuple #[civ y m d h i s k, .int .i64 er]) ∧ Below w.heap.size w w') Exit.ret a Wf := by
  obtain ⟨c0, c1, c2, c3, c4, c5, c6⟩ := hc
  refine bodyPost_ret (v := .tuple #[civ y m d h i s k, .int .i64 er]) ?_ ha ⟨rfl, hb⟩
  simp [results, Tryd.results69, go_sem, hp, he, c0, c1, c2, c3, c4, c5, c6]

/-- the result's cells are nought behind a call -/
theorem zero7 {W w1 : World} {B : Nat} {t : TypeId} {o : Obj} (hB : B = W.heap.size) (hc : ∀ b o', b < ((W.alloc o).alloc (.cells #[.int .i64 0, .int .i64 0, .int .i64 0, .int .i64 0, .int .i64 0, .int .i64 0, .int .i64 0] t)).heap.size → w1.cell? ⟨b, o', none⟩ = ((W.alloc o).alloc (.cells #[.int .i64 0, .int .i64 0, .int .i64 0, .int .i64 0, .int .i64 0, .int .i64 0, .int .i64 0] t)).cell? ⟨b, o', none⟩) :
    ∀ o', o' < 7 → w1.cell? ⟨B + 1, o', none⟩ = some (.int .i64 0) := by
  intro o' ho
  subst hB
  rw [hc _ _ (by simp)]
  have : o' = 0 ∨ o' = 1 ∨ o' = 2 ∨ o' = 3 ∨ o' = 4 ∨ o' = 5 ∨ o' = 6 := by omega
  rcases this with rfl | rfl | rfl | rfl | rfl | rfl | rfl <;> simp [go_sem]

set_option maxHeartbeats 2000000 in
theorem begin_bad (mi ho da mo we : Int) (ad aw : Bool) (sec shift : Int) (w : World) (hB : BdsAt w) (hc : chkB mi ho da mo we ad aw = false) :
    Calls Tryd.prog 69 #[cronV mi ho da mo we ad aw, .int .i64 sec, .int .i64 shift] w fun e w' => e = .returned (.tuple #[civ 0 0 0 0 0 0 0, .int .i64 1]) ∧ Below w.heap.size w w' := by
  have hB2 := fun o p => hB.below (balloc2 o p) (Nat.le_refl _)
  go_enter Tryd.func69, Tryd.ntmps69
  go_wp2_with (go_at_call 46; (with_reducible refine (check_no _ _ _ _ _ _ _ _ (hB2 _ _) hc).mono ?_); rintro e w1 ⟨rfl, hb1⟩; obtain ⟨hc1, hf1⟩ := bcell hb1; have hz1 : w.heap.size + 1 < w1.heap.size := (by have := hb1.size; simp at this; omega))
  exact f7 (B := w.heap.size + 1) rfl rfl rfl (s7 _ _ _ _ _ _ _ (zero7 rfl hc1)) (b7 _ _ _ _ _ _ _ (ballocs hb1) (by omega))

set_option maxHeartbeats 2000000 in
theorem begin_no (mi ho da mo we : Int) (ad aw : Bool) (sec shift : Int) (w : World) (hB : BdsAt w) (hc : chkB mi ho da mo we ad aw = true) (hn : tmB sec = false ∨ shB shift = false) :
    Calls Tryd.prog 69 #[cronV mi ho da mo we ad aw, .int .i64 sec, .int .i64 shift] w fun e w' => e = .returned (.tuple #[civ 0 0 0 0 0 0 0, .int .i64 1]) ∧ Below w.heap.size w w' := by
  have hB2 := fun o p => hB.below (balloc2 o p) (Nat.le_refl _)
  have c2 := fun w => of_no sec shift w hn
  clear hn
  go_enter Tryd.func69, Tryd.ntmps69
  go_wp2_with (first
    | (go_at_call 46; (with_reducible refine (check_yes _ _ _ _ _ _ _ _ (hB2 _ _) hc).mono ?_); rintro e w1 ⟨rfl, hb1⟩; obtain ⟨hc1, hf1⟩ := bcell hb1; have hz1 : w.heap.size + 1 < w1.heap.size := (by have := hb1.size; simp at this; omega))
    | (go_at_call 89; (with_reducible refine (c2 _).mono ?_); rintro e w2 ⟨rfl, hb2⟩; obtain ⟨hc2, hf2⟩ := bcell hb2; have hz2 : w.heap.size + 1 < w2.heap.size := (by have := hb2.size; omega)))
  have k := zero7 (B := w.heap.size) rfl hc1
  exact f7 (B := w.heap.size + 1) rfl rfl rfl (s7 _ _ _ _ _ _ _ (fun o ho => (hc2 _ _ hz1).trans (k o ho))) (b7 _ _ _ _ _ _ _ (bstep (ballocs hb1) hb2) (by omega))

set_option maxHeartbeats 2000000 in
theorem begin_yes (mi ho da mo we : Int) (ad aw : Bool) (sec shift : Int) (w : World) (hB : BdsAt w) (hc : chkB mi ho da mo we ad aw = true) (ht : tmB sec = true) (hs : shB shift = true) :
    Calls Tryd.prog 69 #[cronV mi ho da mo we ad aw, .int .i64 sec, .int .i64 shift] w fun e w' => e = .returned (.tuple #[ofv (sc sec shift), .int .i64 0]) ∧ Below w.heap.size w w' := by
  have hB2 := fun o p => hB.below (balloc2 o p) (Nat.le_refl _)
  have c2 := fun w => of_yes sec shift w ht hs
  generalize sc sec shift = t at c2 ⊢
  clear ht hs
  go_enter Tryd.func69, Tryd.ntmps69
  go_wp2_with (first
    | (go_at_call 46; (with_reducible refine (check_yes _ _ _ _ _ _ _ _ (hB2 _ _) hc).mono ?_); rintro e w1 ⟨rfl, hb1⟩; obtain ⟨hc1, hf1⟩ := bcell hb1; have hz1 : w.heap.size + 1 < w1.heap.size := (by have := hb1.size; simp at this; omega))
    | (go_at_call 89; (with_reducible refine (c2 _).mono ?_); rintro e w2 ⟨rfl, hb2⟩; obtain ⟨hc2, hf2⟩ := bcell hb2; have hz2 : w.heap.size + 1 < w2.heap.size := (by have := hb2.size; omega)))
  have k := zero7 (B := w.heap.size) rfl hc1
  exact f7 (B := w.heap.size + 1) rfl rfl rfl (s7 _ _ _ _ _ _ _ (fun o ho => (hc2 _ _ hz1).trans (k o ho))) (b7 _ _ _ _ _ _ _ (bstep (ballocs hb1) hb2) (by omega))

theorem ans_yes (day minute shift : Int) (w : World) (hd : -5000000 ≤ day ∧ day ≤ 5000000) (hm : -100 ≤ minute ∧ minute ≤ 10000) (hs : shB shift = true) (ht : inT (day * 86400 + (minute - shift) * 60) = true) :
    Calls Tryd.prog 74 #[.int .i64 day, .int .i64 minute, .int .i64 shift, .bool true] w fun e w' => e = .returned (.tuple #[.int .i64 (day * 86400 + (minute - shift) * 60), .bool true, .int .i64 0]) ∧ Below w.heap.size w w' := by
  have h2 := (sh_iff _).1 hs
  have c := fun w => of_yes (day * 86400 + (minute - shift) * 60) shift w ht hs
  clear hs ht
  go_enter Tryd.func74, Tryd.ntmps74
  go_wp2_with (go_at_call 89; (with_reducible refine (c _).mono ?_); rintro e w1 ⟨rfl, hb1⟩)
  go_ret3
  exact ⟨rfl, bstepA hb1 _⟩

theorem ans_no (day minute shift : Int) (found : Bool) (w : World) (hd : -5000000 ≤ day ∧ day ≤ 5000000) (hm : -100 ≤ minute ∧ minute ≤ 10000) (hs : shB shift = true) (ht : inT (day * 86400 + (minute - shift) * 60) = false ∨ found = false) :
    Calls Tryd.prog 74 #[.int .i64 day, .int .i64 minute, .int .i64 shift, .bool found] w fun e w' => e = .returned (.tuple #[.int .i64 0, .bool false, .int .i64 0]) ∧ Below w.heap.size w w' := by
  have h2 := (sh_iff _).1 hs
  cases hi : inT (day * 86400 + (minute - shift) * 60)
  · have c := fun w => of_no (day * 86400 + (minute - shift) * 60) shift w (Or.inl hi)
    clear hs ht hi
    go_enter Tryd.func74, Tryd.ntmps74
    go_wp2_with (go_at_call 89; (with_reducible refine (c _).mono ?_); rintro e w1 ⟨rfl, hb1⟩)
    go_ret3
    exact ⟨rfl, bstepA hb1 _⟩
  · obtain rfl : found = false := by rcases ht with h | h; (rw [hi] at h; cases h); exact h
    have c := fun w => of_yes (day * 86400 + (minute - shift) * 60) shift w hi hs
    clear hs ht hi
    go_enter Tryd.func74, Tryd.ntmps74
    go_wp2_with (go_at_call 89; (with_reducible refine (c _).mono ?_); rintro e w1 ⟨rfl, hb1⟩)
    go_ret3
    exact ⟨rfl, bstepA hb1 _⟩
end Crn
end Go.Proofs.YtcaobnmfgnbolafDoor
