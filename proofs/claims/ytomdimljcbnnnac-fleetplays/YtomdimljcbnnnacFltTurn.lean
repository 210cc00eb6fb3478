
/- What each function of package fleet answers: Start, Ready, Crash, Give, Done, All. -/
import Derived.Test.YtomdimljcbnnnacFltDel
namespace Go.Proofs.Ytomdimljcbnnnac
namespace Flt
open Go.RowKit Rw Rec
set_option maxRecDepth 8000

/-- what a call does to a fleet -/
def Does (f : Nat) (args : Nat → Array Value) (F F' : FS) (e : Ending) : Prop :=
  ∀ (B Q : Nat) (v : Value) (w : World), FAt w B Q v F → Calls Try.prog f (args Q) w fun e' w' => e' = e ∧ ∃ v', FAt w' B Q v' F' ∧ Turn Q v v' w w'

/-- Start, Ready: what is told, and the pods -/
def turnE (L : List Pd) (id fr : Int) : Int := match L.findIdx? (isId id) with
  | none => 4
  | some i => match L[i]? with
    | none => 4
    | some p => if p.st = fr then 0 else 7
def turnL (L : List Pd) (id fr : Int) : List Pd := match L.findIdx? (isId id) with
  | none => L
  | some i => match L[i]? with
    | none => L
    | some p => if p.st = fr then L.set i ⟨p.id, fr + 1, p.ld⟩ else L
def turnS (F : FS) (id fr : Int) : FS := ⟨F.most, F.last, turnL F.L id fr⟩
theorem turn_none {L : List Pd} {id fr : Int} (h : L.findIdx? (isId id) = none) : turnE L id fr = 4 ∧ turnL L id fr = L := by simp [turnE, turnL, h]
theorem turn_state {L : List Pd} {id fr : Int} {i : Nat} {p : Pd} (h : L.findIdx? (isId id) = some i) (hp : L[i]? = some p) (hs : p.st ≠ fr) : turnE L id fr = 7 ∧ turnL L id fr = L := by simp [turnE, turnL, h, hp, hs]
theorem turn_ok {L : List Pd} {id fr : Int} {i : Nat} {p : Pd} (h : L.findIdx? (isId id) = some i) (hp : L[i]? = some p) (hs : p.st = fr) : turnE L id fr = 0 ∧ turnL L id fr = L.set i ⟨p.id, fr + 1, p.ld⟩ := by simp [turnE, turnL, h, hp, hs]
theorem turn_inv {F : FS} (h : Inv F) (id fr : Int) (h1 : fr = 1 ∨ fr = 2) : Inv (turnS F id fr) := by
  unfold turnS
  cases hf : F.L.findIdx? (isId id) with
  | none => rw [(turn_none hf).2]; exact h
  | some i =>
    obtain ⟨p, hp, _⟩ := find_get hf
    by_cases hs : p.st = fr
    · rw [(turn_ok hf hp hs).2]
      refine h.set hp rfl ?_
      have := h.at hp
      unfold Okp at *
      simp only
      rcases h1 with rfl | rfl <;> omega
    · rw [(turn_state hf hp hs).2]; exact h

set_option maxHeartbeats 1000000 in
theorem advance_any (F : FS) (id fr : Int) (hL : F.L.length ≤ 1000000000) : Does 41 (fun Q => #[.pointer (some ⟨Q, 0, none⟩), .int .i64 id, .int .i64 fr, .int .i64 (fr + 1)]) F (turnS F id fr) (.returned (.int .i64 (turnE F.L id fr))) := by
  intro B Q v w hA
  unfold turnS
  cases hn : F.L.findIdx? (isId id) with
  | none =>
    obtain ⟨e1, e2⟩ := turn_none (fr := fr) hn
    rw [e1, e2]
    have c := ffind_none B Q v F id w hA hL hn
    clear hn e1 e2
    go_enter Try.func41, Try.ntmps41
    go_wp2_with (go_at_call 43; (with_reducible refine c.mono ?_); rintro e w2 ⟨rfl, hb2⟩)
    go_ret
    exact ⟨rfl, v, hA.below hb2, Turn.of_below hb2⟩
  | some i =>
    obtain ⟨m, hm, _⟩ := find_get hn
    have c := ffind_some B Q v F id i w hA hL hn
    have hi : i < F.L.length := (List.getElem?_eq_some_iff.1 hm).1
    have hi' : (i : Int) < (F.L.length : Int) := by omega
    have hi0 : ¬ (i : Int) < 0 := by omega
    obtain ⟨ao, cap, rfl, hc1, hc2, hao⟩ := hA.form
    obtain ⟨g, rfl⟩ := hao (by omega)
    by_cases hs : m.st = fr
    · obtain ⟨e1, e2⟩ := turn_ok hn hm hs
      rw [e1, e2]
      have h9 : (m.st != fr) = false := by simp [hs]
      have HM : Hid (F.L[i]? = some m) := hm
      have HA : Hid (FAt w B Q (.slice (some ⟨g, 0, none⟩) F.L.length cap) F) := hA
      clear hn e1 e2 hs hm hA
      go_enter Try.func41, Try.ntmps41
      go_wp2_with (go_at_call 43; (with_reducible refine c.mono ?_); rintro e w2 ⟨rfl, hb2⟩; have hA2 := HA.out.below hb2; have cV := hA2.cV; obtain ⟨d0, d1, d2, fz⟩ := hA2.pod rfl HM.out; have f1 := fz (i * 3 + 1))
      go_ret
      exact ⟨rfl, _, RAt.put (j := 1) hA2 rfl HM.out (by decide) rfl, (Turn.of_below hb2).trans (Turn.setG _ _)⟩
    · obtain ⟨e1, e2⟩ := turn_state hn hm hs
      rw [e1, e2]
      have h9 : (m.st != fr) = true := by simp [hs]
      have HM : Hid (F.L[i]? = some m) := hm
      have HA : Hid (FAt w B Q (.slice (some ⟨g, 0, none⟩) F.L.length cap) F) := hA
      clear hn e1 e2 hs hm hA
      go_enter Try.func41, Try.ntmps41
      go_wp2_with (go_at_call 43; (with_reducible refine c.mono ?_); rintro e w2 ⟨rfl, hb2⟩; have hA2 := HA.out.below hb2; have cV := hA2.cV; obtain ⟨d0, d1, d2, fz⟩ := hA2.pod rfl HM.out; have f1 := fz (i * 3 + 1))
      go_ret
      exact ⟨rfl, _, hA2, Turn.of_below hb2⟩
theorem start_any (F : FS) (id : Int) (hL : F.L.length ≤ 1000000000) : Does 12 (fun Q => #[.pointer (some ⟨Q, 0, none⟩), .int .i64 id]) F (turnS F id 1) (.returned (.int .i64 (turnE F.L id 1))) := by
  intro B Q v w hA
  have c := advance_any F id 1 hL B Q v w hA
  simp only [Int.reduceAdd] at c
  clear hA
  go_enter Try.func12, Try.ntmps12
  go_wp2_with (go_at_call 41; (with_reducible refine c.mono ?_); rintro e w2 ⟨rfl, h2⟩)
  go_ret
  exact ⟨rfl, h2⟩
theorem ready_any (F : FS) (id : Int) (hL : F.L.length ≤ 1000000000) : Does 14 (fun Q => #[.pointer (some ⟨Q, 0, none⟩), .int .i64 id]) F (turnS F id 2) (.returned (.int .i64 (turnE F.L id 2))) := by
  intro B Q v w hA
  have c := advance_any F id 2 hL B Q v w hA
  simp only [Int.reduceAdd] at c
  clear hA
  go_enter Try.func14, Try.ntmps14
  go_wp2_with (go_at_call 41; (with_reducible refine c.mono ?_); rintro e w2 ⟨rfl, h2⟩)
  go_ret
  exact ⟨rfl, h2⟩

/-- Crash -/
def crashN (L : List Pd) (id : Int) : Int := match L.findIdx? (isId id) with
  | none => 0
  | some i => match L[i]? with
    | none => 0
    | some p => p.ld
def crashE (L : List Pd) (id : Int) : Int := match L.findIdx? (isId id) with
  | none => 4
  | some _ => 0
def crashL (L : List Pd) (id : Int) : List Pd := match L.findIdx? (isId id) with
  | none => L
  | some i => L.eraseIdx i
def crashS (F : FS) (id : Int) : FS := ⟨F.most, F.last, crashL F.L id⟩
theorem crash_none {L : List Pd} {id : Int} (h : L.findIdx? (isId id) = none) : crashN L id = 0 ∧ crashE L id = 4 ∧ crashL L id = L := by simp [crashN, crashE, crashL, h]
theorem crash_some {L : List Pd} {id : Int} {i : Nat} {p : Pd} (h : L.findIdx? (isId id) = some i) (hp : L[i]? = some p) : crashN L id = p.ld ∧ crashE L id = 0 ∧ crashL L id = L.eraseIdx i := by simp [crashN, crashE, crashL, h, hp]
theorem crash_inv {F : FS} (h : Inv F) (id : Int) : Inv (crashS F id) := by
  unfold crashS crashL
  split
  · exact h
  · exact h.erase _
set_option maxHeartbeats 1000000 in
theorem crash_any (F : FS) (id : Int) (hL : F.L.length ≤ 1000000000) : Does 15 (fun Q => #[.pointer (some ⟨Q, 0, none⟩), .int .i64 id]) F (crashS F id) (.returned (.tuple #[.int .i64 (crashN F.L id), .int .i64 (crashE F.L id)])) := by
  intro B Q v w hA
  unfold crashS
  cases hn : F.L.findIdx? (isId id) with
  | none =>
    obtain ⟨e1, e2, e3⟩ := crash_none hn
    rw [e1, e2, e3]
    have c := ffind_none B Q v F id w hA hL hn
    clear hn e1 e2 e3
    go_enter Try.func15, Try.ntmps15
    go_wp2_with (go_at_call 43; (with_reducible refine c.mono ?_); rintro e w2 ⟨rfl, hb2⟩)
    go_ret2
    exact ⟨rfl, v, hA.below hb2, Turn.of_below hb2⟩
  | some i =>
    obtain ⟨m, hm, _⟩ := find_get hn
    obtain ⟨e1, e2, e3⟩ := crash_some hn hm
    rw [e1, e2, e3]
    have c := ffind_some B Q v F id i w hA hL hn
    have hi : i < F.L.length := (List.getElem?_eq_some_iff.1 hm).1
    have hi' : (i : Int) < (F.L.length : Int) := by omega
    have hi0 : ¬ (i : Int) < 0 := by omega
    obtain ⟨ao, cap, rfl, hc1, hc2, hao⟩ := hA.form
    obtain ⟨g, rfl⟩ := hao (by omega)
    have HM : Hid (F.L[i]? = some m) := hm
    have HA : Hid (FAt w B Q (.slice (some ⟨g, 0, none⟩) F.L.length cap) F) := hA
    clear hn e1 e2 e3 hm hA
    go_enter Try.func15, Try.ntmps15
    go_wp2_with (first
      | (go_at_call 43; (with_reducible refine c.mono ?_); rintro e w2 ⟨rfl, hb2⟩; have hA2 := HA.out.below hb2; have cV := hA2.cV; obtain ⟨d0, d1, d2, fz⟩ := hA2.pod rfl HM.out; have HA2 : Hid (FAt w2 B Q (.slice (some ⟨g, 0, none⟩) F.L.length cap) F) := hA2; clear hA2)
      | (go_at_call 44; (with_reducible refine (remove_any B Q _ F i w2 HA2.out hL hi).mono ?_); rintro e w3 ⟨rfl, v3, hA3, hT3⟩))
    go_ret2
    exact ⟨rfl, v3, hA3, (Turn.of_below hb2).trans hT3⟩

/-- Give -/
def giveS (F : FS) : FS := match pick (room F.most) given F.L 0 none with
  | none => F
  | some x => ⟨F.most, F.last, F.L.set x.1 ⟨x.2.id, x.2.st, x.2.ld + 1⟩⟩
def giveN (F : FS) : Int := match pick (room F.most) given F.L 0 none with
  | none => 0
  | some x => x.2.id
def giveE (F : FS) : Int := match pick (room F.most) given F.L 0 none with
  | none => 4
  | some _ => 0
theorem give_none {F : FS} (h : pick (room F.most) given F.L 0 none = none) : giveS F = F ∧ giveN F = 0 ∧ giveE F = 4 := by simp [giveS, giveN, giveE, h]
theorem give_some {F : FS} {i : Nat} {p : Pd} (h : pick (room F.most) given F.L 0 none = some (i, p)) : giveS F = ⟨F.most, F.last, F.L.set i ⟨p.id, p.st, p.ld + 1⟩⟩ ∧ giveN F = p.id ∧ giveE F = 0 := by simp [giveS, giveN, giveE, h]
theorem give_inv {F : FS} (h : Inv F) : Inv (giveS F) := by
  cases hp : pick (room F.most) given F.L 0 none with
  | none => rw [(give_none hp).1]; exact h
  | some x =>
    obtain ⟨i, p⟩ := x
    rw [(give_some hp).1]
    obtain ⟨_, h2, h3⟩ := pick_mem hp
    simp only at h2 h3
    refine h.set h2 rfl ?_
    have := h.at h2
    simp [room] at h3
    unfold Okp at *
    simp only
    omega
set_option maxHeartbeats 1000000 in
theorem give_any (F : FS) (hI : Inv F) (hL : F.L.length ≤ 1000000000) : Does 17 (fun Q => #[.pointer (some ⟨Q, 0, none⟩)]) F (giveS F) (.returned (.tuple #[.int .i64 (giveN F), .int .i64 (giveE F)])) := by
  intro B Q v w hA
  have hA1 := hA.alloc (.cells #[.pointer (some ⟨Q, 0, none⟩)] 36)
  have hbC : Below w.heap.size w (w.alloc (.cells #[.pointer (some ⟨Q, 0, none⟩)] 36)) := (Below.refl _ _).alloc (Nat.le_refl _) _
  have hC : (w.alloc (.cells #[.pointer (some ⟨Q, 0, none⟩)] 36)).cell? ⟨w.heap.size, 0, none⟩ = some (.pointer (some ⟨Q, 0, none⟩)) := cell_one rfl rfl
  have hsz : (w.alloc (.cells #[.pointer (some ⟨Q, 0, none⟩)] 36)).heap.size = w.heap.size + 1 := by simp
  have c := chGi_any B Q v F w.heap.size _ hA1 hL hC
  obtain ⟨W, hW⟩ : ∃ W, W = w.alloc (.cells #[.pointer (some ⟨Q, 0, none⟩)] 36) := ⟨_, rfl⟩
  rw [← hW] at hA1 hbC hC hsz c
  have HW : Hid (W = w.alloc (.cells #[.pointer (some ⟨Q, 0, none⟩)] 36)) := hW
  have hCl : w.heap.size < W.heap.size := by omega
  have hrow := hA.rowLt
  clear hW hA
  cases hp : pick (room F.most) given F.L 0 none with
  | none =>
    obtain ⟨e1, e2, e3⟩ := give_none hp
    rw [e1, e2, e3]
    rw [hp] at c
    simp only [pickV] at c
    clear e1 e2 e3 hp
    go_enter Try.func17, Try.ntmps17
    go_wp2_with (go_at_call 37; (rw [← HW.out]); (with_reducible refine c.mono ?_); rintro e w2 ⟨rfl, hb2⟩)
    go_ret2
    exact ⟨rfl, v, hA1.below hb2, (Turn.of_below hbC).trans (Turn.of_below hb2)⟩
  | some x =>
    obtain ⟨i, m⟩ := x
    obtain ⟨hi, hm, hr⟩ := pick_mem hp
    simp only at hi hm hr
    obtain ⟨e1, e2, e3⟩ := give_some hp
    rw [e1, e2, e3]
    rw [hp] at c
    simp only [pickV] at c
    have hi' : (i : Int) < (F.L.length : Int) := by omega
    have hi0 : ¬ (i : Int) < 0 := by omega
    have hbd := hI.at hm
    have hmo := hI.m
    unfold Okp at hbd
    have hl1 : 0 ≤ m.ld := by omega
    have hl2 : m.ld ≤ 100 := by omega
    obtain ⟨ao, cap, rfl, hc1, hc2, hao⟩ := hA1.form
    obtain ⟨g, rfl⟩ := hao (by omega)
    have HM : Hid (F.L[i]? = some m) := hm
    have HA : Hid (FAt W B Q (.slice (some ⟨g, 0, none⟩) F.L.length cap) F) := hA1
    have hgQ := hA1.gQ
    have hgC : g ≠ w.heap.size := fun e => by have := hrow g rfl; omega
    clear e1 e2 e3 hp hm hA1 hr hbd hmo
    go_enter Try.func17, Try.ntmps17
    go_wp2_with (go_at_call 37; (rw [← HW.out]); (with_reducible refine c.mono ?_); rintro e w2 ⟨rfl, hb2⟩; have hA2 := HA.out.below hb2; have cV := hA2.cV; obtain ⟨d0, d1, d2, fz⟩ := hA2.pod rfl HM.out; have f2 := fz (i * 3 + 2); have hC2 := (hb2.cell (p := ⟨w.heap.size, 0, none⟩) hCl).trans hC)
    go_ret2
    exact ⟨rfl, _, RAt.put (j := 2) hA2 rfl HM.out (by decide) rfl, ((Turn.of_below hbC).trans (Turn.of_below hb2)).trans (Turn.setG _ _)⟩

/-- Done -/
def doneL1 (L : List Pd) (i : Nat) (p : Pd) : List Pd := if p.ld = 1 ∧ p.st = 4 then (L.set i ⟨p.id, p.st, p.ld - 1⟩).eraseIdx i else L.set i ⟨p.id, p.st, p.ld - 1⟩
def doneE (L : List Pd) (id : Int) : Int := match L.findIdx? (isId id) with
  | none => 4
  | some i => match L[i]? with
    | none => 4
    | some p => if p.ld = 0 then 7 else 0
def doneL (L : List Pd) (id : Int) : List Pd := match L.findIdx? (isId id) with
  | none => L
  | some i => match L[i]? with
    | none => L
    | some p => if p.ld = 0 then L else doneL1 L i p
def doneS (F : FS) (id : Int) : FS := ⟨F.most, F.last, doneL F.L id⟩
theorem done_none {L : List Pd} {id : Int} (h : L.findIdx? (isId id) = none) : doneE L id = 4 ∧ doneL L id = L := by simp [doneE, doneL, h]
theorem done_state {L : List Pd} {id : Int} {i : Nat} {p : Pd} (h : L.findIdx? (isId id) = some i) (hp : L[i]? = some p) (hs : p.ld = 0) : doneE L id = 7 ∧ doneL L id = L := by simp [doneE, doneL, h, hp, hs]
theorem done_ok {L : List Pd} {id : Int} {i : Nat} {p : Pd} (h : L.findIdx? (isId id) = some i) (hp : L[i]? = some p) (hs : p.ld ≠ 0) : doneE L id = 0 ∧ doneL L id = doneL1 L i p := by simp [doneE, doneL, h, hp, hs]
theorem erase_set {α : Type} (L : List α) (i : Nat) (x : α) : (L.set i x).eraseIdx i = L.eraseIdx i := by
  by_cases h : i < L.length
  · have hm : L[i]? = some L[i] := by simp [h]
    rw [set_at hm, erase_at, erase_at]
    have hl : (L.take i).length = i := by rw [List.length_take]; omega
    rw [List.take_append_of_le_length (by omega), List.take_of_length_le (by omega), List.drop_append]
    simp [hl, Nat.add_sub_cancel_left]
  · rw [List.set_eq_of_length_le (by omega)]
theorem done_inv {F : FS} (h : Inv F) (id : Int) : Inv (doneS F id) := by
  unfold doneS
  cases hf : F.L.findIdx? (isId id) with
  | none => rw [(done_none hf).2]; exact h
  | some i =>
    obtain ⟨p, hp, _⟩ := find_get hf
    by_cases hs : p.ld = 0
    · rw [(done_state hf hp hs).2]; exact h
    · rw [(done_ok hf hp hs).2]
      unfold doneL1
      split
      · rw [erase_set]; exact h.erase i
      · rename_i hn
        refine h.set hp rfl ?_
        have := h.at hp
        unfold Okp at *
        simp only
        omega
set_option maxHeartbeats 2000000 in
theorem done_any (F : FS) (id : Int) (hI : Inv F) (hL : F.L.length ≤ 1000000000) : Does 19 (fun Q => #[.pointer (some ⟨Q, 0, none⟩), .int .i64 id]) F (doneS F id) (.returned (.int .i64 (doneE F.L id))) := by
  intro B Q v w hA
  unfold doneS
  cases hn : F.L.findIdx? (isId id) with
  | none =>
    obtain ⟨e1, e2⟩ := done_none hn
    rw [e1, e2]
    have c := ffind_none B Q v F id w hA hL hn
    clear hn e1 e2
    go_enter Try.func19, Try.ntmps19
    go_wp2_with (go_at_call 43; (with_reducible refine c.mono ?_); rintro e w2 ⟨rfl, hb2⟩)
    go_ret
    exact ⟨rfl, v, hA.below hb2, Turn.of_below hb2⟩
  | some i =>
    obtain ⟨m, hm, _⟩ := find_get hn
    have c := ffind_some B Q v F id i w hA hL hn
    have hi : i < F.L.length := (List.getElem?_eq_some_iff.1 hm).1
    have hi' : (i : Int) < (F.L.length : Int) := by omega
    have hi0 : ¬ (i : Int) < 0 := by omega
    have hbd := hI.at hm
    have hmo := hI.m
    unfold Okp at hbd
    have hl1 : 0 ≤ m.ld := by omega
    have hl2 : m.ld ≤ 100 := by omega
    clear hbd hmo
    obtain ⟨ao, cap, rfl, hc1, hc2, hao⟩ := hA.form
    obtain ⟨g, rfl⟩ := hao (by omega)
    have HM : Hid (F.L[i]? = some m) := hm
    have HA : Hid (FAt w B Q (.slice (some ⟨g, 0, none⟩) F.L.length cap) F) := hA
    by_cases hs : m.ld = 0
    · obtain ⟨e1, e2⟩ := done_state hn hm hs
      rw [e1, e2]
      have h9 : (m.ld == 0) = true := by simp [hs]
      clear hn e1 e2 hs hm hA
      go_enter Try.func19, Try.ntmps19
      go_wp2_with (go_at_call 43; (with_reducible refine c.mono ?_); rintro e w2 ⟨rfl, hb2⟩; have hA2 := HA.out.below hb2; have cV := hA2.cV; obtain ⟨d0, d1, d2, fz⟩ := hA2.pod rfl HM.out; have f2 := fz (i * 3 + 2))
      go_ret
      exact ⟨rfl, _, hA2, Turn.of_below hb2⟩
    · obtain ⟨e1, e2⟩ := done_ok hn hm hs
      rw [e1, e2]
      have h9 : (m.ld == 0) = false := by simp [hs]
      unfold doneL1
      by_cases h1 : m.ld = 1
      · have h8 : (m.ld - 1 == 0) = true := by simp; omega
        have c3 := fun w => stays_any ⟨m.id, m.st, m.ld - 1⟩ w
        simp only [pV, stays] at c3
        by_cases h4 : m.st = 4
        · have h5 : (m.st != 4) = false := by simp [h4]
          rw [h5] at c3
          rw [if_pos ⟨h1, h4⟩]
          have c4 := fun w h => remove_any B Q (.slice (some ⟨g, 0, none⟩) F.L.length cap) ⟨F.most, F.last, F.L.set i ⟨m.id, m.st, m.ld - 1⟩⟩ i w h (by simpa using hL) (by simpa using hi)
          clear hn e1 e2 hs hm hA h1 h4 h5
          go_enter Try.func19, Try.ntmps19
          go_wp2_with (first
            | (go_at_call 43; (with_reducible refine c.mono ?_); rintro e w2 ⟨rfl, hb2⟩; have hA2 := HA.out.below hb2; have cV := hA2.cV; obtain ⟨d0, d1, d2, fz⟩ := hA2.pod rfl HM.out; have f2 := fz (i * 3 + 2); have hgQ := hA2.gQ; have HA3 : Hid (FAt (w2.setCell ⟨g, i * 3 + 2, none⟩ (.int .i64 (m.ld - 1))) B Q (.slice (some ⟨g, 0, none⟩) F.L.length cap) ⟨F.most, F.last, F.L.set i ⟨m.id, m.st, m.ld - 1⟩⟩) := RAt.put (j := 2) hA2 rfl HM.out (by decide) rfl; clear hA2)
            | (go_at_call 38; (with_reducible refine (c3 _).mono ?_); rintro e w3 ⟨rfl, hb3⟩; have hA4 := HA3.out.below hb3; have cV4 := hA4.cV)
            | (go_at_call 44; (with_reducible refine (c4 _ hA4).mono ?_); rintro e w5 ⟨rfl, v5, hA5, hT5⟩))
          go_ret
          exact ⟨rfl, v5, hA5, (((Turn.of_below hb2).trans (Turn.setG _ _)).trans (Turn.of_below hb3)).trans hT5⟩
        · have h5 : (m.st != 4) = true := by simp [h4]
          rw [h5] at c3
          rw [if_neg (fun h => h4 h.2)]
          clear hn e1 e2 hs hm hA h1 h4 h5
          go_enter Try.func19, Try.ntmps19
          go_wp2_with (first
            | (go_at_call 43; (with_reducible refine c.mono ?_); rintro e w2 ⟨rfl, hb2⟩; have hA2 := HA.out.below hb2; have cV := hA2.cV; obtain ⟨d0, d1, d2, fz⟩ := hA2.pod rfl HM.out; have f2 := fz (i * 3 + 2); have hgQ := hA2.gQ; have HA3 : Hid (FAt (w2.setCell ⟨g, i * 3 + 2, none⟩ (.int .i64 (m.ld - 1))) B Q (.slice (some ⟨g, 0, none⟩) F.L.length cap) ⟨F.most, F.last, F.L.set i ⟨m.id, m.st, m.ld - 1⟩⟩) := RAt.put (j := 2) hA2 rfl HM.out (by decide) rfl; clear hA2)
            | (go_at_call 38; (with_reducible refine (c3 _).mono ?_); rintro e w3 ⟨rfl, hb3⟩; have hA4 := HA3.out.below hb3; have cV4 := hA4.cV))
          go_ret
          exact ⟨rfl, _, hA4, ((Turn.of_below hb2).trans (Turn.setG _ _)).trans (Turn.of_below hb3)⟩
      · have h8 : (m.ld - 1 == 0) = false := by rw [beq_eq_false_iff_ne]; omega
        rw [if_neg (fun h => h1 h.1)]
        clear hn e1 e2 hs hm hA h1
        go_enter Try.func19, Try.ntmps19
        go_wp2_with (go_at_call 43; (with_reducible refine c.mono ?_); rintro e w2 ⟨rfl, hb2⟩; have hA2 := HA.out.below hb2; have cV := hA2.cV; obtain ⟨d0, d1, d2, fz⟩ := hA2.pod rfl HM.out; have f2 := fz (i * 3 + 2); have hgQ := hA2.gQ; have HA3 : Hid (FAt (w2.setCell ⟨g, i * 3 + 2, none⟩ (.int .i64 (m.ld - 1))) B Q (.slice (some ⟨g, 0, none⟩) F.L.length cap) ⟨F.most, F.last, F.L.set i ⟨m.id, m.st, m.ld - 1⟩⟩) := RAt.put (j := 2) hA2 rfl HM.out (by decide) rfl; clear hA2)
        go_ret
        exact ⟨rfl, _, HA3.out, (Turn.of_below hb2).trans (Turn.setG _ _)⟩

set_option maxHeartbeats 2000000 in
/-- All: a new row of the pods -/
theorem all_any (B Q : Nat) (v : Value) (F : FS) (w : World) (hA : FAt w B Q v F) (hL : F.L.length ≤ 1000000000) :
    Calls Try.prog 22 #[.pointer (some ⟨Q, 0, none⟩)] w fun e w' => e = .returned (.slice (some ⟨w.heap.size, 0, none⟩) F.L.length F.L.length) ∧ RowAt pK w' (some ⟨w.heap.size, 0, none⟩) F.L ∧ Below w.heap.size w w' := by
  obtain ⟨i0, hi, hz0, hz1, hz2⟩ := info_parts info_pod
  obtain ⟨ao, cap, rfl, hc1, hc2, hao⟩ := hA.form
  have hcl : (cels pK.c F.L).length = F.L.length * i0.size := by rw [hz1]; exact Rw.cels_len pK.len F.L
  have HC : Hid ((cels pK.c F.L).length = F.L.length * i0.size) := hcl
  have HA : Hid (FAt w B Q (.slice ao F.L.length cap) F) := hA
  have cV := hA.cV
  clear hcl hA
  go_enter Try.func22, Try.ntmps22
  go_wp2_with (at_make; refine wpList_make_full _ rfl _ _ 39 rfl w.heap.size 50 i0 _ 3 Try.underlying39 hi hz0 hz1 _ _ _ _ F.L.length rfl rfl rfl rfl (by rw [hz2]; omega) (by unfold maxLen; omega) (Nat.le_refl _) ?_; intro w2 hown2 hgrow2; have hb2 : Below w.heap.size w w2 := (Below.refl _ _).grown hgrow2 (Nat.le_refl _) (fun _ h => by cases h); have hA2 := HA.out.below hb2; have cS2 := hA2.cV; obtain ⟨cur2, q2, q5⟩ := own_block hown2; obtain ⟨w3, hcp, hr3, hgrow3⟩ := run_copy_all (P := Try.prog) w2 39 39 3 50 i0 Try.underlying39 hi w.heap.size F.L.length F.L.length cap ao cur2 (cels pK.c F.L) q2 (by rw [hz1]; exact q5) HC.out (RAt.src hA2) (cels_one pK F.L); clear hown2 hgrow2 hA2)
  go_ret
  have hb3 : Below w.heap.size w2 w3 := ⟨hgrow3.os, hgrow3.tape, hgrow3.output, hgrow3.size, fun k hk => hgrow3.block k (Nat.lt_of_lt_of_le hk hb2.size) (fun e => by cases e; omega)⟩
  exact ⟨rfl, row_of_block hr3, hb2.trans hb3⟩
end Flt
end Go.Proofs.Ytomdimljcbnnnac
