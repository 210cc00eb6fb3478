/- Some happenings, one behind the other. A request is late just at its time, if it never ran; what has an end besides, ran. What pods do is what runs. The pods of requests are numbers of pods that were made. What stands at the head of the laws of a world: running, works. -/
import Derived.Test.YtkmdndhjobckiahGreatDoorPkWldHand
import Derived.Test.YtkmdndhjobckiahGreatDoorPkLopPlan
import Derived.Test.YtkmdndhjobckiahGreatDoorPkFrame
namespace Go.Proofs.YtkmdndhjobckiahGreatDoor
namespace Wld
open Go.RowKit Plain Pln Frm Lpp Crn Lop
set_option maxRecDepth 8000

/-- the world behind the first j happenings -/
noncomputable def playW (p : Pd) (ts : List Tr) (X : Nat → Nat → Int) (S : WS) : Nat → WS
  | 0 => S
  | j + 1 => doW p ts (playW p ts X S j) (X j 0) (X j 1) (X j 2)
theorem WI.play {p : Pd} {ts : List Tr} {S : WS} (hP : PlOk p ts) (g : WI ts S 0 0) (X : Nat → Nat → Int) : ∀ j, WI ts (playW p ts X S j) j (1000 * j)
  | 0 => g
  | j + 1 => (WI.play hP g X j).do hP _ _ _
/-- the happenings that stand at the head of the laws: a request, two ticks, a pod that starts and is ready -/
def wX (i j : Nat) : Int := match i, j with
  | 0, 0 => 11
  | 0, 1 => 1
  | 0, 2 => 50
  | 1, 0 => 1
  | 1, 2 => 2
  | 2, 0 => 8
  | 2, 2 => 1
  | 3, 0 => 9
  | 3, 2 => 1
  | _, _ => 0
noncomputable def wS : WS := playW (noN Lop.p0) [Lop.t0] wX (newW (noN Lop.p0) [Lop.t0] 1 2 0) 4
theorem wS_tg : wS.tg = 1 := by kernel_rfl
theorem wS_R : wS.R = [⟨1, 1, 50, 2, 1⟩] := by kernel_rfl
theorem wS_E : doE wS 12 0 1 = 0 := by kernel_rfl
theorem wS_D : (doW (noN Lop.p0) [Lop.t0] wS 12 0 1).R = [⟨1, 1, 50, 3, 1⟩] := by kernel_rfl
end Wld
end Go.Proofs.YtkmdndhjobckiahGreatDoor
namespace Go.Proofs.YtkmdndhjobckiahGreatDoor
namespace Wld
open Plain Pln Frm Lpp Crn Lop
set_option maxRecDepth 8000

def okL (now : Int) (r : Buf.Rq) : Prop := (r.fat = 4 → r.pod = 0 ∧ r.til ≤ now) ∧ (r.fat = 1 → r.pod = 0 ∧ now < r.til) ∧ (r.fat = 2 → r.pod ≠ 0) ∧ (r.fat = 3 → r.pod ≠ 0) ∧ (r.fat = 5 → r.pod ≠ 0)
def LaI (S : WS) : Prop := ∀ r ∈ S.R, okL S.now r
theorem set_mem {R : List Buf.Rq} {i : Nat} {q x : Buf.Rq} (h : x ∈ R.set i q) : x = q ∨ x ∈ R := by
  rcases List.mem_or_eq_of_mem_set h with a | a
  · exact Or.inr a
  · exact Or.inl a
theorem give_pos {F : Flt.FS} (hF : Flt.Inv F) (h : Flt.giveE F = 0) : 1 ≤ Flt.giveN F := by
  cases hp : Flt.pick (Flt.room F.most) Flt.given F.L 0 none with
  | none => rw [(Flt.give_none hp).2.2] at h; cases h
  | some x =>
    obtain ⟨i, q⟩ := x
    rw [(Flt.give_some hp).2.1]
    obtain ⟨_, h2, _⟩ := Flt.pick_mem hp
    exact (hF.at h2).1
theorem on_late (now : Int) : ∀ (m : Nat) (F : Flt.FS) (R : List Buf.Rq), Flt.Inv F → (∀ r ∈ R, okL now r) → ∀ r ∈ (onF m F R).2, okL now r
  | 0, _, _, _, h => h
  | m + 1, F, R, hF, h => by
    unfold onF
    split
    · rename_i e
      refine on_late now m _ _ (Flt.give_inv hF) (fun x hx => ?_)
      obtain ⟨i, r, hr, ho, hn⟩ := next_run e.1
      rw [(run_next hr ho hn _).1] at hx
      rcases set_mem hx with rfl | hx
      · have := give_pos hF e.2
        refine ⟨fun e => (by cases e), fun e => (by cases e), fun _ => ?_, fun e => (by cases e), fun e => (by cases e)⟩
        show Flt.giveN F ≠ 0
        omega
      · exact h x hx
    · exact h
section
variable {p : Pd} {ts : List Tr} {S : WS} {h k : Nat}
theorem LaI.on (b : LaI S) (hF : Flt.Inv S.F) : LaI (onW S) := on_late S.now _ _ _ hF b
theorem turn_okL {now : Int} {R : List Buf.Rq} {f : Int} {q : Buf.Rq → Bool} (h : ∀ r ∈ R, okL now r) (hq : ∀ r ∈ R, q r = true → okL now ⟨r.id, r.src, r.til, f, r.pod⟩) : ∀ r ∈ Buf.turnL q f R, okL now r := by
  intro x hx
  unfold Buf.turnL at hx
  obtain ⟨r, hr, rfl⟩ := List.mem_map.1 hx
  unfold Buf.turnF
  split
  · rename_i e; exact hq r hr e
  · exact h r hr
theorem LaI.late (b : LaI S) : LaI (lateW S) := by
  intro x hx
  show okL (S.now + 1) x
  have hx : x ∈ Buf.turnL (Buf.isLate (S.now + 1)) 4 S.R := hx
  unfold Buf.turnL at hx
  obtain ⟨r, hr, rfl⟩ := List.mem_map.1 hx
  have hb := b r hr
  unfold Buf.turnF
  split
  · rename_i e
    unfold Buf.isLate at e
    simp at e
    refine ⟨fun _ => ⟨(hb.2.1 e.1).1, e.2⟩, fun e => (by cases e), fun e => (by cases e), fun e => (by cases e), fun e => (by cases e)⟩
  · rename_i e
    unfold Buf.isLate at e
    simp at e
    refine ⟨fun g => ⟨(hb.1 g).1, by have := (hb.1 g).2; omega⟩, fun g => ⟨(hb.2.1 g).1, by have := e g; omega⟩, hb.2.2⟩
theorem LaI.due (b : LaI S) : LaI (dueW p ts S) := by
  unfold dueW
  split
  · exact b
  · exact b
theorem LaI.ticks (hP : PlOk p ts) : ∀ (m : Nat) {S : WS} {h k : Nat}, WI ts S h k → S.now + m ≤ 1099511627776 → LaI S → LaI (tickW p ts m S)
  | 0, _, _, _, _, _, b => b
  | m + 1, S, h, k, g, hn, b => by
    have g1 := g.tick1 hP (by omega)
    exact LaI.ticks hP m g1 (by rw [tick1_now]; omega) ((b.late.due).on ((g.late (by omega)).due hP).f)
theorem LaI.do (hP : PlOk p ts) (g : WI ts S h k) (b : LaI S) (x a n : Int) : LaI (doW p ts S x a n) := by
  unfold doW
  by_cases h1 : x = 1
  · rw [if_pos h1]
    split
    · rename_i e
      have hn : (1 ≤ n ∧ n ≤ 1000) ∧ S.now + n ≤ 1099511627776 := by
        unfold tickE at e
        split at e
        · assumption
        · cases e
      exact LaI.ticks hP _ g (by omega) b
    · exact b
  rw [if_neg h1]
  by_cases h2 : x = 2
  · rw [if_pos h2]; unfold makeW; split <;> exact b
  rw [if_neg h2]
  by_cases h3 : x = 3
  · rw [if_pos h3]; unfold takeW; split <;> exact b
  rw [if_neg h3]
  by_cases h4 : x = 4
  · rw [if_pos h4]; unfold putW; split <;> exact b
  rw [if_neg h4]
  by_cases h5 : x = 5
  · rw [if_pos h5]; exact b
  rw [if_neg h5]
  by_cases h6 : x = 6
  · rw [if_pos h6]; exact b
  rw [if_neg h6]
  by_cases h7 : x = 7
  · rw [if_pos h7]; unfold failW; split <;> exact b
  rw [if_neg h7]
  by_cases h8 : x = 8
  · rw [if_pos h8]; exact b
  rw [if_neg h8]
  by_cases h9 : x = 9
  · rw [if_pos h9]; unfold readyW; split
    · exact LaI.on (S := { S with F := Flt.turnS S.F n 2 }) b (g.ready n 2 (Or.inr rfl)).f
    · exact b
  rw [if_neg h9]
  by_cases h10 : x = 10
  · rw [if_pos h10]; unfold crashW; split
    · refine LaI.on (S := { S with F := Flt.crashS S.F n, R := Buf.turnL (Buf.isAt n) 5 S.R }) (turn_okL b (fun r hr e => ?_)) (g.crash n).f
      unfold Buf.isAt at e
      simp at e
      exact ⟨fun e => (by cases e), fun e => (by cases e), fun e => (by cases e), fun e => (by cases e), fun _ => (b r hr).2.2.1 e.1⟩
    · exact b
  rw [if_neg h10]
  by_cases h11 : x = 11
  · rw [if_pos h11]; unfold askW; split
    · rename_i e
      refine LaI.on (S := { S with R := Buf.askL S.R S.now a n }) (fun r hr => ?_) g.f
      have hr : r ∈ Buf.askL S.R S.now a n := hr
      unfold Buf.askL at hr
      rw [if_pos e] at hr
      rcases List.mem_append.1 hr with q | q
      · exact b r q
      · simp at q
        subst q
        have hn : 1 ≤ n := by
          unfold Buf.askE at e
          split at e
          · cases e
          · rename_i h9
            omega
        exact ⟨fun e => (by cases e), fun _ => ⟨rfl, by show S.now < S.now + n; omega⟩, fun e => (by cases e), fun e => (by cases e), fun e => (by cases e)⟩
    · exact b
  rw [if_neg h11]
  by_cases h12 : x = 12
  · rw [if_pos h12]; unfold doneW; split
    · refine LaI.on (S := { S with R := Buf.doneL S.R n, F := Flt.doneS S.F (Buf.doneN S.R n) }) (fun r hr => ?_) (g.done n).f
      have hr : r ∈ Buf.doneL S.R n := hr
      unfold Buf.doneL at hr
      split at hr
      · exact b r hr
      · rename_i q eq
        split at hr
        · rename_i hq
          rcases set_mem hr with rfl | hr
          · have hm : q ∈ S.R := by
              unfold Buf.reqAt at eq
              split at eq
              · exact List.mem_of_getElem? eq
              · cases eq
            exact ⟨fun e => (by cases e), fun e => (by cases e), fun e => (by cases e), fun _ => (b q hm).2.2.1 hq, fun e => (by cases e)⟩
          · exact b r hr
        · exact b r hr
    · exact b
  rw [if_neg h12]
  by_cases h13 : x = 13
  · rw [if_pos h13]; unfold pauseW; split <;> exact b
  rw [if_neg h13]
  exact b
theorem LaI.play (hP : PlOk p ts) (g : WI ts S 0 0) (b : LaI S) (X : Nat → Nat → Int) : ∀ j, LaI (playW p ts X S j)
  | 0 => b
  | j + 1 => (LaI.play hP g b X j).do hP (WI.play hP g X j) _ _ _
end
end Wld
end Go.Proofs.YtkmdndhjobckiahGreatDoor
namespace Go.Proofs.YtkmdndhjobckiahGreatDoor
namespace Wld
open Plain Pln Frm Lpp Crn Lop
set_option maxRecDepth 8000

/-- so many requests run at a pod -/
def at_ (R : List Buf.Rq) (id : Int) : Nat := R.countP (Buf.isAt id)
structure LdI (F : Flt.FS) (R : List Buf.Rq) : Prop where
  a : ∀ x ∈ F.L, x.ld = (at_ R x.id : Int)
  b : ∀ r ∈ R, r.fat = 2 → ∃ x ∈ F.L, x.id = r.pod
theorem at_set (id : Int) : ∀ (R : List Buf.Rq) (i : Nat) (r q : Buf.Rq), R[i]? = some r → at_ (R.set i q) id + (if Buf.isAt id r = true then 1 else 0) = at_ R id + (if Buf.isAt id q = true then 1 else 0)
  | [], i, r, q, h => by simp at h
  | x :: R, 0, r, q, h => by
    simp at h
    subst h
    unfold at_
    rw [List.set_cons_zero, List.countP_cons, List.countP_cons]
    omega
  | x :: R, i + 1, r, q, h => by
    have := at_set id R i r q (by simpa using h)
    unfold at_ at *
    rw [List.set_cons_succ, List.countP_cons, List.countP_cons]
    omega
theorem at_zero {R : List Buf.Rq} {id : Int} (h : ∀ r ∈ R, r.fat = 2 → r.pod ≠ id) : at_ R id = 0 := by
  unfold at_
  rw [List.countP_eq_zero]
  intro r hr e
  unfold Buf.isAt at e
  simp at e
  exact h r hr e.1 e.2
/-- two pods of one number are one -/
theorem id_one {F : Flt.FS} (h : Flt.Inv F) {i j : Nat} {x y : Flt.Pd} (hx : F.L[i]? = some x) (hy : F.L[j]? = some y) (e : x.id = y.id) : i = j := by
  have hp := List.pairwise_iff_getElem.1 h.srt
  obtain ⟨hi, ex⟩ := List.getElem?_eq_some_iff.1 hx
  obtain ⟨hj, ey⟩ := List.getElem?_eq_some_iff.1 hy
  rcases Nat.lt_trichotomy i j with g | g | g
  · have := hp i j hi hj g; rw [ex, ey] at this; omega
  · exact g
  · have := hp j i hj hi g; rw [ex, ey] at this; omega
/-- a pod is told anew: its state alone -/
theorem LdI.state {F : Flt.FS} {R : List Buf.Rq} (h : LdI F R) {i : Nat} {x y : Flt.Pd} (hx : F.L[i]? = some x) (hi : y.id = x.id) (hl : y.ld = x.ld) : LdI ⟨F.most, F.last, F.L.set i y⟩ R := by
  have hm := List.mem_of_getElem? hx
  have hlt : i < F.L.length := (List.getElem?_eq_some_iff.1 hx).1
  refine ⟨fun z hz => ?_, fun r hr e => ?_⟩
  · rcases List.mem_or_eq_of_mem_set hz with g | rfl
    · exact h.a z g
    · rw [hl, hi]; exact h.a x hm
  · obtain ⟨z, hz, e2⟩ := h.b r hr e
    obtain ⟨j, hj⟩ := List.getElem?_of_mem hz
    by_cases g : i = j
    · subst g
      rw [hx] at hj
      cases hj
      exact ⟨y, List.mem_of_getElem? (List.getElem?_set_self hlt), hi.trans e2⟩
    · exact ⟨z, List.mem_of_getElem? ((List.getElem?_set_ne g).trans hj), e2⟩
/-- a pod that does nothing goes -/
theorem LdI.gone {F : Flt.FS} {R : List Buf.Rq} (h : LdI F R) {i : Nat} {x : Flt.Pd} (hx : F.L[i]? = some x) (hr : ∀ r ∈ R, r.fat = 2 → r.pod ≠ x.id) : LdI ⟨F.most, F.last, F.L.eraseIdx i⟩ R := by
  refine ⟨fun z hz => h.a z (List.mem_of_mem_eraseIdx hz), fun r hm e => ?_⟩
  obtain ⟨z, hz, e2⟩ := h.b r hm e
  refine ⟨z, ?_, e2⟩
  obtain ⟨j, hj⟩ := List.getElem?_of_mem hz
  have hne : j ≠ i := fun g => by
    subst g
    rw [hx] at hj
    cases hj
    exact hr r hm e e2.symm
  exact List.mem_eraseIdx_iff_getElem?.2 ⟨j, hne, hj⟩
theorem idle {F : Flt.FS} {R : List Buf.Rq} (h : LdI F R) {x : Flt.Pd} (hx : x ∈ F.L) (hl : x.ld = 0) : ∀ r ∈ R, r.fat = 2 → r.pod ≠ x.id := by
  intro r hr e e2
  have h1 := h.a x hx
  have h2 : 0 < at_ R x.id := by
    unfold at_
    rw [List.countP_pos_iff]
    exact ⟨r, hr, by unfold Buf.isAt; simp [e, e2]⟩
  omega
theorem turn_loads {F : Flt.FS} {R : List Buf.Rq} (h : LdI F R) (id fr : Int) : LdI (Flt.turnS F id fr) R := by
  unfold Flt.turnS
  cases hf : F.L.findIdx? (Flt.isId id) with
  | none => rw [(Flt.turn_none hf).2]; exact h
  | some i =>
    obtain ⟨x, hx, _⟩ := Flt.find_get hf
    by_cases hs : x.st = fr
    · rw [(Flt.turn_ok hf hx hs).2]; exact h.state hx rfl rfl
    · rw [(Flt.turn_state hf hx hs).2]; exact h
theorem letgo_loads {most last : Int} {L : List Flt.Pd} {R : List Buf.Rq} (h : LdI ⟨most, last, L⟩ R) {i : Nat} {x : Flt.Pd} (hx : L[i]? = some x) (h0 : 0 ≤ x.ld) : LdI ⟨most, last, Flt.letgo L i x⟩ R := by
  unfold Flt.letgo
  split
  · exact h.state (F := ⟨most, last, L⟩) hx rfl rfl
  · exact h.gone (F := ⟨most, last, L⟩) hx (idle h (List.mem_of_getElem? hx) (by omega))
theorem shrink_loads {most last : Int} {R : List Buf.Rq} : ∀ (n : Nat) (L : List Flt.Pd), Flt.Inv ⟨most, last, L⟩ → LdI ⟨most, last, L⟩ R → LdI ⟨most, last, Flt.shrink n L⟩ R
  | 0, _, _, h => h
  | n + 1, L, hI, h => by
    unfold Flt.shrink
    split
    · exact h
    · rename_i y hy
      obtain ⟨_, h2, _⟩ := Flt.pick_mem hy
      have hb := hI.at h2
      exact shrink_loads n _ (hI.letgo h2) (letgo_loads h h2 (by unfold Flt.Okp at hb; omega))
theorem scale_loads {F : Flt.FS} {R : List Buf.Rq} (hI : Flt.Inv F) (h : LdI F R) (n : Int) : LdI (Flt.scaleF F n) R := by
  unfold Flt.scaleF
  split
  · unfold Flt.scaleS
    refine shrink_loads _ _ (hI.grow _) ⟨fun x hx => ?_, fun r hr e => ?_⟩
    · rcases List.mem_append.1 hx with g | g
      · exact h.a x g
      · obtain ⟨g1, _, _, g4⟩ := Flt.news_mem g
        rw [g4, at_zero (fun r hr e e2 => ?_)]
        · rfl
        · obtain ⟨z, hz, e3⟩ := h.b r hr e
          have := (hI.bd z hz).2.1
          omega
    · obtain ⟨x, hx, e2⟩ := h.b r hr e
      exact ⟨x, List.mem_append.2 (Or.inl hx), e2⟩
  · exact h
theorem late_loads {F : Flt.FS} {R : List Buf.Rq} (h : LdI F R) (now : Int) : LdI F (Buf.turnL (Buf.isLate now) 4 R) := by
  have ea : ∀ id r, Buf.isAt id (Buf.turnF (Buf.isLate now) 4 r) = Buf.isAt id r := fun id r => by
    unfold Buf.turnF
    split
    · rename_i e
      unfold Buf.isLate at e
      simp at e
      unfold Buf.isAt
      simp [e.1]
    · rfl
  refine ⟨fun x hx => ?_, fun r hr e => ?_⟩
  · rw [h.a x hx]
    unfold at_ Buf.turnL
    rw [List.countP_map]
    congr 1
    exact (List.countP_congr (fun r _ => by simp only [Function.comp, ea])).symm
  · unfold Buf.turnL at hr
    obtain ⟨q, hq, rfl⟩ := List.mem_map.1 hr
    unfold Buf.turnF at e ⊢
    split at e
    · cases e
    · rename_i g
      rw [if_neg g]
      exact h.b q hq e
/-- a pod and a request are told anew: what it does is what runs there still -/
theorem LdI.both {F : Flt.FS} {R : List Buf.Rq} (hI : Flt.Inv F) (h : LdI F R) {i k : Nat} {x y : Flt.Pd} {r q : Buf.Rq} (hx : F.L[i]? = some x) (hr : R[k]? = some r) (hy : y.id = x.id)
    (hd : y.ld + (if Buf.isAt x.id r = true then 1 else 0) = x.ld + (if Buf.isAt x.id q = true then 1 else 0)) (ho : ∀ id, id ≠ x.id → Buf.isAt id q = Buf.isAt id r) (hq : q.fat = 2 → q.pod = x.id) : LdI ⟨F.most, F.last, F.L.set i y⟩ (R.set k q) := by
  have hlt : i < F.L.length := (List.getElem?_eq_some_iff.1 hx).1
  have hkt : k < R.length := (List.getElem?_eq_some_iff.1 hr).1
  refine ⟨fun z hz => ?_, fun r' hr' e => ?_⟩
  · obtain ⟨j, hj⟩ := List.getElem?_of_mem hz
    by_cases g : i = j
    · subst g
      rw [show (F.L.set i y)[i]? = some y from List.getElem?_set_self hlt] at hj
      cases hj
      have h1 := at_set x.id R k r q hr
      have h2 := h.a x (List.mem_of_getElem? hx)
      rw [hy]
      cases ea : Buf.isAt x.id r <;> cases eb : Buf.isAt x.id q <;> simp [ea, eb] at h1 hd <;> omega
    · rw [show (F.L.set i y)[j]? = F.L[j]? from List.getElem?_set_ne g] at hj
      have hne : z.id ≠ x.id := fun e => g (id_one hI hx hj e.symm)
      have h1 := at_set z.id R k r q hr
      rw [ho z.id hne] at h1
      have h2 := h.a z (List.mem_of_getElem? hj)
      omega
  · obtain ⟨j, hj⟩ := List.getElem?_of_mem hr'
    have hin : ∀ z, z ∈ F.L → ∃ z' ∈ F.L.set i y, z'.id = z.id := fun z hz => by
      obtain ⟨l, hl⟩ := List.getElem?_of_mem hz
      by_cases g : i = l
      · subst g
        rw [hx] at hl
        cases hl
        exact ⟨y, List.mem_of_getElem? (List.getElem?_set_self hlt), hy⟩
      · exact ⟨z, List.mem_of_getElem? ((List.getElem?_set_ne g).trans hl), rfl⟩
    by_cases g : k = j
    · subst g
      rw [List.getElem?_set_self hkt] at hj
      cases hj
      obtain ⟨z, hz, e2⟩ := hin x (List.mem_of_getElem? hx)
      exact ⟨z, hz, e2.trans (hq e).symm⟩
    · rw [List.getElem?_set_ne g] at hj
      obtain ⟨z, hz, e2⟩ := h.b r' (List.mem_of_getElem? hj) e
      obtain ⟨z', hz', e3⟩ := hin z hz
      exact ⟨z', hz', e3.trans e2⟩
theorem on_loads : ∀ (m : Nat) (F : Flt.FS) (R : List Buf.Rq), Flt.Inv F → LdI F R → LdI (onF m F R).1 (onF m F R).2
  | 0, _, _, _, h => h
  | m + 1, F, R, hF, h => by
    unfold onF
    split
    · rename_i e
      refine on_loads m _ _ (Flt.give_inv hF) ?_
      obtain ⟨k, r, hr, ho, hn⟩ := next_run e.1
      have hf := ok_fat ho
      rw [(run_next hr ho hn _).1]
      cases hp : Flt.pick (Flt.room F.most) Flt.given F.L 0 none with
      | none => have := (Flt.give_none hp).2.2; rw [e.2] at this; cases this
      | some y =>
        obtain ⟨i, x⟩ := y
        obtain ⟨g1, g2, _⟩ := Flt.give_some hp
        obtain ⟨_, hx, _⟩ := Flt.pick_mem hp
        rw [g1, g2]
        have e1 : ∀ id, Buf.isAt id r = false := fun id => by unfold Buf.isAt; simp [hf]
        refine LdI.both hF h hx hr rfl ?_ (fun id hne => ?_) (fun _ => rfl)
        · have e2 : Buf.isAt x.id ⟨r.id, r.src, r.til, 2, x.id⟩ = true := by unfold Buf.isAt; simp
          rw [e1, e2]
          simp
        · rw [e1]
          unfold Buf.isAt
          simp
          exact fun g => hne g.symm
    · exact h
theorem crash_loads {F : Flt.FS} {R : List Buf.Rq} (hI : Flt.Inv F) (h : LdI F R) (id : Int) (he : Flt.crashE F.L id = 0) : LdI (Flt.crashS F id) (Buf.turnL (Buf.isAt id) 5 R) := by
  unfold Flt.crashS
  cases hf : F.L.findIdx? (Flt.isId id) with
  | none => have := (Flt.crash_none hf).2.1; rw [he] at this; cases this
  | some i =>
    obtain ⟨x, hx, hid⟩ := Flt.find_get hf
    rw [(Flt.crash_some hf hx).2.2]
    have hxi : x.id = id := by unfold Flt.isId at hid; simpa using hid
    refine ⟨fun z hz => ?_, fun r hr e => ?_⟩
    · obtain ⟨j, hne, hj⟩ := List.mem_eraseIdx_iff_getElem?.1 hz
      have hzi : z.id ≠ id := fun e => hne (id_one hI hj hx (e.trans hxi.symm))
      rw [h.a z (List.mem_of_getElem? hj)]
      unfold at_ Buf.turnL
      rw [List.countP_map]
      congr 1
      refine (List.countP_congr (fun r _ => ?_)).symm
      simp only [Function.comp]
      unfold Buf.turnF
      split
      · rename_i g
        unfold Buf.isAt at g ⊢
        simp at g
        simp [g.1, g.2]
        exact fun e => hzi e.symm
      · rfl
    · unfold Buf.turnL at hr
      obtain ⟨q, hq, rfl⟩ := List.mem_map.1 hr
      unfold Buf.turnF at e ⊢
      split at e
      · cases e
      · rename_i g
        rw [if_neg g]
        obtain ⟨z, hz, e2⟩ := h.b q hq e
        obtain ⟨j, hj⟩ := List.getElem?_of_mem hz
        refine ⟨z, List.mem_eraseIdx_iff_getElem?.2 ⟨j, fun ej => g ?_, hj⟩, e2⟩
        subst ej
        rw [hx] at hj
        cases hj
        unfold Buf.isAt
        simp [e]
        omega
theorem done_loads {F : Flt.FS} {R : List Buf.Rq} (hI : Flt.Inv F) (h : LdI F R) (n : Int) (he : Buf.doneE R n = 0) : LdI (Flt.doneS F (Buf.doneN R n)) (Buf.doneL R n) := by
  unfold Buf.doneE at he
  cases er : Buf.reqAt R n with
  | none => rw [er] at he; cases he
  | some r =>
    rw [er] at he
    have hf : r.fat = 2 := by
      by_cases g : r.fat = 2
      · exact g
      · simp [g] at he
    have hr : R[(n - 1).toNat]? = some r := by
      unfold Buf.reqAt at er
      split at er
      · exact er
      · cases er
    have e1 : Buf.doneN R n = r.pod := by unfold Buf.doneN; rw [er]; simp [hf]
    have e2 : Buf.doneL R n = R.set (n - 1).toNat ⟨r.id, r.src, r.til, 3, r.pod⟩ := by unfold Buf.doneL; rw [er]; simp [hf]
    rw [e1, e2]
    obtain ⟨z, hz, ez⟩ := h.b r (List.mem_of_getElem? hr) hf
    unfold Flt.doneS
    cases hfi : F.L.findIdx? (Flt.isId r.pod) with
    | none =>
      rw [List.findIdx?_eq_none_iff] at hfi
      have := hfi z hz
      unfold Flt.isId at this
      simp [ez] at this
    | some i =>
      obtain ⟨x, hx, hid⟩ := Flt.find_get hfi
      have hxi : x.id = r.pod := by unfold Flt.isId at hid; simpa using hid
      have hat : Buf.isAt x.id r = true := by unfold Buf.isAt; simp [hf, hxi]
      have hpos : 0 < at_ R x.id := by
        unfold at_
        rw [List.countP_pos_iff]
        exact ⟨r, List.mem_of_getElem? hr, hat⟩
      have hld := h.a x (List.mem_of_getElem? hx)
      have hne : x.ld ≠ 0 := by omega
      rw [(Flt.done_ok hfi hx hne).2]
      have hq : ∀ id, Buf.isAt id ⟨r.id, r.src, r.til, 3, r.pod⟩ = false := fun id => by unfold Buf.isAt; simp
      have hb : LdI ⟨F.most, F.last, F.L.set i ⟨x.id, x.st, x.ld - 1⟩⟩ (R.set (n - 1).toNat ⟨r.id, r.src, r.til, 3, r.pod⟩) := by
        refine LdI.both hI h hx hr rfl ?_ (fun id hne => ?_) (fun e => by cases e)
        · rw [hat, hq]
          simp
        · rw [hq]
          unfold Buf.isAt
          simp [hf]
          exact fun g => hne (g.symm.trans hxi.symm)
      unfold Flt.doneL1
      split
      · rename_i hl
        have hs : (F.L.set i ⟨x.id, x.st, x.ld - 1⟩)[i]? = some ⟨x.id, x.st, x.ld - 1⟩ := List.getElem?_set_self (List.getElem?_eq_some_iff.1 hx).1
        exact hb.gone (F := ⟨F.most, F.last, F.L.set i ⟨x.id, x.st, x.ld - 1⟩⟩) hs (idle hb (List.mem_of_getElem? hs) (by show x.ld - 1 = 0; omega))
      · exact hb
theorem ask_loads {F : Flt.FS} {R : List Buf.Rq} (h : LdI F R) (now s t : Int) : LdI F (Buf.askL R now s t) := by
  unfold Buf.askL
  split
  · refine ⟨fun x hx => ?_, fun r hr e => ?_⟩
    · rw [h.a x hx]
      unfold at_
      rw [List.countP_append]
      simp [Buf.isAt]
    · rcases List.mem_append.1 hr with g | g
      · exact h.b r g e
      · simp at g
        subst g
        cases e
  · exact h
section
variable {p : Pd} {ts : List Tr} {S : WS} {h k : Nat}
theorem LdI.on' (b : LdI S.F S.R) (hF : Flt.Inv S.F) : LdI (onW S).F (onW S).R := on_loads _ _ _ hF b
theorem tick_loads (hP : PlOk p ts) (g : WI ts S h k) (hn : S.now + 1 ≤ 1099511627776) (b : LdI S.F S.R) : LdI (tick1 p ts S).F (tick1 p ts S).R := by
  have gd := (g.late hn).due hP
  refine LdI.on' ?_ gd.f
  have bl : LdI (lateW S).F (lateW S).R := late_loads b _
  unfold dueW
  split
  · exact scale_loads (g.late hn).f bl _
  · exact bl
theorem ticks_loads (hP : PlOk p ts) : ∀ (m : Nat) {S : WS} {h k : Nat}, WI ts S h k → S.now + m ≤ 1099511627776 → LdI S.F S.R → LdI (tickW p ts m S).F (tickW p ts m S).R
  | 0, _, _, _, _, _, b => b
  | m + 1, S, h, k, g, hn, b => ticks_loads hP m (g.tick1 hP (by omega)) (by rw [tick1_now]; omega) (tick_loads hP g (by omega) b)
theorem do_loads (hP : PlOk p ts) (g : WI ts S h k) (b : LdI S.F S.R) (x a n : Int) : LdI (doW p ts S x a n).F (doW p ts S x a n).R := by
  unfold doW
  by_cases h1 : x = 1
  · rw [if_pos h1]
    split
    · rename_i e
      have hn : (1 ≤ n ∧ n ≤ 1000) ∧ S.now + n ≤ 1099511627776 := by
        unfold tickE at e
        split at e
        · assumption
        · cases e
      exact ticks_loads hP _ g (by omega) b
    · exact b
  rw [if_neg h1]
  by_cases h2 : x = 2
  · rw [if_pos h2]; unfold makeW; split <;> exact b
  rw [if_neg h2]
  by_cases h3 : x = 3
  · rw [if_pos h3]; unfold takeW; split <;> exact b
  rw [if_neg h3]
  by_cases h4 : x = 4
  · rw [if_pos h4]; unfold putW; split <;> exact b
  rw [if_neg h4]
  by_cases h5 : x = 5
  · rw [if_pos h5]; exact b
  rw [if_neg h5]
  by_cases h6 : x = 6
  · rw [if_pos h6]; exact b
  rw [if_neg h6]
  by_cases h7 : x = 7
  · rw [if_pos h7]; unfold failW; split <;> exact b
  rw [if_neg h7]
  by_cases h8 : x = 8
  · rw [if_pos h8]; exact turn_loads b n 1
  rw [if_neg h8]
  by_cases h9 : x = 9
  · rw [if_pos h9]; unfold readyW; split
    · exact LdI.on' (S := { S with F := Flt.turnS S.F n 2 }) (turn_loads b n 2) (g.ready n 2 (Or.inr rfl)).f
    · exact b
  rw [if_neg h9]
  by_cases h10 : x = 10
  · rw [if_pos h10]; unfold crashW; split
    · rename_i e
      exact LdI.on' (S := { S with F := Flt.crashS S.F n, R := Buf.turnL (Buf.isAt n) 5 S.R }) (crash_loads g.f b n e) (g.crash n).f
    · exact b
  rw [if_neg h10]
  by_cases h11 : x = 11
  · rw [if_pos h11]; unfold askW; split
    · exact LdI.on' (S := { S with R := Buf.askL S.R S.now a n }) (ask_loads b _ _ _) g.f
    · exact b
  rw [if_neg h11]
  by_cases h12 : x = 12
  · rw [if_pos h12]; unfold doneW; split
    · rename_i e
      exact LdI.on' (S := { S with R := Buf.doneL S.R n, F := Flt.doneS S.F (Buf.doneN S.R n) }) (done_loads g.f b n e) (g.done n).f
    · exact b
  rw [if_neg h12]
  by_cases h13 : x = 13
  · rw [if_pos h13]; unfold pauseW; split <;> exact b
  rw [if_neg h13]
  exact b
theorem play_loads (hP : PlOk p ts) (g : WI ts S 0 0) (b : LdI S.F S.R) (X : Nat → Nat → Int) : ∀ j, LdI (playW p ts X S j).F (playW p ts X S j).R
  | 0 => b
  | j + 1 => do_loads hP (WI.play hP g X j) (play_loads hP g b X j) _ _ _
end
end Wld
end Go.Proofs.YtkmdndhjobckiahGreatDoor
namespace Go.Proofs.YtkmdndhjobckiahGreatDoor
namespace Wld
open Plain Pln Frm Lpp Crn Lop
set_option maxRecDepth 8000

def PoB (R : List Buf.Rq) : Prop := ∀ r ∈ R, 0 ≤ r.pod ∧ r.pod ≤ 4000000
theorem give_bd {F : Flt.FS} (hF : Flt.Inv F) (hl : F.last ≤ 4000000) (h : Flt.giveE F = 0) : 0 ≤ Flt.giveN F ∧ Flt.giveN F ≤ 4000000 := by
  cases hp : Flt.pick (Flt.room F.most) Flt.given F.L 0 none with
  | none => rw [(Flt.give_none hp).2.2] at h; cases h
  | some x =>
    obtain ⟨i, q⟩ := x
    rw [(Flt.give_some hp).2.1]
    obtain ⟨_, h2, _⟩ := Flt.pick_mem hp
    have := hF.at h2
    exact ⟨Int.le_trans (by decide) this.1, Int.le_trans this.2.1 hl⟩
theorem give_last (F : Flt.FS) : (Flt.giveS F).last = F.last := by
  unfold Flt.giveS
  split <;> rfl
theorem on_pods : ∀ (m : Nat) (F : Flt.FS) (R : List Buf.Rq), Flt.Inv F → F.last ≤ 4000000 → PoB R → PoB (onF m F R).2
  | 0, _, _, _, _, h => h
  | m + 1, F, R, hF, hl, h => by
    unfold onF
    split
    · rename_i e
      refine on_pods m _ _ (Flt.give_inv hF) (by rw [give_last]; exact hl) (fun x hx => ?_)
      obtain ⟨i, r, hr, ho, hn⟩ := next_run e.1
      rw [(run_next hr ho hn _).1] at hx
      rcases set_mem hx with rfl | hx
      · exact give_bd hF hl e.2
      · exact h x hx
    · exact h
theorem turn_pods {R : List Buf.Rq} {f : Int} {q : Buf.Rq → Bool} (h : PoB R) : PoB (Buf.turnL q f R) := by
  intro x hx
  unfold Buf.turnL at hx
  obtain ⟨r, hr, rfl⟩ := List.mem_map.1 hx
  unfold Buf.turnF
  split
  · exact h r hr
  · exact h r hr
section
variable {p : Pd} {ts : List Tr} {S : WS} {h k : Nat}
theorem due_rows (S : WS) : (dueW p ts S).R = S.R := by unfold dueW; split <;> rfl
theorem pods_ticks (hP : PlOk p ts) : ∀ (m : Nat) {S : WS} {h k : Nat}, WI ts S h k → S.now + m ≤ 1099511627776 → k + m ≤ 80000 → PoB S.R → PoB (tickW p ts m S).R
  | 0, _, _, _, _, _, _, b => b
  | m + 1, S, h, k, g, hn, hk, b => by
    have g1 := g.tick1 hP (by omega)
    refine pods_ticks hP m g1 (by rw [tick1_now]; omega) (by omega) ?_
    have g2 := (g.late (by omega)).due hP
    have hb := g2.fb
    refine on_pods _ _ _ g2.f (by omega) ?_
    rw [due_rows]
    exact turn_pods b
theorem pods_on (b : PoB S.R) (g : WI ts S h k) (hk : k ≤ 80000) : PoB (onW S).R := on_pods _ _ _ g.f (by have := g.fb; omega) b
theorem pods_do (hP : PlOk p ts) (g : WI ts S h k) (hk : k ≤ 70000) (b : PoB S.R) (x a n : Int) : PoB (doW p ts S x a n).R := by
  unfold doW
  by_cases h1 : x = 1
  · rw [if_pos h1]
    split
    · rename_i e
      have hn : (1 ≤ n ∧ n ≤ 1000) ∧ S.now + n ≤ 1099511627776 := by
        unfold tickE at e
        split at e
        · assumption
        · cases e
      exact pods_ticks hP _ g (by omega) (by omega) b
    · exact b
  rw [if_neg h1]
  by_cases h2 : x = 2
  · rw [if_pos h2]; unfold makeW; split <;> exact b
  rw [if_neg h2]
  by_cases h3 : x = 3
  · rw [if_pos h3]; unfold takeW; split <;> exact b
  rw [if_neg h3]
  by_cases h4 : x = 4
  · rw [if_pos h4]; unfold putW; split <;> exact b
  rw [if_neg h4]
  by_cases h5 : x = 5
  · rw [if_pos h5]; exact b
  rw [if_neg h5]
  by_cases h6 : x = 6
  · rw [if_pos h6]; exact b
  rw [if_neg h6]
  by_cases h7 : x = 7
  · rw [if_pos h7]; unfold failW; split <;> exact b
  rw [if_neg h7]
  by_cases h8 : x = 8
  · rw [if_pos h8]; exact b
  rw [if_neg h8]
  by_cases h9 : x = 9
  · rw [if_pos h9]; unfold readyW; split
    · exact pods_on (S := { S with F := Flt.turnS S.F n 2 }) b (g.ready n 2 (Or.inr rfl)) (by omega)
    · exact b
  rw [if_neg h9]
  by_cases h10 : x = 10
  · rw [if_pos h10]; unfold crashW; split
    · have g1 := g.crash n
      exact on_pods _ _ _ g1.f (by have := g1.fb; omega) (turn_pods b)
    · exact b
  rw [if_neg h10]
  by_cases h11 : x = 11
  · rw [if_pos h11]; unfold askW; split
    · rename_i e
      refine on_pods _ S.F _ g.f (by have := g.fb; omega) (fun r hr => ?_)
      have hr : r ∈ Buf.askL S.R S.now a n := hr
      unfold Buf.askL at hr
      rw [if_pos e] at hr
      rcases List.mem_append.1 hr with q | q
      · exact b r q
      · simp at q
        subst q
        exact ⟨Int.le_refl _, show (0 : Int) ≤ 4000000 by decide⟩
    · exact b
  rw [if_neg h11]
  by_cases h12 : x = 12
  · rw [if_pos h12]; unfold doneW; split
    · have g1 := g.done n
      refine on_pods _ _ _ g1.f (by have := g1.fb; omega) (fun r hr => ?_)
      have hr : r ∈ Buf.doneL S.R n := hr
      unfold Buf.doneL at hr
      split at hr
      · exact b r hr
      · rename_i q eq
        split at hr
        · rcases set_mem hr with rfl | hr
          · have hm : q ∈ S.R := by
              unfold Buf.reqAt at eq
              split at eq
              · exact List.mem_of_getElem? eq
              · cases eq
            exact b q hm
          · exact b r hr
        · exact b r hr
    · exact b
  rw [if_neg h12]
  by_cases h13 : x = 13
  · rw [if_pos h13]; unfold pauseW; split <;> exact b
  rw [if_neg h13]
  exact b
theorem pods_play (hP : PlOk p ts) (g : WI ts S 0 0) (b : PoB S.R) (X : Nat → Nat → Int) : ∀ j, j ≤ 70 → PoB (playW p ts X S j).R
  | 0, _ => b
  | j + 1, hj => pods_do hP (WI.play hP g X j) (by omega) (pods_play hP g b X j (by omega)) _ _ _
end
end Wld
end Go.Proofs.YtkmdndhjobckiahGreatDoor
namespace Go.Proofs.YtkmdndhjobckiahGreatDoor
namespace Wld
open Go.RowKit Plain Pln Frm Lpp Crn Lop
set_option maxRecDepth 8000

theorem q0_chk : chkP Lop.p0 [Lop.t0] = 0 := by kernel_rfl
theorem q0_I : PdI Lop.p0 := by constructor <;> simp [I, Lop.p0]
theorem q0_ok : PlOk (noN Lop.p0) [Lop.t0] := ok_noN (plOk_of q0_chk)
theorem q0_k : Us Lop.k0 := by constructor <;> simp [U, Lop.k0]
theorem q0_t : TrU Lop.t0 := ⟨by simp [I, Lop.t0], by simp [I, Lop.t0], by simp [I, Lop.t0], q0_k, q0_k⟩
theorem q0_U : ∀ t ∈ [Lop.t0], TrU t := by
  intro t ht
  simp at ht
  subst ht
  exact q0_t
noncomputable abbrev q0P (X : Nat → Nat → Int) (j : Nat) : WS := playW (noN Lop.p0) [Lop.t0] X (newW (noN Lop.p0) [Lop.t0] 1 2 0) j
theorem q0_I0 : WI [Lop.t0] (newW (noN Lop.p0) [Lop.t0] 1 2 0) 0 0 := WI.new _ _ _ _ _ (by omega) (by omega)
theorem new0 (b : Nat) (w : World) (hB : Lai.BdsAt w) (hT : TrsAt w (some ⟨b, 0, none⟩) [Lop.t0]) : Calls Tryz.prog 6 #[planV Lop.p0 (.slice (some ⟨b, 0, none⟩) 1 1), .int .i64 1, .int .i64 2, .int .i64 0] w (NewWA Lop.p0 [Lop.t0] 1 2 0 w) :=
  new_yes Lop.p0 (some ⟨b, 0, none⟩) 1 [Lop.t0] 1 2 0 w hB q0_I (by simp [Lop.p0]) hT q0_chk (by omega) (by omega)
def RnR (w : World) (B : Nat) (c : Pc) (p : Pd) (ts : List Tr) (S : WS) (X : Nat → Nat → Int) (m : Nat) (i : Value) (wr : World) : Prop := ∃ (j : Nat) (c1 : Pc), j ≤ m ∧ i = .int .i64 j ∧ WAt wr B c1 p ts (playW p ts X S j) ∧ c1.x.D = c.x.D ∧ Below w.heap.size w wr
set_option maxHeartbeats 4000000 in
theorem running_any (ao : Option Addr) (m cap : Nat) (X : Nat → Nat → Int) (w : World) (hB : Lai.BdsAt w) (hH : Frm.RowsIn w ao m 3 X) (hm : m ≤ 60) :
    Calls Tryz.prog 17 #[.slice ao m cap] w fun e w' => ∃ B c, e = .returned (.pointer (some ⟨c.x.D, 0, none⟩)) ∧ w.heap.size ≤ B ∧ WAt w' B c (noN Lop.p0) [Lop.t0] (q0P X m) ∧ Below w.heap.size w w' := by
  have cP := Lop.pplan_any w
  have HB : Hid (Lai.BdsAt w) := hB
  have HH : Hid (Frm.RowsIn w ao m 3 X) := hH
  clear hB hH
  go_enter Tryz.func17, Tryz.ntmps17
  go_wp2_with (first
    | (go_at_call 40; (with_reducible refine cP.mono ?_); rintro e w1 ⟨b, rfl, hT1, hb, hb1⟩; clear cP)
    | (go_at_call 6; have cN := new0 b w1 (HB.out.below hb1 (Nat.le_refl _)) hT1; (with_reducible refine cN.mono ?_); rintro e w2 ⟨c, rfl, hA2, hb2⟩; clear cN))
  have hbw : Below w.heap.size w w2 := hb1.trans (hb2.mono hb1.size)
  have HA2 : Hid (WAt w2 w1.heap.size c (noN Lop.p0) [Lop.t0] (q0P X 0) ∧ Below w.heap.size w w2) := ⟨hA2, hbw⟩
  have HB1 : Hid (w.heap.size ≤ w1.heap.size) := hb1.size
  clear hA2 hbw hb1 hb2 hT1
  generalize hD : c.x.D = D at *
  go_loopw [16] (fun i wr => RnR w w1.heap.size c (noN Lop.p0) [Lop.t0] (newW (noN Lop.p0) [Lop.t0] 1 2 0) X m i wr) (fun i _ => m - (intOf i).toNat)
  case atStart => exact ⟨0, c, by omega, rfl, HA2.out.1, rfl, HA2.out.2⟩
  case round =>
    obtain ⟨j, c1, hj, rfl, hA, hd, hbr⟩ := hrel
    by_cases hlt : j < m
    · have hlt' : (j : Int) < (m : Int) := by omega
      obtain ⟨g, off, rfl, hgl, hc⟩ := (Frm.RowsIn.below HH.out hbr (Nat.le_refl _)) j hlt
      have x0 := (hc 0 (by omega)).1
      have x1 := (hc 1 (by omega)).1
      have x2 := (hc 2 (by omega)).1
      simp only [Nat.add_zero] at x0
      rw [← Nat.add_assoc] at x1 x2
      obtain ⟨W, hW⟩ : ∃ W, W = wr.alloc (.cells #[.int .i64 (X j 0), .int .i64 (X j 1), .int .i64 (X j 2)] 34) := ⟨_, rfl⟩
      have hbW : Below wr.heap.size wr W := by rw [hW]; exact (Below.refl _ _).alloc (Nat.le_refl _) _
      have y0 : W.cell? ⟨wr.heap.size, 0, none⟩ = some (.int .i64 (X j 0)) := by rw [hW]; simp
      have y1 : W.cell? ⟨wr.heap.size, 1, none⟩ = some (.int .i64 (X j 1)) := by rw [hW]; simp
      have y2 : W.cell? ⟨wr.heap.size, 2, none⟩ = some (.int .i64 (X j 2)) := by rw [hW]; simp
      have HW : Hid (W = wr.alloc (.cells #[.int .i64 (X j 0), .int .i64 (X j 1), .int .i64 (X j 2)] 34)) := hW
      have HAW : Hid (WAt W w1.heap.size c1 (noN Lop.p0) [Lop.t0] (q0P X j) ∧ Below w.heap.size w W) := ⟨hA.below hbW, hbr.trans (hbW.mono hbr.size)⟩
      have cD := do_any w1.heap.size c1 (noN Lop.p0) [Lop.t0] (q0P X j) j (1000 * j) (X j 0) (X j 1) (X j 2) W HAW.out.1 (WI.play q0_ok q0_I0 X j) (by omega) (by omega) q0_ok q0_U
      have hD1 : c1.x.D = D := hd.trans hD
      rw [hD1] at cD
      clear hA hbr hbW hW hc
      go_upto_region 7 with fail
      rw [← HW.out]
      clear HW x0 x1 x2
      generalize wr.heap.size = C at *
      go_wp2_with (go_at_call 7; (with_reducible refine cD.mono ?_); rintro e w3 ⟨rfl, c3, a3, d3, m3⟩; clear cD; have HX3 : Hid (WAt w3 w1.heap.size c3 (noN Lop.p0) [Lop.t0] (q0P X (j + 1)) ∧ c3.x.D = c1.x.D ∧ Mm.Mv (bk c1 [Lop.t0]) (bk c3 [Lop.t0]) W w3) := ⟨a3, d3, m3⟩; clear a3 d3 m3)
      go_roundw
      case rel => exact ⟨j + 1, c3, hlt, rfl, HX3.out.1, HX3.out.2.1.trans hd, HAW.out.2.trans (HX3.out.2.2.below (fun k hk => Nat.le_trans HB1.out (HAW.out.1.low hk).1) HAW.out.2.size)⟩
      case measure => simp [intOf]; omega
    · obtain rfl : j = m := by omega
      go_wp2
      go_ret
      exact ⟨_, c1, by rw [hd, hD]; rfl, HB1.out, hA, hbr⟩
theorem req_one {w : World} {G : Nat} {r : Buf.Rq} (h : Rec.RowAt Buf.rK w (some ⟨G, 0, none⟩) [r]) : w.cell? ⟨G, 3, none⟩ = some (.int .i64 r.fat) ∧ w.cell? ⟨G, 4, none⟩ = some (.int .i64 r.pod) := by
  obtain ⟨g, e, _, hc⟩ := h (by simp)
  cases e
  have a := hc 0 r rfl 3 _ rfl
  have b := hc 0 r rfl 4 _ rfl
  simp only [Nat.zero_mul, Nat.zero_add] at a b
  exact ⟨a, b⟩
theorem wS_I : WI [Lop.t0] wS 4 4000 := WI.play q0_ok q0_I0 wX 4
theorem wR_any (B : Nat) (c : Pc) (w : World) (hA : WAt w B c (noN Lop.p0) [Lop.t0] wS) : Calls Tryz.prog 14 #[.pointer (some ⟨c.x.D, 0, none⟩)] w fun e w' => ∃ G, e = .returned (.slice (some ⟨G, 0, none⟩) 1 1) ∧ w'.cell? ⟨G, 3, none⟩ = some (.int .i64 2) ∧ w'.cell? ⟨G, 4, none⟩ = some (.int .i64 1) ∧ Below w.heap.size w w' := by
  refine (requests_any B c (noN Lop.p0) [Lop.t0] wS w hA wS_I.r.len).mono ?_
  rintro e w' ⟨G, rfl, _, hR, hb⟩
  rw [wS_R] at hR ⊢
  obtain ⟨a, b⟩ := req_one hR
  exact ⟨G, rfl, a, b, hb⟩
theorem wR2_any (B : Nat) (c : Pc) (w : World) (hA : WAt w B c (noN Lop.p0) [Lop.t0] (doW (noN Lop.p0) [Lop.t0] wS 12 0 1)) : Calls Tryz.prog 14 #[.pointer (some ⟨c.x.D, 0, none⟩)] w fun e w' => ∃ G, e = .returned (.slice (some ⟨G, 0, none⟩) 1 1) ∧ w'.cell? ⟨G, 3, none⟩ = some (.int .i64 3) ∧ Below w.heap.size w w' := by
  refine (requests_any B c (noN Lop.p0) [Lop.t0] _ w hA (wS_I.do q0_ok 12 0 1).r.len).mono ?_
  rintro e w' ⟨G, rfl, _, hR, hb⟩
  rw [wS_D] at hR ⊢
  obtain ⟨a, b⟩ := req_one hR
  exact ⟨G, rfl, a, hb⟩
theorem wD_any (B : Nat) (c : Pc) (w : World) (hA : WAt w B c (noN Lop.p0) [Lop.t0] wS) : Calls Tryz.prog 7 #[.pointer (some ⟨c.x.D, 0, none⟩), .agg #[.int .i64 12, .int .i64 0, .int .i64 1]] w fun e w' => e = .returned (.int .i64 0) ∧ Wst B c (noN Lop.p0) [Lop.t0] (doW (noN Lop.p0) [Lop.t0] wS 12 0 1) w w' := by
  have h := do_any B c (noN Lop.p0) [Lop.t0] wS 4 4000 12 0 1 w hA wS_I (by omega) (by omega) q0_ok q0_U
  rw [wS_E] at h
  exact h
theorem wT_any (B : Nat) (c : Pc) (w : World) (hA : WAt w B c (noN Lop.p0) [Lop.t0] wS) : Calls Tryz.prog 10 #[.pointer (some ⟨c.x.D, 0, none⟩)] w fun e w' => e = .returned (.int .i64 1) ∧ w' = w := by
  have h := target_any B c (noN Lop.p0) [Lop.t0] wS w hA
  rw [wS_tg] at h
  exact h
theorem wX_rows (w : World) (e : TypeId) : Frm.RowsIn (w.alloc (.cells #[.int .i64 11, .int .i64 1, .int .i64 50, .int .i64 1, .int .i64 0, .int .i64 2, .int .i64 8, .int .i64 0, .int .i64 1, .int .i64 9, .int .i64 0, .int .i64 1] e)) (some ⟨w.heap.size, 0, none⟩) 4 3 wX := by
  intro i hi
  refine ⟨w.heap.size, 0, rfl, by simp, fun j hj => ?_⟩
  rcases (by omega : i = 0 ∨ i = 1 ∨ i = 2 ∨ i = 3) with rfl | rfl | rfl | rfl <;> rcases (by omega : j = 0 ∨ j = 1 ∨ j = 2) with rfl | rfl | rfl <;> simp [wX]
set_option maxHeartbeats 4000000 in
theorem works_any (w : World) (hB : Lai.BdsAt w) : Calls Tryz.prog 5 #[] w fun e w' => e = .returned (.bool true) ∧ Below w.heap.size w w' := by
  obtain ⟨W, hW⟩ : ∃ W, W = w.alloc (.cells #[.int .i64 11, .int .i64 1, .int .i64 50, .int .i64 1, .int .i64 0, .int .i64 2, .int .i64 8, .int .i64 0, .int .i64 1, .int .i64 9, .int .i64 0, .int .i64 1] 34) := ⟨_, rfl⟩
  have hbW : Below w.heap.size w W := by rw [hW]; exact (Below.refl _ _).alloc (Nat.le_refl _) _
  have hX : Frm.RowsIn W (some ⟨w.heap.size, 0, none⟩) 4 3 wX := by rw [hW]; exact wX_rows w _
  have cR := running_any (some ⟨w.heap.size, 0, none⟩) 4 4 wX W (hB.below hbW (Nat.le_refl _)) hX (by omega)
  have HW : Hid (W = w.alloc (.cells #[.int .i64 11, .int .i64 1, .int .i64 50, .int .i64 1, .int .i64 0, .int .i64 2, .int .i64 8, .int .i64 0, .int .i64 1, .int .i64 9, .int .i64 0, .int .i64 1] 34)) := hW
  have HB : Hid (Below w.heap.size w W) := hbW
  clear hW hbW hB hX
  go_enter Tryz.func5, Tryz.ntmps5
  go_wp2_with (first
    | (go_at_call 17; (rw [← HW.out]); (with_reducible refine cR.mono ?_); rintro e w1 ⟨B, c, rfl, hB1, hA1, hb1⟩; clear cR; have HA1 : Hid (WAt w1 B c (noN Lop.p0) [Lop.t0] wS) := hA1; clear hA1; generalize hD : c.x.D = D at *)
    | (go_at_call 10; have cT := wT_any B c w2 HA2.out; rw [hD] at cT; (with_reducible refine cT.mono ?_); rintro e w' ⟨rfl, h9⟩; have h8 := h9.symm; clear h9; subst h8; clear cT)
    | (go_at_call 7; have cD := wD_any B c w2 HA2.out; rw [hD] at cD; (with_reducible refine cD.mono ?_); rintro e w3 ⟨rfl, c3, a3, d3, m3⟩; clear cD; have HX3 : Hid (WAt w3 B c3 (noN Lop.p0) [Lop.t0] (doW (noN Lop.p0) [Lop.t0] wS 12 0 1) ∧ Mm.Mv (bk c [Lop.t0]) (bk c3 [Lop.t0]) w2 w3) := ⟨a3, m3⟩; have hD3 : c3.x.D = D := d3.trans hD; clear a3 d3 m3)
    | (go_at_call 14; have cQ := wR2_any B c3 w3 HX3.out.1; rw [hD3] at cQ; (with_reducible refine cQ.mono ?_); rintro e w4 ⟨G4, rfl, r3, hb4⟩; clear cQ)
    | (go_at_call 14; have cQ := wR_any B c w1 HA1.out; rw [hD] at cQ; (with_reducible refine cQ.mono ?_); rintro e w2 ⟨G2, rfl, r3, r4, hb2⟩; clear cQ; have HA2 : Hid (WAt w2 B c (noN Lop.p0) [Lop.t0] wS) := HA1.out.below hb2))
  go_ret
  refine ⟨rfl, ?_⟩
  have b2 : Below w.heap.size w w2 := HB.out.trans ((hb1.trans (hb2.mono hb1.size)).mono HB.out.size)
  have b3 : Below w.heap.size w w3 := b2.trans (HX3.out.2.below (fun k hk => by have := (HA2.out.low hk).1; have := HB.out.size; omega) b2.size)
  exact b3.trans (hb4.mono b3.size)
end Wld
end Go.Proofs.YtkmdndhjobckiahGreatDoor
