/- Some happenings, one behind the other. A request is late just at its time, if it never ran; what has an end besides, ran. A request keeps its pod and its end; who came later of a source has none ahead of who came first. What the maps of the law that asks for one end hold, request by request. The pods of requests are numbers of pods that were made. What stands at the head of the laws of the whole: some, tick, said. -/
import Derived.Test.YtkmdndhjobckiaiGreatDoorPkWldHand
import Derived.Test.YtkmdndhjobckiaiGreatDoorPkLopPlan
import Derived.Test.YtkmdndhjobckiaiGreatDoorPkFrame
namespace Go.Proofs.YtkmdndhjobckiaiGreatDoor
namespace Wld
open Go.RowKit Plain Pln Frm Lpp Crn Lop
set_option maxRecDepth 8000

noncomputable def playW (p : Pd) (ts : List Tr) (X : Nat → Nat → Int) (S : WS) : Nat → WS
 | 0 => S
 | j + 1 => doW p ts (playW p ts X S j) (X j 0) (X j 1) (X j 2)
theorem WI.play {p : Pd} {ts : List Tr} {S : WS} (hP : PlOk p ts) (g : WI ts S 0 0) (X : Nat → Nat → Int) : ∀ j, WI ts (playW p ts X S j) j (1000 * j)
 | 0 => g
 | j + 1 => (WI.play hP g X j).do hP _ _ _
end Wld
namespace Wld
open Plain Pln Frm Lpp Crn Lop
set_option maxRecDepth 8000

def okL (now : Int) (r : Buf.Rq) : Prop := (r.fat = 4 → r.pod = 0 ∧ r.til ≤ now) ∧ (r.fat = 1 → r.pod = 0 ∧ now < r.til) ∧ (r.fat = 2 → r.pod ≠ 0) ∧ (r.fat = 3 → r.pod ≠ 0) ∧ (r.fat = 5 → r.pod ≠ 0)
def LaI (S : WS) : Prop := ∀ r ∈ S.R, okL S.now r
theorem set_mem {R : List Buf.Rq} {i : Nat} {q x : Buf.Rq} (h : x ∈ R.set i q) : x = q ∨ x ∈ R := by
 rcases List.mem_or_eq_of_mem_set h with a | a
 ·exact Or.inr a
 ·exact Or.inl a
theorem give_pos {F : Flt.FS} (hF : Flt.Inv F) (h : Flt.giveE F = 0) : 1 ≤ Flt.giveN F := by
 cases hp : Flt.pick (Flt.room F.most) Flt.given F.L 0 none with
 | none => rw [(Flt.give_none hp).2.2] at h; cases h
 | some x =>
  obtain ⟨i, q⟩ := x
  rw [(Flt.give_some hp).2.1]
  obtain ⟨_, h2, _⟩ := Flt.pick_mem hp
  exact (hF.at h2).1
theorem on_late (now : Int) : ∀ (m : Nat) (F : Flt.FS) (R : List Buf.Rq), Flt.Inv F → (∀ r ∈ R, okL now r) → ∀ r ∈ (onF m F R).2, okL now r
 | 0, _, _, _, h => h
 | m + 1, F, R, hF, h => by
  unfold onF
  split
  ·rename_i e
   refine on_late now m _ _ (Flt.give_inv hF) (fun x hx => ?_)
   obtain ⟨i, r, hr, ho, hn⟩ := next_run e.1
   rw [(run_next hr ho hn _).1] at hx
   rcases set_mem hx with rfl | hx
   ·have := give_pos hF e.2
    refine ⟨fun e => (by cases e), fun e => (by cases e), fun _ => ?_, fun e => (by cases e), fun e => (by cases e)⟩
    show Flt.giveN F ≠ 0
    omega
   ·exact h x hx
  ·exact h
section
variable {p : Pd} {ts : List Tr} {S : WS} {h k : Nat}
theorem LaI.on (b : LaI S) (hF : Flt.Inv S.F) : LaI (onW S) := on_late S.now _ _ _ hF b
theorem turn_okL {now : Int} {R : List Buf.Rq} {f : Int} {q : Buf.Rq → Bool} (h : ∀ r ∈ R, okL now r) (hq : ∀ r ∈ R, q r = true → okL now ⟨r.id, r.src, r.til, f, r.pod⟩) : ∀ r ∈ Buf.turnL q f R, okL now r := by
 intro x hx
 unfold Buf.turnL at hx
 obtain ⟨r, hr, rfl⟩ := List.mem_map.1 hx
 unfold Buf.turnF
 split
 ·rename_i e; exact hq r hr e
 ·exact h r hr
theorem LaI.late (b : LaI S) : LaI (lateW S) := by
 intro x hx
 show okL (S.now + 1) x
 have hx : x ∈ Buf.turnL (Buf.isLate (S.now + 1)) 4 S.R := hx
 unfold Buf.turnL at hx
 obtain ⟨r, hr, rfl⟩ := List.mem_map.1 hx
 have hb := b r hr
 unfold Buf.turnF
 split
 ·rename_i e
  unfold Buf.isLate at e
  simp at e
  refine ⟨fun _ => ⟨(hb.2.1 e.1).1, e.2⟩, fun e => (by cases e), fun e => (by cases e), fun e => (by cases e), fun e => (by cases e)⟩
 ·rename_i e
  unfold Buf.isLate at e
  simp at e
  refine ⟨fun g => ⟨(hb.1 g).1, by have := (hb.1 g).2; omega⟩, fun g => ⟨(hb.2.1 g).1, by have := e g; omega⟩, hb.2.2⟩
theorem LaI.due (b : LaI S) : LaI (dueW p ts S) := by
 unfold dueW
 split
 ·exact b
 ·exact b
theorem LaI.ticks (hP : PlOk p ts) : ∀ (m : Nat) {S : WS} {h k : Nat}, WI ts S h k → S.now + m ≤ 1099511627776 → LaI S → LaI (tickW p ts m S)
 | 0, _, _, _, _, _, b => b
 | m + 1, S, h, k, g, hn, b => by
  have g1 := g.tick1 hP (by omega)
  exact LaI.ticks hP m g1 (by rw [tick1_now]; omega) ((b.late.due).on ((g.late (by omega)).due hP).f)
theorem LaI.do (hP : PlOk p ts) (g : WI ts S h k) (b : LaI S) (x a n : Int) : LaI (doW p ts S x a n) := by
 unfold doW
 by_cases h1 : x = 1
 ·rw [if_pos h1]
  split
  ·rename_i e
   have hn : (1 ≤ n ∧ n ≤ 1000) ∧ S.now + n ≤ 1099511627776 := by
    unfold tickE at e
    split at e
    ·assumption
    ·cases e
   exact LaI.ticks hP _ g (by omega) b
  ·exact b
 rw [if_neg h1]
 by_cases h2 : x = 2
 ·rw [if_pos h2]; unfold makeW; split <;> exact b
 rw [if_neg h2]
 by_cases h3 : x = 3
 ·rw [if_pos h3]; unfold takeW; split <;> exact b
 rw [if_neg h3]
 by_cases h4 : x = 4
 ·rw [if_pos h4]; unfold putW; split <;> exact b
 rw [if_neg h4]
 by_cases h5 : x = 5
 ·rw [if_pos h5]; exact b
 rw [if_neg h5]
 by_cases h6 : x = 6
 ·rw [if_pos h6]; exact b
 rw [if_neg h6]
 by_cases h7 : x = 7
 ·rw [if_pos h7]; unfold failW; split <;> exact b
 rw [if_neg h7]
 by_cases h8 : x = 8
 ·rw [if_pos h8]; exact b
 rw [if_neg h8]
 by_cases h9 : x = 9
 ·rw [if_pos h9]; unfold readyW; split
  ·exact LaI.on (S := { S with F := Flt.turnS S.F n 2 }) b (g.ready n 2 (Or.inr rfl)).f
  ·exact b
 rw [if_neg h9]
 by_cases h10 : x = 10
 ·rw [if_pos h10]; unfold crashW; split
  ·refine LaI.on (S := { S with F := Flt.crashS S.F n, R := Buf.turnL (Buf.isAt n) 5 S.R }) (turn_okL b (fun r hr e => ?_)) (g.crash n).f
   unfold Buf.isAt at e
   simp at e
   exact ⟨fun e => (by cases e), fun e => (by cases e), fun e => (by cases e), fun e => (by cases e), fun _ => (b r hr).2.2.1 e.1⟩
  ·exact b
 rw [if_neg h10]
 by_cases h11 : x = 11
 ·rw [if_pos h11]; unfold askW; split
  ·rename_i e
   refine LaI.on (S := { S with R := Buf.askL S.R S.now a n }) (fun r hr => ?_) g.f
   have hr : r ∈ Buf.askL S.R S.now a n := hr
   unfold Buf.askL at hr
   rw [if_pos e] at hr
   rcases List.mem_append.1 hr with q | q
   ·exact b r q
   ·simp at q
    subst q
    have hn : 1 ≤ n := by
     unfold Buf.askE at e
     split at e
     ·cases e
     ·rename_i h9
      omega
    exact ⟨fun e => (by cases e), fun _ => ⟨rfl, by show S.now < S.now + n; omega⟩, fun e => (by cases e), fun e => (by cases e), fun e => (by cases e)⟩
  ·exact b
 rw [if_neg h11]
 by_cases h12 : x = 12
 ·rw [if_pos h12]; unfold doneW; split
  ·refine LaI.on (S := { S with R := Buf.doneL S.R n, F := Flt.doneS S.F (Buf.doneN S.R n) }) (fun r hr => ?_) (g.done n).f
   have hr : r ∈ Buf.doneL S.R n := hr
   unfold Buf.doneL at hr
   split at hr
   ·exact b r hr
   ·rename_i q eq
    split at hr
    ·rename_i hq
     rcases set_mem hr with rfl | hr
     ·have hm : q ∈ S.R := by
       unfold Buf.reqAt at eq
       split at eq
       ·exact List.mem_of_getElem? eq
       ·cases eq
      exact ⟨fun e => (by cases e), fun e => (by cases e), fun e => (by cases e), fun _ => (b q hm).2.2.1 hq, fun e => (by cases e)⟩
     ·exact b r hr
    ·exact b r hr
  ·exact b
 rw [if_neg h12]
 by_cases h13 : x = 13
 ·rw [if_pos h13]; unfold pauseW; split <;> exact b
 rw [if_neg h13]
 exact b
theorem LaI.play (hP : PlOk p ts) (g : WI ts S 0 0) (b : LaI S) (X : Nat → Nat → Int) : ∀ j, LaI (playW p ts X S j)
 | 0 => b
 | j + 1 => (LaI.play hP g b X j).do hP (WI.play hP g X j) _ _ _
end
end Wld
namespace Wld
open Plain Pln Frm Lpp Crn Lop
set_option maxRecDepth 8000

def kp (r q : Buf.Rq) : Prop := q.id = r.id ∧ q.src = r.src ∧ (r.pod ≠ 0 → q.pod = r.pod) ∧ (3 ≤ r.fat → q.fat = r.fat)
def Kps (R Q : List Buf.Rq) : Prop := R.length ≤ Q.length ∧ ∀ (i : Nat) (r : Buf.Rq), R[i]? = some r → ∃ q, Q[i]? = some q ∧ kp r q
theorem kp_refl (r : Buf.Rq) : kp r r := ⟨rfl, rfl, fun _ => rfl, fun _ => rfl⟩
theorem Kps.refl (R : List Buf.Rq) : Kps R R := ⟨Nat.le_refl _, fun _ r h => ⟨r, h, kp_refl r⟩⟩
theorem Kps.trans {R Q P : List Buf.Rq} (h : Kps R Q) (g : Kps Q P) : Kps R P := by
 refine ⟨Nat.le_trans h.1 g.1, fun i r hr => ?_⟩
 obtain ⟨q, hq, a1, a2, a3, a4⟩ := h.2 i r hr
 obtain ⟨x, hx, b1, b2, b3, b4⟩ := g.2 i q hq
 refine ⟨x, hx, b1.trans a1, b2.trans a2, fun e => ?_, fun e => ?_⟩
 ·have := a3 e; rw [b3 (by rw [this]; exact e), this]
 ·have := a4 e; rw [b4 (by rw [this]; exact e), this]
theorem Kps.set {R : List Buf.Rq} {i : Nat} {r q : Buf.Rq} (hr : R[i]? = some r) (h : kp r q) : Kps R (R.set i q) := by
 refine ⟨by simp, fun j x hx => ?_⟩
 by_cases e : i = j
 ·subst e
  rw [hr] at hx
  cases hx
  exact ⟨q, List.getElem?_set_self (List.getElem?_eq_some_iff.1 hr).1, h⟩
 ·exact ⟨x, by rw [List.getElem?_set_ne e]; exact hx, kp_refl x⟩
theorem Kps.turn {R : List Buf.Rq} {f : Int} {q : Buf.Rq → Bool} (h : ∀ r ∈ R, q r = true → r.fat < 3) : Kps R (Buf.turnL q f R) := by
 refine ⟨by simp [Buf.turnL], fun i r hr => ⟨Buf.turnF q f r, by unfold Buf.turnL; rw [List.getElem?_map, hr]; rfl, ?_⟩⟩
 unfold Buf.turnF
 split
 ·rename_i e
  have := h r (List.mem_of_getElem? hr) e
  exact ⟨rfl, rfl, fun _ => rfl, fun g => by omega⟩
 ·exact kp_refl r
def has (r : Buf.Rq) : Prop := r.fat = 2 ∨ r.fat = 3 ∨ r.fat = 5
def Ord (R : List Buf.Rq) : Prop := ∀ (i j : Nat) (r x : Buf.Rq), R[i]? = some r → R[j]? = some x → j < i → x.src = r.src → has r → x.fat ≠ 1 ∧ x.fat ≠ 2
theorem run_ord {R : List Buf.Rq} {k : Nat} {r : Buf.Rq} (h : Ord R) (hr : R[k]? = some r) (ho : Buf.runOk R k r = true) (pod : Int) : Ord (R.set k ⟨r.id, r.src, r.til, 2, pod⟩) := by
 have hk : k < R.length := (List.getElem?_eq_some_iff.1 hr).1
 have hf := ok_fat ho
 unfold Buf.runOk Buf.mayRun at ho
 simp only [Bool.and_eq_true, beq_iff_eq, List.all_eq_true] at ho
 obtain ⟨⟨_, hm⟩, ha⟩ := ho
 intro i j a x ha' hx hlt hs hh
 by_cases ei : k = i
 ·subst ei
  rw [List.getElem?_set_self hk] at ha'
  cases ha'
  rw [List.getElem?_set_ne (by omega)] at hx
  refine ⟨fun e => ?_, fun e => ?_⟩
  ·have hmem : x ∈ R.take k := by
    rw [List.mem_take_iff_getElem]
    obtain ⟨hj, e2⟩ := List.getElem?_eq_some_iff.1 hx
    exact ⟨j, by omega, e2⟩
   have := ha x hmem
   simp [hs, e] at this
  ·have hz : R.countP (Buf.isOf r.src 2) = 0 := hm
   rw [List.countP_eq_zero] at hz
   have := hz x (List.mem_of_getElem? hx)
   simp [Buf.isOf, hs, e] at this
 ·rw [List.getElem?_set_ne ei] at ha'
  by_cases ej : k = j
  ·subst ej
   rw [List.getElem?_set_self hk] at hx
   cases hx
   exact absurd hf (h i k a r ha' hr hlt hs hh).1
  ·rw [List.getElem?_set_ne ej] at hx
   exact h i j a x ha' hx hlt hs hh
theorem done_ord {R : List Buf.Rq} {k : Nat} {r q : Buf.Rq} (h : Ord R) (hr : R[k]? = some r) (hf : r.fat = 2) (hs : q.src = r.src) : Ord (R.set k q) := by
 have hk : k < R.length := (List.getElem?_eq_some_iff.1 hr).1
 intro i j a x ha hx hlt he hh
 by_cases ei : k = i
 ·subst ei
  rw [List.getElem?_set_self hk] at ha
  cases ha
  rw [List.getElem?_set_ne (by omega)] at hx
  exact h k j r x hr hx hlt (he.trans hs) (Or.inl hf)
 ·rw [List.getElem?_set_ne ei] at ha
  by_cases ej : k = j
  ·subst ej
   rw [List.getElem?_set_self hk] at hx
   cases hx
   exact absurd hf (h i k a r ha hr hlt (hs.symm.trans he) hh).2
  ·rw [List.getElem?_set_ne ej] at hx
   exact h i j a x ha hx hlt he hh
theorem turn_ord {R : List Buf.Rq} {f : Int} {q : Buf.Rq → Bool} (h : Ord R) (h1 : ∀ r, q r = true → r.fat = 1 ∨ r.fat = 2) (h2 : ∀ r, q r = true → has ⟨r.id, r.src, r.til, f, r.pod⟩ → has r) : Ord (Buf.turnL q f R) := by
 intro i j a x ha hx hlt he hh
 unfold Buf.turnL at ha hx
 rw [List.getElem?_map] at ha hx
 obtain ⟨r, hr, rfl⟩ := Option.map_eq_some_iff.1 ha
 obtain ⟨y, hy, rfl⟩ := Option.map_eq_some_iff.1 hx
 have sr : ∀ z, (Buf.turnF q f z).src = z.src := fun z => by unfold Buf.turnF; split <;> rfl
 rw [sr, sr] at he
 have hhr : has r := by
  unfold Buf.turnF at hh
  split at hh
  ·rename_i e; exact h2 r e hh
  ·exact hh
 have hxy := h i j r y hr hy hlt he hhr
 unfold Buf.turnF
 split
 ·rename_i e
  rcases h1 y e with g | g
  ·exact absurd g hxy.1
  ·exact absurd g hxy.2
 ·exact hxy
theorem ask_ord {R : List Buf.Rq} (h : Ord R) (now s t : Int) : Ord (Buf.askL R now s t) ∧ Kps R (Buf.askL R now s t) := by
 unfold Buf.askL
 split
 ·refine ⟨fun i j a x ha hx hlt he hh => ?_, by simp, fun i r hr => ⟨r, by rw [List.getElem?_append_left (List.getElem?_eq_some_iff.1 hr).1]; exact hr, kp_refl r⟩⟩
  have hi : i < R.length + 1 := by have := (List.getElem?_eq_some_iff.1 ha).1; simpa using this
  by_cases e : i < R.length
  ·rw [List.getElem?_append_left e] at ha
   rw [List.getElem?_append_left (by omega)] at hx
   exact h i j a x ha hx hlt he hh
  ·obtain rfl : i = R.length := by omega
   simp at ha
   subst ha
   rcases hh with g | g | g <;> cases g
 ·exact ⟨h, Kps.refl R⟩
theorem ask_kps (R : List Buf.Rq) (now s t : Int) : Kps R (Buf.askL R now s t) := by
 unfold Buf.askL
 split
 ·exact ⟨by simp, fun i r hr => ⟨r, by rw [List.getElem?_append_left (List.getElem?_eq_some_iff.1 hr).1]; exact hr, kp_refl r⟩⟩
 ·exact Kps.refl R
theorem req_get {R : List Buf.Rq} {n : Int} {q : Buf.Rq} (h : Buf.reqAt R n = some q) : R[(n - 1).toNat]? = some q := by
 unfold Buf.reqAt at h
 split at h
 ·exact h
 ·cases h
theorem done_once (R : List Buf.Rq) (n : Int) : Kps R (Buf.doneL R n) ∧ (Ord R → Ord (Buf.doneL R n)) := by
 unfold Buf.doneL
 split
 ·exact ⟨Kps.refl R, id⟩
 ·rename_i q eq
  split
  ·rename_i hq
   exact ⟨Kps.set (req_get eq) ⟨rfl, rfl, fun _ => rfl, fun e => by omega⟩, fun o => done_ord o (req_get eq) hq rfl⟩
  ·exact ⟨Kps.refl R, id⟩
theorem done_okL {now n : Int} {R : List Buf.Rq} (b : ∀ r ∈ R, okL now r) : ∀ r ∈ Buf.doneL R n, okL now r := by
 intro r hr
 unfold Buf.doneL at hr
 split at hr
 ·exact b r hr
 ·rename_i q eq
  split at hr
  ·rename_i hq
   rcases set_mem hr with rfl | hr
   ·exact ⟨fun e => (by cases e), fun e => (by cases e), fun e => (by cases e), fun _ => (b q (List.mem_of_getElem? (req_get eq))).2.2.1 hq, fun e => (by cases e)⟩
   ·exact b r hr
  ·exact b r hr
structure OnI (S S' : WS) : Prop where
 k : Kps S.R S'.R
 o : Ord S.R → Ord S'.R
theorem OnI.refl (S : WS) : OnI S S := ⟨Kps.refl _, id⟩
theorem OnI.trans {S S' S'' : WS} (h : OnI S S') (g : OnI S' S'') : OnI S S'' := ⟨h.k.trans g.k, fun e => g.o (h.o e)⟩
theorem OnI.same {S S' : WS} (h : S'.R = S.R) : OnI S S' := by
 refine ⟨?_, ?_⟩
 ·rw [h]; exact Kps.refl _
 ·rw [h]; exact id
theorem on_once (now : Int) : ∀ (m : Nat) (F : Flt.FS) (R : List Buf.Rq), Flt.Inv F → (∀ r ∈ R, okL now r) → Kps R (onF m F R).2 ∧ (Ord R → Ord (onF m F R).2)
 | 0, _, R, _, _ => ⟨Kps.refl R, id⟩
 | m + 1, F, R, hF, h => by
  have hl := on_late now 1 F R hF h
  unfold onF at hl ⊢
  split
  ·rename_i e
   rw [if_pos e] at hl
   obtain ⟨i, r, hr, ho, hn⟩ := next_run e.1
   have hl' : ∀ x ∈ Buf.runL R (Buf.nextN R) (Flt.giveN F), okL now x := hl
   obtain ⟨a, b⟩ := on_once now m (Flt.giveS F) _ (Flt.give_inv hF) hl'
   rw [(run_next hr ho hn _).1] at a b ⊢
   have hf := ok_fat ho
   have hp := (h r (List.mem_of_getElem? hr)).2.1 hf
   exact ⟨(Kps.set (q := ⟨r.id, r.src, r.til, 2, Flt.giveN F⟩) hr ⟨rfl, rfl, fun e => absurd hp.1 e, fun e => by omega⟩).trans a, fun o => b (run_ord o hr ho _)⟩
  ·exact ⟨Kps.refl R, id⟩
section
variable {p : Pd} {ts : List Tr} {S : WS} {h k : Nat}
theorem OnI.on (b : LaI S) (hF : Flt.Inv S.F) : OnI S (onW S) := by
 obtain ⟨a, c⟩ := on_once S.now S.R.length S.F S.R hF b
 exact ⟨a, c⟩
theorem OnI.late (S : WS) : OnI S (lateW S) := by
 refine ⟨Kps.turn (fun r _ e => ?_), fun o => turn_ord o (fun r e => ?_) (fun r e g => ?_)⟩
 ·unfold Buf.isLate at e; simp at e; omega
 ·unfold Buf.isLate at e; simp at e; exact Or.inl e.1
 ·rcases g with g | g | g <;> cases g
theorem due_R (S : WS) : (dueW p ts S).R = S.R := by unfold dueW; split <;> rfl
theorem OnI.ticks (hP : PlOk p ts) : ∀ (m : Nat) {S : WS} {h k : Nat}, WI ts S h k → S.now + m ≤ 1099511627776 → LaI S → OnI S (tickW p ts m S)
 | 0, S, _, _, _, _, _ => OnI.refl S
 | m + 1, S, h, k, g, hn, b => by
  have g1 := g.tick1 hP (by omega)
  have gd := (g.late (by omega)).due hP
  have b1 : LaI (dueW p ts (lateW S)) := b.late.due
  have s1 : OnI S (tick1 p ts S) := ((OnI.late S).trans (OnI.same (due_R _))).trans (OnI.on b1 gd.f)
  exact s1.trans (OnI.ticks hP m g1 (by rw [tick1_now]; omega) (b1.on gd.f))
theorem OnI.do (hP : PlOk p ts) (g : WI ts S h k) (b : LaI S) (x a n : Int) : OnI S (doW p ts S x a n) := by
 unfold doW
 by_cases h1 : x = 1
 ·rw [if_pos h1]
  split
  ·rename_i e
   have hn : (1 ≤ n ∧ n ≤ 1000) ∧ S.now + n ≤ 1099511627776 := by
    unfold tickE at e
    split at e
    ·assumption
    ·cases e
   exact OnI.ticks hP _ g (by omega) b
  ·exact OnI.refl S
 rw [if_neg h1]
 by_cases h2 : x = 2
 ·rw [if_pos h2]; unfold makeW; split <;> exact OnI.same rfl
 rw [if_neg h2]
 by_cases h3 : x = 3
 ·rw [if_pos h3]; unfold takeW; split <;> exact OnI.same rfl
 rw [if_neg h3]
 by_cases h4 : x = 4
 ·rw [if_pos h4]; unfold putW; split <;> exact OnI.same rfl
 rw [if_neg h4]
 by_cases h5 : x = 5
 ·rw [if_pos h5]; exact OnI.same rfl
 rw [if_neg h5]
 by_cases h6 : x = 6
 ·rw [if_pos h6]; exact OnI.same rfl
 rw [if_neg h6]
 by_cases h7 : x = 7
 ·rw [if_pos h7]; unfold failW; split <;> exact OnI.same rfl
 rw [if_neg h7]
 by_cases h8 : x = 8
 ·rw [if_pos h8]; exact OnI.same rfl
 rw [if_neg h8]
 by_cases h9 : x = 9
 ·rw [if_pos h9]; unfold readyW; split
  ·exact (OnI.same (S := S) (S' := { S with F := Flt.turnS S.F n 2 }) rfl).trans (OnI.on (S := { S with F := Flt.turnS S.F n 2 }) b (g.ready n 2 (Or.inr rfl)).f)
  ·exact OnI.refl S
 rw [if_neg h9]
 by_cases h10 : x = 10
 ·rw [if_pos h10]; unfold crashW; split
  ·have b1 : LaI { S with F := Flt.crashS S.F n, R := Buf.turnL (Buf.isAt n) 5 S.R } := turn_okL b (fun r hr e => by
    unfold Buf.isAt at e
    simp at e
    exact ⟨fun e => (by cases e), fun e => (by cases e), fun e => (by cases e), fun e => (by cases e), fun _ => (b r hr).2.2.1 e.1⟩)
   have o1 : OnI S { S with F := Flt.crashS S.F n, R := Buf.turnL (Buf.isAt n) 5 S.R } := by
    refine ⟨Kps.turn (fun r _ e => ?_), fun o => turn_ord o (fun r e => ?_) (fun r e g => ?_)⟩
    ·unfold Buf.isAt at e; simp at e; omega
    ·unfold Buf.isAt at e; simp at e; exact Or.inr e.1
    ·unfold Buf.isAt at e; simp at e; exact Or.inl e.1
   exact o1.trans (OnI.on b1 (g.crash n).f)
  ·exact OnI.refl S
 rw [if_neg h10]
 by_cases h11 : x = 11
 ·rw [if_pos h11]
  unfold askW; split
  ·rename_i e
   have b1 : LaI { S with R := Buf.askL S.R S.now a n } := fun r hr => by
    have hr : r ∈ Buf.askL S.R S.now a n := hr
    unfold Buf.askL at hr
    rw [if_pos e] at hr
    rcases List.mem_append.1 hr with q | q
    ·exact b r q
    ·simp at q
     subst q
     have hn : 1 ≤ n := by
      unfold Buf.askE at e
      split at e
      ·cases e
      ·rename_i h9
       omega
     exact ⟨fun e => (by cases e), fun _ => ⟨rfl, by show S.now < S.now + n; omega⟩, fun e => (by cases e), fun e => (by cases e), fun e => (by cases e)⟩
   have o1 : OnI S { S with R := Buf.askL S.R S.now a n } := ⟨(ask_kps S.R S.now a n), fun o => (ask_ord o S.now a n).1⟩
   exact o1.trans (OnI.on b1 g.f)
  ·exact OnI.refl S
 rw [if_neg h11]
 by_cases h12 : x = 12
 ·rw [if_pos h12]; unfold doneW; split
  ·rename_i e
   have b1 : LaI { S with R := Buf.doneL S.R n, F := Flt.doneS S.F (Buf.doneN S.R n) } := done_okL b
   refine OnI.trans ⟨(done_once S.R n).1, (done_once S.R n).2⟩ (OnI.on b1 (g.done n).f)
  ·exact OnI.refl S
 rw [if_neg h12]
 by_cases h13 : x = 13
 ·rw [if_pos h13]; unfold pauseW; split <;> exact OnI.same rfl
 rw [if_neg h13]
 exact OnI.refl S
end
end Wld
namespace Wld
open Plain Pln Frm Lpp Crn Lop
set_option maxRecDepth 8000

def nv (f : Buf.Rq → Int) (R : List Buf.Rq) (id : Int) : Int := match Buf.reqAt R id with
 | none => 0
 | some r => f r
def podV (r : Buf.Rq) : Int := r.pod
def endV (r : Buf.Rq) : Int := if 3 ≤ r.fat then r.fat else 0
def mid (f : Buf.Rq → Int) (R Q : List Buf.Rq) (k : Nat) (id : Int) : Int := if id ≤ k then nv f Q id else nv f R id
theorem nv_low (f : Buf.Rq → Int) (R : List Buf.Rq) {id : Int} (h : id ≤ 0) : nv f R id = 0 := by
 unfold nv
 rw [Buf.reqAt_no (by omega)]
theorem nv_high (f : Buf.Rq → Int) (R : List Buf.Rq) {id : Int} (h : (R.length : Int) < id) : nv f R id = 0 := by
 unfold nv
 rw [Buf.reqAt_no (by omega)]
theorem nv_at (f : Buf.Rq → Int) {R : List Buf.Rq} {i : Nat} {r : Buf.Rq} (h : R[i]? = some r) : nv f R ((i : Int) + 1) = f r := by
 unfold nv
 rw [Buf.reqAt_yes h]
theorem mid_zero (f : Buf.Rq → Int) (R Q : List Buf.Rq) (id : Int) : mid f R Q 0 id = nv f R id := by
 unfold mid
 split
 ·rename_i e
  rw [nv_low f Q (by omega), nv_low f R (by omega)]
 ·rfl
theorem mid_all (f : Buf.Rq → Int) {R Q : List Buf.Rq} (h : Kps R Q) (id : Int) : mid f R Q Q.length id = nv f Q id := by
 unfold mid
 split
 ·rfl
 ·rename_i e
  have := h.1
  rw [nv_high f R (by omega), nv_high f Q (by omega)]
theorem mid_step (f : Buf.Rq → Int) {R Q : List Buf.Rq} {k : Nat} {q : Buf.Rq} (hq : Q[k]? = some q) (id : Int) : mid f R Q (k + 1) id = if id = (k : Int) + 1 then f q else mid f R Q k id := by
 unfold mid
 by_cases e : id = (k : Int) + 1
 ·rw [if_pos e, if_pos (by omega), e, nv_at f hq]
 ·rw [if_neg e]
  by_cases g : id ≤ (k : Int)
  ·rw [if_pos g, if_pos (by omega)]
  ·rw [if_neg g, if_neg (by omega)]
theorem mid_old (f : Buf.Rq → Int) (R Q : List Buf.Rq) (k : Nat) : mid f R Q k ((k : Int) + 1) = nv f R ((k : Int) + 1) := by
 unfold mid
 rw [if_neg (by omega)]
theorem pod_old {R Q : List Buf.Rq} (h : Kps R Q) {k : Nat} {q : Buf.Rq} (hq : Q[k]? = some q) : mid podV R Q k ((k : Int) + 1) = 0 ∨ mid podV R Q k ((k : Int) + 1) = q.pod := by
 rw [mid_old]
 by_cases hk : k < R.length
 ·obtain ⟨q', hq', _, _, a3, _⟩ := h.2 k _ (List.getElem?_eq_getElem hk)
  rw [hq] at hq'
  cases hq'
  rw [nv_at podV (List.getElem?_eq_getElem hk)]
  by_cases e : R[k].pod = 0
  ·exact Or.inl e
  ·exact Or.inr (a3 e).symm
 ·exact Or.inl (nv_high _ _ (by omega))
theorem end_old {R Q : List Buf.Rq} (h : Kps R Q) {k : Nat} {q : Buf.Rq} (hq : Q[k]? = some q) : mid endV R Q k ((k : Int) + 1) = 0 ∨ (3 ≤ q.fat ∧ mid endV R Q k ((k : Int) + 1) = q.fat) := by
 rw [mid_old]
 by_cases hk : k < R.length
 ·obtain ⟨q', hq', _, _, _, a4⟩ := h.2 k _ (List.getElem?_eq_getElem hk)
  rw [hq] at hq'
  cases hq'
  rw [nv_at endV (List.getElem?_eq_getElem hk)]
  unfold endV
  split
  ·rename_i e
   have := a4 e
   exact Or.inr ⟨by omega, this.symm⟩
  ·exact Or.inl rfl
 ·exact Or.inl (nv_high _ _ (by omega))
theorem pod_none {R Q : List Buf.Rq} (h : Kps R Q) {k : Nat} {q : Buf.Rq} (hq : Q[k]? = some q) (h0 : q.pod = 0) (id : Int) : mid podV R Q (k + 1) id = mid podV R Q k id := by
 rw [mid_step podV hq]
 split
 ·rename_i e
  rw [e]
  rcases pod_old h hq with g | g
  ·rw [g]; exact h0
  ·rw [g]; rfl
 ·rfl
theorem end_none {R Q : List Buf.Rq} (h : Kps R Q) {k : Nat} {q : Buf.Rq} (hq : Q[k]? = some q) (h0 : ¬ 3 ≤ q.fat) (id : Int) : mid endV R Q (k + 1) id = mid endV R Q k id := by
 rw [mid_step endV hq]
 split
 ·rename_i e
  rw [e]
  rcases end_old h hq with g | g
  ·rw [g]; unfold endV; rw [if_neg h0]
  ·exact absurd g.1 h0
 ·rfl
end Wld
namespace Wld
open Plain Pln Frm Lpp Crn Lop
set_option maxRecDepth 8000

def PoB (R : List Buf.Rq) : Prop := ∀ r ∈ R, 0 ≤ r.pod ∧ r.pod ≤ 4000000
theorem give_bd {F : Flt.FS} (hF : Flt.Inv F) (hl : F.last ≤ 4000000) (h : Flt.giveE F = 0) : 0 ≤ Flt.giveN F ∧ Flt.giveN F ≤ 4000000 := by
 cases hp : Flt.pick (Flt.room F.most) Flt.given F.L 0 none with
 | none => rw [(Flt.give_none hp).2.2] at h; cases h
 | some x =>
  obtain ⟨i, q⟩ := x
  rw [(Flt.give_some hp).2.1]
  obtain ⟨_, h2, _⟩ := Flt.pick_mem hp
  have := hF.at h2
  exact ⟨Int.le_trans (by decide) this.1, Int.le_trans this.2.1 hl⟩
theorem give_last (F : Flt.FS) : (Flt.giveS F).last = F.last := by
 unfold Flt.giveS
 split <;> rfl
theorem on_pods : ∀ (m : Nat) (F : Flt.FS) (R : List Buf.Rq), Flt.Inv F → F.last ≤ 4000000 → PoB R → PoB (onF m F R).2
 | 0, _, _, _, _, h => h
 | m + 1, F, R, hF, hl, h => by
  unfold onF
  split
  ·rename_i e
   refine on_pods m _ _ (Flt.give_inv hF) (by rw [give_last]; exact hl) (fun x hx => ?_)
   obtain ⟨i, r, hr, ho, hn⟩ := next_run e.1
   rw [(run_next hr ho hn _).1] at hx
   rcases set_mem hx with rfl | hx
   ·exact give_bd hF hl e.2
   ·exact h x hx
  ·exact h
theorem turn_pods {R : List Buf.Rq} {f : Int} {q : Buf.Rq → Bool} (h : PoB R) : PoB (Buf.turnL q f R) := by
 intro x hx
 unfold Buf.turnL at hx
 obtain ⟨r, hr, rfl⟩ := List.mem_map.1 hx
 unfold Buf.turnF
 split
 ·exact h r hr
 ·exact h r hr
section
variable {p : Pd} {ts : List Tr} {S : WS} {h k : Nat}
theorem due_rows (S : WS) : (dueW p ts S).R = S.R := by unfold dueW; split <;> rfl
theorem pods_ticks (hP : PlOk p ts) : ∀ (m : Nat) {S : WS} {h k : Nat}, WI ts S h k → S.now + m ≤ 1099511627776 → k + m ≤ 80000 → PoB S.R → PoB (tickW p ts m S).R
 | 0, _, _, _, _, _, _, b => b
 | m + 1, S, h, k, g, hn, hk, b => by
  have g1 := g.tick1 hP (by omega)
  refine pods_ticks hP m g1 (by rw [tick1_now]; omega) (by omega) ?_
  have g2 := (g.late (by omega)).due hP
  have hb := g2.fb
  refine on_pods _ _ _ g2.f (by omega) ?_
  rw [due_rows]
  exact turn_pods b
theorem pods_on (b : PoB S.R) (g : WI ts S h k) (hk : k ≤ 80000) : PoB (onW S).R := on_pods _ _ _ g.f (by have := g.fb; omega) b
theorem pods_do (hP : PlOk p ts) (g : WI ts S h k) (hk : k ≤ 70000) (b : PoB S.R) (x a n : Int) : PoB (doW p ts S x a n).R := by
 unfold doW
 by_cases h1 : x = 1
 ·rw [if_pos h1]
  split
  ·rename_i e
   have hn : (1 ≤ n ∧ n ≤ 1000) ∧ S.now + n ≤ 1099511627776 := by
    unfold tickE at e
    split at e
    ·assumption
    ·cases e
   exact pods_ticks hP _ g (by omega) (by omega) b
  ·exact b
 rw [if_neg h1]
 by_cases h2 : x = 2
 ·rw [if_pos h2]; unfold makeW; split <;> exact b
 rw [if_neg h2]
 by_cases h3 : x = 3
 ·rw [if_pos h3]; unfold takeW; split <;> exact b
 rw [if_neg h3]
 by_cases h4 : x = 4
 ·rw [if_pos h4]; unfold putW; split <;> exact b
 rw [if_neg h4]
 by_cases h5 : x = 5
 ·rw [if_pos h5]; exact b
 rw [if_neg h5]
 by_cases h6 : x = 6
 ·rw [if_pos h6]; exact b
 rw [if_neg h6]
 by_cases h7 : x = 7
 ·rw [if_pos h7]; unfold failW; split <;> exact b
 rw [if_neg h7]
 by_cases h8 : x = 8
 ·rw [if_pos h8]; exact b
 rw [if_neg h8]
 by_cases h9 : x = 9
 ·rw [if_pos h9]; unfold readyW; split
  ·exact pods_on (S := { S with F := Flt.turnS S.F n 2 }) b (g.ready n 2 (Or.inr rfl)) (by omega)
  ·exact b
 rw [if_neg h9]
 by_cases h10 : x = 10
 ·rw [if_pos h10]; unfold crashW; split
  ·have g1 := g.crash n
   exact on_pods _ _ _ g1.f (by have := g1.fb; omega) (turn_pods b)
  ·exact b
 rw [if_neg h10]
 by_cases h11 : x = 11
 ·rw [if_pos h11]; unfold askW; split
  ·rename_i e
   refine on_pods _ S.F _ g.f (by have := g.fb; omega) (fun r hr => ?_)
   have hr : r ∈ Buf.askL S.R S.now a n := hr
   unfold Buf.askL at hr
   rw [if_pos e] at hr
   rcases List.mem_append.1 hr with q | q
   ·exact b r q
   ·simp at q
    subst q
    exact ⟨Int.le_refl _, show (0 : Int) ≤ 4000000 by decide⟩
  ·exact b
 rw [if_neg h11]
 by_cases h12 : x = 12
 ·rw [if_pos h12]; unfold doneW; split
  ·have g1 := g.done n
   refine on_pods _ _ _ g1.f (by have := g1.fb; omega) (fun r hr => ?_)
   have hr : r ∈ Buf.doneL S.R n := hr
   unfold Buf.doneL at hr
   split at hr
   ·exact b r hr
   ·rename_i q eq
    split at hr
    ·rcases set_mem hr with rfl | hr
     ·have hm : q ∈ S.R := by
       unfold Buf.reqAt at eq
       split at eq
       ·exact List.mem_of_getElem? eq
       ·cases eq
      exact b q hm
     ·exact b r hr
    ·exact b r hr
  ·exact b
 rw [if_neg h12]
 by_cases h13 : x = 13
 ·rw [if_pos h13]; unfold pauseW; split <;> exact b
 rw [if_neg h13]
 exact b
theorem pods_play (hP : PlOk p ts) (g : WI ts S 0 0) (b : PoB S.R) (X : Nat → Nat → Int) : ∀ j, j ≤ 70 → PoB (playW p ts X S j).R
 | 0, _ => b
 | j + 1, hj => pods_do hP (WI.play hP g X j) (by omega) (pods_play hP g b X j (by omega)) _ _ _
end
end Wld
namespace Wld
open Go.RowKit Plain Pln Frm Lpp Crn Lop
set_option maxRecDepth 8000

theorem r0_chk : chkP Lop.p0 [Lop.t0] = 0 := by kernel_rfl
theorem r0_I : PdI Lop.p0 := by constructor <;> simp [I, Lop.p0]
theorem r0_ok : PlOk (noN Lop.p0) [Lop.t0] := ok_noN (plOk_of r0_chk)
theorem r0_k : Us Lop.k0 := by constructor <;> simp [U, Lop.k0]
theorem r0_U : ∀ t ∈ [Lop.t0], TrU t := by
 intro t ht
 simp at ht
 subst ht
 exact ⟨by simp [I, Lop.t0], by simp [I, Lop.t0], by simp [I, Lop.t0], r0_k, r0_k⟩
theorem some_any (w : World) : Calls Tryz.prog 72 #[] w fun e w' => ∃ b, e = .returned (planV Lop.p0 (.slice (some ⟨b, 0, none⟩) 1 1)) ∧ TrsAt w' (some ⟨b, 0, none⟩) [Lop.t0] ∧ w.heap.size ≤ b ∧ Below w.heap.size w w' := by
 have hX := px_new w 32
 have hb2 : ∀ o : Obj, Below (w.alloc (.cells #[.string ⟨#[]⟩, .int .i64 0, .int .i64 0, .int .i64 0, .int .i64 0, .int .i64 0, .int .i64 0, .int .i64 0, .int .i64 0, .int .i64 0, .int .i64 0, .int .i64 0, .int .i64 0, .int .i64 0, .int .i64 0, .int .i64 0, .int .i64 0, .slice none 0 0] 32)).heap.size (w.alloc (.cells #[.string ⟨#[]⟩, .int .i64 0, .int .i64 0, .int .i64 0, .int .i64 0, .int .i64 0, .int .i64 0, .int .i64 0, .int .i64 0, .int .i64 0, .int .i64 0, .int .i64 0, .int .i64 0, .int .i64 0, .int .i64 0, .int .i64 0, .int .i64 0, .slice none 0 0] 32)) ((w.alloc (.cells #[.string ⟨#[]⟩, .int .i64 0, .int .i64 0, .int .i64 0, .int .i64 0, .int .i64 0, .int .i64 0, .int .i64 0, .int .i64 0, .int .i64 0, .int .i64 0, .int .i64 0, .int .i64 0, .int .i64 0, .int .i64 0, .int .i64 0, .int .i64 0, .slice none 0 0] 32)).alloc o) := fun o => (Below.refl _ _).alloc (Nat.le_refl _) o
 have hX2 := fun o => hX.below (hb2 o) (by simp)
 go_enter Tryz.func72, Tryz.ntmps72
 go_wp2_with (with_reducible refine wp_setPx (hX2 _) (p' := Lop.p0) (v' := .slice (some ⟨w.heap.size + 1, 0, none⟩) 1 1) rfl (by with_unfolding_all rfl) (by with_unfolding_all rfl) ?_; intro w9 hX9 ho9)
 refine finPx Tryz.results72 (Or.inl rfl) rfl rfl hX9 ⟨w.heap.size + 1, rfl, ?_, Nat.le_succ _, ?_⟩
 ·refine trs_one (Nat.lt_of_lt_of_le (by simp) ho9.size) (fun j => ?_)
  rw [ho9.cell (a := ⟨w.heap.size + 1, j, none⟩) (by simp) (by simp)]
  simp
  rfl
 ·exact (((Below.refl _ _).alloc (Nat.le_refl _) _).alloc (by simp) _).trans (ho9.below (Nat.le_refl _) (by simp; omega))
theorem tickf_any (n : Int) (w : World) : Calls Tryz.prog 73 #[.int .i64 n] w fun e w' => e = .returned (.agg #[.int .i64 1, .int .i64 0, .int .i64 n]) ∧ Below w.heap.size w w' := by
 go_enter Tryz.func73, Tryz.ntmps73
 go_wp2
 (try simp only [Exit.inBlock, Exit.then])
 refine bodyPost_ret (v := .agg #[.int .i64 1, .int .i64 0, .int .i64 n]) ?_ rfl ⟨rfl, (Below.refl _ _).alloc (Nat.le_refl _) _⟩
 simp [results, Tryz.results73, go_sem]
noncomputable def s0 : WS := newW (noN Lop.p0) [Lop.t0] 1 2 0
noncomputable def s1 : WS := doW (noN Lop.p0) [Lop.t0] s0 4 0 25
noncomputable def s2 : WS := doW (noN Lop.p0) [Lop.t0] s1 1 0 1
noncomputable def sK (k : Nat) : WS := { s2 with qL := (Que.news 0 25).drop k }
noncomputable def sE : WS := doW (noN Lop.p0) [Lop.t0] (sK 25) 1 0 9
theorem s1_def : doW (noN Lop.p0) [Lop.t0] s0 4 0 25 = s1 := by unfold s1; rfl
theorem s2_def : doW (noN Lop.p0) [Lop.t0] s1 1 0 1 = s2 := by unfold s2; rfl
theorem sE_def : doW (noN Lop.p0) [Lop.t0] (sK 25) 1 0 9 = sE := by unfold sE; rfl
theorem s_E1 : doE s0 4 0 25 = 0 := by kernel_rfl
theorem s_E2 : doE s1 1 0 1 = 0 := by kernel_rfl
theorem s_tg : s2.tg = 3 := by kernel_rfl
theorem s_len : s2.F.L.length = 3 := by kernel_rfl
theorem s_q : s2.qL = Que.news 0 25 := by kernel_rfl
theorem s_zero : sK 0 = s2 := by
 have e : (Que.news 0 25).drop 0 = s2.qL := by rw [s_q]; rfl
 unfold sK
 rw [e]
theorem sE_tg : sE.tg = 0 := by kernel_rfl
theorem sE_len : sE.F.L.length = 0 := by kernel_rfl
theorem s_I0 : WI [Lop.t0] s0 0 0 := WI.new _ _ _ _ _ (by omega) (by omega)
theorem s_I1 : WI [Lop.t0] s1 1 1000 := by rw [← s1_def]; exact s_I0.do r0_ok 4 0 25
theorem s_I2 : WI [Lop.t0] s2 2 2000 := by rw [← s2_def]; exact s_I1.do r0_ok 1 0 1
theorem back_free {L : List Que.M} (now : Int) (h : ∀ x ∈ L, x.tk = false) : Que.backL now L = L := by
 unfold Que.backL
 conv => rhs; rw [← List.map_id L]
 refine List.map_congr_left (fun x hx => ?_)
 unfold Que.back
 rw [if_neg (by rw [h x hx]; simp)]
 rfl
theorem lease_first {m : Que.M} {L : List Que.M} {now n : Int} (h : ∀ x ∈ m :: L, x.tk = false) (hn : 1 ≤ n ∧ n ≤ 100000) : leaseE (m :: L) now n = 0 ∧ leaseL (m :: L) now n = ⟨m.id, now + n, true⟩ :: L := by
 have hf : (m :: L).findIdx? Que.free = some 0 := by rw [List.findIdx?_cons]; simp [Que.free, h m (by simp)]
 unfold leaseE leaseL
 rw [if_neg (by simpa using hn), if_neg (by simpa using hn), back_free now h, hf]
 simp
theorem ack_first {id : Int} {L : List Que.M} {now n : Int} (h : ∀ x ∈ L, x.tk = false) (hn : 1 ≤ n) : ackE (⟨id, now + n, true⟩ :: L) now id = 0 ∧ ackL (⟨id, now + n, true⟩ :: L) now id = L := by
 have hb : Que.backL now (⟨id, now + n, true⟩ :: L) = ⟨id, now + n, true⟩ :: L := by
  have := back_free now h
  unfold Que.backL at *
  rw [List.map_cons, this]
  unfold Que.back
  rw [if_neg (by simp; omega)]
 have hf : (⟨id, now + n, true⟩ :: L : List Que.M).findIdx? (Que.isId id) = some 0 := by rw [List.findIdx?_cons]; simp [Que.isId]
 unfold ackE ackL
 rw [hb, hf]
 simp
theorem news_free {x : Que.M} (h : x ∈ Que.news 0 25) : x.tk = false := by
 unfold Que.news at h
 simp at h
 obtain ⟨_, _, rfl⟩ := h
 rfl
theorem news_at {k : Nat} (hk : k < 25) : (Que.news 0 25).drop k = ⟨(k : Int) + 1, 0, false⟩ :: (Que.news 0 25).drop (k + 1) := by
 have hl : (Que.news 0 25).length = 25 := Que.news_len 0 25
 rw [List.drop_eq_getElem_cons (by omega)]
 congr 1
 unfold Que.news
 simp
 omega
theorem round_any {k : Nat} (hk : k < 25) : doE (sK k) 5 0 5 = 0 ∧ doE (doW (noN Lop.p0) [Lop.t0] (sK k) 5 0 5) 6 0 ((k : Int) + 1) = 0 ∧ doW (noN Lop.p0) [Lop.t0] (doW (noN Lop.p0) [Lop.t0] (sK k) 5 0 5) 6 0 ((k : Int) + 1) = sK (k + 1) := by
 have e0 := news_at hk
 have hf : ∀ x ∈ (⟨(k : Int) + 1, 0, false⟩ : Que.M) :: (Que.news 0 25).drop (k + 1), x.tk = false := fun x hx => by
  rw [← e0] at hx
  exact news_free (List.mem_of_mem_drop hx)
 obtain ⟨a1, a2⟩ := lease_first (now := s2.now) (n := 5) hf (by omega)
 obtain ⟨b1, b2⟩ := ack_first (id := (k : Int) + 1) (now := s2.now) (n := 5) (fun x hx => hf x (List.mem_cons_of_mem _ hx)) (by omega)
 have c1 : doE (sK k) 5 0 5 = leaseE ((Que.news 0 25).drop k) s2.now 5 := rfl
 have c2 : doW (noN Lop.p0) [Lop.t0] (sK k) 5 0 5 = { s2 with qL := leaseL ((Que.news 0 25).drop k) s2.now 5 } := rfl
 rw [c1, c2, e0, a1, a2]
 refine ⟨rfl, ?_, ?_⟩
 ·show ackE (⟨(k : Int) + 1, s2.now + 5, true⟩ :: (Que.news 0 25).drop (k + 1)) s2.now ((k : Int) + 1) = 0
  exact b1
 ·show ({ s2 with qL := ackL (⟨(k : Int) + 1, s2.now + 5, true⟩ :: (Que.news 0 25).drop (k + 1)) s2.now ((k : Int) + 1) } : WS) = sK (k + 1)
  rw [b2]
  rfl
theorem newr (b : Nat) (w : World) (hB : Lai.BdsAt w) (hT : TrsAt w (some ⟨b, 0, none⟩) [Lop.t0]) : Calls Tryz.prog 15 #[planV Lop.p0 (.slice (some ⟨b, 0, none⟩) 1 1), .int .i64 1, .int .i64 2, .int .i64 0] w (NewWA Lop.p0 [Lop.t0] 1 2 0 w) :=
 new_yes Lop.p0 (some ⟨b, 0, none⟩) 1 [Lop.t0] 1 2 0 w hB r0_I (by simp [Lop.p0]) hT r0_chk (by omega) (by omega)
theorem doS {w0 : World} (B : Nat) (c : Pc) (S : WS) (h k : Nat) (x a n E : Int) (w : World) (hA : WAt w B c (noN Lop.p0) [Lop.t0] S) (hI : WI [Lop.t0] S h k) (hh : h ≤ 1000) (hk : k ≤ 100000) (hE : doE S x a n = E) (hB : w0.heap.size ≤ B) (hb : Below w0.heap.size w0 w) :
  Calls Tryz.prog 18 #[.pointer (some ⟨c.x.D, 0, none⟩), .agg #[.int .i64 x, .int .i64 a, .int .i64 n]] w fun e w' => e = .returned (.int .i64 E) ∧ ∃ c', WAt w' B c' (noN Lop.p0) [Lop.t0] (doW (noN Lop.p0) [Lop.t0] S x a n) ∧ c'.x.D = c.x.D ∧ Below w0.heap.size w0 w' := by
 refine (do_any B c (noN Lop.p0) [Lop.t0] S h k x a n w hA hI hh hk r0_ok r0_U).mono ?_
 rintro e w' ⟨rfl, c', a', d', m'⟩
 exact ⟨by rw [hE], c', a', d', hb.trans (m'.below (fun k hk => Nat.le_trans hB (hA.low hk).1) hb.size)⟩
def SdR (w : World) (B D : Nat) (i : Value) (wr : World) : Prop := ∃ (k : Nat) (c1 : Pc), k ≤ 25 ∧ i = .int .i64 ((k : Int) + 1) ∧ WAt wr B c1 (noN Lop.p0) [Lop.t0] (sK k) ∧ WI [Lop.t0] (sK k) (2 + 2 * k) (1000 * (2 + 2 * k)) ∧ c1.x.D = D ∧ Below w.heap.size w wr
set_option maxHeartbeats 8000000 in
theorem said_any (w : World) (hB : Lai.BdsAt w) : Calls Tryz.prog 32 #[] w fun e w' => e = .returned (.bool true) ∧ Below w.heap.size w w' := by
 have cS := some_any w
 have HB : Hid (Lai.BdsAt w) := hB
 clear hB
 go_enter Tryz.func32, Tryz.ntmps32
 go_wp2_with (first
  | (go_at_call 72; (with_reducible refine cS.mono ?_); rintro e w1 ⟨b, rfl, hT1, hb, hb1⟩; clear cS)
  | (go_at_call 15; have cN := newr b w1 (HB.out.below hb1 (Nat.le_refl _)) hT1; (with_reducible refine cN.mono ?_); rintro e w2 ⟨c, rfl, hA2, hb2⟩; clear cN; have HX2 : Hid (WAt w2 w1.heap.size c (noN Lop.p0) [Lop.t0] s0 ∧ w.heap.size ≤ w1.heap.size ∧ Below w.heap.size w w2) := ⟨hA2, hb1.size, hb1.trans (hb2.mono hb1.size)⟩; clear hA2 hb2 hT1; generalize hD : c.x.D = D at *)
  | (go_at_call 18; have cD := doS (w0 := w) w1.heap.size c3 s1 1 1000 1 0 1 0 w4 HX4.out.1 s_I1 (by omega) (by omega) s_E2 HX2.out.2.1 HX4.out.2; rw [hD3, s2_def] at cD; (with_reducible refine cD.mono ?_); rintro e w5 ⟨rfl, c5, a5, d5, b5⟩; clear cD; have HX5 : Hid (WAt w5 w1.heap.size c5 (noN Lop.p0) [Lop.t0] s2 ∧ Below w.heap.size w w5) := ⟨a5, b5⟩; have hD5 : c5.x.D = D := d5; clear a5 d5 b5)
  | (go_at_call 18; have cD := doS (w0 := w) w1.heap.size c s0 0 0 4 0 25 0 w2 HX2.out.1 s_I0 (by omega) (by omega) s_E1 HX2.out.2.1 HX2.out.2.2; rw [hD, s1_def] at cD; (with_reducible refine cD.mono ?_); rintro e w3 ⟨rfl, c3, a3, d3, b3⟩; clear cD; have HX3 : Hid (WAt w3 w1.heap.size c3 (noN Lop.p0) [Lop.t0] s1 ∧ Below w.heap.size w w3) := ⟨a3, b3⟩; have hD3 : c3.x.D = D := d3; clear a3 d3 b3)
  | (go_at_call 73; have cT := tickf_any 1 w3; (with_reducible refine cT.mono ?_); rintro e w4 ⟨rfl, hb4⟩; clear cT; have HX4 : Hid (WAt w4 w1.heap.size c3 (noN Lop.p0) [Lop.t0] s1 ∧ Below w.heap.size w w4) := ⟨HX3.out.1.below hb4, HX3.out.2.trans (hb4.mono HX3.out.2.size)⟩; clear hb4)
  | (go_at_call 27; have cX := target_any w1.heap.size c5 (noN Lop.p0) [Lop.t0] s2 w5 HX5.out.1; rw [hD5, s_tg] at cX; (with_reducible refine cX.mono ?_); rintro e w' ⟨rfl, h9⟩; have h8 := h9.symm; clear h9; subst h8; clear cX)
  | (go_at_call 20; have cX := pods_any w1.heap.size c5 (noN Lop.p0) [Lop.t0] s2 w5 HX5.out.1 (by rw [s_len]; omega); rw [hD5, s_len] at cX; (with_reducible refine cX.mono ?_); rintro e w6 ⟨rfl, hR6, hb6⟩; clear cX; have HX6 : Hid (WAt w6 w1.heap.size c5 (noN Lop.p0) [Lop.t0] s2 ∧ Below w.heap.size w w6) := ⟨HX5.out.1.below hb6, HX5.out.2.trans (hb6.mono HX5.out.2.size)⟩; clear hR6 hb6))
 have HL : Hid (w.heap.size ≤ w1.heap.size) := HX2.out.2.1
 clear hb1 hD hD3
 go_loopw [3] (fun i wr => SdR w w1.heap.size D i wr) (fun i _ => 26 - (intOf i).toNat)
 case atStart => exact ⟨0, c5, by omega, rfl, by rw [s_zero]; exact HX6.out.1, by rw [s_zero]; exact s_I2, hD5, HX6.out.2⟩
 case round =>
  clear hD5 HX6 HX5 HX4 HX3 HX2
  obtain ⟨k, c1, hk, rfl, hA, hI, hD1, hbr⟩ := hrel
  by_cases hlt : k < 25
  ·have hlt' : (k : Int) + 1 ≤ 25 := by omega
   obtain ⟨r1, r2, r3⟩ := round_any hlt
   have hI2 := hI.do r0_ok 5 0 5
   have hI3 := hI2.do r0_ok 6 0 ((k : Int) + 1)
   rw [r3] at hI3
   have HX1 : Hid (WAt wr w1.heap.size c1 (noN Lop.p0) [Lop.t0] (sK k) ∧ Below w.heap.size w wr) := ⟨hA, hbr⟩
   have HI1 : Hid (WI [Lop.t0] (sK k) (2 + 2 * k) (1000 * (2 + 2 * k))) := hI
   have HI2 : Hid (WI [Lop.t0] (doW (noN Lop.p0) [Lop.t0] (sK k) 5 0 5) (2 + 2 * k + 1) (1000 * (2 + 2 * k) + 1000)) := hI2
   have HI3 : Hid (WI [Lop.t0] (sK (k + 1)) (2 + 2 * (k + 1)) (1000 * (2 + 2 * (k + 1)))) := hI3.mono (by omega) (by omega)
   have HR : Hid (doE (sK k) 5 0 5 = 0 ∧ doE (doW (noN Lop.p0) [Lop.t0] (sK k) 5 0 5) 6 0 ((k : Int) + 1) = 0 ∧ doW (noN Lop.p0) [Lop.t0] (doW (noN Lop.p0) [Lop.t0] (sK k) 5 0 5) 6 0 ((k : Int) + 1) = sK (k + 1)) := ⟨r1, r2, r3⟩
   clear hA hI hbr hI2 hI3 r1 r2 r3
   go_wp2_with (first
    | (go_at_call 18; have cD := doS (w0 := w) w1.heap.size c3 (doW (noN Lop.p0) [Lop.t0] (sK k) 5 0 5) (2 + 2 * k + 1) (1000 * (2 + 2 * k) + 1000) 6 0 ((k : Int) + 1) 0 w3 HX3.out.1 HI2.out (by omega) (by omega) HR.out.2.1 HL.out HX3.out.2; rw [hD3, HR.out.2.2] at cD; (with_reducible refine cD.mono ?_); rintro e w5 ⟨rfl, c5, a5, d5, b5⟩; clear cD; have HX5 : Hid (WAt w5 w1.heap.size c5 (noN Lop.p0) [Lop.t0] (sK (k + 1)) ∧ c5.x.D = D ∧ Below w.heap.size w w5) := ⟨a5, d5, b5⟩; clear a5 d5 b5)
    | (go_at_call 18; have cD := doS (w0 := w) w1.heap.size c1 (sK k) (2 + 2 * k) (1000 * (2 + 2 * k)) 5 0 5 0 wr HX1.out.1 HI1.out (by omega) (by omega) HR.out.1 HL.out HX1.out.2; rw [hD1] at cD; (with_reducible refine cD.mono ?_); rintro e w3 ⟨rfl, c3, a3, d3, b3⟩; clear cD; have HX3 : Hid (WAt w3 w1.heap.size c3 (noN Lop.p0) [Lop.t0] (doW (noN Lop.p0) [Lop.t0] (sK k) 5 0 5) ∧ Below w.heap.size w w3) := ⟨a3, b3⟩; have hD3 : c3.x.D = D := d3; clear a3 d3 b3))
   go_roundw
   case rel => exact ⟨k + 1, c5, hlt, by simp, HX5.out.1, HI3.out, HX5.out.2.1, HX5.out.2.2⟩
   case measure => simp [intOf]; omega
  ·obtain rfl : k = 25 := by omega
   have HX1 : Hid (WAt wr w1.heap.size c1 (noN Lop.p0) [Lop.t0] (sK 25) ∧ Below w.heap.size w wr) := ⟨hA, hbr⟩
   have HI1 : Hid (WI [Lop.t0] (sK 25) 52 52000) := hI
   clear hA hI hbr
   go_wp2_with (first
    | (go_at_call 73; have cT := tickf_any 9 wr; (with_reducible refine cT.mono ?_); rintro e w4 ⟨rfl, hb4⟩; clear cT; have HX4 : Hid (WAt w4 w1.heap.size c1 (noN Lop.p0) [Lop.t0] (sK 25) ∧ Below w.heap.size w w4) := ⟨HX1.out.1.below hb4, HX1.out.2.trans (hb4.mono HX1.out.2.size)⟩; clear hb4)
    | (go_at_call 18; have cD := doS (w0 := w) w1.heap.size c1 (sK 25) 52 52000 1 0 9 _ w4 HX4.out.1 HI1.out (by omega) (by omega) rfl HL.out HX4.out.2; rw [hD1, sE_def] at cD; (with_reducible refine cD.mono ?_); rintro e w5 ⟨rfl, c5, a5, d5, b5⟩; clear cD; have HX5 : Hid (WAt w5 w1.heap.size c5 (noN Lop.p0) [Lop.t0] sE ∧ Below w.heap.size w w5) := ⟨a5, b5⟩; have hD5 : c5.x.D = D := d5; clear a5 d5 b5)
    | (go_at_call 27; have cX := target_any w1.heap.size c5 (noN Lop.p0) [Lop.t0] sE w5 HX5.out.1; rw [hD5, sE_tg] at cX; (with_reducible refine cX.mono ?_); rintro e w' ⟨rfl, h9⟩; have h8 := h9.symm; clear h9; subst h8; clear cX)
    | (go_at_call 20; have cX := pods_any w1.heap.size c5 (noN Lop.p0) [Lop.t0] sE w5 HX5.out.1 (by rw [sE_len]; omega); rw [hD5, sE_len] at cX; (with_reducible refine cX.mono ?_); rintro e w6 ⟨rfl, hR6, hb6⟩; clear cX))
   go_ret
   exact ⟨rfl, HX5.out.2.trans (hb6.mono HX5.out.2.size)⟩
end Wld
end Go.Proofs.YtkmdndhjobckiaiGreatDoor
