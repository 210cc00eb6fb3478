
/- What the document's fleet (tideref.Crew) answers: Count, find, out, Turn, Crash, Done. -/
import Derived.Test.YtomdimljcbnnnacFltScale
import Derived.OwnWalk
import Derived.Deep.Onto
import Derived.BigQuiet
namespace Go.Proofs.Ytomdimljcbnnnac
namespace Flt
open Go.RowKit Rw Rec
set_option maxRecDepth 8000

/-- the document's fleet as it lies -/
def DAt (w : World) (B Q : Nat) (v : Value) (F : FS) : Prop := RAt pK w 50 B Q 0 [v, .int .i64 F.last, .int .i64 F.most] v F.L
section
variable {w w' : World} {B Q : Nat} {v v' : Value} {F : FS}
theorem DAt.lt (h : DAt w B Q v F) : Q < w.heap.size := RAt.lt h
theorem DAt.ne (h : DAt w B Q v F) : v.ownBlock ≠ some Q := RAt.ne h
theorem DAt.cM (h : DAt w B Q v F) : w.cell? ⟨Q, 2, none⟩ = some (.int .i64 F.most) := RAt.cQ h 2 _ rfl
theorem DAt.cN (h : DAt w B Q v F) : w.cell? ⟨Q, 1, none⟩ = some (.int .i64 F.last) := RAt.cQ h 1 _ rfl
theorem DAt.cV (h : DAt w B Q v F) : w.cell? ⟨Q, 0, none⟩ = some v := RAt.cQ h 0 _ rfl
theorem DAt.fz (h : DAt w B Q v F) : ∀ j, w.frozen? ⟨Q, j, none⟩ = false := RAt.fz h
theorem DAt.rowLt (h : DAt w B Q v F) : ∀ g, v.ownBlock = some g → g < w.heap.size := RAt.rowLt h
theorem DAt.below (h : DAt w B Q v F) (hb : Below w.heap.size w w') : DAt w' B Q v F := RAt.below h hb
theorem DAt.alloc (h : DAt w B Q v F) (o : Obj) : DAt (w.alloc o) B Q v F := RAt.alloc h o
theorem DAt.drew (h : DAt w B Q v F) : DAt w.drew B Q v F := RAt.drew h
theorem DAt.form (h : DAt w B Q v F) : ∃ ao cap, v = .slice ao F.L.length cap ∧ F.L.length ≤ cap ∧ cap ≤ maxLen ∧ (0 < F.L.length → ∃ g, ao = some ⟨g, 0, none⟩) := RAt.form h
theorem DAt.pod {g n cap i : Nat} {m : Pd} (h : DAt w B Q (.slice (some ⟨g, 0, none⟩) n cap) F) (hn : n = F.L.length) (hm : F.L[i]? = some m) :
    w.cell? ⟨g, i * 3, none⟩ = some (.int .i64 m.id) ∧ w.cell? ⟨g, i * 3 + 1, none⟩ = some (.int .i64 m.st) ∧ w.cell? ⟨g, i * 3 + 2, none⟩ = some (.int .i64 m.ld) ∧ ∀ j, w.frozen? ⟨g, j, none⟩ = false :=
  ⟨RAt.cells h hn hm 0 _ rfl, RAt.cells h hn hm 1 _ rfl, RAt.cells h hn hm 2 _ rfl, RAt.fzG h hn⟩
theorem DAt.row {ao : Option Addr} {cap : Nat} (h : DAt w B Q (.slice ao F.L.length cap) F) : RowAt pK w ao F.L := RAt.row h
theorem DAt.gQ {g n cap : Nat} (h : DAt w B Q (.slice (some ⟨g, 0, none⟩) n cap) F) : g ≠ Q := fun e => h.ne (by rw [e]; rfl)
theorem DAt.setN (h : DAt w B Q v F) (x : Int) : DAt (w.setCell ⟨Q, 1, none⟩ (.int .i64 x)) B Q v ⟨F.most, x, F.L⟩ := RAt.setN h 1 _ (by decide)
theorem DAt.regrown {L' : List Pd} (h : DAt w B Q v F) (hQ : w'.heap[Q]? = w.heap[Q]?) (hown : w'.ownsRow B 50 3 v' L'.length (cels pK.c L')) (hv : v'.ownBlock ≠ some Q) : DAt (w'.setCell ⟨Q, 0, none⟩ v') B Q v' ⟨F.most, F.last, L'⟩ := RAt.regrown h hQ hown hv
end
/-- what a call does to the document's fleet -/
def Doth (f : Nat) (args : Nat → Array Value) (F F' : FS) (e : Ending) : Prop :=
  ∀ (B Q : Nat) (v : Value) (w : World), DAt w B Q v F → Calls Try.prog f (args Q) w fun e' w' => e' = e ∧ ∃ v', DAt w' B Q v' F' ∧ Turn Q v v' w w'

set_option maxHeartbeats 2000000 in
theorem ccount_any (B Q : Nat) (v : Value) (F : FS) (w : World) (hA : DAt w B Q v F) (hL : F.L.length ≤ 1000000000) :
    Calls Try.prog 24 #[.pointer (some ⟨Q, 0, none⟩)] w fun e w' => e = .returned (.int .i64 (cnt F.L : Int)) ∧ Below w.heap.size w w' := by
  obtain ⟨ao, cap, rfl, hc1, hc2, hao⟩ := hA.form
  have cV := hA.cV
  have hQl := hA.lt
  have hR := hA.row
  generalize F.L = L at *
  clear hA
  go_enter Try.func24, Try.ntmps24
  go_wp2
  go_loopw [3, 4] (fun d i wr => CnR L w d i wr) (fun _ i _ => L.length - (intOf i).toNat)
  case atStart => exact ⟨0, by omega, rfl, by simp [cnt], Below.refl _ _⟩
  case round =>
    obtain ⟨k, hk, rfl, rfl, hb⟩ := hrel
    have cVr := (hb.cell (p := ⟨Q, 0, none⟩) hQl).trans cV
    by_cases hlt : k < L.length
    · have hlt' : (k : Int) < (L.length : Int) := by omega
      obtain ⟨g, rfl, hg, hc⟩ := row_pod (hR.below hb) (by omega)
      obtain ⟨m, hm⟩ : ∃ m, L[k]? = some m := ⟨L[k], by simp [hlt]⟩
      obtain ⟨c0, c1, c2⟩ := hc k m hm
      have hs := cnt_step hm
      have hd : cnt (L.take k) ≤ 1000000000 := Nat.le_trans (cnt_le _) (by rw [List.length_take]; omega)
      clear hc hR cV
      cases hm2 : stays m
      · have h4 : (m.st != 4) = false := hm2
        simp only [hm2, Bool.false_eq_true, if_false, Nat.add_zero] at hs
        go_wp2
        go_roundw
        case rel => exact ⟨k + 1, by omega, rfl, by rw [hs], hb⟩
        case measure => simp [intOf]; omega
      · have h4 : (m.st != 4) = true := hm2
        simp only [hm2, if_true] at hs
        go_wp2
        go_roundw
        case rel => exact ⟨k + 1, by omega, rfl, by rw [hs]; simp, hb⟩
        case measure => simp [intOf]; omega
    · obtain rfl : k = L.length := by omega
      go_wp2
      go_ret
      exact ⟨by rw [List.take_length]; rfl, hb⟩
theorem cfind_none (B Q : Nat) (v : Value) (F : FS) (id : Int) (w : World) (hA : DAt w B Q v F) (hL : F.L.length ≤ 1000000000) (hn : F.L.findIdx? (isId id) = none) :
    Calls Try.prog 42 #[.pointer (some ⟨Q, 0, none⟩), .int .i64 id] w fun e w' => e = .returned (.int .i64 (-1)) ∧ Below w.heap.size w w' := by
  obtain ⟨ao, cap, rfl, hc1, hc2, hao⟩ := hA.form
  have hA1 := hA.alloc (.cells #[.int .i64 id] 3)
  have cV := hA1.cV
  have c2 := cid_none ao cap w.heap.size id F.L _ hA1.row hL (cell_one rfl rfl) hn
  clear hn hao hA1 hA
  go_enter Try.func42, Try.ntmps42
  go_wp2_with (go_at_call 59; (with_reducible refine c2.mono ?_); rintro e w2 ⟨rfl, hb2⟩)
  go_ret
  exact ⟨rfl, ((Below.refl _ _).alloc (Nat.le_refl _) _).trans (hb2.mono (by simp))⟩
theorem cfind_some (B Q : Nat) (v : Value) (F : FS) (id : Int) (i : Nat) (w : World) (hA : DAt w B Q v F) (hL : F.L.length ≤ 1000000000) (hn : F.L.findIdx? (isId id) = some i) :
    Calls Try.prog 42 #[.pointer (some ⟨Q, 0, none⟩), .int .i64 id] w fun e w' => e = .returned (.int .i64 (i : Int)) ∧ Below w.heap.size w w' := by
  obtain ⟨ao, cap, rfl, hc1, hc2, hao⟩ := hA.form
  have hA1 := hA.alloc (.cells #[.int .i64 id] 3)
  have cV := hA1.cV
  have c2 := cid_some ao cap w.heap.size id F.L _ hA1.row hL (cell_one rfl rfl) hn
  clear hn hao hA1 hA
  go_enter Try.func42, Try.ntmps42
  go_wp2_with (go_at_call 59; (with_reducible refine c2.mono ?_); rintro e w2 ⟨rfl, hb2⟩)
  go_ret
  exact ⟨rfl, ((Below.refl _ _).alloc (Nat.le_refl _) _).trans (hb2.mono (by simp))⟩

/-- out: all but those with that number -/
def outL (id : Int) (L : List Pd) : List Pd := L.filter (fun p => p.id != id)
theorem outL_step {id : Int} {L : List Pd} {k : Nat} {m : Pd} (h : L[k]? = some m) : outL id (L.take (k + 1)) = outL id (L.take k) ++ if (m.id != id) = true then [m] else [] := by
  unfold outL
  rw [List.take_add_one, h, List.filter_append]
  congr 1
  cases hk : (m.id != id) <;> simp [hk]
theorem outL_le (id : Int) (L : List Pd) : (outL id L).length ≤ L.length := List.length_filter_le _ _
/-- numbers that grow: out takes one alone -/
theorem outL_at {L : List Pd} {i : Nat} {p : Pd} (h : L.Pairwise (fun p q => p.id < q.id)) (hp : L[i]? = some p) : outL p.id L = L.eraseIdx i := by
  have hs := split_at hp
  have h2 := h
  rw [hs, List.pairwise_append] at h2
  obtain ⟨_, hB, hAB⟩ := h2
  have hA : ∀ x ∈ L.take i, (x.id != p.id) = true := fun x hx => by have := hAB x hx p (by simp); simp; omega
  have hD : ∀ x ∈ L.drop (i + 1), (x.id != p.id) = true := fun x hx => by have := (List.pairwise_cons.1 hB).1 x hx; simp; omega
  unfold outL
  conv => lhs; rw [hs]
  rw [List.filter_append, List.filter_cons, List.filter_eq_self.2 hA, List.filter_eq_self.2 hD, erase_at]
  simp
def OutR (id : Int) (L : List Pd) (w : World) (v i : Value) (wr : World) : Prop :=
  ∃ k : Nat, k ≤ L.length ∧ i = .int .i64 k ∧ wr.ownsRow w.heap.size 50 3 v (outL id (L.take k)).length (cels pK.c (outL id (L.take k))) ∧ Below w.heap.size w wr
theorem outR_add {id : Int} {L : List Pd} {w wr w3 : World} {k : Nat} {m : Pd} {v v' : Value} {o : Obj} (hk : k < L.length) (hm : L[k]? = some m) (hp : (m.id != id) = true) (hb : Below w.heap.size w wr) (hown : wr.ownsRow w.heap.size 50 3 v (outL id (L.take k)).length (cels pK.c (outL id (L.take k))))
    (hown3 : w3.ownsRow w.heap.size 50 3 v' ((outL id (L.take k)).length + 1) (cels pK.c (outL id (L.take k)) ++ pcel m)) (hg : (wr.alloc o).grownBy w3 v.ownBlock) (i : Value) (hi : i = .int .i64 ((k + 1 : Nat) : Int)) : OutR id L w v' i w3 := by
  refine ⟨k + 1, by omega, hi, ?_, (hb.alloc hb.size o).grown hg (by simp; have := hb.size; omega) (fun q hq => (hown.lt q hq).1)⟩
  have e1 : outL id (L.take (k + 1)) = outL id (L.take k) ++ [m] := by rw [outL_step hm, hp]; rfl
  rw [e1, List.length_append, cels_append]
  have : cels pK.c [m] = pcel m := by simp [cels]; rfl
  rw [this]
  exact hown3
set_option maxHeartbeats 4000000 in
theorem out_any (B Q : Nat) (v : Value) (F : FS) (id : Int) (w : World) (hA : DAt w B Q v F) (hL : F.L.length ≤ 1000000000) :
    Calls Try.prog 40 #[.pointer (some ⟨Q, 0, none⟩), .int .i64 id] w fun e w' => e = .returned (.tuple #[]) ∧ ∃ v', DAt w' B Q v' ⟨F.most, F.last, outL id F.L⟩ ∧ Turn Q v v' w w' := by
  obtain ⟨i0, hi, hz0, hz1, hz2⟩ := info_parts info_pod
  obtain ⟨ao, cap, rfl, hc1, hc2, hao⟩ := hA.form
  go_enter Try.func40, Try.ntmps40
  go_wp2
  go_loopw [4, 5] (fun v i wr => OutR id F.L w v i wr) (fun _ i _ => F.L.length - (intOf i).toNat)
  case atStart => exact ⟨0, by omega, rfl, World.ownsRow_nil _ _ _ _, Below.refl _ _⟩
  case round =>
    obtain ⟨k, hk, rfl, hown, hbw⟩ := hrel
    have hAr := hA.below hbw
    have cV := hAr.cV
    have hQl := hAr.lt
    by_cases hlt : k < F.L.length
    · have hlt' : (k : Int) < (F.L.length : Int) := by omega
      obtain ⟨g, rfl⟩ := hao (by omega)
      obtain ⟨m, hm⟩ : ∃ m, F.L[k]? = some m := ⟨F.L[k], by simp [hlt]⟩
      obtain ⟨d0, d1, d2, fz⟩ := hAr.pod rfl hm
      have hLk : (outL id (F.L.take k)).length ≤ 1000000000 := Nat.le_trans (outL_le _ _) (by rw [List.length_take]; omega)
      have hsz := hbw.size
      have HO : Hid (wr.ownsRow w.heap.size 50 3 u4 (outL id (F.L.take k)).length (cels pK.c (outL id (F.L.take k)))) := hown
      have HB : Hid (Below w.heap.size w wr) := hbw
      clear hAr fz hown hbw hA
      have HR : Hid (∀ (v' : Value) (w3 : World) (o : Obj) (i : Value), (m.id != id) = true → w3.ownsRow w.heap.size 50 3 v' ((outL id (F.L.take k)).length + 1) (cels pK.c (outL id (F.L.take k)) ++ pcel m) → (wr.alloc o).grownBy w3 u4.ownBlock → i = .int .i64 ((k + 1 : Nat) : Int) → OutR id F.L w v' i w3) := fun v' w3 o i hp h1 h2 hi => outR_add hlt hm hp HB.out HO.out h1 h2 i hi
      have HN : Hid ((m.id != id) = false → ∀ (i : Value), i = .int .i64 ((k + 1 : Nat) : Int) → OutR id F.L w u4 i wr) := by
        intro hp i hi
        have e1 : outL id (F.L.take (k + 1)) = outL id (F.L.take k) := by rw [outL_step hm, hp]; simp
        exact ⟨k + 1, by omega, hi, by rw [e1]; exact HO.out, HB.out⟩
      clear hm
      generalize (outL id (F.L.take k)).length = N0 at *
      generalize cels pK.c (outL id (F.L.take k)) = C0 at *
      cases hid : (m.id != id)
      · go_wp2
        go_roundw
        case rel => exact HN.out hid _ (by first | rfl | simp)
        case measure => simp [intOf]; omega
      · go_wp2_with (at_builtin; refine wpList_append_own _ rfl _ _ 39 rfl w.heap.size 50 i0 (.agg #[.int .i64 0, .int .i64 0, .int .i64 0]) 3 24 Try.underlying39 hi hz0 hz1 hz2 rfl (by decide) _ N0 C0 rfl (HO.out.alloc _) ⟨wr.heap.size, 0, none⟩ 1 1 [.int .i64 m.id, .int .i64 m.st, .int .i64 m.ld] rfl rfl (cell_three _ _ _ _ _) (fun u hu => by simp at hu; rcases hu with rfl | rfl | rfl <;> rfl) (by unfold maxLen; omega) (by omega) (by simp; omega) ?_; intro v' w3 hown3 hgrow3 _)
        go_wp2
        go_roundw
        case rel => exact HR.out _ _ _ _ hid hown3 hgrow3 (by first | rfl | simp)
        case measure => simp [intOf]; omega
    · obtain rfl : k = F.L.length := by omega
      rw [List.take_length] at hown
      have hbQ : B ≤ w.heap.size := by have := RAt.bQ hA; have := hA.lt; omega
      have hfS := hAr.fz 0
      have hlt1 := hA.lt
      have hv : u4.ownBlock ≠ some Q := fun e => by have := (hown.lt Q e).1; omega
      have hA5 := DAt.regrown hAr rfl (hown.mono hbQ) hv
      have hT5 : Turn Q (.slice ao F.L.length cap) u4 w wr := by
        have h1 := Turn.of_below (Q := Q) (v := .slice ao F.L.length cap) hbw
        exact ⟨h1.os, h1.tape, h1.output, h1.size, h1.block, fun g hg => Or.inr (by have := (hown.lt g hg).1; omega)⟩
      obtain ⟨bo, bn, bc, hu4⟩ : ∃ bo bn bc, u4 = .slice bo bn bc := by
        rcases hown.2 with ⟨h0, _⟩ | ⟨_, _, _, h0, _⟩ <;> exact ⟨_, _, _, h0⟩
      subst hu4
      clear hown hAr hA
      go_wp2
      go_end0
      exact ⟨rfl, _, hA5, hT5.setRow 0 _⟩
end Flt
end Go.Proofs.Ytomdimljcbnnnac
