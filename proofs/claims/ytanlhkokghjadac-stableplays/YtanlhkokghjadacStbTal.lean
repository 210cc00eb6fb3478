
/- What a tally's forget and add answer. -/
import Derived.Test.YtanlhkokghjadacStbFol
namespace Go.Proofs.Ytanlhkokghjadac
namespace Stb
open Rw Go.RowKit
set_option maxRecDepth 8000

/-- nothing but the cells J of the block Q and the block R has turned -/
structure Wr (Q : Nat) (J : Nat → Prop) (R : Option Nat) (w w' : World) : Prop where
  os : w'.os = w.os
  tape : w'.tape = w.tape
  output : w'.output = w.output
  size : w.heap.size ≤ w'.heap.size
  block : ∀ k, k < w.heap.size → k ≠ Q → some k ≠ R → w'.heap[k]? = w.heap[k]?
  cell : ∀ j, ¬ J j → w'.cell? ⟨Q, j, none⟩ = w.cell? ⟨Q, j, none⟩
  fz : ∀ j, w'.frozen? ⟨Q, j, none⟩ = w.frozen? ⟨Q, j, none⟩
section
variable {Q : Nat} {J J' : Nat → Prop} {R : Option Nat} {w w1 w2 : World}
theorem Wr.refl (Q : Nat) (J : Nat → Prop) (R : Option Nat) (w : World) : Wr Q J R w w := ⟨rfl, rfl, rfl, Nat.le_refl _, fun _ _ _ _ => rfl, fun _ _ => rfl, fun _ => rfl⟩
theorem Wr.trans (h : Wr Q J R w w1) (g : Wr Q J R w1 w2) : Wr Q J R w w2 :=
  ⟨g.os.trans h.os, g.tape.trans h.tape, g.output.trans h.output, Nat.le_trans h.size g.size, fun k a b c => (g.block k (Nat.lt_of_lt_of_le a h.size) b c).trans (h.block k a b c), fun j hj => (g.cell j hj).trans (h.cell j hj), fun j => (g.fz j).trans (h.fz j)⟩
theorem Wr.mono (h : Wr Q J R w w1) (hj : ∀ j, J j → J' j) : Wr Q J' R w w1 := ⟨h.os, h.tape, h.output, h.size, h.block, fun j a => h.cell j (fun b => a (hj j b)), h.fz⟩
theorem Wr.any (h : Wr Q J none w w1) (R : Option Nat) : Wr Q J R w w1 := ⟨h.os, h.tape, h.output, h.size, fun k a b _ => h.block k a b (fun e => by cases e), h.cell, h.fz⟩
theorem Wr.drew (h : Wr Q J R w w1) : Wr Q J R w w1.drew := ⟨h.os, h.tape, h.output, h.size, h.block, h.cell, h.fz⟩
theorem Wr.below (hb : Below w.heap.size w w1) (hQ : Q < w.heap.size) : Wr Q J R w w1 :=
  ⟨hb.os, hb.tape, hb.output, hb.size, fun k a _ _ => hb.block k a, fun j _ => World.cell?_of_block (a := ⟨Q, j, none⟩) (hb.block Q hQ), fun j => World.frozen?_of_block (a := ⟨Q, j, none⟩) (hb.block Q hQ)⟩
theorem Wr.alloc (h : Wr Q J R w w1) (hQ : Q < w.heap.size) (o : Obj) : Wr Q J R w (w1.alloc o) :=
  h.trans (Wr.below ((Below.refl _ _).alloc (Nat.le_refl _) _) (Nat.lt_of_lt_of_le hQ h.size))
theorem Wr.grown (h : w.grownBy w1 R) (hQ : Q < w.heap.size) (hR : R ≠ some Q) : Wr Q J R w w1 :=
  ⟨h.os, h.tape, h.output, h.size, fun k a _ c => h.block k a c, fun j _ => World.cell?_of_block (a := ⟨Q, j, none⟩) (h.block Q hQ (fun e => hR e.symm)), fun j => World.frozen?_of_block (a := ⟨Q, j, none⟩) (h.block Q hQ (fun e => hR e.symm))⟩
theorem Wr.set (h : Wr Q J R w w1) {j : Nat} (hj : J j) (u : Value) : Wr Q J R w (w1.setCell ⟨Q, j, none⟩ u) :=
  ⟨h.os, h.tape, h.output, by simpa using h.size, fun k a b c => (Below.heap_setCell w1 ⟨Q, j, none⟩ u k b).trans (h.block k a b c),
   fun i hi => by rw [World.cell?_setCell_other (h := fun e => hi (by have := congrArg Addr.off e; simp at this; subst this; exact hj))]; exact h.cell i hi,
   fun i => by rw [World.frozen?_setCell]; exact h.fz i⟩
theorem Wr.setR (h : Wr Q J R w w1) {g : Nat} (hg : R = some g) (hne : g ≠ Q) (j : Nat) (u : Value) : Wr Q J R w (w1.setCell ⟨g, j, none⟩ u) :=
  ⟨h.os, h.tape, h.output, by simpa using h.size, fun k a b c => (Below.heap_setCell w1 ⟨g, j, none⟩ u k (fun e => c (by rw [e, hg]))).trans (h.block k a b c),
   fun i hi => by rw [World.cell?_setCell_other (h := fun e => hne (congrArg Addr.block e))]; exact h.cell i hi,
   fun i => by rw [World.frozen?_setCell]; exact h.fz i⟩
end
/-- a tally lies at cell o of the block Q -/
structure TAt (w : World) (B Q o : Nat) (v : Value) (T : Ta) : Prop where
  lt : Q < w.heap.size
  cM : w.cell? ⟨Q, o, none⟩ = some v
  cS : w.cell? ⟨Q, o + 1, none⟩ = some (.int .i64 T.s)
  fM : w.frozen? ⟨Q, o, none⟩ = false
  fS : w.frozen? ⟨Q, o + 1, none⟩ = false
  own : MOwn w B v T.l
  ne : v.ownBlock ≠ some Q
theorem own_set {w : World} {B Q j : Nat} {v u : Value} {L : List Mo} (h : MOwn w B v L) (hne : v.ownBlock ≠ some Q) : MOwn (w.setCell ⟨Q, j, none⟩ u) B v L :=
  Own.kept h (fun g hg => Below.heap_setCell w ⟨Q, j, none⟩ u g (fun e => hne (by rw [hg]; exact congrArg some e)))
theorem own_wr {Q B : Nat} {J : Nat → Prop} {R : Option Nat} {w w1 : World} {v : Value} {L : List Mo} (h : MOwn w B v L) (hw : Wr Q J R w w1) (hne : v.ownBlock ≠ some Q) (hR : v.ownBlock = none ∨ v.ownBlock ≠ R) : MOwn w1 B v L := by
  refine Own.kept h (fun g hg => hw.block g (h.lt g hg).2 (fun e => hne (by rw [hg, e])) (fun e => ?_))
  rcases hR with a | a
  · rw [a] at hg; cases hg
  · exact a (hg.trans e)

section
variable {w w1 : World} {B Q o : Nat} {v : Value} {T : Ta}
theorem TAt.kept (h : TAt w B Q o v T) (hb : ∀ g, (g = Q ∨ v.ownBlock = some g) → w1.heap[g]? = w.heap[g]?) : TAt w1 B Q o v T := by
  have hQ := hb Q (Or.inl rfl)
  refine ⟨?_, (World.cell?_of_block (a := ⟨Q, o, none⟩) hQ).trans h.cM, (World.cell?_of_block (a := ⟨Q, o + 1, none⟩) hQ).trans h.cS, (World.frozen?_of_block (a := ⟨Q, o, none⟩) hQ).trans h.fM, (World.frozen?_of_block (a := ⟨Q, o + 1, none⟩) hQ).trans h.fS, Own.kept h.own (fun g hg => hb g (Or.inr hg)), h.ne⟩
  have := h.lt
  rw [Array.getElem?_eq_getElem this] at hQ
  exact (Array.getElem?_eq_some_iff.1 hQ).1
theorem TAt.drew (h : TAt w B Q o v T) : TAt w.drew B Q o v T := h.kept (fun _ _ => rfl)
theorem TAt.below (h : TAt w B Q o v T) (hb : Below w.heap.size w w1) : TAt w1 B Q o v T := h.kept (fun g hg => hb.block g (by rcases hg with rfl | hg; exact h.lt; exact (h.own.lt g hg).2))
theorem TAt.alloc (h : TAt w B Q o v T) (x : Obj) : TAt (w.alloc x) B Q o v T := h.below ((Below.refl _ _).alloc (Nat.le_refl _) _)
theorem TAt.setS (h : TAt w B Q o v T) (x : Int) : TAt (w.setCell ⟨Q, o + 1, none⟩ (.int .i64 x)) B Q o v ⟨T.l, x⟩ :=
  ⟨by simpa using h.lt, by rw [World.cell?_setCell_other (h := fun e => by have := congrArg Addr.off e; simp at this)]; exact h.cM, World.cell?_setCell_same _ _ _ h.cS, by rw [World.frozen?_setCell]; exact h.fM, by rw [World.frozen?_setCell]; exact h.fS, own_set h.own h.ne, h.ne⟩
theorem TAt.setM (h : TAt w B Q o v T) {v' : Value} {L : List Mo} (hO : MOwn w B v' L) (hne : v'.ownBlock ≠ some Q) : TAt (w.setCell ⟨Q, o, none⟩ v') B Q o v' ⟨L, T.s⟩ :=
  ⟨by simpa using h.lt, World.cell?_setCell_same _ _ _ h.cM, by rw [World.cell?_setCell_other (h := fun e => by have := congrArg Addr.off e; simp at this)]; exact h.cS, by rw [World.frozen?_setCell]; exact h.fM, by rw [World.frozen?_setCell]; exact h.fS, own_set hO hne, hne⟩
end
/-- what forget comes to -/
def FgA (B Q o : Nat) (v : Value) (T : Ta) (t : Int) (w : World) (e : Ending) (w' : World) : Prop :=
  e = .returned (.tuple #[]) ∧ ∃ v', TAt w' B Q o v' (T.forget t) ∧ v'.ownBlock = v.ownBlock ∧ Wr Q (fun j => j = o ∨ j = o + 1) none w w'
/-- some of what is behind is taken off -/
def FgR (B Q o : Nat) (v : Value) (T : Ta) (n : Nat) (w : World) (i : Value) (wr : World) : Prop :=
  ∃ k : Nat, k ≤ n ∧ i = .int .i64 k ∧ TAt wr B Q o v ⟨T.l, T.s - sumP (T.l.take k)⟩ ∧ Wr Q (fun j => j = o ∨ j = o + 1) none w wr
theorem tw_len (L : List Mo) (t : Int) : (L.takeWhile (fun m => decide (m.t ≤ t))).length + (abv L t).length = L.length := by
  rw [← List.length_append]; unfold abv; rw [List.takeWhile_append_dropWhile]
theorem tw_take (L : List Mo) (t : Int) : L.takeWhile (fun m => decide (m.t ≤ t)) = L.take (L.takeWhile (fun m => decide (m.t ≤ t))).length := by
  conv => rhs; rw [← List.takeWhile_append_dropWhile (p := fun m : Mo => decide (m.t ≤ t)) (l := L)]
  have h : (List.takeWhile (fun m : Mo => decide (m.t ≤ t)) (List.takeWhile (fun m : Mo => decide (m.t ≤ t)) L ++ List.dropWhile (fun m : Mo => decide (m.t ≤ t)) L)) = List.takeWhile (fun m : Mo => decide (m.t ≤ t)) L := by rw [List.takeWhile_append_dropWhile]
  rw [h, List.take_left']
  rfl

set_option maxHeartbeats 4000000 in
theorem forget_any (B Q o : Nat) (v : Value) (T : Ta) (t : Int) (k : Nat) (w : World) (hA : TAt w B Q o v T) (hT : TaOk T k) (hk : k ≤ 1000) :
    Calls Try.prog 23 #[.pointer (some ⟨Q, o, none⟩), .int .i64 t] w (FgA B Q o v T t w) := by
  obtain ⟨ao, cap, rfl, hc1, hc2, hao, hnn, hsm⟩ := hA.own.form
  have hlen := hT.len
  have hl := tw_len T.l t
  have htk := tw_take T.l t
  have c := above_any B _ T.l t w hA.own (by omega)
  have cM := hA.cM
  have hp := hT.part
  have hge := hT.ge
  have hle := hT.le
  obtain ⟨n, hn⟩ : ∃ n, n = (T.l.takeWhile (fun m => decide (m.t ≤ t))).length := ⟨_, rfl⟩
  rw [← hn] at hl htk
  have hlt := hA.lt
  go_enter Try.func23, Try.ntmps23
  go_wp2_with (go_at_call 22; (with_reducible refine c.mono ?_); rintro e w' ⟨v', rfl, hO', hb', h9⟩; have h8 := h9.symm; clear h9; subst h8; obtain ⟨ao', cap', rfl, hd1, hd2, _, _, _⟩ := hO'.form)
  have hsub : (T.l.length : Int) - ((abv T.l t).length : Int) = (n : Int) := by omega
  have hn1 : (n : Int) ≤ (cap : Int) := by omega
  have hn2 : n ≤ T.l.length := by omega
  have HV : Hid (∀ w2, TAt w2 B Q o (.slice ao T.l.length cap) ⟨T.l, T.s - sumP (T.l.take n)⟩ → Wr Q (fun j => j = o ∨ j = o + 1) none w w2 → FgA B Q o (.slice ao T.l.length cap) T t w (.returned (.tuple #[])) (w2.setCell ⟨Q, o, none⟩ (.slice ao' (abv T.l t).length cap'))) := by
    intro w2 h2 hw2
    have hne' : (Value.slice ao' (abv T.l t).length cap').ownBlock ≠ some Q := by rw [hb']; exact hA.ne
    have hO2 : MOwn w2 B (.slice ao' (abv T.l t).length cap') (abv T.l t) := own_wr hO' hw2 hne' (by
      cases (Value.slice ao' (abv T.l t).length cap').ownBlock with
      | none => exact Or.inl rfl
      | some g => exact Or.inr (by simp))
    have h3 := h2.setM hO2 hne'
    refine ⟨rfl, _, ?_, hb', hw2.set (Or.inl rfl) _⟩
    unfold Ta.forget
    rw [htk]
    exact h3
  clear c hO' hb' hn htk
  generalize (abv T.l t).length = a' at *
  go_region
  all_goals
    go_wp2_with fail
    go_loopw [27] (fun i wr => FgR B Q o (.slice ao T.l.length cap) T n w i wr) (fun i _ => n - (intOf i).toNat)
    case atStart => exact ⟨0, by omega, rfl, by simpa [sumP] using (⟨hA.lt, hA.cM, hA.cS, hA.fM, hA.fS, Own.drew hA.own, hA.ne⟩ : TAt w.drew B Q o (.slice ao T.l.length cap) T), (Wr.refl _ _ _ _).drew⟩
    case round =>
      obtain ⟨k', hk', rfl, hA', hW'⟩ := hrel
      have cM' := hA'.cM
      have cS' := hA'.cS
      have fM' := hA'.fM
      have fS' := hA'.fS
      have hQ' := hA'.lt
      by_cases hlt' : k' < n
      · have hlt2 : (k' : Int) < (n : Int) := by omega
        obtain ⟨g, off, rfl⟩ := hao (by omega)
        obtain ⟨m, hm⟩ : ∃ m, T.l[k']? = some m := ⟨T.l[k'], by simp [show k' < T.l.length by omega]⟩
        obtain ⟨c0, c1, _, _, hg⟩ := own_mo hA'.own rfl hm
        have hs := sumP_take T.l k' m hm
        have h1 := hp k'
        have h2 := hp (k' + 1)
        rw [hs] at h2
        have hq1 : -9223372036854775808 ≤ T.s - sumP (T.l.take k') - m.p := by omega
        have hq2 : T.s - sumP (T.l.take k') - m.p ≤ 9223372036854775807 := by omega
        have hnew : Hid (TAt (((wr.setCell ⟨Q, o + 1, none⟩ (.int .i64 (T.s - sumP (T.l.take k') - m.p))).alloc (.cells #[.int .i64 m.t, .int .i64 m.p] 57)).drew) B Q o (.slice (some ⟨g, off, none⟩) T.l.length cap) ⟨T.l, T.s - sumP (T.l.take (k' + 1))⟩ ∧ Wr Q (fun j => j = o ∨ j = o + 1) none w (((wr.setCell ⟨Q, o + 1, none⟩ (.int .i64 (T.s - sumP (T.l.take k') - m.p))).alloc (.cells #[.int .i64 m.t, .int .i64 m.p] 57)).drew)) := by
          have h3 := ((hA'.setS (T.s - sumP (T.l.take k') - m.p)).alloc (.cells #[.int .i64 m.t, .int .i64 m.p] 57)).drew
          rw [hs, show T.s - (sumP (T.l.take k') + m.p) = T.s - sumP (T.l.take k') - m.p by omega]
          exact ⟨h3, ((hW'.set (j := o + 1) (Or.inr rfl) _).alloc hlt _).drew⟩
        clear hA' hW' hs HV hA
        go_wp2_with fail
        go_region
        all_goals
          go_wp2
          go_roundw
          case rel => exact ⟨k' + 1, by omega, by simp, hnew.out.1, hnew.out.2⟩
          case measure => simp [intOf]; omega
      · obtain rfl : k' = n := by omega
        have HF : Hid (FgA B Q o (.slice ao T.l.length cap) T t w (.returned (.tuple #[])) (wr.setCell ⟨Q, o, none⟩ (.slice ao' a' cap'))) := HV.out wr hA' hW'
        clear hA' hW' HV hA
        go_wp2
        go_end0
        exact HF.out
end Stb
end Go.Proofs.Ytanlhkokghjadac
