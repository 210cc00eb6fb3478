
/- What a tally's add answers. -/
import Derived.Test.YtanlhkokghjadacStbTal
namespace Go.Proofs.Ytanlhkokghjadac
namespace Stb
open Rw Go.RowKit
set_option maxRecDepth 8000

/-- what add comes to -/
def AdA (B Q o : Nat) (v : Value) (T : Ta) (now pods : Int) (w : World) (e : Ending) (w' : World) : Prop :=
  e = .returned (.tuple #[]) ∧ ∃ v', TAt w' B Q o v' (T.add now pods) ∧ (v'.ownBlock = v.ownBlock ∨ ∃ g, v'.ownBlock = some g ∧ w.heap.size ≤ g) ∧ Wr Q (fun j => j = o ∨ j = o + 1) v.ownBlock w w'
theorem ada_app {B Q o : Nat} {v v' : Value} {T : Ta} {now pods : Int} {w w3 : World} {x : Obj} (hA : TAt w B Q o v T) (hadd : T.add now pods = (⟨T.l ++ [⟨now, pods⟩], T.s + pods⟩ : Ta))
    (hO : Own w3 B 57 2 v' (T.l.length + 1) (cels mc T.l ++ [.int .i64 now, .int .i64 pods])) (hg : ((w.setCell ⟨Q, o + 1, none⟩ (.int .i64 (T.s + pods))).alloc x).grownBy w3 v.ownBlock) (hl : v'.ownBlock = v.ownBlock ∨ v'.ownBlock = some ((w.setCell ⟨Q, o + 1, none⟩ (.int .i64 (T.s + pods))).alloc x).heap.size) :
    Hid (AdA B Q o v T now pods w (.returned (.tuple #[])) (w3.setCell ⟨Q, o, none⟩ v')) ∧ w3.cell? ⟨Q, o, none⟩ = some v ∧ w3.frozen? ⟨Q, o, none⟩ = false := by
  have h1 := (hA.setS (T.s + pods)).alloc x
  have hW : Wr Q (fun j => j = o ∨ j = o + 1) v.ownBlock w ((w.setCell ⟨Q, o + 1, none⟩ (.int .i64 (T.s + pods))).alloc x) := ((Wr.refl Q _ _ w).set (Or.inr rfl) _).alloc hA.lt _
  have hQ := hg.block Q h1.lt (fun e => hA.ne e.symm)
  have hO' : MOwn w3 B v' (T.l ++ [⟨now, pods⟩]) := by
    show Own w3 B _ 2 v' (T.l ++ [(⟨now, pods⟩ : Mo)]).length (cels mc (T.l ++ [(⟨now, pods⟩ : Mo)]))
    rw [cels_append, List.length_append]
    exact hO
  have hne : v'.ownBlock ≠ some Q := by
    rcases hl with e | e
    · rw [e]; exact hA.ne
    · rw [e]; have := h1.lt; intro h; simp only [Option.some.injEq] at h; omega
  have h3 : TAt w3 B Q o v ⟨T.l, T.s + pods⟩ → TAt (w3.setCell ⟨Q, o, none⟩ v') B Q o v' ⟨T.l ++ [⟨now, pods⟩], T.s + pods⟩ := fun h => h.setM hO' hne
  have cM3 := (World.cell?_of_block (w := (w.setCell ⟨Q, o + 1, none⟩ (.int .i64 (T.s + pods))).alloc x) (a := ⟨Q, o, none⟩) hQ).trans h1.cM
  have cS3 := (World.cell?_of_block (w := (w.setCell ⟨Q, o + 1, none⟩ (.int .i64 (T.s + pods))).alloc x) (a := ⟨Q, o + 1, none⟩) hQ).trans h1.cS
  have fM3 := (World.frozen?_of_block (w := (w.setCell ⟨Q, o + 1, none⟩ (.int .i64 (T.s + pods))).alloc x) (a := ⟨Q, o, none⟩) hQ).trans h1.fM
  have fS3 := (World.frozen?_of_block (w := (w.setCell ⟨Q, o + 1, none⟩ (.int .i64 (T.s + pods))).alloc x) (a := ⟨Q, o + 1, none⟩) hQ).trans h1.fS
  refine ⟨⟨rfl, v', ?_, ?_, (hW.trans (Wr.grown hg h1.lt hA.ne)).set (Or.inl rfl) _⟩, cM3, fM3⟩
  · rw [hadd]
    exact ⟨by simpa using Nat.lt_of_lt_of_le h1.lt hg.size, World.cell?_setCell_same _ _ _ cM3, by rw [World.cell?_setCell_other (h := fun e => by have := congrArg Addr.off e; simp at this)]; exact cS3, by rw [World.frozen?_setCell]; exact fM3, by rw [World.frozen?_setCell]; exact fS3, own_set hO' hne, hne⟩
  · exact hl.imp id fun e => ⟨_, e, hW.size⟩
theorem cell_twoN {w : World} {N : Nat} (e : TypeId) (a b : Value) (hN : N = w.heap.size) : ∀ (j : Nat) (u : Value), [a, b][j]? = some u → (w.alloc (.cells #[a, b] e)).cell? ((⟨N, 0, none⟩ : Addr).add j) = some u := by
  subst hN; exact cell_two w e a b
theorem set_last (L : List Mo) (m x : Mo) (h : L.getLast? = some m) : L.dropLast ++ [x] = L.set (L.length - 1) x := by
  have hs := last_split h
  generalize hd : L.dropLast = D at *
  subst hs
  simp
theorem cels_set (L : List Mo) (i : Nat) (t p q : Int) (h : L[i]? = some ⟨t, p⟩) : cels mc (L.set i ⟨t, q⟩) = (cels mc L).set (i * 2 + 1) (.int .i64 q) := by
  induction L generalizing i with
  | nil => simp at h
  | cons m L ih =>
    cases i with
    | zero => simp at h; subst h; simp [cels, mc]
    | succ i => simp at h; simp only [List.set_cons_succ, cels, ih i h, mc]; rw [show (i + 1) * 2 + 1 = i * 2 + 1 + 1 + 1 by omega]; simp
theorem ada_set {B Q o g off cap : Nat} {T : Ta} {m : Mo} {now pods : Int} {w : World} (hA : TAt w B Q o (.slice (some ⟨g, off, none⟩) T.l.length cap) T) (hadd : T.add now pods = ⟨T.l.dropLast ++ [⟨now, m.p + pods⟩], T.s + pods⟩) (hm : T.l.getLast? = some m) (ht : m.t = now) (n : Nat) (hn : T.l.length = n + 1) :
    AdA B Q o (.slice (some ⟨g, off, none⟩) T.l.length cap) T now pods w (.returned (.tuple #[])) ((w.setCell ⟨Q, o + 1, none⟩ (.int .i64 (T.s + pods))).setCell ⟨g, off + n * 2 + 1, none⟩ (.int .i64 (m.p + pods))) := by
  have hgQ : g ≠ Q := fun e => hA.ne (by rw [e]; rfl)
  have h1 := hA.setS (T.s + pods)
  have hm' : T.l[n]? = some ⟨now, m.p⟩ := by
    rw [List.getLast?_eq_getElem?, hn] at hm
    rw [show n + 1 - 1 = n by omega] at hm
    rw [hm, ← ht]
  have hO := (show Own _ B _ 2 _ T.l.length (cels mc T.l) from h1.own).stored (n * 2 + 1) (.int .i64 (m.p + pods)) (by omega)
  rw [← cels_set T.l n now m.p _ hm', show off + (n * 2 + 1) = off + n * 2 + 1 by omega] at hO
  have hL : T.l.dropLast ++ [⟨now, m.p + pods⟩] = T.l.set n ⟨now, m.p + pods⟩ := by rw [set_last T.l m _ hm, hn]; rfl
  refine ⟨rfl, _, ?_, Or.inl rfl, ((Wr.refl Q _ _ w).set (Or.inr rfl) _).setR rfl hgQ _ _⟩
  rw [hadd, hL]
  refine ⟨by simpa using h1.lt, ?_, ?_, by rw [World.frozen?_setCell]; exact h1.fM, by rw [World.frozen?_setCell]; exact h1.fS, ?_, hA.ne⟩
  · rw [World.cell?_setCell_other (h := fun e => hgQ (congrArg Addr.block e))]; exact h1.cM
  · rw [World.cell?_setCell_other (h := fun e => hgQ (congrArg Addr.block e))]; exact h1.cS
  · show Own _ B _ 2 _ (T.l.set n _).length _
    rw [List.length_set]; exact hO

set_option maxHeartbeats 4000000 in
theorem add_any (B Q o : Nat) (v : Value) (T : Ta) (now pods : Int) (k : Nat) (w : World) (hA : TAt w B Q o v T) (hT : TaOk T k) (hk : k ≤ 1000) (h0 : 0 ≤ pods) (h50 : pods ≤ 50) (hB : B ≤ w.heap.size) :
    Calls Try.prog 27 #[.pointer (some ⟨Q, o, none⟩), .int .i64 now, .int .i64 pods] w (AdA B Q o v T now pods w) := by
  by_cases hz : pods = 0
  · subst hz
    have HA : Hid (AdA B Q o v T now 0 w (.returned (.tuple #[])) w) := ⟨rfl, v, by simpa [Ta.add] using hA, Or.inl rfl, Wr.refl _ _ _ _⟩
    go_enter Try.func27, Try.ntmps27
    go_wp2
    (try simp only [Exit.inBlock, Exit.then])
    refine bodyPost_ret (results_none rfl _ _ _) rfl ?_
    exact HA.out
  · obtain ⟨i0, hi, hz0, hz1, hz2⟩ := info_parts info_mo
    obtain ⟨ao, cap, rfl, hc1, hc2, hao, hnn, hsm⟩ := hA.own.form
    have hlen := hT.len
    have hge := hT.ge
    have hle := hT.le
    have hz' : (pods == 0) = false := by simp [hz]
    have cM := hA.cM
    have cS := hA.cS
    have fM := hA.fM
    have fS := hA.fS
    have hlt := hA.lt
    have hq1 : T.s + pods ≤ 9223372036854775807 := by omega
    have h1 := hA.setS (T.s + pods)
    have cM1 := h1.cM
    have hlt1 := h1.lt
    have HA : Hid (TAt w B Q o (.slice ao T.l.length cap) T) := hA
    have hpos := hT.pos
    have hO1 : Own (w.setCell ⟨Q, o + 1, none⟩ (.int .i64 (T.s + pods))) B 57 2 (.slice ao T.l.length cap) T.l.length (cels mc T.l) := h1.own
    cases hg : T.l.getLast? with
    | none =>
      have hl : T.l = [] := List.getLast?_eq_none_iff.1 hg
      have hadd : T.add now pods = (⟨T.l ++ [⟨now, pods⟩], T.s + pods⟩ : Ta) := by unfold Ta.add; rw [if_neg hz, hg]
      have hneg : ¬ 0 ≤ (T.l.length : Int) - 1 := by rw [hl]; decide
      have HADD : Hid (T.add now pods = (⟨T.l ++ [⟨now, pods⟩], T.s + pods⟩ : Ta)) := hadd
      clear hadd hl hA h1 hg
      go_enter Try.func27, Try.ntmps27
      go_wp2_with (at_builtin; refine wpList_at rfl _ _ 37 rfl B 57 i0 (.agg #[.int .i64 0, .int .i64 0]) 2 16 Try.underlying37 hi hz0 hz1 hz2 rfl _ _ _ rfl (Own.alloc hO1 _) ⟨w.heap.size, 0, none⟩ 1 1 [.int .i64 now, .int .i64 pods] rfl rfl (cell_twoN _ _ _ (by simp)) (fun u hu => by simp at hu; rcases hu with rfl | rfl <;> rfl) (by decide) (by unfold maxLen; omega) (by omega) (by simp; omega) ?_; intro v' w3 hown3 hgrow3 hloc3; obtain ⟨ao3, cap3, rfl, _, _, _, _, _⟩ := hown3.form; obtain ⟨HF, cM3, fM3⟩ := ada_app HA.out HADD.out hown3 hgrow3 hloc3)
      (try simp only [Exit.inBlock, Exit.then])
      refine bodyPost_end (results_none rfl _ _ _) rfl ?_
      exact HF.out
    | some m =>
      obtain ⟨n, hn⟩ : ∃ n, T.l.length = n + 1 := by
        cases hl : T.l with
        | nil => rw [hl] at hg; simp at hg
        | cons a l => exact ⟨l.length, rfl⟩
      have hm' : T.l[n]? = some m := by
        rw [List.getLast?_eq_getElem?, hn] at hg
        exact hg
      obtain ⟨g, off, rfl⟩ := hao (by omega)
      have hn1 : (T.l.length : Int) - 1 = (n : Int) := by omega
      have hn2 : (0 : Int) ≤ (n : Int) := by omega
      have hn3 : (n : Int) < (T.l.length : Int) := by omega
      obtain ⟨c0, c1, f0, f1, hgl⟩ := own_mo h1.own rfl hm'
      have hgQ : g ≠ Q := fun e => hA.ne (by rw [e]; rfl)
      have hmp := hpos m (List.mem_of_getElem? hm')
      have hms : m.p ≤ T.s := by
        have := hT.part n
        have h3 := sumP_take T.l n m hm'
        have h4 := hT.part (n + 1)
        omega
      by_cases ht : m.t = now
      · have hadd : T.add now pods = (⟨T.l.dropLast ++ [⟨now, m.p + pods⟩], T.s + pods⟩ : Ta) := by unfold Ta.add; rw [if_neg hz, hg]; simp [ht]
        have HF : Hid (AdA B Q o (.slice (some ⟨g, off, none⟩) T.l.length cap) T now pods w (.returned (.tuple #[])) ((w.setCell ⟨Q, o + 1, none⟩ (.int .i64 (T.s + pods))).setCell ⟨g, off + n * 2 + 1, none⟩ (.int .i64 (m.p + pods)))) := ada_set hA hadd hg ht n hn
        have ht' : (m.t == now) = true := by simp [ht]
        have hq2 : m.p + pods ≤ 9223372036854775807 := by omega
        clear hadd hA h1 hg hpos ht hn
        go_enter Try.func27, Try.ntmps27
        go_wp2
        (try simp only [Exit.inBlock, Exit.then])
        refine bodyPost_ret (results_none rfl _ _ _) rfl ?_
        exact HF.out
      · have hadd : T.add now pods = (⟨T.l ++ [⟨now, pods⟩], T.s + pods⟩ : Ta) := by unfold Ta.add; rw [if_neg hz, hg]; simp [ht]
        have HADD : Hid (T.add now pods = (⟨T.l ++ [⟨now, pods⟩], T.s + pods⟩ : Ta)) := hadd
        have ht' : (m.t == now) = false := by simp [ht]
        clear hadd hA h1 hg hpos ht hn
        go_enter Try.func27, Try.ntmps27
        go_wp2_with (at_builtin; refine wpList_at rfl _ _ 37 rfl B 57 i0 (.agg #[.int .i64 0, .int .i64 0]) 2 16 Try.underlying37 hi hz0 hz1 hz2 rfl _ _ _ rfl (Own.alloc hO1 _) ⟨w.heap.size, 0, none⟩ 1 1 [.int .i64 now, .int .i64 pods] rfl rfl (cell_twoN _ _ _ (by simp)) (fun u hu => by simp at hu; rcases hu with rfl | rfl <;> rfl) (by decide) (by unfold maxLen; omega) (by omega) (by simp; omega) ?_; intro v' w3 hown3 hgrow3 hloc3; obtain ⟨ao3, cap3, rfl, _, _, _, _, _⟩ := hown3.form; obtain ⟨HF, cM3, fM3⟩ := ada_app HA.out HADD.out hown3 hgrow3 hloc3)
        (try simp only [Exit.inBlock, Exit.then])
        refine bodyPost_end (results_none rfl _ _ _) rfl ?_
        exact HF.out
end Stb
end Go.Proofs.Ytanlhkokghjadac
