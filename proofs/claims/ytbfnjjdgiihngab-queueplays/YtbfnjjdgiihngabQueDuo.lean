/- A queue of the program's and one of the document's, side by side: what each call does to both. -/
import Derived.Test.YtbfnjjdgiihngabLineWalks4
namespace Go.Proofs.Ytbfnjjdgiihngab
namespace Que
open Go.RowKit
set_option maxRecDepth 8000

/-- two queues side by side: the program's at Q, the document's at D -/
structure Duo (w : World) (B Q D : Nat) (lq ld : Int) (v u : Value) (Lq Ld : List M) : Prop where
  q : QAt w 54 B Q 0 1 lq v Lq
  d : QAt w 54 B D 1 0 ld u Ld
  qd : Q ≠ D
  vD : v.ownBlock ≠ some D
  uQ : u.ownBlock ≠ some Q
  vu : ∀ g, v.ownBlock = some g → u.ownBlock ≠ some g
section
variable {w w' : World} {B Q D : Nat} {lq ld lq' ld' : Int} {v u v' u' : Value} {Lq Ld Lq' Ld' : List M}
theorem Duo.left (h : Duo w B Q D lq ld v u Lq Ld) (hA : QAt w' 54 B Q 0 1 lq' v' Lq') (t : Turn Q v v' w w') : Duo w' B Q D lq' ld v' u Lq' Ld := by
  refine ⟨hA, h.d.other t h.qd.symm h.vD h.uQ (fun g hu hv => h.vu g hv hu), h.qd, fun e => ?_, h.uQ, fun g hv hu => ?_⟩
  · rcases t.loc D e with a | a
    · exact h.vD a
    · have := h.d.lt; omega
  · rcases t.loc g hv with a | a
    · exact h.vu g a hu
    · have := h.d.rowLt g hu; omega
theorem Duo.right (h : Duo w B Q D lq ld v u Lq Ld) (hA : QAt w' 54 B D 1 0 ld' u' Ld') (t : Turn D u u' w w') : Duo w' B Q D lq ld' v u' Lq Ld' := by
  refine ⟨h.q.other t h.qd h.uQ h.vD h.vu, hA, h.qd, h.vD, fun e => ?_, fun g hv hu => ?_⟩
  · rcases t.loc Q e with a | a
    · exact h.uQ a
    · have := h.q.lt; omega
  · rcases t.loc g hu with a | a
    · exact h.vu g hv a
    · have := h.q.rowLt g hv; omega
theorem Duo.below (h : Duo w B Q D lq ld v u Lq Ld) (hb : Below w.heap.size w w') : Duo w' B Q D lq ld v u Lq Ld := ⟨h.q.below hb, h.d.below hb, h.qd, h.vD, h.uQ, h.vu⟩
theorem Duo.drew (h : Duo w B Q D lq ld v u Lq Ld) : Duo w.drew B Q D lq ld v u Lq Ld := ⟨h.q.drew, h.d.drew, h.qd, h.vD, h.uQ, h.vu⟩
theorem Duo.turnQ (h : Duo w B Q D lq ld v u Lq Ld) (t : Turn Q v v' w w') : Below B w w' := t.below h.q.bQ h.q.rowB (by have := h.q.bQ; have := h.q.lt; omega)
theorem Duo.turnD (h : Duo w B Q D lq ld v u Lq Ld) (t : Turn D u u' w w') : Below B w w' := t.below h.d.bQ h.d.rowB (by have := h.d.bQ; have := h.d.lt; omega)
/-- a cell that neither queue has -/
theorem Turn.cell {c j : Nat} {x : Value} (t : Turn Q v v' w w') (h : w.cell? ⟨c, j, none⟩ = some x) (h1 : c ≠ Q) (h2 : v.ownBlock ≠ some c) : w'.cell? ⟨c, j, none⟩ = some x :=
  (World.cell?_of_block (w := w) (a := ⟨c, j, none⟩) (t.block c (World.block_lt_of_cell? w _ h) h1 (fun e => h2 e.symm))).trans h
end

/-- what a call that tells two numbers does to a queue (the program's: oN 0, oS 1; the document's: oN 1, oS 0) -/
def Does (f : Nat) (oN oS : Nat) (args : Nat → Array Value) (last last' : Int) (L L' : List M) (e : Ending) : Prop :=
  ∀ (B Q : Nat) (v : Value) (w : World), QAt w 54 B Q oN oS last v L → Calls Try.prog f (args Q) w fun e' w' => e' = e ∧ ∃ v', QAt w' 54 B Q oN oS last' v' L' ∧ Turn Q v v' w w'
theorem put_both (n : Int) (L : List M) (last : Int) (hI : Inv L last) (hl : last ≤ 1000000) : ∃ (a b : Int) (L' : List M) (last' : Int), Inv L' last' ∧ last' ≤ last + 200 ∧
    Does 15 0 1 (fun Q => #[.pointer (some ⟨Q, 0, none⟩), .int .i64 n]) last last' L L' (.returned (.tuple #[.int .i64 a, .int .i64 b])) ∧ Does 16 1 0 (fun Q => #[.pointer (some ⟨Q, 0, none⟩), .int .i64 n]) last last' L L' (.returned (.tuple #[.int .i64 a, .int .i64 b])) := by
  by_cases h1 : n < 1
  · refine ⟨0, 1, L, last, hI, by omega, fun B Q v w hA => (put_no Q n w h1).mono ?_, fun B Q v w hA => (lput_no Q n w h1).mono ?_⟩
    · rintro e w' ⟨rfl, rfl⟩; exact ⟨rfl, v, hA, Turn.refl _ _ _⟩
    · rintro e w' ⟨rfl, rfl⟩; exact ⟨rfl, v, hA, Turn.refl _ _ _⟩
  · by_cases h2 : 200 < (L.length : Int) + n
    · refine ⟨0, 6, L, last, hI, by omega, fun B Q v w hA => (put_full B Q last v L n w hA hI.len (by omega) h2).mono ?_, fun B Q v w hA => (lput_full B Q last v L n w hA hI.len (by omega) h2).mono ?_⟩
      · rintro e w' ⟨rfl, rfl⟩; exact ⟨rfl, v, hA, Turn.refl _ _ _⟩
      · rintro e w' ⟨rfl, rfl⟩; exact ⟨rfl, v, hA, Turn.refl _ _ _⟩
    · obtain ⟨m, rfl⟩ := Int.eq_ofNat_of_zero_le (show 0 ≤ n by omega)
      have h0 := hI.l0
      exact ⟨last + 1, 0, L ++ news last m, last + m, hI.put (by omega), by omega, fun B Q v w hA => put_yes B Q last v L m w hA ⟨h0, hl⟩ (by omega) (by omega), fun B Q v w hA => lput_yes B Q last v L m w hA ⟨h0, hl⟩ (by omega) (by omega)⟩
theorem lease_both (now ticks : Int) (L : List M) (last : Int) (hI : Inv L last) : ∃ (a b : Int) (L' : List M), Inv L' last ∧
    Does 17 0 1 (fun Q => #[.pointer (some ⟨Q, 0, none⟩), .int .i64 now, .int .i64 ticks]) last last L L' (.returned (.tuple #[.int .i64 a, .int .i64 b])) ∧ Does 18 1 0 (fun Q => #[.pointer (some ⟨Q, 0, none⟩), .int .i64 now, .int .i64 ticks]) last last L L' (.returned (.tuple #[.int .i64 a, .int .i64 b])) := by
  by_cases h1 : 1 ≤ ticks ∧ ticks ≤ 100000
  · by_cases h2 : 0 ≤ now ∧ now ≤ 1099511627776
    · have hI1 := hI.back now
      cases hf : (backL now L).findIdx? free with
      | none =>
        refine ⟨0, 4, backL now L, hI1, fun B Q v w hA => lease_none B Q last v L _ now ticks w hA hI.len h1.1 h1.2 h2.1 h2.2 rfl hf, fun B Q v w hA => (llease_yes B Q last v L _ now ticks w hA hI.len h1.1 h1.2 h2.1 h2.2 rfl).mono ?_⟩
        rintro e w' ⟨L2, v', ⟨_, rfl, rfl⟩ | ⟨i, m, g, _⟩, h4, h5⟩
        · exact ⟨rfl, v', h4, h5⟩
        · rw [hf] at g; cases g
      | some i =>
        obtain ⟨m, hm, _⟩ := find_get hf
        refine ⟨m.id, 0, (backL now L).set i ⟨m.id, now + ticks, true⟩, hI1.set hm (by omega), fun B Q v w hA => lease_yes B Q last v L _ now ticks i m w hA hI.len h1.1 h1.2 h2.1 h2.2 rfl hf hm, fun B Q v w hA => (llease_yes B Q last v L _ now ticks w hA hI.len h1.1 h1.2 h2.1 h2.2 rfl).mono ?_⟩
        rintro e w' ⟨L2, v', ⟨g, _⟩ | ⟨i', m', g, g2, rfl, rfl⟩, h4, h5⟩
        · rw [hf] at g; cases g
        · rw [hf] at g; cases g
          rw [hm] at g2; cases g2
          exact ⟨rfl, v', h4, h5⟩
    · refine ⟨0, 1, L, hI, fun B Q v w hA => (lease_now Q now ticks w h1.1 h1.2 h2).mono ?_, fun B Q v w hA => (llease_now Q now ticks w h1.1 h1.2 h2).mono ?_⟩
      · rintro e w' ⟨rfl, rfl⟩; exact ⟨rfl, v, hA, Turn.refl _ _ _⟩
      · rintro e w' ⟨rfl, rfl⟩; exact ⟨rfl, v, hA, Turn.refl _ _ _⟩
  · refine ⟨0, 1, L, hI, fun B Q v w hA => (lease_ticks Q now ticks w h1).mono ?_, fun B Q v w hA => (llease_ticks Q now ticks w h1).mono ?_⟩
    · rintro e w' ⟨rfl, rfl⟩; exact ⟨rfl, v, hA, Turn.refl _ _ _⟩
    · rintro e w' ⟨rfl, rfl⟩; exact ⟨rfl, v, hA, Turn.refl _ _ _⟩
theorem ack_both (now id : Int) (L : List M) (last : Int) (hI : Inv L last) : ∃ (b : Int) (L' : List M), Inv L' last ∧
    Does 19 0 1 (fun Q => #[.pointer (some ⟨Q, 0, none⟩), .int .i64 now, .int .i64 id]) last last L L' (.returned (.int .i64 b)) ∧ Does 20 1 0 (fun Q => #[.pointer (some ⟨Q, 0, none⟩), .int .i64 now, .int .i64 id]) last last L L' (.returned (.int .i64 b)) := by
  by_cases h2 : 0 ≤ now ∧ now ≤ 1099511627776
  · have hI1 := hI.back now
    cases hf : (backL now L).findIdx? (isId id) with
    | none =>
      obtain ⟨e1, e2⟩ := ack_none hf
      refine ⟨4, backL now L, hI1, fun B Q v w hA => ack_no B Q last v L _ now id w hA hI.len h2.1 h2.2 rfl hf, fun B Q v w hA => ?_⟩
      have := lack_yes B Q last v L _ now id w hA hI.len h2.1 h2.2 rfl
      rw [e1, e2] at this
      exact this
    | some i =>
      obtain ⟨m, hm, _⟩ := find_get hf
      obtain ⟨e1, e2⟩ := ack_some hI1.nd hf hm
      cases ht : m.tk with
      | true =>
        obtain ⟨e3, e4⟩ := e1 ht
        refine ⟨0, (backL now L).eraseIdx i, hI1.erase i, fun B Q v w hA => ack_yes B Q last v L _ now id i m w hA hI.len h2.1 h2.2 rfl hf hm ht, fun B Q v w hA => ?_⟩
        have := lack_yes B Q last v L _ now id w hA hI.len h2.1 h2.2 rfl
        rw [e3, e4] at this
        exact this
      | false =>
        obtain ⟨e3, e4⟩ := e2 ht
        refine ⟨7, backL now L, hI1, fun B Q v w hA => ack_free B Q last v L _ now id i m w hA hI.len h2.1 h2.2 rfl hf hm ht, fun B Q v w hA => ?_⟩
        have := lack_yes B Q last v L _ now id w hA hI.len h2.1 h2.2 rfl
        rw [e3, e4] at this
        exact this
  · refine ⟨1, L, hI, fun B Q v w hA => (ack_now Q now id w h2).mono ?_, fun B Q v w hA => (lack_now Q now id w h2).mono ?_⟩
    · rintro e w' ⟨rfl, hb⟩; exact ⟨rfl, v, hA.below hb, Turn.of_below hb⟩
    · rintro e w' ⟨rfl, rfl⟩; exact ⟨rfl, v, hA, Turn.refl _ _ _⟩
theorem depth_both (now : Int) (L : List M) (last : Int) (hI : Inv L last) : ∃ (a b : Int) (L' : List M), Inv L' last ∧
    Does 23 0 1 (fun Q => #[.pointer (some ⟨Q, 0, none⟩), .int .i64 now]) last last L L' (.returned (.tuple #[.int .i64 a, .int .i64 b])) ∧ Does 24 1 0 (fun Q => #[.pointer (some ⟨Q, 0, none⟩), .int .i64 now]) last last L L' (.returned (.tuple #[.int .i64 a, .int .i64 b])) := by
  by_cases h2 : 0 ≤ now ∧ now ≤ 1099511627776
  · exact ⟨depth (backL now L), 0, backL now L, hI.back now, fun B Q v w hA => depth_yes B Q last v L _ now w hA hI.len h2.1 h2.2 rfl, fun B Q v w hA => ldepth_yes B Q last v L _ now w hA hI.len h2.1 h2.2 rfl⟩
  · refine ⟨0, 1, L, hI, fun B Q v w hA => (depth_now Q now w h2).mono ?_, fun B Q v w hA => (ldepth_now Q now w h2).mono ?_⟩
    · rintro e w' ⟨rfl, rfl⟩; exact ⟨rfl, v, hA, Turn.refl _ _ _⟩
    · rintro e w' ⟨rfl, rfl⟩; exact ⟨rfl, v, hA, Turn.refl _ _ _⟩
/-- what All does: it tells a new row of the messages R -/
def Tells (f : Nat) (oN oS : Nat) (now : Int) (last : Int) (L L' R : List M) (b : Int) : Prop :=
  ∀ (B Q : Nat) (v : Value) (w : World), QAt w 54 B Q oN oS last v L → Calls Try.prog f #[.pointer (some ⟨Q, 0, none⟩), .int .i64 now] w fun e w' => ∃ ao c, e = .returned (.tuple #[.slice ao R.length c, .int .i64 b]) ∧ RowAt w' ao R ∧ (∀ g, ao = some ⟨g, 0, none⟩ → w.heap.size ≤ g) ∧ ∃ v', (∀ g, ao = some ⟨g, 0, none⟩ → v'.ownBlock ≠ some g) ∧ QAt w' 54 B Q oN oS last v' L' ∧ Turn Q v v' w w'
theorem all_both (now : Int) (L : List M) (last : Int) (hI : Inv L last) : ∃ (b : Int) (L' R : List M), Inv L' last ∧ R.length ≤ 200 ∧
    Tells 21 0 1 now last L L' R b ∧ Tells 22 1 0 now last L L' R b := by
  by_cases h2 : 0 ≤ now ∧ now ≤ 1099511627776
  · refine ⟨0, backL now L, backL now L, hI.back now, (hI.back now).len, fun B Q v w hA => (all_yes B Q last v L _ now w hA hI.len h2.1 h2.2 rfl).mono ?_, fun B Q v w hA => (lall_yes B Q last v L _ now w hA hI.len h2.1 h2.2 rfl).mono ?_⟩
    · rintro e w' ⟨G, rfl, hG, hR, v', hO, hA', hT⟩
      exact ⟨_, _, rfl, hR, (fun g hg => by cases hg; exact hG), v', (fun g hg => by cases hg; exact hO), hA', hT⟩
    · rintro e w' ⟨bo, c, rfl, hR, hG, v', hO, hA', hT⟩
      exact ⟨_, _, rfl, hR, hG, v', hO, hA', hT⟩
  · refine ⟨1, L, [], hI, by simp, fun B Q v w hA => (all_now Q now w h2).mono ?_, fun B Q v w hA => (lall_now Q now w h2).mono ?_⟩
    · rintro e w' ⟨rfl, rfl⟩; exact ⟨none, 0, rfl, fun h => absurd h (by simp), (fun g hg => by cases hg), v, (fun g hg => by cases hg), hA, Turn.refl _ _ _⟩
    · rintro e w' ⟨rfl, rfl⟩; exact ⟨none, 0, rfl, fun h => absurd h (by simp), (fun g hg => by cases hg), v, (fun g hg => by cases hg), hA, Turn.refl _ _ _⟩

/-- a row that neither queue has -/
def Off (w : World) (ao : Option Addr) (Q D : Nat) (v u : Value) : Prop := ∀ g, ao = some ⟨g, 0, none⟩ → g < w.heap.size ∧ g ≠ Q ∧ g ≠ D ∧ v.ownBlock ≠ some g ∧ u.ownBlock ≠ some g
theorem Off.left {w w' : World} {ao : Option Addr} {Q D : Nat} {v v' u : Value} (h : Off w ao Q D v u) (t : Turn Q v v' w w') : Off w' ao Q D v' u := by
  intro g hg
  obtain ⟨a, b, c, d, e⟩ := h g hg
  refine ⟨Nat.lt_of_lt_of_le a t.size, b, c, fun x => ?_, e⟩
  rcases t.loc g x with y | y
  · exact d y
  · omega
theorem Off.right {w w' : World} {ao : Option Addr} {Q D : Nat} {v u u' : Value} (h : Off w ao Q D v u) (t : Turn D u u' w w') : Off w' ao Q D v u' := by
  intro g hg
  obtain ⟨a, b, c, d, e⟩ := h g hg
  refine ⟨Nat.lt_of_lt_of_le a t.size, b, c, d, fun x => ?_⟩
  rcases t.loc g x with y | y
  · exact e y
  · omega
theorem RowAt.turn {w w' : World} {ao : Option Addr} {Q : Nat} {v v' : Value} {R : List M} (h : RowAt w ao R) (hO : ∀ g, ao = some ⟨g, 0, none⟩ → g ≠ Q ∧ v.ownBlock ≠ some g) (t : Turn Q v v' w w') : RowAt w' ao R := by
  intro hl
  obtain ⟨g, rfl, hg, hc⟩ := h hl
  obtain ⟨h1, h2⟩ := hO g rfl
  refine ⟨g, rfl, Nat.lt_of_lt_of_le hg t.size, fun i m hm => ?_⟩
  obtain ⟨a, b, c⟩ := hc i m hm
  exact ⟨t.cell a h1 h2, t.cell b h1 h2, t.cell c h1 h2⟩
theorem RowAt.drewN {w : World} {ao : Option Addr} {R : List M} (h : RowAt w ao R) (q : Nat) : RowAt (w.drewN q) ao R := h
end Que
end Go.Proofs.Ytbfnjjdgiihngab
