/- Parts of a line of a plan's text: parsePace, parsePlan. The first line of a plan's text: parsePlan. What the document's answer (tideref) says of a line of a plan's text: planLine, what it wants. What the document's answer (tideref) says of crons: Has, Match, sets. What the document's answer (tideref) says of crons: sets. -/
import Derived.Test.YtcfncgjpbdkagabDoorPk4
import Derived.Deep.RegionHeld
import Derived.Lib.SliceRun
import Derived.Test.YtcfncgjpbdkagabDoorPk2
import Derived.Test.YtcfncgjpbdkagabDoorPk1
import Derived.BigQuiet
import Derived.BigRegion
namespace Go.Proofs.YtcfncgjpbdkagabDoor
namespace Pln
open Go.RowKit Lai Civ Crn Pie
set_option maxRecDepth 8000

theorem plc4 (w : World) (ta : TypeId) (Q a b c d : Nat) : PlcAt (w.alloc (.cells #[.pointer (some ⟨Q, a, none⟩), .pointer (some ⟨Q, b, none⟩), .pointer (some ⟨Q, c, none⟩), .pointer (some ⟨Q, d, none⟩)] ta)) w.heap.size Q [a, b, c, d] := by
  refine ⟨by simp, fun j o h => ?_⟩
  match j, h with
  | 0, h => simp at h; subst h; simp
  | 1, h => simp at h; subst h; simp
  | 2, h => simp at h; subst h; simp
  | 3, h => simp at h; subst h; simp
  | j + 4, h => simp at h
theorem plc2 (w : World) (ta : TypeId) (Q a b : Nat) : PlcAt (w.alloc (.cells #[.pointer (some ⟨Q, a, none⟩), .pointer (some ⟨Q, b, none⟩)] ta)) w.heap.size Q [a, b] := by
  refine ⟨by simp, fun j o h => ?_⟩
  match j, h with
  | 0, h => simp at h; subst h; simp
  | 1, h => simp at h; subst h; simp
  | j + 2, h => simp at h
theorem plc1 (w : World) (ta : TypeId) (Q a : Nat) : PlcAt (w.alloc (.cells #[.pointer (some ⟨Q, a, none⟩)] ta)) w.heap.size Q [a] := by
  refine ⟨by simp, fun j o h => ?_⟩
  match j, h with
  | 0, h => simp at h; subst h; simp
  | j + 1, h => simp at h
/-- what parseNumbers wants of the place of its numbers -/
structure Room (w : World) (Q : Nat) (os : List Nat) : Prop where
  lt : Q < w.heap.size
  fz : ∀ o, w.frozen? ⟨Q, o, none⟩ = false
  num : ∃ ns, Told Q os ns w w
theorem Room.alloc {w : World} {Q : Nat} {os : List Nat} (h : Room w Q os) (o : Obj) : Room (w.alloc o) Q os := by
  have hb := balloc (w := w) o
  obtain ⟨ns, hn⟩ := h.num
  refine ⟨Nat.lt_of_lt_of_le h.lt hb.size, fun j => (World.frozen?_of_block (w := w) (a := ⟨Q, j, none⟩) (hb.block Q h.lt)).trans (h.fz j), ns, hn.len, fun j o n h1 h2 => (World.cell?_of_block (w := w) (a := ⟨Q, o, none⟩) (hb.block Q h.lt)).trans (hn.got j o n h1 h2), fun _ _ => rfl⟩
theorem PS.room {w : World} {e : TypeId} {N Q : Nat} {p : Pd} {ts : List Tr} {v : Value} (h : PS w e N Q p ts v) {os : List Nat} (ho : ∀ o ∈ os, 1 ≤ o ∧ o ≤ 16) : Room w Q os := ⟨h.lt, h.fz, h.told0 ho⟩
theorem PlcAt.drew {w : World} {P Q : Nat} {os : List Nat} (h : PlcAt w P Q os) : PlcAt w.drew P Q os := h
theorem Room.below {w w' : World} {Q : Nat} {os : List Nat} (h : Room w Q os) (hb : Below w.heap.size w w') : Room w' Q os := by
  obtain ⟨ns, hn⟩ := h.num
  exact ⟨Nat.lt_of_lt_of_le h.lt hb.size, fun j => (World.frozen?_of_block (w := w) (a := ⟨Q, j, none⟩) (hb.block Q h.lt)).trans (h.fz j), ns, hn.len, fun j o n h1 h2 => (World.cell?_of_block (w := w) (a := ⟨Q, o, none⟩) (hb.block Q h.lt)).trans (hn.got j o n h1 h2), fun _ _ => rfl⟩
/-- parseNumbers behind its places -/
theorem pnums_w (ws : List (List UInt8)) (os : List Nat) (B off cap Q n : Nat) (w w1 : World) (hW : TxAt w B off ws) (hBQ : B ≠ Q) (hR : Room w Q os) (hd : os.Nodup) (hn : os.length = n) (hn2 : n ≤ 10) (hws : ws.length ≤ 3000) (hx : ∀ x ∈ ws, x.length ≤ 3000) (hb : Below w.heap.size w w1) (hP : PlcAt w1 w.heap.size Q os) :
    Calls Tryd.prog 67 #[.slice (some ⟨B, off, none⟩) ws.length cap, .slice (some ⟨w.heap.size, 0, none⟩) n n] w1 fun e w' => NumsR ws os Q w e w' := by
  subst hn
  have hR' := hR.below hb
  obtain ⟨ns, hn⟩ := hR'.num
  have hne : w.heap.size ≠ Q := by have := hR.lt; omega
  exact (pnums_any ws os ns B off cap w.heap.size Q _ (hW.below hb hW.1) hBQ hP hne hR'.lt hR'.fz hn hd hn2 hws hx).mono fun e w' h => h.from hb hR.lt
theorem bad1 (w : World) (o : Obj) : Below w.heap.size w (w.alloc o).drew := ((Below.refl _ _).alloc (Nat.le_refl _) o).drew
theorem nodup4 (o : Nat) : [o, o + 1, o + 2, o + 3].Nodup := by simp
theorem ppace_any (ws : List (List UInt8)) (B off cap Q o : Nat) (w : World) (hW : TxAt w B off ws) (hBQ : B ≠ Q) (hR : Room w Q [o, o + 1, o + 2, o + 3]) (hws : ws.length ≤ 3000) (hx : ∀ x ∈ ws, x.length ≤ 3000) :
    Calls Tryd.prog 68 #[.pointer (some ⟨Q, o, none⟩), .slice (some ⟨B, off, none⟩) ws.length cap] w fun e w' => NumsR ws [o, o + 1, o + 2, o + 3] Q w e w' := by
  have c0 := fun w1 hb hP => pnums_w ws [o, o + 1, o + 2, o + 3] B off cap Q 4 w w1 hW hBQ hR (nodup4 o) rfl (by decide) hws hx hb hP
  clear hW hR hx
  go_enter Tryd.func68, Tryd.ntmps68
  go_wp2_with fail
  go_region_with (go_at_call 67; (with_reducible refine (c0 _ (bad1 _ _) ?_).mono ?_); exact (plc4 w _ Q o (o + 1) (o + 2) (o + 3)).drew; intro e w1 hN; obtain ⟨rfl, _⟩ := id hN)
  go_wp2
  go_ret
  exact hN
end Pln
end Go.Proofs.YtcfncgjpbdkagabDoor
namespace Go.Proofs.YtcfncgjpbdkagabDoor
namespace Pln
open Go.RowKit Lai Civ Crn Pie
set_option maxRecDepth 8000

theorem clone_any (s : List UInt8) (w : World) (hs : s.length ≤ 3000) :
    Calls Tryd.prog 88 #[strV s] w fun e w' => e = .returned (strV s) ∧ Below w.heap.size w w' := by
  have c0 := Tryd.stringslite_Clone ⟨s.toArray⟩ w (by show s.length ≤ _; omega)
  go_enter Tryd.func88, Tryd.ntmps88
  go_wp2_with (go_at_call 113; (with_reducible refine c0.mono ?_); rintro e w1 ⟨rfl, h1⟩)
  go_ret
  exact ⟨rfl, h1⟩
theorem PS.name {w : World} {e : TypeId} {N Q : Nat} {p : Pd} {ts : List Tr} {v : Value} (h : PS w e N Q p ts v) (nm : List UInt8) : PS (w.setCell ⟨Q, 0, none⟩ (strV nm)) e N Q { p with nm := nm } ts v := by
  refine h.turn (OnlyQ.set Q _ _ _) ?_
  have e1 : (planC p v).setIfInBounds 0 (strV nm) = planC { p with nm := nm } v := by simp
  rw [← e1]
  exact cells_set h.cel 0 _ (by simp)
/-- the words behind the first -/
theorem TxAt.cut {w : World} {B off cap : Nat} {x : List UInt8} {r : List (List UInt8)} (h : TxAt w B off (x :: r)) (hc : r.length + 1 ≤ cap) : ∃ o2, (if cap = 1 then some (⟨B, off, none⟩ : Addr) else some ⟨B, off + 1, none⟩) = some ⟨B, o2, none⟩ ∧ TxAt w B o2 r := by
  by_cases e : cap = 1
  · have : r = [] := List.length_eq_zero_iff.1 (by omega)
    subst this
    exact ⟨off, by rw [if_pos e], h.1, fun j y hy => by simp at hy⟩
  · exact ⟨off + 1, by rw [if_neg e], h.tail⟩
set_option maxHeartbeats 4000000 in
theorem pplan_any (ws : List (List UInt8)) (B off cap N Q : Nat) (p : Pd) (ts : List Tr) (v : Value) (w : World) (hS : PS w 63 N Q p ts v) (hW : TxAt w B off ws) (hBQ : B ≠ Q) (hws : ws.length ≤ 3000) (hcap : ws.length ≤ cap) (hx : ∀ x ∈ ws, x.length ≤ 3000) :
    Calls Tryd.prog 66 #[.pointer (some ⟨Q, 0, none⟩), .slice (some ⟨B, off, none⟩) ws.length cap] w fun e w' => LineR 63 N Q w ((line0 (wPlan :: ws) p).map fun p => (p, ts)) e w' := by
  have hN := hS.nN
  cases ws with
  | nil =>
    clear hW hx
    go_enter Tryd.func66, Tryd.ntmps66
    go_wp2
    go_ret
    exact ⟨rfl, Below.refl _ _⟩
  | cons nm r =>
    have cx : w.cell? ⟨B, off, none⟩ = some (strV nm) := hW.2 0 nm rfl
    have hln := hx nm List.mem_cons_self
    have c1 := fun w => isName_any nm w (by omega)
    have hlen : (nm :: r).length = r.length + 1 := rfl
    rw [hlen]
    rw [hlen] at hcap hws
    have h1 : ¬ ((r.length : Int) + 1 < 1) := by omega
    have HS : Hid (PS w 63 N Q p ts v) := hS
    have hQl := hS.lt
    have hBl := hW.1
    cases hnm : nmB nm
    · rw [hnm] at c1
      have HL : Hid (line0 (wPlan :: nm :: r) p = none) := by unfold Hid line0; dsimp only; rw [if_neg (fun q => by rw [hnm] at q; cases q.2)]
      clear hW hx hS hnm
      go_enter Tryd.func66, Tryd.ntmps66
      go_wp2_with (go_at_call 35; (with_reducible refine (c1 _).mono ?_); rintro e w1 ⟨rfl, hb1⟩)
      go_ret
      rw [HL.out]
      exact ⟨rfl, hb1.mono hN⟩
    · rw [hnm] at c1
      have c2 := fun w => clone_any nm w hln
      have HL : Hid (line0 (wPlan :: nm :: r) p = (four r).map fun q => { p with nm := nm, mn := q.1, mx := q.2.1, po := q.2.2.1, co := q.2.2.2 }) := by unfold Hid line0; dsimp only; rw [if_pos ⟨rfl, hnm⟩]
      have HW : Hid (TxAt w B off (nm :: r)) := hW
      have HX : Hid (∀ x ∈ nm :: r, x.length ≤ 3000) := hx
      clear hW hx hS hnm
      go_enter Tryd.func66, Tryd.ntmps66
      go_wp2_with (first
        | (go_at_call 35; (with_reducible refine (c1 _).mono ?_); rintro e w1 ⟨rfl, hb1⟩; have hs1 := hb1.size; have cx1 := (hb1.cell (p := ⟨B, off, none⟩) hBl).trans cx)
        | (go_at_call 88; (with_reducible refine (c2 _).mono ?_); rintro e w2 ⟨rfl, hb2⟩; have hs2 := hb2.size; have HS2 : Hid (PS w2 63 N Q p ts v) := (HS.out.below hb1).below hb2; have d0 : w2.cell? ⟨Q, 0, none⟩ = some (strV p.nm) := HS2.out.cel 0; have f0 := HS2.out.fz 0; have hQ2 := HS2.out.lt))
      have hS3 := HS2.out.name nm
      have hb3 : Below N w (w2.setCell ⟨Q, 0, none⟩ (strV nm)) := (hb1.mono hN).trans ((hb2.mono (by omega)).trans ((OnlyQ.set Q w2 0 (strV nm)).below hS3.bQ HS2.out.nN))
      have hW3 : TxAt (w2.setCell ⟨Q, 0, none⟩ (strV nm)) B off (nm :: r) := ((HW.out.below hb1 hBl).below hb2 (by omega)).only (OnlyQ.set Q w2 0 (strV nm)) hBQ
      generalize w2.setCell ⟨Q, 0, none⟩ (strV nm) = W at *
      obtain ⟨o2, hif, hW4⟩ := hW3.cut hcap
      have c3 := fun w1 hb hP => pnums_w r [1, 2, 3, 4] B o2 (cap - 1) Q 4 W w1 hW4 hBQ (hS3.room (by simp)) (by decide) rfl (by decide) (by omega) (fun x hx => HX.out x (List.mem_cons_of_mem _ hx)) hb hP
      have HS3 : Hid (PS W 63 N Q { p with nm := nm } ts v) := hS3
      have HB3 : Hid (Below N w W) := hb3
      clear hS3 hb3 hW3 hW4 HS2 HS HW c1 c2 d0 f0 hb1 hb2 cx1 cx
      go_region_with (go_at_call 67; (with_reducible refine (c3 _ (bad1 _ _) ?_).mono ?_); exact (plc4 W _ Q 1 2 3 4).drew; intro e w5 hN5; obtain ⟨rfl, _⟩ := id hN5)
      go_wp2
      go_ret
      have := (hN5.line HS3.out rfl (by decide) (by simp) (fun q => { p with nm := nm, mn := q.1, mx := q.2.1, po := q.2.2.1, co := q.2.2.2 }) (fun a b c d => by simp [setAll])).from HB3.out
      rw [HL.out, Option.map_map]
      exact this
end Pln
end Go.Proofs.YtcfncgjpbdkagabDoor
namespace Go.Proofs.YtcfncgjpbdkagabDoor
namespace Pln
open Go.RowKit Lai Civ Crn Pie
set_option maxRecDepth 8000
set_option linter.unusedSimpArgs false
set_option linter.unusedVariables false

/-- a cell of the plan is told anew -/
theorem PS.setc {w : World} {e : TypeId} {N Q : Nat} {p p' : Pd} {ts : List Tr} {v : Value} (h : PS w e N Q p ts v) (o : Nat) (u : Value) (ho : o < 18) (hp : (planC p v).setIfInBounds o u = planC p' v) : PS (w.setCell ⟨Q, o, none⟩ u) e N Q p' ts v :=
  h.turn (OnlyQ.set Q _ _ _) (by rw [← hp]; exact cells_set h.cel o u (by simpa using ho))
theorem PS.drew {w : World} {e : TypeId} {N Q : Nat} {p : Pd} {ts : List Tr} {v : Value} (h : PS w e N Q p ts v) : PS w.drew e N Q p ts v := h.below ((Below.refl _ _).drew)
/-- four numbers that lie in a row -/
def Ns4 (g : Nat) (a b c d : Int) (w : World) : Prop := w.cell? ⟨g, 0, none⟩ = some (.int .i64 a) ∧ w.cell? ⟨g, 1, none⟩ = some (.int .i64 b) ∧ w.cell? ⟨g, 2, none⟩ = some (.int .i64 c) ∧ w.cell? ⟨g, 3, none⟩ = some (.int .i64 d)
theorem Ns4.set {g Q : Nat} {a b c d : Int} {w : World} (h : Ns4 g a b c d w) (hg : g ≠ Q) (o : Nat) (u : Value) : Ns4 g a b c d (w.setCell ⟨Q, o, none⟩ u) := by
  obtain ⟨h0, h1, h2, h3⟩ := h
  have k : ∀ j, (w.setCell ⟨Q, o, none⟩ u).cell? ⟨g, j, none⟩ = w.cell? ⟨g, j, none⟩ := fun j => World.cell?_setCell_other _ _ _ _ (fun e => hg (congrArg Addr.block e).symm)
  exact ⟨(k 0).trans h0, (k 1).trans h1, (k 2).trans h2, (k 3).trans h3⟩
theorem Ns4.below {g n : Nat} {a b c d : Int} {w w' : World} (h : Ns4 g a b c d w) (hb : Below n w w') (hg : g < n) : Ns4 g a b c d w' := by
  obtain ⟨h0, h1, h2, h3⟩ := h
  exact ⟨(hb.cell (p := ⟨g, 0, none⟩) hg).trans h0, (hb.cell (p := ⟨g, 1, none⟩) hg).trans h1, (hb.cell (p := ⟨g, 2, none⟩) hg).trans h2, (hb.cell (p := ⟨g, 3, none⟩) hg).trans h3⟩
theorem Ns4.drew {g : Nat} {a b c d : Int} {w : World} (h : Ns4 g a b c d w) : Ns4 g a b c d w.drew := h
/-- wholes of four words: they are numbers, or they are not -/
theorem four_w (r : List (List UInt8)) (B o cap : Nat) (w : World) (hW : TxAt w B o r) (hr : r.length ≤ 3000) (hx : ∀ x ∈ r, x.length ≤ 3000) :
    (four r = none ∧ Calls Tryd.prog 70 #[.slice (some ⟨B, o, none⟩) r.length cap, .int .i64 4, .int .i64 7] w fun e w' => e = .returned (.slice none 0 0) ∧ Below w.heap.size w w') ∨
    ∃ a b c d, four r = some (a, b, c, d) ∧ Calls Tryd.prog 70 #[.slice (some ⟨B, o, none⟩) r.length cap, .int .i64 4, .int .i64 7] w fun e w' => (∃ g k, e = .returned (.slice (some ⟨g, 0, none⟩) 4 k) ∧ w.heap.size ≤ g ∧ g < w'.heap.size ∧ Ns4 g a b c d w') ∧ Below w.heap.size w w' := by
  have c0 := rwholes r 4 B o cap w hW (by decide) (by decide) hr hx
  cases hB : NsB 4 r
  · refine Or.inl ⟨four_no hB, c0.mono fun e w' h => ⟨?_, h.1⟩⟩
    rcases h.2 with ⟨_, q⟩ | ⟨q, _⟩
    · exact q
    · rw [hB] at q; cases q
  · obtain ⟨hl, hn⟩ := nsB_iff hB
    match r, hl with
    | [x, y, z, u], _ =>
      obtain ⟨a, ha⟩ := hn x (by simp)
      obtain ⟨b, hb⟩ := hn y (by simp)
      obtain ⟨c, hc⟩ := hn z (by simp)
      obtain ⟨d, hd⟩ := hn u (by simp)
      refine Or.inr ⟨a, b, c, d, by unfold four; dsimp only; rw [ha, hb, hc, hd], c0.mono fun e w' h => ⟨?_, h.1⟩⟩
      rcases h.2 with ⟨q, _⟩ | ⟨_, g, k, ns, he, hl, hg, hc1, hc2, hc3⟩
      · rw [hB] at q; cases q
      · have m0 := (hc2 0 x rfl).symm.trans ha
        have m1 := (hc2 1 y rfl).symm.trans hb
        have m2 := (hc2 2 z rfl).symm.trans hc
        have m3 := (hc2 3 u rfl).symm.trans hd
        exact ⟨g, k, he, hc3, hg, hc1 0 a m0, hc1 1 b m1, hc1 2 c m2, hc1 3 d m3⟩
end Pln
end Go.Proofs.YtcfncgjpbdkagabDoor
namespace Go.Proofs.YtcfncgjpbdkagabDoor
namespace RCrn
open Go.RowKit Lai Civ Cal Crn RCiv
set_option maxRecDepth 8000

theorem odd_in (s n : Int) (h0 : 0 ≤ s) (hn : 0 ≤ n ∧ n ≤ 63) : (s / 2 ^ n.toNat % 2 == 1) = inS s n := by
  obtain ⟨S, rfl⟩ := Int.eq_ofNat_of_zero_le h0
  obtain ⟨N, rfl⟩ := Int.eq_ofNat_of_zero_le hn.1
  rw [inS_nat, decide_eq_true (show N ≤ 63 by omega), Bool.true_and, Nat.testBit_eq_decide_div_mod_eq, Int.toNat_natCast]
  rw [show ((S : Int) / 2 ^ N) = ((S / 2 ^ N : Nat) : Int) by simp, Bool.eq_iff_iff]
  simp only [beq_iff_eq, decide_eq_true_eq]
  omega
theorem rhas_any (s n : Int) (w : World) (h0 : 0 ≤ s ∧ s ≤ 18446744073709551615) :
    Calls Tryd.prog 45 #[.int .u64 s, .int .i64 n] w fun e w' => e = .returned (.bool (inS s n)) ∧ w' = w := by
  by_cases g : 0 ≤ n ∧ n ≤ 63
  · have hI : inB n 0 63 = true := (in_iff _ _ _).2 g
    have HO : Hid ((s / 2 ^ n.toNat % 2 == 1) = inS s n) := odd_in s n h0.1 g
    have hq0 : 0 ≤ s / 2 ^ n.toNat := Int.ediv_nonneg h0.1 (by exact Int.le_of_lt (Int.pow_pos (by omega)))
    have c := fun w => in_any n 0 63 w
    rw [hI] at c
    clear hI
    go_enter Tryd.func45, Tryd.ntmps45
    go_wp2_with (go_at_call 22; (with_reducible refine (c _).mono ?_); rintro e w' ⟨rfl, rfl⟩)
    go_ret
    exact ⟨ret_bool HO.out, rfl⟩
  · have hI : inB n 0 63 = false := by cases h : inB n 0 63; rfl; exact absurd ((in_iff _ _ _).1 h) g
    have HO : Hid (inS s n = false) := by
      unfold Hid
      by_cases g2 : n < 0
      · exact inS_neg _ _ g2
      · exact inS_big _ _ (by omega)
    have c := fun w => in_any n 0 63 w
    rw [hI] at c
    clear hI
    go_enter Tryd.func45, Tryd.ntmps45
    go_wp2_with (go_at_call 22; (with_reducible refine (c _).mono ?_); rintro e w' ⟨rfl, rfl⟩)
    go_ret
    exact ⟨ret_bool HO.out.symm, rfl⟩

theorem rm_eq (D W H M N ad aw : Bool) : (N && ((D && W) || ((!ad && !aw) && (D || W))) && (H && M)) = (((if (!ad && !aw) = true then D || W else D && W) && M) && H && N) := by
  revert D W H M N ad aw; decide

set_option maxHeartbeats 8000000 in
theorem rmatch_any (mi ho da mo we : Int) (ad aw : Bool) (y m d h i s k : Int) (w : World) (b0 : U mi) (b1 : U ho) (b2 : U da) (b3 : U mo) (b4 : U we) :
    Calls Tryd.prog 50 #[cronV mi ho da mo we ad aw, civ y m d h i s k] w fun e w' => e = .returned (.bool (mtB mi ho da mo we ad aw m d h i k)) ∧ Below w.heap.size w w' := by
  have c1 := fun w => rhas_any da d w b2
  have c2 := fun w => rhas_any we k w b4
  have c3 := fun w => rhas_any mi i w b0
  have c4 := fun w => rhas_any ho h w b1
  have c5 := fun w => rhas_any mo m w b3
  have HR : Hid (mtB mi ho da mo we ad aw m d h i k = (((if (!ad && !aw) = true then inS da d || inS we k else inS da d && inS we k) && inS mi i) && inS ho h && inS mo m)) := rm_eq _ _ _ _ _ _ _
  generalize mtB mi ho da mo we ad aw m d h i k = R at HR
  generalize inS da d = D at c1 HR
  generalize inS we k = W at c2 HR
  generalize inS mi i = M at c3 HR
  generalize inS ho h = H at c4 HR
  generalize inS mo m = N at c5 HR
  clear b0 b1 b2 b3 b4
  cases D <;> cases W <;> cases ad <;> cases aw
  all_goals
    go_enter Tryd.func50, Tryd.ntmps50
    go_wp2
    go_quiet (first | (go_at_call 45; with_reducible refine Calls.quiet_of_same (c1 _)) | (go_at_call 45; with_reducible refine Calls.quiet_of_same (c2 _)))
    go_wp2_with (first
      | (go_at_call 45; (with_reducible refine (c3 _).mono ?_); rintro e w1 ⟨rfl, rfl⟩; cases M)
      | (go_at_call 45; (with_reducible refine (c4 _).mono ?_); rintro e w1 ⟨rfl, rfl⟩; cases H)
      | (go_at_call 45; (with_reducible refine (c5 _).mono ?_); rintro e w1 ⟨rfl, rfl⟩))
    all_goals
      go_ret
      exact ⟨ret_bool (by have h := HR.out; revert h; cases N <;> cases R <;> simp), bdrewN (((Below.refl _ _).alloc (Nat.le_refl _) _).alloc (by simp) _) _⟩

end RCrn
end Go.Proofs.YtcfncgjpbdkagabDoor
namespace Go.Proofs.YtcfncgjpbdkagabDoor
namespace RCrn
open Go.RowKit Lai Civ Cal Crn RCiv
set_option maxRecDepth 8000

theorem keep_alloc {W : World} {o : Obj} {a : Addr} {v : Value} (h : W.cell? a = some v) : (W.alloc o).cell? a = some v := by
  rw [World.cell?_alloc_some _ _ _ (by rw [h]; rfl)]; exact h
theorem keep_drew {W : World} {a : Addr} {v : Value} (h : W.cell? a = some v) : W.drew.cell? a = some v := h

theorem new1 (X : World) (D : Array Value) (t : TypeId) (o : Nat) : (X.alloc (.cells D t)).cell? ⟨X.heap.size, o, none⟩ = D[o]? := by simp
theorem new3 (W : World) (A B C : Array Value) (ta tb tc : TypeId) :
    (∀ o, (((W.alloc (.cells A ta)).alloc (.cells B tb)).alloc (.cells C tc)).drew.cell? ⟨W.heap.size, o, none⟩ = A[o]?) ∧
    (∀ o, (((W.alloc (.cells A ta)).alloc (.cells B tb)).alloc (.cells C tc)).drew.cell? ⟨W.heap.size + 1, o, none⟩ = B[o]?) ∧
    (∀ o, (((W.alloc (.cells A ta)).alloc (.cells B tb)).alloc (.cells C tc)).drew.cell? ⟨W.heap.size + 1 + 1, o, none⟩ = C[o]?) ∧
    W.heap.size + 1 + 1 < (((W.alloc (.cells A ta)).alloc (.cells B tb)).alloc (.cells C tc)).drew.heap.size ∧
    Below W.heap.size W (((W.alloc (.cells A ta)).alloc (.cells B tb)).alloc (.cells C tc)).drew := by
  refine ⟨fun o => ?_, fun o => ?_, fun o => ?_, ?_, ?_⟩
  · show (((W.alloc (.cells A ta)).alloc (.cells B tb)).alloc (.cells C tc)).cell? _ = _
    rw [(bcell (balloc _)).1 _ _ (by simp; omega), (bcell (balloc _)).1 _ _ (by simp)]; simp
  · show (((W.alloc (.cells A ta)).alloc (.cells B tb)).alloc (.cells C tc)).cell? _ = _
    rw [(bcell (balloc _)).1 _ _ (by simp)]
    have e : W.heap.size + 1 = (W.alloc (.cells A ta)).heap.size := by simp
    rw [e]; simp
  · show (((W.alloc (.cells A ta)).alloc (.cells B tb)).alloc (.cells C tc)).cell? _ = _
    have e : W.heap.size + 1 + 1 = ((W.alloc (.cells A ta)).alloc (.cells B tb)).heap.size := by simp
    rw [e]; exact new1 _ _ _ _
  · show _ < (((W.alloc (.cells A ta)).alloc (.cells B tb)).alloc (.cells C tc)).heap.size
    simp
  · exact ((((Below.refl _ _).alloc (Nat.le_refl _) _).alloc (by simp) _).alloc (by simp; omega) _).drew

set_option maxHeartbeats 8000000 in
theorem rsets_any (mi ho da mo we : Int) (ad aw : Bool) (w : World) :
    Calls Tryd.prog 44 #[cronV mi ho da mo we ad aw] w fun e w' => ∃ p q r : Nat, e = .returned (.tuple #[.slice (some ⟨p, 0, none⟩) 5 5, .slice (some ⟨q, 0, none⟩) 5 5, .slice (some ⟨r, 0, none⟩) 5 5]) ∧ p < w'.heap.size ∧ q < w'.heap.size ∧ r < w'.heap.size ∧
      (∀ o, w'.cell? ⟨p, o, none⟩ = (#[Value.int .u64 mi, .int .u64 ho, .int .u64 da, .int .u64 mo, .int .u64 we])[o]?) ∧
      (∀ o, w'.cell? ⟨q, o, none⟩ = (#[Value.int .i64 0, .int .i64 59, .int .i64 0, .int .i64 23, .int .i64 1, .int .i64 31, .int .i64 1, .int .i64 12, .int .i64 0, .int .i64 6])[o]?) ∧
      (∀ o, w'.cell? ⟨r, o, none⟩ = (#[Value.bool false, .bool false, .bool ad, .bool false, .bool aw])[o]?) ∧ Below w.heap.size w w' := by
  go_enter Tryd.func44, Tryd.ntmps44
  go_wp2
  obtain ⟨w0, hw0⟩ : ∃ w0, w0 = w.alloc (Obj.cells #[Value.int .u64 mi, .int .u64 ho, .int .u64 da, .int .u64 mo, .int .u64 we, .bool ad, .bool aw] 24) := ⟨_, rfl⟩
  have h0 : w0.cell? ⟨w.heap.size, 0, none⟩ = some (.int .u64 mi) := by rw [hw0]; simp
  have h1 : w0.cell? ⟨w.heap.size, 1, none⟩ = some (.int .u64 ho) := by rw [hw0]; simp
  have h2 : w0.cell? ⟨w.heap.size, 2, none⟩ = some (.int .u64 da) := by rw [hw0]; simp
  have h3 : w0.cell? ⟨w.heap.size, 3, none⟩ = some (.int .u64 mo) := by rw [hw0]; simp
  have h4 : w0.cell? ⟨w.heap.size, 4, none⟩ = some (.int .u64 we) := by rw [hw0]; simp
  have h5 : w0.cell? ⟨w.heap.size, 5, none⟩ = some (.bool ad) := by rw [hw0]; simp
  have h6 : w0.cell? ⟨w.heap.size, 6, none⟩ = some (.bool aw) := by rw [hw0]; simp
  have z0 : w.heap.size < w0.heap.size := by rw [hw0]; simp
  have z1 : w.heap.size < w0.heap.size + 1 := by omega
  have z2 : w.heap.size < w0.heap.size + 1 + 1 := by omega
  have hbel : Hid (Below w.heap.size w w0) := by rw [hw0]; exact balloc _
  rw [← hw0]
  clear hw0
  go_region_held (fun w' => w'.cell? ⟨w.heap.size, 0, none⟩ = some (.int .u64 mi) ∧ w'.cell? ⟨w.heap.size, 1, none⟩ = some (.int .u64 ho) ∧ w'.cell? ⟨w.heap.size, 2, none⟩ = some (.int .u64 da) ∧ w'.cell? ⟨w.heap.size, 3, none⟩ = some (.int .u64 mo) ∧ w'.cell? ⟨w.heap.size, 4, none⟩ = some (.int .u64 we) ∧ w'.cell? ⟨w.heap.size, 5, none⟩ = some (.bool ad) ∧ w'.cell? ⟨w.heap.size, 6, none⟩ = some (.bool aw)) ((refine ⟨?_, ?_, ?_, ?_, ?_, ?_, ?_⟩ <;> with_reducible refine keep_drew ?_) <;> ((repeat with_reducible refine keep_alloc ?_) <;> assumption)) (fail)
  all_goals
    go_wp2
    go_ret3
    refine ⟨_, _, _, rfl, ?_, ?_, ?_, ?_, ?_, ?_, ?_⟩
  all_goals first
    | exact (new3 w0 _ _ _ _ _ _).2.2.2.1
    | exact Nat.lt_trans (Nat.lt_succ_self _) (new3 w0 _ _ _ _ _ _).2.2.2.1
    | exact Nat.lt_trans (Nat.lt_succ_self _) (Nat.lt_trans (Nat.lt_succ_self _) (new3 w0 _ _ _ _ _ _).2.2.2.1)
    | exact (new3 w0 _ _ _ _ _ _).1
    | exact (new3 w0 _ _ _ _ _ _).2.1
    | exact (new3 w0 _ _ _ _ _ _).2.2.1
    | exact hbel.out.trans ((new3 w0 _ _ _ _ _ _).2.2.2.2.mono (Nat.le_of_lt z0))
end RCrn
end Go.Proofs.YtcfncgjpbdkagabDoor
