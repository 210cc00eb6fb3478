/- Parts of a line of a plan's text: parsePace, parsePlan. The first line of a plan's text: parsePlan. -/
import Derived.Test.YtcaobnmfgnbolabDoorPlanNums
import Derived.Test.YtcaobnmfgnbolabDoorPk8
namespace Go.Proofs.YtcaobnmfgnbolabDoor
namespace Pln
open Go.RowKit Lai Civ Crn Pie
set_option maxRecDepth 8000

theorem plc4 (w : World) (ta : TypeId) (Q a b c d : Nat) : PlcAt (w.alloc (.cells #[.pointer (some ⟨Q, a, none⟩), .pointer (some ⟨Q, b, none⟩), .pointer (some ⟨Q, c, none⟩), .pointer (some ⟨Q, d, none⟩)] ta)) w.heap.size Q [a, b, c, d] := by
  refine ⟨by simp, fun j o h => ?_⟩
  match j, h with
  | 0, h => simp at h; subst h; simp
  | 1, h => simp at h; subst h; simp
  | 2, h => simp at h; subst h; simp
  | 3, h => simp at h; subst h; simp
  | j + 4, h => simp at h
theorem plc2 (w : World) (ta : TypeId) (Q a b : Nat) : PlcAt (w.alloc (.cells #[.pointer (some ⟨Q, a, none⟩), .pointer (some ⟨Q, b, none⟩)] ta)) w.heap.size Q [a, b] := by
  refine ⟨by simp, fun j o h => ?_⟩
  match j, h with
  | 0, h => simp at h; subst h; simp
  | 1, h => simp at h; subst h; simp
  | j + 2, h => simp at h
theorem plc1 (w : World) (ta : TypeId) (Q a : Nat) : PlcAt (w.alloc (.cells #[.pointer (some ⟨Q, a, none⟩)] ta)) w.heap.size Q [a] := by
  refine ⟨by simp, fun j o h => ?_⟩
  match j, h with
  | 0, h => simp at h; subst h; simp
  | j + 1, h => simp at h
/-- what parseNumbers wants of the place of its numbers -/
structure Room (w : World) (Q : Nat) (os : List Nat) : Prop where
  lt : Q < w.heap.size
  fz : ∀ o, w.frozen? ⟨Q, o, none⟩ = false
  num : ∃ ns, Told Q os ns w w
theorem Room.alloc {w : World} {Q : Nat} {os : List Nat} (h : Room w Q os) (o : Obj) : Room (w.alloc o) Q os := by
  have hb := balloc (w := w) o
  obtain ⟨ns, hn⟩ := h.num
  refine ⟨Nat.lt_of_lt_of_le h.lt hb.size, fun j => (World.frozen?_of_block (w := w) (a := ⟨Q, j, none⟩) (hb.block Q h.lt)).trans (h.fz j), ns, hn.len, fun j o n h1 h2 => (World.cell?_of_block (w := w) (a := ⟨Q, o, none⟩) (hb.block Q h.lt)).trans (hn.got j o n h1 h2), fun _ _ => rfl⟩
theorem PS.room {w : World} {e : TypeId} {N Q : Nat} {p : Pd} {ts : List Tr} {v : Value} (h : PS w e N Q p ts v) {os : List Nat} (ho : ∀ o ∈ os, 1 ≤ o ∧ o ≤ 16) : Room w Q os := ⟨h.lt, h.fz, h.told0 ho⟩
theorem PlcAt.drew {w : World} {P Q : Nat} {os : List Nat} (h : PlcAt w P Q os) : PlcAt w.drew P Q os := h
theorem Room.below {w w' : World} {Q : Nat} {os : List Nat} (h : Room w Q os) (hb : Below w.heap.size w w') : Room w' Q os := by
  obtain ⟨ns, hn⟩ := h.num
  exact ⟨Nat.lt_of_lt_of_le h.lt hb.size, fun j => (World.frozen?_of_block (w := w) (a := ⟨Q, j, none⟩) (hb.block Q h.lt)).trans (h.fz j), ns, hn.len, fun j o n h1 h2 => (World.cell?_of_block (w := w) (a := ⟨Q, o, none⟩) (hb.block Q h.lt)).trans (hn.got j o n h1 h2), fun _ _ => rfl⟩
/-- parseNumbers behind its places -/
theorem pnums_w (ws : List (List UInt8)) (os : List Nat) (B off cap Q n : Nat) (w w1 : World) (hW : TxAt w B off ws) (hBQ : B ≠ Q) (hR : Room w Q os) (hd : os.Nodup) (hn : os.length = n) (hn2 : n ≤ 10) (hws : ws.length ≤ 3000) (hx : ∀ x ∈ ws, x.length ≤ 3000) (hb : Below w.heap.size w w1) (hP : PlcAt w1 w.heap.size Q os) :
    Calls Tryd.prog 82 #[.slice (some ⟨B, off, none⟩) ws.length cap, .slice (some ⟨w.heap.size, 0, none⟩) n n] w1 fun e w' => NumsR ws os Q w e w' := by
  subst hn
  have hR' := hR.below hb
  obtain ⟨ns, hn⟩ := hR'.num
  have hne : w.heap.size ≠ Q := by have := hR.lt; omega
  exact (pnums_any ws os ns B off cap w.heap.size Q _ (hW.below hb hW.1) hBQ hP hne hR'.lt hR'.fz hn hd hn2 hws hx).mono fun e w' h => h.from hb hR.lt
theorem bad1 (w : World) (o : Obj) : Below w.heap.size w (w.alloc o).drew := ((Below.refl _ _).alloc (Nat.le_refl _) o).drew
theorem nodup4 (o : Nat) : [o, o + 1, o + 2, o + 3].Nodup := by simp
theorem ppace_any (ws : List (List UInt8)) (B off cap Q o : Nat) (w : World) (hW : TxAt w B off ws) (hBQ : B ≠ Q) (hR : Room w Q [o, o + 1, o + 2, o + 3]) (hws : ws.length ≤ 3000) (hx : ∀ x ∈ ws, x.length ≤ 3000) :
    Calls Tryd.prog 83 #[.pointer (some ⟨Q, o, none⟩), .slice (some ⟨B, off, none⟩) ws.length cap] w fun e w' => NumsR ws [o, o + 1, o + 2, o + 3] Q w e w' := by
  have c0 := fun w1 hb hP => pnums_w ws [o, o + 1, o + 2, o + 3] B off cap Q 4 w w1 hW hBQ hR (nodup4 o) rfl (by decide) hws hx hb hP
  clear hW hR hx
  go_enter Tryd.func83, Tryd.ntmps83
  go_wp2_with fail
  go_region_with (go_at_call 82; (with_reducible refine (c0 _ (bad1 _ _) ?_).mono ?_); exact (plc4 w _ Q o (o + 1) (o + 2) (o + 3)).drew; intro e w1 hN; obtain ⟨rfl, _⟩ := id hN)
  go_wp2
  go_ret
  exact hN
end Pln
end Go.Proofs.YtcaobnmfgnbolabDoor
namespace Go.Proofs.YtcaobnmfgnbolabDoor
namespace Pln
open Go.RowKit Lai Civ Crn Pie
set_option maxRecDepth 8000

theorem clone_any (s : List UInt8) (w : World) (hs : s.length ≤ 3000) :
    Calls Tryd.prog 109 #[strV s] w fun e w' => e = .returned (strV s) ∧ Below w.heap.size w w' := by
  have c0 := Tryd.stringslite_Clone ⟨s.toArray⟩ w (by show s.length ≤ _; omega)
  go_enter Tryd.func109, Tryd.ntmps109
  go_wp2_with (go_at_call 136; (with_reducible refine c0.mono ?_); rintro e w1 ⟨rfl, h1⟩)
  go_ret
  exact ⟨rfl, h1⟩
theorem PS.name {w : World} {e : TypeId} {N Q : Nat} {p : Pd} {ts : List Tr} {v : Value} (h : PS w e N Q p ts v) (nm : List UInt8) : PS (w.setCell ⟨Q, 0, none⟩ (strV nm)) e N Q { p with nm := nm } ts v := by
  refine h.turn (OnlyQ.set Q _ _ _) ?_
  have e1 : (planC p v).setIfInBounds 0 (strV nm) = planC { p with nm := nm } v := by simp
  rw [← e1]
  exact cells_set h.cel 0 _ (by simp)
/-- the words behind the first -/
theorem TxAt.cut {w : World} {B off cap : Nat} {x : List UInt8} {r : List (List UInt8)} (h : TxAt w B off (x :: r)) (hc : r.length + 1 ≤ cap) : ∃ o2, (if cap = 1 then some (⟨B, off, none⟩ : Addr) else some ⟨B, off + 1, none⟩) = some ⟨B, o2, none⟩ ∧ TxAt w B o2 r := by
  by_cases e : cap = 1
  · have : r = [] := List.length_eq_zero_iff.1 (by omega)
    subst this
    exact ⟨off, by rw [if_pos e], h.1, fun j y hy => by simp at hy⟩
  · exact ⟨off + 1, by rw [if_neg e], h.tail⟩
set_option maxHeartbeats 4000000 in
theorem pplan_any (ws : List (List UInt8)) (B off cap N Q : Nat) (p : Pd) (ts : List Tr) (v : Value) (w : World) (hS : PS w 55 N Q p ts v) (hW : TxAt w B off ws) (hBQ : B ≠ Q) (hws : ws.length ≤ 3000) (hcap : ws.length ≤ cap) (hx : ∀ x ∈ ws, x.length ≤ 3000) :
    Calls Tryd.prog 81 #[.pointer (some ⟨Q, 0, none⟩), .slice (some ⟨B, off, none⟩) ws.length cap] w fun e w' => LineR 55 N Q w ((line0 (wPlan :: ws) p).map fun p => (p, ts)) e w' := by
  have hN := hS.nN
  cases ws with
  | nil =>
    clear hW hx
    go_enter Tryd.func81, Tryd.ntmps81
    go_wp2
    go_ret
    exact ⟨rfl, Below.refl _ _⟩
  | cons nm r =>
    have cx : w.cell? ⟨B, off, none⟩ = some (strV nm) := hW.2 0 nm rfl
    have hln := hx nm List.mem_cons_self
    have c1 := fun w => isName_any nm w (by omega)
    have hlen : (nm :: r).length = r.length + 1 := rfl
    rw [hlen]
    rw [hlen] at hcap hws
    have h1 : ¬ ((r.length : Int) + 1 < 1) := by omega
    have HS : Hid (PS w 55 N Q p ts v) := hS
    have hQl := hS.lt
    have hBl := hW.1
    cases hnm : nmB nm
    · rw [hnm] at c1
      have HL : Hid (line0 (wPlan :: nm :: r) p = none) := by unfold Hid line0; dsimp only; rw [if_neg (fun q => by rw [hnm] at q; cases q.2)]
      clear hW hx hS hnm
      go_enter Tryd.func81, Tryd.ntmps81
      go_wp2_with (go_at_call 40; (with_reducible refine (c1 _).mono ?_); rintro e w1 ⟨rfl, hb1⟩)
      go_ret
      rw [HL.out]
      exact ⟨rfl, hb1.mono hN⟩
    · rw [hnm] at c1
      have c2 := fun w => clone_any nm w hln
      have HL : Hid (line0 (wPlan :: nm :: r) p = (four r).map fun q => { p with nm := nm, mn := q.1, mx := q.2.1, po := q.2.2.1, co := q.2.2.2 }) := by unfold Hid line0; dsimp only; rw [if_pos ⟨rfl, hnm⟩]
      have HW : Hid (TxAt w B off (nm :: r)) := hW
      have HX : Hid (∀ x ∈ nm :: r, x.length ≤ 3000) := hx
      clear hW hx hS hnm
      go_enter Tryd.func81, Tryd.ntmps81
      go_wp2_with (first
        | (go_at_call 40; (with_reducible refine (c1 _).mono ?_); rintro e w1 ⟨rfl, hb1⟩; have hs1 := hb1.size; have cx1 := (hb1.cell (p := ⟨B, off, none⟩) hBl).trans cx)
        | (go_at_call 109; (with_reducible refine (c2 _).mono ?_); rintro e w2 ⟨rfl, hb2⟩; have hs2 := hb2.size; have HS2 : Hid (PS w2 55 N Q p ts v) := (HS.out.below hb1).below hb2; have d0 : w2.cell? ⟨Q, 0, none⟩ = some (strV p.nm) := HS2.out.cel 0; have f0 := HS2.out.fz 0; have hQ2 := HS2.out.lt))
      have hS3 := HS2.out.name nm
      have hb3 : Below N w (w2.setCell ⟨Q, 0, none⟩ (strV nm)) := (hb1.mono hN).trans ((hb2.mono (by omega)).trans ((OnlyQ.set Q w2 0 (strV nm)).below hS3.bQ HS2.out.nN))
      have hW3 : TxAt (w2.setCell ⟨Q, 0, none⟩ (strV nm)) B off (nm :: r) := ((HW.out.below hb1 hBl).below hb2 (by omega)).only (OnlyQ.set Q w2 0 (strV nm)) hBQ
      generalize w2.setCell ⟨Q, 0, none⟩ (strV nm) = W at *
      obtain ⟨o2, hif, hW4⟩ := hW3.cut hcap
      have c3 := fun w1 hb hP => pnums_w r [1, 2, 3, 4] B o2 (cap - 1) Q 4 W w1 hW4 hBQ (hS3.room (by simp)) (by decide) rfl (by decide) (by omega) (fun x hx => HX.out x (List.mem_cons_of_mem _ hx)) hb hP
      have HS3 : Hid (PS W 55 N Q { p with nm := nm } ts v) := hS3
      have HB3 : Hid (Below N w W) := hb3
      clear hS3 hb3 hW3 hW4 HS2 HS HW c1 c2 d0 f0 hb1 hb2 cx1 cx
      go_region_with (go_at_call 82; (with_reducible refine (c3 _ (bad1 _ _) ?_).mono ?_); exact (plc4 W _ Q 1 2 3 4).drew; intro e w5 hN5; obtain ⟨rfl, _⟩ := id hN5)
      go_wp2
      go_ret
      have := (hN5.line HS3.out rfl (by decide) (by simp) (fun q => { p with nm := nm, mn := q.1, mx := q.2.1, po := q.2.2.1, co := q.2.2.2 }) (fun a b c d => by simp [setAll])).from HB3.out
      rw [HL.out, Option.map_map]
      exact this
end Pln
end Go.Proofs.YtcaobnmfgnbolabDoor
