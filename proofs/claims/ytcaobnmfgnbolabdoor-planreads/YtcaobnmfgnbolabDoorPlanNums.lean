/- Several numbers of a plan's text: parseNumbers. -/
import Derived.Test.YtcaobnmfgnbolabDoorPk5
import Derived.Test.YtcaobnmfgnbolabDoorPk6
import Derived.Test.YtcaobnmfgnbolabDoorCutWalks
namespace Go.Proofs.YtcaobnmfgnbolabDoor
namespace Pln
open Go.RowKit Lai Civ Crn Pie
set_option maxRecDepth 8000

/-- texts that lie in a row, from a place on -/
def TxAt (w : World) (B off : Nat) (l : List (List UInt8)) : Prop := B < w.heap.size ∧ ∀ (j : Nat) x, l[j]? = some x → w.cell? ⟨B, off + j, none⟩ = some (strV x)
theorem TxAt.of {w : World} {B : Nat} {l : List (List UInt8)} (h : Texts w B l) : TxAt w B 0 l := ⟨h.1, fun j x hx => by rw [Nat.zero_add]; exact h.2 j x hx⟩
theorem TxAt.tail {w : World} {B off : Nat} {x : List UInt8} {l : List (List UInt8)} (h : TxAt w B off (x :: l)) : TxAt w B (off + 1) l :=
  ⟨h.1, fun j y hy => by have := h.2 (j + 1) y (by simpa using hy); rw [show off + 1 + j = off + (j + 1) by omega]; exact this⟩
theorem TxAt.take {w : World} {B off : Nat} {l : List (List UInt8)} (h : TxAt w B off l) (n : Nat) : TxAt w B off (l.take n) :=
  ⟨h.1, fun j y hy => h.2 j y (by rw [List.getElem?_take] at hy; split at hy; exact hy; cases hy)⟩
theorem TxAt.below {w w' : World} {B off n : Nat} {l : List (List UInt8)} (h : TxAt w B off l) (hb : Below n w w') (hn : B < n) : TxAt w' B off l :=
  ⟨Nat.lt_of_lt_of_le h.1 hb.size, fun j x hx => (hb.cell (p := ⟨B, off + j, none⟩) hn).trans (h.2 j x hx)⟩
theorem TxAt.only {w w' : World} {B off Q : Nat} {l : List (List UInt8)} (h : TxAt w B off l) (hb : OnlyQ Q w w') (hn : B ≠ Q) : TxAt w' B off l :=
  ⟨Nat.lt_of_lt_of_le h.1 hb.size, fun j x hx => (hb.cell (a := ⟨B, off + j, none⟩) h.1 hn).trans (h.2 j x hx)⟩
/-- the places of a row of numbers -/
def PlcAt (w : World) (P Q : Nat) (os : List Nat) : Prop := P < w.heap.size ∧ ∀ (j o : Nat), os[j]? = some o → w.cell? ⟨P, j, none⟩ = some (.pointer (some ⟨Q, o, none⟩))
theorem PlcAt.only {w w' : World} {P Q : Nat} {os : List Nat} (h : PlcAt w P Q os) (hb : OnlyQ Q w w') (hn : P ≠ Q) : PlcAt w' P Q os :=
  ⟨Nat.lt_of_lt_of_le h.1 hb.size, fun j o ho => (hb.cell (a := ⟨P, j, none⟩) h.1 hn).trans (h.2 j o ho)⟩
def PnR (ws : List (List UInt8)) (os : List Nat) (Q : Nat) (w : World) (i : Value) (wr : World) : Prop :=
  ∃ (k : Nat) (ns : List Int), k ≤ ws.length ∧ i = .int .i64 k ∧ OnlyQ Q w wr ∧ Told Q os ns w wr ∧ ∀ (j : Nat) x, j < k → ws[j]? = some x → num7 x = ns[j]?
set_option maxHeartbeats 4000000 in
theorem pnums_any (ws : List (List UInt8)) (os : List Nat) (ns0 : List Int) (B off cap P Q : Nat) (w : World) (hW : TxAt w B off ws) (hBQ : B ≠ Q) (hP : PlcAt w P Q os) (hPQ : P ≠ Q) (hQ : Q < w.heap.size) (hf : ∀ o, w.frozen? ⟨Q, o, none⟩ = false) (h0 : Told Q os ns0 w w) (hd : os.Nodup) (ho : os.length ≤ 10) (hws : ws.length ≤ 3000) (hx : ∀ x ∈ ws, x.length ≤ 3000) :
    Calls Tryd.prog 82 #[.slice (some ⟨B, off, none⟩) ws.length cap, .slice (some ⟨P, 0, none⟩) os.length os.length] w fun e w' => NumsR ws os Q w e w' := by
  by_cases hl : ws.length = os.length
  · have HL : Hid (os.length = ws.length) := hl.symm
    rw [← hl]
    have hwl : ws.length ≤ 10 := by omega
    clear hl ho
    go_enter Tryd.func82, Tryd.ntmps82
    go_wp2
    go_loopw [16] (fun i wr => PnR ws os Q w i wr) (fun i _ => ws.length - (intOf i).toNat)
    case atStart => exact ⟨0, ns0, Nat.zero_le _, rfl, OnlyQ.refl _ _, h0, fun j x hj => absurd hj (by omega)⟩
    case round =>
      clear h0
      obtain ⟨k, ns, hk, rfl, hO, hT, hn⟩ := hrel
      have HN : Hid (∀ (j : Nat) x, j < k → ws[j]? = some x → num7 x = ns[j]?) := hn
      clear hn
      by_cases hlt : k < ws.length
      · have hlt' : (k : Int) < ws.length := by omega
        have hlt2 : k < os.length := by rw [HL.out]; exact hlt
        obtain ⟨x, hwx⟩ : ∃ x, ws[k]? = some x := ⟨ws[k], by simp [hlt]⟩
        obtain ⟨o, hoo⟩ : ∃ o, os[k]? = some o := ⟨os[k], by simp [hlt2]⟩
        clear hlt2
        have hbs := hW.1
        have hps := hP.1
        have hsz := hO.size
        have cx := (hW.only hO hBQ).2 k x hwx
        have cp := (hP.only hO hPQ).2 k o hoo
        have HX : Hid (ws[k]? = some x) := hwx
        have HO : Hid (os[k]? = some o) := hoo
        have HOn : Hid (OnlyQ Q w wr) := hO
        have HT : Hid (Told Q os ns w wr) := hT
        have c0 := fun w => pnum_any x w (hx x (List.mem_of_getElem? hwx))
        have hfr : ∀ o, wr.frozen? ⟨Q, o, none⟩ = false := fun o => (hO.fz o).trans (hf o)
        clear hwx hoo hx hW hP hO hT hf
        cases hnx : num7 x with
        | none =>
          rw [hnx] at c0
          replace c0 : ∀ w, Calls Tryd.prog 110 #[strV x] w fun e w' => e = .returned (.tuple #[.int .i64 0, .bool false]) ∧ Below w.heap.size w w' := c0
          have HB : Hid (NsB os.length ws = false) := nsB_no HX.out hnx
          clear hnx
          go_wp2_with (go_at_call 110; (with_reducible refine (c0 _).mono ?_); rintro e w1 ⟨rfl, hb1⟩)
          go_ret
          exact ⟨ret_b HB.out.symm, HOn.out.trans (OnlyQ.of_below hb1 (by omega)), ns, HT.out.below hb1 (by omega), fun h => by rw [HB.out] at h; cases h⟩
        | some m =>
          rw [hnx] at c0
          replace c0 : ∀ w, Calls Tryd.prog 110 #[strV x] w fun e w' => e = .returned (.tuple #[.int .i64 m, .bool true]) ∧ Below w.heap.size w w' := c0
          have HM : Hid (num7 x = some m) := hnx
          clear hnx
          go_wp2_with (go_at_call 110; (with_reducible refine (c0 _).mono ?_); rintro e w1 ⟨rfl, hb1⟩; have hb1s := hb1.size; have cp1 : w1.cell? ⟨P, k, none⟩ = some (.pointer (some ⟨Q, o, none⟩)) := (hb1.cell (p := ⟨P, k, none⟩) (by show P < _; omega)).trans cp; obtain ⟨n1, _, cq1⟩ := (HT.out.below hb1 (by omega)).ex HO.out; have fq1 : w1.frozen? ⟨Q, o, none⟩ = false := (World.frozen?_of_block (w := wr) (a := ⟨Q, o, none⟩) (hb1.block Q (by omega))).trans (hfr o); have hQ1 : Q < w1.heap.size := by omega)
          go_roundw
          case rel =>
            refine ⟨k + 1, ns.set k m, by omega, rfl, (HOn.out.trans (OnlyQ.of_below hb1 (by omega))).trans (OnlyQ.set Q _ _ _), (HT.out.below hb1 (by omega)).set hd HO.out m, fun j y hj hy => ?_⟩
            have hkl : k < ns.length := by rw [HT.out.len, HL.out]; exact hlt
            by_cases e : j = k
            · subst e
              rw [HX.out] at hy; cases hy
              rw [HM.out, List.getElem?_set_self hkl]
            · rw [List.getElem?_set_ne (fun g => e g.symm)]
              exact HN.out j y (by omega) hy
          case measure => simp [intOf]; omega
      · obtain rfl : k = ws.length := by omega
        have HB : Hid (NsB os.length ws = true) := nsB_all HL.out.symm fun j y hy => by
          have hj : j < ws.length := (List.getElem?_eq_some_iff.1 hy).1
          rw [HN.out j y hj hy, List.getElem?_eq_getElem (by rw [hT.len, HL.out]; exact hj)]
          rfl
        have HT : Hid (Told Q os ns w wr) := hT
        have HOn : Hid (OnlyQ Q w wr) := hO
        clear hT hO hW hP hx
        go_wp2
        go_ret
        exact ⟨ret_b HB.out.symm, HOn.out, ns, HT.out, fun _ j y hy => HN.out j y (List.getElem?_eq_some_iff.1 hy).1 hy⟩
  · have hl' : ¬ (ws.length : Int) = os.length := by omega
    have HN : Hid (NsB os.length ws = false) := nsB_len hl
    have HT : Hid (Told Q os ns0 w w) := h0
    clear h0 hl hW hP
    go_enter Tryd.func82, Tryd.ntmps82
    go_wp2
    go_ret
    exact ⟨ret_b HN.out.symm, OnlyQ.refl _ _, ns0, HT.out, fun h => by rw [HN.out] at h; cases h⟩
end Pln
end Go.Proofs.YtcaobnmfgnbolabDoor
