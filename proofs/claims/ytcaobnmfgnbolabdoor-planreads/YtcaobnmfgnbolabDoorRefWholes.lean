/- What the document's answer (tideref) says of several numbers: wholes. -/
import Derived.Test.YtcaobnmfgnbolabDoorPk7
import Derived.Test.YtcaobnmfgnbolabDoorPlanNums
namespace Go.Proofs.YtcaobnmfgnbolabDoor
namespace Pln
open Go.RowKit Lai Civ Crn Pie
set_option maxRecDepth 8000

theorem info_i : (Tryd.prog.info? 3).map (fun i => (i.zero, i.size, i.bytes)) = some (some (.int .i64 0), 1, 8) := by kernel_rfl
def iV (n : Int) : Value := .int .i64 n
/-- what wholes tells -/
def WhR (ws : List (List UInt8)) (n : Nat) (w : World) (e : Ending) (w' : World) : Prop :=
  Below w.heap.size w w' ∧ ((NsB n ws = false ∧ e = .returned (.slice none 0 0)) ∨ (NsB n ws = true ∧ ∃ (g c : Nat) (ns : List Int), e = .returned (.slice (some ⟨g, 0, none⟩) n c) ∧ ns.length = n ∧ g < w'.heap.size ∧ (∀ (j : Nat) m, ns[j]? = some m → w'.cell? ⟨g, j, none⟩ = some (.int .i64 m)) ∧ (∀ (j : Nat) x, ws[j]? = some x → num7 x = ns[j]?) ∧ w.heap.size ≤ g))
def WsR (ws : List (List UInt8)) (n : Nat) (w : World) (v i : Value) (wr : World) : Prop :=
  ∃ (k : Nat) (ns : List Int), k ≤ n ∧ i = .int .i64 k ∧ ns.length = k ∧ wr.ownsRow w.heap.size 3 1 v k (ns.map iV) ∧ (∀ (j : Nat) x, j < k → ws[j]? = some x → num7 x = ns[j]?) ∧ Below w.heap.size w wr
set_option maxHeartbeats 4000000 in
theorem rwholes (ws : List (List UInt8)) (n : Nat) (B off cap : Nat) (w : World) (hW : TxAt w B off ws) (hn : 1 ≤ n) (hn2 : n ≤ 10) (hws : ws.length ≤ 3000) (hx : ∀ x ∈ ws, x.length ≤ 3000) :
    Calls Tryd.prog 85 #[.slice (some ⟨B, off, none⟩) ws.length cap, .int .i64 n, .int .i64 7] w fun e w' => WhR ws n w e w' := by
  by_cases hl : ws.length = n
  · obtain ⟨i0, hi0, hz0, hz1, hz2⟩ := info_parts info_i
    subst hl
    have hBl := hW.1
    go_enter Tryd.func85, Tryd.ntmps85
    go_wp2
    go_loopw [7, 8] (fun v i wr => WsR ws ws.length w v i wr) (fun _ i _ => ws.length - (intOf i).toNat)
    case atStart => exact ⟨0, [], Nat.zero_le _, rfl, rfl, World.ownsRow_nil _ _ _ _, fun j x hj => absurd hj (by omega), Below.refl _ _⟩
    case round =>
      obtain ⟨k, ns, hk, rfl, hnl, hown, hN, hbw⟩ := hrel
      have HN : Hid (∀ (j : Nat) x, j < k → ws[j]? = some x → num7 x = ns[j]?) := hN
      clear hN
      have hsb := hbw.size
      by_cases hlt : k < ws.length
      · have hlt' : (k : Int) < ws.length := by omega
        obtain ⟨x, hwx⟩ : ∃ x, ws[k]? = some x := ⟨ws[k], by simp [hlt]⟩
        have cx := (hW.below hbw hBl).2 k x hwx
        have HX : Hid (ws[k]? = some x) := hwx
        have c0 := fun w => rwhole x w (hx x (List.mem_of_getElem? hwx))
        clear hwx hx hW
        cases hnx : num7 x with
        | none =>
          rw [hnx] at c0
          replace c0 : ∀ w, Calls Tryd.prog 112 #[strV x, .int .i64 7] w fun e w' => e = .returned (.tuple #[.int .i64 0, .bool false]) ∧ w' = w := c0
          have HB : Hid (NsB ws.length ws = false) := nsB_no HX.out hnx
          clear hnx hown
          go_wp2_with (go_at_call 112; (with_reducible refine (c0 _).mono ?_); rintro e w1 ⟨rfl, h9⟩; have h8 := h9.symm; clear h9; subst h8)
          go_ret
          exact ⟨hbw, Or.inl ⟨HB.out, rfl⟩⟩
        | some m =>
          rw [hnx] at c0
          replace c0 : ∀ w, Calls Tryd.prog 112 #[strV x, .int .i64 7] w fun e w' => e = .returned (.tuple #[.int .i64 m, .bool true]) ∧ w' = w := c0
          have HM : Hid (num7 x = some m) := hnx
          clear hnx
          go_wp2_with (first
            | (go_at_call 112; (with_reducible refine (c0 _).mono ?_); rintro e w1 ⟨rfl, h9⟩; have h8 := h9.symm; clear h9; subst h8)
            | (at_builtin; refine wpList_append_own _ rfl _ _ 56 rfl w.heap.size 3 i0 (.int .i64 0) 1 8 Tryd.underlying56 hi0 hz0 hz1 hz2 rfl (by decide) _ _ _ rfl (hown.alloc _) ⟨wr.heap.size, 0, none⟩ 1 1 [.int .i64 m] rfl rfl (cell_new1 _ _ _) (fun x hx => by simp at hx; subst hx; rfl) (by unfold maxLen; omega) (by omega) (by simp; omega) ?_; intro v' w3 hown3 hgrow3 hnil3))
          go_roundw
          case rel =>
            have hB3 : Below w.heap.size w w3 := (hbw.alloc hsb _).grown hgrow3 (by simp; omega) (fun q hq => (hown.lt q hq).1)
            refine ⟨k + 1, ns ++ [m], by omega, rfl, by simp [hnl], by rw [List.map_append]; exact hown3, fun j y hj hy => ?_, hB3⟩
            by_cases e : j = k
            · subst e
              rw [HX.out] at hy; cases hy
              rw [HM.out, List.getElem?_append_right (by omega), hnl]; simp
            · rw [List.getElem?_append_left (by omega)]
              exact HN.out j y (by omega) hy
          case measure => simp [intOf]; omega
      · obtain rfl : k = ws.length := by omega
        have HB : Hid (NsB ws.length ws = true) := nsB_all rfl fun j y hy => by
          have hj : j < ws.length := (List.getElem?_eq_some_iff.1 hy).1
          rw [HN.out j y hj hy, List.getElem?_eq_getElem (by omega)]
          rfl
        clear hW hx
        go_wp2
        go_ret
        refine ⟨hbw, Or.inr ⟨HB.out, ?_⟩⟩
        rcases hown.2 with ⟨_, h⟩ | ⟨g, cap3, _, h, _⟩
        · omega
        · subst h
          refine ⟨g, cap3, ns, rfl, hnl, (hown.lt g rfl).2, fun j m hm => ?_, fun j y hy => HN.out j y (List.getElem?_eq_some_iff.1 hy).1 hy, (hown.lt g rfl).1⟩
          have hj : j < ns.length := (List.getElem?_eq_some_iff.1 hm).1
          rw [hown.cellAt j (by omega), List.getElem?_map, hm]
          rfl
  · have hl' : ¬ (ws.length : Int) = n := by omega
    have HB : Hid (NsB n ws = false) := nsB_len hl
    clear hW hx hl
    go_enter Tryd.func85, Tryd.ntmps85
    go_wp2
    go_ret
    exact ⟨Below.refl _ _, Or.inl ⟨HB.out, rfl⟩⟩
end Pln
end Go.Proofs.YtcaobnmfgnbolabDoor
