
/- Nothing is late ahead of its time, and all is at it: the law, walked. -/
import Derived.Test.YtkflelbpiabcpahBufAsked
import Derived.Test.YtkflelbpiabcpahFrameSl
namespace Go.Proofs.Ytkflelbpiabcpah
namespace Buf
open Go.RowKit Rw Rec Frm
set_option maxRecDepth 8000

def Waits (L : List Rq) : Prop := ∀ r ∈ L, r.fat = 1
theorem ask_wait {L : List Rq} (h : Waits L) (now s t : Int) : Waits (askL L now s t) := by
  unfold askL
  split
  · intro r hr
    rcases List.mem_append.1 hr with hr | hr
    · exact h r hr
    · simp at hr; subst hr; rfl
  · exact h
def isL (r : Rq) : Bool := r.fat == 4
theorem late_all {L : List Rq} (h : Waits L) (now : Int) : ∀ r ∈ turnL (isLate now) 4 L, isL r = decide (r.til ≤ now) ∧ (isL r = true → r.id ∈ turnI (isLate now) L) := by
  intro r hr
  obtain ⟨x, hx, rfl⟩ := List.mem_map.1 hr
  have hf := h x hx
  unfold turnF
  by_cases ht : x.til ≤ now
  · have hp : isLate now x = true := by simp [isLate, hf, ht]
    rw [if_pos hp]
    refine ⟨by simp [isL, ht], fun _ => ?_⟩
    exact List.mem_map.2 ⟨x, List.mem_filter.2 ⟨hx, hp⟩, rfl⟩
  · have hp : ¬ isLate now x = true := by simp [isLate, ht]
    rw [if_neg hp]
    have h4 : isL x = false := by simp [isL, hf]
    exact ⟨by rw [h4]; simp [ht], fun e => by rw [h4] at e; cases e⟩
theorem late_cnt {L : List Rq} (h : Waits L) (now : Int) : (turnL (isLate now) 4 L).countP isL = (turnI (isLate now) L).length := by
  unfold turnL turnI
  rw [List.countP_map, List.length_map, ← List.countP_eq_length_filter]
  apply List.countP_congr
  intro x hx
  have hf := h x hx
  simp only [Function.comp]
  unfold turnF
  cases hp : isLate now x <;> simp [isL, hf]
/-- k requests are looked at -/
def LsR (L : List Rq) (w w9 : World) (d i : Value) (wr : World) : Prop :=
  ∃ k : Nat, k ≤ L.length ∧ i = .int .i64 k ∧ d = .int .i64 ((L.take k).countP isL : Int) ∧ Below w9.heap.size w9 wr ∧ Below w.heap.size w wr
theorem late_long (w : World) (a0 : Option Addr) (len cap : Nat) (now : Int) (h3 : 150 < len) :
    Calls Try.prog 3 #[.slice a0 len cap, .int .i64 now] w fun e w' => e = .returned (.bool true) ∧ Below w.heap.size w w' := by
  have h3' : (150 : Int) < len := by omega
  have cK := fun w => asked_any w
  go_enter Try.func3, Try.ntmps3
  go_wp2_with (go_at_call 4; (with_reducible refine (cK _).mono ?_); rintro e w5 ⟨rfl, hb5⟩)
  go_ret
  exact ⟨rfl, hb5⟩
theorem new_at {w5 w6 : World} {B : Nat} {v : Value} {L : List Rq} (h : HAt w6 w5.heap.size w5.heap.size v L) (hB : B ≤ w5.heap.size) : HAt w6 B w5.heap.size v L := ⟨h.lt, hB, RAt.cQ h, RAt.cS h, h.fz, World.ownsRow.mono (RAt.own h) hB, h.ne⟩
/-- k turns are looked at, the buffer at Q -/
def LuR (Q len : Nat) (w : World) (i : Value) (wr : World) : Prop :=
  ∃ (k : Nat) (v : Value) (L : List Rq), k ≤ len ∧ i = .int .i64 k ∧ HAt wr w.heap.size Q v L ∧ Inv L ∧ Waits L ∧ Below w.heap.size w wr
set_option maxHeartbeats 8000000 in
theorem late_law (w : World) (a0 : Option Addr) (len cap : Nat) (X : Nat → Nat → Int) (now : Int) (h3 : len ≤ 150) (hX : Frm.RowsIn w a0 len 4 X) :
    Calls Try.prog 3 #[.slice a0 len cap, .int .i64 now] w fun e w' => e = .returned (.bool true) ∧ Below w.heap.size w w' := by
  have h3' : ¬ (150 : Int) < len := by omega
  have c1 := fun w => new_any w
  have cK := fun w => asked_any w
  go_enter Try.func3, Try.ntmps3
  go_wp2_with (first
    | (go_at_call 4; (with_reducible refine (cK _).mono ?_); rintro e w5 ⟨rfl, hb5⟩)
    | (go_at_call 5; (with_reducible refine (c1 _).mono ?_); rintro e w6 ⟨rfl, hA6, hb6⟩))
  have hA7 := new_at hA6 hb5.size
  have hb7 := hb5.trans (hb6.mono hb5.size)
  clear c1 cK hA6 hb6 hb5
  generalize w5.heap.size = Q at *
  go_loopw [21] (fun i wr => LuR Q len w i wr) (fun i _ => len - (intOf i).toNat)
  case atStart => exact ⟨0, _, _, by omega, rfl, hA7, Inv.nil, (fun _ h => by simp at h), hb7⟩
  case round =>
    clear hA7 hb7
    obtain ⟨k, v, L, hk, rfl, hA, hI, hWt, hbw⟩ := hrel
    by_cases hlt : k < len
    · have hlt' : (k : Int) < len := by omega
      obtain ⟨b, off, rfl, hbl, hcell⟩ := (hX.below hbw (Nat.le_refl _)) k hlt
      have k0 : wr.cell? ⟨b, off + k * 4, none⟩ = some (.int .i64 (X k 0)) := by have := (hcell 0 (by omega)).1; simpa using this
      have k1 : wr.cell? ⟨b, off + k * 4 + 1, none⟩ = some (.int .i64 (X k 1)) := by have := (hcell 1 (by omega)).1; simpa [Nat.add_assoc] using this
      have k2 : wr.cell? ⟨b, off + k * 4 + 2, none⟩ = some (.int .i64 (X k 2)) := by have := (hcell 2 (by omega)).1; simpa [Nat.add_assoc] using this
      have k3 : wr.cell? ⟨b, off + k * 4 + 3, none⟩ = some (.int .i64 (X k 3)) := by have := (hcell 3 (by omega)).1; simpa [Nat.add_assoc] using this
      clear hcell hX
      generalize X k 0 = kd at k0
      generalize X k 1 = nw at k1
      generalize X k 2 = a at k2
      generalize X k 3 = n at k3
      have hAW : HAt (wr.alloc (.cells #[.int .i64 kd, .int .i64 nw, .int .i64 a, .int .i64 n] 27)) w.heap.size Q v L := hA.alloc _
      have hbW : Below w.heap.size w (wr.alloc (.cells #[.int .i64 kd, .int .i64 nw, .int .i64 a, .int .i64 n] 27)) := hbw.alloc hbw.size _
      have HAW : Hid (HAt (wr.alloc (.cells #[.int .i64 kd, .int .i64 nw, .int .i64 a, .int .i64 n] 27)) w.heap.size Q v L) := hAW
      have HBW : Hid (Below w.heap.size w (wr.alloc (.cells #[.int .i64 kd, .int .i64 nw, .int .i64 a, .int .i64 n] 27))) := hbW
      have HI : Hid (Inv L ∧ Waits L) := ⟨hI, hWt⟩
      clear hA hbw hAW hbW hI hWt
      by_cases hk0 : kd = 0
      · subst hk0
        have cO := ask_any L nw a n HI.out.1
        dsimp only [Doth] at cO
        go_wp2_with (go_at_call 6; (with_reducible refine (cO _ _ _ _ HAW.out).mono ?_); rintro e w8 ⟨rfl, v8, hA8, hT8⟩; have hb8 := HBW.out.trans (RAt.turned HAW.out hT8))
        go_roundw
        case rel => exact ⟨k + 1, v8, _, by omega, rfl, hA8, ask_inv HI.out.1 nw a n, ask_wait HI.out.2 nw a n, hb8⟩
        case measure => simp [intOf]; omega
      · have hk0b : (kd == 0) = false := by simp [hk0]
        go_wp2
        go_roundw
        case rel => exact ⟨k + 1, v, L, by omega, rfl, HAW.out, HI.out.1, HI.out.2, HBW.out⟩
        case measure => simp [intOf]; omega
    · obtain rfl : k = len := by omega
      have hlen := hI.len
      by_cases hno : 0 ≤ now ∧ now ≤ 1099511627776
      · have cL := late_any w.heap.size Q v L now wr hA hI hno.1 hno.2
        have hl1 := (turn_inv hI (isLate now) 4 (by omega)).len
        have cA := fun B Q v w h => all_any B Q v (turnL (isLate now) 4 L) w h hl1
        have hall := late_all hWt now
        have hcnt := late_cnt hWt now
        have hXI : (turnI (isLate now) L).length ≤ 1000 := Nat.le_trans (turnI_le _ _) (by omega)
        have HA : Hid (HAt wr w.heap.size Q v L) := hA
        have HC : Hid ((turnL (isLate now) 4 L).countP isL = (turnI (isLate now) L).length) := hcnt
        clear hno hI hWt hX hA hcnt
        generalize turnL (isLate now) 4 L = M at *
        generalize turnI (isLate now) L = XI at *
        go_wp2_with (first
          | (go_at_call 7; (with_reducible refine cL.mono ?_); rintro e w8 ⟨o8, rfl, hown8, hA8, hT8⟩; have hb8 := hbw.trans (RAt.turned HA.out hT8); obtain ⟨ao8, cp8, ho8, hR8⟩ := ints_row hown8; subst ho8; clear hown8)
          | (go_at_call 8; (with_reducible refine (cA _ _ _ _ hA8).mono ?_); rintro e w9 ⟨G9, rfl, hG9, hR9, hb9⟩; have hbw9 := hb8.trans (hb9.mono hb8.size); have hR8b := hR8.below hb9))
        clear cL cA hR8 hA8 hT8 hb8 hb9 HA hG9 hbw
        go_loopw [10, 51] (fun d i wr => LsR M w w9 d i wr) (fun _ i _ => M.length - (intOf i).toNat)
        case atStart => exact ⟨0, by omega, rfl, by simp, Below.refl _ _, hbw9⟩
        case round =>
          clear hbw9
          obtain ⟨j, hj, rfl, rfl, hb, hbw⟩ := hrel
          by_cases hlt2 : j < M.length
          · have hlt2' : (j : Int) < (M.length : Int) := by omega
            obtain ⟨g, hg0, hg, hc⟩ := row_req (hR9.below hb) (by omega)
            cases hg0
            obtain ⟨r, hr⟩ : ∃ r, M[j]? = some r := ⟨M[j], by simp [hlt2]⟩
            obtain ⟨c0, c1, c2, c3, c4⟩ := hc j r hr
            obtain ⟨ha1, ha2⟩ := hall r (List.mem_of_getElem? hr)
            have HS : Hid ((M.take (j + 1)).countP isL = (M.take j).countP isL + if isL r then 1 else 0) := countP_step hr
            have hd : (M.take j).countP isL ≤ 200 := Nat.le_trans List.countP_le_length (by rw [List.length_take]; omega)
            have cC := fun w h => contains_any ao8 cp8 XI r.id w h hXI
            have hR8r := hR8b.below hb
            have HB : Hid (Below w9.heap.size w9 (wr.alloc (.cells #[.int .i64 r.id, .int .i64 r.src, .int .i64 r.til, .int .i64 r.fat, .int .i64 r.pod] 37)) ∧ Below w.heap.size w (wr.alloc (.cells #[.int .i64 r.id, .int .i64 r.src, .int .i64 r.til, .int .i64 r.fat, .int .i64 r.pod] 37))) := ⟨hb.alloc hb.size _, hbw.alloc hbw.size _⟩
            have HR8 : Hid (RowAt iK (wr.alloc (.cells #[.int .i64 r.id, .int .i64 r.src, .int .i64 r.til, .int .i64 r.fat, .int .i64 r.pod] 37)) ao8 XI) := hR8r.below ((Below.refl _ _).alloc (Nat.le_refl _) _)
            clear hc hb hbw hr hR8r hR9 hR8b
            cases hp : (r.fat == 4)
            · have hiL : isL r = false := hp
              have ht : decide (r.til ≤ now) = false := by rw [← ha1, hiL]
              have HP : Hid ((M.take (j + 1)).countP isL = (M.take j).countP isL) := by unfold Hid; rw [HS.out, hiL]; simp
              clear ha1 ha2 hiL cC
              go_wp2
              go_roundw
              case rel => exact ⟨j + 1, by omega, rfl, by rw [HP.out], HB.out.1, HB.out.2⟩
              case measure => simp [intOf]; omega
            · have hiL : isL r = true := hp
              have ht : decide (r.til ≤ now) = true := by rw [← ha1, hiL]
              have HP : Hid ((M.take (j + 1)).countP isL = (M.take j).countP isL + 1) := by unfold Hid; rw [HS.out, hiL]; simp
              have hmem : decide (r.id ∈ XI) = true := by rw [decide_eq_true_eq]; exact ha2 hiL
              rw [hmem] at cC
              clear ha1 ha2 hiL hmem
              go_wp2_with (go_at_call 9; (with_reducible refine (cC _ HR8.out).mono ?_); rintro e w' ⟨rfl, h9⟩; have h8 := h9.symm; clear h9; subst h8)
              go_roundw
              case rel => exact ⟨j + 1, by omega, rfl, by rw [HP.out]; simp, HB.out.1, HB.out.2⟩
              case measure => simp [intOf]; omega
          · obtain rfl : j = M.length := by omega
            rw [List.take_length, HC.out]
            go_wp2
            go_ret
            exact ⟨by simp, hbw⟩
      · have cL := late_no Q now wr hno
        clear hno hI hWt
        go_wp2_with (go_at_call 7; (with_reducible refine cL.mono ?_); rintro e w8 ⟨rfl, hb8⟩)
        go_ret
        exact ⟨rfl, hbw.trans (hb8.mono hbw.size)⟩
end Buf
end Go.Proofs.Ytkflelbpiabcpah
