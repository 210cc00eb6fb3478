
/- What each function of package buffer answers: the leaves, count, end. -/
import Derived.Test.YtkflelbpiabcpagHallTurn
namespace Go.Proofs.Ytkflelbpiabcpag
namespace Buf
open Go.RowKit Rw Rec
set_option maxRecDepth 8000

def rV (r : Rq) : Value := .agg #[.int .i64 r.id, .int .i64 r.src, .int .i64 r.til, .int .i64 r.fat, .int .i64 r.pod]
def isW (r : Rq) : Bool := r.fat == 1
def isR (r : Rq) : Bool := r.fat == 2
def isWs (s : Int) (r : Rq) : Bool := r.fat == 1 && r.src == s
theorem isW_many (L : List Rq) : L.countP isW = many (-1) 1 L := by unfold many; congr 1
theorem isR_many (L : List Rq) : L.countP isR = many (-1) 2 L := by unfold many; congr 1
theorem isWs_many (L : List Rq) (s : Int) (h : 0 ≤ s) : L.countP (isWs s) = many s 1 L := by
  unfold many; congr 1; funext r
  unfold isWs isOf
  have : (s == -1) = false := by rw [beq_eq_false_iff_ne]; omega
  rw [this, Bool.false_or, Bool.and_comm]
theorem countP_step {p : Rq → Bool} {L : List Rq} {k : Nat} {r : Rq} (h : L[k]? = some r) : (L.take (k + 1)).countP p = (L.take k).countP p + if p r then 1 else 0 := by
  rw [List.take_add_one, h, List.countP_append]
  simp [List.countP_cons]
theorem waits_any (r : Rq) (w : World) : Calls Try.prog 56 #[rV r] w fun e w' => e = .returned (.bool (isW r)) ∧ Below w.heap.size w w' := by
  unfold rV
  go_enter Try.func56, Try.ntmps56
  go_wp2
  go_ret
  exact ⟨rfl, (Below.refl _ _).alloc (Nat.le_refl _) _⟩
theorem runs_any (r : Rq) (w : World) : Calls Try.prog 61 #[rV r] w fun e w' => e = .returned (.bool (isR r)) ∧ Below w.heap.size w w' := by
  unfold rV
  go_enter Try.func61, Try.ntmps61
  go_wp2
  go_ret
  exact ⟨rfl, (Below.refl _ _).alloc (Nat.le_refl _) _⟩
def tmB (now : Int) : Bool := decide (0 ≤ now) && decide (now ≤ 1099511627776)
theorem isTime_any (now : Int) (w : World) : Calls Try.prog 53 #[.int .i64 now] w fun e w' => e = .returned (.bool (tmB now)) ∧ w' = w := by
  unfold tmB
  cases h1 : decide (0 ≤ now) <;> cases h2 : decide (now ≤ 1099511627776)
  all_goals
    go_enter Try.func53, Try.ntmps53
    go_wp2
    go_ret
    exact ⟨rfl, rfl⟩
set_option maxHeartbeats 2000000 in
theorem late1_any (r : Rq) (C : Nat) (c : Int) (w : World) (hC : w.cell? ⟨C, 0, none⟩ = some (.int .i64 c)) :
    Calls Try.prog 55 #[rV r, .pointer (some ⟨C, 0, none⟩)] w fun e w' => e = .returned (.bool (isLate c r)) ∧ Below w.heap.size w w' := by
  have hl := World.block_lt_of_cell? w _ hC
  simp only at hl
  have c3 := fun w => waits_any r w
  have HP : Hid ((isLate c r) = (isW r && (decide (r.til ≤ c)))) := rfl
  simp only [rV] at c3
  unfold rV
  obtain ⟨W, hW⟩ : ∃ W, W = w.alloc (.cells #[.int .i64 r.id, .int .i64 r.src, .int .i64 r.til, .int .i64 r.fat, .int .i64 r.pod] 90) := ⟨_, rfl⟩
  have hb : Below w.heap.size w W := by rw [hW]; exact (Below.refl _ _).alloc (Nat.le_refl _) _
  have hC1 := (hb.cell (p := ⟨C, 0, none⟩) hl).trans hC
  have hlW : C < W.heap.size := Nat.lt_of_lt_of_le hl hb.size
  have hsW : W.heap.size = w.heap.size + 1 := by rw [hW]; simp
  have x1 : W.cell? ⟨w.heap.size, 1, none⟩ = some (.int .i64 r.src) := by rw [hW]; simp
  have x2 : W.cell? ⟨w.heap.size, 2, none⟩ = some (.int .i64 r.til) := by rw [hW]; simp
  have x4 : W.cell? ⟨w.heap.size, 4, none⟩ = some (.int .i64 r.pod) := by rw [hW]; simp
  have HW : Hid (W = w.alloc (.cells #[.int .i64 r.id, .int .i64 r.src, .int .i64 r.til, .int .i64 r.fat, .int .i64 r.pod] 90)) := hW
  clear hC hW
  cases h1 : isW r
  · rw [h1] at c3
    have HR : Hid ((isLate c r) = false) := by unfold Hid; rw [HP.out, h1]; rfl
    go_enter Try.func55, Try.ntmps55
    go_wp2_with (go_at_call 56; rw [← HW.out]; (with_reducible refine (c3 _).mono ?_); rintro e w3 ⟨rfl, hb3⟩)
    go_ret
    exact ⟨by rw [HR.out]; rfl, hb.trans (hb3.mono hb.size)⟩
  · rw [h1] at c3
    have HR : Hid ((isLate c r) = (decide (r.til ≤ c))) := by unfold Hid; rw [HP.out, h1]; rfl
    go_enter Try.func55, Try.ntmps55
    go_wp2_with (go_at_call 56; rw [← HW.out]; (with_reducible refine (c3 _).mono ?_); rintro e w3 ⟨rfl, hb3⟩; have y1 := (hb3.cell (p := ⟨w.heap.size, 1, none⟩) (by rw [hsW]; exact Nat.lt_succ_self _)).trans x1; have y2 := (hb3.cell (p := ⟨w.heap.size, 2, none⟩) (by rw [hsW]; exact Nat.lt_succ_self _)).trans x2; have y4 := (hb3.cell (p := ⟨w.heap.size, 4, none⟩) (by rw [hsW]; exact Nat.lt_succ_self _)).trans x4; have yC := (hb3.cell (p := ⟨C, 0, none⟩) hlW).trans hC1)
    go_ret
    exact ⟨by rw [HR.out]; rfl, hb.trans (hb3.mono hb.size)⟩
set_option maxHeartbeats 2000000 in
theorem lost1_any (r : Rq) (C : Nat) (c : Int) (w : World) (hC : w.cell? ⟨C, 0, none⟩ = some (.int .i64 c)) :
    Calls Try.prog 62 #[rV r, .pointer (some ⟨C, 0, none⟩)] w fun e w' => e = .returned (.bool (isAt c r)) ∧ Below w.heap.size w w' := by
  have hl := World.block_lt_of_cell? w _ hC
  simp only at hl
  have c3 := fun w => runs_any r w
  have HP : Hid ((isAt c r) = (isR r && (r.pod == c))) := rfl
  simp only [rV] at c3
  unfold rV
  obtain ⟨W, hW⟩ : ∃ W, W = w.alloc (.cells #[.int .i64 r.id, .int .i64 r.src, .int .i64 r.til, .int .i64 r.fat, .int .i64 r.pod] 90) := ⟨_, rfl⟩
  have hb : Below w.heap.size w W := by rw [hW]; exact (Below.refl _ _).alloc (Nat.le_refl _) _
  have hC1 := (hb.cell (p := ⟨C, 0, none⟩) hl).trans hC
  have hlW : C < W.heap.size := Nat.lt_of_lt_of_le hl hb.size
  have hsW : W.heap.size = w.heap.size + 1 := by rw [hW]; simp
  have x1 : W.cell? ⟨w.heap.size, 1, none⟩ = some (.int .i64 r.src) := by rw [hW]; simp
  have x2 : W.cell? ⟨w.heap.size, 2, none⟩ = some (.int .i64 r.til) := by rw [hW]; simp
  have x4 : W.cell? ⟨w.heap.size, 4, none⟩ = some (.int .i64 r.pod) := by rw [hW]; simp
  have HW : Hid (W = w.alloc (.cells #[.int .i64 r.id, .int .i64 r.src, .int .i64 r.til, .int .i64 r.fat, .int .i64 r.pod] 90)) := hW
  clear hC hW
  cases h1 : isR r
  · rw [h1] at c3
    have HR : Hid ((isAt c r) = false) := by unfold Hid; rw [HP.out, h1]; rfl
    go_enter Try.func62, Try.ntmps62
    go_wp2_with (go_at_call 61; rw [← HW.out]; (with_reducible refine (c3 _).mono ?_); rintro e w3 ⟨rfl, hb3⟩)
    go_ret
    exact ⟨by rw [HR.out]; rfl, hb.trans (hb3.mono hb.size)⟩
  · rw [h1] at c3
    have HR : Hid ((isAt c r) = (r.pod == c)) := by unfold Hid; rw [HP.out, h1]; rfl
    go_enter Try.func62, Try.ntmps62
    go_wp2_with (go_at_call 61; rw [← HW.out]; (with_reducible refine (c3 _).mono ?_); rintro e w3 ⟨rfl, hb3⟩; have y1 := (hb3.cell (p := ⟨w.heap.size, 1, none⟩) (by rw [hsW]; exact Nat.lt_succ_self _)).trans x1; have y2 := (hb3.cell (p := ⟨w.heap.size, 2, none⟩) (by rw [hsW]; exact Nat.lt_succ_self _)).trans x2; have y4 := (hb3.cell (p := ⟨w.heap.size, 4, none⟩) (by rw [hsW]; exact Nat.lt_succ_self _)).trans x4; have yC := (hb3.cell (p := ⟨C, 0, none⟩) hlW).trans hC1)
    go_ret
    exact ⟨by rw [HR.out]; rfl, hb.trans (hb3.mono hb.size)⟩
set_option maxHeartbeats 2000000 in
theorem room1_any (r : Rq) (C : Nat) (c : Int) (w : World) (hC : w.cell? ⟨C, 0, none⟩ = some (.int .i64 c)) :
    Calls Try.prog 75 #[rV r, .pointer (some ⟨C, 0, none⟩)] w fun e w' => e = .returned (.bool (isWs c r)) ∧ Below w.heap.size w w' := by
  have hl := World.block_lt_of_cell? w _ hC
  simp only at hl
  have c3 := fun w => waits_any r w
  have HP : Hid ((isWs c r) = (isW r && (r.src == c))) := rfl
  simp only [rV] at c3
  unfold rV
  obtain ⟨W, hW⟩ : ∃ W, W = w.alloc (.cells #[.int .i64 r.id, .int .i64 r.src, .int .i64 r.til, .int .i64 r.fat, .int .i64 r.pod] 90) := ⟨_, rfl⟩
  have hb : Below w.heap.size w W := by rw [hW]; exact (Below.refl _ _).alloc (Nat.le_refl _) _
  have hC1 := (hb.cell (p := ⟨C, 0, none⟩) hl).trans hC
  have hlW : C < W.heap.size := Nat.lt_of_lt_of_le hl hb.size
  have hsW : W.heap.size = w.heap.size + 1 := by rw [hW]; simp
  have x1 : W.cell? ⟨w.heap.size, 1, none⟩ = some (.int .i64 r.src) := by rw [hW]; simp
  have x2 : W.cell? ⟨w.heap.size, 2, none⟩ = some (.int .i64 r.til) := by rw [hW]; simp
  have x4 : W.cell? ⟨w.heap.size, 4, none⟩ = some (.int .i64 r.pod) := by rw [hW]; simp
  have HW : Hid (W = w.alloc (.cells #[.int .i64 r.id, .int .i64 r.src, .int .i64 r.til, .int .i64 r.fat, .int .i64 r.pod] 90)) := hW
  clear hC hW
  cases h1 : isW r
  · rw [h1] at c3
    have HR : Hid ((isWs c r) = false) := by unfold Hid; rw [HP.out, h1]; rfl
    go_enter Try.func75, Try.ntmps75
    go_wp2_with (go_at_call 56; rw [← HW.out]; (with_reducible refine (c3 _).mono ?_); rintro e w3 ⟨rfl, hb3⟩)
    go_ret
    exact ⟨by rw [HR.out]; rfl, hb.trans (hb3.mono hb.size)⟩
  · rw [h1] at c3
    have HR : Hid ((isWs c r) = (r.src == c)) := by unfold Hid; rw [HP.out, h1]; rfl
    go_enter Try.func75, Try.ntmps75
    go_wp2_with (go_at_call 56; rw [← HW.out]; (with_reducible refine (c3 _).mono ?_); rintro e w3 ⟨rfl, hb3⟩; have y1 := (hb3.cell (p := ⟨w.heap.size, 1, none⟩) (by rw [hsW]; exact Nat.lt_succ_self _)).trans x1; have y2 := (hb3.cell (p := ⟨w.heap.size, 2, none⟩) (by rw [hsW]; exact Nat.lt_succ_self _)).trans x2; have y4 := (hb3.cell (p := ⟨w.heap.size, 4, none⟩) (by rw [hsW]; exact Nat.lt_succ_self _)).trans x4; have yC := (hb3.cell (p := ⟨C, 0, none⟩) hlW).trans hC1)
    go_ret
    exact ⟨by rw [HR.out]; rfl, hb.trans (hb3.mono hb.size)⟩
def CnR (p : Rq → Bool) (L : List Rq) (w : World) (d i : Value) (wr : World) : Prop := ∃ k : Nat, k ≤ L.length ∧ i = .int .i64 k ∧ d = .int .i64 ((L.take k).countP p : Int) ∧ Below w.heap.size w wr
set_option maxHeartbeats 2000000 in
theorem count_waits (B Q : Nat) (v : Value) (L : List Rq) (w : World) (hA : HAt w B Q v L) (hL : L.length ≤ 200) :
    Calls Try.prog 76 #[.pointer (some ⟨Q, 0, none⟩), .func (.func 56) #[] #[]] w fun e w' => e = .returned (.int .i64 (L.countP isW : Int)) ∧ Below w.heap.size w w' := by
  obtain ⟨ao, cap, rfl, hc1, hc2, hao⟩ := hA.form
  have cV := hA.cV
  have hR := hA.row
  clear hA
  go_enter Try.func76, Try.ntmps76
  go_wp2
  go_loopw [5, 13] (fun d i wr => CnR isW L w d i wr) (fun _ i _ => L.length - (intOf i).toNat)
  case atStart => exact ⟨0, by omega, rfl, by simp, Below.refl _ _⟩
  case round =>
    obtain ⟨k, hk, rfl, rfl, hb⟩ := hrel
    by_cases hlt : k < L.length
    · have hlt' : (k : Int) < (L.length : Int) := by omega
      obtain ⟨g, rfl, hg, hc⟩ := row_req (hR.below hb) (by omega)
      obtain ⟨r, hr⟩ : ∃ r, L[k]? = some r := ⟨L[k], by simp [hlt]⟩
      obtain ⟨c0, c1, c2, c3, c4⟩ := hc k r hr
      have hs := countP_step (p := isW) hr
      have hd : (L.take k).countP isW ≤ 200 := Nat.le_trans List.countP_le_length (by rw [List.length_take]; omega)
      obtain ⟨W, hW⟩ : ∃ W, W = wr.alloc (.cells #[.int .i64 r.id, .int .i64 r.src, .int .i64 r.til, .int .i64 r.fat, .int .i64 r.pod] 90) := ⟨_, rfl⟩
      have hbw : Below w.heap.size w W := by rw [hW]; exact hb.alloc hb.size _
      have cl := waits_any r W
      simp only [rV] at cl
      have HW : Hid (W = wr.alloc (.cells #[.int .i64 r.id, .int .i64 r.src, .int .i64 r.til, .int .i64 r.fat, .int .i64 r.pod] 90)) := hW
      have HB : Hid (Below w.heap.size w W) := hbw
      clear hc hR cV hb hbw hW hr
      cases hp : isW r
      · simp only [hp, Bool.false_eq_true, if_false, Nat.add_zero] at hs cl
        go_wp2_with (go_at_call 56; rw [← HW.out]; (with_reducible refine cl.mono ?_); rintro e w3 ⟨rfl, hb3⟩)
        go_roundw
        case rel => exact ⟨k + 1, by omega, rfl, by rw [hs], HB.out.trans (hb3.mono HB.out.size)⟩
        case measure => simp [intOf]; omega
      · simp only [hp, if_true] at hs cl
        go_wp2_with (go_at_call 56; rw [← HW.out]; (with_reducible refine cl.mono ?_); rintro e w3 ⟨rfl, hb3⟩)
        go_roundw
        case rel => exact ⟨k + 1, by omega, rfl, by rw [hs]; simp, HB.out.trans (hb3.mono HB.out.size)⟩
        case measure => simp [intOf]; omega
    · obtain rfl : k = L.length := by omega
      go_wp2
      go_ret
      exact ⟨by rw [List.take_length]; rfl, hb⟩
set_option maxHeartbeats 2000000 in
theorem count_runs (B Q : Nat) (v : Value) (L : List Rq) (w : World) (hA : HAt w B Q v L) (hL : L.length ≤ 200) :
    Calls Try.prog 76 #[.pointer (some ⟨Q, 0, none⟩), .func (.func 61) #[] #[]] w fun e w' => e = .returned (.int .i64 (L.countP isR : Int)) ∧ Below w.heap.size w w' := by
  obtain ⟨ao, cap, rfl, hc1, hc2, hao⟩ := hA.form
  have cV := hA.cV
  have hR := hA.row
  clear hA
  go_enter Try.func76, Try.ntmps76
  go_wp2
  go_loopw [5, 13] (fun d i wr => CnR isR L w d i wr) (fun _ i _ => L.length - (intOf i).toNat)
  case atStart => exact ⟨0, by omega, rfl, by simp, Below.refl _ _⟩
  case round =>
    obtain ⟨k, hk, rfl, rfl, hb⟩ := hrel
    by_cases hlt : k < L.length
    · have hlt' : (k : Int) < (L.length : Int) := by omega
      obtain ⟨g, rfl, hg, hc⟩ := row_req (hR.below hb) (by omega)
      obtain ⟨r, hr⟩ : ∃ r, L[k]? = some r := ⟨L[k], by simp [hlt]⟩
      obtain ⟨c0, c1, c2, c3, c4⟩ := hc k r hr
      have hs := countP_step (p := isR) hr
      have hd : (L.take k).countP isR ≤ 200 := Nat.le_trans List.countP_le_length (by rw [List.length_take]; omega)
      obtain ⟨W, hW⟩ : ∃ W, W = wr.alloc (.cells #[.int .i64 r.id, .int .i64 r.src, .int .i64 r.til, .int .i64 r.fat, .int .i64 r.pod] 90) := ⟨_, rfl⟩
      have hbw : Below w.heap.size w W := by rw [hW]; exact hb.alloc hb.size _
      have cl := runs_any r W
      simp only [rV] at cl
      have HW : Hid (W = wr.alloc (.cells #[.int .i64 r.id, .int .i64 r.src, .int .i64 r.til, .int .i64 r.fat, .int .i64 r.pod] 90)) := hW
      have HB : Hid (Below w.heap.size w W) := hbw
      clear hc hR cV hb hbw hW hr
      cases hp : isR r
      · simp only [hp, Bool.false_eq_true, if_false, Nat.add_zero] at hs cl
        go_wp2_with (go_at_call 61; rw [← HW.out]; (with_reducible refine cl.mono ?_); rintro e w3 ⟨rfl, hb3⟩)
        go_roundw
        case rel => exact ⟨k + 1, by omega, rfl, by rw [hs], HB.out.trans (hb3.mono HB.out.size)⟩
        case measure => simp [intOf]; omega
      · simp only [hp, if_true] at hs cl
        go_wp2_with (go_at_call 61; rw [← HW.out]; (with_reducible refine cl.mono ?_); rintro e w3 ⟨rfl, hb3⟩)
        go_roundw
        case rel => exact ⟨k + 1, by omega, rfl, by rw [hs]; simp, HB.out.trans (hb3.mono HB.out.size)⟩
        case measure => simp [intOf]; omega
    · obtain rfl : k = L.length := by omega
      go_wp2
      go_ret
      exact ⟨by rw [List.take_length]; rfl, hb⟩
set_option maxHeartbeats 2000000 in
theorem count_room (B Q : Nat) (v : Value) (L : List Rq) (C : Nat) (c : Int) (w : World) (hA : HAt w B Q v L) (hL : L.length ≤ 200) (hC : w.cell? ⟨C, 0, none⟩ = some (.int .i64 c)) :
    Calls Try.prog 76 #[.pointer (some ⟨Q, 0, none⟩), .func (.func 75) #[] #[.pointer (some ⟨C, 0, none⟩)]] w fun e w' => e = .returned (.int .i64 (L.countP (isWs c) : Int)) ∧ Below w.heap.size w w' := by
  obtain ⟨ao, cap, rfl, hc1, hc2, hao⟩ := hA.form
  have cV := hA.cV
  have hR := hA.row
  clear hA
  have hCl := World.block_lt_of_cell? w _ hC
  simp only at hCl
  go_enter Try.func76, Try.ntmps76
  go_wp2
  go_loopw [5, 13] (fun d i wr => CnR (isWs c) L w d i wr) (fun _ i _ => L.length - (intOf i).toNat)
  case atStart => exact ⟨0, by omega, rfl, by simp, Below.refl _ _⟩
  case round =>
    obtain ⟨k, hk, rfl, rfl, hb⟩ := hrel
    by_cases hlt : k < L.length
    · have hlt' : (k : Int) < (L.length : Int) := by omega
      obtain ⟨g, rfl, hg, hc⟩ := row_req (hR.below hb) (by omega)
      obtain ⟨r, hr⟩ : ∃ r, L[k]? = some r := ⟨L[k], by simp [hlt]⟩
      obtain ⟨c0, c1, c2, c3, c4⟩ := hc k r hr
      have hs := countP_step (p := (isWs c)) hr
      have hd : (L.take k).countP (isWs c) ≤ 200 := Nat.le_trans List.countP_le_length (by rw [List.length_take]; omega)
      obtain ⟨W, hW⟩ : ∃ W, W = wr.alloc (.cells #[.int .i64 r.id, .int .i64 r.src, .int .i64 r.til, .int .i64 r.fat, .int .i64 r.pod] 90) := ⟨_, rfl⟩
      have hbw : Below w.heap.size w W := by rw [hW]; exact hb.alloc hb.size _
      have hC2 := (hbw.cell (p := ⟨C, 0, none⟩) hCl).trans hC
      have cl := room1_any r C c W hC2
      simp only [rV] at cl
      have HW : Hid (W = wr.alloc (.cells #[.int .i64 r.id, .int .i64 r.src, .int .i64 r.til, .int .i64 r.fat, .int .i64 r.pod] 90)) := hW
      have HB : Hid (Below w.heap.size w W) := hbw
      clear hc hR cV hb hbw hW hr
      cases hp : isWs c r
      · simp only [hp, Bool.false_eq_true, if_false, Nat.add_zero] at hs cl
        go_wp2_with (go_at_call 75; rw [← HW.out]; (with_reducible refine cl.mono ?_); rintro e w3 ⟨rfl, hb3⟩)
        go_roundw
        case rel => exact ⟨k + 1, by omega, rfl, by rw [hs], HB.out.trans (hb3.mono HB.out.size)⟩
        case measure => simp [intOf]; omega
      · simp only [hp, if_true] at hs cl
        go_wp2_with (go_at_call 75; rw [← HW.out]; (with_reducible refine cl.mono ?_); rintro e w3 ⟨rfl, hb3⟩)
        go_roundw
        case rel => exact ⟨k + 1, by omega, rfl, by rw [hs]; simp, HB.out.trans (hb3.mono HB.out.size)⟩
        case measure => simp [intOf]; omega
    · obtain rfl : k = L.length := by omega
      go_wp2
      go_ret
      exact ⟨by rw [List.take_length]; rfl, hb⟩
end Buf
end Go.Proofs.Ytkflelbpiabcpag
