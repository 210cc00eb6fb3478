
/- May requests have gone on so? tidekeep.fates, walked. -/
import Derived.Test.YtkflelbpiabcpagBufRun
import Derived.Test.YtkflelbpiabcpagBufFates
import Derived.Test.YtkflelbpiabcpagMapInt
import Derived.Deep.CutBlock
import Derived.Deep.DeepCutAuto
namespace Go.Proofs.Ytkflelbpiabcpag
namespace Buf
open Go.RowKit Rw Rec Mp
set_option maxRecDepth 8000

/-- how many of a source run, of the first k -/
def isRs (s : Int) (r : Rq) : Bool := r.src == s && r.fat == 2
def runsOf (L : List Rq) (k : Nat) (s : Int) : Int := ((L.take k).countP (isRs s) : Int)
theorem runs_step {L : List Rq} {k : Nat} {r : Rq} (h : L[k]? = some r) (s : Int) : runsOf L (k + 1) s = runsOf L k s + if isRs s r then 1 else 0 := by
  unfold runsOf
  rw [countP_step h]
  split <;> simp
theorem runs_one {L : List Rq} (h : One L) (k : Nat) (s : Int) : 0 ≤ runsOf L k s ∧ runsOf L k s ≤ 1 := by
  refine ⟨by unfold runsOf; omega, ?_⟩
  induction k with
  | zero => simp [runsOf]
  | succ k ih =>
    cases hr : L[k]? with
    | none =>
      have : L.take (k + 1) = L.take k := by rw [List.take_add_one, hr]; simp
      unfold runsOf at *
      rw [this]; exact ih
    | some r =>
      rw [runs_step hr]
      cases hp : isRs s r with
      | false => simpa using ih
      | true =>
        have h0 : (L.take k).countP (isRs s) = 0 := by
          rw [List.countP_eq_zero]
          intro x hx hq
          obtain ⟨j, hj, rfl⟩ := List.mem_take_iff_getElem.1 hx
          unfold isRs at hp hq
          simp at hp hq
          have hj2 : j < L.length := by omega
          have := h k j r (L[j]'hj2) hr (by simp) hp.2 hq.2 (by rw [hp.1, hq.1])
          omega
        unfold runsOf
        rw [h0]; simp
theorem runs_zero {L : List Rq} (h : One L) {k : Nat} {r : Rq} (hr : L[k]? = some r) (hf : r.fat = 2) : runsOf L k r.src = 0 := by
  have h1 := runs_one h (k + 1) r.src
  have h2 := runs_one h k r.src
  rw [runs_step hr] at h1
  have : isRs r.src r = true := by simp [isRs, hf]
  rw [this] at h1
  simp at h1
  omega
/-- k requests are looked at -/
def FtR (L : List Rq) (w : World) (i : Value) (wr : World) : Prop :=
  ∃ k : Nat, k ≤ L.length ∧ i = .int .i64 k ∧ MapAt wr w.heap.size k (runsOf L k) ∧ Below w.heap.size w wr
/-- what runs is booked, and nobody of its source waits ahead -/
structure FmR (L : List Rq) (w : World) (C k : Nat) (r : Rq) (wx : World) : Prop where
  m : MapAt wx w.heap.size (k + 1) (runsOf L (k + 1))
  b : Below w.heap.size w wx
  c1 : wx.cell? ⟨C, 1, none⟩ = some (.int .i64 r.src)
  c2 : wx.cell? ⟨C, 2, none⟩ = some (.int .i64 r.til)
  c3 : wx.cell? ⟨C, 3, none⟩ = some (.int .i64 r.fat)
def FiR (k : Nat) (w2 : World) (i : Value) (wr : World) : Prop := ∃ j : Nat, j ≤ k ∧ i = .int .i64 j ∧ Below w2.heap.size w2 wr
theorem FmR.below {L : List Rq} {w : World} {C k : Nat} {r : Rq} {wx wy : World} (h : FmR L w C k r wx) (hb : Below wx.heap.size wx wy) : FmR L w C k r wy := by
  have hl := World.block_lt_of_cell? wx _ h.c1
  exact ⟨h.m.below hb, h.b.trans (hb.mono h.b.size), (hb.cell (p := ⟨C, 1, none⟩) hl).trans h.c1, (hb.cell (p := ⟨C, 2, none⟩) hl).trans h.c2, (hb.cell (p := ⟨C, 3, none⟩) hl).trans h.c3⟩
set_option maxHeartbeats 8000000 in
theorem fates_any (ao bo : Option Addr) (c d : Nat) (M L : List Rq) (w : World) (hM : RowAt rK w ao M) (hL : RowAt rK w bo L) (hF : Fat L) (hG : Goes M L) (hcd : L.length ≤ d) :
    Calls Try.prog 35 #[.slice ao M.length c, .slice bo L.length d] w fun e w' => e = .returned (.bool true) ∧ Below w.heap.size w w' := by
  have hmm := @run_makeMap Try.prog
  have hlen := hF.inv.len
  have hML := hG.1
  have hm0 : MapAt (w.alloc (.map #[] 0)) w.heap.size 0 (runsOf L 0) := (MapAt.new w).same (fun i => by simp [runsOf])
  have hb0 : Below w.heap.size w (w.alloc (.map #[] 0)) := (Below.refl _ _).alloc (Nat.le_refl _) _
  go_enter Try.func35, Try.ntmps35
  go_wp2
  go_loopw [15] (fun i wr => FtR L w i wr) (fun i _ => L.length - (intOf i).toNat)
  case atStart => exact ⟨0, by omega, rfl, hm0, hb0⟩
  case round =>
    clear hm0 hb0 hmm
    obtain ⟨k, hk, rfl, hmp, hb⟩ := hrel
    by_cases hlt : k < L.length
    · have hlt' : (k : Int) < (L.length : Int) := by omega
      obtain ⟨g, rfl, hg, hc⟩ := row_req (hL.below hb) (by omega)
      obtain ⟨r, hr⟩ : ∃ r, L[k]? = some r := ⟨L[k], by simp [hlt]⟩
      obtain ⟨d0, d1, d2, d3, d4⟩ := hc k r hr
      have hbd := hF.inv.bd r (List.mem_of_getElem? hr)
      have s0 := hbd.1
      have s5 := hbd.2.1
      obtain ⟨W1, hW⟩ : ∃ W1, W1 = wr.alloc (.cells #[.int .i64 r.id, .int .i64 r.src, .int .i64 r.til, .int .i64 r.fat, .int .i64 r.pod] 90) := ⟨_, rfl⟩
      have bW : Below wr.heap.size wr W1 := by rw [hW]; exact (Below.refl _ _).alloc (Nat.le_refl _) _
      have e1 : W1.cell? ⟨wr.heap.size, 1, none⟩ = some (.int .i64 r.src) := by rw [hW]; exact cell_at rfl rfl
      have e2 : W1.cell? ⟨wr.heap.size, 2, none⟩ = some (.int .i64 r.til) := by rw [hW]; exact cell_at rfl rfl
      have e3 : W1.cell? ⟨wr.heap.size, 3, none⟩ = some (.int .i64 r.fat) := by rw [hW]; exact cell_at rfl rfl
      have hmW := hmp.below bW
      have hbW := hb.trans (bW.mono hb.size)
      have hCN : wr.heap.size ≠ w.heap.size := by have := hmp.lt; omega
      have HW : Hid (W1 = wr.alloc (.cells #[.int .i64 r.id, .int .i64 r.src, .int .i64 r.til, .int .i64 r.fat, .int .i64 r.pod] 90)) := hW
      have HR : Hid (L[k]? = some r) := hr
      have HLr : Hid (RowAt rK w (some ⟨g, 0, none⟩) L) := hL
      have HMr : Hid (RowAt rK w ao M) := hM
      clear hW hc hmp hbd hr bW
      go_upto_if 22 with fail
      rw [← HW.out]
      clear HW d0 d1 d2 d3 d4 hg hb
      generalize wr.heap.size = C at *
      go_cut [] (fun wx => FmR L w C k r wx)
      case first =>
        cases hp : (r.fat == 2)
        · have HM1 : Hid (MapAt W1 w.heap.size (k + 1) (runsOf L (k + 1))) := (hmW.mono (Nat.le_succ k)).same (fun s => by rw [runs_step HR.out]; simp [isRs, hp])
          go_wp2
          go_meet
          exact ⟨HM1.out, hbW, e1, e2, e3⟩
        · have hf2 : r.fat = 2 := by simpa using hp
          have hz := runs_zero hF.one HR.out hf2
          have hlk := hmW.look (i := r.src) (by omega)
          rw [hz] at hlk
          obtain ⟨w2, hup, hm2, hg2⟩ := hmW.put (i := r.src) (x := 1) (by unfold maxLen; omega) (by omega) (by omega)
          have hlW := World.block_lt_of_cell? W1 _ e1
          simp only at hlW
          have kb : w2.heap[C]? = W1.heap[C]? := hg2.block C hlW (fun e => by cases e; exact hCN rfl)
          have H2 : Hid (FmR L w C k r w2) := by
            refine ⟨hm2.same (fun s => ?_), ⟨hg2.os.trans hbW.os, hg2.tape.trans hbW.tape, hg2.output.trans hbW.output, Nat.le_trans hbW.size hg2.size, fun j hj => (hg2.block j (Nat.lt_of_lt_of_le hj hbW.size) (fun e => by cases e; omega)).trans (hbW.block j hj)⟩, (World.cell?_of_block (w := W1) (a := ⟨C, 1, none⟩) kb).trans e1, (World.cell?_of_block (w := W1) (a := ⟨C, 2, none⟩) kb).trans e2, (World.cell?_of_block (w := W1) (a := ⟨C, 3, none⟩) kb).trans e3⟩
            rw [runs_step HR.out]
            unfold upd isRs
            by_cases es : s = r.src
            · subst es; rw [hz, hp]; simp
            · have : (r.src == s) = false := by rw [beq_eq_false_iff_ne]; exact fun h => es h.symm
              rw [if_neg es, this]; simp
          have HAh : Hid (∀ (j : Nat) (x : Rq), j < k → L[j]? = some x → x.src = r.src → x.fat ≠ 1) := fun j x hj hx hs => hF.ahead k j r x HR.out hf2 hj hx hs
          have hkd : (k : Int) ≤ (d : Int) := by omega
          have hkd2 : k ≤ d := by omega
          clear hz hf2 hm2 hg2 hmW hbW e2 hG hF hM hL
          go_wp2
          go_loopw [32] (fun i wr2 => FiR k w2 i wr2) (fun i _ => k - (intOf i).toNat)
          case atStart => exact ⟨0, by omega, rfl, Below.refl _ _⟩
          case round =>
            clear hup hlk e1 e3 kb hlW
            obtain ⟨j, hj, rfl, hbj⟩ := hrel
            have H3 : Hid (FmR L w C k r wr) := H2.out.below hbj
            by_cases hltj : j < k
            · have hltj' : (j : Int) < (k : Int) := by omega
              have hjl' : (j : Int) < (L.length : Int) := by omega
              obtain ⟨g2, hg20, hg2, hc2⟩ := row_req (HLr.out.below H3.out.b) (by omega)
              cases hg20
              obtain ⟨x, hx⟩ : ∃ x, L[j]? = some x := ⟨L[j]'(by omega), by simp⟩
              obtain ⟨x0, x1, x2, x3, x4⟩ := hc2 j x hx
              have y1 := H3.out.c1
              have hCl := World.block_lt_of_cell? wr _ y1
              simp only at hCl
              have HB : Hid (Below w2.heap.size w2 (wr.alloc (.cells #[.int .i64 x.id, .int .i64 x.src, .int .i64 x.til, .int .i64 x.fat, .int .i64 x.pod] 90))) := hbj.alloc hbj.size _
              have hno := HAh.out j x hltj hx
              clear hc2 hx hbj
              cases hs : (x.src == r.src)
              · clear hno
                go_wp2
                go_roundw
                case rel => exact ⟨j + 1, by omega, rfl, HB.out⟩
                case measure => simp [intOf]; omega
              · have hf1 : (x.fat == 1) = false := by rw [beq_eq_false_iff_ne]; exact hno (by simpa using hs)
                clear hno
                go_wp2
                go_roundw
                case rel => exact ⟨j + 1, by omega, rfl, HB.out⟩
                case measure => simp [intOf]; omega
            · obtain rfl : j = k := by omega
              go_wp2
              go_meet
              exact H3.out
      case rest =>
        clear e1 e2 e3 hmW hbW
        have y1 := hcut.c1
        have y2 := hcut.c2
        have y3 := hcut.c3
        have hlk := hcut.m.look (i := r.src) (by omega)
        have hle := (runs_one hF.one (k + 1) r.src).2
        generalize runsOf L (k + 1) r.src = m at *
        have hle' : ¬ (1 : Int) < m := by omega
        have hmp := hcut.m
        have hbx := hcut.b
        have HX : Hid (FtR L w (.int .i64 ((k + 1 : Nat) : Int)) wc) := ⟨k + 1, hlt, rfl, hmp, hbx⟩
        by_cases hkW : k < M.length
        · have hkW' : (k : Int) < (M.length : Int) := by omega
          have hkW2 : ¬ (M.length : Int) ≤ (k : Int) := by omega
          obtain ⟨h, rfl, hh, hc2⟩ := row_req (HMr.out.below hbx) (by omega)
          obtain ⟨x, hx⟩ : ∃ x, M[k]? = some x := ⟨M[k], by simp [hkW]⟩
          obtain ⟨x0, x1, x2, x3, x4⟩ := hc2 k x hx
          obtain ⟨r', hr', g1, g2, g3⟩ := hG.2 k x hx
          rw [HR.out] at hr'
          cases hr'
          rw [← g1] at x1
          rw [← g2] at x2
          clear hc2 hx g1 g2 hmp hcut hG hF hM hL x0 x4 hbx
          go_upto_region 17 with fail
          go_cut [11] (fun ok wx => ok = .bool true ∧ wx = wc)
          case first =>
            clear hlk x1 x2 y1 y2
            have H3 : Hid (wc.cell? ⟨C, 3, none⟩ = some (.int .i64 r.fat)) := y3
            clear y3
            generalize r.fat = rf at *
            generalize x.fat = xf at *
            have y3 := H3.out
            rcases g3 with rfl | ⟨rfl, rfl | rfl⟩ | ⟨rfl, rfl | rfl⟩
            all_goals
              go_wp2
              go_meet
              exact ⟨rfl, rfl⟩
          case rest =>
            obtain ⟨rfl, hwx⟩ := hcut
            subst hwx
            go_wp2_with fail
            refine wp_region_held_drew (S := fun w' => w'.cell? ⟨h, k * 5 + 1, none⟩ = some (.int .i64 r.src) ∧ w'.cell? ⟨h, k * 5 + 2, none⟩ = some (.int .i64 r.til) ∧ w'.cell? ⟨C, 1, none⟩ = some (.int .i64 r.src) ∧ w'.cell? ⟨C, 2, none⟩ = some (.int .i64 r.til)) (by kernel_rfl) (⟨x1, x2, y1, y2⟩) (fun hHeld => ?_)
            refine wpAnyH_take (i := 0) (oi := _) (v := ?_) rfl (by kernel_rfl) (by kernel_rfl) (by kernel_rfl) (fun _ _ _ h => h) (Or.inl ⟨by rfl, ?_⟩) (by assumption) ?_
            rotate_left
            · intro w' hSw
              (try dsimp only at hSw)
              go_simp
              all_goals with_reducible rfl
            (try simp only [Act.put, List.setIfInBounds_toArray, List.set_cons_zero, List.set_cons_succ, List.getElem_toArray, List.getElem_cons_zero])
            refine wpAnyH_take (i := 1) (oi := _) (v := ?_) rfl (by kernel_rfl) (by kernel_rfl) (by kernel_rfl) (fun _ _ _ h => h) (Or.inl ⟨by rfl, ?_⟩) (by assumption) ?_
            rotate_left
            · intro w' hSw
              (try dsimp only at hSw)
              go_simp
              all_goals with_reducible rfl
            (try simp only [Act.put, List.setIfInBounds_toArray, List.set_cons_zero, List.set_cons_succ, List.getElem_toArray, List.getElem_cons_zero, List.getElem_cons_succ])
            refine wpAnyH_take (i := 2) (oi := _) (v := ?_) rfl (by kernel_rfl) (by kernel_rfl) (by kernel_rfl) (fun _ _ _ h => h) (Or.inl ⟨by rfl, ?_⟩) (by assumption) ?_
            rotate_left
            · intro w' hSw
              (try dsimp only at hSw)
              go_simp
              all_goals with_reducible rfl
            (try simp only [Act.put, List.setIfInBounds_toArray, List.set_cons_zero, List.set_cons_succ, List.getElem_toArray, List.getElem_cons_zero, List.getElem_cons_succ])
            refine wpAnyH_take (i := 3) (oi := _) (v := ?_) rfl (by kernel_rfl) (by kernel_rfl) (by kernel_rfl) (fun _ _ _ h => h) (Or.inl ⟨by rfl, ?_⟩) (by assumption) ?_
            rotate_left
            · intro w' hSw
              (try dsimp only at hSw)
              go_simp
              all_goals with_reducible rfl
            (try simp only [Act.put, List.setIfInBounds_toArray, List.set_cons_zero, List.set_cons_succ, List.getElem_toArray, List.getElem_cons_zero, List.getElem_cons_succ])
            refine wpAnyH_take (i := 4) (oi := _) (v := ?_) rfl (by kernel_rfl) (by kernel_rfl) (by kernel_rfl) (fun _ _ _ h => h) (Or.inl ⟨by rfl, ?_⟩) (by assumption) ?_
            rotate_left
            · intro w' hSw
              (try dsimp only at hSw)
              go_simp
              all_goals with_reducible rfl
            (try simp only [Act.put, List.setIfInBounds_toArray, List.set_cons_zero, List.set_cons_succ, List.getElem_toArray, List.getElem_cons_zero, List.getElem_cons_succ])
            refine wpAnyH_take (i := 5) (oi := _) (v := ?_) rfl (by kernel_rfl) (by kernel_rfl) (by kernel_rfl) (fun _ _ _ h => h) (Or.inl ⟨by rfl, ?_⟩) (by assumption) ?_
            rotate_left
            · intro w' hSw
              (try dsimp only at hSw)
              go_simp
              all_goals with_reducible rfl
            (try simp only [Act.put, List.setIfInBounds_toArray, List.set_cons_zero, List.set_cons_succ, List.getElem_toArray, List.getElem_cons_zero, List.getElem_cons_succ])
            refine wpAnyH_take (i := 6) (oi := _) (v := ?_) rfl (by kernel_rfl) (by kernel_rfl) (by kernel_rfl) (fun _ _ _ h => h) (Or.inl ⟨by rfl, ?_⟩) (by assumption) ?_
            rotate_left
            · intro w' hSw
              (try dsimp only at hSw)
              go_simp
              all_goals with_reducible rfl
            (try simp only [Act.put, List.setIfInBounds_toArray, List.set_cons_zero, List.set_cons_succ, List.getElem_toArray, List.getElem_cons_zero, List.getElem_cons_succ])
            refine wpAnyH_take (i := 7) (oi := _) (v := ?_) rfl (by kernel_rfl) (by kernel_rfl) (by kernel_rfl) (fun _ _ _ h => h) (Or.inl ⟨by rfl, ?_⟩) (by assumption) ?_
            rotate_left
            · intro w' hSw
              (try dsimp only at hSw)
              go_simp
              all_goals with_reducible rfl
            (try simp only [Act.put, List.setIfInBounds_toArray, List.set_cons_zero, List.set_cons_succ, List.getElem_toArray, List.getElem_cons_zero, List.getElem_cons_succ])
            refine wpAnyH_take (i := 8) (oi := _) (v := ?_) rfl (by kernel_rfl) (by kernel_rfl) (by kernel_rfl) (fun _ _ _ h => h) (Or.inl ⟨by rfl, ?_⟩) (by assumption) ?_
            rotate_left
            · intro w' hSw
              (try dsimp only at hSw)
              go_simp
              all_goals with_reducible rfl
            (try simp only [Act.put, List.setIfInBounds_toArray, List.set_cons_zero, List.set_cons_succ, List.getElem_toArray, List.getElem_cons_zero, List.getElem_cons_succ])
            refine wpAnyH_take (i := 9) (oi := _) (v := ?_) rfl (by kernel_rfl) (by kernel_rfl) (by kernel_rfl) (fun _ _ _ h => h) (Or.inl ⟨by rfl, ?_⟩) (by assumption) ?_
            rotate_left
            · intro w' hSw
              (try dsimp only at hSw)
              go_simp
              all_goals with_reducible rfl
            (try simp only [Act.put, List.setIfInBounds_toArray, List.set_cons_zero, List.set_cons_succ, List.getElem_toArray, List.getElem_cons_zero, List.getElem_cons_succ])
            refine wpAnyH_take (i := 10) (oi := _) (v := ?_) rfl (by kernel_rfl) (by kernel_rfl) (by kernel_rfl) (fun _ _ _ h => h) (Or.inl ⟨by rfl, ?_⟩) (by assumption) ?_
            rotate_left
            · intro w' hSw
              (try dsimp only at hSw)
              go_simp
              all_goals with_reducible rfl
            (try simp only [Act.put, List.setIfInBounds_toArray, List.set_cons_zero, List.set_cons_succ, List.getElem_toArray, List.getElem_cons_zero, List.getElem_cons_succ])
            refine wpAnyH_take (i := 11) (oi := _) (v := ?_) rfl (by kernel_rfl) (by kernel_rfl) (by kernel_rfl) (fun _ _ _ h => h) (Or.inl ⟨by rfl, ?_⟩) (by assumption) ?_
            rotate_left
            · intro w' hSw
              (try dsimp only at hSw)
              go_simp
              all_goals with_reducible rfl
            (try simp only [Act.put, List.setIfInBounds_toArray, List.set_cons_zero, List.set_cons_succ, List.getElem_toArray, List.getElem_cons_zero, List.getElem_cons_succ])
            refine wpAnyH_take (i := 12) (oi := _) (v := ?_) rfl (by kernel_rfl) (by kernel_rfl) (by kernel_rfl) (fun _ _ _ h => h) (Or.inl ⟨by rfl, ?_⟩) (by assumption) ?_
            rotate_left
            · intro w' hSw
              (try dsimp only at hSw)
              go_simp
              all_goals with_reducible rfl
            (try simp only [Act.put, List.setIfInBounds_toArray, List.set_cons_zero, List.set_cons_succ, List.getElem_toArray, List.getElem_cons_zero, List.getElem_cons_succ])
            refine wpAnyH_take (i := 13) (oi := _) (v := ?_) rfl (by kernel_rfl) (by kernel_rfl) (by kernel_rfl) (fun _ _ _ h => h) (Or.inl ⟨by rfl, ?_⟩) (by assumption) ?_
            rotate_left
            · intro w' hSw
              (try dsimp only at hSw)
              go_simp
              all_goals with_reducible rfl
            (try simp only [Act.put, List.setIfInBounds_toArray, List.set_cons_zero, List.set_cons_succ, List.getElem_toArray, List.getElem_cons_zero, List.getElem_cons_succ])
            refine wpAnyH_take (i := 14) (oi := _) (v := ?_) rfl (by kernel_rfl) (by kernel_rfl) (by kernel_rfl) (fun _ _ _ h => h) (Or.inl ⟨by rfl, ?_⟩) (by assumption) ?_
            rotate_left
            · intro w' hSw
              (try dsimp only at hSw)
              go_simp
              all_goals with_reducible rfl
            (try simp only [Act.put, List.setIfInBounds_toArray, List.set_cons_zero, List.set_cons_succ, List.getElem_toArray, List.getElem_cons_zero, List.getElem_cons_succ])
            refine wpAnyH_take (i := 15) (oi := _) (v := ?_) rfl (by kernel_rfl) (by kernel_rfl) (by kernel_rfl) (fun _ _ _ h => h) (Or.inl ⟨by rfl, ?_⟩) (by assumption) ?_
            rotate_left
            · intro w' hSw
              (try dsimp only at hSw)
              go_simp
              all_goals with_reducible rfl
            (try simp only [Act.put, List.setIfInBounds_toArray, List.set_cons_zero, List.set_cons_succ, List.getElem_toArray, List.getElem_cons_zero, List.getElem_cons_succ])
            refine wpAnyH_take (i := 16) (oi := _) (v := ?_) rfl (by kernel_rfl) (by kernel_rfl) (by kernel_rfl) (fun _ _ _ h => h) (Or.inl ⟨by rfl, ?_⟩) (by assumption) ?_
            rotate_left
            · intro w' hSw
              (try dsimp only at hSw)
              go_simp
              all_goals with_reducible rfl
            (try simp only [Act.put, List.setIfInBounds_toArray, List.set_cons_zero, List.set_cons_succ, List.getElem_toArray, List.getElem_cons_zero, List.getElem_cons_succ])
            refine wpAnyH_take (i := 17) (oi := _) (v := ?_) rfl (by kernel_rfl) (by kernel_rfl) (by kernel_rfl) (fun _ _ _ h => h) (Or.inl ⟨by rfl, ?_⟩) (by assumption) ?_
            rotate_left
            · intro w' hSw
              (try dsimp only at hSw)
              go_simp
              all_goals with_reducible rfl
            (try simp only [Act.put, List.setIfInBounds_toArray, List.set_cons_zero, List.set_cons_succ, List.getElem_toArray, List.getElem_cons_zero, List.getElem_cons_succ])
            refine wpAnyH_take (i := 18) (oi := _) (v := ?_) rfl (by kernel_rfl) (by kernel_rfl) (by kernel_rfl) (fun _ _ _ h => h) (Or.inl ⟨by rfl, ?_⟩) (by assumption) ?_
            rotate_left
            · intro w' hSw
              (try dsimp only at hSw)
              go_simp
              all_goals with_reducible rfl
            (try simp only [Act.put, List.setIfInBounds_toArray, List.set_cons_zero, List.set_cons_succ, List.getElem_toArray, List.getElem_cons_zero, List.getElem_cons_succ])
            refine wpAnyH_take (i := 19) (oi := _) (v := ?_) rfl (by kernel_rfl) (by kernel_rfl) (by kernel_rfl) (fun _ _ _ h => h) (Or.inl ⟨by rfl, ?_⟩) (by assumption) ?_
            rotate_left
            · intro w' hSw
              (try dsimp only at hSw)
              go_simp
              all_goals with_reducible rfl
            (try simp only [Act.put, List.setIfInBounds_toArray, List.set_cons_zero, List.set_cons_succ, List.getElem_toArray, List.getElem_cons_zero, List.getElem_cons_succ])
            refine wpAnyH_take (i := 20) (oi := _) (v := ?_) rfl (by kernel_rfl) (by kernel_rfl) (by kernel_rfl) (fun _ _ _ h => h) (Or.inl ⟨by rfl, ?_⟩) (by assumption) ?_
            rotate_left
            · intro w' hSw
              (try dsimp only at hSw)
              go_simp
              all_goals with_reducible rfl
            (try simp only [Act.put, List.setIfInBounds_toArray, List.set_cons_zero, List.set_cons_succ, List.getElem_toArray, List.getElem_cons_zero, List.getElem_cons_succ])
            refine wpAnyH_take (i := 21) (oi := _) (v := ?_) rfl (by kernel_rfl) (by kernel_rfl) (by kernel_rfl) (fun _ _ _ h => h) (Or.inl ⟨by rfl, ?_⟩) (by assumption) ?_
            rotate_left
            · intro w' hSw
              (try dsimp only at hSw)
              go_simp
              all_goals with_reducible rfl
            (try simp only [Act.put, List.setIfInBounds_toArray, List.set_cons_zero, List.set_cons_succ, List.getElem_toArray, List.getElem_cons_zero, List.getElem_cons_succ])
            refine wpAnyH_done (by kernel_rfl) ?_ _
            go_wp2
            go_roundw
            case rel => exact (show FtR L w (.int .i64 ((k + 1 : Nat) : Int)) _ from by obtain ⟨a, b, c, d, e⟩ := HX.out; exact ⟨a, b, c, d, e.drew⟩)
            case measure => simp [intOf]; omega
        · have hkW' : (M.length : Int) ≤ (k : Int) := by omega
          go_wp2
          go_roundw
          case rel => exact HX.out
          case measure => simp [intOf]; omega
    · obtain rfl : k = L.length := by omega
      go_wp2
      go_ret
      exact ⟨rfl, hb⟩
end Buf
end Go.Proofs.Ytkflelbpiabcpag
