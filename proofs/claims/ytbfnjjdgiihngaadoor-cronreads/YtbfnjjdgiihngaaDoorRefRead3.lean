/- ReadCron: five words. -/
import Derived.Test.YtbfnjjdgiihngaaDoorRefRead2
namespace Go.Proofs.YtbfnjjdgiihngaaDoor
namespace Pie
open Go.RowKit Crn Lai Civ RCrn
set_option maxRecDepth 8000

theorem Texts.put {W : World} {N C i : Nat} {v : Value} {l : List (List UInt8)} (h : Texts W N l) (hne : N ≠ C) : Texts (W.setCell ⟨C, i, none⟩ v) N l :=
  ⟨by simpa using h.1, fun j x hx => (set_off (fun e => hne (congrArg Addr.block e).symm)).trans (h.2 j x hx)⟩
theorem RcS.drew {ps : List (List UInt8)} {w W : World} {B C q D : Nat} (h : RcS ps w B C q D W) : RcS ps w B C q D W.drew := h.on (Below.refl _ _).drew
theorem FcS.drew {C : Nat} {f : Nat → Int} {W : World} (h : FcS C f W) : FcS C f W.drew := ⟨h.set, h.ad, h.aw⟩
theorem Texts.drew {W : World} {N : Nat} {l : List (List UInt8)} (h : Texts W N l) : Texts W.drew N l := ⟨h.1, h.2⟩
/-- one number of an item is set -/
theorem rcI_step {ps its : List (List UInt8)} {w wr : World} {B C q D N G i K j : Nat} {u a st v2 v3 n : Int} {f : Nat → Int} (hi : i < 5) (hjK : j < K) (hCN : C < N) (hCG : C < G) (hGz : G < wr.heap.size) (hT : Texts wr N its) (hG : ∀ x, x < K → wr.cell? ⟨G, x, none⟩ = some (.int .i64 (a + st * (x : Int))))
    (hS : RcS ps w B C q D wr) (hF : FcS C (fun x => if x = i then v2 else f x) wr) (hon : OnUp u a st (n + st) v3) (hmn : n + st = a + st * ((j + 1 : Nat) : Int)) (jv : Value) (hjv : jv = .int .i64 ((j + 1 : Nat) : Int)) :
    RcI ps its w B C q D N G i K u a st f jv (wr.setCell ⟨C, i, none⟩ (.int .u64 v3)).drew := by
  have hff : (fun x => if x = i then v3 else (if x = i then v2 else f x)) = (fun x => if x = i then v3 else f x) := funext fun x => by by_cases e : x = i <;> simp [e]
  have hF3 := hF.put (v := v3) hi
  rw [hff] at hF3
  refine ⟨j + 1, v3, by omega, hjv, by rw [← hmn]; exact hon, hCN, hCG, ?_, (hT.put (by omega)).drew, fun x hx => ?_, hS.put.drew, hF3.drew⟩
  · show G < (wr.setCell ⟨C, i, none⟩ (.int .u64 v3)).heap.size
    simpa using hGz
  · show (wr.setCell ⟨C, i, none⟩ (.int .u64 v3)).cell? _ = _
    exact (set_off (fun e => by have := congrArg Addr.block e; simp at this; omega)).trans (hG x hx)
/-- an item is done -/
theorem rcM_step {ps its : List (List UInt8)} {w wr : World} {B C q D N i m K : Nat} {lo hi a b st v v2 : Int} {f : Nat → Int} {l2 : List (Int × Int × Int)} {y : List UInt8} (hml : m < its.length) (hy : its[m]? = some y) (hCN : C < N) (hT : Texts wr N its)
    (hS : RcS ps w B C q D wr) (hF : FcS C (fun x => if x = i then v2 else f x) wr) (hw : wordS lo hi (its.take m) = some l2) (hset : SetIs l2 v) (hn : itemS lo hi y = some (a, b, st)) (hon : OnUp v a st (a + st * (K : Int)) v2) (h3 : b < a + st * (K : Int)) (h4 : a + st * (K : Int) ≤ b + st) (kv : Value) (hkv : kv = .int .i64 ((m + 1 : Nat) : Int)) :
    RcM ps its w B C q D N i lo hi f kv wr := by
  refine ⟨m + 1, v2, l2 ++ [(a, b, st)], by omega, hkv, ?_, onUp_end hset hon h3 h4 ?_, hCN, hT.1, hT, hS, hF⟩
  · rw [List.take_add_one, hy]
    exact wordS_add lo hi _ l2 y _ hw hn
  · rw [show a + st * (K : Int) - a = st * (K : Int) by omega]
    exact Int.mul_emod_right _ _
/-- a word is done -/
theorem rcO_step {ps : List (List UInt8)} {w wr : World} {B C q D k : Nat} {f : Nat → Int} {v : Int} {l : Nat → List (Int × Int × Int)} {l2 : List (Int × Int × Int)} (hlt : k < 5) (hit : ∀ j, j < k → wItems ps j = some (l j) ∧ SetIs (l j) (f j)) (hz : ∀ j, k ≤ j → f j = 0)
    (hw : wItems ps k = some l2) (hset : SetIs l2 v) (hS : RcS ps w B C q D wr) (hF : FcS C (fun x => if x = k then v else f x) wr) (i : Value) (hi : i = .int .i64 ((k + 1 : Nat) : Int)) : RcO ps w B C q D i wr := by
  refine ⟨k + 1, fun x => if x = k then v else f x, fun x => if x = k then l2 else l x, by omega, hi, fun j hj => ?_, fun j hj => ?_, hS, hF⟩
  · dsimp only
    by_cases e : j = k
    · rw [if_pos e, if_pos e, e]; exact ⟨hw, hset⟩
    · rw [if_neg e, if_neg e]; exact hit j (by omega)
  · dsimp only
    rw [if_neg (by omega)]; exact hz j (by omega)

set_option maxHeartbeats 8000000 in
theorem rc_five (s : List UInt8) (w : World) (h : s.length ≤ 300) (hp : (pieces 32 s).length = 5) :
    Calls Tryd.prog 13 #[strV s] w fun e w' => ParseAns s e ∧ Below w.heap.size w w' := by
  have hsz : (⟨s.toArray⟩ : ByteArray).size = s.length := rfl
  have g : ¬ (300 : Int) < ((⟨s.toArray⟩ : ByteArray).size : Int) := by omega
  have cS : ∀ w : World, Calls Tryd.prog 31 #[strV s, .int .u8 32] w fun e w' => ∃ B cv, e = .returned (.slice (some ⟨B, 0, none⟩) (pieces 32 s).length cv) ∧ w.heap.size ≤ B ∧ Texts w' B (pieces 32 s) ∧ Below w.heap.size w w' := fun w => rpieces s 32 w (by omega)
  have HW : Hid ((∃ i, i < 5 ∧ wItems (pieces 32 s) i = none) → ParseAns s (.returned (.tuple #[cron0, .int .i64 3]))) := fun g => Or.inr (Or.inl ⟨h, Or.inr g, rfl⟩)
  have HR : Hid (∀ v, Right (pieces 32 s) v → ParseAns s (.returned (.tuple #[v, .int .i64 0]))) := fun v g => Or.inr (Or.inr ⟨h, hp, v, g, rfl⟩)
  have HP : Hid (∀ p ∈ pieces 32 s, p.length ≤ 1000) := fun p hp => by have := pieces_sub 32 s p hp; omega
  have hne : (((pieces 32 s).length : Int) != 5) = false := by rw [hp]; rfl
  generalize pieces 32 s = ps at *
  obtain ⟨w0, hw⟩ : ∃ w0, w0 = w.alloc (.cells (#[Value.int .u64 0, .int .u64 0, .int .u64 0, .int .u64 0, .int .u64 0, .bool false, .bool false]) 24) := ⟨_, rfl⟩
  have hC0 : ∀ o, w0.cell? ⟨w.heap.size, o, none⟩ = (#[Value.int .u64 0, .int .u64 0, .int .u64 0, .int .u64 0, .int .u64 0, .bool false, .bool false])[o]? := fun o => by rw [hw]; simp
  have hF0 : ∀ o, w0.frozen? ⟨w.heap.size, o, none⟩ = false := fun o => by rw [hw]; simp
  have hz0 : w.heap.size < w0.heap.size := by rw [hw]; simp
  have hw0 : Below w.heap.size w w0 := by rw [hw]; exact (Below.refl _ _).alloc (Nat.le_refl _) _
  go_enter Tryd.func13, Tryd.ntmps13
  go_wp2_with (first
    | (go_at_call 31; rw [← hw]; (with_reducible refine (cS _).mono ?_); rintro e w1 ⟨B, k1, rfl, hB1, hT1, hb1⟩; have hC1 := cells_on hC0 hb1 hz0; have hF1 := free_on hF0 hb1 hz0; have hw1 : Below w.heap.size w w1 := hw0.trans (hb1.mono hw0.size); have hz1 : w.heap.size < w1.heap.size := Nat.lt_of_lt_of_le hz0 hb1.size)
    | (go_at_call 18; (with_reducible refine (rsets_any _ _ _ _ _ _ _ _).mono ?_); rintro e w2 ⟨p, q, r, rfl, hp2, hq2, hr2, hcp, hcq, hcr, hb2⟩))
  obtain ⟨hS, hFc⟩ := rc_start (td := 69) hC1 hF1 hT1 hw1 hz1 hb2 hq2 hcq
  obtain ⟨W, hW⟩ : ∃ W, W = w2.alloc (.cells (#[Value.pointer (some ⟨w1.heap.size, 0, none⟩), .pointer (some ⟨w1.heap.size, 1, none⟩), .pointer (some ⟨w1.heap.size, 2, none⟩), .pointer (some ⟨w1.heap.size, 3, none⟩), .pointer (some ⟨w1.heap.size, 4, none⟩)]) 69) := ⟨_, rfl⟩
  rw [← hW] at hS hFc ⊢
  clear hW hC1 hF1 hT1 hw1 hz1 hb1 hb2 hcp hcq hcr hp2 hq2 hr2 hB1 hC0 hF0 hw0 hz0 hw cS
  generalize w1.heap.size = C at *
  generalize w2.heap.size = D at *
  go_loopw [10] (fun i wr => RcO ps w B C q D i wr) (fun i _ => 5 - (intOf i).toNat)
  case atStart => exact ⟨0, fun _ => 0, fun _ => [], by omega, rfl, (fun j hj => absurd hj (by omega)), (fun _ _ => rfl), hS, hFc⟩
  case round =>
    clear hS hFc
    obtain ⟨k, f, l, hk, rfl, hit0, hz, hS, hFc⟩ := hrel
    have HIt : Hid (∀ j, j < k → wItems ps j = some (l j) ∧ SetIs (l j) (f j)) := hit0
    clear hit0
    by_cases hlt : k < 5
    · have hlt' : (k : Int) < 5 := by omega
      obtain ⟨x, hx⟩ : ∃ x, ps[k]? = some x := ⟨ps[k], by simp [hp, hlt]⟩
      have cx := hS.tx.2 k x hx
      have HX : Hid (ps.getD k [] = x) := by unfold Hid; rw [List.getD_eq_getElem?_getD, hx]; rfl
      have hlx := HP.out x (List.mem_of_getElem? hx)
      have cI : ∀ w : World, Calls Tryd.prog 31 #[strV x, .int .u8 44] w fun e w' => ∃ B cv, e = .returned (.slice (some ⟨B, 0, none⟩) (pieces 44 x).length cv) ∧ w.heap.size ≤ B ∧ Texts w' B (pieces 44 x) ∧ Below w.heap.size w w' := fun w => rpieces x 44 w (by omega)
      have HI : Hid (∀ l', wordS (blo k) (bhi k) (pieces 44 x) = l' → wItems ps k = l') := fun l' e => by unfold wItems; rw [HX.out]; exact e
      have HPx : Hid (∀ p ∈ pieces 44 x, p.length ≤ 1000) := fun p hp => by have := pieces_sub 44 x p hp; omega
      have hil : (pieces 44 x).length ≤ 1001 := by rw [pieces_len]; have := List.count_le_length (a := (44 : UInt8)) (l := x); omega
      generalize pieces 44 x = its at *
      go_wp2_with (go_at_call 31; (with_reducible refine (cI _).mono ?_); rintro e w3 ⟨N, k3, rfl, hN3, hT3, hb3⟩)
      have hCw : C < wr.heap.size := Nat.lt_trans hS.zD hS.zD2
      have hS3 := hS.on hb3
      have hF3 := hFc.on hb3 hCw
      have hff : (fun x => if x = k then (0 : Int) else f x) = f := funext fun x => by
        by_cases e : x = k
        · subst e; simp [hz x (Nat.le_refl _)]
        · simp [e]
      clear cI hS hFc hb3
      go_loopw [12] (fun kv wr => RcM ps its w B C q D N k (blo k) (bhi k) f kv wr) (fun kv _ => its.length - (intOf kv).toNat)
      case atStart => exact ⟨0, 0, [], by omega, rfl, rfl, setIs_nil, by omega, hT3.1, hT3, hS3, by rw [hff]; exact hF3⟩
      case round =>
        clear hT3 hS3 hF3
        obtain ⟨m, v, l2, hm, rfl, hwd, hset, hCN, hNz, hTr, hSr, hFr⟩ := hrel
        have HWd : Hid (wordS (blo k) (bhi k) (its.take m) = some l2) := hwd
        have HSet : Hid (SetIs l2 v) := hset
        clear hwd hset
        by_cases hml : m < its.length
        · obtain ⟨y, hy⟩ : ∃ y, its[m]? = some y := ⟨its[m], by simp [hml]⟩
          have cy := hTr.2 m y hy
          have hml' : (m : Int) < (its.length : Int) := by omega
          obtain ⟨q0, q1⟩ := lim_at hSr hlt
          obtain ⟨r0, r1, r2⟩ := bl_bd hlt
          rcases ritem_case y (blo k) (bhi k) r0 r1 r2 (HPx.out y (List.mem_of_getElem? hy)) with ⟨hn, cT⟩ | ⟨a, b, st, hn, cT⟩
          · have HN : Hid (∃ i, i < 5 ∧ wItems ps i = none) := ⟨k, hlt, HI.out _ (wordS_not _ _ its y (List.mem_of_getElem? hy) hn)⟩
            clear hn
            generalize blo k = lo at *
            generalize bhi k = hi at *
            go_wp2_with fail
            go_region_held (fun w' => w'.cell? ⟨N, m, none⟩ = some (strV y) ∧ w'.cell? ⟨q, k * 2, none⟩ = some (.int .i64 lo) ∧ w'.cell? ⟨q, k * 2 + 1, none⟩ = some (.int .i64 hi)) (first | exact ⟨cy4, q04, q14⟩ | exact ⟨cy, q0, q1⟩) ((go_at_call 32; (with_reducible refine (cT _).mono ?_); rintro e w4 ⟨rfl, hb4'⟩; have hb4 : Below wr.heap.size wr w4 := ⟨hb4'.os, hb4'.tape, hb4'.output, hb4'.size, hb4'.block⟩; have cy4 := (hb4.cell (p := ⟨N, m, none⟩) hNz).trans cy; have q04 := (hb4.cell (p := ⟨q, k * 2, none⟩) hSr.zq2).trans q0; have q14 := (hb4.cell (p := ⟨q, k * 2 + 1, none⟩) hSr.zq2).trans q1))
            all_goals
            have hS4 := hSr.on hb4
            have hC4 := hS4.box
            have hF4 := hS4.fbox
            have f0 := hF4 0; have f1 := hF4 1; have f2 := hF4 2; have f3 := hF4 3; have f4 := hF4 4; have f5 := hF4 5; have f6 := hF4 6
            go_wp2
            exact finP (B := w.heap.size) rfl rfl rfl (set7c (W := w4) (B := w.heap.size) (x0 := Value.int .u64 0) (x1 := Value.int .u64 0) (x2 := Value.int .u64 0) (x3 := Value.int .u64 0) (x4 := Value.int .u64 0) (x5 := Value.bool false) (x6 := Value.bool false) (.int .u64 0) (.int .u64 0) (.int .u64 0) (.int .u64 0) (.int .u64 0) (.bool false) (.bool false) (hC4 0) (hC4 1) (hC4 2) (hC4 3) (hC4 4) (hC4 5) (hC4 6)) (HW.out HN.out) (((((((hS4.bel.setCell (Nat.le_refl _) _).setCell (Nat.le_refl _) _).setCell (Nat.le_refl _) _).setCell (Nat.le_refl _) _).setCell (Nat.le_refl _) _).setCell (Nat.le_refl _) _).setCell (Nat.le_refl _) _)
          · have HN : Hid (itemS (blo k) (bhi k) y = some (a, b, st)) := hn
            clear hn
            generalize blo k = lo at *
            generalize bhi k = hi at *
            go_wp2_with fail
            go_region_held (fun w' => w'.cell? ⟨N, m, none⟩ = some (strV y) ∧ w'.cell? ⟨q, k * 2, none⟩ = some (.int .i64 lo) ∧ w'.cell? ⟨q, k * 2 + 1, none⟩ = some (.int .i64 hi)) (first | exact ⟨cy4, q04, q14⟩ | exact ⟨cy, q0, q1⟩) ((go_at_call 32; (with_reducible refine (cT _).mono ?_); rintro e w4 ⟨K, G, cw, rfl, k1', k2', k3', k4', k5', k6', k7', hb4'⟩; have hb4 : Below wr.heap.size wr w4 := ⟨hb4'.os, hb4'.tape, hb4'.output, hb4'.size, hb4'.block⟩; have cy4 := (hb4.cell (p := ⟨N, m, none⟩) hNz).trans cy; have q04 := (hb4.cell (p := ⟨q, k * 2, none⟩) hSr.zq2).trans q0; have q14 := (hb4.cell (p := ⟨q, k * 2 + 1, none⟩) hSr.zq2).trans q1))
            all_goals
            have hS4 := hSr.on hb4
            have hF4 := hFr.on hb4 (Nat.lt_trans hSr.zD hSr.zD2)
            go_wp2
            have hCG : C < G := Nat.lt_of_lt_of_le (Nat.lt_trans hSr.zD hSr.zD2) k5'
            have hT4 := hTr.below hb4 hNz
            go_loopw [14] (fun jv wr => RcI ps its w B C q D N G k K v a st f jv wr) (fun jv _ => K - (intOf jv).toNat)
            case atStart => exact ⟨0, v, by omega, rfl, by have := onUp_start (u := v) (a := a) (st := st) HSet.out.1; simpa using this, hCN, hCG, k6', hT4, k7', hS4, hF4⟩
            case round =>
              clear hS4 hF4 hT4
              obtain ⟨j, v2, hj, rfl, hon, hCN5, hCG5, hGz, hT5, hG5, hS5, hF5⟩ := hrel
              have HOn : Hid (OnUp v a st (a + st * (j : Int)) v2) := hon
              clear hon
              have hbd := itemS_bd r1 HN.out
              by_cases hjK : j < K
              · have hjK' : (j : Int) < (K : Int) := by omega
                have cg := hG5 j hjK
                have HG : Hid (∀ x, x < K → wr.cell? ⟨G, x, none⟩ = some (.int .i64 (a + st * (x : Int)))) := hG5
                clear hG5 k7'
                have cp := ptr_at hS5 hlt
                have cc : wr.cell? ⟨C, k, none⟩ = some (.int .u64 v2) := by have := hF5.set k hlt; rw [if_pos rfl] at this; exact this
                have fc := hS5.fC k
                obtain ⟨n0, n1, n2, n3⟩ := num_bd (j := j) (show 0 ≤ a by omega) (show b ≤ 63 by omega) (by omega) k4' hjK
                have HSt : Hid (OnUp v a st (a + st * (j : Int) + st) (bits .or .u64 v2 (IntKind.u64.wrap (2 ^ (a + st * (j : Int)).toNat)))) := onUp_step HSet.out.1 HOn.out (by omega) n2 ⟨n0, n1⟩ n3
                have hmn : a + st * (j : Int) + st = a + st * ((j + 1 : Nat) : Int) := mul_step rfl
                have hK : K ≤ 200 := by omega
                clear n2 n3 k2' k3' k4' HOn
                generalize a + st * (j : Int) = n at *
                go_wp2_with fail
                go_region
                all_goals
                go_wp2
                go_roundw
                case rel => exact rcI_step hlt hjK hCN5 hCG5 hGz hT5 HG.out hS5 hF5 HSt.out hmn _ (by first | rfl | simp)
                case measure => simp [intOf]; omega
              · obtain rfl : j = K := by omega
                clear hG5 k7'
                go_wp2
                go_roundw
                case rel => exact rcM_step hml hy hCN5 hT5 hS5 hF5 HWd.out HSet.out HN.out HOn.out k3' k4' _ (by first | rfl | simp)
                case measure => simp [intOf]; omega
        · obtain rfl : m = its.length := by omega
          have hwd : Hid (wItems ps k = some l2) := HI.out _ (by have := HWd.out; rwa [List.take_length] at this)
          go_wp2
          go_roundw
          case rel => exact rcO_step hlt HIt.out hz hwd.out HSet.out hSr hFr _ (by first | rfl | simp)
          case measure => simp [intOf]; omega
    · obtain rfl : k = 5 := by omega
      have hk5 : ¬ ((5 : Nat) : Int) < 5 := by omega
      have c0 : wr.cell? ⟨C, 0, none⟩ = some (.int .u64 (f 0)) := hFc.set 0 (by decide)
      have c1 : wr.cell? ⟨C, 1, none⟩ = some (.int .u64 (f 1)) := hFc.set 1 (by decide)
      have c2 : wr.cell? ⟨C, 2, none⟩ = some (.int .u64 (f 2)) := hFc.set 2 (by decide)
      have c3 : wr.cell? ⟨C, 3, none⟩ = some (.int .u64 (f 3)) := hFc.set 3 (by decide)
      have c4 : wr.cell? ⟨C, 4, none⟩ = some (.int .u64 (f 4)) := hFc.set 4 (by decide)
      have c5 := hFc.ad
      have c6 := hFc.aw
      have d2 : wr.cell? ⟨B, 2, none⟩ = some (strV (ps.getD 2 [])) := hS.tx.2 2 _ (by rw [List.getD_eq_getElem?_getD, List.getElem?_eq_getElem (show 2 < ps.length by omega)]; rfl)
      have d4 : wr.cell? ⟨B, 4, none⟩ = some (strV (ps.getD 4 [])) := hS.tx.2 4 _ (by rw [List.getD_eq_getElem?_getD, List.getElem?_eq_getElem (show 4 < ps.length by omega)]; rfl)
      have HRi : Hid (Right ps (cronV (f 0) (f 1) (f 2) (f 3) (f 4) (ps.getD 2 [] == [42]) (ps.getD 4 [] == [42]))) := ⟨f, l, HIt.out, rfl⟩
      have fb0 := hS.fbox 0; have fb1 := hS.fbox 1; have fb2 := hS.fbox 2; have fb3 := hS.fbox 3; have fb4 := hS.fbox 4; have fb5 := hS.fbox 5; have fb6 := hS.fbox 6
      have fc5 := hS.fC 5; have fc6 := hS.fC 6
      have e0 : wr.cell? ⟨w.heap.size, 0, none⟩ = some (.int .u64 0) := hS.box 0; have e1 : wr.cell? ⟨w.heap.size, 1, none⟩ = some (.int .u64 0) := hS.box 1; have e2 : wr.cell? ⟨w.heap.size, 2, none⟩ = some (.int .u64 0) := hS.box 2; have e3 : wr.cell? ⟨w.heap.size, 3, none⟩ = some (.int .u64 0) := hS.box 3; have e4 : wr.cell? ⟨w.heap.size, 4, none⟩ = some (.int .u64 0) := hS.box 4; have e5 : wr.cell? ⟨w.heap.size, 5, none⟩ = some (.bool false) := hS.box 5; have e6 : wr.cell? ⟨w.heap.size, 6, none⟩ = some (.bool false) := hS.box 6
      generalize ps.getD 2 [] = t2 at *
      generalize ps.getD 4 [] = t4 at *
      have z1 : C ≠ w.heap.size := by have := hS.zN; omega
      have z2 : B ≠ C := by have := hS.zB; omega
      have HS : Hid (RcS ps w B C q D wr) := hS
      clear HIt hz hFc HW HP hS
      go_wp2_with fail
      go_region
      all_goals
      go_wp2
      have HS6 : RcS ps w B C q D ((wr.setCell ⟨C, 5, none⟩ (.bool (t2 == [42]))).setCell ⟨C, 6, none⟩ (.bool (t4 == [42]))) := HS.out.put.put
      exact finPd (B := w.heap.size) rfl rfl rfl (set7c (W := (wr.setCell ⟨C, 5, none⟩ (.bool (t2 == [42]))).setCell ⟨C, 6, none⟩ (.bool (t4 == [42]))) (B := w.heap.size) (x0 := Value.int .u64 0) (x1 := Value.int .u64 0) (x2 := Value.int .u64 0) (x3 := Value.int .u64 0) (x4 := Value.int .u64 0) (x5 := Value.bool false) (x6 := Value.bool false) (.int .u64 (f 0)) (.int .u64 (f 1)) (.int .u64 (f 2)) (.int .u64 (f 3)) (.int .u64 (f 4)) (.bool (t2 == [42])) (.bool (t4 == [42])) (HS6.box 0) (HS6.box 1) (HS6.box 2) (HS6.box 3) (HS6.box 4) (HS6.box 5) (HS6.box 6)) (HR.out _ HRi.out) ((((((((HS6.bel.setCell (Nat.le_refl _) _).setCell (Nat.le_refl _) _).setCell (Nat.le_refl _) _).setCell (Nat.le_refl _) _).setCell (Nat.le_refl _) _).setCell (Nat.le_refl _) _).setCell (Nat.le_refl _) _))
theorem rc_any (s : List UInt8) (w : World) : Calls Tryd.prog 13 #[strV s] w fun e w' => ParseAns s e ∧ Below w.heap.size w w' := by
  by_cases h : s.length ≤ 300
  · by_cases hp : (pieces 32 s).length = 5
    · exact rc_five s w h hp
    · exact rc_count s w h hp
  · exact rc_long s w (by omega)
end Pie
end Go.Proofs.YtbfnjjdgiihngaaDoor
