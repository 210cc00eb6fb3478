
/- What the document's buffer (tideref.Hall) answers: Run. -/
import Derived.Test.YtkflelbpiabcpacHallTurn
import Derived.BigQuiet
import Derived.Deep.DeepCutAuto
namespace Go.Proofs.Ytkflelbpiabcpac
namespace Buf
open Go.RowKit Rw Rec
set_option maxRecDepth 8000

/-- does it wait ahead of a request of its source? -/
def waitsOf (s : Int) (x : Rq) : Bool := x.src == s && x.fat == 1
def okTo (L : List Rq) (r : Rq) (j : Nat) : Bool := mayRun L r && (L.take j).all (fun x => !(waitsOf r.src x))
theorem okTo_step {L : List Rq} {r x : Rq} {j : Nat} (h : L[j]? = some x) : okTo L r (j + 1) = (okTo L r j && !(waitsOf r.src x)) := by
  unfold okTo
  rw [List.take_add_one, h, List.all_append]
  simp [Bool.and_assoc]
theorem okTo_all (L : List Rq) (r : Rq) (i : Nat) : okTo L r i = runOk L i r := rfl
def RuR (L : List Rq) (r : Rq) (i : Nat) (w : World) (ok n : Value) (wr : World) : Prop := ∃ j q : Nat, j ≤ i ∧ n = .int .i64 j ∧ ok = .bool (okTo L r j) ∧ wr = w.drewN q
set_option maxHeartbeats 4000000 in
theorem hrun_any (L : List Rq) (id pod : Int) (hI : Inv L) : Doth 35 (fun Q => #[.pointer (some ⟨Q, 0, none⟩), .int .i64 id, .int .i64 pod]) L (runL L id pod) (.returned (.int .i64 (runE L id))) := by
  intro B Q v w hA
  have hlen := hI.len
  obtain ⟨ao, cap, rfl, hc1, hc2, hao⟩ := hA.form
  have cV := hA.cV
  by_cases h : 1 ≤ id ∧ id ≤ L.length
  · have c := fun w => rin_yes id 1 L.length w h.1 h.2
    obtain ⟨i, rfl, hl⟩ := id_nat h
    obtain ⟨r, hr⟩ : ∃ r, L[i]? = some r := ⟨L[i], by simp [hl]⟩
    obtain ⟨g, rfl⟩ := hao (by omega)
    obtain ⟨d0, d1, d2, d3, d4, fz⟩ := hA.req rfl hr
    have hl' : (i : Int) < (L.length : Int) := by omega
    have hm := hmany_any B Q (.slice (some ⟨g, 0, none⟩) L.length cap) L r.src 2 w hA hI.len
    have HA : Hid (HAt w B Q (.slice (some ⟨g, 0, none⟩) L.length cap) L) := hA
    have HR : Hid (L[i]? = some r) := hr
    clear hA fz h hr
    have HK : Hid (∀ W : World, (∃ q, W = w.drewN q) → HAt W B Q (.slice (some ⟨g, 0, none⟩) L.length cap) L) := fun W ⟨q, hq⟩ => by rw [hq]; exact RAt.drewN HA.out q
    go_enter Try.func35, Try.ntmps35
    go_upto_region 4 with (go_at_call 51; (with_reducible refine (c _).mono ?_); rintro e w' ⟨rfl, h9⟩; have h8 := h9.symm; clear h9; subst h8)
    go_cut [8] (fun ok wx => ok = .bool (mayRun L r) ∧ wx = w)
    case first =>
      cases h1 : (r.fat == 1)
      · have HM : Hid (mayRun L r = false) := by unfold Hid mayRun; rw [h1]; rfl
        go_wp2
        go_meet
        exact ⟨by rw [HM.out], rfl⟩
      · have HM : Hid (((many r.src 2 L : Int) == 0) = mayRun L r) := by
          unfold Hid mayRun; rw [h1]
          by_cases h2 : many r.src 2 L = 0
          · rw [h2]; rfl
          · have h2b : ((many r.src 2 L : Int) == 0) = false := by rw [beq_eq_false_iff_ne]; omega
            have h2c : (many r.src 2 L == 0) = false := by rw [beq_eq_false_iff_ne]; exact h2
            rw [h2b, h2c]; rfl
        go_wp2_with (go_at_call 67; (with_reducible refine hm.mono ?_); rintro e w' ⟨rfl, h9⟩; have h8 := h9.symm; clear h9; subst h8)
        go_meet
        exact ⟨by rw [← HM.out], rfl⟩
    case rest =>
      obtain ⟨rfl, hwx⟩ := hcut
      subst hwx
      clear c hm
      go_wp2
      go_loopw [8, 9] (fun ok n wr => RuR L r i wc ok n wr) (fun _ n _ => i - (intOf n).toNat)
      case atStart => exact ⟨0, 0, by omega, rfl, by simp [okTo], rfl⟩
      case round =>
        obtain ⟨j, q, hj, rfl, rfl, hwr⟩ := hrel
        have hAr := HK.out wr ⟨q, hwr⟩
        have cVr := hAr.cV
        obtain ⟨e0, e1, e2, e3, e4, fz⟩ := hAr.req rfl HR.out
        by_cases hlt : j < i
        · have hlt' : (j : Int) < (i : Int) := by omega
          obtain ⟨x, hx⟩ : ∃ x, L[j]? = some x := ⟨L[j]'(by omega), by simp⟩
          have hjl' : (j : Int) < (L.length : Int) := by omega
          obtain ⟨x0, x1, x2, x3, x4, _⟩ := hAr.req rfl hx
          have HS : Hid (okTo L r (j + 1) = (okTo L r j && !(waitsOf r.src x))) := okTo_step hx
          have HQ : Hid (wr = World.drewN _ q) := hwr
          clear hAr fz hx hwr
          cases hok : okTo L r j
          · have HV : Hid (okTo L r (j + 1) = false) := by unfold Hid; rw [HS.out, hok]; rfl
            go_wp2_with fail
            go_quiet (fail)
            go_wp2
            go_roundw
            case rel => exact ⟨j + 1, q + nq, by omega, rfl, by rw [HV.out], by rw [HQ.out, World.drewN_drewN]⟩
            case measure => simp [intOf]; omega
          · cases hs : (x.src == r.src)
            · have HV : Hid (okTo L r (j + 1) = true) := by unfold Hid; rw [HS.out, hok]; unfold waitsOf; rw [hs]; rfl
              go_wp2_with fail
              go_quiet (fail)
              go_wp2
              go_roundw
              case rel => exact ⟨j + 1, q + nq, by omega, rfl, by rw [HV.out], by rw [HQ.out, World.drewN_drewN]⟩
              case measure => simp [intOf]; omega
            · cases hf : (x.fat == 1)
              · have HV : Hid (okTo L r (j + 1) = true) := by unfold Hid; rw [HS.out, hok]; unfold waitsOf; rw [hs, hf]; rfl
                go_wp2_with fail
                go_quiet (fail)
                go_wp2
                go_roundw
                case rel => exact ⟨j + 1, q + nq, by omega, rfl, by rw [HV.out], by rw [HQ.out, World.drewN_drewN]⟩
                case measure => simp [intOf]; omega
              · have HV : Hid (okTo L r (j + 1) = false) := by unfold Hid; rw [HS.out, hok]; unfold waitsOf; rw [hs, hf]; rfl
                go_wp2_with fail
                go_quiet (fail)
                go_wp2
                go_roundw
                case rel => exact ⟨j + 1, q + nq, by omega, rfl, by rw [HV.out], by rw [HQ.out, World.drewN_drewN]⟩
                case measure => simp [intOf]; omega
        · obtain rfl : j = i := by omega
          rw [okTo_all]
          have f3 := fz (j * 5 + 3)
          have f4 := fz (j * 5 + 4)
          have HT : Hid (Turn Q (.slice (some ⟨g, 0, none⟩) L.length cap) (.slice (some ⟨g, 0, none⟩) L.length cap) wc wr) := by unfold Hid; rw [hwr]; exact (Turn.refl _ _ _).drewN q
          clear hwr
          cases hok : runOk L j r
          · obtain ⟨r1, r2⟩ := run_state (pod := pod) HR.out hok
            have HE : Hid (runE L ((j : Int) + 1) = 7 ∧ runL L ((j : Int) + 1) pod = L) := ⟨r1, r2⟩
            clear r1 r2
            go_wp2
            go_ret
            rw [HE.out.1, HE.out.2]
            exact ⟨rfl, _, hAr, HT.out⟩
          · obtain ⟨r1, r2⟩ := run_ok (pod := pod) HR.out hok
            have HE : Hid (runE L ((j : Int) + 1) = 0 ∧ runL L ((j : Int) + 1) pod = L.set j ⟨r.id, r.src, r.til, 2, pod⟩) := ⟨r1, r2⟩
            have HP : Hid (HAt ((wr.setCell ⟨g, j * 5 + 3, none⟩ (.int .i64 2)).setCell ⟨g, j * 5 + 4, none⟩ (.int .i64 pod)) B Q (.slice (some ⟨g, 0, none⟩) L.length cap) (L.set j ⟨r.id, r.src, r.til, 2, pod⟩)) := by
              have p1 : HAt (wr.setCell ⟨g, j * 5 + 3, none⟩ (.int .i64 2)) B Q (.slice (some ⟨g, 0, none⟩) L.length cap) (L.set j ⟨r.id, r.src, r.til, 2, r.pod⟩) := RAt.put (j := 3) hAr rfl HR.out (by decide) rfl
              have p2 : HAt ((wr.setCell ⟨g, j * 5 + 3, none⟩ (.int .i64 2)).setCell ⟨g, j * 5 + 4, none⟩ (.int .i64 pod)) B Q (.slice (some ⟨g, 0, none⟩) L.length cap) ((L.set j ⟨r.id, r.src, r.til, 2, r.pod⟩).set j ⟨r.id, r.src, r.til, 2, pod⟩) := RAt.put (j := 4) p1 (by simp) (show (L.set j ⟨r.id, r.src, r.til, 2, r.pod⟩)[j]? = some ⟨r.id, r.src, r.til, 2, r.pod⟩ by simp [hl]) (by decide) rfl
              rw [List.set_set] at p2
              exact p2
            clear r1 r2 hAr
            go_wp2
            go_ret
            rw [HE.out.1, HE.out.2]
            exact ⟨rfl, _, HP.out, (HT.out.trans (Turn.setG _ _)).trans (Turn.setG _ _)⟩
  · obtain ⟨e1, e2⟩ := run_no (pod := pod) h
    rw [e1, e2]
    have c := fun w => rin_no id 1 L.length w h
    clear e1 e2 h
    go_enter Try.func35, Try.ntmps35
    go_wp2_with (go_at_call 51; (with_reducible refine (c _).mono ?_); rintro e w' ⟨rfl, h9⟩; have h8 := h9.symm; clear h9; subst h8)
    go_ret
    exact ⟨rfl, _, hA, Turn.refl _ _ _⟩
end Buf
end Go.Proofs.Ytkflelbpiabcpac
