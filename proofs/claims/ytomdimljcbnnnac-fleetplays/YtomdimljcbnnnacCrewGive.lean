
/- What the document's fleet (tideref.Crew) answers: Give. -/
import Derived.Test.YtomdimljcbnnnacCrewTurn
namespace Go.Proofs.Ytomdimljcbnnnac
namespace Flt
open Go.RowKit Rw Rec
set_option maxRecDepth 8000

/-- the document's order of who is given something -/
def cgiv (p q : Pd) : Bool := decide (p.ld < q.ld)
theorem cgiv_same {F : FS} (h : Inv F) : pick (room F.most) cgiv F.L 0 none = pick (room F.most) given F.L 0 none := by
  refine pick_same F.L 0 none ?_ (fun x hx => by cases hx)
  refine h.srt.imp ?_
  intro q p hlt _ _
  unfold cgiv given
  split
  · rfl
  · rename_i hn
    simp at hn
    rw [hn]
    have : ¬ p.id < q.id := by omega
    simp [this]
def CgR (L : List Pd) (most : Int) (w : World) (b i : Value) (wr : World) : Prop :=
  ∃ (k : Nat) (bo : Option (Nat × Pd)), k ≤ L.length ∧ i = .int .i64 k ∧ b = .int .i64 (pickV bo) ∧ In (room most) L k bo ∧ pick (room most) cgiv (L.drop k) k bo = pick (room most) cgiv L 0 none ∧ Below w.heap.size w wr
theorem CgR.next {L : List Pd} {most : Int} {w w' : World} {k : Nat} {bo bo' : Option (Nat × Pd)} {m : Pd} {b i : Value} (hk : k < L.length) (hm : L[k]? = some m) (hIn : In (room most) L k bo) (hP : pick (room most) cgiv (L.drop k) k bo = pick (room most) cgiv L 0 none) (hn : nxt (room most) cgiv m k bo = bo')
    (hi : i = .int .i64 ((k + 1 : Nat) : Int)) (hb : b = .int .i64 (pickV bo')) (hB : Below w.heap.size w w') : CgR L most w b i w' := by
  refine ⟨k + 1, bo', by omega, hi, hb, ?_, ?_, hB⟩
  · rw [← hn]; exact hIn.next hm
  · rw [← hP, pick_step bo hm, hn]
set_option maxHeartbeats 4000000 in
theorem cgive_any (F : FS) (hI : Inv F) (hL : F.L.length ≤ 1000000000) : Doth 18 (fun Q => #[.pointer (some ⟨Q, 0, none⟩)]) F (giveS F) (.returned (.tuple #[.int .i64 (giveN F), .int .i64 (giveE F)])) := by
  intro B Q v w hA
  obtain ⟨ao, cap, rfl, hc1, hc2, hao⟩ := hA.form
  have hQl := hA.lt
  have HA : Hid (DAt w B Q (.slice ao F.L.length cap) F) := hA
  have HI : Hid (Inv F) := hI
  clear hA hI
  go_enter Try.func18, Try.ntmps18
  go_wp2
  go_loopw [4, 5] (fun b i wr => CgR F.L F.most w b i wr) (fun _ i _ => F.L.length - (intOf i).toNat)
  case atStart => exact ⟨0, none, by omega, rfl, rfl, In.none _ _ _, rfl, Below.refl _ _⟩
  case round =>
    obtain ⟨k, bo, hk, rfl, rfl, hIn, hP, hb⟩ := hrel
    have hAr := HA.out.below hb
    have cV := hAr.cV
    have cM := hAr.cM
    have hQr := hAr.lt
    by_cases hlt : k < F.L.length
    · have hlt' : (k : Int) < (F.L.length : Int) := by omega
      obtain ⟨g, rfl⟩ := hao (by omega)
      obtain ⟨m, hm⟩ : ∃ m, F.L[k]? = some m := ⟨F.L[k], by simp [hlt]⟩
      obtain ⟨d0, d1, d2, fz⟩ := hAr.pod rfl hm
      have HN : Hid (∀ (bo' : Option (Nat × Pd)) (b i : Value) (w' : World), nxt (room F.most) cgiv m k bo = bo' → i = .int .i64 ((k + 1 : Nat) : Int) → b = .int .i64 (pickV bo') → Below w.heap.size w w' → CgR F.L F.most w b i w') := fun bo' b i w' a1 a2 a3 a4 => CgR.next hlt hm hIn hP a1 a2 a3 a4
      have HB : Hid (Below w.heap.size w wr) := hb
      cases h3 : (m.st == 3)
      · have hn : nxt (room F.most) cgiv m k bo = bo := by unfold nxt room; rw [h3]; simp
        have HE : Hid (nxt (room F.most) cgiv m k bo = bo) := hn
        clear hn hAr fz hP hIn hb hm
        go_wp2_with fail
        go_quiet (fail)
        go_wp2
        go_roundw
        case rel => exact HN.out _ _ _ _ HE.out rfl (by first | rfl | assumption) (quiet_below HB.out _)
        case measure => simp [intOf]; omega
      · by_cases hlm : m.ld < F.most
        · cases bo with
          | none =>
            have hn : nxt (room F.most) cgiv m k none = some (k, m) := by unfold nxt room beats; rw [h3]; simp [hlm]
            have HE : Hid (nxt (room F.most) cgiv m k none = some (k, m)) := hn
            clear hn hAr fz hP hIn hb hm
            simp only [pickV]
            go_wp2_with fail
            go_quiet (fail)
            go_wp2
            go_roundw
            case rel => exact HN.out _ _ _ _ HE.out rfl rfl (quiet_below HB.out _)
            case measure => simp [intOf]; omega
          | some x =>
            obtain ⟨j, q⟩ := x
            obtain ⟨hj, hq, _⟩ := hIn (j, q) rfl
            simp only at hj hq
            obtain ⟨e0, e1, e2, _⟩ := hAr.pod rfl hq
            have hjl : j < F.L.length := (List.getElem?_eq_some_iff.1 hq).1
            have hjl' : (j : Int) < (F.L.length : Int) := by omega
            have hj0 : ¬ (j : Int) < 0 := by omega
            by_cases hlq : m.ld < q.ld
            · have hn : nxt (room F.most) cgiv m k (some (j, q)) = some (k, m) := by unfold nxt room beats cgiv; rw [h3]; simp [hlm, hlq]
              have HE : Hid (nxt (room F.most) cgiv m k (some (j, q)) = some (k, m)) := hn
              clear hn hAr fz hP hIn hb hm hq
              simp only [pickV]
              go_wp2_with fail
              go_quiet (fail)
              go_wp2
              go_roundw
              case rel => exact HN.out _ _ _ _ HE.out rfl rfl (quiet_below HB.out _)
              case measure => simp [intOf]; omega
            · have hn : nxt (room F.most) cgiv m k (some (j, q)) = some (j, q) := by unfold nxt room beats cgiv; rw [h3]; simp [hlm, hlq]
              have HE : Hid (nxt (room F.most) cgiv m k (some (j, q)) = some (j, q)) := hn
              clear hn hAr fz hP hIn hb hm hq
              simp only [pickV]
              go_wp2_with fail
              go_quiet (fail)
              go_wp2
              go_roundw
              case rel => exact HN.out _ _ _ _ HE.out rfl rfl (quiet_below HB.out _)
              case measure => simp [intOf]; omega
        · have hn : nxt (room F.most) cgiv m k bo = bo := by unfold nxt room; rw [h3]; simp [hlm]
          have HE : Hid (nxt (room F.most) cgiv m k bo = bo) := hn
          have hlm' : decide (m.ld < F.most) = false := by simp [hlm]
          clear hn hAr fz hP hIn hb hm
          go_wp2_with fail
          go_quiet (fail)
          go_wp2
          go_roundw
          case rel => exact HN.out _ _ _ _ HE.out rfl (by first | rfl | assumption) (quiet_below HB.out _)
          case measure => simp [intOf]; omega
    · obtain rfl : k = F.L.length := by omega
      rw [List.drop_length] at hP
      have hP2 : bo = pick (room F.most) given F.L 0 none := by rw [← cgiv_same HI.out, ← hP]; rfl
      have HB : Hid (Below w.heap.size w wr) := hb
      cases hp : pick (room F.most) given F.L 0 none with
      | none =>
        obtain ⟨e1, e2, e3⟩ := give_none hp
        rw [hp] at hP2
        subst hP2
        have HG : Hid (giveS F = F ∧ giveN F = 0 ∧ giveE F = 4) := ⟨e1, e2, e3⟩
        clear e1 e2 e3 hP hp hIn hb
        simp only [pickV]
        go_wp2
        go_ret2
        rw [HG.out.1, HG.out.2.1, HG.out.2.2]
        exact ⟨rfl, _, hAr, Turn.of_below HB.out⟩
      | some x =>
        obtain ⟨i, m⟩ := x
        obtain ⟨hi, hm, _⟩ := pick_mem hp
        simp only at hi hm
        obtain ⟨e1, e2, e3⟩ := give_some hp
        rw [hp] at hP2
        subst hP2
        have HG : Hid (giveS F = ⟨F.most, F.last, F.L.set i ⟨m.id, m.st, m.ld + 1⟩⟩ ∧ giveN F = m.id ∧ giveE F = 0) := ⟨e1, e2, e3⟩
        obtain ⟨g, rfl⟩ := hao (by omega)
        obtain ⟨d0, d1, d2, fz⟩ := hAr.pod rfl hm
        have f2 := fz (i * 3 + 2)
        have hgQ := hAr.gQ
        have hi' : (i : Int) < (F.L.length : Int) := by omega
        have hi0 : ¬ (i : Int) < 0 := by omega
        have hbd := HI.out.at hm
        have hmo := HI.out.m
        unfold Okp at hbd
        have hl1 : 0 ≤ m.ld := by omega
        have hl2 : m.ld ≤ 100 := by omega
        have HA2 : Hid (DAt (wr.setCell ⟨g, i * 3 + 2, none⟩ (.int .i64 (m.ld + 1))) B Q (.slice (some ⟨g, 0, none⟩) F.L.length cap) ⟨F.most, F.last, F.L.set i ⟨m.id, m.st, m.ld + 1⟩⟩) := RAt.put (j := 2) hAr rfl hm (by decide) rfl
        clear e1 e2 e3 hP hp hIn hb hbd hmo hAr fz hm
        simp only [pickV]
        go_wp2
        go_ret2
        rw [HG.out.1, HG.out.2.1, HG.out.2.2]
        exact ⟨rfl, _, HA2.out, (Turn.of_below HB.out).trans (Turn.setG _ _)⟩
end Flt
end Go.Proofs.Ytomdimljcbnnnac
