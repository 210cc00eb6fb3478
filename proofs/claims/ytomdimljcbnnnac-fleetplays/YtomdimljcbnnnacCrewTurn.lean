
/- What the document's fleet (tideref.Crew) answers: Turn, Crash, Done. -/
import Derived.Test.YtomdimljcbnnnacCrewWalks
namespace Go.Proofs.Ytomdimljcbnnnac
namespace Flt
open Go.RowKit Rw Rec
set_option maxRecDepth 8000

set_option maxHeartbeats 1000000 in
theorem cturn_any (F : FS) (id fr : Int) (hL : F.L.length ≤ 1000000000) (hf : fr = 1 ∨ fr = 2) : Doth 13 (fun Q => #[.pointer (some ⟨Q, 0, none⟩), .int .i64 id, .int .i64 fr]) F (turnS F id fr) (.returned (.int .i64 (turnE F.L id fr))) := by
  intro B Q v w hA
  unfold turnS
  have hf1 : 1 ≤ fr := by omega
  have hf2 : fr ≤ 2 := by omega
  clear hf
  cases hn : F.L.findIdx? (isId id) with
  | none =>
    obtain ⟨e1, e2⟩ := turn_none (fr := fr) hn
    rw [e1, e2]
    have c := cfind_none B Q v F id w hA hL hn
    clear hn e1 e2
    go_enter Try.func13, Try.ntmps13
    go_wp2_with (go_at_call 42; (with_reducible refine c.mono ?_); rintro e w2 ⟨rfl, hb2⟩)
    go_ret
    exact ⟨rfl, v, hA.below hb2, Turn.of_below hb2⟩
  | some i =>
    obtain ⟨m, hm, _⟩ := find_get hn
    have c := cfind_some B Q v F id i w hA hL hn
    have hi : i < F.L.length := (List.getElem?_eq_some_iff.1 hm).1
    have hi' : (i : Int) < (F.L.length : Int) := by omega
    have hi0 : ¬ (i : Int) < 0 := by omega
    obtain ⟨ao, cap, rfl, hc1, hc2, hao⟩ := hA.form
    obtain ⟨g, rfl⟩ := hao (by omega)
    by_cases hs : m.st = fr
    · obtain ⟨e1, e2⟩ := turn_ok hn hm hs
      rw [e1, e2]
      have h9 : (m.st != fr) = false := by simp [hs]
      have HM : Hid (F.L[i]? = some m) := hm
      have HA : Hid (DAt w B Q (.slice (some ⟨g, 0, none⟩) F.L.length cap) F) := hA
      clear hn e1 e2 hs hm hA
      go_enter Try.func13, Try.ntmps13
      go_wp2_with (go_at_call 42; (with_reducible refine c.mono ?_); rintro e w2 ⟨rfl, hb2⟩; have hA2 := HA.out.below hb2; have cV := hA2.cV; obtain ⟨d0, d1, d2, fz⟩ := hA2.pod rfl HM.out; have f1 := fz (i * 3 + 1))
      go_ret
      exact ⟨rfl, _, RAt.put (j := 1) hA2 rfl HM.out (by decide) rfl, (Turn.of_below hb2).trans (Turn.setG _ _)⟩
    · obtain ⟨e1, e2⟩ := turn_state hn hm hs
      rw [e1, e2]
      have h9 : (m.st != fr) = true := by simp [hs]
      have HM : Hid (F.L[i]? = some m) := hm
      have HA : Hid (DAt w B Q (.slice (some ⟨g, 0, none⟩) F.L.length cap) F) := hA
      clear hn e1 e2 hs hm hA
      go_enter Try.func13, Try.ntmps13
      go_wp2_with (go_at_call 42; (with_reducible refine c.mono ?_); rintro e w2 ⟨rfl, hb2⟩; have hA2 := HA.out.below hb2; have cV := hA2.cV; obtain ⟨d0, d1, d2, fz⟩ := hA2.pod rfl HM.out; have f1 := fz (i * 3 + 1))
      go_ret
      exact ⟨rfl, _, hA2, Turn.of_below hb2⟩
set_option maxHeartbeats 1000000 in
theorem ccrash_any (F : FS) (id : Int) (hI : Inv F) (hL : F.L.length ≤ 1000000000) : Doth 16 (fun Q => #[.pointer (some ⟨Q, 0, none⟩), .int .i64 id]) F (crashS F id) (.returned (.tuple #[.int .i64 (crashN F.L id), .int .i64 (crashE F.L id)])) := by
  intro B Q v w hA
  unfold crashS
  cases hn : F.L.findIdx? (isId id) with
  | none =>
    obtain ⟨e1, e2, e3⟩ := crash_none hn
    rw [e1, e2, e3]
    have c := cfind_none B Q v F id w hA hL hn
    clear hn e1 e2 e3
    go_enter Try.func16, Try.ntmps16
    go_wp2_with (go_at_call 42; (with_reducible refine c.mono ?_); rintro e w2 ⟨rfl, hb2⟩)
    go_ret2
    exact ⟨rfl, v, hA.below hb2, Turn.of_below hb2⟩
  | some i =>
    obtain ⟨m, hm, _⟩ := find_get hn
    obtain ⟨e1, e2, e3⟩ := crash_some hn hm
    rw [e1, e2, e3]
    have c := cfind_some B Q v F id i w hA hL hn
    have hi : i < F.L.length := (List.getElem?_eq_some_iff.1 hm).1
    have hi' : (i : Int) < (F.L.length : Int) := by omega
    have hi0 : ¬ (i : Int) < 0 := by omega
    have hid : m.id = id := by obtain ⟨m', hm', hp⟩ := find_get hn; rw [hm] at hm'; cases hm'; simpa [isId] using hp
    have hout := outL_at hI.srt hm
    rw [hid] at hout
    obtain ⟨ao, cap, rfl, hc1, hc2, hao⟩ := hA.form
    have cout := fun w h => out_any B Q (.slice ao F.L.length cap) F id w h hL
    rw [hout] at cout
    obtain ⟨g, rfl⟩ := hao (by omega)
    have HM : Hid (F.L[i]? = some m) := hm
    have HA : Hid (DAt w B Q (.slice (some ⟨g, 0, none⟩) F.L.length cap) F) := hA
    clear hn e1 e2 e3 hm hA hout hid
    go_enter Try.func16, Try.ntmps16
    go_wp2_with (first
      | (go_at_call 42; (with_reducible refine c.mono ?_); rintro e w2 ⟨rfl, hb2⟩; have hA2 := HA.out.below hb2; have cV := hA2.cV; obtain ⟨d0, d1, d2, fz⟩ := hA2.pod rfl HM.out; have HA2 : Hid (DAt w2 B Q (.slice (some ⟨g, 0, none⟩) F.L.length cap) F) := hA2; clear hA2)
      | (go_at_call 40; (with_reducible refine (cout w2 HA2.out).mono ?_); rintro e w3 ⟨rfl, v3, hA3, hT3⟩))
    go_ret2
    exact ⟨rfl, v3, hA3, (Turn.of_below hb2).trans hT3⟩

set_option maxHeartbeats 2000000 in
theorem cdone_any (F : FS) (id : Int) (hI : Inv F) (hL : F.L.length ≤ 1000000000) : Doth 20 (fun Q => #[.pointer (some ⟨Q, 0, none⟩), .int .i64 id]) F (doneS F id) (.returned (.int .i64 (doneE F.L id))) := by
  intro B Q v w hA
  unfold doneS
  cases hn : F.L.findIdx? (isId id) with
  | none =>
    obtain ⟨e1, e2⟩ := done_none hn
    rw [e1, e2]
    have c := cfind_none B Q v F id w hA hL hn
    clear hn e1 e2
    go_enter Try.func20, Try.ntmps20
    go_wp2_with (go_at_call 42; (with_reducible refine c.mono ?_); rintro e w2 ⟨rfl, hb2⟩)
    go_ret
    exact ⟨rfl, v, hA.below hb2, Turn.of_below hb2⟩
  | some i =>
    obtain ⟨m, hm, _⟩ := find_get hn
    have c := cfind_some B Q v F id i w hA hL hn
    have hi : i < F.L.length := (List.getElem?_eq_some_iff.1 hm).1
    have hi' : (i : Int) < (F.L.length : Int) := by omega
    have hi0 : ¬ (i : Int) < 0 := by omega
    have hbd := hI.at hm
    have hmo := hI.m
    unfold Okp at hbd
    have hl1 : 0 ≤ m.ld := by omega
    have hl2 : m.ld ≤ 100 := by omega
    clear hbd hmo
    obtain ⟨ao, cap, rfl, hc1, hc2, hao⟩ := hA.form
    obtain ⟨g, rfl⟩ := hao (by omega)
    have HM : Hid (F.L[i]? = some m) := hm
    have HA : Hid (DAt w B Q (.slice (some ⟨g, 0, none⟩) F.L.length cap) F) := hA
    by_cases hs : m.ld = 0
    · obtain ⟨e1, e2⟩ := done_state hn hm hs
      rw [e1, e2]
      have h9 : (m.ld == 0) = true := by simp [hs]
      clear hn e1 e2 hs hm hA
      go_enter Try.func20, Try.ntmps20
      go_wp2_with (go_at_call 42; (with_reducible refine c.mono ?_); rintro e w2 ⟨rfl, hb2⟩; have hA2 := HA.out.below hb2; have cV := hA2.cV; obtain ⟨d0, d1, d2, fz⟩ := hA2.pod rfl HM.out; have f2 := fz (i * 3 + 2))
      go_ret
      exact ⟨rfl, _, hA2, Turn.of_below hb2⟩
    · obtain ⟨e1, e2⟩ := done_ok hn hm hs
      rw [e1, e2]
      have h9 : (m.ld == 0) = false := by simp [hs]
      unfold doneL1
      by_cases h1 : m.ld = 1
      · have h8 : (m.ld - 1 == 0) = true := by simp; omega
        by_cases h4 : m.st = 4
        · have h5 : (m.st == 4) = true := by simp [h4]
          rw [if_pos ⟨h1, h4⟩]
          have hid : m.id = id := by obtain ⟨m', hm', hp⟩ := find_get hn; rw [hm] at hm'; cases hm'; simpa [isId] using hp
          subst hid
          have hil : (F.L.set i ⟨m.id, m.st, m.ld - 1⟩)[i]? = some ⟨m.id, m.st, m.ld - 1⟩ := by simp [hi]
          have hout := outL_at (srt_set (q := ⟨m.id, m.st, m.ld - 1⟩) hI.srt hm rfl) hil
          simp only at hout
          have c4 := fun w h => out_any B Q (.slice (some ⟨g, 0, none⟩) F.L.length cap) ⟨F.most, F.last, F.L.set i ⟨m.id, m.st, m.ld - 1⟩⟩ m.id w h (by simpa using hL)
          simp only at c4
          rw [hout] at c4
          clear hn e1 e2 hs hm hA h1 h4 hout hil
          go_enter Try.func20, Try.ntmps20
          go_wp2_with (first
            | (go_at_call 42; (with_reducible refine c.mono ?_); rintro e w2 ⟨rfl, hb2⟩; have hA2 := HA.out.below hb2; have cV := hA2.cV; obtain ⟨d0, d1, d2, fz⟩ := hA2.pod rfl HM.out; have f2 := fz (i * 3 + 2); have hgQ := hA2.gQ; have HA3 : Hid (DAt (w2.setCell ⟨g, i * 3 + 2, none⟩ (.int .i64 (m.ld - 1))) B Q (.slice (some ⟨g, 0, none⟩) F.L.length cap) ⟨F.most, F.last, F.L.set i ⟨m.id, m.st, m.ld - 1⟩⟩) := RAt.put (j := 2) hA2 rfl HM.out (by decide) rfl; clear hA2)
            | (go_at_call 40; (with_reducible refine (c4 _ HA3.out).mono ?_); rintro e w5 ⟨rfl, v5, hA5, hT5⟩))
          go_ret
          exact ⟨rfl, v5, hA5, ((Turn.of_below hb2).trans (Turn.setG _ _)).trans hT5⟩
        · have h5 : (m.st == 4) = false := by simp [h4]
          rw [if_neg (fun h => h4 h.2)]
          clear hn e1 e2 hs hm hA h1 h4
          go_enter Try.func20, Try.ntmps20
          go_wp2_with (go_at_call 42; (with_reducible refine c.mono ?_); rintro e w2 ⟨rfl, hb2⟩; have hA2 := HA.out.below hb2; have cV := hA2.cV; obtain ⟨d0, d1, d2, fz⟩ := hA2.pod rfl HM.out; have f2 := fz (i * 3 + 2); have hgQ := hA2.gQ; have HA3 : Hid (DAt (w2.setCell ⟨g, i * 3 + 2, none⟩ (.int .i64 (m.ld - 1))) B Q (.slice (some ⟨g, 0, none⟩) F.L.length cap) ⟨F.most, F.last, F.L.set i ⟨m.id, m.st, m.ld - 1⟩⟩) := RAt.put (j := 2) hA2 rfl HM.out (by decide) rfl; clear hA2)
          go_ret
          exact ⟨rfl, _, HA3.out, (Turn.of_below hb2).trans (Turn.setG _ _)⟩
      · have h8 : (m.ld - 1 == 0) = false := by rw [beq_eq_false_iff_ne]; omega
        rw [if_neg (fun h => h1 h.1)]
        clear hn e1 e2 hs hm hA h1
        go_enter Try.func20, Try.ntmps20
        go_wp2_with (go_at_call 42; (with_reducible refine c.mono ?_); rintro e w2 ⟨rfl, hb2⟩; have hA2 := HA.out.below hb2; have cV := hA2.cV; obtain ⟨d0, d1, d2, fz⟩ := hA2.pod rfl HM.out; have f2 := fz (i * 3 + 2); have hgQ := hA2.gQ; have HA3 : Hid (DAt (w2.setCell ⟨g, i * 3 + 2, none⟩ (.int .i64 (m.ld - 1))) B Q (.slice (some ⟨g, 0, none⟩) F.L.length cap) ⟨F.most, F.last, F.L.set i ⟨m.id, m.st, m.ld - 1⟩⟩) := RAt.put (j := 2) hA2 rfl HM.out (by decide) rfl; clear hA2)
        go_ret
        exact ⟨rfl, _, HA3.out, (Turn.of_below hb2).trans (Turn.setG _ _)⟩

end Flt
end Go.Proofs.Ytomdimljcbnnnac
