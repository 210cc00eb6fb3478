
/- What each function of package fleet answers: find, remove, letGo. -/
import Derived.Test.YtomdimljcbnnnacFltChoose
namespace Go.Proofs.Ytomdimljcbnnnac
namespace Flt
open Go.RowKit Rw Rec
set_option maxRecDepth 8000

theorem cell_one {W : World} {cs : Array Value} {e : TypeId} {N j : Nat} {v : Value} (hN : N = W.heap.size) (hj : cs[j]? = some v) : (W.alloc (.cells cs e)).cell? ⟨N, j, none⟩ = some v := by
  subst hN; simpa using hj
theorem ffind_none (B Q : Nat) (v : Value) (F : FS) (id : Int) (w : World) (hA : FAt w B Q v F) (hL : F.L.length ≤ 1000000000) (hn : F.L.findIdx? (isId id) = none) :
    Calls Try.prog 43 #[.pointer (some ⟨Q, 0, none⟩), .int .i64 id] w fun e w' => e = .returned (.int .i64 (-1)) ∧ Below w.heap.size w w' := by
  obtain ⟨ao, cap, rfl, hc1, hc2, hao⟩ := hA.form
  have hA1 := hA.alloc (.cells #[.int .i64 id] 3)
  have cV := hA1.cV
  have c2 := fid_none ao cap w.heap.size id F.L _ hA1.row hL (cell_one rfl rfl) hn
  clear hn hao hA1 hA
  go_enter Try.func43, Try.ntmps43
  go_wp2_with (go_at_call 59; (with_reducible refine c2.mono ?_); rintro e w2 ⟨rfl, hb2⟩)
  go_ret
  exact ⟨rfl, ((Below.refl _ _).alloc (Nat.le_refl _) _).trans (hb2.mono (by simp))⟩
theorem ffind_some (B Q : Nat) (v : Value) (F : FS) (id : Int) (i : Nat) (w : World) (hA : FAt w B Q v F) (hL : F.L.length ≤ 1000000000) (hn : F.L.findIdx? (isId id) = some i) :
    Calls Try.prog 43 #[.pointer (some ⟨Q, 0, none⟩), .int .i64 id] w fun e w' => e = .returned (.int .i64 (i : Int)) ∧ Below w.heap.size w w' := by
  obtain ⟨ao, cap, rfl, hc1, hc2, hao⟩ := hA.form
  have hA1 := hA.alloc (.cells #[.int .i64 id] 3)
  have cV := hA1.cV
  have c2 := fid_some ao cap w.heap.size id F.L _ hA1.row hL (cell_one rfl rfl) hn
  clear hn hao hA1 hA
  go_enter Try.func43, Try.ntmps43
  go_wp2_with (go_at_call 59; (with_reducible refine c2.mono ?_); rintro e w2 ⟨rfl, hb2⟩)
  go_ret
  exact ⟨rfl, ((Below.refl _ _).alloc (Nat.le_refl _) _).trans (hb2.mono (by simp))⟩

set_option maxHeartbeats 1000000 in
theorem delete_one (B g n cap i : Nat) (xs : List Value) (w : World) (hown : w.ownsRow B 50 3 (.slice (some ⟨g, 0, none⟩) n cap) n xs) (hone0 : ∀ u ∈ xs, u.oneCell' = true) (hi : i < n) (hn : n ≤ 1000000000) :
    Calls Try.prog 62 #[.slice (some ⟨g, 0, none⟩) n cap, .int .i64 (i : Int), .int .i64 ((i : Int) + 1)] w fun e w' =>
      e = .returned (.slice (some ⟨g, 0, none⟩) (n - 1) cap) ∧ w'.ownsRow B 50 3 (.slice (some ⟨g, 0, none⟩) (n - 1) cap) (n - 1) (xs.take (i * 3) ++ xs.drop ((i + 1) * 3)) ∧ w.grownBy w' (some g) := by
  obtain ⟨i0, hi0, hz0, hz1, hz2⟩ := info_parts info_pod
  have hi1 : (i : Int) < n := by omega
  have hp2 : ((i : Int) + 1).toNat = i + 1 := by omega
  have hp1 : (i : Int) + 1 ≤ (n : Int) := by omega
  have hp0 : (0 : Int) ≤ (i : Int) + 1 := by omega
  have hp3 : ¬ (i : Int) = (i : Int) + 1 := by omega
  obtain ⟨hxl, hform⟩ := hown
  rcases hform with ⟨h0, _⟩ | ⟨g', cap', cur, h0, hBg, hgr, hnc, hcm, hcs, htake⟩
  · cases h0
  cases h0
  have hgr0 : Hid (w.drew.heap[g]? = some (.cells cur 50 (0, 0))) := hgr
  have hic : i ≤ cap := by omega
  have hjc : i + 1 ≤ cap := by omega
  have hcapl : cap ≤ 9223372036854775807 := by unfold maxLen at hcm; omega
  obtain ⟨news, hnews⟩ : ∃ news, news = xs.drop ((i + 1) * 3) := ⟨_, rfl⟩
  have hlen : news.length = (n - (i + 1)) * 3 := by rw [hnews, List.length_drop, hxl]; omega
  have hone : ∀ u ∈ xs, u.oneCell' = true := hone0
  obtain ⟨A, hA, hsrc⟩ : ∃ A : Addr, (if cap = i + 1 then some (⟨g, 0, none⟩ : Addr) else some ⟨g, (i + 1) * 3, none⟩) = some A ∧ Hid (∀ t u, news[t]? = some u → w.drew.cell? (A.add t) = some u) := by
    by_cases h : cap = i + 1
    · refine ⟨⟨g, 0, none⟩, by simp [h], fun t u hu => ?_⟩
      have h0 : news.length = 0 := by rw [hlen]; omega
      rw [List.length_eq_zero_iff.1 h0] at hu
      simp at hu
    · refine ⟨⟨g, (i + 1) * 3, none⟩, by simp [h], fun t u hu => ?_⟩
      have ht : t < (n - (i + 1)) * 3 := by
        have := (List.getElem?_eq_some_iff.1 hu).1
        rwa [hlen] at this
      rw [Addr.add_lit]
      show w.cell? _ = some u
      rw [cell_of_row w g _ cur _ (0, 0) hgr]
      rw [hnews, List.getElem?_drop, ← htake, List.getElem?_take, if_pos (by omega)] at hu
      simpa using hu
  have hnew1 : Hid (∀ u ∈ news, u.oneCell' = true) := fun u hu => hone u (by rw [hnews] at hu; exact List.mem_of_mem_drop hu)
  have hlen' : Hid (news.length = (n - (i + 1)) * i0.size) := by unfold Hid; rw [hz1]; exact hlen
  have hfit : Hid (i * i0.size + news.length ≤ cur.size) := by unfold Hid; rw [hz1, hlen, hcs]; omega
  obtain ⟨W1, hW1⟩ : ∃ W1, W1 = w.drew.setRow g (cur.toList.take (i * i0.size) ++ news ++ cur.toList.drop (i * i0.size + news.length)).toArray := ⟨_, rfl⟩
  have hg1 : W1.heap[g]? = some (.cells (cur.toList.take (i * 3) ++ news ++ cur.toList.drop (i * 3 + news.length)).toArray 50 (0, 0)) := by
    rw [hW1, hz1]; exact setRow_heap w.drew g cur _ _ _ hgr
  have hs1 : (cur.toList.take (i * 3) ++ news ++ cur.toList.drop (i * 3 + news.length)).toArray.size = cap * 3 := by
    simp [hlen]; omega
  have ht1 : (cur.toList.take (i * 3) ++ news ++ cur.toList.drop (i * 3 + news.length)).take ((n - 1) * 3) = xs.take (i * 3) ++ xs.drop ((i + 1) * 3) := by
    have e1 : cur.toList.take (i * 3) = xs.take (i * 3) := by rw [← htake, List.take_take, Nat.min_eq_left (by omega)]
    rw [e1, ← hnews]
    have hl2 : (xs.take (i * 3) ++ news).length = (n - 1) * 3 := by rw [List.length_append, List.length_take, hxl, hlen]; omega
    rw [← hl2]
    exact List.take_left
  have HW : Hid (W1 = w.drew.setRow g (cur.toList.take (i * i0.size) ++ news ++ cur.toList.drop (i * i0.size + news.length)).toArray) := hW1
  have hb1 : Hid (w.grownBy W1 (some g)) := by
    unfold Hid
    rw [hW1]
    exact ⟨rfl, rfl, rfl, by simp, fun k _ hk => setRow_other w.drew g k _ (fun e => hk (by rw [e]))⟩
  generalize (cur.toList.take (i * 3) ++ news ++ cur.toList.drop (i * 3 + news.length)) = cur1 at hg1 hs1 ht1
  have hcl := fun ty => run_clear_row (P := Try.prog) W1 39 50 ty (.agg #[.int .i64 0, .int .i64 0, .int .i64 0]) Try.underlying39 (by kernel_rfl) (by simp [Value.cells, Value.oneCell']) g ((i + (n - (i + 1))) * 3) (cap - (i + (n - (i + 1)))) cur1.toArray hg1 (by rw [hs1]; simp [Value.cells]; omega)
  obtain ⟨W2, hW2⟩ : ∃ W2, W2 = W1.setRow g (cur1.toArray.toList.take ((i + (n - (i + 1))) * 3) ++ (Value.agg #[.int .i64 0, .int .i64 0, .int .i64 0]).cells.toList ++ cur1.toArray.toList.drop ((i + (n - (i + 1))) * 3 + (Value.agg #[.int .i64 0, .int .i64 0, .int .i64 0]).cells.toList.length)).toArray := ⟨_, rfl⟩
  rw [← hW2] at hcl
  have hfin : Hid (W2.ownsRow B 50 3 (.slice (some ⟨g, 0, none⟩) (n - 1) cap) (n - 1) (xs.take (i * 3) ++ xs.drop ((i + 1) * 3)) ∧ w.grownBy W2 (some g)) := by
    have ho : (i + (n - (i + 1))) * 3 = (n - 1) * 3 := by omega
    have hz3 : (Value.agg #[.int .i64 0, .int .i64 0, .int .i64 0]).cells.toList.length = 3 := rfl
    rw [ho, hz3] at hW2
    have hs1' : cur1.length = cap * 3 := by simpa using hs1
    refine ⟨⟨?_, Or.inr ⟨g, cap, _, rfl, hBg, by rw [hW2]; exact setRow_heap W1 g _ _ _ _ hg1, by omega, hcm, ?_, ?_⟩⟩, ?_⟩
    · rw [List.length_append, List.length_take, List.length_drop, hxl]; omega
    · simp only [List.size_toArray, List.length_append, List.length_take, List.length_drop, hz3, hs1']
      omega
    · rw [← ht1]
      have hl : (cur1.take ((n - 1) * 3)).length = (n - 1) * 3 := by rw [List.length_take, hs1']; omega
      show ((cur1.take ((n - 1) * 3) ++ _ ++ _)).take ((n - 1) * 3) = _
      rw [List.append_assoc, List.take_append_of_le_length (by omega), List.take_of_length_le (by omega)]
    · have hb := hb1.out
      rw [hW2]
      exact ⟨hb.os, hb.tape, hb.output, by simpa using hb.size, fun k h1 hk => (setRow_other W1 g k _ (fun e => hk (by rw [e]))).trans (hb.block k h1 hk)⟩
  have e1 : n - (i + (n - (i + 1))) = 1 := by omega
  have e2 : ¬ cap = i + (n - (i + 1)) := by omega
  clear hW2 hW1 hg1 hs1 ht1 hlen hnews htake hgr hxl hone
  go_enter Try.func62, Try.ntmps62
  go_wp2_with fail
  go_region_law (refine step_room rfl (.tmp 22) (.tmp 25) 39 rfl 50 i0 Try.underlying39 hi0 g i cap cur hgr0.out (by simp [Act.eval, Act.put]) A (n - (i + 1)) (cap - (i + 1)) news (by simp [Act.eval, Act.put]) hlen'.out hsrc.out hnew1.out (by omega) hfit.out HW.out ?_)
  go_wp2
  go_ret
  exact ⟨by rw [show i + (n - (i + 1)) = n - 1 by omega]; rfl, hfin.out⟩

set_option maxHeartbeats 1000000 in
/-- a pod is gone -/
theorem remove_any (B Q : Nat) (v : Value) (F : FS) (i : Nat) (w : World) (hA : FAt w B Q v F) (hL : F.L.length ≤ 1000000000) (hi : i < F.L.length) :
    Calls Try.prog 44 #[.pointer (some ⟨Q, 0, none⟩), .int .i64 (i : Int)] w fun e w' => e = .returned (.tuple #[]) ∧ ∃ v', FAt w' B Q v' ⟨F.most, F.last, F.L.eraseIdx i⟩ ∧ Turn Q v v' w w' := by
  obtain ⟨ao, cap, rfl, hc1, hc2, hao⟩ := hA.form
  obtain ⟨g, rfl⟩ := hao (by omega)
  have cV := hA.cV
  have c4 := delete_one B g F.L.length cap i (cels pK.c F.L) w hA.own (cels_one pK F.L) hi hL
  have HA : Hid (FAt w B Q (.slice (some ⟨g, 0, none⟩) F.L.length cap) F) := hA
  have hlt := hA.lt
  have hLe : (F.L.eraseIdx i).length = F.L.length - 1 := List.length_eraseIdx_of_lt hi
  have HC : Hid ((cels pK.c F.L).take (i * 3) ++ (cels pK.c F.L).drop ((i + 1) * 3) = cels pK.c (F.L.eraseIdx i)) := cels_erase pK F.L i
  have HL : Hid ((F.L.eraseIdx i).length = F.L.length - 1) := hLe
  clear hA hLe
  go_enter Try.func44, Try.ntmps44
  go_wp2_with (go_at_call 62; (with_reducible refine c4.mono ?_); rintro e w4 ⟨rfl, hown4, hg4⟩; have hQ4 : w4.heap[Q]? = w.heap[Q]? := hg4.block Q HA.out.lt (fun e => HA.out.ne (by rw [e]; rfl)); have cS4 := (World.cell?_of_block (w := w) (a := ⟨Q, 2, none⟩) hQ4).trans cV; have fS4 := (World.frozen?_of_block (w := w) (a := ⟨Q, 2, none⟩) hQ4).trans (HA.out.fz 2))
  go_end0
  rw [HC.out, ← HL.out] at hown4
  have hA5 := RAt.regrown HA.out hQ4 hown4 (HA.out.ne)
  rw [HL.out] at hA5
  exact ⟨rfl, _, hA5, (Turn.of_grown (v := .slice (some ⟨g, 0, none⟩) F.L.length cap) (v' := .slice (some ⟨g, 0, none⟩) (F.L.length - 1) cap) hg4 (Or.inl rfl)).setRow 2 _⟩
set_option maxHeartbeats 1000000 in
/-- a pod goes -/
theorem letGo_any (B Q : Nat) (v : Value) (F : FS) (i : Nat) (m : Pd) (w : World) (hA : FAt w B Q v F) (hL : F.L.length ≤ 1000000000) (hm : F.L[i]? = some m) :
    Calls Try.prog 36 #[.pointer (some ⟨Q, 0, none⟩), .int .i64 (i : Int)] w fun e w' => e = .returned (.tuple #[]) ∧ ∃ v', FAt w' B Q v' ⟨F.most, F.last, letgo F.L i m⟩ ∧ Turn Q v v' w w' := by
  have hi : i < F.L.length := (List.getElem?_eq_some_iff.1 hm).1
  have hi' : (i : Int) < (F.L.length : Int) := by omega
  have c := remove_any B Q v F i w hA hL hi
  obtain ⟨ao, cap, rfl, hc1, hc2, hao⟩ := hA.form
  obtain ⟨g, rfl⟩ := hao (by omega)
  have cV := hA.cV
  obtain ⟨d0, d1, d2, fz⟩ := hA.pod rfl hm
  have f1 := fz (i * 3 + 1)
  by_cases hl : m.ld > 0
  · have hA2 : FAt (w.setCell ⟨g, i * 3 + 1, none⟩ (.int .i64 4)) B Q (.slice (some ⟨g, 0, none⟩) F.L.length cap) ⟨F.most, F.last, letgo F.L i m⟩ := by
      unfold letgo; rw [if_pos hl]
      exact RAt.put (j := 1) hA rfl hm (by decide) rfl
    clear hA c
    go_enter Try.func36, Try.ntmps36
    go_wp2
    (try simp only [Exit.inBlock, Exit.then])
    refine bodyPost_ret (results_none rfl _ _ _) rfl ?_
    exact ⟨rfl, _, hA2, Turn.setG _ _⟩
  · have e : letgo F.L i m = F.L.eraseIdx i := by unfold letgo; rw [if_neg hl]
    rw [e]
    clear hA
    go_enter Try.func36, Try.ntmps36
    go_wp2_with (go_at_call 44; (with_reducible refine c.mono ?_); rintro e w2 ⟨rfl, v2, hA2, hT2⟩)
    go_end0
    exact ⟨rfl, v2, hA2, hT2⟩
end Flt
end Go.Proofs.Ytomdimljcbnnnac
