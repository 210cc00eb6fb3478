/- What each function of package queue answers: slices.Delete of one message. -/
import Derived.Test.YtbfnjjdgiihngafQueLease
namespace Go.Proofs.Ytbfnjjdgiihngaf
namespace Que
open Go.RowKit
set_option maxRecDepth 8000

/-- append where there is room, as a step of a region: the row as it is told behind it -/
theorem step_room {P : Program} {ops : Array Oper} {o : Oper} {a : Act} {w W1 : World} {K : Act → World → Prop} {Q : Exit → Act → World → Prop} {E : Prop}
    (hg : o.guard = none) (s x : Operand) (t : TypeId) (hop : o.op = Op.call { callee := Callee.builtin Builtin.append, args := #[s, x], argTypes := #[t, t] })
    (e : TypeId) (i : TypeInfo) (h1 : P.underlying t = some (.slice e)) (h2 : P.info? e = some i)
    (g n cap : Nat) (cur : Array Value) (hgr : w.heap[g]? = some (.cells cur e (0, 0))) (hs : a.eval s = .slice (some ⟨g, 0, none⟩) n cap)
    (ad : Addr) (m c : Nat) (news : List Value) (hx : a.eval x = .slice (some ad) m c) (hn : news.length = m * i.size) (hc : ∀ j u, news[j]? = some u → w.cell? (ad.add j) = some u) (h1c : ∀ u ∈ news, u.oneCell' = true)
    (hroom : n + m ≤ cap) (hfit : n * i.size + news.length ≤ cur.size)
    (hW : W1 = w.setRow g (cur.toList.take (n * i.size) ++ news ++ cur.toList.drop (n * i.size + news.length)).toArray)
    (hK : K (a.put o.dst (.slice (some ⟨g, 0, none⟩) (n + m) cap)) W1) :
    if Region.wanted o (yielded ops a.tmps) = true then Oper.wp P o a w K Q else E := by
  have hw : Region.wanted o (yielded ops a.tmps) = true := by simp [Region.wanted, hg]
  rw [if_pos hw]
  have hr := run_append_room (P := P) w t o.type e i h1 h2 g n cap cur hgr ad m c news hn hc h1c hroom hfit
  rw [← hW] at hr
  unfold Oper.wp execOp
  simp only [hop, resolve, invoke, builtin, Sem.run_bind, Sem.run_pure, Result.andThen_ok, List.map_toArray, List.map_cons, List.map_nil, hs, hx, hr]
  exact hK

/-- clear of one message -/
theorem run_clear_row {P : Program} (w : World) (t e ty : TypeId) (z : Value) (ht : P.underlying t = some (.slice e)) (hv : (zeroValue e).run P w = .ok z w) (h1 : ∀ u ∈ z.cells.toList, u.oneCell' = true) (g o c : Nat) (cur : Array Value)
    (hg : w.heap[g]? = some (.cells cur e (0, 0))) (hfit : o + z.cells.size ≤ cur.size) :
    (Builtin.clear_ #[t] ty #[.slice (some ⟨g, o, none⟩) 1 c]).run P w = .ok (.tuple #[]) (w.setRow g (cur.toList.take o ++ z.cells.toList ++ cur.toList.drop (o + z.cells.toList.length)).toArray) := by
  have hzc : (Builtin.zeroCells z.cells 1).toList = z.cells.toList := by
    apply List.ext_getElem?
    intro j
    simp [Builtin.zeroCells]
    by_cases hj : j < z.cells.size
    · simp [hj, Nat.mod_eq_of_lt hj]
    · simp [hj]
  have hst := run_storeCells_at P g o e z.cells.toList 0 cur w hg (by simpa using hfit) h1
  simp only [Nat.add_zero] at hst
  simp [Builtin.clear_, run_underlying ht, hv, hzc, hst]
set_option maxHeartbeats 1000000 in
theorem delete_one (B g n cap i : Nat) (xs : List Value) (w : World) (hown : w.ownsRow B 53 3 (.slice (some ⟨g, 0, none⟩) n cap) n xs) (hone0 : ∀ u ∈ xs, u.oneCell' = true) (hi : i < n) (hn : n ≤ 200) :
    Calls Try.prog 23 #[.slice (some ⟨g, 0, none⟩) n cap, .int .i64 (i : Int), .int .i64 ((i : Int) + 1)] w fun e w' =>
      e = .returned (.slice (some ⟨g, 0, none⟩) (n - 1) cap) ∧ w'.ownsRow B 53 3 (.slice (some ⟨g, 0, none⟩) (n - 1) cap) (n - 1) (xs.take (i * 3) ++ xs.drop ((i + 1) * 3)) ∧ w.grownBy w' (some g) := by
  obtain ⟨i0, hi0, hz0, hz1, hz2⟩ := info_parts info_msg
  have hi1 : (i : Int) < n := by omega
  have hp2 : ((i : Int) + 1).toNat = i + 1 := by omega
  have hp1 : (i : Int) + 1 ≤ (n : Int) := by omega
  have hp0 : (0 : Int) ≤ (i : Int) + 1 := by omega
  have hp3 : ¬ (i : Int) = (i : Int) + 1 := by omega
  obtain ⟨hxl, hform⟩ := hown
  rcases hform with ⟨h0, _⟩ | ⟨g', cap', cur, h0, hBg, hgr, hnc, hcm, hcs, htake⟩
  · cases h0
  cases h0
  have hgr0 : Hid (w.drew.heap[g]? = some (.cells cur 53 (0, 0))) := hgr
  have hic : i ≤ cap := by omega
  have hjc : i + 1 ≤ cap := by omega
  have hcapl : cap ≤ 9223372036854775807 := by unfold maxLen at hcm; omega
  obtain ⟨news, hnews⟩ : ∃ news, news = xs.drop ((i + 1) * 3) := ⟨_, rfl⟩
  have hlen : news.length = (n - (i + 1)) * 3 := by rw [hnews, List.length_drop, hxl]; omega
  have hone : ∀ u ∈ xs, u.oneCell' = true := hone0
  obtain ⟨A, hA, hsrc⟩ : ∃ A : Addr, (if cap = i + 1 then some (⟨g, 0, none⟩ : Addr) else some ⟨g, (i + 1) * 3, none⟩) = some A ∧ Hid (∀ t u, news[t]? = some u → w.drew.cell? (A.add t) = some u) := by
    by_cases h : cap = i + 1
    · refine ⟨⟨g, 0, none⟩, by simp [h], fun t u hu => ?_⟩
      have h0 : news.length = 0 := by rw [hlen]; omega
      rw [List.length_eq_zero_iff.1 h0] at hu
      simp at hu
    · refine ⟨⟨g, (i + 1) * 3, none⟩, by simp [h], fun t u hu => ?_⟩
      have ht : t < (n - (i + 1)) * 3 := by
        have := (List.getElem?_eq_some_iff.1 hu).1
        rwa [hlen] at this
      rw [Addr.add_lit]
      show w.cell? _ = some u
      rw [cell_of_row w g _ cur _ (0, 0) hgr]
      rw [hnews, List.getElem?_drop, ← htake, List.getElem?_take, if_pos (by omega)] at hu
      simpa using hu
  have hnew1 : Hid (∀ u ∈ news, u.oneCell' = true) := fun u hu => hone u (by rw [hnews] at hu; exact List.mem_of_mem_drop hu)
  have hlen' : Hid (news.length = (n - (i + 1)) * i0.size) := by unfold Hid; rw [hz1]; exact hlen
  have hfit : Hid (i * i0.size + news.length ≤ cur.size) := by unfold Hid; rw [hz1, hlen, hcs]; omega
  obtain ⟨W1, hW1⟩ : ∃ W1, W1 = w.drew.setRow g (cur.toList.take (i * i0.size) ++ news ++ cur.toList.drop (i * i0.size + news.length)).toArray := ⟨_, rfl⟩
  have hg1 : W1.heap[g]? = some (.cells (cur.toList.take (i * 3) ++ news ++ cur.toList.drop (i * 3 + news.length)).toArray 53 (0, 0)) := by
    rw [hW1, hz1]; exact setRow_heap w.drew g cur _ _ _ hgr
  have hs1 : (cur.toList.take (i * 3) ++ news ++ cur.toList.drop (i * 3 + news.length)).toArray.size = cap * 3 := by
    simp [hlen]; omega
  have ht1 : (cur.toList.take (i * 3) ++ news ++ cur.toList.drop (i * 3 + news.length)).take ((n - 1) * 3) = xs.take (i * 3) ++ xs.drop ((i + 1) * 3) := by
    have e1 : cur.toList.take (i * 3) = xs.take (i * 3) := by rw [← htake, List.take_take, Nat.min_eq_left (by omega)]
    rw [e1, ← hnews]
    have hl2 : (xs.take (i * 3) ++ news).length = (n - 1) * 3 := by rw [List.length_append, List.length_take, hxl, hlen]; omega
    rw [← hl2]
    exact List.take_left
  have HW : Hid (W1 = w.drew.setRow g (cur.toList.take (i * i0.size) ++ news ++ cur.toList.drop (i * i0.size + news.length)).toArray) := hW1
  have hb1 : Hid (w.grownBy W1 (some g)) := by
    unfold Hid
    rw [hW1]
    exact ⟨rfl, rfl, rfl, by simp, fun k _ hk => setRow_other w.drew g k _ (fun e => hk (by rw [e]))⟩
  generalize (cur.toList.take (i * 3) ++ news ++ cur.toList.drop (i * 3 + news.length)) = cur1 at hg1 hs1 ht1
  have hcl := fun ty => run_clear_row (P := Try.prog) W1 40 53 ty (.agg #[.int .i64 0, .int .i64 0, .bool false]) Try.underlying40 (by kernel_rfl) (by simp [Value.cells, Value.oneCell']) g ((i + (n - (i + 1))) * 3) (cap - (i + (n - (i + 1)))) cur1.toArray hg1 (by rw [hs1]; simp [Value.cells]; omega)
  obtain ⟨W2, hW2⟩ : ∃ W2, W2 = W1.setRow g (cur1.toArray.toList.take ((i + (n - (i + 1))) * 3) ++ (Value.agg #[.int .i64 0, .int .i64 0, .bool false]).cells.toList ++ cur1.toArray.toList.drop ((i + (n - (i + 1))) * 3 + (Value.agg #[.int .i64 0, .int .i64 0, .bool false]).cells.toList.length)).toArray := ⟨_, rfl⟩
  rw [← hW2] at hcl
  have hfin : Hid (W2.ownsRow B 53 3 (.slice (some ⟨g, 0, none⟩) (n - 1) cap) (n - 1) (xs.take (i * 3) ++ xs.drop ((i + 1) * 3)) ∧ w.grownBy W2 (some g)) := by
    have ho : (i + (n - (i + 1))) * 3 = (n - 1) * 3 := by omega
    have hz3 : (Value.agg #[.int .i64 0, .int .i64 0, .bool false]).cells.toList.length = 3 := rfl
    rw [ho, hz3] at hW2
    have hs1' : cur1.length = cap * 3 := by simpa using hs1
    refine ⟨⟨?_, Or.inr ⟨g, cap, _, rfl, hBg, by rw [hW2]; exact setRow_heap W1 g _ _ _ _ hg1, by omega, hcm, ?_, ?_⟩⟩, ?_⟩
    · rw [List.length_append, List.length_take, List.length_drop, hxl]; omega
    · simp only [List.size_toArray, List.length_append, List.length_take, List.length_drop, hz3, hs1']
      omega
    · rw [← ht1]
      have hl : (cur1.take ((n - 1) * 3)).length = (n - 1) * 3 := by rw [List.length_take, hs1']; omega
      show ((cur1.take ((n - 1) * 3) ++ _ ++ _)).take ((n - 1) * 3) = _
      rw [List.append_assoc, List.take_append_of_le_length (by omega), List.take_of_length_le (by omega)]
    · have hb := hb1.out
      rw [hW2]
      exact ⟨hb.os, hb.tape, hb.output, by simpa using hb.size, fun k h1 hk => (setRow_other W1 g k _ (fun e => hk (by rw [e]))).trans (hb.block k h1 hk)⟩
  have e1 : n - (i + (n - (i + 1))) = 1 := by omega
  have e2 : ¬ cap = i + (n - (i + 1)) := by omega
  clear hW2 hW1 hg1 hs1 ht1 hlen hnews htake hgr hxl hone
  go_enter Try.func23, Try.ntmps23
  go_wp2_with fail
  go_region_law (refine step_room rfl (.tmp 22) (.tmp 25) 40 rfl 53 i0 Try.underlying40 hi0 g i cap cur hgr0.out (by simp [Act.eval, Act.put]) A (n - (i + 1)) (cap - (i + 1)) news (by simp [Act.eval, Act.put]) hlen'.out hsrc.out hnew1.out (by omega) hfit.out HW.out ?_)
  go_wp2
  go_ret
  exact ⟨by rw [show i + (n - (i + 1)) = n - 1 by omega]; rfl, hfin.out⟩
end Que
end Go.Proofs.Ytbfnjjdgiihngaf
