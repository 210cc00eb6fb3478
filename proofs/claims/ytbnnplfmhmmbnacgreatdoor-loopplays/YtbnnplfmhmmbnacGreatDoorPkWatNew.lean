/- What the document's loop answers: NewWatch. -/
import Derived.Test.YtbnnplfmhmmbnacGreatDoorPkWatchAt
import Derived.Test.YtbnnplfmhmmbnacGreatDoorPkStbNew2
import Derived.BigQuiet
import Derived.Deep.RegionHeld
import Derived.Deep.MidRow
import Derived.Deep.DeepCutAuto
namespace Go.Proofs.YtbnnplfmhmmbnacGreatDoor
namespace Wat
open Go.RowKit Rw Rec Plain Pln Frm Lpp Stb Crn
set_option maxRecDepth 8000

theorem info_i : (Tryz.prog.info? 3).map (fun i => (i.zero, i.size, i.bytes)) = some (some (.int .i64 0), 1, 8) := by kernel_rfl
theorem made_run (w : World) (n : Nat) (h : n ≤ 5) : (Instr.makeSlice 42 (.int .i64 (n : Int)) (.int .i64 (n : Int))).run Tryz.prog w = .ok (.slice (some ⟨w.heap.size, 0, none⟩) n n) (w.alloc (.cells (madeCells #[.int .i64 0] n) 3)) := by
  obtain ⟨i, hi, hz0, hz1, hz2⟩ := info_parts info_i
  have hr := run_make (P := Tryz.prog) w 42 3 i _ Tryz.underlying42 hi hz0 .i64 .i64 (n : Int) (n : Int) (by omega) (Int.le_refl _) (by rw [hz2]; omega) (by omega)
  simpa [hz1, Value.cells] using hr
theorem cels_zero (n : Nat) : cels nK.c (List.replicate n 0) = List.replicate n (.int .i64 0) := by
  induction n with
  | zero => rfl
  | succ n ih => simp only [List.replicate_succ, cels, ih]; rfl
theorem made_list (n : Nat) : (madeCells #[.int .i64 0] n).toList = List.replicate n (.int .i64 0) := by
  apply List.ext_getElem?
  intro j
  by_cases hj : j < n
  · simp [madeCells, hj, Nat.mod_one]
  · simp [madeCells, hj]
theorem own_made {W : World} {B g n : Nat} (hB : B ≤ g) (hn : n ≤ 5) (h : W.heap[g]? = some (.cells (madeCells #[.int .i64 0] n) 3 (0, 0))) : W.ownsRow B 3 nK.s (.slice (some ⟨g, 0, none⟩) n n) (List.replicate n (0 : Int)).length (cels nK.c (List.replicate n 0)) := by
  have hl := made_list n
  have hz : (madeCells #[Value.int .i64 0] n).size = n := by rw [← Array.length_toList, hl]; simp
  rw [cels_zero, List.length_replicate]
  refine ⟨by simp [nK], Or.inr ⟨g, n, _, rfl, hB, h, Nat.le_refl _, by unfold maxLen; omega, by rw [hz]; simp [nK], ?_⟩⟩
  rw [hl]
  simp [nK]
/-- a new block with its cells -/
theorem rat_new {W : World} {B S : Nat} {p : Pd} {sl vF : Value} {s : Lp} {A : Array Value} (hA : A = (wC p sl S vF s).toArray) (hB : B ≤ W.heap.size) (hO : W.ownsRow B 3 nK.s vF s.fs.length (cels nK.c s.fs)) : RAt nK (W.alloc (.cells A 44)) 3 B W.heap.size 19 (wC p sl S vF s) vF s.fs := by
  subst hA
  refine ⟨by simp, hB, fun j u hu => ?_, rfl, fun j => by simp, hO.alloc _, fun e => ?_⟩
  · have : (wC p sl S vF s).toArray[j]? = some u := by simpa using hu
    simpa using this
  · have := (hO.lt _ e).2; omega
theorem plan_new (w : World) (p : Pd) (sl : Value) (ta : TypeId) : PlAt (w.alloc (.cells (planC p sl) ta)) w.heap.size p sl := by
  constructor <;> simp
theorem plan_drew {w : World} {B : Nat} {p : Pd} {sl : Value} (h : PlAt w B p sl) : PlAt w.drew B p sl := ⟨h.c0, h.c1, h.c2, h.c3, h.c4, h.c5, h.c6, h.c7, h.c8, h.c9, h.c10, h.c11, h.c12, h.c13, h.c14, h.c15, h.c16, h.c17⟩
theorem heapN (W : World) (o : Obj) : (W.alloc o).heap[W.heap.size]? = some o := by show (W.heap.push o)[W.heap.size]? = some o; simp
theorem own_base {w : World} {A B : Nat} {e : TypeId} {s n : Nat} {v : Value} {xs : List Value} (h : Own w B e s v n xs) (hAB : A ≤ B) : Own w A e s v n xs := by
  refine ⟨h.1, ?_⟩
  rcases h.2 with a | ⟨g, off, cap, cur, h1, h2, h3⟩
  · exact Or.inl a
  · exact Or.inr ⟨g, off, cap, cur, h1, Nat.le_trans hAB h2, h3⟩
theorem cat_base {w : World} {A B D : Nat} {vw vm : Value} {c : Cm} (h : CAt w B D vw vm c) (hAB : A ≤ B) : CAt w A D vw vm c := ⟨h.lt, Nat.le_trans hAB h.bD, h.fz, h.num, h.rW, h.rM, own_base h.oW hAB, own_base h.oM hAB, h.nW, h.nM, h.ap⟩
def newL (n : Nat) : Lp := ⟨List.replicate n 0, false, 0, 0, -1⟩
theorem wat_new {w w9 : World} {S g : Nat} {p : Pd} {ta : Option Addr} {tc : Nat} {ts : List Tr} {c : Cm} {A : Array Value} (hl : ts.length ≤ 5) (hT : TrsAt w ta ts) (hb9 : Below w.heap.size w w9) (hC : CAt w9 w.heap.size S (.slice none 0 0) (.slice none 0 0) c)
    (hg : w9.heap[g]? = some (.cells (madeCells #[.int .i64 0] ts.length) 3 (0, 0))) (hgB : w.heap.size ≤ g) (hgS : g ≠ S) (hA : A = (wC p (.slice ta ts.length tc) S (.slice (some ⟨g, 0, none⟩) ts.length ts.length) (newL ts.length)).toArray) :
    WAt (w9.alloc (.cells A 44)) w.heap.size ⟨w9.heap.size, S, .slice (some ⟨g, 0, none⟩) ts.length ts.length, .slice none 0 0, .slice none 0 0⟩ p ta tc ts (newL ts.length) c ∧ Below w.heap.size w (w9.alloc (.cells A 44)) := by
  have hbA := hb9.alloc hb9.size (.cells A 44)
  have hSl := hC.lt
  refine ⟨⟨rat_new hA hb9.size (own_made hgB hl hg), hC.alloc _, hT.below hbA (Nat.le_refl _), fun hp b off e => ?_, fun h => ?_, fun x hx h => ?_⟩, hbA⟩
  · obtain ⟨t, ht⟩ : ∃ t, ts[0]? = some t := ⟨ts[0], by simp⟩
    obtain ⟨b', off', e', hlt, _⟩ := hT 0 t ht
    rw [e] at e'
    cases e'
    exact hlt
  · rcases h with h | h | h
    · dsimp only at h; omega
    · simp [Value.ownBlock] at h
    · simp [Value.ownBlock] at h
  · simp [Value.ownBlock] at hx
    rcases h with h | h | h
    · dsimp only at h; exact hgS (hx.trans h)
    · simp [Value.ownBlock] at h
    · simp [Value.ownBlock] at h
set_option maxHeartbeats 8000000 in
theorem wnew_any (p : Pd) (ta : Option Addr) (tc : Nat) (ts : List Tr) (w : World) (hl : ts.length ≤ 5) (hT : TrsAt w ta ts) :
    Calls Tryz.prog 6 #[planV p (.slice ta ts.length tc)] w fun e w' => ∃ D S vF, e = .returned (.pointer (some ⟨D, 0, none⟩)) ∧ WAt w' w.heap.size ⟨D, S, vF, .slice none 0 0, .slice none 0 0⟩ p ta tc ts (newL ts.length) ⟨clP ⟨p.uw, p.up, p.uc, p.ue⟩, clP ⟨p.dw, p.dp, p.dc, p.de⟩, 0, [], []⟩ ∧ Below w.heap.size w w' := by
  obtain ⟨W, hW⟩ : ∃ W, W = w.alloc (.cells (planC p (.slice ta ts.length tc)) 26) := ⟨_, rfl⟩
  have hPl : PlAt W w.heap.size p (.slice ta ts.length tc) := by rw [hW]; exact plan_new _ _ _ _
  have hbW : Below w.heap.size w W := by rw [hW]; exact (Below.refl _ _).alloc (Nat.le_refl _) _
  have hzW : w.heap.size < W.heap.size := by rw [hW]; simp
  have hmk := fun W => made_run W ts.length hl
  have cN := fun W => cnew_any ⟨p.uw, p.up, p.uc, p.ue⟩ ⟨p.dw, p.dp, p.dc, p.de⟩ W
  simp only [pcV] at cN
  have HW : Hid (W = w.alloc (.cells (planC p (.slice ta ts.length tc)) 26)) := hW
  clear hW
  go_enter Tryz.func6, Tryz.ntmps6
  go_upto_region 1 with fail
  rw [← HW.out]
  clear HW
  refine wp_region_held_drew (S := fun w' => PlAt w' w.heap.size p (.slice ta ts.length tc)) (by kernel_rfl) (plan_drew hPl) (fun hHeld => ?_)
  refine wpAnyH_take (i := 1) (oi := _) (v := ?_) rfl (by kernel_rfl) (by kernel_rfl) (by kernel_rfl) (fun _ _ _ h => h) (Or.inl ⟨by rfl, ?_⟩) (by assumption) ?_
  rotate_left
  · intro w' hSw
    (try dsimp only at hSw)
    go_simp
    all_goals with_reducible rfl
  (try simp only [Act.put, List.setIfInBounds_toArray, List.set_cons_zero, List.set_cons_succ, List.getElem_toArray, List.getElem_cons_zero, List.getElem_cons_succ])
  refine wpAnyH_take (i := 2) (oi := _) (v := ?_) rfl (by kernel_rfl) (by kernel_rfl) (by kernel_rfl) (fun _ _ _ h => h) (Or.inl ⟨by rfl, ?_⟩) (by assumption) ?_
  rotate_left
  · intro w' hSw
    (try dsimp only at hSw)
    have a9 := hSw.c9
    have a10 := hSw.c10
    have a11 := hSw.c11
    have a12 := hSw.c12
    go_simp
    all_goals with_reducible rfl
  (try simp only [Act.put, List.setIfInBounds_toArray, List.set_cons_zero, List.set_cons_succ, List.getElem_toArray, List.getElem_cons_zero, List.getElem_cons_succ])
  refine wpAnyH_take (i := 3) (oi := _) (v := ?_) rfl (by kernel_rfl) (by kernel_rfl) (by kernel_rfl) (fun _ _ _ h => h) (Or.inl ⟨by rfl, ?_⟩) (by assumption) ?_
  rotate_left
  · intro w' hSw
    (try dsimp only at hSw)
    go_simp
    all_goals with_reducible rfl
  (try simp only [Act.put, List.setIfInBounds_toArray, List.set_cons_zero, List.set_cons_succ, List.getElem_toArray, List.getElem_cons_zero, List.getElem_cons_succ])
  refine wpAnyH_take (i := 4) (oi := _) (v := ?_) rfl (by kernel_rfl) (by kernel_rfl) (by kernel_rfl) (fun _ _ _ h => h) (Or.inl ⟨by rfl, ?_⟩) (by assumption) ?_
  rotate_left
  · intro w' hSw
    (try dsimp only at hSw)
    have a13 := hSw.c13
    have a14 := hSw.c14
    have a15 := hSw.c15
    have a16 := hSw.c16
    go_simp
    all_goals with_reducible rfl
  (try simp only [Act.put, List.setIfInBounds_toArray, List.set_cons_zero, List.set_cons_succ, List.getElem_toArray, List.getElem_cons_zero, List.getElem_cons_succ])
  refine wpAnyH_take (i := 6) (oi := _) (v := ?_) rfl (by kernel_rfl) (by kernel_rfl) (by kernel_rfl) (fun _ _ _ h => h) (Or.inl ⟨by rfl, ?_⟩) (by assumption) ?_
  rotate_left
  · intro w' hSw
    (try dsimp only at hSw)
    go_simp
    all_goals with_reducible rfl
  (try simp only [Act.put, List.setIfInBounds_toArray, List.set_cons_zero, List.set_cons_succ, List.getElem_toArray, List.getElem_cons_zero, List.getElem_cons_succ])
  refine wpAnyH_take (i := 7) (oi := _) (v := ?_) rfl (by kernel_rfl) (by kernel_rfl) (by kernel_rfl) (fun _ _ _ h => h) (Or.inl ⟨by rfl, ?_⟩) (by assumption) ?_
  rotate_left
  · intro w' hSw
    (try dsimp only at hSw)
    have a17 := hSw.c17
    go_simp
    all_goals with_reducible rfl
  (try simp only [Act.put, List.setIfInBounds_toArray, List.set_cons_zero, List.set_cons_succ, List.getElem_toArray, List.getElem_cons_zero, List.getElem_cons_succ])
  refine wpAnyH_take (i := 8) (oi := _) (v := ?_) rfl (by kernel_rfl) (by kernel_rfl) (by kernel_rfl) (fun _ _ _ h => h) (Or.inl ⟨by rfl, ?_⟩) (by assumption) ?_
  rotate_left
  · intro w' hSw
    (try dsimp only at hSw)
    go_simp
    all_goals with_reducible rfl
  (try simp only [Act.put, List.setIfInBounds_toArray, List.set_cons_zero, List.set_cons_succ, List.getElem_toArray, List.getElem_cons_zero, List.getElem_cons_succ])
  refine wpAnyH_take (i := 0) (oi := _) (v := planV p (.slice ta ts.length tc)) rfl (by kernel_rfl) (by kernel_rfl) (by kernel_rfl) (fun _ _ _ h => h) (yieldsIf_load_mid (by rfl) 26 (.tmp 1) rfl w.heap.size 0 (by with_unfolding_all rfl) [.string ⟨p.nm.toArray⟩, .int .i64 p.mn, .int .i64 p.mx, .int .i64 p.po, .int .i64 p.co, .int .i64 p.tl, .int .i64 p.bk, .int .i64 p.af, .int .i64 p.sh, .int .i64 p.uw, .int .i64 p.up, .int .i64 p.uc, .int .i64 p.ue, .int .i64 p.dw, .int .i64 p.dp, .int .i64 p.dc, .int .i64 p.de, .slice ta ts.length tc] _ (fun W h => range_plan h) Tryz.underlying26 rfl (by kernel_rfl)) (by assumption) ?_
  (try simp only [Act.put, List.setIfInBounds_toArray, List.set_cons_zero, List.set_cons_succ, List.getElem_toArray, List.getElem_cons_zero])
  refine wpAnyH_ready (rs := [5, 9]) (by kernel_rfl) (by simp) ?_
  refine AllReadyH.cons rfl (fun K hK => ?_) (AllReadyH.cons rfl (fun K hK => ?_) AllReadyH.nil)
  · go_simp
    go_wp2_with (go_at_call 18; (with_reducible refine (cN _).mono ?_); rintro e w8 ⟨S8, rfl, hC8, hb8⟩; have s8 := (plan_drew hPl).on hb8 hzW)
    refine hK.out _ _ s8 (fun hHeld => ?_)
    clear hK K
    refine wpAnyH_ready (rs := [9]) (by kernel_rfl) (by simp) ?_
    refine AllReadyH.cons rfl (fun K hK => ?_) AllReadyH.nil
    go_simp
    refine hK.out _ _ (s8.on ((Below.refl w8.heap.size w8).alloc (Nat.le_refl _) _) (Nat.lt_of_lt_of_le hzW hb8.size)) (fun hHeld => ?_)
    clear hK K
    refine wpAnyH_take (i := 10) (oi := _) (v := ?_) rfl (by kernel_rfl) (by kernel_rfl) (by kernel_rfl) (fun _ _ _ h => h) (Or.inl ⟨by rfl, ?_⟩) (by assumption) ?_
    rotate_left
    · intro w' hSw
      (try dsimp only at hSw)
      go_simp
      all_goals with_reducible rfl
    (try simp only [Act.put, List.setIfInBounds_toArray, List.set_cons_zero, List.set_cons_succ, List.getElem_toArray, List.getElem_cons_zero, List.getElem_cons_succ])
    refine wpAnyH_ready (rs := [11]) (by kernel_rfl) (by simp) ?_
    refine AllReadyH.cons rfl (fun K hK => ?_) AllReadyH.nil
    go_simp
    refine hK.out _ _ ((s8.on ((Below.refl w8.heap.size w8).alloc (Nat.le_refl _) (.cells (madeCells #[.int .i64 0] ts.length) 3)) (Nat.lt_of_lt_of_le hzW hb8.size)).on ((Below.refl _ _).alloc (Nat.le_refl _) _) (Nat.lt_of_lt_of_le (Nat.lt_of_lt_of_le hzW hb8.size) (by simp))) (fun hHeld => ?_)
    clear hK K
    refine wpAnyH_take (i := 12) (oi := _) (v := ?_) rfl (by kernel_rfl) (by kernel_rfl) (by kernel_rfl) (fun _ _ _ h => h) (Or.inl ⟨by rfl, ?_⟩) (by assumption) ?_
    rotate_left
    · intro w' hSw
      (try dsimp only at hSw)
      go_simp
      all_goals with_reducible rfl
    (try simp only [Act.put, List.setIfInBounds_toArray, List.set_cons_zero, List.set_cons_succ, List.getElem_toArray, List.getElem_cons_zero, List.getElem_cons_succ])
    refine wpAnyH_done (by kernel_rfl) ?_ _
    (try go_wp2)
    go_ret
    have hb9 : Below w.heap.size w (w8.alloc (.cells (madeCells #[.int .i64 0] ts.length) 3)) := ((hbW.drew).trans (hb8.mono hbW.size)).alloc (Nat.le_trans hbW.size hb8.size) _
    have hC9 := (hC8.alloc (.cells (madeCells #[.int .i64 0] ts.length) 3))
    have h9 := wat_new (p := p) (tc := tc) hl hT hb9 (cat_base hC9 hbW.size) (heapN _ _) (Nat.le_trans hbW.size hb8.size) (by have := hC8.lt; omega) rfl
    have hz9 : (w8.alloc (.cells (madeCells #[.int .i64 0] ts.length) 3)).heap.size = w8.heap.size + 1 := by simp
    rw [hz9] at h9
    exact ⟨_, S8, _, rfl, h9⟩
  · go_simp
    have hbD : Below W.heap.size W (W.alloc (.cells (madeCells #[.int .i64 0] ts.length) 3)).drew := ((Below.refl _ _).alloc (Nat.le_refl _) _).drew
    have sD := hPl.on hbD hzW
    refine hK.out _ _ sD (fun hHeld => ?_)
    clear hK K
    refine wpAnyH_ready (rs := [5]) (by kernel_rfl) (by simp) ?_
    refine AllReadyH.cons rfl (fun K hK => ?_) AllReadyH.nil
    go_simp
    go_wp2_with (go_at_call 18; (with_reducible refine (cN _).mono ?_); rintro e w8 ⟨S8, rfl, hC8, hb8⟩; have s8 := sD.on hb8 (Nat.lt_of_lt_of_le hzW hbD.size))
    refine hK.out _ _ s8 (fun hHeld => ?_)
    clear hK K
    refine wpAnyH_take (i := 10) (oi := _) (v := ?_) rfl (by kernel_rfl) (by kernel_rfl) (by kernel_rfl) (fun _ _ _ h => h) (Or.inl ⟨by rfl, ?_⟩) (by assumption) ?_
    rotate_left
    · intro w' hSw
      (try dsimp only at hSw)
      go_simp
      all_goals with_reducible rfl
    (try simp only [Act.put, List.setIfInBounds_toArray, List.set_cons_zero, List.set_cons_succ, List.getElem_toArray, List.getElem_cons_zero, List.getElem_cons_succ])
    refine wpAnyH_ready (rs := [11]) (by kernel_rfl) (by simp) ?_
    refine AllReadyH.cons rfl (fun K hK => ?_) AllReadyH.nil
    go_simp
    refine hK.out _ _ (s8.on ((Below.refl _ _).alloc (Nat.le_refl _) _) (Nat.lt_of_lt_of_le (Nat.lt_of_lt_of_le hzW hbD.size) hb8.size)) (fun hHeld => ?_)
    clear hK K
    refine wpAnyH_take (i := 12) (oi := _) (v := ?_) rfl (by kernel_rfl) (by kernel_rfl) (by kernel_rfl) (fun _ _ _ h => h) (Or.inl ⟨by rfl, ?_⟩) (by assumption) ?_
    rotate_left
    · intro w' hSw
      (try dsimp only at hSw)
      go_simp
      all_goals with_reducible rfl
    (try simp only [Act.put, List.setIfInBounds_toArray, List.set_cons_zero, List.set_cons_succ, List.getElem_toArray, List.getElem_cons_zero, List.getElem_cons_succ])
    refine wpAnyH_done (by kernel_rfl) ?_ _
    (try go_wp2)
    go_ret
    have hb9 : Below w.heap.size w w8 := (hbW.trans (hbD.mono hbW.size)).trans (hb8.mono (Nat.le_trans hbW.size hbD.size))
    have hg8 : w8.heap[W.heap.size]? = some (.cells (madeCells #[.int .i64 0] ts.length) 3 (0, 0)) := (hb8.block W.heap.size (by simp)).trans (heapN _ _)
    have hS8 := hC8.bD
    have h9 := wat_new (p := p) (tc := tc) hl hT hb9 (cat_base hC8 (Nat.le_trans hbW.size hbD.size)) hg8 hbW.size (fun e => by simp at hS8; omega) rfl
    exact ⟨_, S8, _, rfl, h9⟩
end Wat
end Go.Proofs.YtbnnplfmhmmbnacGreatDoor
