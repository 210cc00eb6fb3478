/- A line of a plan's text, the first one: parseLine. A trigger's line of a plan's text: parseLine. -/
import Derived.Test.YtcfncgjpbdkagabDoorPlanTrig
import Derived.Deep.RegionHeld
import Derived.Deep.RegionLaw
namespace Go.Proofs.YtcfncgjpbdkagabDoor
namespace Pln
open Go.RowKit Lai Civ Crn Pie
set_option maxRecDepth 8000

/-- the words of a line -/
theorem words_any (text : List UInt8) (w : World) (ht : text.length ≤ 2048) : ∃ (x : List UInt8) (r : List (List UInt8)) (n o2 : Nat), pieces 32 text = x :: r ∧ r.length = n - 1 ∧ 1 ≤ n ∧ n ≤ 3000 ∧ (∀ y ∈ x :: r, y.length ≤ 3000) ∧ (∀ y ∈ r, (32 : UInt8) ∉ y) ∧
    (if n = 1 then some (⟨w.heap.size, 0, none⟩ : Addr) else some ⟨w.heap.size, 1, none⟩) = some ⟨w.heap.size, o2, none⟩ ∧
    Calls Tryd.prog 65 #[strV text, .string ⟨#[32]⟩] w fun e w' => e = .returned (.slice (some ⟨w.heap.size, 0, none⟩) n n) ∧ w'.cell? ⟨w.heap.size, 0, none⟩ = some (strV x) ∧ TxAt w' w.heap.size o2 r ∧ Below w.heap.size w w' := by
  have c0 := split_any text 32 w (by omega)
  have hsub := pieces_sub 32 text
  have hno := pieces_no 32 text
  have hlen := pieces_len 32 text
  have hcl := List.count_le_length (a := (32 : UInt8)) (l := text)
  cases hp : pieces 32 text with
  | nil => exact absurd hp (pieces_ne 32 text)
  | cons x r =>
    rw [hp] at c0 hsub hno hlen
    have hl2 : (x :: r).length = r.length + 1 := rfl
    have key : ∃ o2, (if r.length + 1 = 1 then some (⟨w.heap.size, 0, none⟩ : Addr) else some ⟨w.heap.size, 1, none⟩) = some ⟨w.heap.size, o2, none⟩ ∧ ∀ w', Texts w' w.heap.size (x :: r) → TxAt w' w.heap.size o2 r := by
      by_cases e : r.length + 1 = 1
      · have : r = [] := List.length_eq_zero_iff.1 (by omega)
        subst this
        exact ⟨0, rfl, fun w' h => ⟨h.1, fun j y hy => by simp at hy⟩⟩
      · exact ⟨1, by rw [if_neg e], fun w' h => (TxAt.of h).tail⟩
    obtain ⟨o2, h1, h2⟩ := key
    refine ⟨x, r, r.length + 1, o2, rfl, by omega, by omega, by omega, fun y hy => Nat.le_trans (hsub y hy) (by omega), fun y hy => hno y (List.mem_cons_of_mem _ hy), h1, c0.mono fun e w' h => ⟨h.1, h.2.1.2 0 x rfl, h2 w' h.2.1, h.2.2⟩⟩
theorem LineR.bool {e : TypeId} {N Q : Nat} {w w' : World} {o : Option (Pd × List Tr)} {E : Ending} (h : LineR e N Q w o E w') : ∃ b, E = .returned (.bool b) := by
  unfold LineR at h
  split at h
  · exact ⟨_, h.1⟩
  · exact ⟨_, h.1⟩
set_option maxHeartbeats 4000000 in
theorem pln0 (rd : List UInt8 → Option K) (text : List UInt8) (N Q : Nat) (p : Pd) (ts : List Tr) (v : Value) (w : World) (hS : PS w 63 N Q p ts v) (ht : text.length ≤ 2048) :
    Calls Tryd.prog 40 #[.pointer (some ⟨Q, 0, none⟩), .int .i64 1, strV text] w fun e w' => LineR 63 N Q w (lineS rd 0 (p, ts) (pieces 32 text)) e w' := by
  obtain ⟨x, r, n, o2, hp, hr, hn1, hn2, hx, hno, hif, c0⟩ := words_any text w ht
  obtain ⟨z, hz⟩ : ∃ z, z = lineS rd 0 (p, ts) (pieces 32 text) := ⟨_, rfl⟩
  rw [← hz]
  have hQl := hS.lt
  have hNn := hS.nN
  have HS : Hid (PS w 63 N Q p ts v) := hS
  by_cases hw : x = wPlan
  · subst hw
    have HZ : Hid (z = (line0 (wPlan :: r) p).map fun p => (p, ts)) := by
      unfold Hid
      rw [hz, hp]
      rfl
    have HX : Hid (∀ y ∈ r, y.length ≤ 3000) := fun y hy => hx y (List.mem_cons_of_mem _ hy)
    clear hx hno hS hz hp
    go_enter Tryd.func40, Tryd.ntmps40
    go_wp2_with (first | (go_at_call 65; (with_reducible refine c0.mono ?_); rintro e w1 ⟨rfl, cx, hW, hb1⟩))
    go_quiet (fail)
    have hb2 : Below w.heap.size w (w1.drewN nq) := Pie.below_drewN hb1 nq
    have hW2 : TxAt (w1.drewN nq) w.heap.size o2 r := hW
    generalize w1.drewN nq = w2 at *
    clear cx hW hb1 c0
    have hS2 := HS.out.below hb2
    have hne : w.heap.size ≠ Q := by omega
    have c := pplan_any r w.heap.size o2 (n - 1) N Q p ts v w2 hS2 hW2 hne (by omega) (by omega) HX.out
    rw [hr] at c
    clear hW2 hS2
    go_wp2_with (go_at_call 66; (with_reducible refine c.mono ?_); intro e w5 hN5; obtain ⟨b5, rfl⟩ : ∃ b, e = .returned (.bool b) := hN5.bool)
    go_ret
    rw [HZ.out]
    exact hN5.from (hb2.mono hNn)
  · have he : (x == [112, 108, 97, 110]) = false := by rw [beq_eq_false_iff_ne]; exact hw
    have HZ : Hid (z = none) := by
      unfold Hid
      rw [hz, hp]
      show (line0 (x :: r) p).map _ = none
      unfold line0; cases r with | nil => rfl | cons a b => dsimp only; rw [if_neg (fun q => hw q.1)]; rfl
    clear hx hno hS hz hp hw
    go_enter Tryd.func40, Tryd.ntmps40
    go_wp2_with (first | (go_at_call 65; (with_reducible refine c0.mono ?_); rintro e w1 ⟨rfl, cx, hW, hb1⟩))
    go_quiet (fail)
    have hb2 : Below w.heap.size w (w1.drewN nq) := Pie.below_drewN hb1 nq
    have hW2 : TxAt (w1.drewN nq) w.heap.size o2 r := hW
    generalize w1.drewN nq = w2 at *
    clear cx hW hb1 c0
    go_wp2
    go_ret
    rw [HZ.out]
    exact ⟨rfl, hb2.mono hNn⟩
end Pln
end Go.Proofs.YtcfncgjpbdkagabDoor
namespace Go.Proofs.YtcfncgjpbdkagabDoor
namespace Pln
open Go.RowKit Lai Civ Crn Pie
set_option maxRecDepth 8000
set_option linter.unusedSimpArgs false

/-- append onto a row of the call's own, as a step of a region; and where the new row lies -/
theorem step_own_at {P : Program} {ops : Array Oper} {o : Oper} {a : Act} {w : World} {K : Act → World → Prop} {Q : Exit → Act → World → Prop} {E : Prop}
    (hg : o.guard = none) (s x : Operand) (t : TypeId) (hop : o.op = Op.call { callee := Callee.builtin Builtin.append, args := #[s, x], argTypes := #[t, t] })
    (base : Nat) (e : TypeId) (i : TypeInfo) (z : Value) (size bytes : Nat) (h1 : P.underlying t = some (.slice e)) (h2 : P.info? e = some i) (h3 : i.zero = some z) (h4 : i.size = size) (h5 : i.bytes = bytes) (h6 : z.cells.size = size) (h7 : 0 < size)
    (v : Value) (n : Nat) (xs : List Value) (hs : a.eval s = v) (hown : w.ownsRow base e size v n xs)
    (ad : Addr) (m c : Nat) (news : List Value) (hx : a.eval x = .slice (some ad) m c) (hn : news.length = m * size) (hc : ∀ j u, news[j]? = some u → w.cell? (ad.add j) = some u) (h1c : ∀ u ∈ news, u.oneCell' = true)
    (b1 : n + m ≤ maxLen) (b2 : (n + m) * bytes ≤ 140737488355328) (hb : base ≤ w.heap.size)
    (hK : ∀ v' w', w'.ownsRow base e size v' (n + m) (xs ++ news) → w.grownBy w' v.ownBlock → (v'.ownBlock = v.ownBlock ∨ v'.ownBlock = some w.heap.size) → K (a.put o.dst v') w') :
    if Region.wanted o (yielded ops a.tmps) = true then Oper.wp P o a w K Q else E := by
  have hw : Region.wanted o (yielded ops a.tmps) = true := by simp [Region.wanted, hg]
  rw [if_pos hw]
  obtain ⟨v', w', hr, g2, g3, _, g5⟩ := run_append_own_at (P := P) w base t o.type e i z size bytes h1 h2 h3 h4 h5 h6 h7 v n xs hown ad m c news hn hc h1c b1 b2 hb
  unfold Oper.wp execOp
  simp only [hop, resolve, invoke, builtin, Sem.run_bind, Sem.run_pure, Result.andThen_ok, List.map_toArray, List.map_cons, List.map_nil, hs, hx, hr]
  exact hK v' w' g2 g3 g5
theorem info_trg : (Tryd.prog.info? 63).map (fun i => (i.zero, i.size, i.bytes)) = some (some (.agg #[.int .i64 0, .int .i64 0, .int .i64 0, .int .u64 0, .int .u64 0, .int .u64 0, .int .u64 0, .int .u64 0, .bool false, .bool false, .int .u64 0, .int .u64 0, .int .u64 0, .int .u64 0, .int .u64 0, .bool false, .bool false]), 17, 120) := by kernel_rfl
/-- the trigger that lies in its block -/
def RgT (w : World) (T : Nat) (t : Tr) : Prop := w.rangeAt T 0 [.int .i64 t.k, .int .i64 t.tg, .int .i64 t.ac, .int .u64 t.a.mi, .int .u64 t.a.ho, .int .u64 t.a.da, .int .u64 t.a.mn, .int .u64 t.a.we, .bool t.a.ad, .bool t.a.aw, .int .u64 t.b.mi, .int .u64 t.b.ho, .int .u64 t.b.da, .int .u64 t.b.mn, .int .u64 t.b.we, .bool t.b.ad, .bool t.b.aw]
theorem RgT.alloc {w : World} {T : Nat} {t : Tr} (h : RgT w T t) (o : Obj) : RgT (w.alloc o) T t := World.rangeAt_alloc h o
theorem RgT.kept {w w' : World} {T : Nat} {t : Tr} (h : RgT w T t) (hb : w'.heap[T]? = w.heap[T]?) : RgT w' T t := fun j v hv => (World.cell?_of_block (w := w) (a := ⟨T, 0 + j, none⟩) hb).trans (h j v hv)
theorem own_succT {w : World} {B n : Nat} {e : TypeId} {v : Value} {xs : List Value} (h : w.ownsRow B e 17 v (n + 1) xs) : ∃ g cap, v = .slice (some ⟨g, 0, none⟩) (n + 1) cap := by
  rcases h.2 with ⟨_, h⟩ | ⟨g3, cap3, _, h, _⟩
  · omega
  · exact ⟨g3, cap3, h⟩
theorem cell17 (w : World) (e : TypeId) (t : Tr) : ∀ (j : Nat) (u : Value), (trC t).toList[j]? = some u → (w.alloc (.cells (trC t) e)).cell? ((⟨w.heap.size, 0, none⟩ : Addr).add j) = some u := by
  intro j u h
  rw [Addr.add_mid, Nat.zero_add, World.cell?_alloc_at _ _ _ _ rfl]
  simpa using h
theorem one17 (t : Tr) : ∀ u ∈ (trC t).toList, u.oneCell' = true := by
  intro u hu
  simp at hu
  rcases hu with rfl | rfl | rfl | rfl | rfl | rfl | rfl | rfl | rfl | rfl | rfl | rfl | rfl | rfl | rfl | rfl | rfl <;> rfl
set_option maxHeartbeats 4000000 in
theorem pln4 {rd : List UInt8 → Option K} (hrd : RdOk rd) (i : Nat) (hi : 4 ≤ i) (hi2 : i ≤ 10000) (text : List UInt8) (N Q : Nat) (p : Pd) (ts : List Tr) (v : Value) (w : World) (hS : PS w 63 N Q p ts v) (hB : BdsAt w) (hM : MlAt w) (ht : text.length ≤ 2048) (hts : ts.length ≤ 10000) :
    Calls Tryd.prog 40 #[.pointer (some ⟨Q, 0, none⟩), .int .i64 ((i : Int) + 1), strV text] w fun e w' => LineR 63 N Q w (lineS rd i (p, ts) (pieces 32 text)) e w' := by
  obtain ⟨i0, hi0, hz0, hz1, hz2⟩ := info_parts info_trg
  obtain ⟨x, r, n, o2, hp, hr, hn1, hn2, hx, hno, hif, c0⟩ := words_any text w ht
  obtain ⟨z, hz⟩ : ∃ z, z = lineS rd i (p, ts) (pieces 32 text) := ⟨_, rfl⟩
  rw [← hz]
  have hQl := hS.lt
  have hNn := hS.nN
  have HS : Hid (PS w 63 N Q p ts v) := hS
  have HX : Hid (∀ y ∈ r, y.length ≤ 3000) := fun y hy => hx y (List.mem_cons_of_mem _ hy)
  have HZ : Hid (z = (trS rd x r).map fun t => (p, ts ++ [t])) := by
    unfold Hid
    rw [hz, hp]
    unfold lineS
    rw [if_neg (by omega), if_neg (by omega), if_neg (by omega), if_neg (by omega)]
    rfl
  have HNo : Hid (∀ y ∈ r, (32 : UInt8) ∉ y) := hno
  have HB : Hid (BdsAt w ∧ MlAt w) := ⟨hB, hM⟩
  have n1 : (((i : Int) + 1) == 1) = false := by rw [beq_eq_false_iff_ne]; omega
  have n2 : (((i : Int) + 1) == 2) = false := by rw [beq_eq_false_iff_ne]; omega
  have n3 : (((i : Int) + 1) == 3) = false := by rw [beq_eq_false_iff_ne]; omega
  have n4 : (((i : Int) + 1) == 4) = false := by rw [beq_eq_false_iff_ne]; omega
  clear hx hno hS hz hp hB hM hi
  go_enter Tryd.func40, Tryd.ntmps40
  go_wp2_with (first | (go_at_call 65; (with_reducible refine c0.mono ?_); rintro e w1 ⟨rfl, cx, hW, hb1⟩))
  go_quiet (fail)
  have hb2 : Below w.heap.size w (w1.drewN nq) := Pie.below_drewN hb1 nq
  have hW2 : TxAt (w1.drewN nq) w.heap.size o2 r := hW
  generalize w1.drewN nq = w2 at *
  clear cx hW hb1 c0
  have hS2 := HS.out.below hb2
  have c := ptrig_any hrd x r w.heap.size o2 (n - 1) w2 hW2 (HB.out.1.below hb2 (Nat.le_refl _)) (HB.out.2.below hb2 (Nat.le_refl _)) (by omega) (by omega) HX.out HNo.out
  rw [hr] at c
  clear hW2
  have HS2 : Hid (PS w2 63 N Q p ts v) := hS2
  clear hS2
  generalize trS rd x r = y at *
  obtain ⟨o, ho⟩ : ∃ o : Bool, o = y.isSome := ⟨_, rfl⟩
  have c' : Calls Tryd.prog 69 #[strV x, .slice (some ⟨w.heap.size, o2, none⟩) (n - 1) (n - 1)] w2 fun e w' => (∃ t, e = .returned (.tuple #[trV t, .bool o]) ∧ ∀ q, y = some q → q = t) ∧ Below w2.heap.size w2 w' := c.mono fun e w' h => by
    refine ⟨?_, h.2⟩
    subst ho
    cases y with
    | none => obtain ⟨t, ht⟩ := h.1; exact ⟨t, ht, fun q hq => by cases hq⟩
    | some q => exact ⟨q, h.1, fun q' hq => by cases hq; rfl⟩
  have HO : Hid (o = y.isSome) := ho
  clear c ho
  go_wp2_with (go_at_call 69; (with_reducible refine c'.mono ?_); rintro e w3 ⟨⟨t, rfl, hq⟩, hb3⟩)
  have hs3 := hb3.size
  have hs2 := hb2.size
  have hS3 := HS2.out.below hb3
  have hvl : ∀ g, v.ownBlock = some g → g < w3.heap.size := fun g hg => (hS3.own.lt g hg).2
  have hS4 := hS3.below (balloc (.cells (trC t) 63))
  have hb4 : Below N w (w3.alloc (.cells (trC t) 63)) := ((hb2.mono hNn).trans (hb3.mono (Nat.le_trans hNn hb2.size))).trans ((balloc _).mono (Nat.le_trans hNn (Nat.le_trans hb2.size hs3)))
  have hT4 := TS.new w3 63 t
  generalize hw4 : w3.alloc (.cells (trC t) 63) = w4 at *
  have hz4 : w4.heap.size = w3.heap.size + 1 := by rw [← hw4]; simp
  clear hw4 hS3 hz4
  have hTl := hT4.lt
  have hR0 : RgT w4 w3.heap.size t := range_tr hT4.at
  have hR4 : RgT w4.drew w3.heap.size t := hR0
  have cS : w4.cell? ⟨Q, 17, none⟩ = some v := by simpa using hS4.cel 17
  have hQ4l : Q < w4.heap.size := hS4.lt
  have hQ4n : ¬ Q = w4.heap.size := by omega
  have HS4 : Hid (PS w4 63 N Q p ts v) := hS4
  have HB4 : Hid (Below N w w4) := hb4
  have HV : Hid (∀ g, v.ownBlock = some g → g < w3.heap.size) := hvl
  have HHq : Hid (∀ q, y = some q → q = t) := hq
  clear hS4 hb4 hT4 hvl hq c' HS2 HS HX HNo HB
  refine wp_region_held_drew (S := fun w' => RgT w' w3.heap.size t) (by kernel_rfl) hR4 (fun hHeld => ?_)
  refine wpAnyH_take (i := 0) (oi := _) (v := ?_) rfl (by kernel_rfl) (by kernel_rfl) (by kernel_rfl) (fun _ _ _ h => h) (Or.inl ⟨by rfl, ?_⟩) (by assumption) ?_
  rotate_left
  · intro w' hSw
    go_simp
    all_goals with_reducible rfl
  (try simp only [Act.put, List.setIfInBounds_toArray, List.set_cons_zero, List.set_cons_succ, List.getElem_toArray, List.getElem_cons_zero, List.getElem_cons_succ])
  refine wpAnyH_take (i := 1) (oi := _) (v := ?_) rfl (by kernel_rfl) (by kernel_rfl) (by kernel_rfl) (fun _ _ _ h => h) (Or.inl ⟨by rfl, ?_⟩) (by assumption) ?_
  rotate_left
  · intro w' hSw
    go_simp
    all_goals with_reducible rfl
  (try simp only [Act.put, List.setIfInBounds_toArray, List.set_cons_zero, List.set_cons_succ, List.getElem_toArray, List.getElem_cons_zero, List.getElem_cons_succ])
  refine wpAnyH_take (i := 2) (oi := _) (v := ?_) rfl (by kernel_rfl) (by kernel_rfl) (by kernel_rfl) (fun _ _ _ h => h) (Or.inl ⟨by rfl, ?_⟩) (by assumption) ?_
  rotate_left
  · intro w' hSw
    go_simp
    all_goals with_reducible rfl
  (try simp only [Act.put, List.setIfInBounds_toArray, List.set_cons_zero, List.set_cons_succ, List.getElem_toArray, List.getElem_cons_zero, List.getElem_cons_succ])
  refine wpAnyH_take (i := 3) (oi := _) (v := ?_) rfl (by kernel_rfl) (by kernel_rfl) (by kernel_rfl) (fun _ _ _ h => h) (Or.inl ⟨by rfl, ?_⟩) (by assumption) ?_
  rotate_left
  · intro w' hSw
    go_simp
    all_goals with_reducible rfl
  (try simp only [Act.put, List.setIfInBounds_toArray, List.set_cons_zero, List.set_cons_succ, List.getElem_toArray, List.getElem_cons_zero, List.getElem_cons_succ])
  refine wpAnyH_take (i := 5) (oi := _) (v := trV t) rfl (by kernel_rfl) (by kernel_rfl) (by kernel_rfl) (fun _ _ _ h => h) (yieldsIf_load_mid (by rfl) 63 (.tmp 10) rfl w3.heap.size 0 (by with_unfolding_all rfl) [.int .i64 t.k, .int .i64 t.tg, .int .i64 t.ac, .int .u64 t.a.mi, .int .u64 t.a.ho, .int .u64 t.a.da, .int .u64 t.a.mn, .int .u64 t.a.we, .bool t.a.ad, .bool t.a.aw, .int .u64 t.b.mi, .int .u64 t.b.ho, .int .u64 t.b.da, .int .u64 t.b.mn, .int .u64 t.b.we, .bool t.b.ad, .bool t.b.aw] _ (fun w h => h) Tryd.underlying63 rfl (by kernel_rfl)) (by assumption) ?_
  (try simp only [Act.put, List.setIfInBounds_toArray, List.set_cons_zero, List.set_cons_succ, List.getElem_toArray, List.getElem_cons_zero, List.getElem_cons_succ])
  refine wpAnyH_ready (rs := [4, 6]) (by kernel_rfl) (by simp) ?_
  refine AllReadyH.cons rfl (fun K hK => ?_) (AllReadyH.cons rfl (fun K hK => ?_) AllReadyH.nil)
  · go_simp
    refine hK.out _ _ ?_ (fun hHeld => ?_)
    · exact hR4
    clear hK K
    refine wpAnyH_ready (rs := [6]) (by kernel_rfl) (by simp) ?_
    refine AllReadyH.cons rfl (fun K hK => ?_) AllReadyH.nil
    · go_simp
      refine hK.out _ _ ?_ (fun hHeld => ?_)
      · first | exact RgT.alloc hR4 _ | exact RgT.alloc hR0 _
      clear hK K
      have hS6 : PS (w4.alloc (.cells (trC t) 63)).drew 63 N Q p ts v := HS4.out.below (bad1 w4 _)
      have hown6 := hS6.own
      refine wpAnyH_ready (rs := [7]) (by kernel_rfl) (by simp) ?_
      refine AllReadyH.cons rfl (fun K hK => ?_) AllReadyH.nil
      · refine step_own_at rfl (.tmp 82) (.tmp 84) 42 rfl N 63 i0 (.agg #[.int .i64 0, .int .i64 0, .int .i64 0, .int .u64 0, .int .u64 0, .int .u64 0, .int .u64 0, .int .u64 0, .bool false, .bool false, .int .u64 0, .int .u64 0, .int .u64 0, .int .u64 0, .int .u64 0, .bool false, .bool false]) 17 120 Tryd.underlying42 hi0 hz0 hz1 hz2 rfl (by decide) v ts.length (celT ts) rfl hown6 ⟨w4.heap.size, 0, none⟩ 1 1 (trC t).toList rfl rfl (cell17 _ _ t) (one17 t) (by unfold maxLen; omega) (by omega) (by simp; omega) ?_
        intro v' w7 hown7 hgrow7 hloc7
        have hR7 : RgT w7 w3.heap.size t := RgT.kept (w := (w4.alloc (.cells (trC t) 63)).drew) (RgT.alloc hR0 _) (hgrow7.block w3.heap.size (by simp; omega) (fun e => by have := HV.out _ e.symm; omega))
        have hQ7 := hgrow7.block Q hS6.lt (fun e => hS6.ne e.symm)
        have cS7 : w7.cell? ⟨Q, 17, none⟩ = some v := (World.cell?_of_block (w := (w4.alloc (.cells (trC t) 63)).drew) (a := ⟨Q, 17, none⟩) hQ7).trans (by simpa using hS6.cel 17)
        have fS7 : w7.frozen? ⟨Q, 17, none⟩ = false := (World.frozen?_of_block (w := (w4.alloc (.cells (trC t) 63)).drew) (a := ⟨Q, 17, none⟩) hQ7).trans (hS6.fz 17)
        have hA8 := hS6.appended hgrow7 (ts' := ts ++ [t]) (by rw [List.length_append, celT_snoc]; exact hown7) hloc7
        have hBf := (HB4.out.trans ((bad1 w4 (.cells (trC t) 63)).mono HS4.out.nN)).trans (hS6.grown_below hgrow7 v')
        obtain ⟨g7, cap7, rfl⟩ := own_succT hown7
        have hQ7l : Q < w7.heap.size := by have := hA8.lt; simpa using this
        refine hK.out _ _ ?_ (fun hHeld => ?_)
        · exact hR7
        clear hK K
        refine wpAnyH_take (i := 8) (oi := _) (v := ?_) rfl (by kernel_rfl) (by kernel_rfl) (by kernel_rfl) (fun _ _ _ h => h) (Or.inl ⟨by rfl, ?_⟩) (by assumption) ?_
        rotate_left
        · intro w' hSw
          go_simp
          all_goals with_reducible rfl
        (try simp only [Act.put, List.setIfInBounds_toArray, List.set_cons_zero, List.set_cons_succ, List.getElem_toArray, List.getElem_cons_zero, List.getElem_cons_succ])
        refine wpAnyH_take (i := 9) (oi := _) (v := ?_) rfl (by kernel_rfl) (by kernel_rfl) (by kernel_rfl) (fun _ _ _ h => h) (Or.inl ⟨by rfl, ?_⟩) (by assumption) ?_
        rotate_left
        · intro w' hSw
          go_simp
          all_goals with_reducible rfl
        (try simp only [Act.put, List.setIfInBounds_toArray, List.set_cons_zero, List.set_cons_succ, List.getElem_toArray, List.getElem_cons_zero, List.getElem_cons_succ])
        refine wpAnyH_ready (rs := [10]) (by kernel_rfl) (by simp) ?_
        refine AllReadyH.cons rfl (fun K hK => ?_) AllReadyH.nil
        · go_simp
          refine hK.out _ _ ?_ (fun hHeld => ?_)
          · exact hR7.kept (Below.heap_setCell w7 ⟨Q, 17, none⟩ _ w3.heap.size (by show w3.heap.size ≠ Q; omega))
          clear hK K
          refine wpAnyH_done (by kernel_rfl) ?_ _
          go_wp2
          go_ret
          rw [HZ.out, HO.out]
          cases y with
          | none => exact ⟨rfl, hBf⟩
          | some q =>
            obtain rfl := HHq.out q rfl
            exact ⟨rfl, hBf, _, hA8⟩
  · go_simp
    refine hK.out _ _ ?_ (fun hHeld => ?_)
    · first | exact RgT.alloc hR4 _ | exact RgT.alloc hR0 _
    clear hK K
    refine wpAnyH_ready (rs := [4]) (by kernel_rfl) (by simp) ?_
    refine AllReadyH.cons rfl (fun K hK => ?_) AllReadyH.nil
    · go_simp
      refine hK.out _ _ ?_ (fun hHeld => ?_)
      · first | exact RgT.alloc hR4 _ | exact RgT.alloc hR0 _
      clear hK K
      have hS6 : PS (w4.alloc (.cells (trC t) 63)).drew 63 N Q p ts v := HS4.out.below (bad1 w4 _)
      have hown6 := hS6.own
      refine wpAnyH_ready (rs := [7]) (by kernel_rfl) (by simp) ?_
      refine AllReadyH.cons rfl (fun K hK => ?_) AllReadyH.nil
      · refine step_own_at rfl (.tmp 82) (.tmp 84) 42 rfl N 63 i0 (.agg #[.int .i64 0, .int .i64 0, .int .i64 0, .int .u64 0, .int .u64 0, .int .u64 0, .int .u64 0, .int .u64 0, .bool false, .bool false, .int .u64 0, .int .u64 0, .int .u64 0, .int .u64 0, .int .u64 0, .bool false, .bool false]) 17 120 Tryd.underlying42 hi0 hz0 hz1 hz2 rfl (by decide) v ts.length (celT ts) rfl hown6 ⟨w4.heap.size, 0, none⟩ 1 1 (trC t).toList rfl rfl (cell17 _ _ t) (one17 t) (by unfold maxLen; omega) (by omega) (by simp; omega) ?_
        intro v' w7 hown7 hgrow7 hloc7
        have hR7 : RgT w7 w3.heap.size t := RgT.kept (w := (w4.alloc (.cells (trC t) 63)).drew) (RgT.alloc hR0 _) (hgrow7.block w3.heap.size (by simp; omega) (fun e => by have := HV.out _ e.symm; omega))
        have hQ7 := hgrow7.block Q hS6.lt (fun e => hS6.ne e.symm)
        have cS7 : w7.cell? ⟨Q, 17, none⟩ = some v := (World.cell?_of_block (w := (w4.alloc (.cells (trC t) 63)).drew) (a := ⟨Q, 17, none⟩) hQ7).trans (by simpa using hS6.cel 17)
        have fS7 : w7.frozen? ⟨Q, 17, none⟩ = false := (World.frozen?_of_block (w := (w4.alloc (.cells (trC t) 63)).drew) (a := ⟨Q, 17, none⟩) hQ7).trans (hS6.fz 17)
        have hA8 := hS6.appended hgrow7 (ts' := ts ++ [t]) (by rw [List.length_append, celT_snoc]; exact hown7) hloc7
        have hBf := (HB4.out.trans ((bad1 w4 (.cells (trC t) 63)).mono HS4.out.nN)).trans (hS6.grown_below hgrow7 v')
        obtain ⟨g7, cap7, rfl⟩ := own_succT hown7
        have hQ7l : Q < w7.heap.size := by have := hA8.lt; simpa using this
        refine hK.out _ _ ?_ (fun hHeld => ?_)
        · exact hR7
        clear hK K
        refine wpAnyH_take (i := 8) (oi := _) (v := ?_) rfl (by kernel_rfl) (by kernel_rfl) (by kernel_rfl) (fun _ _ _ h => h) (Or.inl ⟨by rfl, ?_⟩) (by assumption) ?_
        rotate_left
        · intro w' hSw
          go_simp
          all_goals with_reducible rfl
        (try simp only [Act.put, List.setIfInBounds_toArray, List.set_cons_zero, List.set_cons_succ, List.getElem_toArray, List.getElem_cons_zero, List.getElem_cons_succ])
        refine wpAnyH_take (i := 9) (oi := _) (v := ?_) rfl (by kernel_rfl) (by kernel_rfl) (by kernel_rfl) (fun _ _ _ h => h) (Or.inl ⟨by rfl, ?_⟩) (by assumption) ?_
        rotate_left
        · intro w' hSw
          go_simp
          all_goals with_reducible rfl
        (try simp only [Act.put, List.setIfInBounds_toArray, List.set_cons_zero, List.set_cons_succ, List.getElem_toArray, List.getElem_cons_zero, List.getElem_cons_succ])
        refine wpAnyH_ready (rs := [10]) (by kernel_rfl) (by simp) ?_
        refine AllReadyH.cons rfl (fun K hK => ?_) AllReadyH.nil
        · go_simp
          refine hK.out _ _ ?_ (fun hHeld => ?_)
          · exact hR7.kept (Below.heap_setCell w7 ⟨Q, 17, none⟩ _ w3.heap.size (by show w3.heap.size ≠ Q; omega))
          clear hK K
          refine wpAnyH_done (by kernel_rfl) ?_ _
          go_wp2
          go_ret
          rw [HZ.out, HO.out]
          cases y with
          | none => exact ⟨rfl, hBf⟩
          | some q =>
            obtain rfl := HHq.out q rfl
            exact ⟨rfl, hBf, _, hA8⟩
end Pln
end Go.Proofs.YtcfncgjpbdkagabDoor
