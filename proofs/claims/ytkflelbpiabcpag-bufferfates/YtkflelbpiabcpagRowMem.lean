
/- Rows of memory that a call owns, from whatever place of their block on: cut ahead, cut behind, appended to. -/
import Derived.WalkKit
import Derived.Below
import Derived.Laws.AppendOwn
import Derived.Deep.RegionLaw
import Derived.Tactics
namespace Go.Proofs.Ytkflelbpiabcpag
namespace Rw
open Go.RowKit

section plain
variable {α : Type} {c : α → List Value} {s : Nat}
/-- a list as cells -/
def cels (c : α → List Value) : List α → List Value
  | [] => []
  | m :: L => c m ++ cels c L
theorem cels_append (A B : List α) : cels c (A ++ B) = cels c A ++ cels c B := by
  induction A with
  | nil => rfl
  | cons m A ih => simp [cels, ih]
theorem cels_len (hs : ∀ m, (c m).length = s) (L : List α) : (cels c L).length = L.length * s := by
  induction L with
  | nil => simp [cels]
  | cons m L ih => simp [cels, ih, hs, Nat.add_mul]; omega
theorem cels_drop (hs : ∀ m, (c m).length = s) (L : List α) (k : Nat) : cels c (L.drop k) = (cels c L).drop (k * s) := by
  induction k generalizing L with
  | zero => simp
  | succ k ih =>
    cases L with
    | nil => simp [cels]
    | cons m L => simp only [cels, List.drop_succ_cons, ih, Nat.succ_mul]; rw [show k * s + s = (c m).length + k * s by rw [hs]; omega, List.drop_append]; simp
theorem cels_take (hs : ∀ m, (c m).length = s) (L : List α) (k : Nat) : cels c (L.take k) = (cels c L).take (k * s) := by
  induction k generalizing L with
  | zero => simp [cels]
  | succ k ih =>
    cases L with
    | nil => simp [cels]
    | cons m L => simp only [cels, List.take_succ_cons, ih, Nat.succ_mul]; rw [show k * s + s = (c m).length + k * s by rw [hs]; omega, List.take_append, List.take_of_length_le (l := c m) (by omega)]; simp
theorem cels_get (hs : ∀ m, (c m).length = s) (L : List α) (i j : Nat) (m : α) (hm : L[i]? = some m) (hj : j < s) : (cels c L)[i * s + j]? = (c m)[j]? := by
  have h : L.drop i = m :: L.drop (i + 1) := by
    obtain ⟨hl, he⟩ := List.getElem?_eq_some_iff.1 hm
    rw [← he]; exact List.drop_eq_getElem_cons hl
  have := cels_drop hs L i
  rw [h] at this
  rw [← List.getElem?_drop, ← this]
  simp only [cels]
  rw [List.getElem?_append_left (by rw [hs]; exact hj)]
end plain

/-- a row of n elements, s cells each, that holds xs; its block is the call's own -/
def Own (w : World) (B : Nat) (e : TypeId) (s : Nat) (v : Value) (n : Nat) (xs : List Value) : Prop :=
  xs.length = n * s ∧
  ((v = .slice none 0 0 ∧ n = 0) ∨
   ∃ g off cap cur, v = .slice (some ⟨g, off, none⟩) n cap ∧ B ≤ g ∧ w.heap[g]? = some (.cells cur e (0, 0)) ∧ n ≤ cap ∧ cap ≤ maxLen ∧ off + cap * s ≤ cur.size ∧ ∀ j, j < n * s → cur[off + j]? = xs[j]?)

section
variable {w w' : World} {B : Nat} {e : TypeId} {s : Nat} {v : Value} {n : Nat} {xs : List Value}
theorem Own.nil (w : World) (B : Nat) (e : TypeId) (s : Nat) : Own w B e s (.slice none 0 0) 0 [] := ⟨by simp, .inl ⟨rfl, rfl⟩⟩
theorem Own.lt (h : Own w B e s v n xs) : ∀ k, v.ownBlock = some k → B ≤ k ∧ k < w.heap.size := by
  intro k hk
  rcases h.2 with ⟨rfl, _⟩ | ⟨g, off, cap, cur, rfl, hb, hg, _⟩
  · simp [Value.ownBlock] at hk
  · simp [Value.ownBlock] at hk
    subst hk
    exact ⟨hb, (Array.getElem?_eq_some_iff.1 hg).1⟩
theorem Own.kept (h : Own w B e s v n xs) (hb : ∀ g, v.ownBlock = some g → w'.heap[g]? = w.heap[g]?) : Own w' B e s v n xs := by
  refine ⟨h.1, ?_⟩
  rcases h.2 with a | ⟨g, off, cap, cur, rfl, h1, h2, h3⟩
  · exact Or.inl a
  · exact Or.inr ⟨g, off, cap, cur, rfl, h1, (hb g rfl).trans h2, h3⟩
theorem Own.drew (h : Own w B e s v n xs) : Own w.drew B e s v n xs := h.kept (fun _ _ => rfl)
theorem Own.alloc (h : Own w B e s v n xs) (o : Obj) : Own (w.alloc o) B e s v n xs := h.kept (fun g hg => Below.heap_alloc w o g (h.lt g hg).2)
theorem Own.below (h : Own w B e s v n xs) (hb : Below w.heap.size w w') : Own w' B e s v n xs := h.kept (fun g hg => hb.block g (h.lt g hg).2)
theorem Own.grown {r : Option Nat} (h : Own w B e s v n xs) (hb : w.grownBy w' r) (hne : v.ownBlock = none ∨ v.ownBlock ≠ r) : Own w' B e s v n xs := by
  refine h.kept (fun g hg => hb.block g (h.lt g hg).2 (fun e => ?_))
  rcases hne with a | a
  · rw [a] at hg; cases hg
  · exact a (hg.trans e)
/-- its shape -/
theorem Own.form (h : Own w B e s v n xs) : ∃ ao cap, v = .slice ao n cap ∧ n ≤ cap ∧ cap ≤ maxLen ∧ (0 < n → ∃ g off, ao = some ⟨g, off, none⟩) ∧ (ao = none → cap = 0) ∧ (∀ a, ao = some a → ∃ g off, a = ⟨g, off, none⟩) := by
  rcases h.2 with ⟨a, b⟩ | ⟨g, off, cap, cur, a, _, _, b, c, _⟩
  · exact ⟨none, 0, by rw [a, b], by omega, by unfold maxLen; omega, fun h => absurd h (by omega), fun _ => rfl, fun _ h => by cases h⟩
  · exact ⟨some ⟨g, off, none⟩, cap, a, b, c, fun _ => ⟨g, off, rfl⟩, fun h => (by cases h), fun _ h => by cases h; exact ⟨g, off, rfl⟩⟩
/-- its cells -/
theorem Own.cell {g off cap : Nat} (h : Own w B e s (.slice (some ⟨g, off, none⟩) n cap) n xs) (j : Nat) (hj : j < n * s) : w.cell? ⟨g, off + j, none⟩ = xs[j]? ∧ w.frozen? ⟨g, off + j, none⟩ = false ∧ g < w.heap.size := by
  rcases h.2 with ⟨a, b⟩ | ⟨g', off', cap', cur, a, _, hg, b, c, d, f⟩
  · cases a
  · cases a
    refine ⟨?_, ?_, (Array.getElem?_eq_some_iff.1 hg).1⟩
    · rw [cell_of_row w g (off + j) cur e (0, 0) hg]; exact f j hj
    · simp [World.frozen?, hg]
/-- cut behind -/
theorem Own.front {ao : Option Addr} {cap : Nat} (h : Own w B e s (.slice ao n cap) n xs) (k : Nat) (hk : k ≤ n) : Own w B e s (.slice ao k cap) k (xs.take (k * s)) := by
  have hks : k * s ≤ n * s := Nat.mul_le_mul_right _ hk
  refine ⟨by rw [List.length_take, h.1]; omega, ?_⟩
  rcases h.2 with ⟨a, b⟩ | ⟨g, off, cap', cur, a, h1, h2, h3, h4, h5, h6⟩
  · cases a; exact Or.inl ⟨by rw [show k = 0 by omega], by omega⟩
  · cases a
    refine Or.inr ⟨g, off, cap, cur, rfl, h1, h2, by omega, h4, h5, fun j hj => ?_⟩
    rw [List.getElem?_take_of_lt hj]; exact h6 j (by omega)
/-- cut ahead -/
theorem Own.rest {g off cap off' : Nat} (h : Own w B e s (.slice (some ⟨g, off, none⟩) n cap) n xs) (k : Nat) (hk : k ≤ n) (ho : off' = off + k * s ∨ (cap = k ∧ off' = off)) : Own w B e s (.slice (some ⟨g, off', none⟩) (n - k) (cap - k)) (n - k) (xs.drop (k * s)) := by
  have hks : k * s ≤ n * s := Nat.mul_le_mul_right _ hk
  refine ⟨by rw [List.length_drop, h.1, Nat.sub_mul], ?_⟩
  rcases h.2 with ⟨a, b⟩ | ⟨g', off'', cap', cur, a, h1, h2, h3, h4, h5, h6⟩
  · cases a
  · cases a
    have hkc : k * s ≤ cap * s := Nat.mul_le_mul_right _ (by omega)
    refine Or.inr ⟨g, off', cap - k, cur, rfl, h1, h2, by omega, by omega, ?_, fun j hj => ?_⟩
    · rw [Nat.sub_mul]; rcases ho with e | ⟨rfl, e⟩ <;> omega
    · rw [Nat.sub_mul] at hj
      rcases ho with e | ⟨e1, e2⟩
      · rw [List.getElem?_drop, e, show off + k * s + j = off + (k * s + j) by omega]; exact h6 _ (by omega)
      · exfalso
        have : n = k := by omega
        subst this; omega
/-- a cell of it is told anew -/
theorem Own.stored {g off cap : Nat} (h : Own w B e s (.slice (some ⟨g, off, none⟩) n cap) n xs) (j : Nat) (u : Value) (hj : j < n * s) : Own (w.setCell ⟨g, off + j, none⟩ u) B e s (.slice (some ⟨g, off, none⟩) n cap) n (xs.set j u) := by
  refine ⟨by rw [List.length_set]; exact h.1, ?_⟩
  rcases h.2 with ⟨a, b⟩ | ⟨g', off', cap', cur, a, h1, h2, h3, h4, h5, h6⟩
  · cases a
  · cases a
    have hns : n * s ≤ cap * s := Nat.mul_le_mul_right _ h3
    refine Or.inr ⟨g, off, cap, cur.setIfInBounds (off + j) u, rfl, h1, ?_, h3, h4, by simpa using h5, fun i hi => ?_⟩
    · have hlt : g < w.heap.size := (Array.getElem?_eq_some_iff.1 h2).1
      have hv : w.heap[g] = .cells cur e (0, 0) := (Array.getElem?_eq_some_iff.1 h2).2
      simp only [World.setCell]
      rw [Array.getElem?_eq_getElem (by simpa using hlt), Array.getElem_modify]
      simp [hv]
    · rw [Array.getElem?_setIfInBounds, List.getElem?_set]
      by_cases e : j = i
      · subst e
        have h7 : off + j < cur.size := by omega
        have h8 : j < xs.length := by rw [h.1]; exact hj
        simp [h7, h8]
      · rw [if_neg (by omega), if_neg e]; exact h6 i hi
end

section
variable {P : Program} (w : World)
theorem run_append_mid (t ty e : TypeId) (i : TypeInfo) (ht : P.underlying t = some (.slice e)) (hi : P.info? e = some i)
    (g off sLen sCap : Nat) (cur : Array Value) (hg : w.heap[g]? = some (.cells cur e (0, 0)))
    (a : Addr) (m c : Nat) (news : List Value) (hl : news.length = m * i.size) (hnews : ∀ j u, news[j]? = some u → w.cell? (a.add j) = some u) (h1 : ∀ u ∈ news, u.oneCell' = true)
    (hroom : sLen + m ≤ sCap) (hfit : off + sLen * i.size + news.length ≤ cur.size) :
    (Builtin.append_ #[t, t] ty #[.slice (some ⟨g, off, none⟩) sLen sCap, .slice (some a) m c]).run P w =
      .ok (.slice (some ⟨g, off, none⟩) (sLen + m) sCap) (w.setRow g (cur.toList.take (off + sLen * i.size) ++ news ++ cur.toList.drop (off + sLen * i.size + news.length)).toArray) := by
  have hf := run_firstCells_some (P := P) w i.size m a m c news hl hnews
  have hst := run_storeCells_at P g (off + sLen * i.size) e news 0 cur w hg (by simpa using hfit) h1
  simp only [Nat.add_zero] at hst
  have hadd : (⟨g, off, none⟩ : Addr).add (sLen * i.size) = ⟨g, off + sLen * i.size, none⟩ := by unfold Addr.add; split <;> simp_all
  simp [Builtin.append_, run_underlying ht, sizeOf, typeInfo, hi, Builtin.lenOf, hroom, hf, hadd, hst]

theorem run_append_at (B : Nat) (t ty e : TypeId) (i : TypeInfo) (z : Value) (size bytes : Nat) (ht : P.underlying t = some (.slice e)) (hi : P.info? e = some i) (hz : i.zero = some z)
    (hsize : i.size = size) (hby : i.bytes = bytes) (hzs : z.cells.size = size)
    (v : Value) (n : Nat) (xs : List Value) (hown : Own w B e size v n xs)
    (a : Addr) (m c : Nat) (news : List Value) (hl : news.length = m * size) (hnews : ∀ j u, news[j]? = some u → w.cell? (a.add j) = some u) (h1 : ∀ u ∈ news, u.oneCell' = true)
    (hm : 0 < m) (h63 : n + m ≤ maxLen) (hbytes : (n + m) * bytes ≤ 140737488355328) (hbase : B ≤ w.heap.size) :
    ∃ v' w', (Builtin.append_ #[t, t] ty #[v, .slice (some a) m c]).run P w = .ok v' w' ∧ Own w' B e size v' (n + m) (xs ++ news) ∧ w.grownBy w' v.ownBlock ∧
      (v'.ownBlock = v.ownBlock ∨ v'.ownBlock = some w.heap.size) := by
  subst hsize
  subst hby
  have hsmall : n + m ≤ 9223372036854775807 := by simp only [maxLen] at h63; omega
  have hlen : (xs ++ news).length = (n + m) * i.size := by rw [List.length_append, hown.1, hl, Nat.add_mul]
  have grown : ∀ (old : Nat), ∀ (row : Option Nat),
      Own (w.drew.alloc (.cells (xs.toArray ++ news.toArray ++ Builtin.zeroCells z.cells (grownCap w (n + m) old e - (n + m))) e)) B e i.size
        (.slice (some ⟨w.heap.size, 0, none⟩) (n + m) (grownCap w (n + m) old e)) (n + m) (xs ++ news) ∧
      w.grownBy (w.drew.alloc (.cells (xs.toArray ++ news.toArray ++ Builtin.zeroCells z.cells (grownCap w (n + m) old e - (n + m))) e)) row := by
    intro old row
    have hge := grownCap_ge w (n + m) old e
    have hcm : grownCap w (n + m) old e ≤ maxLen := grownCap_le_maxLen w (n + m) old e h63
    refine ⟨⟨hlen, .inr ⟨w.heap.size, 0, _, _, rfl, hbase, heap_alloc_new w.drew _, hge, hcm, ?_, fun j hj => ?_⟩⟩, ⟨rfl, rfl, rfl, by simp, fun k hk _ => Below.heap_alloc w.drew _ k hk⟩⟩
    · simp only [Array.size_append, List.size_toArray, size_zeroCells, hzs, hown.1, hl, ← Nat.add_mul]
      rw [show n + m + (grownCap w (n + m) old e - (n + m)) = grownCap w (n + m) old e by omega]; omega
    · rw [Nat.zero_add, Array.getElem?_append_left (by simp only [Array.size_append, List.size_toArray]; rw [← List.length_append, hlen]; exact hj)]
      simp
  rcases hown.2 with ⟨rfl, rfl⟩ | ⟨g, off, cap, cur, rfl, hbg, hg, hnc, hcm, hcs, hcur⟩
  · have hx : xs = [] := List.eq_nil_of_length_eq_zero (by simpa using hown.1)
    subst hx
    have hr := run_append_nil (P := P) w t ty e i z ht hi hz a m c news hl hnews (by omega) (by omega) (by have hb := hbytes; simp only [Nat.zero_add] at hb; omega)
    have hgr := grown 0 (Value.ownBlock (.slice none 0 0))
    simp only [Nat.zero_add, List.nil_append, Array.empty_append] at hgr ⊢
    exact ⟨_, _, hr, hgr.1, hgr.2, Or.inr rfl⟩
  · by_cases hroom : n + m ≤ cap
    · have hms : (n + m) * i.size ≤ cap * i.size := Nat.mul_le_mul_right _ hroom
      rw [Nat.add_mul] at hms
      have hfit : off + n * i.size + news.length ≤ cur.size := by rw [hl]; omega
      have hr := run_append_mid (P := P) w t ty e i ht hi g off n cap cur hg a m c news hl hnews h1 hroom hfit
      refine ⟨_, _, hr, ⟨hlen, .inr ⟨g, off, cap, _, rfl, hbg, setRow_heap w g cur _ e _ hg, hroom, hcm, ?_, fun j hj => ?_⟩⟩, ⟨rfl, rfl, rfl, by simp, fun k _ hk => setRow_other w g k _ (fun e => hk (by simp [Value.ownBlock, e]))⟩, Or.inl rfl⟩
      · simp only [List.size_toArray, List.length_append, List.length_take, List.length_drop, Array.length_toList]
        omega
      · rw [Nat.add_mul] at hj
        simp only [List.getElem?_toArray, List.append_assoc]
        have hlt : (cur.toList.take (off + n * i.size)).length = off + n * i.size := by simp; omega
        by_cases hjn : j < n * i.size
        · rw [List.getElem?_append_left (by rw [hlt]; omega), List.getElem?_append_left (by rw [hown.1]; exact hjn), List.getElem?_take_of_lt (by omega), ← hcur j hjn]
          simp
        · rw [List.getElem?_append_right (l₁ := xs) (by rw [hown.1]; omega), hown.1, List.getElem?_append_right (l₁ := cur.toList.take (off + n * i.size)) (by rw [hlt]; omega), hlt, List.getElem?_append_left (by omega), show off + j - (off + n * i.size) = j - n * i.size by omega]
    · have holds : ∀ j u, xs[j]? = some u → w.cell? ((⟨g, off, none⟩ : Addr).add j) = some u := by
        intro j u hu
        have hj : j < n * i.size := by rw [← hown.1]; exact (List.getElem?_eq_some_iff.1 hu).1
        have hadd : (⟨g, off, none⟩ : Addr).add j = ⟨g, off + j, none⟩ := by unfold Addr.add; split <;> simp_all
        rw [hadd, cell_of_row w g (off + j) cur e (0, 0) hg, hcur j hj, hu]
      have hr := run_append_grow (P := P) w t ty e i z ht hi hz ⟨g, off, none⟩ n cap xs hown.1 holds a m c news hl hnews (by omega) (by omega) (growslice_fits (by omega) hbytes)
      have hgr := grown cap (Value.ownBlock (.slice (some ⟨g, off, none⟩) n cap))
      exact ⟨_, _, hr, hgr.1, hgr.2, Or.inr rfl⟩
end

/-- append onto a row, as a step of a region -/
theorem step_at {P : Program} {ops : Array Oper} {o : Oper} {a : Act} {w : World} {K : Act → World → Prop} {Q : Exit → Act → World → Prop} {E : Prop}
    (hg : o.guard = none) (s x : Operand) (t : TypeId) (hop : o.op = Op.call { callee := Callee.builtin Builtin.append, args := #[s, x], argTypes := #[t, t] })
    (B : Nat) (e : TypeId) (i : TypeInfo) (z : Value) (size bytes : Nat) (h1 : P.underlying t = some (.slice e)) (h2 : P.info? e = some i) (h3 : i.zero = some z) (h4 : i.size = size) (h5 : i.bytes = bytes) (h6 : z.cells.size = size)
    (v : Value) (n : Nat) (xs : List Value) (hs : a.eval s = v) (hown : Own w B e size v n xs)
    (ad : Addr) (m c : Nat) (news : List Value) (hx : a.eval x = .slice (some ad) m c) (hn : news.length = m * size) (hc : ∀ j u, news[j]? = some u → w.cell? (ad.add j) = some u) (h1c : ∀ u ∈ news, u.oneCell' = true)
    (hm : 0 < m) (b1 : n + m ≤ maxLen) (b2 : (n + m) * bytes ≤ 140737488355328) (hb : B ≤ w.heap.size)
    (hK : ∀ v' w', Own w' B e size v' (n + m) (xs ++ news) → w.grownBy w' v.ownBlock → (v'.ownBlock = v.ownBlock ∨ v'.ownBlock = some w.heap.size) → K (a.put o.dst v') w') :
    if Region.wanted o (yielded ops a.tmps) = true then Oper.wp P o a w K Q else E := by
  have hw : Region.wanted o (yielded ops a.tmps) = true := by simp [Region.wanted, hg]
  rw [if_pos hw]
  obtain ⟨v', w', hr, g2, g3, g5⟩ := run_append_at (P := P) w B t o.type e i z size bytes h1 h2 h3 h4 h5 h6 v n xs hown ad m c news hn hc h1c hm b1 b2 hb
  unfold Oper.wp execOp
  simp only [hop, resolve, invoke, builtin, Sem.run_bind, Sem.run_pure, Result.andThen_ok, List.map_toArray, List.map_cons, List.map_nil, hs, hx, hr]
  exact hK v' w' g2 g3 g5
/-- append onto a row, at the operation -/
theorem wpList_at {P : Program} {ops : Array Oper} {rest : List Oper} {o : Oper} {a : Act} {w : World} {Q : Exit → Act → World → Prop} (hgd : o.guard = none) (s x : Operand) (t : TypeId)
    (ho : o.op = .call { callee := .builtin .append, args := #[s, x], argTypes := #[t, t] })
    (B : Nat) (e : TypeId) (i : TypeInfo) (z : Value) (size bytes : Nat) (h1 : P.underlying t = some (.slice e)) (h2 : P.info? e = some i) (h3 : i.zero = some z) (h4 : i.size = size) (h5 : i.bytes = bytes) (h6 : z.cells.size = size)
    (v : Value) (n : Nat) (xs : List Value) (hs : a.eval s = v) (hown : Own w B e size v n xs)
    (ad : Addr) (m c : Nat) (news : List Value) (hx : a.eval x = .slice (some ad) m c) (hn : news.length = m * size) (hc : ∀ j u, news[j]? = some u → w.cell? (ad.add j) = some u) (h1c : ∀ u ∈ news, u.oneCell' = true)
    (hm : 0 < m) (b1 : n + m ≤ maxLen) (b2 : (n + m) * bytes ≤ 140737488355328) (hb : B ≤ w.heap.size)
    (h : ∀ v' w', Own w' B e size v' (n + m) (xs ++ news) → w.grownBy w' v.ownBlock → (v'.ownBlock = v.ownBlock ∨ v'.ownBlock = some w.heap.size) → wpList P ops Q rest (a.put o.dst v') w') : wpList P ops Q (o :: rest) a w := by
  refine wpList_plain hgd fun K hK => ?_
  obtain ⟨v', w', hr, g2, g3, g5⟩ := run_append_at (P := P) w B t o.type e i z size bytes h1 h2 h3 h4 h5 h6 v n xs hown ad m c news hn hc h1c hm b1 b2 hb
  unfold Oper.wp execOp
  simp only [ho, resolve, invoke, builtin, Sem.run_bind, Sem.run_pure, Result.andThen_ok, List.map_toArray, List.map_cons, List.map_nil, hs, hx, hr]
  exact hK _ _ (h v' w' g2 g3 g5)
end Rw
end Go.Proofs.Ytkflelbpiabcpag
