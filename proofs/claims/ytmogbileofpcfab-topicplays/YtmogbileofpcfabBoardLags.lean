/- What the document's board (tideref) answers: Lags. -/
import Derived.Test.YtmogbileofpcfabBoardWalks
namespace Go.Proofs.Ytmogbileofpcfab
namespace Top
open Go.RowKit
set_option maxRecDepth 8000

theorem step_own {P : Program} {ops : Array Oper} {o : Oper} {a : Act} {w : World} {K : Act → World → Prop} {Q : Exit → Act → World → Prop} {E : Prop}
    (hg : o.guard = none) (s x : Operand) (t : TypeId) (hop : o.op = Op.call { callee := Callee.builtin Builtin.append, args := #[s, x], argTypes := #[t, t] })
    (base : Nat) (e : TypeId) (i : TypeInfo) (z : Value) (size bytes : Nat) (h1 : P.underlying t = some (.slice e)) (h2 : P.info? e = some i) (h3 : i.zero = some z) (h4 : i.size = size) (h5 : i.bytes = bytes) (h6 : z.cells.size = size) (h7 : 0 < size)
    (v : Value) (n : Nat) (xs : List Value) (hs : a.eval s = v) (hown : w.ownsRow base e size v n xs)
    (ad : Addr) (m c : Nat) (news : List Value) (hx : a.eval x = .slice (some ad) m c) (hn : news.length = m * size) (hc : ∀ j u, news[j]? = some u → w.cell? (ad.add j) = some u) (h1c : ∀ u ∈ news, u.oneCell' = true)
    (b1 : n + m ≤ maxLen) (b2 : (n + m) * bytes ≤ 140737488355328) (hb : base ≤ w.heap.size)
    (hK : ∀ v' w', w'.ownsRow base e size v' (n + m) (xs ++ news) → w.grownBy w' v.ownBlock → (v' = .slice none 0 0 ↔ v = .slice none 0 0 ∧ m = 0) → K (a.put o.dst v') w') :
    if Region.wanted o (yielded ops a.tmps) = true then Oper.wp P o a w K Q else E := by
  have hw : Region.wanted o (yielded ops a.tmps) = true := by simp [Region.wanted, hg]
  rw [if_pos hw]
  exact wp_append_own w s x t hop base e i z size bytes h1 h2 h3 h4 h5 h6 h7 v n xs hs hown ad m c news hx hn hc h1c b1 b2 hb hK

theorem cell_one (w : World) (e : TypeId) (v : Value) : ∀ (j : Nat) (u : Value), [v][j]? = some u → (w.alloc (.cells #[v] e)).cell? ((⟨w.heap.size, 0, none⟩ : Addr).add j) = some u := by
  intro j u h
  match j, h with
  | 0, h => simp at h; subst h; simp [Addr.add]
  | j + 1, h => simp at h

def lagsL (E O : Nat → Int) (k : Nat) : List Value := (List.range k).map fun j => .int .i64 (E j - O j)
theorem lagsL_step (E O : Nat → Int) (k : Nat) : lagsL E O k ++ [.int .i64 (E k - O k)] = lagsL E O (k + 1) := by
  unfold lagsL; rw [List.range_succ, List.map_append]; rfl
def BLagR (E O : Nat → Int) (n : Nat) (w : World) (v i : Value) (wr : World) : Prop := ∃ (k : Nat) (ao : Option Addr) (cv : Nat), k ≤ n ∧ i = .int .i64 k ∧ v = .slice ao k cv ∧ wr.ownsRow w.heap.size 3 1 v k (lagsL E O k) ∧ Below w.heap.size w wr

set_option maxHeartbeats 8000000 in
theorem bLags (B P Q n : Nat) (E O : Nat → Int) (w : World) (hA : BoardAt w B P Q n E O) (h1 : 1 ≤ n) (hn : n ≤ 20) (hbd : ∀ i, i < n → 0 ≤ O i ∧ O i ≤ E i ∧ E i ≤ 100000000) :
    Calls Try.prog 12 #[.pointer (some ⟨B, 0, none⟩)] w fun e w' => ∃ L c, e = .returned (.slice (some ⟨L, 0, none⟩) n c) ∧ w.heap.size ≤ L ∧ Row1 w' L n (dif E O) ∧ Below w.heap.size w w' := by
  obtain ⟨i0, hi, hz0, hz1, hz2⟩ := info_parts info_int
  obtain ⟨hBP, hBQ, hPQ, hBl, c0, c1, hP, hQ⟩ := hA
  go_enter Try.func12, Try.ntmps12
  go_wp2
  go_loopw [3, 4] (fun v i wr => BLagR E O n w v i wr) (fun _ i _ => n - (intOf i).toNat)
  case atStart => exact ⟨0, none, 0, by omega, rfl, rfl, World.ownsRow_nil _ _ _ _, Below.refl _ _⟩
  case round =>
    obtain ⟨k, ao, cv, hk, rfl, rfl, hown, hbw⟩ := hrel
    have d0 : wr.cell? ⟨B, 0, none⟩ = some (.slice (some ⟨P, 0, none⟩) n n) := (hbw.cell hBl).trans c0
    have d1 : wr.cell? ⟨B, 1, none⟩ = some (.slice (some ⟨Q, 0, none⟩) n n) := (hbw.cell hBl).trans c1
    have hsz := hbw.size
    by_cases hlt : k < n
    · have hlt' : (k : Int) < n := by omega
      have bk := hbd k hlt
      have e0 := (hP.below hbw hP.lt).2.1 k hlt
      have e1 := (hQ.below hbw hQ.lt).2.1 k hlt
      have hwr : IntKind.i64.wrap (E k - O k) = E k - O k := by rw [IntKind.wrap_i64]; omega
      go_wp2_with fail
      go_region_law (refine step_own rfl (.tmp 14) (.tmp 30) 29 rfl w.heap.size 3 i0 (.int .i64 0) 1 8 Try.underlying29 hi hz0 hz1 hz2 rfl (by decide) _ k (lagsL E O k) rfl ((hown.drew).alloc _) ⟨wr.heap.size, 0, none⟩ 1 1 [.int .i64 (E k - O k)] rfl rfl (cell_one _ _ _) (fun u hu => by simp at hu; subst hu; rfl) (by unfold maxLen; omega) (by omega) (by simp; omega) ?_; intro v' w3 hown3 hgrow3 hnil3)
      all_goals
        have hB3 : Below w.heap.size w w3 := ((hbw.drew).alloc hsz _).grown hgrow3 (by simp; omega) (fun q hq => (hown.lt q hq).1)
        obtain ⟨g3, cap3, hv3⟩ : ∃ g3 cap3, v' = .slice (some ⟨g3, 0, none⟩) (k + 1) cap3 := by
          rcases hown3.2 with ⟨_, h⟩ | ⟨g3, cap3, _, h, _⟩
          · omega
          · exact ⟨g3, cap3, h⟩
        subst hv3
        rw [lagsL_step] at hown3
        go_wp2
        go_roundw
        case rel => exact ⟨k + 1, some ⟨g3, 0, none⟩, cap3, by omega, rfl, rfl, hown3, hB3⟩
        case measure => simp [intOf]; omega
    · obtain rfl : k = n := by omega
      go_wp2
      go_ret
      obtain ⟨g3, cap3, hv3⟩ : ∃ g3 cap3, Value.slice ao k cv = .slice (some ⟨g3, 0, none⟩) k cap3 := by
        rcases hown.2 with ⟨_, h⟩ | ⟨g3, cap3, _, h, _⟩
        · omega
        · exact ⟨g3, cap3, h⟩
      cases hv3
      exact ⟨g3, cv, rfl, (hown.lt g3 rfl).1, Row1.of_owns hown (fun i hi => by simp [lagsL, dif, hi]), hbw⟩
end Top
end Go.Proofs.Ytmogbileofpcfab
