
/- What the document's buffer (tideref.Hall) answers: Ask, Done, Next. -/
import Derived.Test.YtkflelbpiabcpacHallWalks
namespace Go.Proofs.Ytkflelbpiabcpac
namespace Buf
open Go.RowKit Rw Rec
set_option maxRecDepth 8000

theorem cell_five (w : World) (e : TypeId) (a b c d f : Value) : ∀ (j : Nat) (u : Value), [a, b, c, d, f][j]? = some u → (w.alloc (.cells #[a, b, c, d, f] e)).cell? ((⟨w.heap.size, 0, none⟩ : Addr).add j) = some u := by
  intro j u h
  match j, h with
  | 0, h => simp at h; subst h; simp [Addr.add]
  | 1, h => simp at h; subst h; simp [Addr.add]
  | 2, h => simp at h; subst h; simp [Addr.add]
  | 3, h => simp at h; subst h; simp [Addr.add]
  | 4, h => simp at h; subst h; simp [Addr.add]
  | j + 5, h => simp at h
theorem hask_arg (Q : Nat) (now s t : Int) (w : World) (h : ¬ ((0 ≤ now ∧ now ≤ 1099511627776) ∧ (1 ≤ t ∧ t ≤ 100000))) :
    Calls Try.prog 28 #[.pointer (some ⟨Q, 0, none⟩), .int .i64 now, .int .i64 s, .int .i64 t] w fun e w' => e = .returned (.tuple #[.int .i64 0, .int .i64 1]) ∧ w' = w := by
  by_cases h1 : 0 ≤ now ∧ now ≤ 1099511627776
  · have c := fun w => rin_yes now 0 1099511627776 w h1.1 h1.2
    have c2 := fun w => rin_no t 1 100000 w (fun h2 => h ⟨h1, h2⟩)
    clear h h1
    go_enter Try.func28, Try.ntmps28
    go_wp2_with (first
      | (go_at_call 51; (with_reducible refine (c _).mono ?_); rintro e w' ⟨rfl, h9⟩; have h8 := h9.symm; clear h9; subst h8)
      | (go_at_call 51; (with_reducible refine (c2 _).mono ?_); rintro e w' ⟨rfl, h9⟩; have h8 := h9.symm; clear h9; subst h8))
    go_ret2
    exact ⟨rfl, rfl⟩
  · have c := fun w => rin_no now 0 1099511627776 w h1
    clear h h1
    go_enter Try.func28, Try.ntmps28
    go_wp2_with (go_at_call 51; (with_reducible refine (c _).mono ?_); rintro e w' ⟨rfl, h9⟩; have h8 := h9.symm; clear h9; subst h8)
    go_ret2
    exact ⟨rfl, rfl⟩
set_option maxHeartbeats 4000000 in
theorem hask_any (L : List Rq) (now s t : Int) (hI : Inv L) : Doth 28 (fun Q => #[.pointer (some ⟨Q, 0, none⟩), .int .i64 now, .int .i64 s, .int .i64 t]) L (askL L now s t) (.returned (.tuple #[.int .i64 (askN L now s t), .int .i64 (askE L now s t)])) := by
  intro B Q v w hA
  obtain ⟨i0, hi, hz0, hz1, hz2⟩ := info_parts info_req
  by_cases h1 : (0 ≤ now ∧ now ≤ 1099511627776) ∧ (1 ≤ t ∧ t ≤ 100000)
  · have c1 := fun w => rin_yes now 0 1099511627776 w h1.1.1 h1.1.2
    have c2 := fun w => rin_yes t 1 100000 w h1.2.1 h1.2.2
    by_cases h2 : 0 ≤ s ∧ s ≤ 5
    · have c3 := fun w => rin_yes s 0 5 w h2.1 h2.2
      have c4 := fun w h => hmany_any B Q v L s 1 w h hI.len
      have c5 := fun w h => hmany_any B Q v L (-1) 1 w h hI.len
      have hlen := hI.len
      by_cases h3 : 20 ≤ many s 1 L ∨ 60 ≤ many (-1) 1 L ∨ 200 ≤ L.length
      · have hE : askE L now s t = 6 := by unfold askE; rw [if_neg (fun h => h h1), if_neg (fun h => h h2), if_pos h3]
        have hN : askN L now s t = 0 := by unfold askN; rw [hE]; rfl
        have hLL : askL L now s t = L := by unfold askL; rw [hE]; rfl
        rw [hE, hN, hLL]
        obtain ⟨ao, cap, rfl, hc1, hc2, hao⟩ := hA.form
        have cV := hA.cV
        have HA : Hid (HAt w B Q (.slice ao L.length cap) L) := hA
        clear hE hN hLL h1 h2 hA
        by_cases h4 : 20 ≤ many s 1 L
        · have h4' : (20 : Int) ≤ (many s 1 L : Int) := by omega
          clear h3
          go_enter Try.func28, Try.ntmps28
          go_wp2_with (first
            | (go_at_call 51; first | ((with_reducible refine (c1 _).mono ?_); rintro e w' ⟨rfl, h9⟩; have h8 := h9.symm; clear h9; subst h8) | ((with_reducible refine (c2 _).mono ?_); rintro e w' ⟨rfl, h9⟩; have h8 := h9.symm; clear h9; subst h8) | ((with_reducible refine (c3 _).mono ?_); rintro e w' ⟨rfl, h9⟩; have h8 := h9.symm; clear h9; subst h8))
            | (go_at_call 67; (with_reducible refine (c4 _ HA.out).mono ?_); rintro e w' ⟨rfl, h9⟩; have h8 := h9.symm; clear h9; subst h8))
          go_ret2
          exact ⟨rfl, _, HA.out, Turn.refl _ _ _⟩
        · have h4' : ¬ (20 : Int) ≤ (many s 1 L : Int) := by omega
          by_cases h5 : 60 ≤ many (-1) 1 L
          · have h5' : (60 : Int) ≤ (many (-1) 1 L : Int) := by omega
            clear h3
            go_enter Try.func28, Try.ntmps28
            go_wp2_with (first
              | (go_at_call 51; first | ((with_reducible refine (c1 _).mono ?_); rintro e w' ⟨rfl, h9⟩; have h8 := h9.symm; clear h9; subst h8) | ((with_reducible refine (c2 _).mono ?_); rintro e w' ⟨rfl, h9⟩; have h8 := h9.symm; clear h9; subst h8) | ((with_reducible refine (c3 _).mono ?_); rintro e w' ⟨rfl, h9⟩; have h8 := h9.symm; clear h9; subst h8))
              | (go_at_call 67; first | ((with_reducible refine (c4 _ HA.out).mono ?_); rintro e w' ⟨rfl, h9⟩; have h8 := h9.symm; clear h9; subst h8) | ((with_reducible refine (c5 _ HA.out).mono ?_); rintro e w' ⟨rfl, h9⟩; have h8 := h9.symm; clear h9; subst h8)))
            go_ret2
            exact ⟨rfl, _, HA.out, Turn.refl _ _ _⟩
          · have h5' : ¬ (60 : Int) ≤ (many (-1) 1 L : Int) := by omega
            have h6 : (200 : Int) ≤ (L.length : Int) := by omega
            clear h3
            go_enter Try.func28, Try.ntmps28
            go_wp2_with (first
              | (go_at_call 51; first | ((with_reducible refine (c1 _).mono ?_); rintro e w' ⟨rfl, h9⟩; have h8 := h9.symm; clear h9; subst h8) | ((with_reducible refine (c2 _).mono ?_); rintro e w' ⟨rfl, h9⟩; have h8 := h9.symm; clear h9; subst h8) | ((with_reducible refine (c3 _).mono ?_); rintro e w' ⟨rfl, h9⟩; have h8 := h9.symm; clear h9; subst h8))
              | (go_at_call 67; first | ((with_reducible refine (c4 _ HA.out).mono ?_); rintro e w' ⟨rfl, h9⟩; have h8 := h9.symm; clear h9; subst h8) | ((with_reducible refine (c5 _ HA.out).mono ?_); rintro e w' ⟨rfl, h9⟩; have h8 := h9.symm; clear h9; subst h8)))
            go_ret2
            exact ⟨rfl, _, HA.out, Turn.refl _ _ _⟩
      · have hE : askE L now s t = 0 := by unfold askE; rw [if_neg (fun h => h h1), if_neg (fun h => h h2), if_neg h3]
        have hN : askN L now s t = (L.length : Int) + 1 := by unfold askN; rw [hE]; rfl
        have hLL : askL L now s t = L ++ [⟨(L.length : Int) + 1, s, now + t, 1, 0⟩] := by unfold askL; rw [hE]; rfl
        rw [hE, hN, hLL]
        obtain ⟨ao, cap, rfl, hc1, hc2, hao⟩ := hA.form
        have cV := hA.cV
        have HA : Hid (HAt w B Q (.slice ao L.length cap) L) := hA
        have h4' : ¬ (20 : Int) ≤ (many s 1 L : Int) := by omega
        have h5' : ¬ (60 : Int) ≤ (many (-1) 1 L : Int) := by omega
        have h6 : ¬ (200 : Int) ≤ (L.length : Int) := by omega
        have hQl := hA.lt
        have hBs : B ≤ w.heap.size := by have := RAt.bQ hA; omega
        have hown := RAt.own hA
        have f0 := hA.fz 0
        have hw1 : IntKind.i64.wrap ((L.length : Int) + 1) = (L.length : Int) + 1 := by rw [IntKind.wrap_i64] <;> omega
        have hw2 : IntKind.i64.wrap (now + t) = now + t := by rw [IntKind.wrap_i64] <;> omega
        clear hE hN hLL hA h3 hao
        have h1a := h1.1.1
        have h1b := h1.1.2
        have h1c := h1.2.1
        have h1d := h1.2.2
        clear h1
        go_enter Try.func28, Try.ntmps28
        go_wp2_with (first
          | (go_at_call 51; first | ((with_reducible refine (c1 _).mono ?_); rintro e w' ⟨rfl, h9⟩; have h8 := h9.symm; clear h9; subst h8) | ((with_reducible refine (c2 _).mono ?_); rintro e w' ⟨rfl, h9⟩; have h8 := h9.symm; clear h9; subst h8) | ((with_reducible refine (c3 _).mono ?_); rintro e w' ⟨rfl, h9⟩; have h8 := h9.symm; clear h9; subst h8))
          | (go_at_call 67; first | ((with_reducible refine (c4 _ HA.out).mono ?_); rintro e w' ⟨rfl, h9⟩; have h8 := h9.symm; clear h9; subst h8) | ((with_reducible refine (c5 _ HA.out).mono ?_); rintro e w' ⟨rfl, h9⟩; have h8 := h9.symm; clear h9; subst h8)))
        clear c1 c2 c3 c4 c5
        go_region_law (refine step_own_at rfl (.tmp 42) (.tmp 54) 58 rfl B 73 i0 (.agg #[.int .i64 0, .int .i64 0, .int .i64 0, .int .i64 0, .int .i64 0]) 5 40 Try.underlying58 hi hz0 hz1 hz2 rfl (by decide) _ L.length (cels rK.c L) rfl ((hown.drew).alloc _) ⟨w.heap.size, 0, none⟩ 1 1 [.int .i64 ((L.length : Int) + 1), .int .i64 s, .int .i64 (now + t), .int .i64 1, .int .i64 0] rfl rfl (cell_five _ _ _ _ _ _ _) (fun u hu => by simp at hu; rcases hu with rfl | rfl | rfl | rfl | rfl <;> rfl) (by unfold maxLen; omega) (by omega) (by simp; omega) ?_; intro v' w3 hown3 hgrow3 hloc3; obtain ⟨g3, cap3, rfl⟩ := own_succ hown3; have hQ3 := RAt.appended HA.out hgrow3; have cS3 : w3.cell? ⟨Q, 0, none⟩ = some (.slice ao L.length cap) := (World.cell?_of_block (w := w) (a := ⟨Q, 0, none⟩) hQ3).trans cV; have f13 : w3.frozen? ⟨Q, 0, none⟩ = false := (World.frozen?_of_block (w := w) (a := ⟨Q, 0, none⟩) hQ3).trans f0)
        all_goals
          have hL' : (L ++ [(⟨(L.length : Int) + 1, s, now + t, 1, 0⟩ : Rq)]).length = L.length + 1 := by simp
          have hC' : cels rK.c L ++ [.int .i64 ((L.length : Int) + 1), .int .i64 s, .int .i64 (now + t), .int .i64 1, .int .i64 0] = cels rK.c (L ++ [⟨(L.length : Int) + 1, s, now + t, 1, 0⟩]) := by
            rw [cels_append]
            rfl
          rw [hC', ← hL'] at hown3
          have hA3 := HAt.regrown HA.out hQ3 hown3 (own_off HA.out hloc3)
          rw [hL'] at hA3
          have hT3 := (Turn.appended (Q := Q) hgrow3 hloc3).setRow 0 (.slice (some ⟨g3, 0, none⟩) (L.length + 1) cap3)
          go_wp2
          go_ret2
          exact ⟨rfl, _, hA3, hT3⟩
    · have hE : askE L now s t = 4 := by unfold askE; rw [if_neg (fun h => h h1), if_pos h2]
      have hN : askN L now s t = 0 := by unfold askN; rw [hE]; rfl
      have hLL : askL L now s t = L := by unfold askL; rw [hE]; rfl
      rw [hE, hN, hLL]
      have c3 := fun w => rin_no s 0 5 w h2
      clear hE hN hLL h1 h2
      go_enter Try.func28, Try.ntmps28
      go_wp2_with (go_at_call 51; first | ((with_reducible refine (c1 _).mono ?_); rintro e w' ⟨rfl, h9⟩; have h8 := h9.symm; clear h9; subst h8) | ((with_reducible refine (c2 _).mono ?_); rintro e w' ⟨rfl, h9⟩; have h8 := h9.symm; clear h9; subst h8) | ((with_reducible refine (c3 _).mono ?_); rintro e w' ⟨rfl, h9⟩; have h8 := h9.symm; clear h9; subst h8))
      go_ret2
      exact ⟨rfl, v, hA, Turn.refl _ _ _⟩
  · have hE : askE L now s t = 1 := by unfold askE; rw [if_pos h1]
    have hN : askN L now s t = 0 := by unfold askN; rw [hE]; rfl
    have hLL : askL L now s t = L := by unfold askL; rw [hE]; rfl
    rw [hE, hN, hLL]
    refine (hask_arg Q now s t w h1).mono ?_
    rintro e w' ⟨rfl, rfl⟩
    exact ⟨rfl, v, hA, Turn.refl _ _ _⟩
set_option maxHeartbeats 1000000 in
theorem hdone_any (L : List Rq) (id : Int) (hI : Inv L) : Doth 37 (fun Q => #[.pointer (some ⟨Q, 0, none⟩), .int .i64 id]) L (doneL L id) (.returned (.tuple #[.int .i64 (doneN L id), .int .i64 (doneE L id)])) := by
  intro B Q v w hA
  have hlen := hI.len
  obtain ⟨ao, cap, rfl, hc1, hc2, hao⟩ := hA.form
  have cV := hA.cV
  by_cases h : 1 ≤ id ∧ id ≤ L.length
  · have c := fun w => rin_yes id 1 L.length w h.1 h.2
    obtain ⟨i, rfl, hl⟩ := id_nat h
    obtain ⟨r, hr⟩ : ∃ r, L[i]? = some r := ⟨L[i], by simp [hl]⟩
    obtain ⟨g, rfl⟩ := hao (by omega)
    obtain ⟨d0, d1, d2, d3, d4, fz⟩ := hA.req rfl hr
    have f3 := fz (i * 5 + 3)
    have hgQ := hA.gQ
    have hl' : (i : Int) < (L.length : Int) := by omega
    have HA : Hid (HAt w B Q (.slice (some ⟨g, 0, none⟩) L.length cap) L) := hA
    have HR : Hid (L[i]? = some r) := hr
    by_cases hf : r.fat = 2
    · obtain ⟨e1, e2, e3⟩ := done_ok hr hf
      rw [e1, e2, e3]
      have h9 : (r.fat != 2) = false := by simp [hf]
      clear e1 e2 e3 hf hr hA fz h
      go_enter Try.func37, Try.ntmps37
      go_wp2_with (go_at_call 51; (with_reducible refine (c _).mono ?_); rintro e w' ⟨rfl, h9⟩; have h8 := h9.symm; clear h9; subst h8)
      go_ret2
      exact ⟨rfl, _, RAt.put (j := 3) HA.out rfl HR.out (by decide) rfl, Turn.setG _ _⟩
    · obtain ⟨e1, e2, e3⟩ := done_state hr hf
      rw [e1, e2, e3]
      have h9 : (r.fat != 2) = true := by simp [hf]
      clear e1 e2 e3 hf hr hA fz h
      go_enter Try.func37, Try.ntmps37
      go_wp2_with (go_at_call 51; (with_reducible refine (c _).mono ?_); rintro e w' ⟨rfl, h9⟩; have h8 := h9.symm; clear h9; subst h8)
      go_ret2
      exact ⟨rfl, _, HA.out, Turn.refl _ _ _⟩
  · obtain ⟨e1, e2, e3⟩ := done_no h
    rw [e1, e2, e3]
    have c := fun w => rin_no id 1 L.length w h
    clear e1 e2 e3 h
    go_enter Try.func37, Try.ntmps37
    go_wp2_with (go_at_call 51; (with_reducible refine (c _).mono ?_); rintro e w' ⟨rfl, h9⟩; have h8 := h9.symm; clear h9; subst h8)
    go_ret2
    exact ⟨rfl, _, hA, Turn.refl _ _ _⟩
def NxR (L : List Rq) (w : World) (i : Value) (wr : World) : Prop :=
  ∃ k : Nat, k ≤ L.length ∧ i = .int .i64 k ∧ (∀ j, j < k → ∀ x, L[j]? = some x → mayRun L x = false) ∧ wr = w
theorem nx_step {p : Rq → Bool} {L : List Rq} {k : Nat} {m : Rq} (h : ∀ j, j < k → ∀ x, L[j]? = some x → p x = false) (hm : L[k]? = some m) (hp : p m = false) : ∀ j, j < k + 1 → ∀ x, L[j]? = some x → p x = false := by
  intro j hj x hx
  by_cases e : j = k
  · subst e; rw [hm] at hx; cases hx; exact hp
  · exact h j (by omega) x hx
set_option maxHeartbeats 2000000 in
theorem hnext_any (B Q : Nat) (v : Value) (L : List Rq) (w : World) (hA : HAt w B Q v L) (hL : L.length ≤ 200) :
    Calls Try.prog 33 #[.pointer (some ⟨Q, 0, none⟩)] w fun e w' => e = .returned (.tuple #[.int .i64 (nextN L), .bool (nextB L)]) ∧ w' = w := by
  obtain ⟨ao, cap, rfl, hc1, hc2, hao⟩ := hA.form
  have cV := hA.cV
  have c := fun s => hmany_any B Q (.slice ao L.length cap) L s 2 w hA hL
  go_enter Try.func33, Try.ntmps33
  go_wp2
  go_loopw [4] (fun i wr => NxR L w i wr) (fun i _ => L.length - (intOf i).toNat)
  case atStart => exact ⟨0, by omega, rfl, fun j hj => absurd hj (by omega), rfl⟩
  case round =>
    obtain ⟨k, hk, rfl, hno, hwr⟩ := hrel
    subst hwr
    by_cases hlt : k < L.length
    · have hlt' : (k : Int) < (L.length : Int) := by omega
      obtain ⟨g, rfl⟩ := hao (by omega)
      obtain ⟨r, hr⟩ : ∃ r, L[k]? = some r := ⟨L[k], by simp [hlt]⟩
      obtain ⟨d0, d1, d2, d3, d4, fz⟩ := hA.req rfl hr
      cases h1 : (r.fat == 1)
      · have hs := nx_step hno hr (show mayRun L r = false by unfold mayRun; rw [h1]; rfl)
        clear hA fz hr
        go_wp2
        go_roundw
        case rel => exact ⟨k + 1, by omega, rfl, hs, rfl⟩
        case measure => simp [intOf]; omega
      · by_cases h2 : many r.src 2 L = 0
        · have hf := Flt.find_at hno hr (show mayRun L r = true by unfold mayRun; rw [h1, h2]; rfl)
          have HF : Hid (nextN L = (k : Int) + 1 ∧ nextB L = true) := ⟨by unfold nextN; rw [hf], by unfold nextB; rw [hf]; rfl⟩
          have c2 := c r.src
          rw [h2] at c2
          clear hA fz hr hf hno c
          go_wp2_with (go_at_call 67; (with_reducible refine c2.mono ?_); rintro e w' ⟨rfl, h9⟩; have h8 := h9.symm; clear h9; subst h8)
          go_ret2
          rw [HF.out.1, HF.out.2]
          exact ⟨rfl, rfl⟩
        · have h2b : ((many r.src 2 L : Int) == 0) = false := by rw [beq_eq_false_iff_ne]; omega
          have h2c : (many r.src 2 L == 0) = false := by rw [beq_eq_false_iff_ne]; exact h2
          have hs := nx_step hno hr (show mayRun L r = false by unfold mayRun; rw [h1, h2c]; rfl)
          have c2 := c r.src
          clear hA fz hr c h2
          go_wp2_with (go_at_call 67; (with_reducible refine c2.mono ?_); rintro e w' ⟨rfl, h9⟩; have h8 := h9.symm; clear h9; subst h8)
          go_roundw
          case rel => exact ⟨k + 1, by omega, rfl, hs, rfl⟩
          case measure => simp [intOf]; omega
    · obtain rfl : k = L.length := by omega
      have hf := Flt.find_no hno
      have HF : Hid (nextN L = 0 ∧ nextB L = false) := ⟨by unfold nextN; rw [hf], by unfold nextB; rw [hf]; rfl⟩
      clear hf hno
      go_wp2
      go_ret2
      rw [HF.out.1, HF.out.2]
      exact ⟨rfl, rfl⟩
end Buf
end Go.Proofs.Ytkflelbpiabcpac
