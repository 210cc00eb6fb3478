/- How the text of a cron is read: parseWord. -/
import Derived.Test.YtbfnjjdgiihngaaDoorParseItem
namespace Go.Proofs.YtbfnjjdgiihngaaDoor
namespace Pie
open Go.RowKit Crn
set_option maxRecDepth 8000

theorem wordS_add (lo hi : Int) : ∀ (a : List (List UInt8)) (l : List (Int × Int × Int)) (t : List UInt8) (p : Int × Int × Int), wordS lo hi a = some l → itemS lo hi t = some p → wordS lo hi (a ++ [t]) = some (l ++ [p])
  | [], l, t, p, h, g => by
    cases h
    show wordS lo hi [t] = _
    unfold wordS; rw [g]; rfl
  | x :: a, l, t, p, h, g => by
    have e : wordS lo hi (x :: a) = match itemS lo hi x, wordS lo hi a with | some p, some l => some (p :: l) | _, _ => none := rfl
    rw [e] at h
    cases h1 : itemS lo hi x with
    | none => rw [h1] at h; cases h
    | some q =>
      cases h2 : wordS lo hi a with
      | none => rw [h1, h2] at h; cases h
      | some r =>
        rw [h1, h2] at h
        cases h
        have ih := wordS_add lo hi a r t p h2 g
        have e2 : wordS lo hi (x :: (a ++ [t])) = match itemS lo hi x, wordS lo hi (a ++ [t]) with | some p, some l => some (p :: l) | _, _ => none := rfl
        rw [List.cons_append, e2, h1, ih]; rfl
theorem wordS_not (lo hi : Int) : ∀ (a : List (List UInt8)) (t : List UInt8), t ∈ a → itemS lo hi t = none → wordS lo hi a = none
  | x :: a, t, h, g => by
    have e : wordS lo hi (x :: a) = match itemS lo hi x, wordS lo hi a with | some p, some l => some (p :: l) | _, _ => none := rfl
    rw [e]
    rcases List.mem_cons.1 h with rfl | h
    · rw [g]
    · rw [wordS_not lo hi a t h g]
      cases itemS lo hi x <;> rfl
theorem setIs_add {l : List (Int × Int × Int)} {p : Int × Int × Int} {u v : Int} (h : SetIs l u) (g : SetIs [p] v) : SetIs (l ++ [p]) (bits .or .u64 u v) := by
  refine ⟨u_or _ _ h.1 g.1, fun n => ?_⟩
  rw [in_or _ _ _ h.1 g.1, h.2, g.2, List.any_append]
theorem setIs_nil : SetIs [] 0 := ⟨by decide, fun n => by rw [inS_zero]; rfl⟩
/-- what parseWord tells -/
def WordAns (lo hi : Int) (t : List UInt8) (e : Ending) : Prop := ∃ (v : Int) (o : Bool), e = .returned (.tuple #[.int .u64 v, .bool o]) ∧ (o = true → ∃ l, wordS lo hi (pieces 44 t) = some l ∧ SetIs l v) ∧ (o = false → wordS lo hi (pieces 44 t) = none)
theorem item_case (t : List UInt8) (lo hi : Int) (hl : t.length ≤ 4294967281) (h0 : 0 ≤ lo) (h1 : lo ≤ hi) (h2 : hi ≤ 63) : (itemS lo hi t = none ∧ ∀ w, Calls Tryd.prog 50 #[strV t, bdV lo hi] w fun e w' => ∃ v, e = .returned (.tuple #[.int .u64 v, .bool false]) ∧ Below w.heap.size w w') ∨
    ∃ p, itemS lo hi t = some p ∧ ∀ w, Calls Tryd.prog 50 #[strV t, bdV lo hi] w fun e w' => ∃ v, e = .returned (.tuple #[.int .u64 v, .bool true]) ∧ SetIs [p] v ∧ Below w.heap.size w w' := by
  cases h : itemS lo hi t with
  | none =>
    refine Or.inl ⟨rfl, fun w => (item_any t lo hi w hl h0 h1 h2).mono ?_⟩
    rintro e w' ⟨⟨v, o, rfl, g1, g2⟩, hb⟩
    cases o
    · exact ⟨v, rfl, hb⟩
    · obtain ⟨p, g, _⟩ := g1 rfl; rw [g] at h; cases h
  | some p =>
    refine Or.inr ⟨p, rfl, fun w => (item_any t lo hi w hl h0 h1 h2).mono ?_⟩
    rintro e w' ⟨⟨v, o, rfl, g1, g2⟩, hb⟩
    cases o
    · rw [g2 rfl] at h; cases h
    · obtain ⟨q, g, hs⟩ := g1 rfl; rw [g] at h; cases h; exact ⟨v, rfl, hs, hb⟩
def WoR (lo hi : Int) (ps : List (List UInt8)) (N : Nat) (w : World) (i s : Value) (wr : World) : Prop := ∃ (k : Nat) (v : Int) (l : List (Int × Int × Int)), k ≤ ps.length ∧ i = .int .i64 k ∧ s = .int .u64 v ∧ wordS lo hi (ps.take k) = some l ∧ SetIs l v ∧ Texts wr N ps ∧ (∀ o, wr.cell? ⟨w.heap.size, o, none⟩ = (#[Value.int .i64 lo, .int .i64 hi])[o]?) ∧ w.heap.size < wr.heap.size ∧ Below w.heap.size w wr

set_option maxHeartbeats 8000000 in
theorem word_any (t : List UInt8) (lo hi : Int) (w : World) (hl : t.length ≤ 1000) (h0 : 0 ≤ lo) (h1 : lo ≤ hi) (h2 : hi ≤ 63) :
    Calls Tryd.prog 30 #[strV t, bdV lo hi] w fun e w' => WordAns lo hi t e ∧ Below w.heap.size w w' := by
  have cS := fun w => split_any t 44 w (by omega)
  have hpl : (pieces 44 t).length ≤ 1001 := by rw [pieces_len]; have := List.count_le_length (a := (44 : UInt8)) (l := t); omega
  have hps : ∀ p ∈ pieces 44 t, p.length ≤ 4294967281 := fun p hp => by have := pieces_sub 44 t p hp; omega
  have HA : Hid (∀ v o, ((o = true → ∃ l, wordS lo hi (pieces 44 t) = some l ∧ SetIs l v) ∧ (o = false → wordS lo hi (pieces 44 t) = none)) → WordAns lo hi t (.returned (.tuple #[.int .u64 v, .bool o]))) := fun v o h => ⟨v, o, rfl, h.1, h.2⟩
  have HP : Hid (∀ p ∈ pieces 44 t, p.length ≤ 4294967281) := hps
  clear hps
  generalize pieces 44 t = ps at *
  obtain ⟨w0, hw⟩ : ∃ w0, w0 = w.alloc (.cells (#[.int .i64 lo, .int .i64 hi]) 60) := ⟨_, rfl⟩
  have hC0 : ∀ o, w0.cell? ⟨w.heap.size, o, none⟩ = (#[Value.int .i64 lo, .int .i64 hi])[o]? := fun o => by rw [hw]; simp
  have hN : w0.heap.size = w.heap.size + 1 := by rw [hw]; simp
  have hz0 : w.heap.size < w0.heap.size := by omega
  have hw0 : Below w.heap.size w w0 := by rw [hw]; exact (Below.refl _ _).alloc (Nat.le_refl _) _
  go_enter Tryd.func30, Tryd.ntmps30
  go_wp2_with (go_at_call 29; rw [← hw]; (with_reducible refine (cS _).mono ?_); rintro e w1 ⟨rfl, hT1, hb1⟩; have hC1 := cells_on hC0 hb1 hz0; have hz1 : w.heap.size < w1.heap.size := Nat.lt_of_lt_of_le hz0 hb1.size; have hw1 : Below w.heap.size w w1 := hw0.trans (hb1.mono hw0.size))
  rw [hN] at hT1
  clear hC0 hb1 hw cS
  go_loopw [14, 6] (fun i s wr => WoR lo hi ps (w.heap.size + 1) w i s wr) (fun i _ _ => ps.length - (intOf i).toNat)
  case atStart => exact ⟨0, 0, [], Nat.zero_le _, rfl, rfl, rfl, setIs_nil, hT1, hC1, hz1, hw1⟩
  case round =>
    clear hT1 hC1 hw1
    obtain ⟨k, v, l, hk, rfl, rfl, hwd0, hset0, hT, hC, hz, hbw⟩ := hrel
    have HW : Hid (wordS lo hi (ps.take k) = some l) := hwd0
    have HSet : Hid (SetIs l v) := hset0
    clear hwd0 hset0
    by_cases hlt : k < ps.length
    · have hlt' : (k : Int) < ps.length := by omega
      obtain ⟨x, hx⟩ : ∃ x, ps[k]? = some x := ⟨ps[k], by simp [hlt]⟩
      have cx := hT.2 k x hx
      have HX : Hid (ps[k]? = some x) := hx
      have hmem : x ∈ ps := List.mem_of_getElem? hx
      have HM : Hid (x ∈ ps) := hmem
      rcases item_case x lo hi (HP.out x hmem) h0 h1 h2 with ⟨hi0, cI⟩ | ⟨p, hi0, cI⟩
      · have HN : Hid (wordS lo hi ps = none) := wordS_not lo hi ps x hmem hi0
        clear hi0 hmem hx
        go_wp2_with (go_at_call 50; (with_reducible refine (cI _).mono ?_); rintro e w2 ⟨u, rfl, hb2⟩)
        go_ret2
        exact ⟨HA.out 0 false ⟨(fun h => by cases h), fun _ => HN.out⟩, hbw.trans (hb2.mono hbw.size)⟩
      · have HN : Hid (itemS lo hi x = some p) := hi0
        clear hi0 hmem hx
        go_wp2_with (go_at_call 50; (with_reducible refine (cI _).mono ?_); rintro e w2 ⟨u, rfl, hu, hb2⟩)
        go_roundw
        case rel =>
          refine ⟨k + 1, _, l ++ [p], by omega, rfl, rfl, ?_, setIs_add HSet.out hu, hT.below hb2 hT.1, cells_on hC hb2 hz, Nat.lt_of_lt_of_le hz hb2.size, hbw.trans (hb2.mono hbw.size)⟩
          rw [List.take_add_one, HX.out]
          exact wordS_add lo hi _ l x p HW.out HN.out
        case measure => simp [intOf]; omega
    · go_wp2
      go_ret2
      have e : ps.take k = ps := List.take_of_length_le (by omega)
      exact ⟨HA.out v true ⟨fun _ => ⟨l, by rw [← e]; exact HW.out, HSet.out⟩, (fun h => by cases h)⟩, hbw⟩
end Pie
end Go.Proofs.YtbfnjjdgiihngaaDoor
