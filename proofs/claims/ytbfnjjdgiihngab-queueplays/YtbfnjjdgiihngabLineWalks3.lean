/- What the document's queue (tideref.Line) answers: Ack. -/
import Derived.Test.YtbfnjjdgiihngabLineWalks2
import Derived.OwnWalk
import Derived.Deep.Onto
namespace Go.Proofs.Ytbfnjjdgiihngab
namespace Que
open Go.RowKit
set_option maxRecDepth 8000

theorem akR_add {id : Int} {L : List M} {w wr w3 : World} {k : Nat} {m : M} {v v' : Value} {o : Obj} (hk : k < L.length) (hm : L[k]? = some m) (hp : keepP id m = true) (hb : Below w.heap.size w wr) (hown : wr.ownsRow w.heap.size 54 3 v (ackL id (L.take k)).length (cels (ackL id (L.take k))))
    (hown3 : w3.ownsRow w.heap.size 54 3 v' ((ackL id (L.take k)).length + 1) (cels (ackL id (L.take k)) ++ cel m)) (hg : (wr.alloc o).grownBy w3 v.ownBlock) (e i : Value) (he : e = .int .i64 (ackE id (L.take (k + 1)))) (hi : i = .int .i64 ((k + 1 : Nat) : Int)) : AkR id L w v' e i w3 := by
  refine ⟨k + 1, by omega, hi, he, ?_, (hb.alloc hb.size o).grown hg (by simp; have := hb.size; omega) (fun q hq => (hown.lt q hq).1)⟩
  have e1 : ackL id (L.take (k + 1)) = ackL id (L.take k) ++ [m] := by rw [ackL_step hm, hp]; rfl
  rw [e1, List.length_append, cels_append]
  exact hown3
set_option maxHeartbeats 8000000 in
theorem lack_yes (B Q : Nat) (last : Int) (v : Value) (L L1 : List M) (now id : Int) (w : World) (hA : QAt w 54 B Q 1 0 last v L) (hL : L.length ≤ 200) (h3 : 0 ≤ now) (h4 : now ≤ 1099511627776) (hb : backL now L = L1) :
    Calls Try.prog 20 #[.pointer (some ⟨Q, 0, none⟩), .int .i64 now, .int .i64 id] w fun e w' => e = .returned (.int .i64 (ackE id L1)) ∧ ∃ v', QAt w' 54 B Q 1 0 last v' (ackL id L1) ∧ Turn Q v v' w w' := by
  obtain ⟨i0, hi, hz0, hz1, hz2⟩ := info_parts info_msg
  have hl : L1.length ≤ 200 := by rw [← hb, backL_len]; exact hL
  have hll : L1.length = L.length := by rw [← hb, backL_len]
  obtain ⟨ao, cap, rfl, hc1, hc2, hao⟩ := hA.form
  have c2 := atS B Q cap ao last L L1 now w hA h3 h4 hL hb
  clear hA hb
  go_enter Try.func20, Try.ntmps20
  go_wp2_with (go_at_call 32; (with_reducible refine c2.mono ?_); rintro e w1 ⟨rfl, hA1, hT1⟩)
  go_loopw [7, 8, 9] (fun v e i wr => AkR id L1 w1 v e i wr) (fun _ _ i _ => L1.length - (intOf i).toNat)
  case atStart => exact ⟨0, by omega, rfl, rfl, World.ownsRow_nil _ _ _ _, Below.refl _ _⟩
  case round =>
    obtain ⟨k, hk, rfl, rfl, hown, hbw⟩ := hrel
    have hAr := hA1.below hbw
    have cS := hAr.cS
    have hQl := hAr.lt
    by_cases hlt : k < L1.length
    · have hlt' : (k : Int) < (L1.length : Int) := by omega
      obtain ⟨g, rfl⟩ := hao (by omega)
      obtain ⟨m, hm⟩ : ∃ m, L1[k]? = some m := ⟨L1[k], by simp [hlt]⟩
      obtain ⟨d0, d1, d2, fz⟩ := hAr.cells rfl hm
      have hES := ackE_step (id := id) hm
      have hLk : (ackL id (L1.take k)).length ≤ 200 := Nat.le_trans (ackL_le _ _) (by rw [List.length_take]; omega)
      have hsz := hbw.size
      have HO : Hid (wr.ownsRow w1.heap.size 54 3 u7 (ackL id (L1.take k)).length (cels (ackL id (L1.take k)))) := hown
      have HB : Hid (Below w1.heap.size w1 wr) := hbw
      clear hAr fz hown hbw
      obtain ⟨id', till, tk⟩ := m
      simp only at d0 d1 d2 hES
      have HR : Hid (∀ (v' : Value) (w3 : World) (o : Obj) (e i : Value), keepP id ⟨id', till, tk⟩ = true → w3.ownsRow w1.heap.size 54 3 v' ((ackL id (L1.take k)).length + 1) (cels (ackL id (L1.take k)) ++ cel ⟨id', till, tk⟩) → (wr.alloc o).grownBy w3 u7.ownBlock → e = .int .i64 (ackE id (L1.take (k + 1))) → i = .int .i64 ((k + 1 : Nat) : Int) → AkR id L1 w1 v' e i w3) := fun v' w3 o e i hp h1 h2 he hi => akR_add hlt hm hp HB.out HO.out h1 h2 e i he hi
      have HN : Hid (keepP id ⟨id', till, tk⟩ = false → ∀ (e i : Value), e = .int .i64 (ackE id (L1.take (k + 1))) → i = .int .i64 ((k + 1 : Nat) : Int) → AkR id L1 w1 u7 e i wr) := by
        intro hp e i he hi
        have e1 : ackL id (L1.take (k + 1)) = ackL id (L1.take k) := by rw [ackL_step hm, hp]; simp
        exact ⟨k + 1, by omega, hi, he, by rw [e1]; exact HO.out, HB.out⟩
      have HE : Hid (ackE id (L1.take (k + 1)) = if (id' == id) = true then if tk = true then 0 else 7 else ackE id (L1.take k)) := hES
      clear hES hm
      generalize (ackL id (L1.take k)).length = N0 at *
      generalize cels (ackL id (L1.take k)) = C0 at *
      generalize ackE id (L1.take k) = E0 at *
      generalize ackE id (L1.take (k + 1)) = E1 at *
      by_cases hid : id' = id
      · subst hid
        cases tk
        · have hE1 : E1 = 7 := by have := HE.out; simpa using this
          go_wp2_with (at_builtin; refine wpList_append_own _ rfl _ _ 42 rfl w1.heap.size 54 i0 (.agg #[.int .i64 0, .int .i64 0, .bool false]) 3 24 Try.underlying42 hi hz0 hz1 hz2 rfl (by decide) _ N0 C0 rfl (HO.out.alloc _) ⟨wr.heap.size, 0, none⟩ 1 1 [.int .i64 id', .int .i64 till, .bool false] rfl rfl (cell_three _ _ _ _ _) (fun u hu => by simp at hu; rcases hu with rfl | rfl | rfl <;> rfl) (by unfold maxLen; omega) (by omega) (by simp; omega) ?_; intro v' w3 hown3 hgrow3 _)
          go_wp2
          go_roundw
          case rel => exact HR.out _ _ _ _ _ (by simp [keepP]) hown3 hgrow3 (by rw [hE1]) (by first | rfl | simp)
          case measure => simp [intOf]; omega
        · have hE1 : E1 = 0 := by have := HE.out; simpa using this
          go_wp2
          go_roundw
          case rel => exact HN.out (by simp [keepP]) _ _ (by rw [hE1]) (by first | rfl | simp)
          case measure => simp [intOf]; omega
      · have hid2 : (id' == id) = false := by simpa using hid
        have hE1 : E1 = E0 := by have := HE.out; simpa [hid] using this
        have hkp : keepP id ⟨id', till, tk⟩ = true := by simp [keepP, hid]
        go_wp2_with (at_builtin; refine wpList_append_own _ rfl _ _ 42 rfl w1.heap.size 54 i0 (.agg #[.int .i64 0, .int .i64 0, .bool false]) 3 24 Try.underlying42 hi hz0 hz1 hz2 rfl (by decide) _ N0 C0 rfl (HO.out.alloc _) ⟨wr.heap.size, 0, none⟩ 1 1 [.int .i64 id', .int .i64 till, .bool tk] rfl rfl (cell_three _ _ _ _ _) (fun u hu => by simp at hu; rcases hu with rfl | rfl | rfl <;> rfl) (by unfold maxLen; omega) (by omega) (by simp; omega) ?_; intro v' w3 hown3 hgrow3 _)
        go_wp2
        go_roundw
        case rel => exact HR.out _ _ _ _ _ hkp hown3 hgrow3 (by rw [hE1]) (by first | rfl | simp)
        case measure => simp [intOf]; omega
    · obtain rfl : k = L1.length := by omega
      rw [List.take_length] at hown
      have hbQ : B ≤ w1.heap.size := by have := hA1.bQ; have := hA1.lt; omega
      have hfS := hAr.fz 0
      have hlt1 := hA1.lt
      have hv : u7.ownBlock ≠ some Q := fun e => by have := (hown.lt Q e).1; omega
      have hA5 := hAr.regrown (by decide) rfl (hown.mono hbQ) hv
      have hT5 : Turn Q (.slice ao L.length cap) u7 w wr := by
        have h1 := hT1.trans (Turn.of_below (Q := Q) (v := .slice ao L1.length cap) hbw)
        have hs1 := hT1.size
        exact ⟨h1.os, h1.tape, h1.output, h1.size, h1.block, fun g hg => Or.inr (by have := (hown.lt g hg).1; omega)⟩
      have hone : u7.cells = #[u7] := by
        rcases hown.2 with ⟨h0, _⟩ | ⟨_, _, _, h0, _⟩ <;> rw [h0] <;> rfl
      obtain ⟨bo, bn, bc, hu7⟩ : ∃ bo bn bc, u7 = .slice bo bn bc := by
        rcases hown.2 with ⟨h0, _⟩ | ⟨_, _, _, h0, _⟩ <;> exact ⟨_, _, _, h0⟩
      subst hu7
      clear hown hAr hA1 hT1 hone
      rw [List.take_length]
      go_wp2
      go_ret
      exact ⟨rfl, _, hA5, hT5.setRow 0 _⟩
end Que
end Go.Proofs.Ytbfnjjdgiihngab
