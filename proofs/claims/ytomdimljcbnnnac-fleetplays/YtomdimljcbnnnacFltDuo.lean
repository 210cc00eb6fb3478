
/- A fleet of the program's and one of the document's, side by side. -/
import Derived.Test.YtomdimljcbnnnacCrewScale
namespace Go.Proofs.Ytomdimljcbnnnac
namespace Flt
open Go.RowKit Rw Rec
set_option maxRecDepth 8000

/-- two fleets side by side: the program's at Q, the document's at D -/
structure FD (w : World) (B Q D : Nat) (v u : Value) (F G : FS) : Prop where
  f : FAt w B Q v F
  d : DAt w B D u G
  ap : Apart Q D v u
section
variable {w w' : World} {B Q D : Nat} {v u v' u' : Value} {F G F' G' : FS}
theorem FD.left (h : FD w B Q D v u F G) (hA : FAt w' B Q v' F') (t : Turn Q v v' w w') : FD w' B Q D v' u F' G := by
  obtain ⟨h1, h2⟩ := h.ap.step (show RAt pK w 50 B D 0 [u, .int .i64 G.last, .int .i64 G.most] u G.L from h.d) t
  exact ⟨hA, h1, h2⟩
theorem FD.right (h : FD w B Q D v u F G) (hA : DAt w' B D u' G') (t : Turn D u u' w w') : FD w' B Q D v u' F G' := by
  obtain ⟨h1, h2⟩ := h.ap.symm.step (show RAt pK w 50 B Q 2 [.int .i64 F.most, .int .i64 F.last, v] v F.L from h.f) t
  exact ⟨h1, hA, h2.symm⟩
theorem FD.below (h : FD w B Q D v u F G) (hb : Below w.heap.size w w') : FD w' B Q D v u F G := ⟨h.f.below hb, h.d.below hb, h.ap⟩
theorem FD.drew (h : FD w B Q D v u F G) : FD w.drew B Q D v u F G := ⟨h.f.drew, h.d.drew, h.ap⟩
theorem FD.alloc (h : FD w B Q D v u F G) (o : Obj) : FD (w.alloc o) B Q D v u F G := ⟨h.f.alloc o, h.d.alloc o, h.ap⟩
/-- a block that neither has -/
structure Free (w : World) (Q D : Nat) (v u : Value) (C : Nat) : Prop where
  lt : C < w.heap.size
  q : C ≠ Q
  d : C ≠ D
  v : v.ownBlock ≠ some C
  u : u.ownBlock ≠ some C
theorem Free.drew {C : Nat} (h : Free w Q D v u C) : Free w.drew Q D v u C := ⟨h.lt, h.q, h.d, h.v, h.u⟩
theorem Free.left {C : Nat} (h : Free w Q D v u C) (t : Turn Q v v' w w') : Free w' Q D v' u C := ⟨Nat.lt_of_lt_of_le h.lt t.size, h.q, h.d, t.off h.lt h.v, h.u⟩
theorem Free.right {C : Nat} (h : Free w Q D v u C) (t : Turn D u u' w w') : Free w' Q D v u' C := ⟨Nat.lt_of_lt_of_le h.lt t.size, h.q, h.d, h.v, t.off h.lt h.u⟩
end
def EqR (n : Nat) (w : World) (i : Value) (wr : World) : Prop := ∃ k q : Nat, k ≤ n ∧ i = .int .i64 k ∧ wr = w.drewN q
set_option maxHeartbeats 4000000 in
theorem equal_pods (ao bo : Option Addr) (L : List Pd) (c d : Nat) (w : World) (hX : RowAt pK w ao L) (hY : RowAt pK w bo L) (hn : L.length ≤ 1000000000) :
    Calls Try.prog 21 #[.slice ao L.length c, .slice bo L.length d] w fun e w' => e = .returned (.bool true) ∧ ∃ q, w' = w.drewN q := by
  go_enter Try.func21, Try.ntmps21
  go_wp2
  go_loopw [13] (fun i wr => EqR L.length w i wr) (fun i _ => L.length - (intOf i).toNat)
  case atStart => exact ⟨0, 0, by omega, rfl, rfl⟩
  case round =>
    obtain ⟨k, q, hk, rfl, hq⟩ := hrel
    have HQ : Hid (wr = w.drewN q) := hq
    by_cases hlt : k < L.length
    · have hlt' : (k : Int) < (L.length : Int) := by omega
      obtain ⟨g, rfl, hg, hc⟩ := row_pod hX (by omega)
      obtain ⟨h, rfl, hh, hd⟩ := row_pod hY (by omega)
      obtain ⟨m, hm⟩ : ∃ m, L[k]? = some m := ⟨L[k], by simp [hlt]⟩
      obtain ⟨c0, c1, c2⟩ := hc k m hm
      obtain ⟨d0, d1, d2⟩ := hd k m hm
      have x0 : wr.cell? ⟨g, k * 3, none⟩ = some (.int .i64 m.id) := by rw [hq]; exact c0
      have x1 : wr.cell? ⟨g, k * 3 + 1, none⟩ = some (.int .i64 m.st) := by rw [hq]; exact c1
      have x2 : wr.cell? ⟨g, k * 3 + 2, none⟩ = some (.int .i64 m.ld) := by rw [hq]; exact c2
      have y0 : wr.cell? ⟨h, k * 3, none⟩ = some (.int .i64 m.id) := by rw [hq]; exact d0
      have y1 : wr.cell? ⟨h, k * 3 + 1, none⟩ = some (.int .i64 m.st) := by rw [hq]; exact d1
      have y2 : wr.cell? ⟨h, k * 3 + 2, none⟩ = some (.int .i64 m.ld) := by rw [hq]; exact d2
      clear hq hc hd c0 c1 c2 d0 d1 d2
      go_wp2_with fail
      go_quiet (fail)
      go_wp2
      go_roundw
      case rel => exact ⟨k + 1, q + nq, by omega, rfl, by rw [HQ.out, World.drewN_drewN]⟩
      case measure => simp [intOf]; omega
    · obtain rfl : k = L.length := by omega
      go_wp2
      go_ret
      exact ⟨rfl, q, rfl⟩

theorem done_last (F : FS) (x : Int) : (doneS F x).last = F.last := rfl
end Flt
end Go.Proofs.Ytomdimljcbnnnac
