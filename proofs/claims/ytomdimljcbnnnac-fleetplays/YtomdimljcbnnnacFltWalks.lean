
/- What each function of package fleet answers: contracts, the leaves first. -/
import Derived.Test.YtomdimljcbnnnacRows
import Derived.WalkKit
import Derived.ProofKit
import Derived.Deep.Quiet
import Derived.Deep.QuietTactic
import Derived.Deep.RegionWith
import Derived.Deep.RegionHeld
import Derived.Test.YtomdimljcbnnnacRecLaws
import Derived.Test.YtomdimljcbnnnacFltPlain
namespace Go.Proofs.Ytomdimljcbnnnac
namespace Flt
open Go.RowKit Rw Rec
set_option maxRecDepth 8000

theorem info_pod : (Try.prog.info? 50).map (fun i => (i.zero, i.size, i.bytes)) = some (some (.agg #[.int .i64 0, .int .i64 0, .int .i64 0]), 3, 24) := by kernel_rfl

/-- the program's fleet as it lies -/
def FAt (w : World) (B Q : Nat) (v : Value) (F : FS) : Prop := RAt pK w 50 B Q 2 [.int .i64 F.most, .int .i64 F.last, v] v F.L
section
variable {w w' : World} {B Q : Nat} {v v' : Value} {F : FS}
theorem FAt.lt (h : FAt w B Q v F) : Q < w.heap.size := RAt.lt h
theorem FAt.ne (h : FAt w B Q v F) : v.ownBlock ≠ some Q := RAt.ne h
theorem FAt.cM (h : FAt w B Q v F) : w.cell? ⟨Q, 0, none⟩ = some (.int .i64 F.most) := RAt.cQ h 0 _ rfl
theorem FAt.cN (h : FAt w B Q v F) : w.cell? ⟨Q, 1, none⟩ = some (.int .i64 F.last) := RAt.cQ h 1 _ rfl
theorem FAt.cV (h : FAt w B Q v F) : w.cell? ⟨Q, 2, none⟩ = some v := RAt.cQ h 2 _ rfl
theorem FAt.fz (h : FAt w B Q v F) : ∀ j, w.frozen? ⟨Q, j, none⟩ = false := RAt.fz h
theorem FAt.rowLt (h : FAt w B Q v F) : ∀ g, v.ownBlock = some g → g < w.heap.size := RAt.rowLt h
theorem FAt.below (h : FAt w B Q v F) (hb : Below w.heap.size w w') : FAt w' B Q v F := RAt.below h hb
theorem FAt.alloc (h : FAt w B Q v F) (o : Obj) : FAt (w.alloc o) B Q v F := RAt.alloc h o
theorem FAt.drew (h : FAt w B Q v F) : FAt w.drew B Q v F := RAt.drew h
theorem FAt.form (h : FAt w B Q v F) : ∃ ao cap, v = .slice ao F.L.length cap ∧ F.L.length ≤ cap ∧ cap ≤ maxLen ∧ (0 < F.L.length → ∃ g, ao = some ⟨g, 0, none⟩) := RAt.form h
theorem FAt.pod {g n cap i : Nat} {m : Pd} (h : FAt w B Q (.slice (some ⟨g, 0, none⟩) n cap) F) (hn : n = F.L.length) (hm : F.L[i]? = some m) :
    w.cell? ⟨g, i * 3, none⟩ = some (.int .i64 m.id) ∧ w.cell? ⟨g, i * 3 + 1, none⟩ = some (.int .i64 m.st) ∧ w.cell? ⟨g, i * 3 + 2, none⟩ = some (.int .i64 m.ld) ∧ ∀ j, w.frozen? ⟨g, j, none⟩ = false :=
  ⟨RAt.cells h hn hm 0 _ rfl, RAt.cells h hn hm 1 _ rfl, RAt.cells h hn hm 2 _ rfl, RAt.fzG h hn⟩
theorem FAt.row {ao : Option Addr} {cap : Nat} (h : FAt w B Q (.slice ao F.L.length cap) F) : RowAt pK w ao F.L := RAt.row h
theorem FAt.gQ {g n cap : Nat} (h : FAt w B Q (.slice (some ⟨g, 0, none⟩) n cap) F) : g ≠ Q := fun e => h.ne (by rw [e]; rfl)
end
theorem row_pod {w : World} {ao : Option Addr} {L : List Pd} (h : RowAt pK w ao L) (hl : 0 < L.length) : ∃ g, ao = some ⟨g, 0, none⟩ ∧ g < w.heap.size ∧ ∀ i m, L[i]? = some m → w.cell? ⟨g, i * 3, none⟩ = some (.int .i64 m.id) ∧ w.cell? ⟨g, i * 3 + 1, none⟩ = some (.int .i64 m.st) ∧ w.cell? ⟨g, i * 3 + 2, none⟩ = some (.int .i64 m.ld) := by
  obtain ⟨g, rfl, hg, hc⟩ := h hl
  exact ⟨g, rfl, hg, fun i m hm => ⟨hc i m hm 0 _ rfl, hc i m hm 1 _ rfl, hc i m hm 2 _ rfl⟩⟩

def pV (p : Pd) : Value := .agg #[.int .i64 p.id, .int .i64 p.st, .int .i64 p.ld]
theorem stays_any (p : Pd) (w : World) :
    Calls Try.prog 38 #[pV p] w fun e w' => e = .returned (.bool (stays p)) ∧ Below w.heap.size w w' := by
  unfold pV
  go_enter Try.func38, Try.ntmps38
  go_wp2
  go_ret
  exact ⟨rfl, (Below.refl _ _).alloc (Nat.le_refl _) _⟩
theorem two_alloc (w : World) (a b : Obj) : Below w.heap.size w ((w.alloc a).alloc b) := ((Below.refl _ _).alloc (Nat.le_refl _) a).alloc (by simp) b
theorem goes_any (p q : Pd) (w : World) :
    Calls Try.prog 39 #[pV p, pV q] w fun e w' => e = .returned (.bool (goes p q)) ∧ Below w.heap.size w w' := by
  unfold pV goes
  cases h1 : (p.st != q.st)
  · cases h2 : (p.ld != q.ld)
    · go_enter Try.func39, Try.ntmps39
      go_wp2
      go_ret
      exact ⟨rfl, two_alloc _ _ _⟩
    · go_enter Try.func39, Try.ntmps39
      go_wp2
      go_ret
      exact ⟨rfl, two_alloc _ _ _⟩
  · go_enter Try.func39, Try.ntmps39
    go_wp2
    go_ret
    exact ⟨rfl, two_alloc _ _ _⟩
theorem given_any (p q : Pd) (w : World) :
    Calls Try.prog 46 #[pV p, pV q] w fun e w' => e = .returned (.bool (given p q)) ∧ Below w.heap.size w w' := by
  unfold pV given
  cases h2 : (p.ld != q.ld)
  · go_enter Try.func46, Try.ntmps46
    go_wp2
    go_ret
    exact ⟨rfl, two_alloc _ _ _⟩
  · go_enter Try.func46, Try.ntmps46
    go_wp2
    go_ret
    exact ⟨rfl, two_alloc _ _ _⟩
theorem quiet_below {w w' : World} {n : Nat} (h : Below n w w') (q : Nat) : Below n w (w'.drewN q) := ⟨h.os, h.tape, h.output, h.size, h.block⟩
set_option maxHeartbeats 2000000 in
theorem room_any (p : Pd) (C Q : Nat) (most : Int) (w : World) (hC : w.cell? ⟨C, 0, none⟩ = some (.pointer (some ⟨Q, 0, none⟩))) (hM : w.cell? ⟨Q, 0, none⟩ = some (.int .i64 most)) :
    Calls Try.prog 45 #[pV p, .pointer (some ⟨C, 0, none⟩)] w fun e w' => e = .returned (.bool (room most p)) ∧ Below w.heap.size w w' := by
  unfold pV room
  have hl := World.block_lt_of_cell? w _ hC
  have hl2 := World.block_lt_of_cell? w _ hM
  simp only at hl hl2
  cases h1 : (p.st == 3)
  · go_enter Try.func45, Try.ntmps45
    go_wp2_with fail
    go_region
    all_goals
    go_wp2
    go_ret
    exact ⟨rfl, ((Below.refl _ _).alloc (Nat.le_refl _) _).drew⟩
  · go_enter Try.func45, Try.ntmps45
    go_wp2_with fail
    go_region
    all_goals
    go_wp2
    go_ret
    exact ⟨rfl, ((Below.refl _ _).alloc (Nat.le_refl _) _).drew⟩
theorem isId_any (p : Pd) (C : Nat) (id : Int) (w : World) (hC : w.cell? ⟨C, 0, none⟩ = some (.int .i64 id)) :
    Calls Try.prog 61 #[pV p, .pointer (some ⟨C, 0, none⟩)] w fun e w' => e = .returned (.bool (isId id p)) ∧ Below w.heap.size w w' := by
  unfold pV
  have hl := World.block_lt_of_cell? w _ hC
  go_enter Try.func61, Try.ntmps61
  go_wp2
  go_ret
  exact ⟨rfl, (Below.refl _ _).alloc (Nat.le_refl _) _⟩
theorem cisId_any (p : Pd) (C : Nat) (id : Int) (w : World) (hC : w.cell? ⟨C, 0, none⟩ = some (.int .i64 id)) :
    Calls Try.prog 60 #[pV p, .pointer (some ⟨C, 0, none⟩)] w fun e w' => e = .returned (.bool (isId id p)) ∧ Below w.heap.size w w' := by
  unfold pV
  have hl := World.block_lt_of_cell? w _ hC
  go_enter Try.func60, Try.ntmps60
  go_wp2
  go_ret
  exact ⟨rfl, (Below.refl _ _).alloc (Nat.le_refl _) _⟩

/-- what a pod may do at once -/
def mostN (n : Int) : Int := if n < 1 then 1 else if n > 100 then 100 else n
theorem most_bd (n : Int) : 1 ≤ mostN n ∧ mostN n ≤ 100 := by unfold mostN; split <;> (try split) <;> omega
theorem new_any (n : Int) (w : World) : Calls Try.prog 9 #[.int .i64 n] w fun e w' => e = .returned (.pointer (some ⟨w.heap.size, 0, none⟩)) ∧ FAt w' w.heap.size w.heap.size (.slice none 0 0) ⟨mostN n, 0, []⟩ ∧ Below w.heap.size w w' := by
  have fin : ∀ m : Int, FAt (w.alloc (.cells #[.int .i64 m, .int .i64 0, .slice none 0 0] 75)) w.heap.size w.heap.size (.slice none 0 0) ⟨m, 0, []⟩ ∧ Below w.heap.size w (w.alloc (.cells #[.int .i64 m, .int .i64 0, .slice none 0 0] 75)) := by
    intro m
    refine ⟨⟨by simp, Nat.le_refl _, fun j u hu => ?_, rfl, fun j => by simp, World.ownsRow_nil _ _ _ _, by simp [Value.ownBlock]⟩, (Below.refl _ _).alloc (Nat.le_refl _) _⟩
    match j, hu with
    | 0, hu => simp at hu; subst hu; simp
    | 1, hu => simp at hu; subst hu; simp
    | 2, hu => simp at hu; subst hu; simp
    | j + 3, hu => simp at hu
  by_cases h1 : n < 1
  · have e : mostN n = 1 := by unfold mostN; simp [h1]
    have h2 : ¬ 1 < n := by omega
    have h3 : ¬ n > 1 := by omega
    rw [e]
    go_enter Try.func9, Try.ntmps9
    go_wp2
    go_ret
    exact ⟨rfl, fin _⟩
  · by_cases h2 : n > 100
    · have e : mostN n = 100 := by unfold mostN; rw [if_neg h1, if_pos h2]
      rw [e]
      have h3 : 1 < n := by omega
      go_enter Try.func9, Try.ntmps9
      go_wp2
      go_ret
      exact ⟨rfl, fin _⟩
    · have e : mostN n = n := by unfold mostN; rw [if_neg h1, if_neg h2]
      rw [e]
      have h3 : n ≤ 100 := by omega
      have h4 : 1 ≤ n := by omega
      go_enter Try.func9, Try.ntmps9
      go_wp2
      go_ret
      exact ⟨rfl, fin _⟩

def CnR (L : List Pd) (w : World) (d i : Value) (wr : World) : Prop := ∃ k : Nat, k ≤ L.length ∧ i = .int .i64 k ∧ d = .int .i64 (cnt (L.take k) : Int) ∧ Below w.heap.size w wr
set_option maxHeartbeats 2000000 in
theorem count_any (B Q : Nat) (v : Value) (F : FS) (w : World) (hA : FAt w B Q v F) (hL : F.L.length ≤ 1000000000) :
    Calls Try.prog 23 #[.pointer (some ⟨Q, 0, none⟩)] w fun e w' => e = .returned (.int .i64 (cnt F.L : Int)) ∧ Below w.heap.size w w' := by
  obtain ⟨ao, cap, rfl, hc1, hc2, hao⟩ := hA.form
  have cV := hA.cV
  have hR := hA.row
  generalize F.L = L at *
  clear hA
  go_enter Try.func23, Try.ntmps23
  go_wp2
  go_loopw [3, 11] (fun d i wr => CnR L w d i wr) (fun _ i _ => L.length - (intOf i).toNat)
  case atStart => exact ⟨0, by omega, rfl, by simp [cnt], Below.refl _ _⟩
  case round =>
    obtain ⟨k, hk, rfl, rfl, hb⟩ := hrel
    by_cases hlt : k < L.length
    · have hlt' : (k : Int) < (L.length : Int) := by omega
      obtain ⟨g, rfl, hg, hc⟩ := row_pod (hR.below hb) (by omega)
      obtain ⟨m, hm⟩ : ∃ m, L[k]? = some m := ⟨L[k], by simp [hlt]⟩
      obtain ⟨c0, c1, c2⟩ := hc k m hm
      have hs := cnt_step hm
      have hd : cnt (L.take k) ≤ 1000000000 := Nat.le_trans (cnt_le _) (by rw [List.length_take]; omega)
      have c3 := fun w => stays_any m w
      simp only [pV] at c3
      clear hc hR cV
      have hbw := hb.alloc hb.size (.cells #[.int .i64 m.id, .int .i64 m.st, .int .i64 m.ld] 50)
      have HB : Hid (Below w.heap.size w (wr.alloc (.cells #[.int .i64 m.id, .int .i64 m.st, .int .i64 m.ld] 50))) := hbw
      clear hb hbw
      cases hm2 : stays m
      · simp only [hm2, Bool.false_eq_true, if_false, Nat.add_zero] at hs c3
        go_wp2_with (go_at_call 38; (with_reducible refine (c3 _).mono ?_); rintro e w3 ⟨rfl, hb3⟩)
        go_roundw
        case rel => exact ⟨k + 1, by omega, rfl, by rw [hs], HB.out.trans (hb3.mono HB.out.size)⟩
        case measure => simp [intOf]; omega
      · simp only [hm2, if_true] at hs c3
        go_wp2_with (go_at_call 38; (with_reducible refine (c3 _).mono ?_); rintro e w3 ⟨rfl, hb3⟩)
        go_roundw
        case rel => exact ⟨k + 1, by omega, rfl, by rw [hs]; simp, HB.out.trans (hb3.mono HB.out.size)⟩
        case measure => simp [intOf]; omega
    · obtain rfl : k = L.length := by omega
      go_wp2
      go_ret
      exact ⟨by rw [List.take_length]; rfl, hb⟩
end Flt
end Go.Proofs.Ytomdimljcbnnnac
