/- The law that plans come back: any plan, any text. -/
import Derived.Test.YtcfncgjpbdkagafDoorPk11
import Derived.Test.YtcfncgjpbdkagafDoorFrame
namespace Go.Proofs.YtcfncgjpbdkagafDoor
namespace Pln
open Go.RowKit Lai Civ Crn
set_option maxRecDepth 8000

theorem tr_of {W : World} {a : Option Addr} {len : Nat} {X : Nat → Nat → Value} (h : Frm.CellsIn W a len 17 X) (hk : Frm.LeavesIn len [.i64, .i64, .i64, .u64, .u64, .u64, .u64, .u64, .bool, .bool, .u64, .u64, .u64, .u64, .u64, .bool, .bool] X) (i : Nat) (hi : i < len) : ∃ t : Tr, TrU t ∧ ∃ b off, a = some ⟨b, off, none⟩ ∧ b < W.heap.size ∧ ∀ j, j < 17 → W.cell? ⟨b, off + (i * 17 + j), none⟩ = (trC t)[j]? := by
  obtain ⟨z0, e0, b0⟩ := hk i hi 0 _ rfl
  obtain ⟨z1, e1, b1⟩ := hk i hi 1 _ rfl
  obtain ⟨z2, e2, b2⟩ := hk i hi 2 _ rfl
  obtain ⟨z3, e3, b3⟩ := hk i hi 3 _ rfl
  obtain ⟨z4, e4, b4⟩ := hk i hi 4 _ rfl
  obtain ⟨z5, e5, b5⟩ := hk i hi 5 _ rfl
  obtain ⟨z6, e6, b6⟩ := hk i hi 6 _ rfl
  obtain ⟨z7, e7, b7⟩ := hk i hi 7 _ rfl
  obtain ⟨z8, e8⟩ := hk i hi 8 _ rfl
  obtain ⟨z9, e9⟩ := hk i hi 9 _ rfl
  obtain ⟨z10, e10, b10⟩ := hk i hi 10 _ rfl
  obtain ⟨z11, e11, b11⟩ := hk i hi 11 _ rfl
  obtain ⟨z12, e12, b12⟩ := hk i hi 12 _ rfl
  obtain ⟨z13, e13, b13⟩ := hk i hi 13 _ rfl
  obtain ⟨z14, e14, b14⟩ := hk i hi 14 _ rfl
  obtain ⟨z15, e15⟩ := hk i hi 15 _ rfl
  obtain ⟨z16, e16⟩ := hk i hi 16 _ rfl
  obtain ⟨b, off, ha, hlt, hc⟩ := h i hi
  refine ⟨⟨z0, z1, z2, ⟨z3, z4, z5, z6, z7, z8, z9⟩, ⟨z10, z11, z12, z13, z14, z15, z16⟩⟩, ⟨b0, b1, b2, ⟨b3, b4, b5, b6, b7⟩, ⟨b10, b11, b12, b13, b14⟩⟩, b, off, ha, hlt, fun j hj => ?_⟩
  rw [hc j hj]
  match j, hj with
  | 0, _ => rw [e0]; simp
  | 1, _ => rw [e1]; simp
  | 2, _ => rw [e2]; simp
  | 3, _ => rw [e3]; simp
  | 4, _ => rw [e4]; simp
  | 5, _ => rw [e5]; simp
  | 6, _ => rw [e6]; simp
  | 7, _ => rw [e7]; simp
  | 8, _ => rw [e8]; simp
  | 9, _ => rw [e9]; simp
  | 10, _ => rw [e10]; simp
  | 11, _ => rw [e11]; simp
  | 12, _ => rw [e12]; simp
  | 13, _ => rw [e13]; simp
  | 14, _ => rw [e14]; simp
  | 15, _ => rw [e15]; simp
  | 16, _ => rw [e16]; simp
  | j + 17, hj => omega
theorem trs_of {W : World} {a : Option Addr} {len : Nat} {X : Nat → Nat → Value} (h : Frm.CellsIn W a len 17 X) (hk : Frm.LeavesIn len [.i64, .i64, .i64, .u64, .u64, .u64, .u64, .u64, .bool, .bool, .u64, .u64, .u64, .u64, .u64, .bool, .bool] X) : ∃ ts : List Tr, ts.length = len ∧ TrsAt W a ts ∧ ∀ t ∈ ts, TrU t := by
  classical
  let f : Nat → Tr := fun i => if hi : i < len then Classical.choose (tr_of h hk i hi) else ⟨0, 0, 0, ⟨0, 0, 0, 0, 0, false, false⟩, ⟨0, 0, 0, 0, 0, false, false⟩⟩
  have hf : ∀ i, i < len → TrU (f i) ∧ ∃ b off, a = some ⟨b, off, none⟩ ∧ b < W.heap.size ∧ ∀ j, j < 17 → W.cell? ⟨b, off + (i * 17 + j), none⟩ = (trC (f i))[j]? := fun i hi => by
    have := Classical.choose_spec (tr_of h hk i hi)
    simp only [f, dif_pos hi]
    exact this
  refine ⟨(List.range len).map f, by simp, fun i t ht => ?_, fun t ht => ?_⟩
  · have hlt : i < len := by have := (List.getElem?_eq_some_iff.1 ht).1; simpa using this
    rw [List.getElem?_map, List.getElem?_range hlt] at ht
    obtain rfl : f i = t := by simpa using ht
    exact (hf i hlt).2
  · obtain ⟨i, hi, rfl⟩ := List.mem_map.1 ht
    exact (hf i (List.mem_range.1 hi)).1

theorem pback_any (p : Pd) (ts : List Tr) (a : Option Addr) (cap : Nat) (s : List UInt8) (w : World) (hG : Gd w) (hi : PdI p) (hl : p.nm.length ≤ 9223372036854775807) (hTr : TrsAt w a ts) (hU : ∀ t ∈ ts, TrU t) (hlt : ts.length ≤ 9223372036854775807) (hs : s.length ≤ 9223372036854775807) :
    Calls Tryd.prog 3 #[planV p (.slice a ts.length cap), strV s] w fun e w' => e = .returned (.bool true) ∧ Below w.heap.size w w' := by
  obtain ⟨rd, hrd⟩ := rd_exists
  have h2 := text_ways hrd s hs
  by_cases hE : chkP p ts = 0
  · rcases plan_ways hrd p ts hi hU hE with h1 | h1
    · exact pb_L p ts a cap s w hG hTr hlt h1
    · rcases h2 with h2 | ⟨p2, ts2, h2, h3 | h3⟩
      · exact pb_SB p ts a cap s w hG hTr hlt h1 h2
      · exact pb_SL p ts a cap s w hG hTr hlt h1 ⟨p2, ts2, h2, h3⟩
      · exact pb_SS p ts a cap s w hG hTr hlt h1 ⟨p2, ts2, h2, h3⟩
  · have h1 : Bad1 p ts a cap w := ⟨_, hE, fun w' hb => print_bad' p ts a cap w' (hG.below hb).b hi hl (hTr.below hb (Nat.le_refl _)) _ rfl hE⟩
    rcases h2 with h2 | ⟨p2, ts2, h2, h3 | h3⟩
    · exact pb_BB p ts a cap s w hG hTr hlt h1 h2
    · exact pb_BL p ts a cap s w hG hTr hlt h1 ⟨p2, ts2, h2, h3⟩
    · exact pb_BS p ts a cap s w hG hTr hlt h1 ⟨p2, ts2, h2, h3⟩
end Pln
end Go.Proofs.YtcfncgjpbdkagafDoor
