
/- What cron.Next answers. -/
import Derived.Test.YtcaobnmfgnbolafDoorCronNextW
namespace Go.Proofs.YtcaobnmfgnbolafDoor
namespace Crn
open Go.RowKit Lai Civ Cal
set_option maxRecDepth 8000

/-- what answer tells -/
def Ans (S : Int) (found : Bool) (n : Int) (ok : Bool) : Prop := (ok = true ∧ found = true ∧ n = S ∧ inT S = true) ∨ (ok = false ∧ n = 0 ∧ (inT S = false ∨ found = false))
theorem ans_any (day minute shift : Int) (found : Bool) (w : World) (hd : -5000000 ≤ day ∧ day ≤ 5000000) (hm : -100 ≤ minute ∧ minute ≤ 10000) (hs : shB shift = true) :
    Calls Tryd.prog 74 #[.int .i64 day, .int .i64 minute, .int .i64 shift, .bool found] w fun e w' => ∃ n ok, e = .returned (.tuple #[.int .i64 n, .bool ok, .int .i64 0]) ∧ Ans (day * 86400 + (minute - shift) * 60) found n ok ∧ Below w.heap.size w w' := by
  cases hi : inT (day * 86400 + (minute - shift) * 60)
  · exact (ans_no day minute shift found w hd hm hs (Or.inl hi)).mono fun e w' ⟨h1, h2⟩ => ⟨_, _, h1, Or.inr ⟨rfl, rfl, Or.inl hi⟩, h2⟩
  · cases found
    · exact (ans_no day minute shift false w hd hm hs (Or.inr rfl)).mono fun e w' ⟨h1, h2⟩ => ⟨_, _, h1, Or.inr ⟨rfl, rfl, Or.inr rfl⟩, h2⟩
    · exact (ans_yes day minute shift w hd hm hs hi).mono fun e w' ⟨h1, h2⟩ => ⟨_, _, h1, Or.inl ⟨rfl, rfl, rfl, hi⟩, h2⟩

theorem next_ans {mi ho da mn we : Int} {ad aw : Bool} {U shift S n : Int} {found ok : Bool} (u : Int) (hS : found = true → FirstN mi ho da mn we ad aw U u ∧ S = at60 u shift) (hN : found = false → NoneN mi ho da mn we ad aw U) (hA : Ans S found n ok) : NextIs mi ho da mn we ad aw U shift n ok := by
  rcases hA with ⟨rfl, hf, rfl, ht⟩ | ⟨rfl, rfl, h⟩
  · obtain ⟨h1, h2⟩ := hS hf
    exact Or.inl ⟨rfl, u, h2, ht, h1⟩
  · refine Or.inr ⟨rfl, rfl, ?_⟩
    cases found
    · exact Or.inl (hN rfl)
    · obtain ⟨h1, h2⟩ := hS rfl
      rcases h with h | h
      · exact Or.inr ⟨u, by rw [← h2]; exact h, h1⟩
      · cases h
theorem last_ans {mi ho da mn we : Int} {ad aw : Bool} {U shift S n : Int} {found ok : Bool} (u : Int) (hS : found = true → LastN mi ho da mn we ad aw U u ∧ S = at60 u shift) (hN : found = false → NoneL mi ho da mn we ad aw U) (hA : Ans S found n ok) : LastIs mi ho da mn we ad aw U shift n ok := by
  rcases hA with ⟨rfl, hf, rfl, ht⟩ | ⟨rfl, rfl, h⟩
  · obtain ⟨h1, h2⟩ := hS hf
    exact Or.inl ⟨rfl, u, h2, ht, h1⟩
  · refine Or.inr ⟨rfl, rfl, ?_⟩
    cases found
    · exact Or.inl (hN rfl)
    · obtain ⟨h1, h2⟩ := hS rfl
      rcases h with h | h
      · exact Or.inr ⟨u, by rw [← h2]; exact h, h1⟩
      · cases h
theorem mf_bd (mi ho h m : Int) (b0 : U mi) (b1 : U ho) (hh : 0 ≤ h ∧ h ≤ 23) (hm : 0 ≤ m ∧ m ≤ 60) : -100 ≤ mf mi ho h m ∧ mf mi ho h m ≤ 10000 := by
  have f1 := frm_bd mi m b0 hm.1
  have f2 := frm_bd ho (h + 1) b1 (by omega)
  have f3 := frm_bd mi 0 b0 (by omega)
  unfold mf; split <;> omega
theorem mu_bd (mi ho h m : Int) (b0 : U mi) (b1 : U ho) (hh : 0 ≤ h ∧ h ≤ 23) (hm : 0 ≤ m ∧ m ≤ 59) : -100 ≤ mu mi ho h m ∧ mu mi ho h m ≤ 10000 := by
  have f1 := upt_bd mi m b0 (by omega)
  have f2 := upt_bd ho (h - 1) b1 (by omega)
  have f3 := upt_bd mi 59 b0 (by omega)
  unfold mu; split <;> omega

end Crn
end Go.Proofs.YtcaobnmfgnbolafDoor
