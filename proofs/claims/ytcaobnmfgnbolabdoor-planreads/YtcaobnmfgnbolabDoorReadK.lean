/- How the text of a cron is read, as one function; what it refuses; that a cron's text is read back. -/
import Derived.Test.YtcaobnmfgnbolabDoorBackCron
import Derived.Test.YtcaobnmfgnbolabDoorPk2
namespace Go.Proofs.YtcaobnmfgnbolabDoor
namespace Pln
open Go.RowKit Crn Lai Pie
set_option maxRecDepth 8000

/-- what Parse (and the document's ReadCron) tell of a text, told apart -/
theorem cron_case (s : List UInt8) : (∃ E : Int, (E = 2 ∨ E = 3) ∧ ∀ e, ParseAns s e → e = .returned (.tuple #[cron0, .int .i64 E])) ∨
    ∃ c : K, Us c ∧ kc c = true ∧ ParseAns s (.returned (.tuple #[kV c, .int .i64 0])) ∧ ∀ e, ParseAns s e → e = .returned (.tuple #[kV c, .int .i64 0]) := by
  by_cases hl : 300 < s.length
  · refine Or.inl ⟨2, Or.inl rfl, fun e h => ?_⟩
    rcases h with ⟨_, h⟩ | ⟨h, _⟩ | ⟨h, _⟩
    · exact h
    · omega
    · omega
  · by_cases hr : (pieces 32 s).length = 5 ∧ ∃ v, Right (pieces 32 s) v
    · obtain ⟨hp, v, hv⟩ := hr
      obtain ⟨mi, ho, da, mn, we, ad, aw, rfl, u0, u1, u2, u3, u4, hc⟩ := right_chk hv
      refine Or.inr ⟨⟨mi, ho, da, mn, we, ad, aw⟩, ⟨u0, u1, u2, u3, u4⟩, hc, Or.inr (Or.inr ⟨by omega, hp, _, hv, rfl⟩), fun e h => ?_⟩
      rcases h with ⟨h, _⟩ | ⟨_, h, _⟩ | ⟨_, _, v', h, rfl⟩
      · exact absurd h hl
      · rcases h with h | h
        · exact absurd hp h
        · exact absurd h (right_not hv)
      · rw [right_one h hv]
    · refine Or.inl ⟨3, Or.inr rfl, fun e h => ?_⟩
      rcases h with ⟨h, _⟩ | ⟨_, _, h⟩ | ⟨_, hp, v', h, _⟩
      · exact absurd h hl
      · exact h
      · exact absurd ⟨hp, v', h⟩ hr
/-- rd: how the text of a cron is read -/
structure RdOk (rd : List UInt8 → Option K) : Prop where
  yes : ∀ s c, rd s = some c → Us c ∧ kc c = true ∧ ParseAns s (.returned (.tuple #[kV c, .int .i64 0])) ∧ ∀ e, ParseAns s e → e = .returned (.tuple #[kV c, .int .i64 0])
  no : ∀ s, rd s = none → ∃ E : Int, (E = 2 ∨ E = 3) ∧ ∀ e, ParseAns s e → e = .returned (.tuple #[cron0, .int .i64 E])
theorem rd_exists : ∃ rd, RdOk rd := by
  classical
  have key : ∀ s, ∃ o : Option K, (∀ c, o = some c → Us c ∧ kc c = true ∧ ParseAns s (.returned (.tuple #[kV c, .int .i64 0])) ∧ ∀ e, ParseAns s e → e = .returned (.tuple #[kV c, .int .i64 0])) ∧ (o = none → ∃ E : Int, (E = 2 ∨ E = 3) ∧ ∀ e, ParseAns s e → e = .returned (.tuple #[cron0, .int .i64 E])) := fun s => by
    rcases cron_case s with h | ⟨c, h⟩
    · exact ⟨none, fun c hc => (by cases hc), fun _ => h⟩
    · exact ⟨some c, fun c' hc => (by cases hc; exact h), fun hc => (by cases hc)⟩
  exact ⟨fun s => Classical.choose (key s), fun s => (Classical.choose_spec (key s)).1, fun s => (Classical.choose_spec (key s)).2⟩
theorem slash_item (lo hi : Int) : wordS lo hi (pieces 44 [47]) = none := by
  rw [pieces_none (by decide)]
  have e : itemS lo hi [47] = none := by
    unfold itemS
    rw [show cutS 47 [47] = some ([], []) from rfl]
    have r : rowS lo hi [] = none := by unfold rowS; rw [if_neg (by decide)]; rfl
    dsimp only
    rw [r]
  unfold wordS
  rw [e]
/-- a text with the word `/` is no cron; nor is the empty one -/
theorem rd_wrong {rd : List UInt8 → Option K} (h : RdOk rd) {s : List UInt8} (hw : Wrong (pieces 32 s)) : rd s = none := by
  cases hr : rd s with
  | none => rfl
  | some c =>
    exfalso
    obtain ⟨_, _, _, h4⟩ := h.yes s c hr
    by_cases hl : 300 < s.length
    · have := h4 _ (Or.inl ⟨hl, rfl⟩); simp at this
    · have := h4 _ (Or.inr (Or.inl ⟨by omega, hw, rfl⟩)); simp at this
theorem rd_slash {rd : List UInt8 → Option K} (h : RdOk rd) (s : List UInt8) (hs : [47] ∈ pieces 32 s) : rd s = none := by
  refine rd_wrong h ?_
  by_cases hp : (pieces 32 s).length = 5
  · obtain ⟨i, hi⟩ := List.mem_iff_getElem?.1 hs
    refine Or.inr ⟨i, by have := (List.getElem?_eq_some_iff.1 hi).1; omega, ?_⟩
    unfold wItems
    rw [List.getD_eq_getElem?_getD, hi]
    exact slash_item _ _
  · exact Or.inl hp
theorem rd_nil {rd : List UInt8 → Option K} (h : RdOk rd) : rd [] = none := rd_wrong h (Or.inl (by decide))
/-- a right cron's text is read back -/
theorem rd_back {rd : List UInt8 → Option K} (h : RdOk rd) (c : K) (u : Us c) (hc : kc c = true) : rd (cronT (wds c.mi c.ho c.da c.mn c.we c.ad c.aw)) = some c := by
  obtain ⟨h1, h2, h3⟩ := cron_back u.u0 u.u1 u.u2 u.u3 u.u4 hc
  have ha : ParseAns (cronT (wds c.mi c.ho c.da c.mn c.we c.ad c.aw)) (.returned (.tuple #[kV c, .int .i64 0])) := Or.inr (Or.inr ⟨h3, h2, _, h1, rfl⟩)
  cases hr : rd (cronT (wds c.mi c.ho c.da c.mn c.we c.ad c.aw)) with
  | none =>
    obtain ⟨E, hE, g⟩ := h.no _ hr
    have := g _ ha
    simp at this
    omega
  | some d =>
    obtain ⟨_, _, _, g⟩ := h.yes _ d hr
    have := g _ ha
    cases c
    cases d
    simp at this
    simp [this]
end Pln
end Go.Proofs.YtcaobnmfgnbolabDoor
