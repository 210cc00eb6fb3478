
/- What the functions on rows of moments answer: above, follow. -/
import Derived.Test.YtanlhkokghjadacRows
import Derived.WalkKit
import Derived.ProofKit
import Derived.Test.YtanlhkokghjadacStbPlain
import Derived.OwnWalk
import Derived.Deep.Quiet
namespace Go.Proofs.Ytanlhkokghjadac
namespace Stb
open Rw Go.RowKit
set_option maxRecDepth 8000

/-- a row of moments -/
abbrev MOwn (w : World) (B : Nat) (v : Value) (L : List Mo) : Prop := Own w B 57 2 v L.length (cels mc L)
theorem own_mo {w : World} {B : Nat} {e : TypeId} {g off cap n : Nat} {L : List Mo} (h : Own w B e 2 (.slice (some ⟨g, off, none⟩) n cap) L.length (cels mc L)) (hn : n = L.length) {i : Nat} {m : Mo} (hm : L[i]? = some m) :
    w.cell? ⟨g, off + i * 2, none⟩ = some (.int .i64 m.t) ∧ w.cell? ⟨g, off + i * 2 + 1, none⟩ = some (.int .i64 m.p) ∧ w.frozen? ⟨g, off + i * 2, none⟩ = false ∧ w.frozen? ⟨g, off + i * 2 + 1, none⟩ = false ∧ g < w.heap.size := by
  subst hn
  have hi : i < L.length := (List.getElem?_eq_some_iff.1 hm).1
  have a := h.cell (i * 2) (by omega)
  have b := h.cell (i * 2 + 1) (by omega)
  have c0 := cels_get mc_len L i 0 m hm (by omega)
  have c1 := cels_get mc_len L i 1 m hm (by omega)
  rw [Nat.add_zero] at c0
  rw [c0] at a
  rw [c1] at b
  exact ⟨a.1, b.1, a.2.1, b.2.1, a.2.2⟩

theorem own_abv {w : World} {B : Nat} {e : TypeId} {ao : Option Addr} {cap : Nat} {L : List Mo} (h : Own w B e 2 (.slice ao L.length cap) L.length (cels mc L)) (k : Nat) (hk : k ≤ L.length) :
    Own w B e 2 (.slice (if cap = k then ao else ao.map (·.add (k * 2))) (L.length - k) (cap - k)) (L.drop k).length (cels mc (L.drop k)) ∧ (Value.slice (if cap = k then ao else ao.map (·.add (k * 2))) (L.length - k) (cap - k)).ownBlock = (Value.slice ao L.length cap).ownBlock := by
  rw [cels_drop mc_len, List.length_drop]
  obtain ⟨ao', cap', he, h1, h2, h3, h4, h5⟩ := h.form
  cases he
  cases ao with
  | none =>
    have hc := h4 rfl
    have hl : L.length = 0 := by omega
    have hk0 : k = 0 := by omega
    subst hk0 hc
    have hL : L = [] := List.eq_nil_of_length_eq_zero hl
    subst hL
    exact ⟨by simpa [cels] using Own.nil w B e 2, by simp⟩
  | some a =>
    obtain ⟨g, off, rfl⟩ := h5 a rfl
    by_cases hc : cap = k
    · have := h.rest (off' := off) k hk (Or.inr ⟨hc, rfl⟩)
      rw [if_pos hc]
      exact ⟨this, by simp [Value.ownBlock]⟩
    · have := h.rest (off' := off + k * 2) k hk (Or.inl rfl)
      have hadd : (⟨g, off, none⟩ : Addr).add (k * 2) = ⟨g, off + k * 2, none⟩ := by unfold Addr.add; split <;> simp_all
      rw [if_neg hc]
      simp only [Option.map_some, hadd]
      exact ⟨this, by simp [Value.ownBlock]⟩
/-- what above comes to -/
def AbA (B : Nat) (v : Value) (L : List Mo) (t : Int) (w : World) (e : Ending) (w' : World) : Prop := ∃ v', e = .returned v' ∧ MOwn w B v' (abv L t) ∧ v'.ownBlock = v.ownBlock ∧ w' = w
theorem aba_end {B : Nat} {ao : Option Addr} {L : List Mo} {t : Int} {w : World} (hO : MOwn w B (.slice ao L.length L.length) L) (e1 : abv L t = L.drop L.length) : AbA B (.slice ao L.length L.length) L t w (.returned (.slice ao 0 0)) w := by
  obtain ⟨a, b⟩ := own_abv hO L.length (Nat.le_refl _)
  rw [← e1] at a
  simp only [if_true, Nat.sub_self] at a b
  exact ⟨_, rfl, a, b, rfl⟩
theorem aba_mid {B g off : Nat} {cap : Nat} {L : List Mo} {t : Int} {w : World} (hO : MOwn w B (.slice (some ⟨g, off, none⟩) L.length cap) L) (k : Nat) (hk : k ≤ L.length) (e1 : abv L t = L.drop k) (hc : ¬ cap = k) :
    AbA B (.slice (some ⟨g, off, none⟩) L.length cap) L t w (.returned (.slice (some ⟨g, off + k * 2, none⟩) (L.length - k) (cap - k))) w := by
  obtain ⟨a, b⟩ := own_abv hO k hk
  rw [← e1] at a
  have hadd : (⟨g, off, none⟩ : Addr).add (k * 2) = ⟨g, off + k * 2, none⟩ := by unfold Addr.add; split <;> simp_all
  rw [if_neg hc] at a b
  simp only [Option.map_some, hadd] at a b
  exact ⟨_, rfl, a, b, rfl⟩

def AbR (L : List Mo) (t : Int) (w : World) (i : Value) (wr : World) : Prop :=
  ∃ k : Nat, k ≤ L.length ∧ i = .int .i64 k ∧ (∀ j m, j < k → L[j]? = some m → m.t ≤ t) ∧ wr = w
theorem ab_step {L : List Mo} {t : Int} {k : Nat} {m : Mo} (h : ∀ j x, j < k → L[j]? = some x → x.t ≤ t) (hm : L[k]? = some m) (hp : m.t ≤ t) : ∀ j x, j < k + 1 → L[j]? = some x → x.t ≤ t := by
  intro j x hj hx
  by_cases e : j = k
  · subst e; rw [hm] at hx; cases hx; exact hp
  · exact h j x (by omega) hx

set_option maxHeartbeats 4000000 in
theorem above_any (B : Nat) (v : Value) (L : List Mo) (t : Int) (w : World) (hO : MOwn w B v L) (hL : L.length ≤ 100000) :
    Calls Try.prog 22 #[v, .int .i64 t] w (AbA B v L t w) := by
  obtain ⟨ao, cap, rfl, hc1, hc2, hao, hnn, hsm⟩ := hO.form
  go_enter Try.func22, Try.ntmps22
  go_wp2
  go_loopw [5] (fun i wr => AbR L t w i wr) (fun i _ => L.length - (intOf i).toNat)
  case atStart => exact ⟨0, by omega, rfl, fun j m hj => absurd hj (by omega), rfl⟩
  case round =>
    obtain ⟨k, hk, rfl, hno, rfl⟩ := hrel
    by_cases hlt : k < L.length
    · have hlt' : (k : Int) < (L.length : Int) := by omega
      obtain ⟨g, off, rfl⟩ := hao (by omega)
      obtain ⟨m, hm⟩ : ∃ m, L[k]? = some m := ⟨L[k], by simp [hlt]⟩
      obtain ⟨c0, c1, _, _, hg⟩ := own_mo hO rfl hm
      by_cases hp : m.t ≤ t
      · have hs := ab_step hno hm hp
        go_wp2
        go_roundw
        case rel => exact ⟨k + 1, by omega, rfl, hs, rfl⟩
        case measure => simp [intOf]; omega
      · have hc : ¬ cap = k := by omega
        have HA : Hid (AbA B (.slice (some ⟨g, off, none⟩) L.length cap) L t wr (.returned (.slice (some ⟨g, off + k * 2, none⟩) (L.length - k) (cap - k))) wr) := aba_mid (t := t) hO k hk (abv_is L t k hk (fun i m hi => hno i m hi) (Or.inr ⟨m, hm, hp⟩)).1 hc
        have hk2 : (k : Int) ≤ (L.length : Int) := by omega
        clear hno
        go_wp2
        go_ret
        exact HA.out
    · obtain rfl : k = L.length := by omega
      have e1 := (abv_is L t L.length hk (fun i m hi => hno i m hi) (Or.inl rfl)).1
      by_cases hc : cap = L.length
      · subst hc
        have HA : Hid (AbA B (.slice ao L.length L.length) L t wr (.returned (.slice ao 0 0)) wr) := aba_end (t := t) hO e1
        clear hno e1
        go_wp2
        go_ret
        exact HA.out
      · cases ao with
        | none => exact absurd (hnn rfl) (by omega)
        | some a =>
          obtain ⟨g, off, rfl⟩ := hsm a rfl
          have hA := aba_mid (t := t) hO L.length hk e1 hc
          rw [Nat.sub_self] at hA
          have HA : Hid (AbA B (.slice (some ⟨g, off, none⟩) L.length cap) L t wr (.returned (.slice (some ⟨g, off + L.length * 2, none⟩) 0 (cap - L.length))) wr) := hA
          clear hA
          clear hno e1
          go_wp2
          go_ret
          exact HA.out
end Stb
end Go.Proofs.Ytanlhkokghjadac
