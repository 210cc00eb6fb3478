/- A text cut at each byte of one sort. -/
import Derived.Lib.SplitLaws
import Derived.Lib.IndexLaws
import Derived.Lib.IndexBytes
namespace Go.Proofs.YtbfnjjdgiihngaaDoor
namespace Pie

/-- the pieces of a text between the bytes c -/
def pieces (c : UInt8) : List UInt8 → List (List UInt8)
  | [] => [[]]
  | x :: r => if x = c then [] :: pieces c r else (x :: (pieces c r).headD []) :: (pieces c r).tail

theorem pieces_cons (c x : UInt8) (r : List UInt8) : pieces c (x :: r) = if x = c then [] :: pieces c r else (x :: (pieces c r).headD []) :: (pieces c r).tail := rfl
theorem pieces_ne (c : UInt8) : ∀ l, pieces c l ≠ []
  | [] => by simp [pieces]
  | x :: r => by unfold pieces; split <;> simp
theorem pieces_none {c : UInt8} : ∀ {l : List UInt8}, c ∉ l → pieces c l = [l]
  | [], _ => rfl
  | x :: r, h => by
    have h1 : ¬ x = c := fun e => h (e ▸ List.mem_cons_self)
    have h2 := pieces_none (c := c) (l := r) (fun g => h (List.mem_cons_of_mem _ g))
    unfold pieces
    rw [if_neg h1, h2]; rfl
theorem pieces_hit {c : UInt8} {b : List UInt8} : ∀ {a : List UInt8}, c ∉ a → pieces c (a ++ c :: b) = a :: pieces c b
  | [], _ => by simp [pieces]
  | x :: r, h => by
    have h1 : ¬ x = c := fun e => h (e ▸ List.mem_cons_self)
    have h2 := pieces_hit (c := c) (b := b) (a := r) (fun g => h (List.mem_cons_of_mem _ g))
    rw [List.cons_append, pieces_cons, if_neg h1, h2]; rfl
/-- a text has the byte, or it has not -/
theorem cut_cases (c : UInt8) : ∀ l : List UInt8, c ∉ l ∨ ∃ a b, l = a ++ c :: b ∧ c ∉ a
  | [] => Or.inl (by simp)
  | x :: r => by
    by_cases e : x = c
    · exact Or.inr ⟨[], r, by simp [e], by simp⟩
    · rcases cut_cases c r with h | ⟨a, b, h1, h2⟩
      · exact Or.inl (by simp [h]; exact fun g => e g.symm)
      · exact Or.inr ⟨x :: a, b, by simp [h1], by simp [h2]; exact fun g => e g.symm⟩
theorem index_none {c : UInt8} {l : List UInt8} (h : c ∉ l) : Lib.indexByte l c = -1 := by
  rcases Int.lt_or_le (Lib.indexByte l c) 0 with g | g
  · have := Lib.indexByte_ge l c; omega
  · obtain ⟨o, ho⟩ := Int.eq_ofNat_of_zero_le g
    exact absurd (List.mem_of_getElem? (Lib.indexByte_some ho).1) h
theorem index_hit {c : UInt8} {a b : List UInt8} (h : c ∉ a) : Lib.indexByte (a ++ c :: b) c = a.length := by
  have key : (a ++ c :: b)[a.length]? = some c := by simp
  rcases Int.lt_or_le (Lib.indexByte (a ++ c :: b) c) 0 with g | g
  · have := Lib.indexByte_ge (a ++ c :: b) c
    exact absurd key (Lib.indexByte_none (show Lib.indexByte (a ++ c :: b) c = -1 by omega) a.length)
  · obtain ⟨o, ho⟩ := Int.eq_ofNat_of_zero_le g
    obtain ⟨h1, h2⟩ := Lib.indexByte_some ho
    rw [ho]
    have h3 : ¬ o < a.length := fun e => by
      rw [List.getElem?_append_left e] at h1
      exact h (List.mem_of_getElem? h1)
    have h4 : ¬ a.length < o := fun e => h2 a.length e key
    omega
theorem splitK_pieces (c : UInt8) : ∀ (k : Nat) (l : List UInt8), l.count c = k → Lib.splitK [c] 0 k l = pieces c l
  | 0, l, h => by
    rw [pieces_none (List.count_eq_zero.1 h)]; rfl
  | k + 1, l, h => by
    rcases cut_cases c l with g | ⟨a, b, rfl, ha⟩
    · rw [List.count_eq_zero.2 g] at h; omega
    · have hb : b.count c = k := by
        rw [List.count_append, List.count_cons_self, List.count_eq_zero.2 ha] at h; omega
      unfold Lib.splitK
      rw [Lib.index_one, index_hit ha, pieces_hit ha]
      have e1 : ((a.length : Int) == -1) = false := by rw [beq_eq_false_iff_ne]; omega
      rw [e1]
      simp only [Bool.false_eq_true, if_false, Int.toNat_natCast, Nat.add_zero, List.length_cons, List.length_nil]
      rw [show (a ++ c :: b).take a.length = a by simp, show (a ++ c :: b).drop (a.length + (0 + 1)) = b by simp]
      rw [splitK_pieces c k b hb]
theorem pieces_len (c : UInt8) : ∀ l, (pieces c l).length = l.count c + 1
  | [] => rfl
  | x :: r => by
    have ih := pieces_len c r
    unfold pieces
    by_cases e : x = c
    · rw [if_pos e, e, List.count_cons_self, List.length_cons, ih]
    · rw [if_neg e, List.length_cons, List.length_tail, ih, List.count_cons_of_ne e]; omega
theorem pieces_sub (c : UInt8) : ∀ (l : List UInt8) (p : List UInt8), p ∈ pieces c l → p.length ≤ l.length
  | [], p, h => by simp [pieces] at h; subst h; simp
  | x :: r, p, h => by
    have ih := pieces_sub c r
    unfold pieces at h
    by_cases e : x = c
    · rw [if_pos e] at h
      rcases List.mem_cons.1 h with rfl | h
      · simp
      · have := ih p h; simp; omega
    · rw [if_neg e] at h
      rcases List.mem_cons.1 h with rfl | h
      · have : (pieces c r).headD [] ∈ pieces c r := by
          cases g : pieces c r with
          | nil => exact absurd g (pieces_ne c r)
          | cons y ys => simp
        have := ih _ this
        simp only [List.length_cons]; omega
      · have := ih p (List.mem_of_mem_tail h); simp; omega
end Pie
end Go.Proofs.YtbfnjjdgiihngaaDoor
