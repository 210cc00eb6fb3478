
/- Package stable in plain mathematics: what was wanted when, by how many pods they were made more when. No program in sight. -/
import Derived.Test.YtanlhkokghjadacNumPlain
import Derived.Test.YtanlhkokghjadacRowMem
namespace Go.Proofs.Ytanlhkokghjadac
namespace Stb
open Plain

/-- a time, and so many pods -/
structure Mo where
  t : Int
  p : Int
/-- a pace: Window, Pods, Percent, Period -/
structure Pc where
  w : Int
  n : Int
  c : Int
  p : Int
def mc (m : Mo) : List Value := [.int .i64 m.t, .int .i64 m.p]
theorem mc_len (m : Mo) : (mc m).length = 2 := rfl

/-- those at the end that q holds of are gone -/
def cutE (q : Int → Bool) (L : List Mo) : List Mo := (L.reverse.dropWhile (fun m => q m.p)).reverse
def geq (want old : Int) : Bool := decide (want ≤ old)
def leq (want old : Int) : Bool := decide (old ≤ want)
def fol (q : Int → Bool) (L : List Mo) (m : Mo) : List Mo := cutE q L ++ [m]
def abv (L : List Mo) (t : Int) : List Mo := L.dropWhile (fun m => decide (m.t ≤ t))
def sumP : List Mo → Int
  | [] => 0
  | m :: L => m.p + sumP L

structure Ta where
  l : List Mo
  s : Int
def Ta.forget (T : Ta) (t : Int) : Ta := ⟨abv T.l t, T.s - sumP (T.l.takeWhile (fun m => decide (m.t ≤ t)))⟩
def Ta.add (T : Ta) (now pods : Int) : Ta :=
  if pods = 0 then T else
  match T.l.getLast? with
  | some m => if m.t = now then ⟨T.l.dropLast ++ [⟨now, m.p + pods⟩], T.s + pods⟩ else ⟨T.l ++ [⟨now, pods⟩], T.s + pods⟩
  | none => ⟨T.l ++ [⟨now, pods⟩], T.s + pods⟩

structure St where
  u : Pc
  d : Pc
  last : Int
  lo : List Mo
  hi : List Mo
  gr : Ta
  sh : Ta

def bnd (p : Pc) : Bool := p.p != 0 && (p.n != 0 || p.c != 0)
def hd (L : List Mo) (d : Int) : Int := match L with | [] => d | m :: _ => m.p
def baseU (s : St) (have_ : Int) : Int := max (have_ - s.gr.s) 0
def partU (s : St) (b : Int) : Int := up (clip (mulc (clip b) (clip s.u.c))) (clip 100)
def nU (s : St) (have_ want : Int) : Int :=
  if bnd s.u then max (min (hd s.lo want) (baseU s have_ + max s.u.n (partU s (baseU s have_)))) have_ else max (hd s.lo want) have_
def more (s : St) (now have_ want : Int) : St := if bnd s.u then { s with gr := s.gr.add now (nU s have_ want - have_) } else s
def partD (s : St) (b : Int) : Int := share (atz (clip b)) (atz (clip (10 * s.d.c)))
def nD (s : St) (have_ want : Int) : Int :=
  if bnd s.d then min (max (hd s.hi want) (have_ + s.sh.s - max s.d.n (partD s (have_ + s.sh.s)))) have_ else min (hd s.hi want) have_
def fewer (s : St) (now have_ want : Int) : St := if bnd s.d then { s with sh := s.sh.add now (have_ - nD s have_ want) } else s

def know (s : St) (now want : Int) : St :=
  { s with last := now, lo := fol (geq want) s.lo ⟨now, want⟩, hi := fol (leq want) s.hi ⟨now, want⟩ }
def forget (s : St) (now : Int) : St :=
  { s with lo := abv s.lo (now - s.u.w), hi := abv s.hi (now - s.d.w), gr := s.gr.forget (now - s.u.p), sh := s.sh.forget (now - s.d.p) }
def okArg (last now have_ want : Int) : Bool := decide (last ≤ now ∧ now ≤ 1099511627776 ∧ 0 ≤ have_ ∧ have_ ≤ 50 ∧ 0 ≤ want ∧ want ≤ 50)
/-- what Settle answers: the pods, the error, what it then knows -/
def setN (s : St) (now have_ want : Int) : Int :=
  if okArg s.last now have_ want then
    (if have_ < want then nU (forget (know s now want) now) have_ want else if want < have_ then nD (forget (know s now want) now) have_ want else have_)
  else 0
def setE (s : St) (now have_ want : Int) : Int := if okArg s.last now have_ want then 0 else 1
def setS (s : St) (now have_ want : Int) : St :=
  if okArg s.last now have_ want then
    (if have_ < want then more (forget (know s now want) now) now have_ want else if want < have_ then fewer (forget (know s now want) now) now have_ want else forget (know s now want) now)
  else s

theorem dw_all {α : Type} {q : α → Bool} {A B : List α} (h : ∀ a ∈ A, q a = true) : (A ++ B).dropWhile q = B.dropWhile q := by
  induction A with
  | nil => rfl
  | cons a A ih =>
    rw [List.cons_append, List.dropWhile_cons, h a (by simp)]
    exact ih (fun x hx => h x (by simp [hx]))
theorem tw_all {α : Type} {q : α → Bool} {A B : List α} (h : ∀ a ∈ A, q a = true) : (A ++ B).takeWhile q = A ++ B.takeWhile q := by
  induction A with
  | nil => rfl
  | cons a A ih =>
    rw [List.cons_append, List.takeWhile_cons, h a (by simp)]
    simp [ih (fun x hx => h x (by simp [hx]))]
theorem cutE_is (q : Int → Bool) (L : List Mo) (k : Nat) (hk : k ≤ L.length) (h1 : ∀ i m, k ≤ i → L[i]? = some m → q m.p = true) (h2 : k = 0 ∨ ∃ m, L[k - 1]? = some m ∧ q m.p = false) : cutE q L = L.take k := by
  have hL : L.reverse = (L.drop k).reverse ++ (L.take k).reverse := by rw [← List.reverse_append, List.take_append_drop]
  unfold cutE
  rw [hL, dw_all]
  · rcases h2 with rfl | ⟨m, hm, hq⟩
    · simp
    · have hl : k - 1 < L.length := (List.getElem?_eq_some_iff.1 hm).1
      have hk1 : k ≠ 0 := by
        intro e; subst e
        have := h1 0 m (Nat.le_refl _) hm
        rw [hq] at this; cases this
      have he : L.take k = L.take (k - 1) ++ [m] := by
        obtain ⟨hl', he⟩ := List.getElem?_eq_some_iff.1 hm
        rw [← he, List.take_append_getElem hl', Nat.sub_add_cancel (by omega)]
      rw [he, List.reverse_append]
      simp [hq]
  · intro a ha
    rw [List.mem_reverse] at ha
    obtain ⟨i, hi, he⟩ := List.getElem_of_mem ha
    rw [List.getElem_drop] at he
    have hi' : k + i < L.length := by simp at hi; omega
    exact h1 (k + i) a (by omega) (by rw [List.getElem?_eq_getElem hi', he])
theorem abv_is (L : List Mo) (t : Int) (k : Nat) (hk : k ≤ L.length) (h1 : ∀ i m, i < k → L[i]? = some m → m.t ≤ t) (h2 : k = L.length ∨ ∃ m, L[k]? = some m ∧ ¬ m.t ≤ t) : abv L t = L.drop k ∧ L.takeWhile (fun m => decide (m.t ≤ t)) = L.take k := by
  have hall : ∀ a ∈ L.take k, (fun m : Mo => decide (m.t ≤ t)) a = true := by
    intro a ha
    obtain ⟨i, hi, he⟩ := List.getElem_of_mem ha
    rw [List.getElem_take] at he
    have hi' : i < k ∧ i < L.length := by simp at hi; omega
    simp only [decide_eq_true_eq]
    exact h1 i a hi'.1 (by rw [List.getElem?_eq_getElem hi'.2, he])
  have hL : L = L.take k ++ L.drop k := (List.take_append_drop k L).symm
  have e1 : (L.drop k).dropWhile (fun m => decide (m.t ≤ t)) = L.drop k ∧ (L.drop k).takeWhile (fun m => decide (m.t ≤ t)) = [] := by
    rcases h2 with rfl | ⟨m, hm, hq⟩
    · simp
    · obtain ⟨hl, he⟩ := List.getElem?_eq_some_iff.1 hm
      rw [List.drop_eq_getElem_cons hl, he]
      simp [hq]
  refine ⟨?_, ?_⟩
  · show L.dropWhile _ = _
    conv => lhs; rw [hL]
    rw [dw_all hall, e1.1]
  · conv => lhs; rw [hL]
    rw [tw_all hall, e1.2, List.append_nil]
theorem sumP_append (A B : List Mo) : sumP (A ++ B) = sumP A + sumP B := by
  induction A with
  | nil => simp [sumP]
  | cons a A ih => simp [sumP, ih]; omega
theorem sumP_take (L : List Mo) (k : Nat) (m : Mo) (h : L[k]? = some m) : sumP (L.take (k + 1)) = sumP (L.take k) + m.p := by
  obtain ⟨hl, he⟩ := List.getElem?_eq_some_iff.1 h
  rw [← List.take_append_getElem hl, sumP_append, he]
  simp [sumP]

/-- a tally's sum is of its moments, which are not below 0 -/
structure TaOk (T : Ta) (k : Nat) : Prop where
  sum : T.s = sumP T.l
  pos : ∀ m ∈ T.l, 0 ≤ m.p
  le : T.s ≤ 50 * k
  len : T.l.length ≤ k
theorem sumP_pos {L : List Mo} (h : ∀ m ∈ L, 0 ≤ m.p) : 0 ≤ sumP L := by
  induction L with
  | nil => simp [sumP]
  | cons a A ih => have := h a (by simp); have := ih (fun m hm => h m (by simp [hm])); simp only [sumP]; omega
theorem TaOk.ge {T : Ta} {k : Nat} (h : TaOk T k) : 0 ≤ T.s := by rw [h.sum]; exact sumP_pos h.pos
/-- what is left while some of it is taken off -/
theorem TaOk.part {T : Ta} {k : Nat} (h : TaOk T k) (i : Nat) : 0 ≤ sumP (T.l.take i) ∧ sumP (T.l.take i) ≤ T.s := by
  have h1 : sumP T.l = sumP (T.l.take i) + sumP (T.l.drop i) := by rw [← sumP_append, List.take_append_drop]
  have h2 : 0 ≤ sumP (T.l.take i) := sumP_pos (fun m hm => h.pos m (List.mem_of_mem_take hm))
  have h3 : 0 ≤ sumP (T.l.drop i) := sumP_pos (fun m hm => h.pos m (List.mem_of_mem_drop hm))
  have := h.sum
  omega
theorem mem_abv {L : List Mo} {t : Int} {m : Mo} (h : m ∈ abv L t) : m ∈ L := (List.dropWhile_sublist _).subset h
theorem len_abv (L : List Mo) (t : Int) : (abv L t).length ≤ L.length := (List.dropWhile_sublist _).length_le
theorem mem_cutE {q : Int → Bool} {L : List Mo} {m : Mo} (h : m ∈ cutE q L) : m ∈ L := by
  unfold cutE at h
  rw [List.mem_reverse] at h
  exact List.mem_reverse.1 ((List.dropWhile_sublist _).subset h)
theorem len_cutE (q : Int → Bool) (L : List Mo) : (cutE q L).length ≤ L.length := by
  unfold cutE
  rw [List.length_reverse]
  have := (List.dropWhile_sublist (fun m : Mo => q m.p) (l := L.reverse)).length_le
  simpa using this
theorem TaOk.forget {T : Ta} {k : Nat} (h : TaOk T k) (t : Int) : TaOk (T.forget t) k := by
  have h1 : sumP T.l = sumP (T.l.takeWhile (fun m => decide (m.t ≤ t))) + sumP (abv T.l t) := by
    rw [← sumP_append]; unfold abv; rw [List.takeWhile_append_dropWhile]
  have h2 : 0 ≤ sumP (T.l.takeWhile (fun m => decide (m.t ≤ t))) := sumP_pos (fun m hm => h.pos m ((List.takeWhile_sublist _).subset hm))
  have h3 := h.sum
  have h4 := h.le
  refine ⟨by simp only [Ta.forget]; omega, fun m hm => h.pos m (mem_abv hm), by simp only [Ta.forget]; omega, Nat.le_trans (len_abv _ _) h.len⟩
theorem last_split {L : List Mo} {m : Mo} (h : L.getLast? = some m) : L = L.dropLast ++ [m] := by
  have hn : L ≠ [] := by intro e; subst e; simp at h
  have := List.dropLast_concat_getLast hn
  rw [List.getLast?_eq_some_getLast hn] at h
  cases h
  exact this.symm
theorem TaOk.add {T : Ta} {k : Nat} (h : TaOk T k) (now pods : Int) (h0 : 0 ≤ pods) (h1 : pods ≤ 50) : TaOk (T.add now pods) (k + 1) := by
  have hs := h.sum
  have hle := h.le
  have hlen := h.len
  unfold Ta.add
  split
  · exact ⟨hs, h.pos, by omega, by omega⟩
  · split
    · rename_i m hm
      have hsp := last_split hm
      have hmp := h.pos m (by rw [hsp]; simp)
      split
      · have h5 : sumP T.l = sumP T.l.dropLast + m.p := by
          have h6 := congrArg sumP hsp
          rw [sumP_append] at h6
          simpa [sumP] using h6
        refine ⟨by simp only [sumP_append, sumP]; omega, fun x hx => ?_, by simp only; omega, by simp; omega⟩
        simp only [List.mem_append, List.mem_singleton] at hx
        rcases hx with hx | rfl
        · exact h.pos x (by rw [hsp]; simp [hx])
        · simp only; omega
      · refine ⟨by simp only [sumP_append, sumP]; omega, fun x hx => ?_, by simp only; omega, by simp; omega⟩
        simp only [List.mem_append, List.mem_singleton] at hx
        rcases hx with hx | rfl
        · exact h.pos x hx
        · exact h0
    · refine ⟨by simp only [sumP_append, sumP]; omega, fun x hx => ?_, by simp only; omega, by simp; omega⟩
      simp only [List.mem_append, List.mem_singleton] at hx
      rcases hx with hx | rfl
      · exact h.pos x hx
      · exact h0

structure PcOk (p : Pc) : Prop where
  w : 0 ≤ p.w ∧ p.w ≤ 100000
  n : 0 ≤ p.n ∧ p.n ≤ 100000
  c : 0 ≤ p.c ∧ p.c ≤ 100000
  p : 0 ≤ p.p ∧ p.p ≤ 100000
/-- what a Stable holds fits: k calls at the most were made -/
structure Fit (s : St) (k : Nat) : Prop where
  u : PcOk s.u
  d : PcOk s.d
  last : 0 ≤ s.last ∧ s.last ≤ 1099511627776
  lo : ∀ m ∈ s.lo, 0 ≤ m.p ∧ m.p ≤ 50
  hi : ∀ m ∈ s.hi, 0 ≤ m.p ∧ m.p ≤ 50
  lol : s.lo.length ≤ k
  hil : s.hi.length ≤ k
  gr : TaOk s.gr k
  sh : TaOk s.sh k
theorem Fit.know {s : St} {k : Nat} (h : Fit s k) {now want : Int} (h0 : 0 ≤ now ∧ now ≤ 1099511627776) (h1 : 0 ≤ want ∧ want ≤ 50) : Fit (know s now want) (k + 1) := by
  have l1 := h.lol
  have l2 := h.hil
  refine ⟨h.u, h.d, h0, fun m hm => ?_, fun m hm => ?_, ?_, ?_, ⟨h.gr.sum, h.gr.pos, by have := h.gr.le; simp only [Stb.know]; omega, by have := h.gr.len; simp only [Stb.know]; omega⟩, ⟨h.sh.sum, h.sh.pos, by have := h.sh.le; simp only [Stb.know]; omega, by have := h.sh.len; simp only [Stb.know]; omega⟩⟩
  · simp only [Stb.know, fol, List.mem_append, List.mem_singleton] at hm
    rcases hm with hm | rfl
    · exact h.lo m (mem_cutE hm)
    · exact h1
  · simp only [Stb.know, fol, List.mem_append, List.mem_singleton] at hm
    rcases hm with hm | rfl
    · exact h.hi m (mem_cutE hm)
    · exact h1
  · have := len_cutE (geq want) s.lo
    simp only [Stb.know, fol, List.length_append, List.length_singleton]; omega
  · have := len_cutE (leq want) s.hi
    simp only [Stb.know, fol, List.length_append, List.length_singleton]; omega
theorem Fit.forget {s : St} {k : Nat} (h : Fit s k) (now : Int) : Fit (forget s now) k :=
  ⟨h.u, h.d, h.last, fun m hm => h.lo m (mem_abv hm), fun m hm => h.hi m (mem_abv hm), Nat.le_trans (len_abv _ _) h.lol, Nat.le_trans (len_abv _ _) h.hil, h.gr.forget _, h.sh.forget _⟩
theorem hd_bd {L : List Mo} {d : Int} (h : ∀ m ∈ L, 0 ≤ m.p ∧ m.p ≤ 50) (hd' : 0 ≤ d ∧ d ≤ 50) : 0 ≤ hd L d ∧ hd L d ≤ 50 := by
  unfold hd
  split
  · exact hd'
  · exact h _ (by simp)
theorem nU_bd {s : St} {k : Nat} (h : Fit s k) {hv want : Int} (h0 : 0 ≤ hv ∧ hv ≤ 50) (h1 : 0 ≤ want ∧ want ≤ 50) : hv ≤ nU s hv want ∧ nU s hv want ≤ 50 := by
  have := hd_bd h.lo h1
  unfold nU
  split <;> omega
theorem nD_bd {s : St} {k : Nat} (h : Fit s k) {hv want : Int} (h0 : 0 ≤ hv ∧ hv ≤ 50) (h1 : 0 ≤ want ∧ want ≤ 50) : 0 ≤ nD s hv want ∧ nD s hv want ≤ hv := by
  have := hd_bd h.hi h1
  unfold nD
  split <;> omega
theorem TaOk.mono {T : Ta} {k l : Nat} (h : TaOk T k) (hk : k ≤ l) : TaOk T l := ⟨h.sum, h.pos, by have := h.le; omega, Nat.le_trans h.len hk⟩
theorem Fit.mono {s : St} {k l : Nat} (h : Fit s k) (hk : k ≤ l) : Fit s l := ⟨h.u, h.d, h.last, h.lo, h.hi, Nat.le_trans h.lol hk, Nat.le_trans h.hil hk, h.gr.mono hk, h.sh.mono hk⟩
theorem Fit.more {s : St} {k : Nat} (h : Fit s k) (now : Int) {hv want : Int} (h0 : 0 ≤ hv ∧ hv ≤ 50) (h1 : 0 ≤ want ∧ want ≤ 50) : Fit (more s now hv want) (k + 1) := by
  have hb := nU_bd h h0 h1
  unfold Stb.more
  split
  · exact { h.mono (Nat.le_succ k) with gr := h.gr.add now _ (by omega) (by omega) }
  · exact h.mono (Nat.le_succ k)
theorem Fit.fewer {s : St} {k : Nat} (h : Fit s k) (now : Int) {hv want : Int} (h0 : 0 ≤ hv ∧ hv ≤ 50) (h1 : 0 ≤ want ∧ want ≤ 50) : Fit (fewer s now hv want) (k + 1) := by
  have hb := nD_bd h h0 h1
  unfold Stb.fewer
  split
  · exact { h.mono (Nat.le_succ k) with sh := h.sh.add now _ (by omega) (by omega) }
  · exact h.mono (Nat.le_succ k)
theorem okArg_iff {last now hv want : Int} : okArg last now hv want = true ↔ (last ≤ now ∧ now ≤ 1099511627776 ∧ 0 ≤ hv ∧ hv ≤ 50 ∧ 0 ≤ want ∧ want ≤ 50) := by simp [okArg]
theorem Fit.setS {s : St} {k : Nat} (h : Fit s k) (now hv want : Int) : Fit (setS s now hv want) (k + 2) := by
  unfold Stb.setS
  split
  · rename_i ho
    obtain ⟨a, b, c, d, e, f⟩ := okArg_iff.1 ho
    have hl := h.last
    have hf : Fit (Stb.forget (Stb.know s now want) now) (k + 1) := (h.know ⟨by omega, b⟩ ⟨e, f⟩).forget now
    split
    · exact hf.more now ⟨c, d⟩ ⟨e, f⟩
    · split
      · exact hf.fewer now ⟨c, d⟩ ⟨e, f⟩
      · exact hf.mono (by omega)
  · exact h.mono (by omega)
end Stb
end Go.Proofs.Ytanlhkokghjadac
