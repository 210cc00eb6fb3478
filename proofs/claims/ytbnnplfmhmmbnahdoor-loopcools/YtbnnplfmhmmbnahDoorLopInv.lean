/- What is known of a loop, call by call. -/
import Derived.Test.YtbnnplfmhmmbnahDoorLopNew
import Derived.Test.YtbnnplfmhmmbnahDoorPk8
namespace Go.Proofs.YtbnnplfmhmmbnahDoor
namespace Lop
open Plain Pln Frm Lpp

/-- what is known of its numbers behind k looks -/
structure LI (ts : List Tr) (s : Lp) (st : Stb.St) (k : Nat) : Prop where
  fl : s.fs.length = ts.length
  fo : FsOk s.fs k
  la : 0 ≤ s.la ∧ s.la ≤ 1099511627776
  nd : 0 ≤ s.nd ∧ s.nd ≤ 1099511627776
  fi : Stb.Fit st (2 * k)
  ls : st.last ≤ s.la
theorem LI.new (ts : List Tr) (u d : Stb.Pc) : LI ts (newL ts.length) (Stb.new u d) 0 :=
  ⟨by simp [newL], fun f hf => by simp [newL] at hf; omega, by simp [newL], by simp [newL], Stb.new_fit u d, by simp [Stb.new, newL]⟩
theorem LI.pause {ts : List Tr} {s : Lp} {st : Stb.St} {k : Nat} (h : LI ts s st k) (n : Int) : LI ts ⟨s.fs, s.lk, s.la, s.nd, n⟩ st k := ⟨h.fl, h.fo, h.la, h.nd, h.fi, h.ls⟩
theorem LI.mono {ts : List Tr} {s : Lp} {st : Stb.St} {k l : Nat} (h : LI ts s st k) (hk : k ≤ l) : LI ts s st l :=
  ⟨h.fl, fun f hf => by have := h.fo f hf; omega, h.la, h.nd, h.fi.mono (by omega), h.ls⟩
theorem LI.big {ts : List Tr} {s : Lp} {st : Stb.St} {k : Nat} (h : LI ts s st k) (hk : k ≤ 1000000) : FsOk s.fs 1000000 := fun f hf => by have := h.fo f hf; omega
theorem ok_noN {p : Pd} {ts : List Tr} (h : PlOk p ts) : PlOk (noN p) ts := ⟨h.mn, h.mx, h.po, h.co, h.tl, h.bk, h.af, h.sh, h.len, h.tr⟩
section
variable {p : Pd} {ts : List Tr} {rs : List Rd} {s : Lp} {st : Stb.St} {k : Nat} {now hv WK : Int} {AK : Bool} {H : List Stb.Mo}
theorem low_bd (hP : PlOk p ts) (hv now nd : Int) (need : Bool) : 0 ≤ lowF p hv now nd need ∧ p.mn ≤ lowF p hv now nd need ∧ lowF p hv now nd need ≤ p.mx := by
  have h1 := hP.mn
  have h2 := hP.mx
  unfold lowF
  split
  · omega
  · split <;> omega
theorem ok_set (h : LI ts s st k) (hP : PlOk p ts) (hn : s.la ≤ now ∧ now ≤ 1099511627776) (hh : 0 ≤ hv ∧ hv ≤ 50) : Stb.okArg st.last now hv (askF p WK (lowF p hv now s.nd AK)) = true := by
  have h1 := h.ls
  have h2 := low_bd hP hv now s.nd AK
  have h3 := hP.mx
  rw [Stb.okArg_iff]
  generalize lowF p hv now s.nd AK = L at *
  refine ⟨by omega, hn.2, hh.1, hh.2, ?_, ?_⟩ <;> unfold askF <;> omega
theorem LI.look (h : LI ts s st k) (hP : PlOk p ts) (hn : s.la ≤ now ∧ now ≤ 1099511627776) (hh : 0 ≤ hv ∧ hv ≤ 50) : LI ts (nextL s ts rs now AK) (nextS p s st now hv WK AK) (k + 1) := by
  have hl := h.la
  have hd := h.nd
  have ho := ok_set (WK := WK) (AK := AK) h hP hn hh
  refine ⟨?_, ?_, ⟨show 0 ≤ now by omega, hn.2⟩, ?_, ?_, ?_⟩
  · show (fsK ts rs s.fs ts.length).length = _
    rw [fsK_len, h.fl]
  · have := fsK_ok (ts := ts) (rs := rs) (k := ts.length) h.fo
    intro f hf
    have := this f hf
    omega
  · unfold nextL
    split
    · exact ⟨show 0 ≤ now by omega, hn.2⟩
    · exact hd
  · unfold nextS
    split
    · exact h.fi.mono (by omega)
    · exact h.fi.setS now hv _
  · show (nextS p s st now hv WK AK).last ≤ now
    unfold nextS
    split
    · have := h.ls; omega
    · rw [Stb.setS_last ho]; exact Int.le_refl _
/-- between its bounds -/
theorem look_bds (hP : PlOk p ts) (hpa : s.pa < 0) : p.mn ≤ lookP p s st now hv WK AK ∧ lookP p s st now hv WK AK ≤ p.mx ∧ (AK = true → 1 ≤ lookP p s st now hv WK AK) ∧ (now - s.nd < p.co → 1 ≤ hv → 1 ≤ lookP p s st now hv WK AK) := by
  have h1 := hP.mn
  have h2 := hP.mx
  have h3 := low_bd hP hv now s.nd AK
  unfold lookP
  rw [if_neg (by omega)]
  have h4 : AK = true → 1 ≤ lowF p hv now s.nd AK := fun e => by unfold lowF; rw [if_pos e]; omega
  have h5 : now - s.nd < p.co → 1 ≤ hv → 1 ≤ lowF p hv now s.nd AK := fun e e2 => by
    unfold lowF
    split
    · omega
    · omega
  generalize Stb.setN st now hv (askF p WK (lowF p hv now s.nd AK)) = N
  generalize lowF p hv now s.nd AK = L at *
  unfold toldF
  refine ⟨by omega, by omega, fun e => by have := h4 e; omega, fun e e2 => by have := h5 e e2; omega⟩
/-- without windows and paces -/
theorem look_free (hI : Stb.SI H st) (h : LI ts s st k) (hP : PlOk p ts) (hn : s.la ≤ now ∧ now ≤ 1099511627776) (hh : 0 ≤ hv ∧ hv ≤ 50) (hu : st.u = ⟨0, 0, 0, 0⟩) (hd : st.d = ⟨0, 0, 0, 0⟩) (hpa : s.pa < 0) :
    lookP p s st now hv WK AK = min (max WK (lowF p hv now s.nd AK)) p.mx := by
  have ho := ok_set (WK := WK) (AK := AK) h hP hn hh
  have hf := Stb.free hI h.fi ho (by rw [hu]) (by rw [hd]) (by rw [hu]; rfl) (by rw [hd]; rfl)
  have h3 := low_bd hP hv now s.nd AK
  unfold lookP
  rw [if_neg (by omega), hf]
  generalize lowF p hv now s.nd AK = L at *
  unfold toldF askF
  omega
theorem si_look (hI : Stb.SI H st) (h : LI ts s st k) (hP : PlOk p ts) (hn : s.la ≤ now ∧ now ≤ 1099511627776) (hh : 0 ≤ hv ∧ hv ≤ 50) : (∃ H', Stb.SI H' (nextS p s st now hv WK AK)) ∧ (nextS p s st now hv WK AK).u = st.u ∧ (nextS p s st now hv WK AK).d = st.d := by
  have ho := ok_set (WK := WK) (AK := AK) h hP hn hh
  unfold nextS
  split
  · exact ⟨⟨H, hI⟩, rfl, rfl⟩
  · exact ⟨⟨_, hI.set h.fi ho⟩, Stb.setS_pace st now hv _⟩
end
theorem si_new (u d : Stb.Pc) : Stb.SI [] (Stb.new u d) := ⟨Stb.LoI.nil _ _ _, Stb.LoI.nil _ _ _⟩
end Lop
end Go.Proofs.YtbnnplfmhmmbnahDoor
