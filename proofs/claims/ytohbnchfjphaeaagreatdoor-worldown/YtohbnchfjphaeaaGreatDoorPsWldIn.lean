/- The plan that a law makes of another one: its triggers in a row with room, and one more behind them. -/
import Derived.Test.YtohbnchfjphaeaaGreatDoorPsLopPlan
import Derived.Test.YtohbnchfjphaeaaGreatDoorPsPlanCheck
import Derived.Test.YtohbnchfjphaeaaGreatDoorPsLopNew
import Derived.Deep.AppendSrc
namespace Go.Proofs.YtohbnchfjphaeaaGreatDoor
namespace Wld
open Go.RowKit Plain Pln Frm Lpp Crn Lop
set_option maxRecDepth 8000

theorem trs_cells {w : World} {ad : Addr} {ts : List Tr} (hT : TrsAt w (some ad) ts) : ∀ j u, (Rw.cels tK.c ts)[j]? = some u → w.cell? (ad.add j) = some u := by
 intro j u hj
 obtain ⟨t, h1, h2⟩ := cels_at ts j u hj
 obtain ⟨b, off, e1, _, e2⟩ := hT _ t h1
 cases e1
 have := e2 (j % 17) (Nat.mod_lt _ (by decide))
 rw [h2] at this
 have e : off + (j / 17 * 17 + j % 17) = off + j := by omega
 rw [e] at this
 rw [Addr.add_lit]
 exact this
theorem trs_src {w : World} {ta : Option Addr} {ts : List Tr} (tc : Nat) (hT : TrsAt w ta ts) : Src Tryz.prog 17 24 (.slice ta ts.length tc) ts.length (Rw.cels tK.c ts) w := by
 cases ta with
 | none =>
  have h0 : ts = [] := by
   cases ts with
   | nil => rfl
   | cons t ts => obtain ⟨b, off, e, _⟩ := hT 0 t rfl; cases e
  subst h0
  exact Src.ofNil w Tryz.underlying24 tc
 | some ad => exact Src.ofSlice w Tryz.underlying24 ad _ _ _ (tK_len ts) (trs_cells hT) (Rec.cels_one tK ts)
theorem run_mk (w : World) (n : Nat) (h : n * 120 ≤ 140737488355328) : (Instr.makeSlice 24 (.int .i64 0) (.int .i64 ((n : Int) + 2))).run Tryz.prog w = .ok (.slice (some ⟨w.heap.size, 0, none⟩) 0 (n + 2)) (w.alloc (.cells (madeCells trZ.toArray ((n + 2) * 17)) 35)) := by
 obtain ⟨i, hi, hz0, hz1, hz2⟩ := info_parts info_trg
 have hr := run_make (P := Tryz.prog) w 24 35 i _ Tryz.underlying24 hi hz0 .i64 .i64 0 ((n : Int) + 2) (by omega) (by omega) (by rw [hz2]; omega) (by omega)
 rw [show ((n : Int) + 2).toNat = n + 2 by omega, hz1] at hr
 exact hr
theorem Wri.made (w : World) (z : Array Value) (n : Nat) (e : TypeId) : Wri (w.alloc (.cells (madeCells z n) e)) w.heap.size n := by
 refine ⟨by simp, fun o ho => ?_, fun o => by simp⟩
 have : (w.alloc (.cells (madeCells z n) e)).cell? ⟨w.heap.size, o, none⟩ = (madeCells z n)[o]? := by simp
 rw [this, Array.getElem?_eq_getElem (by rw [size_madeCells]; exact ho)]
 rfl
def Rws (w : World) (G : Nat) (ts : List Tr) : Prop := ∀ j, j < ts.length * 17 → w.cell? ⟨G, j, none⟩ = (Rw.cels tK.c ts)[j]?
theorem Rws.trs {w : World} {G : Nat} {ts : List Tr} (h : Rws w G ts) (hG : G < w.heap.size) : TrsAt w (some ⟨G, 0, none⟩) ts := by
 intro i t hi
 refine ⟨G, 0, rfl, hG, fun j hj => ?_⟩
 have hlt : i < ts.length := (List.getElem?_eq_some_iff.1 hi).1
 rw [Nat.zero_add, h (i * 17 + j) (by omega)]
 have := Rw.cels_get tK.len ts i j t hi hj
 rw [show tK.s = 17 from rfl] at this
 rw [this]
 simp [tK]
theorem Rws.below {w w' : World} {G : Nat} {ts : List Tr} (h : Rws w G ts) (hb : Below w.heap.size w w') (hG : G < w.heap.size) : Rws w' G ts := fun j hj => by
 rw [World.cell?_of_block (w := w) (a := ⟨G, j, none⟩) (hb.block G hG)]
 exact h j hj
theorem Rws.behind {w : World} {G : Nat} {ts : List Tr} (h : Rws w G ts) (vs : List Value) : Rws (w.setCells G (ts.length * 17) vs) G ts := fun j hj => by
 rw [World.cell?_setCells_out G vs (ts.length * 17) w _ (fun _ _ => Or.inl hj)]
 exact h j hj
def t9 : Tr := ⟨9, 0, 0, Lop.k0, Lop.k0⟩
def T9 (w : World) (E : Nat) : Prop := E < w.heap.size ∧ ∀ j u, (trC t9).toList[j]? = some u → w.cell? ⟨E, j, none⟩ = some u
theorem T9.new (w : World) (e : TypeId) : T9 (w.alloc (.cells #[.int .i64 9, .int .i64 0, .int .i64 0, .int .u64 0, .int .u64 0, .int .u64 0, .int .u64 0, .int .u64 0, .bool false, .bool false, .int .u64 0, .int .u64 0, .int .u64 0, .int .u64 0, .int .u64 0, .bool false, .bool false] e)) w.heap.size :=
 ⟨by simp, fun j u h => by
  have : (w.alloc (.cells #[.int .i64 9, .int .i64 0, .int .i64 0, .int .u64 0, .int .u64 0, .int .u64 0, .int .u64 0, .int .u64 0, .bool false, .bool false, .int .u64 0, .int .u64 0, .int .u64 0, .int .u64 0, .int .u64 0, .bool false, .bool false] e)).cell? ⟨w.heap.size, j, none⟩ = (trC t9)[j]? := by simp; rfl
  rw [this, ← Array.getElem?_toList]
  exact h⟩
theorem T9.below {w w' : World} {E : Nat} (h : T9 w E) (hb : Below w.heap.size w w') : T9 w' E := ⟨Nat.lt_of_lt_of_le h.1 hb.size, fun j u hu => by
 rw [World.cell?_of_block (w := w) (a := ⟨E, j, none⟩) (hb.block E h.1)]
 exact h.2 j u hu⟩
theorem T9.sets {w : World} {E G : Nat} (h : T9 w E) (hne : E ≠ G) (o : Nat) (vs : List Value) : T9 (w.setCells G o vs) E := by
 have q := OnlyQ.sets G vs w o
 exact ⟨Nat.lt_of_lt_of_le h.1 q.size, fun j u hu => (q.cell (a := ⟨E, j, none⟩) h.1 hne).trans (h.2 j u hu)⟩
structure Mkd (w X : World) (G n : Nat) : Prop where
 b : Below w.heap.size w X
 g : w.heap.size ≤ G
 r : Wri X G ((n + 2) * 17)
theorem Mkd.below {w X X' : World} {G n : Nat} (h : Mkd w X G n) (hb : Below X.heap.size X X') : Mkd w X' G n := ⟨h.b.trans (hb.mono h.b.size), h.g, h.r.below hb⟩
theorem Mkd.sets {w X : World} {G n : Nat} (h : Mkd w X G n) (o : Nat) (vs : List Value) : Mkd w (X.setCells G o vs) G n := ⟨h.b.trans ((OnlyQ.sets G vs X o).below h.g h.b.size), h.g, h.r.sets vs o⟩
theorem Mkd.new {w X : World} (hb : Below w.heap.size w X) (z : Array Value) (n : Nat) (e : TypeId) : Mkd w (X.alloc (.cells (madeCells z ((n + 2) * 17)) e)) X.heap.size n :=
 ⟨hb.trans (((Below.refl _ _).alloc (Nat.le_refl _) _).mono hb.size), hb.size, Wri.made X z _ e⟩
theorem run_ap1 {w X : World} {G : Nat} {ta : Option Addr} {ts : List Tr} (tc : Nat) (h : Mkd w X G ts.length) (hT : TrsAt w ta ts) :
  (Builtin.append_ #[24, 24] 24 #[.slice (some ⟨G, 0, none⟩) 0 (ts.length + 2), .slice ta ts.length tc]).run Tryz.prog X = .ok (.slice (some ⟨G, 0, none⟩) ts.length (ts.length + 2)) (X.setCells G 0 (Rw.cels tK.c ts)) := by
 obtain ⟨i, hi, hz0, hz1, hz2⟩ := info_parts info_trg
 have hs := trs_src tc (hT.below h.b (Nat.le_refl _))
 rw [← hz1] at hs
 have hr := run_append_room_src X 24 24 24 35 i Tryz.underlying24 hi G 0 0 (ts.length + 2) _ _ _ hs (by omega) (fun j hj => h.r.c _ (by rw [tK_len] at hj; simp; omega)) (fun j _ => h.r.f _)
 simpa using hr
theorem rws_ap1 {w X : World} {G : Nat} {ts : List Tr} (h : Mkd w X G ts.length) : Rws (X.setCells G 0 (Rw.cels tK.c ts)) G ts := fun j hj => by
 have hl := tK_len ts
 have := World.cell?_setCells_in G (Rw.cels tK.c ts) 0 X (fun j hj => h.r.c _ (by omega)) j (by omega)
 rw [Nat.zero_add] at this
 rw [this, List.getElem?_eq_getElem (by omega)]
theorem run_ap2 {w X : World} {G E : Nat} {ts : List Tr} (h : Mkd w X G ts.length) (h9 : T9 X E) :
  (Builtin.append_ #[24, 24] 24 #[.slice (some ⟨G, 0, none⟩) ts.length (ts.length + 2), .slice (some ⟨E, 0, none⟩) 1 1]).run Tryz.prog X = .ok (.slice (some ⟨G, 0, none⟩) (ts.length + 1) (ts.length + 2)) (X.setCells G (ts.length * 17) (trC t9).toList) := by
 obtain ⟨i, hi, hz0, hz1, hz2⟩ := info_parts info_trg
 have hs : Src Tryz.prog i.size 24 (.slice (some ⟨E, 0, none⟩) 1 1) 1 (trC t9).toList X := Src.ofSlice X Tryz.underlying24 _ _ _ _ (by rw [hz1]; rfl) (fun j u hu => by rw [Addr.add_lit, Nat.zero_add]; exact h9.2 j u hu) (tK.one t9)
 have hr := run_append_room_src X 24 24 24 35 i Tryz.underlying24 hi G 0 ts.length (ts.length + 2) _ _ _ hs (by omega) (fun j hj => h.r.c _ (by have : (trC t9).toList.length = 17 := rfl; rw [hz1]; omega)) (fun j _ => h.r.f _)
 rw [hz1, Nat.zero_add] at hr
 exact hr
theorem nine {w X : World} {G n : Nat} (h : Mkd w X G n) : (X.setCells G (n * 17) (trC t9).toList).cell? ⟨G, n * 17, none⟩ = some (.int .i64 9) := by
 have := World.cell?_setCells_in G (trC t9).toList (n * 17) X (fun j hj => h.r.c _ (by have : (trC t9).toList.length = 17 := rfl; omega)) 0 (by decide)
 rw [Nat.add_zero] at this
 rw [this]
 rfl
theorem step_ap {P : Program} {ops : Array Oper} {o : Oper} {a : Act} {w w' : World} {K : Act → World → Prop} {Q : Exit → Act → World → Prop} {E : Prop} (hg : o.guard = none) (s x : Operand) (t : TypeId)
  (hop : o.op = Op.call { callee := Callee.builtin Builtin.append, args := #[s, x], argTypes := #[t, t] }) {v1 v2 v : Value} (hr : (Builtin.append_ #[t, t] o.type #[v1, v2]).run P w = .ok v w') (hs : a.eval s = v1) (hx : a.eval x = v2)
  (hK : K (a.put o.dst v) w') : if Region.wanted o (yielded ops a.tmps) = true then Oper.wp P o a w K Q else E := by
 have hw : Region.wanted o (yielded ops a.tmps) = true := by simp [Region.wanted, hg]
 rw [if_pos hw]
 unfold Oper.wp execOp
 simp only [hop, resolve, invoke, builtin, Sem.run_bind, Sem.run_pure, Result.andThen_ok, List.map_toArray, List.map_cons, List.map_nil, hs, hx, hr]
 exact hK
def InR (w1 : World) (Q : Nat) (p : Pd) (ts : List Tr) (wx : World) : Prop :=
 ∃ G, Q < G ∧ PX wx Q p (.slice (some ⟨G, 0, none⟩) ts.length (ts.length + 2)) ∧ TrsAt wx (some ⟨G, 0, none⟩) ts ∧ Wri wx G ((ts.length + 2) * 17) ∧ wx.cell? ⟨G, ts.length * 17, none⟩ = some (.int .i64 9) ∧ Below w1.heap.size w1 wx
theorem InR.mk {w1 w X : World} {Q G : Nat} {p : Pd} {ts : List Tr} {v : Value} (hb : Below w1.heap.size w1 w) (hQ : w1.heap.size ≤ Q) (hP : PX w Q p v) (h : Mkd w X G ts.length) (hr : Rws X G ts) :
  InR w1 Q p ts ((X.setCells G (ts.length * 17) (trC t9).toList).setCell ⟨Q, 17, none⟩ (.slice (some ⟨G, 0, none⟩) ts.length (ts.length + 2))) := by
 have hQG : Q < G := Nat.lt_of_lt_of_le hP.lt h.g
 have h2 := h.sets (ts.length * 17) (trC t9).toList
 have hG := h2.r.lt
 have q := OnlyQ.set Q (X.setCells G (ts.length * 17) (trC t9).toList) 17 (.slice (some ⟨G, 0, none⟩) ts.length (ts.length + 2))
 refine ⟨G, hQG, (hP.below h2.b hP.lt).set (by unfold planC; rfl) (by decide), ?_, ?_, ?_, hb.trans ((h2.b.mono hb.size).trans (q.below hQ (Nat.le_trans hb.size h2.b.size)))⟩
 ·refine Rws.trs (fun j hj => ?_) (Nat.lt_of_lt_of_le hG q.size)
  rw [q.cell (a := ⟨G, j, none⟩) hG (by simp only; omega)]
  exact hr.behind _ j hj
 ·refine ⟨Nat.lt_of_lt_of_le hG q.size, fun o ho => ?_, fun o => ?_⟩
  ·rw [q.cell (a := ⟨G, o, none⟩) hG (by simp only; omega)]; exact h2.r.c o ho
  ·rw [q.frz (a := ⟨G, o, none⟩) hG (by simp only; omega)]; exact h2.r.f o
 ·rw [q.cell (a := ⟨G, ts.length * 17, none⟩) hG (by simp only; omega)]
  exact nine h
end Wld
end Go.Proofs.YtohbnchfjphaeaaGreatDoor
