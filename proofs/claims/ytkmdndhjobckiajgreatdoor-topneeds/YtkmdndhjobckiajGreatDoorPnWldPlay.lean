/- Some happenings, one behind the other. With a queue alone, without tolerance, windows and paces: as many pods as its messages need. What stands at the head of the laws of the whole: some, tick, said. As many pods as the messages need: TopNeeds. -/
import Derived.Test.YtkmdndhjobckiajGreatDoorPnWldHand
import Derived.Test.YtkmdndhjobckiajGreatDoorPnLopPlan
import Derived.Test.YtkmdndhjobckiajGreatDoorPnFrame
import Derived.Test.YtkmdndhjobckiajGreatDoorPnNumWalks
import Derived.BigQuiet
import Derived.Deep.RegionHeld
namespace Go.Proofs.YtkmdndhjobckiajGreatDoor
namespace Wld
open Go.RowKit Plain Pln Frm Lpp Crn Lop
set_option maxRecDepth 8000

end Wld
namespace Wld
open Plain Pln Ned Frm Lpp Crn
set_option maxRecDepth 8000

def pN : Pd := ⟨[], 0, 50, 1, 6, 0, 0, 0, 0, 0, 0, 0, 0, 0, 0, 0, 0⟩
def tN (k : Int) : Tr := ⟨2, k, 0, Lop.k0, Lop.k0⟩
theorem up_unique {a b q : Int} (hb : 1 ≤ b) (h1 : a ≤ q * b) (h2 : (q - 1) * b < a) : up a b = q := by
 obtain ⟨g1, g2⟩ := up_ok a b hb
 have e1 : (q - 1) * b < up a b * b := by omega
 have e2 : (up a b - 1) * b < q * b := by omega
 have f1 := Int.lt_of_mul_lt_mul_right e1 (by omega)
 have f2 := Int.lt_of_mul_lt_mul_right e2 (by omega)
 omega
theorem want_depth {hv k d : Int} (hk : 1 ≤ k ∧ k ≤ 30) (hd : 0 ≤ d ∧ d ≤ 200) (hh : 0 ≤ hv ∧ hv ≤ 50) : wantF hv 0 2 k 1 (fun _ => d) = up d k := by
 have em : metF 2 1 (fun _ => d) = d := by
  unfold metF
  rw [if_neg (by decide), if_neg (by decide)]
  exact atz_pos hd.1
 have ep : podF 2 k 1 (fun _ => d) = up d k := by
  unfold podF
  rw [if_neg (by decide), em, clip_in (by omega) (by omega), clip_in (by omega) (by omega)]
 have hm0 : 0 ≤ hv * k := Int.mul_nonneg hh.1 (by omega)
 have hm1 : hv * k ≤ 50 * 30 := Int.mul_le_mul hh.2 hk.2 (by omega) (by omega)
 have et : mulc (clip hv) (clip k) = hv * k := by
  unfold mulc
  rw [clip_in (n := hv) (by omega) (by omega), clip_in (n := k) (by omega) (by omega), clip_in (by omega) (by omega)]
 unfold wantF
 rw [em, et, ep]
 split
 ·rename_i e
  have hn := e.2
  unfold nearF at hn
  have es : share (atz (clip (hv * k))) (atz (clip 0)) = 0 := by
   have : atz (clip 0) = 0 := rfl
   rw [this]
   unfold share
   simp [clip]
  rw [es] at hn
  have hn := of_decide_eq_true hn
  have ed : d = hv * k := by omega
  refine (up_unique hk.1 (by omega) ?_).symm
  rw [Int.sub_mul, Int.one_mul]
  omega
 ·rfl
structure NdI (k : Int) (S : WS) (d : Nat) (h kk : Nat) : Prop where
 wi : WI [tN k] S h kk
 si : ∃ H, Stb.SI H S.st
 u0 : S.st.u = ⟨0, 0, 0, 0⟩
 d0 : S.st.d = ⟨0, 0, 0, 0⟩
 pa : S.lp.pa < 0
 fs : S.lp.fs = [0]
 fl : S.fl = [false]
 q : ∀ x ∈ S.qL, x.tk = false
 ql : S.qL.length = d
 r : S.R = []
 pd : ∀ x ∈ S.F.L, x.st = 1 ∧ x.ld = 0
theorem free_back {L : List Que.M} (now : Int) (h : ∀ x ∈ L, x.tk = false) : Que.backL now L = L := by
 unfold Que.backL
 conv => rhs; rw [← List.map_id L]
 refine List.map_congr_left (fun x hx => ?_)
 unfold Que.back
 rw [if_neg (by rw [h x hx]; simp)]
 rfl
theorem free_depth {L : List Que.M} (h : ∀ x ∈ L, x.tk = false) : Que.depth L = L.length := by
 unfold Que.depth
 rw [List.countP_eq_length]
 intro x hx
 unfold Que.free
 rw [h x hx]
 rfl
section
variable {k : Int} {S : WS} {d h kk : Nat}
theorem NdI.rds (b : NdI k S d h kk) : rdsW [tN k] S = [⟨false, 1, fun _ => (d : Int)⟩] := by
 unfold rdsW
 rw [b.fl]
 show [rdOf S (tN k) false] = _
 unfold rdOf
 rw [if_neg (by show ¬ (2 : Int) = 1; decide), if_pos (show (tN k).k = 2 from rfl), free_back S.now b.q, free_depth b.q, b.ql]
theorem NdI.want (b : NdI k S d h kk) (hk : 1 ≤ k ∧ k ≤ 30) : wantW pN [tN k] S = max 0 (up d k) := by
 have hl := b.wi.q.len
 have hd := b.ql
 unfold wantW
 rw [b.rds, b.fs]
 show max 0 (stepN pN (Flt.cnt S.F.L) (inW (secW S) pN.sh) (tN k) ⟨false, 1, fun _ => (d : Int)⟩ (stepF (tN k) ⟨false, 1, fun _ => (d : Int)⟩ 0)) = _
 have e1 : stepF (tN k) ⟨false, 1, fun _ => (d : Int)⟩ 0 = 0 := rfl
 rw [e1]
 unfold stepN
 rw [if_neg (by decide), if_neg (by show ¬ (2 : Int) = 3; decide)]
 show max 0 (wantF (Flt.cnt S.F.L) 0 2 k 1 (fun _ => (d : Int))) = _
 rw [want_depth hk (by omega) ⟨by omega, b.wi.cn⟩]
theorem NdI.need (b : NdI k S d h kk) (hd : 0 < d) : needW pN [tN k] S = true := by
 unfold needW
 rw [b.rds, b.fs]
 show (aK (busyW S) (inW (secW S) pN.sh) [tN k] [⟨false, 1, fun _ => (d : Int)⟩] [0] 0 || stepA (inW (secW S) pN.sh) (tN k) ⟨false, 1, fun _ => (d : Int)⟩ (stepF (tN k) ⟨false, 1, fun _ => (d : Int)⟩ 0)) = true
 have : stepA (inW (secW S) pN.sh) (tN k) ⟨false, 1, fun _ => (d : Int)⟩ (stepF (tN k) ⟨false, 1, fun _ => (d : Int)⟩ 0) = true := by
  unfold stepA
  rw [if_neg (by show ¬ (2 : Int) = 3; decide)]
  have : metF (tN k).k 1 (fun _ => (d : Int)) = (d : Int) := by
   unfold metF
   rw [if_neg (by show ¬ (2 : Int) = 1; decide), if_neg (by decide)]
   exact atz_pos (by show (0 : Int) ≤ (d : Int); omega)
  rw [this]
  have : (tN k).ac < (d : Int) := by show (0 : Int) < d; omega
  simp [this]
 rw [this, Bool.or_true]
theorem tN_ok (hk : 1 ≤ k ∧ k ≤ 30) : trB (tN k) = true := by
 have e : rg k 1 1000000 = true := by unfold rg; simp; omega
 unfold trB
 rw [if_neg (by show ¬ (2 : Int) = 3; decide)]
 show (_ && (rg k 1 1000000 && _)) = true
 rw [e]
 rfl
theorem pN_ok (hk : 1 ≤ k ∧ k ≤ 30) : PlOk pN [tN k] := by
 refine ⟨by decide, by decide, by decide, by decide, by decide, by decide, by decide, by decide, by simp, fun t ht => ?_⟩
 simp at ht
 subst ht
 exact tN_ok hk
theorem NdI.told (b : NdI k S d h kk) (hk : 1 ≤ k ∧ k ≤ 30) (hd : 0 < d) : toldW pN [tN k] S = min (up d k) 50 := by
 obtain ⟨H, hH⟩ := b.si
 have hP := pN_ok hk
 have h1 := Lop.look_free (p := pN) (WK := wantW pN [tN k] S) (AK := needW pN [tN k] S) (now := S.now) (hv := (Flt.cnt S.F.L : Int)) hH b.wi.lp hP ⟨b.wi.la, b.wi.nw.2⟩ ⟨by omega, b.wi.cn⟩ b.u0 b.d0 b.pa
 unfold toldW
 rw [h1, b.want hk, b.need hd]
 have hu : 1 ≤ up d k := by
  obtain ⟨g1, g2⟩ := up_ok (d : Int) k hk.1
  have h9 : ¬ up d k ≤ 0 := fun e => by
   have := Int.mul_le_mul_of_nonneg_right e (show 0 ≤ k by omega)
   rw [Int.zero_mul] at this
   omega
  omega
 have e : lowF pN (Flt.cnt S.F.L) S.now S.lp.nd true = 1 := rfl
 rw [e]
 show min (max (max 0 (up d k)) 1) 50 = _
 omega
theorem cnt_all {L : List Flt.Pd} (h : ∀ x ∈ L, x.st = 1 ∧ x.ld = 0) : Flt.cnt L = L.length := by
 unfold Flt.cnt
 rw [List.countP_eq_length]
 intro x hx
 unfold Flt.stays
 rw [(h x hx).1]
 rfl
theorem shrink_all : ∀ (n : Nat) {L : List Flt.Pd}, (∀ x ∈ L, x.st = 1 ∧ x.ld = 0) → ∀ x ∈ Flt.shrink n L, x.st = 1 ∧ x.ld = 0
 | 0, _, h => h
 | n + 1, L, h => by
  unfold Flt.shrink
  split
  ·exact h
  ·rename_i y hy
   refine shrink_all n (fun x hx => ?_)
   obtain ⟨_, h2, _⟩ := Flt.pick_mem hy
   have hl := (h y.2 (List.mem_of_getElem? h2)).2
   unfold Flt.letgo at hx
   rw [if_neg (by omega)] at hx
   exact h x (List.mem_of_mem_eraseIdx hx)
theorem scale_all {F : Flt.FS} {n : Int} (h : ∀ x ∈ F.L, x.st = 1 ∧ x.ld = 0) : ∀ x ∈ (Flt.scaleF F n).L, x.st = 1 ∧ x.ld = 0 := by
 unfold Flt.scaleF
 split
 ·refine shrink_all _ (fun x hx => ?_)
  rcases List.mem_append.1 hx with a | a
  ·exact h x a
  ·exact (Flt.news_mem a).2.2
 ·exact h
theorem NdI.late (b : NdI k S d h kk) (hn : S.now + 1 ≤ 1099511627776) : NdI k (lateW S) d h kk :=
 ⟨b.wi.late hn, b.si, b.u0, b.d0, b.pa, b.fs, b.fl, b.q, b.ql, by show Buf.turnL _ 4 S.R = []; rw [b.r]; rfl, b.pd⟩
theorem NdI.look (b : NdI k S d h kk) (hk : 1 ≤ k ∧ k ≤ 30) : NdI k (lookW pN [tN k] S) d h (kk + 1) := by
 have hP := pN_ok hk
 obtain ⟨H, hH⟩ := b.si
 obtain ⟨s1, s2, s3⟩ := Lop.si_look (p := pN) (WK := wantW pN [tN k] S) (AK := needW pN [tN k] S) (now := S.now) (hv := (Flt.cnt S.F.L : Int)) hH b.wi.lp hP ⟨b.wi.la, b.wi.nw.2⟩ ⟨by omega, b.wi.cn⟩
 have eq : readQ [tN k] S = S.qL := by
  unfold readQ
  split
  ·exact free_back S.now b.q
  ·rfl
 refine ⟨b.wi.look hP, s1, s2.trans b.u0, s3.trans b.d0, b.pa, ?_, b.fl, ?_, ?_, b.r, scale_all b.pd⟩
 ·show fsK [tN k] (rdsW [tN k] S) S.lp.fs 1 = [0]
  rw [b.rds, b.fs]
  rfl
 ·show ∀ x ∈ readQ [tN k] S, x.tk = false
  rw [eq]; exact b.q
 ·show (readQ [tN k] S).length = d
  rw [eq]; exact b.ql
theorem nd_due (k : Int) (S : WS) (hl : S.lp.la + 1 ≤ S.now) : dueW pN [tN k] S = lookW pN [tN k] S := by
 unfold dueW
 rw [if_pos]
 unfold Lop.dueP
 have : decide (S.lp.la + pN.po ≤ S.now) = true := by
  have : S.lp.la + 1 ≤ S.now := hl
  simp [pN, this]
 rw [this, Bool.or_true]
theorem on_none (hr : S.R = []) : onW S = S := by
 unfold onW
 rw [hr]
 show ({ S with F := S.F, R := [] } : WS) = S
 rw [← hr]
theorem NdI.tick (b : NdI k S d h kk) (hk : 1 ≤ k ∧ k ≤ 30) (hn : S.now + 1 ≤ 1099511627776) : NdI k (tick1 pN [tN k] S) d h (kk + 1) ∧ (0 < d → (tick1 pN [tN k] S).tg = min (up d k) 50 ∧ ((tick1 pN [tN k] S).F.L.length : Int) = min (up d k) 50) := by
 have bl := b.late hn
 have hd := nd_due k (lateW S) (by have := b.wi.la; show S.lp.la + 1 ≤ S.now + 1; omega)
 have bk := bl.look hk
 have e : tick1 pN [tN k] S = lookW pN [tN k] (lateW S) := by
  unfold tick1
  rw [hd]
  exact on_none bk.r
 rw [e]
 refine ⟨bk, fun h0 => ?_⟩
 have ht := bl.told hk h0
 have hu : 0 ≤ up d k := up_ge hk.1 (by omega)
 refine ⟨ht, ?_⟩
 rw [← cnt_all bk.pd]
 show (Flt.cnt (Flt.scaleF S.F (toldW pN [tN k] (lateW S))).L : Int) = _
 unfold Flt.scaleF
 rw [ht, if_pos (by omega), Flt.scale_cnt (by omega)]
theorem NdI.put (b : NdI k S d h kk) {n : Nat} (h1 : 1 ≤ n) (h2 : d + n ≤ 200) : NdI k (putW S n) (d + n) (h + 1) kk ∧ putE S.qL n = 0 := by
 have hl := b.ql
 have e : putE S.qL n = 0 := by unfold putE; rw [if_neg (by omega), if_neg (by omega)]
 have ew : putW S n = { S with ql := S.ql + n, qL := S.qL ++ Que.news S.ql n } := by unfold putW; rw [if_pos e]; rfl
 have hw := put_inv b.wi (n : Int)
 rw [ew] at hw ⊢
 refine ⟨⟨hw, b.si, b.u0, b.d0, b.pa, b.fs, b.fl, fun x hx => ?_, ?_, b.r, b.pd⟩, e⟩
 ·rcases List.mem_append.1 hx with a | a
  ·exact b.q x a
  ·unfold Que.news at a
   simp at a
   obtain ⟨_, _, rfl⟩ := a
   rfl
 ·show (S.qL ++ Que.news S.ql n).length = d + n
  rw [List.length_append, Que.news_len, hl]
theorem NdI.noput (b : NdI k S d h kk) {n : Nat} (h1 : ¬ (1 ≤ n ∧ d + n ≤ 200)) : putW S n = S ∧ putE S.qL n ≠ 0 := by
 have hl := b.ql
 have e : putE S.qL n ≠ 0 := by
  unfold putE
  split
  ·decide
  ·rw [if_pos (by omega)]; decide
 exact ⟨by unfold putW; rw [if_neg e], e⟩
theorem NdI.new (k : Int) : NdI k (newW pN [tN k] 1 1 0) 0 0 0 :=
 ⟨WI.new _ _ _ _ _ (by omega) (by omega), ⟨[], Lop.si_new _ _⟩, rfl, rfl, by simp [newW, Lop.newL], rfl, rfl, fun x hx => by simp [newW] at hx, rfl, rfl, fun x hx => by simp [newW] at hx⟩
end
end Wld
namespace Wld
open Go.RowKit Plain Pln Frm Lpp Crn Lop
set_option maxRecDepth 8000

theorem r0_chk : chkP Lop.p0 [Lop.t0] = 0 := by kernel_rfl
theorem r0_I : PdI Lop.p0 := by constructor <;> simp [I, Lop.p0]
theorem r0_ok : PlOk (noN Lop.p0) [Lop.t0] := ok_noN (plOk_of r0_chk)
theorem r0_k : Us Lop.k0 := by constructor <;> simp [U, Lop.k0]
theorem r0_U : ∀ t ∈ [Lop.t0], TrU t := by
 intro t ht
 simp at ht
 subst ht
 exact ⟨by simp [I, Lop.t0], by simp [I, Lop.t0], by simp [I, Lop.t0], r0_k, r0_k⟩
theorem some_any (w : World) : Calls Tryz.prog 18 #[] w fun e w' => ∃ b, e = .returned (planV Lop.p0 (.slice (some ⟨b, 0, none⟩) 1 1)) ∧ TrsAt w' (some ⟨b, 0, none⟩) [Lop.t0] ∧ w.heap.size ≤ b ∧ Below w.heap.size w w' := by
 have hX := px_new w 26
 have hb2 : ∀ o : Obj, Below (w.alloc (.cells #[.string ⟨#[]⟩, .int .i64 0, .int .i64 0, .int .i64 0, .int .i64 0, .int .i64 0, .int .i64 0, .int .i64 0, .int .i64 0, .int .i64 0, .int .i64 0, .int .i64 0, .int .i64 0, .int .i64 0, .int .i64 0, .int .i64 0, .int .i64 0, .slice none 0 0] 26)).heap.size (w.alloc (.cells #[.string ⟨#[]⟩, .int .i64 0, .int .i64 0, .int .i64 0, .int .i64 0, .int .i64 0, .int .i64 0, .int .i64 0, .int .i64 0, .int .i64 0, .int .i64 0, .int .i64 0, .int .i64 0, .int .i64 0, .int .i64 0, .int .i64 0, .int .i64 0, .slice none 0 0] 26)) ((w.alloc (.cells #[.string ⟨#[]⟩, .int .i64 0, .int .i64 0, .int .i64 0, .int .i64 0, .int .i64 0, .int .i64 0, .int .i64 0, .int .i64 0, .int .i64 0, .int .i64 0, .int .i64 0, .int .i64 0, .int .i64 0, .int .i64 0, .int .i64 0, .int .i64 0, .slice none 0 0] 26)).alloc o) := fun o => (Below.refl _ _).alloc (Nat.le_refl _) o
 have hX2 := fun o => hX.below (hb2 o) (by simp)
 go_enter Tryz.func18, Tryz.ntmps18
 go_wp2_with (with_reducible refine wp_setPx (hX2 _) (p' := Lop.p0) (v' := .slice (some ⟨w.heap.size + 1, 0, none⟩) 1 1) rfl (by with_unfolding_all rfl) (by with_unfolding_all rfl) ?_; intro w9 hX9 ho9)
 refine finPx Tryz.results18 (Or.inl rfl) rfl rfl hX9 ⟨w.heap.size + 1, rfl, ?_, Nat.le_succ _, ?_⟩
 ·refine trs_one (Nat.lt_of_lt_of_le (by simp) ho9.size) (fun j => ?_)
  rw [ho9.cell (a := ⟨w.heap.size + 1, j, none⟩) (by simp) (by simp)]
  simp
  rfl
 ·exact (((Below.refl _ _).alloc (Nat.le_refl _) _).alloc (by simp) _).trans (ho9.below (Nat.le_refl _) (by simp; omega))
theorem tickf_any (n : Int) (w : World) : Calls Tryz.prog 16 #[.int .i64 n] w fun e w' => e = .returned (.agg #[.int .i64 1, .int .i64 0, .int .i64 n]) ∧ Below w.heap.size w w' := by
 go_enter Tryz.func16, Tryz.ntmps16
 go_wp2
 (try simp only [Exit.inBlock, Exit.then])
 refine bodyPost_ret (v := .agg #[.int .i64 1, .int .i64 0, .int .i64 n]) ?_ rfl ⟨rfl, (Below.refl _ _).alloc (Nat.le_refl _) _⟩
 simp [results, Tryz.results16, go_sem]
noncomputable def s0 : WS := newW (noN Lop.p0) [Lop.t0] 1 2 0
noncomputable def s1 : WS := doW (noN Lop.p0) [Lop.t0] s0 4 0 25
noncomputable def s2 : WS := doW (noN Lop.p0) [Lop.t0] s1 1 0 1
noncomputable def sK (k : Nat) : WS := { s2 with qL := (Que.news 0 25).drop k }
noncomputable def sE : WS := doW (noN Lop.p0) [Lop.t0] (sK 25) 1 0 9
theorem s1_def : doW (noN Lop.p0) [Lop.t0] s0 4 0 25 = s1 := by unfold s1; rfl
theorem s2_def : doW (noN Lop.p0) [Lop.t0] s1 1 0 1 = s2 := by unfold s2; rfl
theorem sE_def : doW (noN Lop.p0) [Lop.t0] (sK 25) 1 0 9 = sE := by unfold sE; rfl
theorem s_E1 : doE s0 4 0 25 = 0 := by kernel_rfl
theorem s_E2 : doE s1 1 0 1 = 0 := by kernel_rfl
theorem s_tg : s2.tg = 3 := by kernel_rfl
theorem s_len : s2.F.L.length = 3 := by kernel_rfl
theorem s_q : s2.qL = Que.news 0 25 := by kernel_rfl
theorem s_zero : sK 0 = s2 := by
 have e : (Que.news 0 25).drop 0 = s2.qL := by rw [s_q]; rfl
 unfold sK
 rw [e]
theorem sE_tg : sE.tg = 0 := by kernel_rfl
theorem sE_len : sE.F.L.length = 0 := by kernel_rfl
theorem s_I0 : WI [Lop.t0] s0 0 0 := WI.new _ _ _ _ _ (by omega) (by omega)
theorem s_I1 : WI [Lop.t0] s1 1 1000 := by rw [← s1_def]; exact s_I0.do r0_ok 4 0 25
theorem s_I2 : WI [Lop.t0] s2 2 2000 := by rw [← s2_def]; exact s_I1.do r0_ok 1 0 1
theorem back_free {L : List Que.M} (now : Int) (h : ∀ x ∈ L, x.tk = false) : Que.backL now L = L := by
 unfold Que.backL
 conv => rhs; rw [← List.map_id L]
 refine List.map_congr_left (fun x hx => ?_)
 unfold Que.back
 rw [if_neg (by rw [h x hx]; simp)]
 rfl
theorem lease_first {m : Que.M} {L : List Que.M} {now n : Int} (h : ∀ x ∈ m :: L, x.tk = false) (hn : 1 ≤ n ∧ n ≤ 100000) : leaseE (m :: L) now n = 0 ∧ leaseL (m :: L) now n = ⟨m.id, now + n, true⟩ :: L := by
 have hf : (m :: L).findIdx? Que.free = some 0 := by rw [List.findIdx?_cons]; simp [Que.free, h m (by simp)]
 unfold leaseE leaseL
 rw [if_neg (by simpa using hn), if_neg (by simpa using hn), back_free now h, hf]
 simp
theorem ack_first {id : Int} {L : List Que.M} {now n : Int} (h : ∀ x ∈ L, x.tk = false) (hn : 1 ≤ n) : ackE (⟨id, now + n, true⟩ :: L) now id = 0 ∧ ackL (⟨id, now + n, true⟩ :: L) now id = L := by
 have hb : Que.backL now (⟨id, now + n, true⟩ :: L) = ⟨id, now + n, true⟩ :: L := by
  have := back_free now h
  unfold Que.backL at *
  rw [List.map_cons, this]
  unfold Que.back
  rw [if_neg (by simp; omega)]
 have hf : (⟨id, now + n, true⟩ :: L : List Que.M).findIdx? (Que.isId id) = some 0 := by rw [List.findIdx?_cons]; simp [Que.isId]
 unfold ackE ackL
 rw [hb, hf]
 simp
theorem news_free {x : Que.M} (h : x ∈ Que.news 0 25) : x.tk = false := by
 unfold Que.news at h
 simp at h
 obtain ⟨_, _, rfl⟩ := h
 rfl
theorem news_at {k : Nat} (hk : k < 25) : (Que.news 0 25).drop k = ⟨(k : Int) + 1, 0, false⟩ :: (Que.news 0 25).drop (k + 1) := by
 have hl : (Que.news 0 25).length = 25 := Que.news_len 0 25
 rw [List.drop_eq_getElem_cons (by omega)]
 congr 1
 unfold Que.news
 simp
 omega
theorem round_any {k : Nat} (hk : k < 25) : doE (sK k) 5 0 5 = 0 ∧ doE (doW (noN Lop.p0) [Lop.t0] (sK k) 5 0 5) 6 0 ((k : Int) + 1) = 0 ∧ doW (noN Lop.p0) [Lop.t0] (doW (noN Lop.p0) [Lop.t0] (sK k) 5 0 5) 6 0 ((k : Int) + 1) = sK (k + 1) := by
 have e0 := news_at hk
 have hf : ∀ x ∈ (⟨(k : Int) + 1, 0, false⟩ : Que.M) :: (Que.news 0 25).drop (k + 1), x.tk = false := fun x hx => by
  rw [← e0] at hx
  exact news_free (List.mem_of_mem_drop hx)
 obtain ⟨a1, a2⟩ := lease_first (now := s2.now) (n := 5) hf (by omega)
 obtain ⟨b1, b2⟩ := ack_first (id := (k : Int) + 1) (now := s2.now) (n := 5) (fun x hx => hf x (List.mem_cons_of_mem _ hx)) (by omega)
 have c1 : doE (sK k) 5 0 5 = leaseE ((Que.news 0 25).drop k) s2.now 5 := rfl
 have c2 : doW (noN Lop.p0) [Lop.t0] (sK k) 5 0 5 = { s2 with qL := leaseL ((Que.news 0 25).drop k) s2.now 5 } := rfl
 rw [c1, c2, e0, a1, a2]
 refine ⟨rfl, ?_, ?_⟩
 ·show ackE (⟨(k : Int) + 1, s2.now + 5, true⟩ :: (Que.news 0 25).drop (k + 1)) s2.now ((k : Int) + 1) = 0
  exact b1
 ·show ({ s2 with qL := ackL (⟨(k : Int) + 1, s2.now + 5, true⟩ :: (Que.news 0 25).drop (k + 1)) s2.now ((k : Int) + 1) } : WS) = sK (k + 1)
  rw [b2]
  rfl
theorem newr (b : Nat) (w : World) (hB : Lai.BdsAt w) (hT : TrsAt w (some ⟨b, 0, none⟩) [Lop.t0]) : Calls Tryz.prog 8 #[planV Lop.p0 (.slice (some ⟨b, 0, none⟩) 1 1), .int .i64 1, .int .i64 2, .int .i64 0] w (NewWA Lop.p0 [Lop.t0] 1 2 0 w) :=
 new_yes Lop.p0 (some ⟨b, 0, none⟩) 1 [Lop.t0] 1 2 0 w hB r0_I (by simp [Lop.p0]) hT r0_chk (by omega) (by omega)
theorem doS {w0 : World} (B : Nat) (c : Pc) (S : WS) (h k : Nat) (x a n E : Int) (w : World) (hA : WAt w B c (noN Lop.p0) [Lop.t0] S) (hI : WI [Lop.t0] S h k) (hh : h ≤ 1000) (hk : k ≤ 100000) (hE : doE S x a n = E) (hB : w0.heap.size ≤ B) (hb : Below w0.heap.size w0 w) :
  Calls Tryz.prog 15 #[.pointer (some ⟨c.x.D, 0, none⟩), .agg #[.int .i64 x, .int .i64 a, .int .i64 n]] w fun e w' => e = .returned (.int .i64 E) ∧ ∃ c', WAt w' B c' (noN Lop.p0) [Lop.t0] (doW (noN Lop.p0) [Lop.t0] S x a n) ∧ c'.x.D = c.x.D ∧ Below w0.heap.size w0 w' := by
 refine (do_any B c (noN Lop.p0) [Lop.t0] S h k x a n w hA hI hh hk r0_ok r0_U).mono ?_
 rintro e w' ⟨rfl, c', a', d', m'⟩
 exact ⟨by rw [hE], c', a', d', hb.trans (m'.below (fun k hk => Nat.le_trans hB (hA.low hk).1) hb.size)⟩
def SdR (w : World) (B D : Nat) (i : Value) (wr : World) : Prop := ∃ (k : Nat) (c1 : Pc), k ≤ 25 ∧ i = .int .i64 ((k : Int) + 1) ∧ WAt wr B c1 (noN Lop.p0) [Lop.t0] (sK k) ∧ WI [Lop.t0] (sK k) (2 + 2 * k) (1000 * (2 + 2 * k)) ∧ c1.x.D = D ∧ Below w.heap.size w wr
set_option maxHeartbeats 8000000 in
theorem said_any (w : World) (hB : Lai.BdsAt w) : Calls Tryz.prog 7 #[] w fun e w' => e = .returned (.bool true) ∧ Below w.heap.size w w' := by
 have cS := some_any w
 have HB : Hid (Lai.BdsAt w) := hB
 clear hB
 go_enter Tryz.func7, Tryz.ntmps7
 go_wp2_with (first
  | (go_at_call 18; (with_reducible refine cS.mono ?_); rintro e w1 ⟨b, rfl, hT1, hb, hb1⟩; clear cS)
  | (go_at_call 8; have cN := newr b w1 (HB.out.below hb1 (Nat.le_refl _)) hT1; (with_reducible refine cN.mono ?_); rintro e w2 ⟨c, rfl, hA2, hb2⟩; clear cN; have HX2 : Hid (WAt w2 w1.heap.size c (noN Lop.p0) [Lop.t0] s0 ∧ w.heap.size ≤ w1.heap.size ∧ Below w.heap.size w w2) := ⟨hA2, hb1.size, hb1.trans (hb2.mono hb1.size)⟩; clear hA2 hb2 hT1; generalize hD : c.x.D = D at *)
  | (go_at_call 15; have cD := doS (w0 := w) w1.heap.size c3 s1 1 1000 1 0 1 0 w4 HX4.out.1 s_I1 (by omega) (by omega) s_E2 HX2.out.2.1 HX4.out.2; rw [hD3, s2_def] at cD; (with_reducible refine cD.mono ?_); rintro e w5 ⟨rfl, c5, a5, d5, b5⟩; clear cD; have HX5 : Hid (WAt w5 w1.heap.size c5 (noN Lop.p0) [Lop.t0] s2 ∧ Below w.heap.size w w5) := ⟨a5, b5⟩; have hD5 : c5.x.D = D := d5; clear a5 d5 b5)
  | (go_at_call 15; have cD := doS (w0 := w) w1.heap.size c s0 0 0 4 0 25 0 w2 HX2.out.1 s_I0 (by omega) (by omega) s_E1 HX2.out.2.1 HX2.out.2.2; rw [hD, s1_def] at cD; (with_reducible refine cD.mono ?_); rintro e w3 ⟨rfl, c3, a3, d3, b3⟩; clear cD; have HX3 : Hid (WAt w3 w1.heap.size c3 (noN Lop.p0) [Lop.t0] s1 ∧ Below w.heap.size w w3) := ⟨a3, b3⟩; have hD3 : c3.x.D = D := d3; clear a3 d3 b3)
  | (go_at_call 16; have cT := tickf_any 1 w3; (with_reducible refine cT.mono ?_); rintro e w4 ⟨rfl, hb4⟩; clear cT; have HX4 : Hid (WAt w4 w1.heap.size c3 (noN Lop.p0) [Lop.t0] s1 ∧ Below w.heap.size w w4) := ⟨HX3.out.1.below hb4, HX3.out.2.trans (hb4.mono HX3.out.2.size)⟩; clear hb4)
  | (go_at_call 10; have cX := target_any w1.heap.size c5 (noN Lop.p0) [Lop.t0] s2 w5 HX5.out.1; rw [hD5, s_tg] at cX; (with_reducible refine cX.mono ?_); rintro e w' ⟨rfl, h9⟩; have h8 := h9.symm; clear h9; subst h8; clear cX)
  | (go_at_call 19; have cX := pods_any w1.heap.size c5 (noN Lop.p0) [Lop.t0] s2 w5 HX5.out.1 (by rw [s_len]; omega); rw [hD5, s_len] at cX; (with_reducible refine cX.mono ?_); rintro e w6 ⟨rfl, hR6, hb6⟩; clear cX; have HX6 : Hid (WAt w6 w1.heap.size c5 (noN Lop.p0) [Lop.t0] s2 ∧ Below w.heap.size w w6) := ⟨HX5.out.1.below hb6, HX5.out.2.trans (hb6.mono HX5.out.2.size)⟩; clear hR6 hb6))
 have HL : Hid (w.heap.size ≤ w1.heap.size) := HX2.out.2.1
 clear hb1 hD hD3
 go_loopw [3] (fun i wr => SdR w w1.heap.size D i wr) (fun i _ => 26 - (intOf i).toNat)
 case atStart => exact ⟨0, c5, by omega, rfl, by rw [s_zero]; exact HX6.out.1, by rw [s_zero]; exact s_I2, hD5, HX6.out.2⟩
 case round =>
  clear hD5 HX6 HX5 HX4 HX3 HX2
  obtain ⟨k, c1, hk, rfl, hA, hI, hD1, hbr⟩ := hrel
  by_cases hlt : k < 25
  ·have hlt' : (k : Int) + 1 ≤ 25 := by omega
   obtain ⟨r1, r2, r3⟩ := round_any hlt
   have hI2 := hI.do r0_ok 5 0 5
   have hI3 := hI2.do r0_ok 6 0 ((k : Int) + 1)
   rw [r3] at hI3
   have HX1 : Hid (WAt wr w1.heap.size c1 (noN Lop.p0) [Lop.t0] (sK k) ∧ Below w.heap.size w wr) := ⟨hA, hbr⟩
   have HI1 : Hid (WI [Lop.t0] (sK k) (2 + 2 * k) (1000 * (2 + 2 * k))) := hI
   have HI2 : Hid (WI [Lop.t0] (doW (noN Lop.p0) [Lop.t0] (sK k) 5 0 5) (2 + 2 * k + 1) (1000 * (2 + 2 * k) + 1000)) := hI2
   have HI3 : Hid (WI [Lop.t0] (sK (k + 1)) (2 + 2 * (k + 1)) (1000 * (2 + 2 * (k + 1)))) := hI3.mono (by omega) (by omega)
   have HR : Hid (doE (sK k) 5 0 5 = 0 ∧ doE (doW (noN Lop.p0) [Lop.t0] (sK k) 5 0 5) 6 0 ((k : Int) + 1) = 0 ∧ doW (noN Lop.p0) [Lop.t0] (doW (noN Lop.p0) [Lop.t0] (sK k) 5 0 5) 6 0 ((k : Int) + 1) = sK (k + 1)) := ⟨r1, r2, r3⟩
   clear hA hI hbr hI2 hI3 r1 r2 r3
   go_wp2_with (first
    | (go_at_call 15; have cD := doS (w0 := w) w1.heap.size c3 (doW (noN Lop.p0) [Lop.t0] (sK k) 5 0 5) (2 + 2 * k + 1) (1000 * (2 + 2 * k) + 1000) 6 0 ((k : Int) + 1) 0 w3 HX3.out.1 HI2.out (by omega) (by omega) HR.out.2.1 HL.out HX3.out.2; rw [hD3, HR.out.2.2] at cD; (with_reducible refine cD.mono ?_); rintro e w5 ⟨rfl, c5, a5, d5, b5⟩; clear cD; have HX5 : Hid (WAt w5 w1.heap.size c5 (noN Lop.p0) [Lop.t0] (sK (k + 1)) ∧ c5.x.D = D ∧ Below w.heap.size w w5) := ⟨a5, d5, b5⟩; clear a5 d5 b5)
    | (go_at_call 15; have cD := doS (w0 := w) w1.heap.size c1 (sK k) (2 + 2 * k) (1000 * (2 + 2 * k)) 5 0 5 0 wr HX1.out.1 HI1.out (by omega) (by omega) HR.out.1 HL.out HX1.out.2; rw [hD1] at cD; (with_reducible refine cD.mono ?_); rintro e w3 ⟨rfl, c3, a3, d3, b3⟩; clear cD; have HX3 : Hid (WAt w3 w1.heap.size c3 (noN Lop.p0) [Lop.t0] (doW (noN Lop.p0) [Lop.t0] (sK k) 5 0 5) ∧ Below w.heap.size w w3) := ⟨a3, b3⟩; have hD3 : c3.x.D = D := d3; clear a3 d3 b3))
   go_roundw
   case rel => exact ⟨k + 1, c5, hlt, by simp, HX5.out.1, HI3.out, HX5.out.2.1, HX5.out.2.2⟩
   case measure => simp [intOf]; omega
  ·obtain rfl : k = 25 := by omega
   have HX1 : Hid (WAt wr w1.heap.size c1 (noN Lop.p0) [Lop.t0] (sK 25) ∧ Below w.heap.size w wr) := ⟨hA, hbr⟩
   have HI1 : Hid (WI [Lop.t0] (sK 25) 52 52000) := hI
   clear hA hI hbr
   go_wp2_with (first
    | (go_at_call 16; have cT := tickf_any 9 wr; (with_reducible refine cT.mono ?_); rintro e w4 ⟨rfl, hb4⟩; clear cT; have HX4 : Hid (WAt w4 w1.heap.size c1 (noN Lop.p0) [Lop.t0] (sK 25) ∧ Below w.heap.size w w4) := ⟨HX1.out.1.below hb4, HX1.out.2.trans (hb4.mono HX1.out.2.size)⟩; clear hb4)
    | (go_at_call 15; have cD := doS (w0 := w) w1.heap.size c1 (sK 25) 52 52000 1 0 9 _ w4 HX4.out.1 HI1.out (by omega) (by omega) rfl HL.out HX4.out.2; rw [hD1, sE_def] at cD; (with_reducible refine cD.mono ?_); rintro e w5 ⟨rfl, c5, a5, d5, b5⟩; clear cD; have HX5 : Hid (WAt w5 w1.heap.size c5 (noN Lop.p0) [Lop.t0] sE ∧ Below w.heap.size w w5) := ⟨a5, b5⟩; have hD5 : c5.x.D = D := d5; clear a5 d5 b5)
    | (go_at_call 10; have cX := target_any w1.heap.size c5 (noN Lop.p0) [Lop.t0] sE w5 HX5.out.1; rw [hD5, sE_tg] at cX; (with_reducible refine cX.mono ?_); rintro e w' ⟨rfl, h9⟩; have h8 := h9.symm; clear h9; subst h8; clear cX)
    | (go_at_call 19; have cX := pods_any w1.heap.size c5 (noN Lop.p0) [Lop.t0] sE w5 HX5.out.1 (by rw [sE_len]; omega); rw [hD5, sE_len] at cX; (with_reducible refine cX.mono ?_); rintro e w6 ⟨rfl, hR6, hb6⟩; clear cX))
   go_ret
   exact ⟨rfl, HX5.out.2.trans (hb6.mono HX5.out.2.size)⟩
end Wld
namespace Wld
open Go.RowKit Plain Pln Frm Lpp Crn Lop
set_option maxRecDepth 8000

def pT : Pd := ⟨[112], 0, 50, 1, 6, 0, 0, 0, 0, 0, 0, 0, 0, 0, 0, 0, 0⟩
theorem pT_I : PdI pT := by constructor <;> simp [I, pT]
theorem tN_chk {k : Int} (hk : 1 ≤ k ∧ k ≤ 30) : chkP pT [tN k] = 0 := by
 have h1 : nmB pT.nm = true := by kernel_rfl
 have h2 : okP pT = true := by kernel_rfl
 have h3 := tN_ok hk
 unfold chkP
 rw [if_neg (by rw [h1]; simp), if_neg (by simp), if_neg (by rw [h2]; simp), if_neg (by simp [h3])]
theorem tN_U {k : Int} (hk : 1 ≤ k ∧ k ≤ 30) : ∀ t ∈ [tN k], TrU t := by
 intro t ht
 simp at ht
 subst ht
 exact ⟨by simp [I, tN], by simp [I, tN]; omega, by simp [I, tN], r0_k, r0_k⟩
theorem plan_three {w : World} {P b : Nat} {k : Int} (h : PX w P Lop.p0 (.slice (some ⟨b, 0, none⟩) 1 1)) (hT : ∀ j, w.cell? ⟨b, j, none⟩ = (trC Lop.t0)[j]?) (hb : b < w.heap.size) (hne : b ≠ P) :
  PlAt (((w.setCell ⟨P, 3, none⟩ (.int .i64 1)).setCell ⟨P, 2, none⟩ (.int .i64 50)).setCell ⟨b, 1, none⟩ (.int .i64 k)) P pT (.slice (some ⟨b, 0, none⟩) 1 1)
  ∧ TrsAt (((w.setCell ⟨P, 3, none⟩ (.int .i64 1)).setCell ⟨P, 2, none⟩ (.int .i64 50)).setCell ⟨b, 1, none⟩ (.int .i64 k)) (some ⟨b, 0, none⟩) [tN k] := by
 have h1 : PX (w.setCell ⟨P, 3, none⟩ (.int .i64 1)) P ⟨[112], 0, 9, 1, 6, 0, 0, 0, 0, 0, 0, 0, 0, 0, 0, 0, 0⟩ (.slice (some ⟨b, 0, none⟩) 1 1) := h.set rfl (by omega)
 have h2 : PX ((w.setCell ⟨P, 3, none⟩ (.int .i64 1)).setCell ⟨P, 2, none⟩ (.int .i64 50)) P pT (.slice (some ⟨b, 0, none⟩) 1 1) := h1.set rfl (by omega)
 refine ⟨?_, trs_one (by simpa using hb) (fun j => ?_)⟩
 ·exact PlAt.of (fun o => by rw [World.cell?_setCell_other (h := fun e => hne (congrArg Addr.block e))]; exact h2.cel o)
 ·by_cases e : j = 1
  ·subst e
   have hc : ((w.setCell ⟨P, 3, none⟩ (.int .i64 1)).setCell ⟨P, 2, none⟩ (.int .i64 50)).cell? ⟨b, 1, none⟩ = some (.int .i64 10) := by
    rw [World.cell?_setCell_other (h := fun e => hne (congrArg Addr.block e).symm), World.cell?_setCell_other (h := fun e => hne (congrArg Addr.block e).symm), hT]
    rfl
   rw [World.cell?_setCell_same _ _ _ hc]
   rfl
  ·rw [World.cell?_setCell_other (h := fun e2 => e (congrArg Addr.off e2).symm), World.cell?_setCell_other (h := fun e => hne (congrArg Addr.block e).symm), World.cell?_setCell_other (h := fun e => hne (congrArg Addr.block e).symm), hT]
   match j, e with
   | 0, _ => rfl
   | n + 2, _ => rfl
theorem some_own (w : World) : Calls Tryz.prog 18 #[] w fun e w' => ∃ b, e = .returned (planV Lop.p0 (.slice (some ⟨b, 0, none⟩) 1 1)) ∧ (∀ j, w'.cell? ⟨b, j, none⟩ = (trC Lop.t0)[j]?) ∧ (∀ j, w'.frozen? ⟨b, j, none⟩ = false) ∧ w.heap.size ≤ b ∧ b < w'.heap.size ∧ Below w.heap.size w w' := by
 have hX := px_new w 26
 have hX2 := fun o : Obj => hX.below (w' := (w.alloc (.cells #[.string ⟨#[]⟩, .int .i64 0, .int .i64 0, .int .i64 0, .int .i64 0, .int .i64 0, .int .i64 0, .int .i64 0, .int .i64 0, .int .i64 0, .int .i64 0, .int .i64 0, .int .i64 0, .int .i64 0, .int .i64 0, .int .i64 0, .int .i64 0, .slice none 0 0] 26)).alloc o) ((Below.refl _ _).alloc (Nat.le_refl _) _) (by simp)
 go_enter Tryz.func18, Tryz.ntmps18
 go_wp2_with (with_reducible refine wp_setPx (hX2 _) (p' := Lop.p0) (v' := .slice (some ⟨w.heap.size + 1, 0, none⟩) 1 1) rfl (by with_unfolding_all rfl) (by with_unfolding_all rfl) ?_; intro w9 hX9 ho9)
 have hbl := ho9.block (w.heap.size + 1) (by simp) (by simp)
 refine finPx Tryz.results18 (Or.inl rfl) rfl rfl hX9 ⟨w.heap.size + 1, rfl, fun j => ?_, fun j => ?_, Nat.le_succ _, Nat.lt_of_lt_of_le (by simp) ho9.size, ?_⟩
 ·rw [World.cell?_of_block (a := ⟨w.heap.size + 1, j, none⟩) hbl]
  simp
  rfl
 ·rw [World.frozen?_of_block (a := ⟨w.heap.size + 1, j, none⟩) hbl]
  simp
 ·exact (((Below.refl _ _).alloc (Nat.le_refl _) _).alloc (by simp) _).trans (ho9.below (Nat.le_refl _) (by simp; omega))
theorem do_tick1 (p : Pd) (ts : List Tr) (S : WS) (h : S.now + 1 ≤ 1099511627776) : doW p ts S 1 0 1 = tick1 p ts S := by
 unfold doW
 rw [if_pos rfl, if_pos (by unfold tickE; rw [if_pos ⟨by omega, h⟩])]
 rfl
theorem NdI.up {k : Int} {S : WS} {d h kk h' kk' : Nat} (b : NdI k S d h kk) (h1 : h ≤ h') (h2 : kk ≤ kk') : NdI k S d h' kk' := ⟨b.wi.mono h1 h2, b.si, b.u0, b.d0, b.pa, b.fs, b.fl, b.q, b.ql, b.r, b.pd⟩
theorem quo_up {d k : Int} (hd : 0 ≤ d) (hk : 1 ≤ k) : (d + k - 1).tdiv k = Plain.up d k := by
 have h1 := (tquot (d + k - 1) k hk).1 (by omega)
 refine (up_unique hk ?_ ?_).symm
 ·omega
 ·rw [Int.sub_mul, Int.one_mul]; omega
def TdR (w : World) (B D : Nat) (k : Int) (M : Nat) (dv i : Value) (wr : World) : Prop :=
 ∃ (j d : Nat) (c : Pc) (S : WS), j ≤ M ∧ dv = .int .i64 d ∧ i = .int .i64 j ∧ WAt wr B c pN [tN k] S ∧ NdI k S d j j ∧ S.now = j ∧ c.x.D = D ∧ Below w.heap.size w wr
def TcR (w : World) (B D : Nat) (k : Int) (j : Nat) (dv : Value) (wr : World) : Prop :=
 ∃ (d : Nat) (c : Pc) (S : WS), dv = .int .i64 d ∧ WAt wr B c pN [tN k] S ∧ NdI k S d (j + 1) j ∧ S.now = j ∧ c.x.D = D ∧ Below w.heap.size w wr
set_option maxHeartbeats 8000000 in
theorem tn_any (target : Int) (ao : Option Addr) (m cap : Nat) (X : Nat → Nat → Int) (w : World) (hB : Lai.BdsAt w) (hH : Frm.RowsIn w ao m 1 X) (hm : m ≤ cap) :
  Calls Tryz.prog 5 #[.int .i64 target, .slice ao m cap] w fun e w' => e = .returned (.bool true) ∧ Below w.heap.size w w' := by
 have cW := said_any w hB
 have HB : Hid (Lai.BdsAt w) := hB
 have HH : Hid (Frm.RowsIn w ao m 1 X) := hH
 have hk0 : 0 ≤ target % 30 ∧ target % 30 < 30 := by omega
 clear hB hH
 go_enter Tryz.func5, Tryz.ntmps5
 go_upto_region 5 with (first
  | (go_at_call 7; (with_reducible refine cW.mono ?_); rintro e w1 ⟨rfl, hb1⟩; clear cW)
  | (go_at_call 17; have cR := Rsw.rest_any target 30 w1 (by omega) (by omega); (with_reducible refine cR.mono ?_); rintro e w' ⟨rfl, h9⟩; have h8 := h9.symm; clear h9; subst h8; clear cR; generalize target % 30 = t at *)
  | (go_at_call 18; have cM := some_own w1; (with_reducible refine cM.mono ?_); rintro e w2 ⟨b, rfl, hT2, hf2, hb, hbz, hb2⟩; clear cM)
  | (with_reducible refine wp_newPx (p' := Lop.p0) (v' := .slice (some ⟨b, 0, none⟩) 1 1) rfl (by with_unfolding_all rfl) (by with_unfolding_all rfl) ?_; intro w3 hX3 hb3))
 have z17 : w3.cell? ⟨w2.heap.size, 17, none⟩ = some (.slice (some ⟨b, 0, none⟩) 1 1) := hX3.cel 17
 have z2 : w3.cell? ⟨w2.heap.size, 2, none⟩ = some (.int .i64 9) := hX3.cel 2
 have z3 : w3.cell? ⟨w2.heap.size, 3, none⟩ = some (.int .i64 2) := hX3.cel 3
 have y2 := hX3.fz 2
 have y3 := hX3.fz 3
 have hT3 : ∀ j, w3.cell? ⟨b, j, none⟩ = (trC Lop.t0)[j]? := fun j => (hb3.cell (p := ⟨b, j, none⟩) hbz).trans (hT2 j)
 have z1 : w3.cell? ⟨b, 1, none⟩ = some (.int .i64 10) := hT3 1
 have y1 : w3.frozen? ⟨b, 1, none⟩ = false := (World.frozen?_of_block (w := w2) (a := ⟨b, 1, none⟩) (hb3.block b hbz)).trans (hf2 1)
 have hbne : b ≠ w2.heap.size := by omega
 have hP := plan_three (k := t + 1) hX3 hT3 (Nat.lt_of_lt_of_le hbz hb3.size) hbne
 have HP : Hid (PlAt (((w3.setCell ⟨w2.heap.size, 3, none⟩ (.int .i64 1)).setCell ⟨w2.heap.size, 2, none⟩ (.int .i64 50)).setCell ⟨b, 1, none⟩ (.int .i64 (t + 1))) w2.heap.size pT (.slice (some ⟨b, 0, none⟩) 1 1) ∧ TrsAt (((w3.setCell ⟨w2.heap.size, 3, none⟩ (.int .i64 1)).setCell ⟨w2.heap.size, 2, none⟩ (.int .i64 50)).setCell ⟨b, 1, none⟩ (.int .i64 (t + 1))) (some ⟨b, 0, none⟩) [tN (t + 1)]) := hP
 have HX : Hid (Below w.heap.size w (((w3.setCell ⟨w2.heap.size, 3, none⟩ (.int .i64 1)).setCell ⟨w2.heap.size, 2, none⟩ (.int .i64 50)).setCell ⟨b, 1, none⟩ (.int .i64 (t + 1)))) := by
  have a1 := hb1.size
  have a2 := hb2.size
  exact ((((hb1.trans (hb2.mono a1)).trans (hb3.mono (by omega))).setCell (by show _ ≤ _; simp; omega) _).setCell (by show _ ≤ _; simp; omega) _).setCell (by show _ ≤ _; simp; omega) _
 clear hP hT3 hT2 hf2 hX3 hb3 hb2 hb1
 go_upto_region 6 with fail
 generalize ((w3.setCell ⟨w2.heap.size, 3, none⟩ (.int .i64 1)).setCell ⟨w2.heap.size, 2, none⟩ (.int .i64 50)).setCell ⟨b, 1, none⟩ (.int .i64 (t + 1)) = W4 at *
 clear z17 z2 z3 y2 y3 z1 y1 w3 hbne
 generalize w2.heap.size = P at *
 obtain ⟨k, hk⟩ : ∃ k, k = t + 1 := ⟨_, rfl⟩
 rw [← hk] at HP ⊢
 have hk1 : 1 ≤ k ∧ k ≤ 30 := by omega
 have hP4 := HP.out.1
 have cN : Calls Tryz.prog 8 #[planV pT (.slice (some ⟨b, 0, none⟩) 1 1), .int .i64 1, .int .i64 1, .int .i64 0] W4 (NewWA pT [tN k] 1 1 0 W4) := new_yes pT (some ⟨b, 0, none⟩) 1 [tN k] 1 1 0 W4 (HB.out.below HX.out (Nat.le_refl _)) pT_I (by simp [pT]) HP.out.2 (tN_chk hk1) (by omega) (by omega)
 clear hk hk0
 go_upto_region 10 with (first
  | (with_reducible refine wp_plan hP4 (by with_unfolding_all rfl) ?_)
  | (go_at_call 8; (with_reducible refine cN.mono ?_); rintro e w5 ⟨c, rfl, hA5, hb5⟩; clear cN))
 have HL : Hid (w.heap.size ≤ W4.heap.size) := HX.out.size
 have hb6 : Below w.heap.size w w5 := HX.out.trans (hb5.mono HX.out.size)
 clear hb5 HX HP hP4 hb
 generalize W4.heap.size = B at *
 obtain ⟨M, hM, hM30, hMm⟩ : ∃ M : Nat, min (30 : Int) (m : Int) = (M : Int) ∧ M ≤ 30 ∧ M ≤ m := ⟨min 30 m, by omega, by omega, by omega⟩
 have hMc : M ≤ cap := by omega
 have hI5 : NdI k (newW pN [tN k] 1 1 0) 0 0 0 := NdI.new k
 have hA6 : WAt w5 B c pN [tN k] (newW pN [tN k] 1 1 0) := hA5
 clear hA5
 generalize hD : c.x.D = D at *
 go_upto_region 11 with fail
 go_loopw [9, 40] (fun dv i wr => TdR w B D k M dv i wr) (fun _ i _ => M - (intOf i).toNat)
 case atStart => exact ⟨0, 0, c, _, by omega, rfl, rfl, hA6, hI5, rfl, hD, hb6⟩
 case round =>
  clear hI5 hA6 hD hb6 c
  obtain ⟨j, d, c1, S, hj, rfl, rfl, hA, hI, hnow, hD1, hbr⟩ := hrel
  by_cases hlt : j < M
  ·have hlt' : (j : Int) < (M : Int) := by omega
   obtain ⟨g, off, rfl, hgl, hcx⟩ := (Frm.RowsIn.below HH.out hbr (Nat.le_refl _)) j (by omega)
   have x0 := (hcx 0 (by omega)).1
   simp only [Nat.mul_one, Nat.add_zero] at x0
   obtain ⟨a, ha, ha2⟩ : ∃ a : Nat, X j 0 % 40 = (a : Int) ∧ a < 40 := ⟨(X j 0 % 40).toNat, by omega, by omega⟩
   have cR := Rsw.rest_any (X j 0) 40 wr (by omega) (by omega)
   rw [ha] at cR
   have hd2 : d ≤ 200 := by have := hI.wi.q.len; have := hI.ql; omega
   have cD := do_any B c1 pN [tN k] S j j 4 0 (a : Int) wr hA hI.wi (by omega) (by omega) (pN_ok hk1) (tN_U hk1)
   rw [hD1, show doE S 4 0 (a : Int) = putE S.qL (a : Int) from rfl, show doW pN [tN k] S 4 0 (a : Int) = putW S (a : Int) from rfl] at cD
   have HA : Hid (WAt wr B c1 pN [tN k] S ∧ Below w.heap.size w wr ∧ NdI k S d j j) := ⟨hA, hbr, hI⟩
   obtain ⟨E, hE⟩ : ∃ E, putE S.qL (a : Int) = E := ⟨_, rfl⟩
   rw [hE] at cD
   clear hA hbr hcx
   go_upto_if 50 with (first
    | (go_at_call 17; (with_reducible refine cR.mono ?_); rintro e w' ⟨rfl, h9⟩; have h8 := h9.symm; clear h9; subst h8; clear cR)
    | (go_at_call 15; (with_reducible refine cD.mono ?_); rintro e w6 ⟨rfl, c2, a2, d2, m2⟩; clear cD; have HX : Hid (WAt w6 B c2 pN [tN k] (putW S (a : Int)) ∧ c2.x.D = D ∧ Below w.heap.size w w6) := ⟨a2, d2.trans hD1, HA.out.2.1.trans (m2.below (fun k hk => Nat.le_trans HL.out (HA.out.1.low hk).1) HA.out.2.1.size)⟩; clear a2 d2 m2))
   go_cut [9] (fun dv wx => TcR w B D k j dv wx)
   case first =>
    by_cases hput : 1 ≤ a ∧ d + a ≤ 200
    ·obtain ⟨hI2, e2⟩ := HA.out.2.2.put hput.1 hput.2
     rw [e2] at hE
     subst hE
     have HR : Hid (TcR w B D k j (.int .i64 ((d : Int) + (a : Int))) w6) := ⟨d + a, c2, _, by rw [Int.natCast_add], HX.out.1, hI2.up (by omega) (by omega), by show (putW S (a : Int)).now = _; unfold putW; rw [if_pos e2]; exact hnow, HX.out.2.1, HX.out.2.2⟩
     clear hI2 e2 hI
     go_wp2
     go_meet
     exact HR.out
    ·obtain ⟨e1, e2⟩ := HA.out.2.2.noput hput
     rw [hE] at e2
     have e3 : (E == 0) = false := by rw [beq_eq_false_iff_ne]; exact e2
     have HR : Hid (TcR w B D k j (.int .i64 (d : Int)) w6) := ⟨d, c2, _, rfl, by have := HX.out.1; rw [e1] at this; exact this, hI.up (by omega) (by omega), hnow, HX.out.2.1, HX.out.2.2⟩
     clear e1 e2 hI
     go_wp2
     go_meet
     exact HR.out
   case rest =>
    clear HX hE hI hnow HA hd2
    obtain ⟨d2, c3, S2, rfl, hA3, hI3, hnow3, hD3, hb3⟩ := hcut
    have hd3 : d2 ≤ 200 := by have := hI3.wi.q.len; have := hI3.ql; omega
    have hnb : S2.now + 1 ≤ 1099511627776 := by omega
    obtain ⟨hI4, hT4⟩ := hI3.tick hk1 hnb
    have hq := quo_up (d := (d2 : Int)) (k := k) (by omega) hk1.1
    have hq0 : 0 ≤ Plain.up d2 k := Ned.up_ge hk1.1 (by omega)
    have hq1 : Plain.up d2 k ≤ 201 := by
     have h9 := (up_ok (d2 : Int) k hk1.1).2
     have h8 : (Plain.up d2 k - 1) * 1 ≤ (Plain.up d2 k - 1) * k ∨ Plain.up d2 k < 1 := by
      by_cases h7 : Plain.up d2 k < 1
      ·exact Or.inr h7
      ·exact Or.inl (Int.mul_le_mul_of_nonneg_left hk1.1 (by omega))
     omega
    have hn4 : (tick1 pN [tN k] S2).now = ((j + 1 : Nat) : Int) := by rw [tick1_now, hnow3]; omega
    have HW : Hid (WAt wc B c3 pN [tN k] S2 ∧ Below w.heap.size w wc) := ⟨hA3, hb3⟩
    have cD : ∀ w7, Below wc.heap.size wc w7 → Calls Tryz.prog 15 #[.pointer (some ⟨D, 0, none⟩), .agg #[.int .i64 1, .int .i64 0, .int .i64 1]] w7 fun e w' => ∃ E, e = .returned (.int .i64 E) ∧ ∃ c', WAt w' B c' pN [tN k] (tick1 pN [tN k] S2) ∧ c'.x.D = D ∧ Below w.heap.size w w' := fun w7 hb7 => by
     have hA7 := HW.out.1.below hb7
     have hbx : Below w.heap.size w w7 := HW.out.2.trans (hb7.mono HW.out.2.size)
     have cX := do_any B c3 pN [tN k] S2 (j + 1) j 1 0 1 w7 hA7 hI3.wi (by omega) (by omega) (pN_ok hk1) (tN_U hk1)
     rw [hD3, do_tick1 _ _ _ hnb] at cX
     refine cX.mono ?_
     rintro e w8 ⟨rfl, c4, a4, d4, m4⟩
     exact ⟨_, rfl, c4, a4, d4.trans hD3, hbx.trans (m4.below (fun k hk => Nat.le_trans HL.out (hA7.low hk).1) hbx.size)⟩
    have cT := tickf_any 1 wc
    generalize tick1 pN [tN k] S2 = S3 at *
    clear hA3 hI3 hb3 hnow3 hnb x0 ha hD1
    generalize Plain.up d2 k = q at *
    by_cases h0 : d2 = 0
    ·subst h0
     go_wp2_with (first
      | (go_at_call 16; (with_reducible refine cT.mono ?_); rintro e w7 ⟨rfl, hb7⟩; clear cT)
      | (go_at_call 15; (with_reducible refine (cD w7 hb7).mono ?_); rintro e w8 ⟨E9, rfl, c4, a4, d4, b4⟩; clear cD; have HX4 : Hid (WAt w8 B c4 pN [tN k] S3 ∧ c4.x.D = D ∧ Below w.heap.size w w8) := ⟨a4, d4, b4⟩; clear a4 d4 b4))
     go_roundw
     case rel => exact ⟨j + 1, 0, c4, S3, hlt, rfl, rfl, HX4.out.1, hI4, hn4, HX4.out.2.1, HX4.out.2.2⟩
     case measure => simp [intOf]; omega
    ·have h0' : 0 < (d2 : Int) := by omega
     obtain ⟨t1, t2⟩ := hT4 (by omega)
     obtain ⟨V, hV⟩ : ∃ V : Nat, min q 50 = (V : Int) := ⟨(min q 50).toNat, by omega⟩
     rw [hV] at t1 t2
     have t3 : S3.F.L.length = V := by omega
     have hVb : V ≤ 50 := by omega
     go_wp2_with (first
      | (go_at_call 16; (with_reducible refine cT.mono ?_); rintro e w7 ⟨rfl, hb7⟩; clear cT)
      | (go_at_call 15; (with_reducible refine (cD w7 hb7).mono ?_); rintro e w8 ⟨E9, rfl, c4, a4, d4, b4⟩; clear cD; have HX4 : Hid (WAt w8 B c4 pN [tN k] S3 ∧ c4.x.D = D ∧ Below w.heap.size w w8) := ⟨a4, d4, b4⟩; clear a4 d4 b4)
      | (go_at_call 10; have cX := target_any B c4 pN [tN k] S3 w8 HX4.out.1; rw [HX4.out.2.1, t1] at cX; (with_reducible refine cX.mono ?_); rintro e w' ⟨rfl, h9⟩; have h8 := h9.symm; clear h9; subst h8; clear cX)
      | (go_at_call 19; have cX := pods_any B c4 pN [tN k] S3 w8 HX4.out.1 (by omega); rw [HX4.out.2.1, t3] at cX; (with_reducible refine cX.mono ?_); rintro e w9 ⟨rfl, hR9, hb9⟩; clear cX))
     go_roundw
     case rel => exact ⟨j + 1, d2, c4, S3, hlt, rfl, rfl, HX4.out.1.below hb9, hI4, hn4, HX4.out.2.1, HX4.out.2.2.trans (hb9.mono HX4.out.2.2.size)⟩
     case measure => simp [intOf]; omega
  ·obtain rfl : j = M := by omega
   go_wp2
   go_ret
   exact ⟨rfl, hbr⟩
end Wld
end Go.Proofs.YtkmdndhjobckiajGreatDoor
