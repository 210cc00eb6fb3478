/- A part. -/
import Derived.Test.YthiapcajheepbaaGreatDoorPwSeekPlain
import Derived.Test.YthiapcajheepbaaGreatDoorPwNeedWant3
set_option linter.all false
open Go.Proofs.Tryz
set_option maxHeartbeats 32000000
set_option maxRecDepth 8000
namespace Go.Proofs.YthiapcajheepbaaGreatDoor
namespace RCrn
open Go.RowKit Lai Civ Cal Crn RCiv Rst

section
variable (a b : K) (sec shift : Int) (w : World)
theorem seekD (u:Us a) (ht:tmB sec=true) (hs:shB shift=true):
  Calls prog 173 #[kV a,.int .i64 sec,.int .i64 shift,.int .i64 (-1)] w fun e w'=> ∃n ok,e=.returned (.tuple #[.int .i64 n,.bool ok])∧LastR a (minOf sec shift) shift n ok∧Below w.heap.size w w':=
 (seekDown _ _ _ _ _ _ _ sec shift w u.u0 u.u1 u.u2 u.u3 u.u4 ht hs).mono fun _ _ ⟨n,ok,he,hn,hb⟩=>⟨n,ok,he,lastR_of hn,hb⟩
theorem not_lt (n m:Int):(!decide (n<m))=decide (m≤n):=by by_cases h:n<m<;>simp [h]<;>omega
theorem rwithin (ua:Us a) (ub:Us b) (ht:tmB sec=true) (hs:shB shift=true):
  Calls prog 157 #[spanV a b,.int .i64 sec,.int .i64 shift] w fun e w'=> ∃r,e=.returned (.bool r)∧InQ r a b (minOf sec shift) shift∧Below w.heap.size w w':=by
 have c2:=fun w=>seekD a sec shift w ua ht hs;have c3:=fun w=>seekD b sec shift w ub ht hs;clear ht hs ua ub;go_enter func157,ntmps157
 go_wp2_with (first
  |(go_at_call 173;(with_reducible refine(c2 _).mono ?_);rintro e w2 ⟨n,ok,rfl,hN,hb2⟩;have hw2:Hid (Below w.heap.size w w2):=(balloc _).trans (hb2.mono (by simp));obtain⟨hc2,hf2⟩:=bcell hb2;rcases hN with⟨rfl,x,HX,hX⟩|⟨rfl,rfl,hX⟩;all_goals((try(replace HX:Hid _:=HX));replace hX:Hid _:=hX))
  |(go_at_call 173;(with_reducible refine(c3 _).mono ?_);rintro e w3 ⟨m,ok,rfl,hM,hb3⟩;rcases hM with⟨rfl,y,HY,hY⟩|⟨rfl,rfl,hY⟩;all_goals((try(replace HY:Hid _:=HY));replace hY:Hid _:=hY)))
 all_goals first
  |(go_ret;exact⟨_,rfl,inR_two hX.out hY.out HX.out HY.out,bstep hw2 hb3⟩)
  |(go_ret;exact⟨_,ret_bool (not_lt _ _),inR_two hX.out hY.out HX.out HY.out,bstep hw2 hb3⟩)
  |(go_ret;exact⟨_,rfl,inR_yes hX.out hY.out,bstep hw2 hb3⟩)
  |(go_ret;exact⟨_,rfl,inR_no hX.out,bstep hw2 hb3⟩)
theorem rw_true (ua:Us a) (ub:Us b) (ht:tmB sec=true) (hs:shB shift=true) (h:InP (mt a) (mt b) (minOf sec shift) shift):
  CB 157 #[spanV a b,.int .i64 sec,.int .i64 shift] w (.bool true):=
 (rwithin a b sec shift w ua ub ht hs).mono fun e w' ⟨r,he,hr,hb⟩=>⟨by rw [he,show r=true from hr.2 h],hb⟩
theorem rw_false (ua:Us a) (ub:Us b) (ht:tmB sec=true) (hs:shB shift=true) (h: ¬InP (mt a) (mt b) (minOf sec shift) shift):
  CB 157 #[spanV a b,.int .i64 sec,.int .i64 shift] w (.bool false):=
 (rwithin a b sec shift w ua ub ht hs).mono fun e w' ⟨r,he,hr,hb⟩=>⟨by rw [he,show r=false by cases r;rfl;exact absurd (hr.1 rfl) h],hb⟩
end
