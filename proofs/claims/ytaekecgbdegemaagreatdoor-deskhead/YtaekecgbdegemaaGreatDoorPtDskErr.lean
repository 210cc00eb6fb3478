/- A part. -/
import Derived.Test.YtaekecgbdegemaaGreatDoorPtAr
import Derived.Stop.Asserts
import Derived.RowKitTokens
set_option linter.all false
open Go.Proofs.Tryz
set_option maxHeartbeats 32000000
set_option maxRecDepth 8000
namespace Go.Proofs.YtaekecgbdegemaaGreatDoor
namespace Dsk
open Go.RowKit Go.Extern.Stop Go.Stop Go.Extern
variable {v:Value}

abbrev fA (e:Int):Value:=.agg #[.int .i64 e]
abbrev lA (e n:Int):Value:=.agg #[.int .i64 e,.int .i64 n]
abbrev hd (t:Nat):Value:=.pointer (some ⟨10,t,none⟩)
abbrev rT (t:Nat):Value:=.iface 133 (.agg #[hd t])
abbrev vA (t:Nat) (a:Addr) (f:Int):Value:=.agg #[hd t,.pointer (some a),.int .u64 f]
theorem rlm (z:Sem Value) (f:TypeId→Addr→Nat→Nat→Sem Value) (v:Value):
  ReflectliteValue.method z f #[v]=(do match←ReflectliteValue.parts v with|none=>z|some (t,a,fl)=>f t a fl (fl%32)):=rfl
inductive TE:Nat→Nat→Prop
 |f:TE 65 31
 |l:TE 67 63
section
variable {T E : Nat} (t a : Addr) (w : World)
theorem vOfT (h:TE T E):(ReflectliteValue.unpack (.iface T (.pointer (some t)))).run prog w=.ok (vA T ⟨w.heap.size,0,none⟩ 150) (w.alloc (.cells #[.pointer (some t)] T)):=by cases h<;>kernel_rfl
theorem typT (h : TE T E) : (ReflectliteValue.methodAny (ReflectliteValue.valueError "reflectlite.Value.Type" 0) (fun t _ _ _ => ReflectliteType.toType t) #[vA T t 150]).run prog w = .ok (rT T) w := by cases h <;> kernel_rfl
theorem kindT (h:TE T E):((ReflectliteType.abiMethod fun t=>(fun a:Nat=>Value.int IntKind.u8 (a:Int))<$>Rtype.kind t) #[hd T]).run prog w=.ok (.int .u8 22) w:=by cases h<;>kernel_rfl
theorem kindE (h:TE T E):((ReflectliteType.abiMethod fun t=>(fun a:Nat=>Value.int IntKind.u8 (a:Int))<$>Rtype.kind t) #[hd E]).run prog w=.ok (.int .u8 25) w:=by cases h<;>kernel_rfl
theorem prtT (h:TE T E):(ReflectliteValue.parts (vA T t 150)).run prog w=.ok (some (T,t,150)) w:=by cases h<;>kernel_rfl
theorem elT (h:TE T E):(ReflectliteType.method ReflectliteType.elem #[.agg #[hd T]]).run prog w=.ok (rT E) w:=by cases h<;>kernel_rfl
theorem impE (h : TE T E) : (ReflectliteType.relation "Implements" ReflectliteType.implements_ #[.agg #[hd E], rT 40]).run prog w = .ok (.bool true) w := by cases h <;> kernel_rfl
theorem elemT (h:TE T E):(Rtype.elem? T).run prog w=.ok (some E) w:=by cases h<;>kernel_rfl
theorem mkE (h:TE T E):(ReflectliteValue.mk E t ReflectliteValue.flagAddr).run prog w=.ok (vA E t 409) w:=by cases h<;>kernel_rfl
theorem undT (h:TE T E): ∃x,prog.underlying T=some (.pointer x):=by cases h;exact⟨_,underlying65⟩;exact⟨_,underlying67⟩
theorem nilT (h : TE T E) (ha : w.cell? a = some (.pointer (some t))) : (ReflectliteValue.method (ReflectliteValue.valueError "reflectlite.Value.IsNil" 0) ReflectliteValue.isNil #[vA T a 150]).run prog w = .ok (.bool false) w := by
 obtain⟨x,hx⟩:=undT h;rw [rlm];simp only [XX,prtT _ _ h,Result.andThen];simp [ReflectliteValue.isNil,loadVar,isAgg,underlying,hx,ha,Result.andThen]
theorem elvT (h : TE T E) (ha : w.cell? a = some (.pointer (some t))) : (ReflectliteValue.method (ReflectliteValue.valueError "reflectlite.Value.Elem" 0) ReflectliteValue.elem #[vA T a 150]).run prog w = .ok (vA E t 409) w := by
 obtain⟨x,hx⟩:=undT h;rw [rlm];simp only [XX,prtT _ _ h,Result.andThen];simp [ReflectliteValue.elem,loadVar,isAgg,underlying,hx,ha,Result.andThen,elemT _ h,mkE _ _ h]
theorem tyE (h:TE T E) (v:Value):(ReflectliteType.typeOf #[.iface E v]).run prog w=.ok (rT E) w:=by cases h<;>kernel_rfl
theorem asgE (h : TE T E) : (ReflectliteType.relation "AssignableTo" ReflectliteType.assignableTo #[.agg #[hd E], rT E]).run prog w = .ok (.bool true) w := by cases h <;> kernel_rfl
theorem asgN : (ReflectliteType.relation "AssignableTo" ReflectliteType.assignableTo #[.agg #[hd 31], rT 63]).run prog w = .ok (.bool false) w ∧ (ReflectliteType.relation "AssignableTo" ReflectliteType.assignableTo #[.agg #[hd 63], rT 31]).run prog w = .ok (.bool false) w := ⟨by kernel_rfl, by kernel_rfl⟩
theorem vOfF (e:Int):(ReflectliteValue.unpack (.iface 31 (fA e))).run prog w=.ok (vA 31 ⟨w.heap.size,0,none⟩ 153) (w.alloc (.cells #[.int .i64 e] 31)):=by kernel_rfl
theorem vOfL (e n:Int):(ReflectliteValue.unpack (.iface 63 (lA e n))).run prog w=.ok (vA 63 ⟨w.heap.size,0,none⟩ 153) (w.alloc (.cells #[.int .i64 e,.int .i64 n] 63)):=by kernel_rfl
end
section
variable (h : Value) (w : World)
theorem mKind : (Go.method 469 133 (.agg #[h]) "Kind").run prog w = .ok (292, h) w := by kernel_rfl
theorem mElem : (Go.method 469 133 (.agg #[h]) "Elem").run prog w = .ok (305, .agg #[h]) w := by kernel_rfl
theorem mImpl : (Go.method 469 133 (.agg #[h]) "Implements").run prog w = .ok (306, .agg #[h]) w := by kernel_rfl
theorem mAsg : (Go.method 469 133 (.agg #[h]) "AssignableTo").run prog w = .ok (303, .agg #[h]) w := by kernel_rfl
end

theorem rls (v x : Value) : ReflectliteValue.set #[v, x] = (do
  let (some (dst,a,fl),some (src,b,_)):=(←ReflectliteValue.parts v,←ReflectliteValue.parts x)
   | unsupported (.noEntry "extern/(internal/reflectlite.Value).Set.zeroValue")
  if fl / ReflectliteValue.flagAddr % 2 == 0 then unsupported (.noEntry "extern/(internal/reflectlite.Value).Set.unaddressable")
  let val←loadVar src b
  if←Rtype.directlyAssignable dst src then storeVar dst a val
  else if←Rtype.implements dst src then
   if(←Rtype.kind src)==20 then
    match val with
    | .nilIface => unsupported (.noEntry "extern/reflectlite: a nil value of one interface type handed on as a value of another")
    |_=>storeVar dst a val
   else storeVar dst a (.iface src val)
  else panicString ("reflectlite.Set: value of type " ++ (← Rtype.spelt src) ++ " is not assignable to type " ++ (← Rtype.spelt dst))
  pure (.tuple #[])):=rfl
section
variable (t b : Addr) (w : World)
theorem prt31:(ReflectliteValue.parts (vA 31 t 409)).run prog w=.ok (some (31,t,409)) w∧(ReflectliteValue.parts (vA 31 t 153)).run prog w=.ok (some (31,t,153)) w:=⟨by kernel_rfl,by kernel_rfl⟩
theorem prt63:(ReflectliteValue.parts (vA 63 t 409)).run prog w=.ok (some (63,t,409)) w∧(ReflectliteValue.parts (vA 63 t 153)).run prog w=.ok (some (63,t,153)) w:=⟨by kernel_rfl,by kernel_rfl⟩
theorem dir31:(Rtype.directlyAssignable 31 31).run prog w=.ok true w:=by kernel_rfl
theorem dir63:(Rtype.directlyAssignable 63 63).run prog w=.ok true w:=by kernel_rfl
theorem setF (k m:Nat) (e:Int) (old:Value) (hb:w.cell? ⟨m,0,none⟩=some (.int .i64 e)) (ht:w.cell? ⟨k,0,none⟩=some old) (hf:w.frozen? ⟨k,0,none⟩=false):
  (ReflectliteValue.set #[vA 31 ⟨k,0,none⟩ 409,vA 31 ⟨m,0,none⟩ 153]).run prog w=.ok (.tuple #[]) (w.setCell ⟨k,0,none⟩ (.int .i64 e)):=by
 rw [rls];simp only [XX,(prt31 _ _).1,(prt31 _ _).2,Result.andThen];simp [ReflectliteValue.flagAddr,loadVar,isAgg,underlying,underlying31,hb,Result.andThen,dir31,storeVar,Value.cells,storeCells,Addr.add,loadCells,loadCellsFrom];rw [run_store prog w ⟨k,0,none⟩ _ _ (by rfl)];simp [ht,hf]
theorem setL (k m:Nat) (e n:Int) (o1 o2:Value) (hb:w.cell? ⟨m,0,none⟩=some (.int .i64 e)) (hc:w.cell? ⟨m,1,none⟩=some (.int .i64 n)) (ht:w.cell? ⟨k,0,none⟩=some o1) (hu:w.cell? ⟨k,1,none⟩=some o2) (hf: ∀j,w.frozen? ⟨k,j,none⟩=false):
  (ReflectliteValue.set #[vA 63 ⟨k,0,none⟩ 409,vA 63 ⟨m,0,none⟩ 153]).run prog w=.ok (.tuple #[]) ((w.setCell ⟨k,0,none⟩ (.int .i64 e)).setCell ⟨k,1,none⟩ (.int .i64 n)):=by
 rw [rls];simp only [XX,(prt63 _ _).1,(prt63 _ _).2,Result.andThen];simp [ReflectliteValue.flagAddr,loadVar,isAgg,underlying,underlying63,hb,hc,Result.andThen,dir63,storeVar,Value.cells,storeCells,Addr.add,loadCells,loadCellsFrom];rw [run_store prog w ⟨k,0,none⟩ _ _ (by rfl)];simp [ht,hf];rw [run_store prog _ ⟨k,1,none⟩ _ _ (by rfl)];simp only [Xi,hf];rw [Xd (h:=fun e=>by cases e),hu];simp
end

theorem balloc (w:World) (o:Obj):Below w.heap.size w (w.alloc o):=(Below.refl _ _).alloc (Xa _) _
theorem cell_al {w:World} {a:Addr} (h:w.cell? a=some v) (o:Obj):(w.alloc o).cell? a=some v:=(World.cell?_alloc_lt _ _ a (Xj w _ h)).trans h
theorem fz_al {w:World} {a:Addr} (hc:w.cell? a=some v) (h:w.frozen? a=false) (o:Obj):(w.alloc o).frozen? a=false:=(World.frozen?_alloc_old _ _ a (Nat.ne_of_lt (Xj w _ hc))).trans h
theorem fz_all {w:World} {k:Nat} (hc:w.cell? ⟨k,0,none⟩=some v) (h: ∀j,w.frozen? ⟨k,j,none⟩=false) (o:Obj): ∀j,(w.alloc o).frozen? ⟨k,j,none⟩=false:=fun j=>(World.frozen?_alloc_old _ _ ⟨k,j,none⟩ (show k≠w.heap.size from Nat.ne_of_lt (Xj w _ hc))).trans (h j)
section
variable (k : Nat) (w : World)
theorem as_f (e:Int) (V:Addr) (old:Value) (ht:w.cell? ⟨k,0,none⟩=some old) (hf:w.frozen? ⟨k,0,none⟩=false) (hV:w.cell? V=some (.pointer (some ⟨k,0,none⟩))):
  Calls prog 54 #[.iface 31 (fA e),.iface 65 (.pointer (some ⟨k,0,none⟩)),vA 65 V 150,rT 31] w fun ev w'=>ev=.returned (.bool true)∧ ∃w1,Below w.heap.size w w1∧w'=w1.setCell ⟨k,0,none⟩ (.int .i64 e):=by
 have h51:= @run_callFunc_extern prog 51 _ (fun args=>ReflectliteValue.unpack (args.getD 0 (.tuple #[]))) func51 (by kernel_rfl) (by kernel_rfl) (by kernel_rfl) (by kernel_rfl);have h74:= @run_callFunc_extern prog 74 _ ReflectliteType.typeOf func74 (by kernel_rfl) (by kernel_rfl) (by kernel_rfl) (by kernel_rfl)
 have h303 := @run_callFunc_extern prog 303 _ (ReflectliteType.relation "AssignableTo" ReflectliteType.assignableTo) func303 (by kernel_rfl) (by kernel_rfl) (by kernel_rfl) (by kernel_rfl)
 have h75 := @run_callFunc_extern prog 75 _ (ReflectliteValue.method (ReflectliteValue.valueError "reflectlite.Value.Elem" 0) ReflectliteValue.elem) func75 (by kernel_rfl) (by kernel_rfl) (by kernel_rfl) (by kernel_rfl)
 have h76:= @run_callFunc_extern prog 76 _ ReflectliteValue.set func76 (by kernel_rfl) (by kernel_rfl) (by kernel_rfl) (by kernel_rfl);have tO:=fun v w=>tyE w TE.f v;have mA:=mAsg;have aE:=fun w=>asgE w TE.f;have vF:=vOfF;have el:=elvT ⟨k,0,none⟩ V (w.alloc (.cells #[hd 65,.pointer (some V),.int .u64 150] 83)) TE.f (cell_al hV _);have st:=setF ((w.alloc (.cells #[hd 65,.pointer (some V),.int .u64 150] 83)).alloc (.cells #[.int .i64 e] 31)) k (w.heap.size+1) e old (by simp [Yl]) (cell_al (cell_al ht _) _) (fz_al (cell_al ht _) (fz_al ht hf _) _);go_enter func54,ntmps54;go_wp2;refine wp_loop_rounds 1 ?_;rw [rounds_succ];go_wp2;go_ret;exact⟨rfl,_,((balloc _ _).alloc (by simp) _),rfl⟩
theorem as_l (e n:Int) (V:Addr) (o1 o2:Value) (ht:w.cell? ⟨k,0,none⟩=some o1) (hu:w.cell? ⟨k,1,none⟩=some o2) (hf: ∀j,w.frozen? ⟨k,j,none⟩=false) (hV:w.cell? V=some (.pointer (some ⟨k,0,none⟩))):
  Calls prog 54 #[.iface 63 (lA e n),.iface 67 (.pointer (some ⟨k,0,none⟩)),vA 67 V 150,rT 63] w fun ev w'=>ev=.returned (.bool true)∧ ∃w1,Below w.heap.size w w1∧w'=(w1.setCell ⟨k,0,none⟩ (.int .i64 e)).setCell ⟨k,1,none⟩ (.int .i64 n):=by
 have h51:= @run_callFunc_extern prog 51 _ (fun args=>ReflectliteValue.unpack (args.getD 0 (.tuple #[]))) func51 (by kernel_rfl) (by kernel_rfl) (by kernel_rfl) (by kernel_rfl);have h74:= @run_callFunc_extern prog 74 _ ReflectliteType.typeOf func74 (by kernel_rfl) (by kernel_rfl) (by kernel_rfl) (by kernel_rfl)
 have h303 := @run_callFunc_extern prog 303 _ (ReflectliteType.relation "AssignableTo" ReflectliteType.assignableTo) func303 (by kernel_rfl) (by kernel_rfl) (by kernel_rfl) (by kernel_rfl)
 have h75 := @run_callFunc_extern prog 75 _ (ReflectliteValue.method (ReflectliteValue.valueError "reflectlite.Value.Elem" 0) ReflectliteValue.elem) func75 (by kernel_rfl) (by kernel_rfl) (by kernel_rfl) (by kernel_rfl)
 have h76:= @run_callFunc_extern prog 76 _ ReflectliteValue.set func76 (by kernel_rfl) (by kernel_rfl) (by kernel_rfl) (by kernel_rfl);have tO:=fun v w=>tyE w TE.l v;have mA:=mAsg;have aE:=fun w=>asgE w TE.l;have vF:=vOfL;have el:=elvT ⟨k,0,none⟩ V (w.alloc (.cells #[hd 67,.pointer (some V),.int .u64 150] 83)) TE.l (cell_al hV _);have st:=setL ((w.alloc (.cells #[hd 67,.pointer (some V),.int .u64 150] 83)).alloc (.cells #[.int .i64 e,.int .i64 n] 63)) k (w.heap.size+1) e n o1 o2 (by simp [Yl]) (by simp [Yl]) (cell_al (cell_al ht _) _) (cell_al (cell_al hu _) _) (fz_all (cell_al ht _) (fz_all ht hf _) _);go_enter func54,ntmps54;go_wp2;refine wp_loop_rounds 1 ?_;rw [rounds_succ];go_wp2;go_ret;exact⟨rfl,_,((balloc _ _).alloc (by simp) _),rfl⟩
theorem as_n (e:Int) (x:Value) (V:Addr):
  CB 54 #[.iface 31 (fA e),x,vA 67 V 150,rT 63] w (.bool false):=by
 have h74:= @run_callFunc_extern prog 74 _ ReflectliteType.typeOf func74 (by kernel_rfl) (by kernel_rfl) (by kernel_rfl) (by kernel_rfl)
 have h303 := @run_callFunc_extern prog 303 _ (ReflectliteType.relation "AssignableTo" ReflectliteType.assignableTo) func303 (by kernel_rfl) (by kernel_rfl) (by kernel_rfl) (by kernel_rfl)
 have tO:=fun v w=>tyE w TE.f v;have mA:=mAsg;have aE:=fun w=>(asgN w).1;have t1:=fun w=>run_typeAssert_lacksB (P:=prog) (t:=31) (z:=.nilIface) underlying138 (by kernel_rfl) (by kernel_rfl) (fA e) 40 w;have t2:=fun w=>run_typeAssert_lacksB (P:=prog) (t:=31) (z:=.nilIface) underlying141 (by kernel_rfl) (by kernel_rfl) (fA e) 40 w;have t3:=fun w=>run_typeAssert_lacksB (P:=prog) (t:=31) (z:=.nilIface) underlying143 (by kernel_rfl) (by kernel_rfl) (fA e) 40 w;go_enter func54,ntmps54;go_wp2;refine wp_loop_rounds 1 ?_;rw [rounds_succ];go_wp2;go_ret;exact⟨rfl,balloc _ _⟩
theorem unw (e n:Int) (w:World):Calls prog 298 #[lA e n] w fun ev w'=>ev=.returned (.iface 31 (fA e))∧w'=w.alloc (.cells #[.int .i64 e,.int .i64 n] 63):=by
 go_enter func298,ntmps298;go_wp2;go_ret;exact⟨rfl,rfl⟩
theorem as_u (e n:Int) (V:Addr) (old:Value) (ht:w.cell? ⟨k,0,none⟩=some old) (hf:w.frozen? ⟨k,0,none⟩=false) (hV:w.cell? V=some (.pointer (some ⟨k,0,none⟩))):
  Calls prog 54 #[.iface 63 (lA e n),.iface 65 (.pointer (some ⟨k,0,none⟩)),vA 65 V 150,rT 31] w fun ev w'=>ev=.returned (.bool true)∧ ∃w1,Below w.heap.size w w1∧w'=w1.setCell ⟨k,0,none⟩ (.int .i64 e):=by
 have h51:= @run_callFunc_extern prog 51 _ (fun args=>ReflectliteValue.unpack (args.getD 0 (.tuple #[]))) func51 (by kernel_rfl) (by kernel_rfl) (by kernel_rfl) (by kernel_rfl);have h74:= @run_callFunc_extern prog 74 _ ReflectliteType.typeOf func74 (by kernel_rfl) (by kernel_rfl) (by kernel_rfl) (by kernel_rfl)
 have h303 := @run_callFunc_extern prog 303 _ (ReflectliteType.relation "AssignableTo" ReflectliteType.assignableTo) func303 (by kernel_rfl) (by kernel_rfl) (by kernel_rfl) (by kernel_rfl)
 have h75 := @run_callFunc_extern prog 75 _ (ReflectliteValue.method (ReflectliteValue.valueError "reflectlite.Value.Elem" 0) ReflectliteValue.elem) func75 (by kernel_rfl) (by kernel_rfl) (by kernel_rfl) (by kernel_rfl)
 have h76:= @run_callFunc_extern prog 76 _ ReflectliteValue.set func76 (by kernel_rfl) (by kernel_rfl) (by kernel_rfl) (by kernel_rfl);have tO:=fun v w=>tyE w TE.f v;have tL:=fun v w=>tyE w TE.l v;have mA:=mAsg;have aE:=fun w=>asgE w TE.f;have aN:=fun w=>(asgN w).2;have vF:=vOfF;have t1:=fun w=>run_typeAssert_lacksB (P:=prog) (t:=63) (z:=.nilIface) underlying138 (by kernel_rfl) (by kernel_rfl) (lA e n) 40 w;have t2:=fun w=>run_typeAssert_hasB (P:=prog) (t:=63) underlying141 (by kernel_rfl) (lA e n) 40 w
 have mU : ∀ w, (Go.method 469 63 (lA e n) "Unwrap").run prog w = .ok (298, lA e n) w := fun w => by kernel_rfl
 have cU:=unw e n;have el:=elvT ⟨k,0,none⟩ V ((w.alloc (.cells #[hd 65,.pointer (some V),.int .u64 150] 83)).alloc (.cells #[.int .i64 e,.int .i64 n] 63)) TE.f (cell_al (cell_al hV _) _);have st:=setF (((w.alloc (.cells #[hd 65,.pointer (some V),.int .u64 150] 83)).alloc (.cells #[.int .i64 e,.int .i64 n] 63)).alloc (.cells #[.int .i64 e] 31)) k (w.heap.size+1+1) e old (by simp [Yl]) (cell_al (cell_al (cell_al ht _) _) _) (fz_al (cell_al (cell_al ht _) _) (fz_al (cell_al ht _) (fz_al ht hf _) _) _);go_enter func54,ntmps54;go_wp2;refine wp_loop_rounds 2 ?_;rw [rounds_succ];go_wp2_with(go_at_call 298;(with_reducible refine(cU _).mono ?_);rintro ev w' ⟨rfl,rfl⟩)
 rw [rounds_succ];go_wp2;go_ret;exact⟨rfl,_,(((balloc _ _).alloc (by simp) _).alloc (by simp;omega) _),rfl⟩
end
