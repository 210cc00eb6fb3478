/- A part. -/
import Derived.Test.YtaekecgbdegemaaGreatDoorPtAr
import Derived.SizedLaws
set_option linter.all false
open Go.Proofs.Tryz
namespace Go.Proofs.YtaekecgbdegemaaGreatDoor
namespace Frm
open Go.RowKit
variable {H:Type} {enc:TypeId×Value→H}


theorem shaped_sized {a:Assume} {C:Checked} {os:Os} {f:FuncId} {fn:Func} {s:ChangeSpec} {cs:List PathCond} {ap fr ho ag:Bool} {X:World→Array Value→Prop}
  (hX: ∀w w' az,w.heap=w'.heap→X w az→X w' az) (own:ownKnob C.prog.godebug=none) (st:os.Started) (ni:C.prog.inits.idxOf? f=none) (hfn:C.prog.funcs[f]? =some fn)
  (wit: ∃(w:World) (tape:Tape) (i:Input),w.os=os∧(w.forCall tape i).Shaped C.prog∧i.vars=[]∧Input.okWide C.prog (w.forCall tape i) .any w.heap.size f i∧((s.pre enc C.prog fn cs ap (w.forCall tape i).memory i.args∧X (w.forCall tape i).memory i.args)∧sizedMet enc C.prog fn (OpenSpec.ofChange s) ap (w.forCall tape i).memory i.args)∧a.holds C.prog (lone (Frame.enter C.prog f i.args .normal) [] (w.forCall tape i)))
  (run: ∀(W:World) (b:Nat) (az:Array Value) (ds gs:List (DataW H)) (bef:List MemPlace),(∀(j:Nat) t v,fn.params[j]? =some t→az[j]? =some v→Value.okWide C.prog W .any b t v)→DataW.Whole enc C.prog fn.params.toList s.vars ap W az.toList ds gs bef→X W az→W.ShapedOpen C.prog→(DataW.weightsEach C.prog (fn.params.toList++s.plain.varTypes C.prog) (ds++gs)).all (· ≤reachBytes)=true→Calls C.prog f az W fun e W'=> ∃v,e=.returned v∧s.post enc C.prog fn ap fr ho ag W az v W'):
  ReturnsInHanded a C os f .any (fun w az=>(s.pre enc C.prog fn cs ap w az∧X w az)∧sizedMet enc C.prog fn (OpenSpec.ofChange s) ap w az) (s.post enc C.prog fn ap fr ho ag):=by
 refine returnsInHanded_of_calls own st ni wit fun w tape i _ sh _ ok pr _=> ?_;obtain⟨_,_,_,g,hg,_,_,_,_,vals⟩:=ok;cases XZ (hg.symm.trans hfn);obtain⟨⟨⟨ds,gs,bef,wh,_⟩,x⟩,z⟩:=pr;refine(run (w.forCall tape i) w.heap.size i.args ds gs bef vals (DataW.Whole.of_heap (w':=w.forCall tape i) (by rfl) wh) (hX _ _ _ (by rfl) x) sh (z.weights wh)).mono ?_;rintro e W' ⟨v,rfl,po⟩;exact ChangeSpec.post_blind po
theorem sized_str {P:Program} {w:World} {base:Nat} {spare:Nat→Bool} {held:Bool} {t:TypeId} {ts:List TypeId} {ds:List (DataW H)} {a:ByteArray} {d:DataW H} {p:List MemPlace} (ht:P.underlying t=some .string)
  (h:(DataW.weightsEach P ts ds).all (· ≤reachBytes)=true) {j:Nat} (hj:ts[j]? =some t) (hd:ds[j]? =some d) (k:DataW.Trod enc P w base spare held t (.string a) d p):a.size≤140737488355328:=by
 obtain⟨fuel,hf⟩:=k;obtain⟨s,h1,h2,_⟩:=DataW.trod_string ht hf;have e:s=a:=by simpa [Value.cells]using h1.symm
 subst e;rw [(Prod.mk.inj h2).1]at hd;have h3:=sized_string h hj hd;have h4:=reachBytes_lt;have h5:s.size=s.data.toList.length:=rfl;omega
