/- A part. -/
import Derived.Test.YtaekecgbdegemaaGreatDoorPtAr
import Derived.Handed
set_option linter.all false
open Go.Proofs.Tryz
namespace Go.Proofs.YtaekecgbdegemaaGreatDoor
namespace Frm
open Go.RowKit

theorem shaped_form {H:Type} {enc:TypeId×Value→H} {a:Assume} {C:Checked} {os:Os} {f:FuncId} {fn:Func} {s:ChangeSpec} {cs:List PathCond} {ap fr ho ag:Bool} {X:World→Array Value→Prop}
  (hX: ∀w w' az,w.heap=w'.heap→X w az→X w' az) (own:ownKnob C.prog.godebug=none) (st:os.Started) (ni:C.prog.inits.idxOf? f=none) (hfn:C.prog.funcs[f]? =some fn)
  (wit: ∃(w:World) (tape:Tape) (i:Input),w.os=os∧(w.forCall tape i).Shaped C.prog∧i.vars=[]∧Input.okWide C.prog (w.forCall tape i) .any w.heap.size f i∧((s.pre enc C.prog fn cs ap (w.forCall tape i).memory i.args∧X (w.forCall tape i).memory i.args)∧sizedMet enc C.prog fn (OpenSpec.ofChange s) ap (w.forCall tape i).memory i.args)∧a.holds C.prog (lone (Frame.enter C.prog f i.args .normal) [] (w.forCall tape i)))
  (run: ∀(W:World) (b:Nat) (az:Array Value) (ds gs:List (DataW H)) (bef:List MemPlace),(∀(j:Nat) t v,fn.params[j]? =some t→az[j]? =some v→Value.okWide C.prog W .any b t v)→DataW.Whole enc C.prog fn.params.toList s.vars ap W az.toList ds gs bef→X W az→W.ShapedOpen C.prog→Calls C.prog f az W fun e W'=> ∃v,e=.returned v∧s.post enc C.prog fn ap fr ho ag W az v W'):
  ReturnsInHanded a C os f .any (fun w az=>(s.pre enc C.prog fn cs ap w az∧X w az)∧sizedMet enc C.prog fn (OpenSpec.ofChange s) ap w az) (s.post enc C.prog fn ap fr ho ag):=by
 refine returnsInHanded_of_calls own st ni wit fun w tape i _ sh _ ok pr _=> ?_;obtain⟨_,_,_,g,hg,_,_,_,_,vals⟩:=ok;cases XZ (hg.symm.trans hfn);obtain⟨⟨⟨ds,gs,bef,wh,_⟩,x⟩,_⟩:=pr;refine(run (w.forCall tape i) w.heap.size i.args ds gs bef vals (DataW.Whole.of_heap (w':=w.forCall tape i) (by rfl) wh) (hX _ _ _ (by rfl) x) sh).mono ?_;rintro e W' ⟨v,rfl,po⟩;exact ChangeSpec.post_blind po
