/- The frame of a card whose law's walk wants the world's shape besides what is laid. -/
import Derived.Handed
import Derived.Below
namespace Go.Proofs.YtddabkmppobcdaaGreatDoor
namespace Frm
open Go.RowKit

theorem shaped_form {H:Type} {enc:TypeId×Value→H} {a:Assume} {C:Checked} {os:Os} {f:FuncId} {fn:Func} {s:ChangeSpec} {cs:List PathCond} {ap fr ho ag:Bool} {X:World→Array Value→Prop}
  (hX: ∀w w' as,w.heap=w'.heap→X w as→X w' as) (own:ownKnob C.prog.godebug=none) (st:os.Started) (ni:C.prog.inits.idxOf? f=none) (hfn:C.prog.funcs[f]?=some fn)
  (wit: ∃(w:World) (tape:Tape) (i:Input),w.os=os∧(w.forCall tape i).Shaped C.prog∧i.vars=[]∧Input.okWide C.prog (w.forCall tape i) .any w.heap.size f i∧((s.pre enc C.prog fn cs ap (w.forCall tape i).memory i.args∧X (w.forCall tape i).memory i.args)∧sizedMet enc C.prog fn (OpenSpec.ofChange s) ap (w.forCall tape i).memory i.args)∧a.holds C.prog (lone (Frame.enter C.prog f i.args .normal) [] (w.forCall tape i)))
  (run: ∀(W:World) (b:Nat) (as:Array Value) (ds gs:List (DataW H)) (bef:List MemPlace),(∀(j:Nat) t v,fn.params[j]?=some t→as[j]?=some v→Value.okWide C.prog W .any b t v)→DataW.Whole enc C.prog fn.params.toList s.vars ap W as.toList ds gs bef→X W as→W.ShapedOpen C.prog→Calls C.prog f as W fun e W'=> ∃v,e=.returned v∧s.post enc C.prog fn ap fr ho ag W as v W'):
  ReturnsInHanded a C os f .any (fun w as=>(s.pre enc C.prog fn cs ap w as∧X w as)∧sizedMet enc C.prog fn (OpenSpec.ofChange s) ap w as) (s.post enc C.prog fn ap fr ho ag):=by
 refine returnsInHanded_of_calls own st ni wit fun w tape i _ sh _ ok pr _=> ?_
 obtain⟨_,_,_,g,hg,_,_,_,_,vals⟩:=ok
 cases Option.some.inj (hg.symm.trans hfn)
 obtain⟨⟨⟨ds,gs,bef,wh,_⟩,x⟩,_⟩:=pr
 refine(run (w.forCall tape i) w.heap.size i.args ds gs bef vals (DataW.Whole.of_heap (w':=w.forCall tape i) (by rfl) wh) (hX _ _ _ (by rfl) x) sh).mono ?_
 rintro e W' ⟨v,rfl,po⟩
 exact ChangeSpec.post_blind po
end Frm
end Go.Proofs.YtddabkmppobcdaaGreatDoor
