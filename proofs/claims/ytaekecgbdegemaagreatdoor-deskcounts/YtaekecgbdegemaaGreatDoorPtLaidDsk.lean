/- A part. -/
import Derived.Test.YtaekecgbdegemaaGreatDoorPtDskSt
import Derived.LaidSub
import Derived.Lay
set_option linter.all false
open Go.Proofs.Tryz
namespace Go.Proofs.YtaekecgbdegemaaGreatDoor
namespace Dsk
open Go.RowKit
variable {w:World}
set_option maxRecDepth 100000

theorem gnE : prog.globalNamed "errors.errorType" = some 1 := by kernel_rfl
theorem rowE:(List.range prog.types.size).all (fun ty=> !prog.rowNamed ty [101,114,114,111,114]||ty==40)=true:=by kernel_rfl
theorem et_of (h : handlesMet prog [("errors.errorType", Rows.laid_errors_errorType)] w) : EtAt w := by
 have h1:=h _ (XA.2 rfl);rw [show(Rows.laid_errors_errorType:DataW Unit).funcsIn? =none from rfl]at h1;obtain⟨name,u,ty,hn,hu,ht,hr,hv⟩:=h1;obtain rfl:[101,114,114,111,114]=name:=XZ ((show(Rows.laid_errors_errorType:DataW Unit).handleName? =some [101,114,114,111,114]from rfl).symm.trans hn)
 obtain rfl : 133 = u := XZ ((show (prog.cutTypes.find? (·.1 == "internal/reflectlite.rtype")).map (·.2) = some 133 by kernel_rfl).symm.trans hu)
 have h2:=Ye.1 rowE ty (List.mem_range.2 ht);rw [hr]at h2;obtain rfl:ty=40:=by simpa using h2
 exact World.var?_cell gnE hv 0
theorem gnS : prog.globalNamed "strconv.ErrSyntax" = some 6 := by kernel_rfl
theorem gnR : prog.globalNamed "strconv.ErrRange" = some 7 := by kernel_rfl
theorem gtS:(prog.globals[6]?).map (·.type)=some 40:=by kernel_rfl
theorem gtR:(prog.globals[7]?).map (·.type)=some 40:=by kernel_rfl
theorem if_of {n:String} {nm:String} {g t:Nat} {d:DataW Unit} {ms:Array (String×TypeId)} (hg:prog.globalNamed n=some g) (ht:(prog.globals[g]?).map (·.type)=some t) (hi:prog.underlying t=some (.interface ms)) (h:Lib.VarReads prog w n (.iface nm d)): ∃te pe,w.cell? ⟨g,0,none⟩=some (.iface te pe):=by
 obtain⟨g',t',cs,fuel,p,hg',hty,hvar,hd⟩:=h;obtain rfl:=XZ (hg.symm.trans hg');obtain rfl:=XZ (ht.symm.trans hty);obtain⟨_,u,v,hcs,_⟩:=iface_of_trod hi hd;refine⟨u,v,?_⟩;rw [World.var?_cell hg hvar 0,←Array.getElem?_toList,hcs];rfl
theorem ne_of (h1 : Lib.VarReads prog w "strconv.ErrSyntax" Rows.laid_strconv_ErrSyntax) (h2 : Lib.VarReads prog w "strconv.ErrRange" Rows.laid_strconv_ErrRange) : NeAt w := by
 rintro g (rfl|rfl)
 ·exact if_of gnS gtS underlying40 h1
 ·exact if_of gnR gtR underlying40 h2
theorem laid_at {P:Program} {laid:List (String×DataW Unit)} (w0:World) (args:Array Value) (hf:w0.layFits P laid []=true) (hi:w0.layIfaces P laid (w0.layVars P laid)=true):laidMet P laid ((w0.layVars P laid).forCall (fun _ _=>0) ⟨#[],args,[]⟩).memory:=by
 have e1:(laid.filter fun x=>(laid.map (·.1)).contains x.1)=laid:=List.filter_eq_self.2 fun x hx=>List.contains_iff_mem.2 (XS.2 ⟨x,hx,rfl⟩);have e2:(laid.filter fun x=> !(laid.map (·.1)).contains x.1)=[]:=List.filter_eq_nil_iff.2 fun x hx=>by rw [List.contains_iff_mem.2 (XS.2 ⟨x,hx,rfl⟩)];simp
 have h:laidMet P laid (w0.layVars P laid):=laidMet_layVars (w0:=w0) (laid.map (·.1)) [] (by rw [e1]) (by rw [e1];exact hf) (by rw [e1];exact hi) (by rw [e2];exact LaidIn.none);exact h.of_heap (by simp [World.memory,World.forCall,Input.heap])
