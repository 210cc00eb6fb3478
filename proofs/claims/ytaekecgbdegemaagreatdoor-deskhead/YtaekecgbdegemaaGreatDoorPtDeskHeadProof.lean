/- Proved: for every two texts that are handed to the desk: what the first text is answered stands at the beginning of what both are answered, one behind the other (where both together are not too great); and a date and a next time are answered as they should be. -/
import Derived.ShutString
import Derived.Test.YtaekecgbdegemaaGreatDoorPtLaidDsk
import Derived.Test.YtaekecgbdegemaaGreatDoorPtFrameShh
import Derived.LaidMore
import Derived.SevenTiedAt
import Derived.Test.YtaekecgbdegemaaGreatDoorCards
import Derived.Test.YtaekecgbdegemaaGreatDoorTie
import Derived.Test.YtaekecgbdegemaaGreatDoorPtDskPlayh
set_option linter.all false
open Go.Proofs.Tryz
set_option maxHeartbeats 32000000
set_option maxRecDepth 8000
namespace Go.Proofs.YtaekecgbdegemaaGreatDoor.deskHead
open Go.ChangeShapes Go.WideShapes Go.ChangeAt Go.RowKit
set_option linter.unusedVariables false

theorem own:ownKnob Tryz.prog.godebug=none:=by kernel_rfl
theorem laidOut:laidOutB Tryz.prog=true:=by kernel_rfl

open Crn Lai Pln Dsk

theorem walk (w:World) (a0:ByteArray) (a1:ByteArray) (b0:(a0.size:Int)≤9223372036854775807) (b0_sz:a0.size≤140737488355328) (b1:(a1.size:Int)≤9223372036854775807) (b1_sz:a1.size≤140737488355328) (hT:Lai.TabIs64 w) (hP:Lai.PowAt w) (hB:Lai.BdsAt w) (hM:Pln.MlAt w) (hE:Dsk.EtAt w) (hN:Dsk.NeAt w):
  Calls Tryz.prog 3 #[.string a0,.string a1] w fun e w'=>e=.returned (.bool true)∧Below w.heap.size w w':=by
 obtain⟨l,rfl⟩: ∃s:List UInt8,a0=⟨s.toArray⟩:=⟨a0.data.toList,by simp⟩
 obtain⟨m,rfl⟩: ∃s:List UInt8,a1=⟨s.toArray⟩:=⟨a1.data.toList,by simp⟩
 have hl:l.length≤140737488355328:=b0_sz;have hm:m.length≤140737488355328:=b1_sz;obtain⟨rd,hrd⟩:=rd_exists;obtain⟨f,hf,h0⟩:=f_head hrd;exact head_go hf h0 l m w ⟨⟨hB,hT,hP,hM⟩,hE,hN⟩ (by omega)

theorem door_met (os:Os) (args:Array Value):laidMetH Tryz.prog Rows.deskHeadRow.laid ((((World.holding Tryz.prog os ⟨#[],#[],[]⟩).setCell ⟨1,0,none⟩ (Dsk.rT 40)).layVars Tryz.prog (Rows.deskHeadRow.laid.filter fun x=>x.2.handleName?.isNone)).forCall (fun _ _=>0) ⟨#[],args,[]⟩).memory:=
 laidMetH_of_parts (Dsk.laid_at _ args (by kernel_rfl) (by kernel_rfl)) (by kernel_rfl)

set_option maxRecDepth 100000 in
theorem lifted (os:Os) (started:os.Started) (H:Type) (enc:TypeId×Value→H):
  ReturnsInHanded {} Tryz.checked os 3 .any (fun w args=>(Rows.deskHeadSpec.pre enc Tryz.prog Tryz.f3 [] false w args∧laidMetH Tryz.prog Rows.deskHeadRow.laid w)∧sizedMet enc Tryz.prog Tryz.f3 (OpenSpec.ofChange Rows.deskHeadSpec) false w args)
   (Rows.deskHeadSpec.post enc Tryz.prog Tryz.f3 false true false false):=by
 refine Frm.shaped_sized (C:=Tryz.checked) (X:=fun w _=>laidMetH Tryz.prog Rows.deskHeadRow.laid w) (fun _ _ _ hh h=>h.of_heap hh) own started (by kernel_rfl) Tryz.func3
  (ChangeSpec.witness_shaped (enc:=enc) (C:=Tryz.checked) (os:=os) (X:=fun w _=>laidMetH Tryz.prog Rows.deskHeadRow.laid w) false (((World.holding Tryz.prog os ⟨#[],#[],[]⟩).setCell ⟨1,0,none⟩ (Dsk.rT 40)).layVars Tryz.prog (Rows.deskHeadRow.laid.filter fun x=>x.2.handleName?.isNone)) #[.string ByteArray.empty,.string ByteArray.empty] 8 (World.layVars_os _ _ _) (World.shaped_of_ZipB (by kernel_rfl) (by kernel_rfl)) (by kernel_rfl) (by kernel_rfl) (by kernel_rfl) (door_met os _)) ?_
 intro W base args ds gs before hval0 hW hL0 hSh hreach;have hval: ∀(j:Nat) t v,Tryz.f3.params[j]? =some t→args[j]? =some v→Value.okWide Tryz.prog W .any base t v:=hval0;have hW':=hW;obtain⟨p,q,hA0,hV,rfl,hfz,hnd⟩:=hW;have hA:DataW.TrodAll enc Tryz.prog W 0 (fun _=>true) true Tryz.f3.params.toList args.toList ds p:=hA0;rw [Tryz.params3]at hA hval;obtain⟨v0,vs0,d0,ds0,p0,q0,hargs,rfl,rfl,k0,r0⟩:=trodAll_cons hA;obtain⟨v1,vs1,d1,ds1,p1,q1,rfl,rfl,rfl,k1,r1⟩:=trodAll_cons r0;obtain⟨rfl,rfl,rfl⟩:=trodAll_nil r1;obtain rfl:args=#[v0,v1]:=by cases args;simp_all
 obtain⟨rfl,rfl⟩:=trodVars_none hV;have lt0: ∀x∈p0,x.block<W.heap.size:=by obtain⟨m,hm⟩:=k0;exact DataW.trod_lt m _ _ _ hm
 have lt1: ∀x∈p1,x.block<W.heap.size:=by obtain⟨m,hm⟩:=k1;exact DataW.trod_lt m _ _ _ hm
 obtain⟨a0,rfl,g0⟩:=Frm.val_string Tryz.underlying9 (hval 0 9 v0 rfl rfl);have b0_sz:a0.size≤140737488355328:=Frm.sized_str Tryz.underlying9 hreach (j:=0) (by rw [Tryz.params3];rfl) rfl k0;obtain⟨a1,rfl,g1⟩:=Frm.val_string Tryz.underlying9 (hval 1 9 v1 rfl rfl);have b1_sz:a1.size≤140737488355328:=Frm.sized_str Tryz.underlying9 hreach (j:=1) (by rw [Tryz.params3];rfl) rfl k1;clear hA0 hval0;obtain⟨hL,hH⟩:=laidMetH_iff.1 hL0;have hT:Lai.TabIs64 W:=Lai.tab64_of (Lib.laidMet.reads hL (List.mem_filter.2 ⟨List.Mem.tail _ (List.Mem.head _),rfl⟩));have hP:Lai.PowAt W:=Lai.pow_of (Lib.laidMet.reads hL (List.mem_filter.2 ⟨List.Mem.tail _ (List.Mem.tail _ (List.Mem.head _)),rfl⟩));have hB:Lai.BdsAt W:=Lai.bds_of (Lib.laidMet.reads hL (List.mem_filter.2 ⟨List.Mem.tail _ (List.Mem.tail _ (List.Mem.tail _ (List.Mem.tail _ (List.Mem.tail _ (List.Mem.tail _ (List.Mem.tail _ (List.Mem.head _))))))),rfl⟩));have hM:Pln.MlAt W:=Tryz.laysM145.s1_3 W hSh;have hE:Dsk.EtAt W:=Dsk.et_of hH;have hN:Dsk.NeAt W:=Dsk.ne_of (Lib.laidMet.reads hL (List.mem_filter.2 ⟨List.Mem.tail _ (List.Mem.tail _ (List.Mem.tail _ (List.Mem.tail _ (List.Mem.tail _ (List.Mem.tail _ (List.Mem.head _)))))),rfl⟩)) (Lib.laidMet.reads hL (List.mem_filter.2 ⟨List.Mem.tail _ (List.Mem.tail _ (List.Mem.tail _ (List.Mem.tail _ (List.Mem.tail _ (List.Mem.head _))))),rfl⟩));refine(walk W a0 a1 (g0) b0_sz (g1) b1_sz hT hP hB hM hE hN).mono fun e W' ⟨he,bel⟩=> ?_;subst he;exact⟨_,rfl,_,_,_,[],_,[],hW',trodAll_mk1 (shut_bool Tryz.underlying4 _),(trodAll_cons_mk (Below.trod laidOut (by kernel_rfl) (of_decide_eq_true (by kernel_rfl)) k0 bel lt0) (trodAll_cons_mk (Below.trod laidOut (by kernel_rfl) (of_decide_eq_true (by kernel_rfl)) k1 bel lt1) trodAll_mk0)),rfl,bel.frame _,fun h=>by cases h⟩

theorem over_b:joinedFacts Tryz.pinned.checked.prog 3 Tryz.f3 Rows.deskHeadSpec Rows.deskHeadRow=true:=by
 unfold joinedFacts;simp only [Bool.and_eq_true];repeat' apply And.intro
 all_goals as_aux_lemma=>kernel_rfl
theorem over:Rows.deskHeadRow.holds Tryz.pinned (OpenSpec.ofChange Rows.deskHeadSpec):=
 OpenClaim.holds_of_wide 3 Tryz.f3 rfl rfl rfl rfl rfl rfl rfl ⟨rfl,rfl,rfl,rfl,rfl⟩ rfl rfl rfl rfl rfl (by kernel_rfl) Tryz.func3 over_b
  (of_decide_eq_true (by kernel_rfl)) (by unfold Func.isWrapper;first|(rw [if_pos (by decide+kernel)];kernel_rfl)|(rw [if_neg (by decide+kernel)];exact⟨rfl,rfl⟩))
  (fun os started H enc _=>lifted os started H enc)

theorem proved:Rows.DeskHeadCardSaid:=
 Claim7.holds_tied_plain_at .later [] [.data, .data, .data, .data, .handle, .sentinel, .sentinel, .wider, .pinned] true (true, "082795c16133d0a7f5694ce02c5a0aedb63c0fed83d41b0d8912ffd5748e0a84") true
  over (fun _ h=>by cases h) (by kernel_rfl) (fun _ h=>by cases h) deskHead_row_tie rfl ⟨rfl,rfl⟩ (by kernel_rfl) rfl
  (fun f fn hf hfn => by
   obtain rfl : f = 3 := Option.some.inj ((show Tryz.prog.funcNamed "tidewheel/tidekeep.DeskHead" = some 3 by kernel_rfl).symm.trans hf) |>.symm
   obtain rfl:fn=Tryz.f3:=(Option.some.inj (Tryz.func3.symm.trans hfn)).symm
   exact ⟨by kernel_rfl, fun j t ht => by
    rw [Tryz.params3]at ht
    have hm:t∈ [9,9]:=by simpa using Array.mem_of_getElem? ht
    have hall:([9,9].all fun u=> !Tryz.prog.wantsStandIn u)=true:=by kernel_rfl
    exact(show Tryz.prog.wantsStandIn t=false by simpa using List.all_eq_true.1 hall t hm)⟩)
  (by kernel_rfl)
#print axioms proved
