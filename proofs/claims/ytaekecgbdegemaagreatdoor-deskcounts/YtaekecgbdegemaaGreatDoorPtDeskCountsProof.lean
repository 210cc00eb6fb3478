/- Proved: for every text that is handed to the desk: each line that has an answer has one line of it at least, and what is told is empty or ends in the byte 10; a text too great, or of too many lines, is answered so. -/
import Derived.ShutString
import Derived.Test.YtaekecgbdegemaaGreatDoorPtLaidDsk
import Derived.Test.YtaekecgbdegemaaGreatDoorPtFrameSh
import Derived.LaidMore
import Derived.SevenTiedAt
import Derived.Test.YtaekecgbdegemaaGreatDoorCards
import Derived.Test.YtaekecgbdegemaaGreatDoorTie
import Derived.Test.YtaekecgbdegemaaGreatDoorPtDskPlay
set_option linter.all false
open Go.Proofs.Tryz
set_option maxHeartbeats 32000000
set_option maxRecDepth 8000
namespace Go.Proofs.YtaekecgbdegemaaGreatDoor.deskCounts
open Go.ChangeShapes Go.WideShapes Go.ChangeAt Go.RowKit
set_option linter.unusedVariables false

theorem own:ownKnob Tryz.prog.godebug=none:=by kernel_rfl
theorem laidOut:laidOutB Tryz.prog=true:=by kernel_rfl

open Crn Lai Pln Dsk

theorem walk (w:World) (a0:ByteArray) (b0:(a0.size:Int)≤9223372036854775807) (hT:Lai.TabIs64 w) (hP:Lai.PowAt w) (hB:Lai.BdsAt w) (hM:Pln.MlAt w) (hE:Dsk.EtAt w) (hN:Dsk.NeAt w):
  Calls Tryz.prog 4 #[.string a0] w fun e w'=>e=.returned (.bool true)∧Below w.heap.size w w':=by
 obtain⟨l,rfl⟩: ∃s:List UInt8,a0=⟨s.toArray⟩:=⟨a0.data.toList,by simp⟩
 have hl:l.length≤9223372036854775807:=by
  have e:(⟨l.toArray⟩:ByteArray).size=l.length:=rfl;have h:=b0;omega
 obtain⟨rd,hrd⟩:=rd_exists;obtain⟨f,hf,h0⟩:=f_tick hrd;exact counts_go hf h0 l w ⟨⟨hB,hT,hP,hM⟩,hE,hN⟩ hl

theorem door_met (os:Os) (args:Array Value):laidMetH Tryz.prog Rows.deskCountsRow.laid ((((World.holding Tryz.prog os ⟨#[],#[],[]⟩).setCell ⟨1,0,none⟩ (Dsk.rT 40)).layVars Tryz.prog (Rows.deskCountsRow.laid.filter fun x=>x.2.handleName?.isNone)).forCall (fun _ _=>0) ⟨#[],args,[]⟩).memory:=
 laidMetH_of_parts (Dsk.laid_at _ args (by kernel_rfl) (by kernel_rfl)) (by kernel_rfl)

set_option maxRecDepth 100000 in
theorem lifted (os:Os) (started:os.Started) (H:Type) (enc:TypeId×Value→H):
  ReturnsInHanded {} Tryz.checked os 4 .any (fun w args=>(Rows.deskCountsSpec.pre enc Tryz.prog Tryz.f4 [] false w args∧laidMetH Tryz.prog Rows.deskCountsRow.laid w)∧sizedMet enc Tryz.prog Tryz.f4 (OpenSpec.ofChange Rows.deskCountsSpec) false w args)
   (Rows.deskCountsSpec.post enc Tryz.prog Tryz.f4 false true false false):=by
 refine Frm.shaped_form (C:=Tryz.checked) (X:=fun w _=>laidMetH Tryz.prog Rows.deskCountsRow.laid w) (fun _ _ _ hh h=>h.of_heap hh) own started (by kernel_rfl) Tryz.func4
  (ChangeSpec.witness_shaped (enc:=enc) (C:=Tryz.checked) (os:=os) (X:=fun w _=>laidMetH Tryz.prog Rows.deskCountsRow.laid w) false (((World.holding Tryz.prog os ⟨#[],#[],[]⟩).setCell ⟨1,0,none⟩ (Dsk.rT 40)).layVars Tryz.prog (Rows.deskCountsRow.laid.filter fun x=>x.2.handleName?.isNone)) #[.string ByteArray.empty] 8 (World.layVars_os _ _ _) (World.shaped_of_ZipB (by kernel_rfl) (by kernel_rfl)) (by kernel_rfl) (by kernel_rfl) (by kernel_rfl) (door_met os _)) ?_
 intro W base args ds gs before hval0 hW hL0 hSh;have hval: ∀(j:Nat) t v,Tryz.f4.params[j]? =some t→args[j]? =some v→Value.okWide Tryz.prog W .any base t v:=hval0;have hW':=hW;obtain⟨p,q,hA0,hV,rfl,hfz,hnd⟩:=hW;have hA:DataW.TrodAll enc Tryz.prog W 0 (fun _=>true) true Tryz.f4.params.toList args.toList ds p:=hA0;rw [Tryz.params4]at hA hval;obtain⟨v0,vs0,d0,ds0,p0,q0,hargs,rfl,rfl,k0,r0⟩:=trodAll_cons hA;obtain⟨rfl,rfl,rfl⟩:=trodAll_nil r0;obtain rfl:args=#[v0]:=by cases args;simp_all
 obtain⟨rfl,rfl⟩:=trodVars_none hV;have lt0: ∀x∈p0,x.block<W.heap.size:=by obtain⟨m,hm⟩:=k0;exact DataW.trod_lt m _ _ _ hm
 obtain⟨a0,rfl,g0⟩:=Frm.val_string Tryz.underlying9 (hval 0 9 v0 rfl rfl);clear hA0 hval0;obtain⟨hL,hH⟩:=laidMetH_iff.1 hL0;have hT:Lai.TabIs64 W:=Lai.tab64_of (Lib.laidMet.reads hL (List.mem_filter.2 ⟨List.Mem.tail _ (List.Mem.head _),rfl⟩));have hP:Lai.PowAt W:=Lai.pow_of (Lib.laidMet.reads hL (List.mem_filter.2 ⟨List.Mem.tail _ (List.Mem.tail _ (List.Mem.head _)),rfl⟩));have hB:Lai.BdsAt W:=Lai.bds_of (Lib.laidMet.reads hL (List.mem_filter.2 ⟨List.Mem.tail _ (List.Mem.tail _ (List.Mem.tail _ (List.Mem.tail _ (List.Mem.tail _ (List.Mem.tail _ (List.Mem.tail _ (List.Mem.head _))))))),rfl⟩));have hM:Pln.MlAt W:=Tryz.laysM145.s1_3 W hSh;have hE:Dsk.EtAt W:=Dsk.et_of hH;have hN:Dsk.NeAt W:=Dsk.ne_of (Lib.laidMet.reads hL (List.mem_filter.2 ⟨List.Mem.tail _ (List.Mem.tail _ (List.Mem.tail _ (List.Mem.tail _ (List.Mem.tail _ (List.Mem.tail _ (List.Mem.head _)))))),rfl⟩)) (Lib.laidMet.reads hL (List.mem_filter.2 ⟨List.Mem.tail _ (List.Mem.tail _ (List.Mem.tail _ (List.Mem.tail _ (List.Mem.tail _ (List.Mem.head _))))),rfl⟩));refine(walk W a0 (g0) hT hP hB hM hE hN).mono fun e W' ⟨he,bel⟩=> ?_;subst he;exact⟨_,rfl,_,_,_,[],_,[],hW',trodAll_mk1 (shut_bool Tryz.underlying4 _),(trodAll_cons_mk (Below.trod laidOut (by kernel_rfl) (of_decide_eq_true (by kernel_rfl)) k0 bel lt0) trodAll_mk0),rfl,bel.frame _,fun h=>by cases h⟩

theorem over_b:joinedFacts Tryz.pinned.checked.prog 4 Tryz.f4 Rows.deskCountsSpec Rows.deskCountsRow=true:=by
 unfold joinedFacts;simp only [Bool.and_eq_true];repeat' apply And.intro
 all_goals as_aux_lemma=>kernel_rfl
theorem over:Rows.deskCountsRow.holds Tryz.pinned (OpenSpec.ofChange Rows.deskCountsSpec):=
 OpenClaim.holds_of_wide 4 Tryz.f4 rfl rfl rfl rfl rfl rfl rfl ⟨rfl,rfl,rfl,rfl,rfl⟩ rfl rfl rfl rfl rfl (by kernel_rfl) Tryz.func4 over_b
  (of_decide_eq_true (by kernel_rfl)) (by unfold Func.isWrapper;first|(rw [if_pos (by decide+kernel)];kernel_rfl)|(rw [if_neg (by decide+kernel)];exact⟨rfl,rfl⟩))
  (fun os started H enc _=>lifted os started H enc)

theorem proved:Rows.DeskCountsCardSaid:=
 Claim7.holds_tied_plain_at .later [] [.data, .data, .data, .data, .handle, .sentinel, .sentinel, .wider, .pinned] true (true, "082795c16133d0a7f5694ce02c5a0aedb63c0fed83d41b0d8912ffd5748e0a84") true
  over (fun _ h=>by cases h) (by kernel_rfl) (fun _ h=>by cases h) deskCounts_row_tie rfl ⟨rfl,rfl⟩ (by kernel_rfl) rfl
  (fun f fn hf hfn => by
   obtain rfl : f = 4 := Option.some.inj ((show Tryz.prog.funcNamed "tidewheel/tidekeep.DeskCounts" = some 4 by kernel_rfl).symm.trans hf) |>.symm
   obtain rfl:fn=Tryz.f4:=(Option.some.inj (Tryz.func4.symm.trans hfn)).symm
   exact ⟨by kernel_rfl, fun j t ht => by
    rw [Tryz.params4]at ht
    have hm:t∈ [9]:=by simpa using Array.mem_of_getElem? ht
    have hall:([9].all fun u=> !Tryz.prog.wantsStandIn u)=true:=by kernel_rfl
    exact(show Tryz.prog.wantsStandIn t=false by simpa using List.all_eq_true.1 hall t hm)⟩)
  (by kernel_rfl)
#print axioms proved
