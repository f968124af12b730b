/-  -/
import Derived.Test.YtnniljhdcplkgaaGreatDoorRows
import Derived.WalkKit
import Derived.ProofKit
import Derived.OpenShut
import Derived.LaidMore
import Derived.Lib.LaidTab
import Derived.Stop.Joined
import Derived.SevenTiedAt
import Derived.Test.YtnniljhdcplkgaaGreatDoorTie
import Derived.Test.YtnniljhdcplkgaaGreatDoorCards
import Derived.Test.YtnniljhdcplkgaaGreatDoorWs50
import Derived.Test.YtnniljhdcplkgaaGreatDoorWs51
namespace Go.Proofs.YtnniljhdcplkgaaGreatDoor.rateAts
open Go.ChangeShapes Go.WideShapes Go.ChangeAt Go.RowKit
set_option maxHeartbeats 16000000
set_option maxRecDepth 100000
set_option linter.unusedVariables false
theorem own:ownKnob Tryz.prog.godebug=none:=by kernel_rfl
theorem door_met (os:Os)(args:Array Value):laidMetH Tryz.prog Rows.rateAtsRow.laid ((World.doorLaid Tryz.prog 4000 os).forCall (fun _ _=>0) ⟨#[],args,[]⟩).memory:=
 laidMetH_of_parts3 (fuel:=8) (laidMet_of_run' 8 (by kernel_rfl) (by kernel_rfl)) (by kernel_rfl) (by kernel_rfl)
theorem g64:Tryz.prog.globalNamed (Rows.rateAtsRow.laid[1]).1=some 2:=by kernel_rfl
theorem t64:(Tryz.prog.globals[2]?).map (·.type)=some 167:=by kernel_rfl
theorem tab_of_laid {W:World}(h:laidMetH Tryz.prog Rows.rateAtsRow.laid W):Tab W:=by
 rw[MakeChecks.laidMetH_plain _ _ _ (by kernel_rfl)]at h
 obtain⟨ps,⟨g0,t0,cs0,f0,p0,q0,hg0,ht0,hv0,hd0,⟨g1,t1,cs1,f1,p1,q1,hg1,ht1,hv1,hd1,_,_⟩,_⟩,_,_⟩:=h
 obtain rfl:=Option.some.inj (g64.symm.trans hg1)
 obtain rfl:=Option.some.inj (t64.symm.trans ht1)
 have e:=Lib.cells_of_tab (k:=.u8) (zs:=Lib.deBruijn64tab.map Int.ofNat) Tryz.underlying167 Tryz.underlying5 (by kernel_rfl) (by kernel_rfl) hd1
 have hcell:∀j,j<64→W.cell? ⟨2,j,none⟩=some (.int .u8 (Lib.deBruijn64tab.getD j 0)):=by
  intro j hj
  have hc:=World.var?_cell hg1 hv1 j
  rw[hc,←Array.getElem?_toList,e]
  have hl:j<Lib.deBruijn64tab.length:=hj
  simp[List.getD,hl]
 refine⟨?_,hcell⟩
 have h0:=hcell 0 (by decide)
 by_cases hs:2<W.heap.size
 ·omega
 ·have hn:W.heap[2]?=none:=by simp;omega
  simp[World.cell?,hn]at h0
theorem lifted (os:Os)(started:os.Started)(H:Type)(enc:TypeId×Value→H):
  ReturnsInHanded {} Tryz.checked os 4 .any (fun w args=>(Rows.rateAtsSpec.pre enc Tryz.prog Tryz.f4 [] false w args∧laidMetH Tryz.prog Rows.rateAtsRow.laid w)∧sizedMet enc Tryz.prog Tryz.f4 (OpenSpec.ofChange Rows.rateAtsSpec) false w args) (Rows.rateAtsSpec.post enc Tryz.prog Tryz.f4 false true false false):=by
 refine returnsInHanded_of_change_and (C:=Tryz.checked) (X:=fun w _=>laidMetH Tryz.prog Rows.rateAtsRow.laid w) (fun _ _ _ hh h=>h.of_heap hh) own started (by kernel_rfl) Tryz.func4
  (ChangeSpec.witness_shaped (enc:=enc) (C:=Tryz.checked) (os:=os) (X:=fun w _=>laidMetH Tryz.prog Rows.rateAtsRow.laid w) false (World.doorLaid Tryz.prog 4000 os) #[.agg #[.int .i64 0,.int .i64 0,.int .i64 0,.int .i64 0,.int .i64 0,.int .i64 0],.int .i64 0] 8 rfl (World.shaped_of_RefB (by kernel_rfl) (by kernel_rfl)) (by kernel_rfl) (by kernel_rfl) (by kernel_rfl) (door_met os _)) ?_
 intro W base args ds gs before hval0 hW _ _ hL _
 have hval:∀(j:Nat) t v,Tryz.f4.params[j]?=some t→args[j]?=some v→Value.okWide Tryz.prog W .any base t v:=hval0
 have hW':=hW
 obtain⟨p,q,hA0,hV,rfl,hfz,hnd⟩:=hW
 have hA:DataW.TrodAll enc Tryz.prog W 0 (fun _=>true) true Tryz.f4.params.toList args.toList ds p:=hA0
 have hAk:DataW.TrodAll enc Tryz.prog W 0 (fun _=>true) true [23,3] args.toList ds p:=by rw[Tryz.params4]at hA;exact hA
 have hlt:∀x∈p,x.block<W.heap.size:=fun x hx=>by simpa using hW'.lt x (List.mem_append.2 (.inl hx))
 rw[Tryz.params4]at hA hval
 obtain⟨v0,vs0,d0,ds0,p0,q0,hargs,rfl,rfl,h0,r0⟩:=trodAll_cons hA
 obtain⟨v1,vs1,d1,ds1,p1,q1,rfl,rfl,rfl,h1,r1⟩:=trodAll_cons r0
 obtain⟨rfl,rfl,rfl⟩:=trodAll_nil r1
 obtain rfl:args=#[v0,v1]:=by cases args;simp_all
 obtain⟨rfl,rfl⟩:=trodVars_none hV
 obtain⟨ki0,ba0,fa0,wa0,ev0,tt0,rfl,wb0,wg0⟩:=open_sched (hval 0 23 v0 rfl rfl) h0
 obtain⟨a1,rfl,-,-,wf1⟩:=open_int Tryz.underlying3 (hval 1 3 v1 rfl rfl) h1
 clear hA0 hval0
 refine(rateAts_true W (tab_of_laid hL) ki0 ba0 fa0 wa0 ev0 tt0 a1 wb0 wg0).mono fun e W' ⟨he,hk⟩=>?_
 subst he
 have hg:=hk.grown
 refine⟨_,rfl,post_of_same (pa:=p0++(p1++([]))) (pv:=[]) hW' (fun _ _ _=>(trodAll_cons_mk (shut_bool Tryz.underlying4 _) trodAll_mk0)) (fun sp hsp=>?_) (fun _ _=>rfl) rfl (hg.frame _) hg.2.1 (ok_one (by kernel_rfl) rfl (okWide_bool_mk Tryz.underlying4 _))⟩
 have:=trodAll_stays (sp:=sp) (W':=W') (fun t ht=>?_) hAk (fun x hx=>hk.below.same (hlt x hx)) (fun x hx=>hsp x (List.mem_append.2 (.inl hx)))
 ·exact(show Tryz.f4.params.toList=[23,3] by rw[Tryz.params4])▸this
 ·have hall:([23,3].all fun u=>Tryz.prog.readableRec u&&decide (u<Tryz.prog.types.size))=true:=by kernel_rfl
  have:=List.all_eq_true.1 hall t ht
  simp only[Bool.and_eq_true,decide_eq_true_eq]at this
  exact this
theorem over:Rows.rateAtsRow.holds Tryz.pinned (OpenSpec.ofChange Rows.rateAtsSpec):=
 OpenClaim.holds_of_wide 4 Tryz.f4 rfl rfl rfl rfl rfl rfl rfl ⟨rfl,rfl,rfl,rfl,rfl⟩ rfl rfl rfl rfl rfl (by kernel_rfl) Tryz.func4 (by kernel_rfl)
  (of_decide_eq_true (by kernel_rfl)) (by unfold Func.isWrapper;first|(rw[if_pos (by decide+kernel)];kernel_rfl)|(rw[if_neg (by decide+kernel)];exact⟨rfl,rfl⟩))
  (fun os started H enc _=>lifted os started H enc)
theorem proved:Rows.RateAtsSaid:=
 over
end Go.Proofs.YtnniljhdcplkgaaGreatDoor.rateAts
namespace Go.Proofs.YtnniljhdcplkgaaGreatDoor
open Go
set_option maxHeartbeats 16000000
set_option maxRecDepth 100000
theorem rateAts_card:Rows.RateAtsCardSaid:=
 Claim7.holds_tied_plain_at .later [] [.data,.data] true (true,"5984da7112ae2f06dbd158ba90c37a6cb9affa7c31d4e85d473c899d9fd8dcf8") false
  rateAts.proved (fun _ h=>by cases h) (by kernel_rfl) (fun _ h=>by cases h) rateAts_row_tie rfl ⟨rfl,rfl⟩ (by kernel_rfl) rfl
  (fun f fn hf hfn=>by
   obtain rfl:f=4:=Option.some.inj ((show Tryz.prog.funcNamed Tryz.f4.name=some 4 by kernel_rfl).symm.trans hf)|>.symm
   obtain rfl:fn=Tryz.f4:=(Option.some.inj (Tryz.func4.symm.trans hfn)).symm
   exact⟨by kernel_rfl,fun j t ht=>by
    rw[Tryz.params4]at ht
    have hm:t∈([23,3]:List TypeId):=by simpa using Array.mem_of_getElem? ht
    have hall:([23,3].all fun u=>!Tryz.prog.wantsStandIn u)=true:=by kernel_rfl
    exact(show Tryz.prog.wantsStandIn t=false by simpa using List.all_eq_true.1 hall t hm)⟩)
  (by kernel_rfl)
#print axioms rateAts_card
end Go.Proofs.YtnniljhdcplkgaaGreatDoor
