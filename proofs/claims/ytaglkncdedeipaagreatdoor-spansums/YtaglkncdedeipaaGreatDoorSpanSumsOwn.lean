/-  -/
import Derived.Test.YtaglkncdedeipaaGreatDoorRows
import Derived.WalkKit
import Derived.ProofKit
import Derived.OpenShut
import Derived.LaidMore
import Derived.Lib.LaidTab
import Derived.Stop.Joined
import Derived.SevenTiedAt
import Derived.Test.YtaglkncdedeipaaGreatDoorTie
import Derived.Test.YtaglkncdedeipaaGreatDoorCards
import Derived.Test.YtaglkncdedeipaaGreatDoorWs40
namespace Go.Proofs.YtaglkncdedeipaaGreatDoor.spanSums
open Go.ChangeShapes Go.WideShapes Go.ChangeAt Go.RowKit
set_option maxHeartbeats 16000000
set_option maxRecDepth 100000
set_option linter.unusedVariables false
theorem own:ownKnob Tryz.prog.godebug=none:=by kernel_rfl
theorem qcb (os:Os)(args:Array Value):laidMetH Tryz.prog Rows.spanSumsRow.laid ((World.doorLaid Tryz.prog 4000 os).forCall (fun _ _=>0) ⟨#[],args,[]⟩).memory:=
 laidMetH_of_parts3 (fuel:=8) (laidMet_of_run' 8 (by kernel_rfl) (by kernel_rfl)) (by kernel_rfl) (by kernel_rfl)
theorem g64:Tryz.prog.globalNamed (Rows.spanSumsRow.laid[1]).1=some 2:=by kernel_rfl
theorem t64:(Tryz.prog.globals[2]?).map (·.type)=some 211:=by kernel_rfl
theorem Xg {W:World}(h:laidMetH Tryz.prog Rows.spanSumsRow.laid W):Tab W:=by
 rw[MakeChecks.laidMetH_plain _ _ _ (by kernel_rfl)]at h
 obtain⟨ps,⟨g0,t0,cs0,f0,p0,q0,hg0,ht0,hv0,hd0,⟨g1,t1,cs1,f1,p1,q1,hg1,ht1,hv1,hd1,_,_⟩,_⟩,_,_⟩:=h
 obtain rfl:=Option.some.inj (g64.symm.trans hg1)
 obtain rfl:=Option.some.inj (t64.symm.trans ht1)
 have e:=Lib.cells_of_tab (k:=.u8) (zs:=Lib.deBruijn64tab.map Int.ofNat) Tryz.underlying211 Tryz.underlying5 (by kernel_rfl) (by kernel_rfl) hd1
 have hcell:∀j,j<64→W.cell? ⟨2,j,none⟩=some (.int .u8 (Lib.deBruijn64tab.getD j 0)):=by
  intro j hj
  have hc:=World.var?_cell hg1 hv1 j
  rw[hc,←Array.getElem?_toList,e]
  have hl:j<Lib.deBruijn64tab.length:=hj
  simp[List.getD,hl]
 refine⟨?_,hcell⟩
 have h0:=hcell 0 (by decide)
 by_cases hs:2<W.heap.size
 ·omega
 ·have hn:W.heap[2]?=none:=by simp;omega
  simp[World.cell?,hn]at h0
theorem qgn (os:Os)(started:os.Started)(H:Type)(enc:TypeId×Value→H):
  ReturnsInHanded {} Tryz.checked os 4 .any (fun w args=>(Rows.spanSumsSpec.pre enc Tryz.prog Tryz.f4 [] false w args∧laidMetH Tryz.prog Rows.spanSumsRow.laid w)∧sizedMet enc Tryz.prog Tryz.f4 (OpenSpec.ofChange Rows.spanSumsSpec) false w args) (Rows.spanSumsSpec.post enc Tryz.prog Tryz.f4 false true false false):=by
 refine returnsInHanded_of_change_and (C:=Tryz.checked) (X:=fun w _=>laidMetH Tryz.prog Rows.spanSumsRow.laid w) (fun _ _ _ hh h=>h.of_heap hh) own started (by kernel_rfl) Tryz.func4
  (ChangeSpec.witness_shaped (enc:=enc) (C:=Tryz.checked) (os:=os) (X:=fun w _=>laidMetH Tryz.prog Rows.spanSumsRow.laid w) false (World.doorLaid Tryz.prog 4000 os) #[.slice none 0 0,.int .i64 0] 8 rfl (World.shaped_of_RefB (by kernel_rfl) (by kernel_rfl)) (by kernel_rfl) (by kernel_rfl) (by kernel_rfl) (qcb os _)) ?_
 intro W base args ds gs before hval0 hW _ _ hL _
 have hval:∀(j:Nat) t v,Tryz.f4.params[j]?=some t→args[j]?=some v→Value.okWide Tryz.prog W .any base t v:=hval0
 have hW':=hW
 obtain⟨p,q,hA0,hV,rfl,hfz,hnd⟩:=hW
 have hA:DataW.TrodAll enc Tryz.prog W 0 (fun _=>true) true Tryz.f4.params.toList args.toList ds p:=hA0
 have hAk:DataW.TrodAll enc Tryz.prog W 0 (fun _=>true) true [26,3] args.toList ds p:=by rw[Tryz.params4]at hA;exact hA
 have hlt:∀x∈p,x.block<W.heap.size:=fun x hx=>by simpa using hW'.lt x (List.mem_append.2 (.inl hx))
 rw[Tryz.params4]at hA hval
 obtain⟨v0,vs0,d0,ds0,p0,q0,hargs,rfl,rfl,h0,r0⟩:=trodAll_cons hA
 obtain⟨v1,vs1,d1,ds1,p1,q1,rfl,rfl,rfl,h1,r1⟩:=trodAll_cons r0
 obtain⟨rfl,rfl,rfl⟩:=trodAll_nil r1
 obtain rfl:args=#[v0,v1]:=by cases args;simp_all
 obtain⟨rfl,rfl⟩:=trodVars_none hV
 obtain⟨ar0,len0,cap0,la0,lb0,rfl,wa0,wb0,hS0⟩:=XS (hval 0 26 v0 rfl rfl) h0
 obtain⟨a1,rfl,-,-,wf1⟩:=open_int Tryz.underlying3 (hval 1 3 v1 rfl rfl) h1
 clear hA0 hval0
 refine(spanSums_true W (Xg hL) a1 len0 cap0 la0 lb0 wa0 wb0 ar0 hS0).mono fun e W' ⟨he,hk⟩=>?_
 subst he
 have hg:=hk.grown
 refine⟨_,rfl,post_of_same (pa:=p0++(p1++([]))) (pv:=[]) hW' (fun _ _ _=>(trodAll_cons_mk (shut_bool Tryz.underlying4 _) trodAll_mk0)) (fun sp hsp=>?_) (fun _ _=>rfl) rfl (hg.frame _) hg.2.1 (ok_one (by kernel_rfl) rfl (okWide_bool_mk Tryz.underlying4 _))⟩
 have:=xL (sp:=sp) (W':=W') (fun t ht=>?_) hAk (fun x hx=>hk.below.same (hlt x hx)) (fun x hx=>hsp x (List.mem_append.2 (.inl hx)))
 ·exact(show Tryz.f4.params.toList=[26,3] by rw[Tryz.params4])▸this
 ·have hall:([26,3].all fun u=>Tryz.prog.readableRec u&&decide (u<Tryz.prog.types.size))=true:=by kernel_rfl
  have:=List.all_eq_true.1 hall t ht
  simp only[Bool.and_eq_true,qh1]at this
  exact this
theorem qhp:Rows.spanSumsRow.holds Tryz.pinned (OpenSpec.ofChange Rows.spanSumsSpec):=
 OpenClaim.holds_of_wide 4 Tryz.f4 rfl rfl rfl rfl rfl rfl rfl ⟨rfl,rfl,rfl,rfl,rfl⟩ rfl rfl rfl rfl rfl (by kernel_rfl) Tryz.func4 (by kernel_rfl)
  (of_decide_eq_true (by kernel_rfl)) (by unfold Func.isWrapper;first|(rw[if_pos (by decide+kernel)];kernel_rfl)|(rw[if_neg (by decide+kernel)];exact⟨rfl,rfl⟩))
  (fun os started H enc _=>qgn os started H enc)
theorem proved:Rows.SpanSumsSaid:=
 qhp
end Go.Proofs.YtaglkncdedeipaaGreatDoor.spanSums
namespace Go.Proofs.YtaglkncdedeipaaGreatDoor
open Go
set_option linter.unusedVariables false
set_option linter.unusedSimpArgs false
set_option maxHeartbeats 16000000
set_option maxRecDepth 100000
theorem spanSums_card:Rows.SpanSumsCardSaid:=
 Claim7.holds_tied_plain_at .later [] [.data,.data] true (true,"b8cf3f9d7da8f4fb0030128808aa764de421cc145bcbe74fba7e01515e8e5bae") false
  spanSums.proved (fun _ h=>by cases h) (by kernel_rfl) (fun _ h=>by cases h) spanSums_row_tie rfl ⟨rfl,rfl⟩ (by kernel_rfl) rfl
  (fun f fn hf hfn=>by
   obtain rfl:f=4:=Option.some.inj ((show Tryz.prog.funcNamed Tryz.f4.name=some 4 by kernel_rfl).symm.trans hf)|>.symm
   obtain rfl:fn=Tryz.f4:=(Option.some.inj (Tryz.func4.symm.trans hfn)).symm
   exact⟨by kernel_rfl,fun j t ht=>by
    rw[Tryz.params4]at ht
    have hm:t∈([26,3]:List TypeId):=by simpa using Array.mem_of_getElem? ht
    have hall:([26,3].all fun u=>!Tryz.prog.wantsStandIn u)=true:=by kernel_rfl
    exact(show Tryz.prog.wantsStandIn t=false by simpa using List.all_eq_true.1 hall t hm)⟩)
  (by kernel_rfl)
#print axioms spanSums_card
end Go.Proofs.YtaglkncdedeipaaGreatDoor
