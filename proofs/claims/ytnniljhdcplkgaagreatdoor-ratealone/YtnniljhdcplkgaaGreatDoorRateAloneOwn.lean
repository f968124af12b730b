/- A rate hangs on its schedule and its step alone: RateAlone answers true for every two schedules,every step and every list of ints,in any world in which the table of math/bits lies as the condition says. -/
import Derived.Test.YtnniljhdcplkgaaGreatDoorRows
import Derived.WalkKit
import Derived.ProofKit
import Derived.OpenShut
import Derived.LaidMore
import Derived.Lib.LaidTab
import Derived.Stop.Joined
import Derived.SevenTiedAt
import Derived.Test.YtnniljhdcplkgaaGreatDoorTie
import Derived.Test.YtnniljhdcplkgaaGreatDoorCards
import Derived.Test.YtnniljhdcplkgaaGreatDoorWr52
namespace Go.Proofs.YtnniljhdcplkgaaGreatDoor.rateAlone
open Go.ChangeShapes Go.WideShapes Go.ChangeAt Go.RowKit
set_option maxHeartbeats 16000000
set_option maxRecDepth 100000
set_option linter.unusedVariables false
theorem own : ownKnob Tryz.prog.godebug = none:=by kernel_rfl
/-- The heap that the door's own run leaves meets the condition: closed facts. -/
theorem door_met (os : Os) (args : Array Value) : laidMetH Tryz.prog Rows.rateAloneRow.laid ((World.doorLaid Tryz.prog 4000 os).forCall (fun _ _ => 0) ⟨#[],args,[]⟩).memory :=
 laidMetH_of_parts3 (fuel:=8) (laidMet_of_run' 8 (by kernel_rfl) (by kernel_rfl)) (by kernel_rfl) (by kernel_rfl)
theorem g64 : Tryz.prog.globalNamed (Rows.rateAloneRow.laid[1]).1 = some 2:=by kernel_rfl
theorem t64 : (Tryz.prog.globals[2]?).map (·.type) = some 167:=by kernel_rfl
/-- What the condition gives the walk: the table of 64 lies in its variable. -/
theorem tab_of_laid {W : World} (h : laidMetH Tryz.prog Rows.rateAloneRow.laid W) : Tab W:=by
 rw [MakeChecks.laidMetH_plain _ _ _ (by kernel_rfl)] at h
 obtain ⟨ps,⟨g0,t0,cs0,f0,p0,q0,hg0,ht0,hv0,hd0,⟨g1,t1,cs1,f1,p1,q1,hg1,ht1,hv1,hd1,_,_⟩,_⟩,_,_⟩:=h
 obtain rfl:=Option.some.inj (g64.symm.trans hg1)
 obtain rfl:=Option.some.inj (t64.symm.trans ht1)
 have e:=Lib.cells_of_tab (k:=.u8) (zs:=Lib.deBruijn64tab.map Int.ofNat) Tryz.underlying167 Tryz.underlying5 (by kernel_rfl) (by kernel_rfl) hd1
 have hcell : ∀ j,j < 64 → W.cell? ⟨2,j,none⟩ = some (.int .u8 (Lib.deBruijn64tab.getD j 0)):=by
  intro j hj
  have hc:=World.var?_cell hg1 hv1 j
  rw [hc,← Array.getElem?_toList,e]
  have hl : j < Lib.deBruijn64tab.length:=hj
  simp [List.getD,hl]
 refine ⟨?_,hcell⟩
 have h0:=hcell 0 (by decide)
 by_cases hs : 2 < W.heap.size
 ·omega
 ·have hn : W.heap[2]? = none:=by simp; omega
  simp [World.cell?,hn] at h0
theorem lifted (os : Os) (started : os.Started) (H : Type) (enc : TypeId × Value → H) :
  ReturnsInHanded {} Tryz.checked os 3 .any (fun w args => (Rows.rateAloneSpec.pre enc Tryz.prog Tryz.f3 [] false w args ∧ laidMetH Tryz.prog Rows.rateAloneRow.laid w) ∧ sizedMet enc Tryz.prog Tryz.f3 (OpenSpec.ofChange Rows.rateAloneSpec) false w args) (Rows.rateAloneSpec.post enc Tryz.prog Tryz.f3 false true false false):=by
 refine returnsInHanded_of_change_and (C:=Tryz.checked) (X:=fun w _ => laidMetH Tryz.prog Rows.rateAloneRow.laid w) (fun _ _ _ hh h => h.of_heap hh) own started (by kernel_rfl) Tryz.func3
  (ChangeSpec.witness_shaped (enc:=enc) (C:=Tryz.checked) (os:=os) (X:=fun w _ => laidMetH Tryz.prog Rows.rateAloneRow.laid w) false (World.doorLaid Tryz.prog 4000 os) #[.agg #[.int .i64 0,.int .i64 0,.int .i64 0,.int .i64 0,.int .i64 0,.int .i64 0],.agg #[.int .i64 0,.int .i64 0,.int .i64 0,.int .i64 0,.int .i64 0,.int .i64 0],.int .i64 0,.slice none 0 0] 8 rfl (World.shaped_of_RefB (by kernel_rfl) (by kernel_rfl)) (by kernel_rfl) (by kernel_rfl) (by kernel_rfl) (door_met os _)) ?_
 intro W base args ds gs before hval0 hW _ _ hL _
 have hval : ∀ (j : Nat) t v,Tryz.f3.params[j]? = some t → args[j]? = some v → Value.okWide Tryz.prog W .any base t v:=hval0
 have hW':=hW
 obtain ⟨p,q,hA0,hV,rfl,hfz,hnd⟩:=hW
 have hA : DataW.TrodAll enc Tryz.prog W 0 (fun _ => true) true Tryz.f3.params.toList args.toList ds p:=hA0
 have hAk : DataW.TrodAll enc Tryz.prog W 0 (fun _ => true) true [23,23,3,24] args.toList ds p:=by rw [Tryz.params3] at hA; exact hA
 have hlt : ∀ x ∈ p,x.block < W.heap.size:=fun x hx => by simpa using hW'.lt x (List.mem_append.2 (.inl hx))
 rw [Tryz.params3] at hA hval
 obtain ⟨v0,vs0,d0,ds0,p0,q0,hargs,rfl,rfl,h0,r0⟩:=trodAll_cons hA
 obtain ⟨v1,vs1,d1,ds1,p1,q1,rfl,rfl,rfl,h1,r1⟩:=trodAll_cons r0
 obtain ⟨v2,vs2,d2,ds2,p2,q2,rfl,rfl,rfl,h2,r2⟩:=trodAll_cons r1
 obtain ⟨v3,vs3,d3,ds3,p3,q3,rfl,rfl,rfl,h3,r3⟩:=trodAll_cons r2
 obtain ⟨rfl,rfl,rfl⟩:=trodAll_nil r3
 obtain rfl : args = #[v0,v1,v2,v3]:=by cases args; simp_all
 obtain ⟨rfl,rfl⟩:=trodVars_none hV
 obtain ⟨ki0,ba0,fa0,wa0,ev0,tt0,rfl,wb0,wg0⟩:=open_sched (hval 0 23 v0 rfl rfl) h0
 obtain ⟨ki1,ba1,fa1,wa1,ev1,tt1,rfl,wb1,wg1⟩:=open_sched (hval 1 23 v1 rfl rfl) h1
 obtain ⟨a2,rfl,-,-,wf2⟩:=open_int Tryz.underlying3 (hval 2 3 v2 rfl rfl) h2
 obtain ⟨s3,l3,c3,rfl⟩:=okWide_slice Tryz.underlying24 (hval 3 24 v3 rfl rfl)
 obtain ⟨fuel3,hf3⟩:=h3
 obtain ⟨L3,ar3,cr3,e3,hc3,hR3,hS3⟩:=open_lst hf3
 simp only [Value.cells,List.cons.injEq,and_true] at e3
 obtain ⟨rfl,rfl,rfl⟩ : s3 = ar3 ∧ l3 = L3.length ∧ c3 = cr3:=by simpa using e3
 clear hA0 hval0
 refine (rateAlone_true W (tab_of_laid hL) ki0 ba0 fa0 wa0 ev0 tt0 ki1 ba1 fa1 wa1 ev1 tt1 a2 s3 L3 c3 wb0 wg0 wb1 wg1 hS3).mono fun e W' ⟨he,hk⟩ => ?_
 subst he
 have hg:=hk.grown
 refine ⟨_,rfl,post_of_same (pa:=p0 ++ (p1 ++ (p2 ++ (p3 ++ ([]))))) (pv:=[]) hW' (fun _ _ _ => (trodAll_cons_mk (shut_bool Tryz.underlying4 _) trodAll_mk0)) (fun sp hsp => ?_) (fun _ _ => rfl) rfl (hg.frame _) hg.2.1 (ok_one (by kernel_rfl) rfl (okWide_bool_mk Tryz.underlying4 _))⟩
 have:=trodAll_stays (sp:=sp) (W':=W') (fun t ht => ?_) hAk (fun x hx => hk.below.same (hlt x hx)) (fun x hx => hsp x (List.mem_append.2 (.inl hx)))
 ·exact (show Tryz.f3.params.toList = [23,23,3,24] by rw [Tryz.params3]) ▸ this
 ·have hall : ([23,23,3,24].all fun u => Tryz.prog.readableRec u && decide (u < Tryz.prog.types.size)) = true:=by kernel_rfl
  have:=List.all_eq_true.1 hall t ht
  simp only [Bool.and_eq_true,decide_eq_true_eq] at this
  exact this
theorem over : Rows.rateAloneRow.holds Tryz.pinned (OpenSpec.ofChange Rows.rateAloneSpec) :=
 OpenClaim.holds_of_wide 3 Tryz.f3 rfl rfl rfl rfl rfl rfl rfl ⟨rfl,rfl,rfl,rfl,rfl⟩ rfl rfl rfl rfl rfl (by kernel_rfl) Tryz.func3 (by kernel_rfl)
  (of_decide_eq_true (by kernel_rfl)) (by unfold Func.isWrapper; first | (rw [if_pos (by decide +kernel)]; kernel_rfl) | (rw [if_neg (by decide +kernel)]; exact ⟨rfl,rfl⟩))
  (fun os started H enc _ => lifted os started H enc)
/-- The statement of the row. -/
theorem proved : Rows.RateAloneSaid :=
 over
end Go.Proofs.YtnniljhdcplkgaaGreatDoor.rateAlone
namespace Go.Proofs.YtnniljhdcplkgaaGreatDoor
open Go
set_option maxHeartbeats 16000000
set_option maxRecDepth 100000
/-- The tied card. -/
theorem rateAlone_card : Rows.RateAloneCardSaid :=
 Claim7.holds_tied_plain_at .later [] [.data, .data] true (true, "5984da7112ae2f06dbd158ba90c37a6cb9affa7c31d4e85d473c899d9fd8dcf8") false
  rateAlone.proved (fun _ h => by cases h) (by kernel_rfl) (fun _ h => by cases h) rateAlone_row_tie rfl ⟨rfl,rfl⟩ (by kernel_rfl) rfl
  (fun f fn hf hfn => by
   obtain rfl : f = 3:=Option.some.inj ((show Tryz.prog.funcNamed Tryz.f3.name = some 3 by kernel_rfl).symm.trans hf) |>.symm
   obtain rfl : fn = Tryz.f3:=(Option.some.inj (Tryz.func3.symm.trans hfn)).symm
   exact ⟨by kernel_rfl,fun j t ht => by
    rw [Tryz.params3] at ht
    have hm : t ∈ ([23,23,3,24] : List TypeId):=by simpa using Array.mem_of_getElem? ht
    have hall : ([23,23,3,24].all fun u => !Tryz.prog.wantsStandIn u) = true:=by kernel_rfl
    exact (show Tryz.prog.wantsStandIn t = false by simpa using List.all_eq_true.1 hall t hm)⟩)
  (by kernel_rfl)
#print axioms rateAlone_card
end Go.Proofs.YtnniljhdcplkgaaGreatDoor
