/- For every script of asks,each a state and bytes,StateAll answers true: what is written and read is what the document says,and what was answered is memory of its own,kept over all of the asks -/
import Derived.Test.YtocjfdiimapojaaRows
import Derived.WalkKit
import Derived.ProofKit
import Derived.OpenShut
import Derived.SizedLaws
import Derived.Test.YtocjfdiimapojaaLR
import Derived.Test.YtocjfdiimapojaaLiftR
namespace Go.Proofs.Ytocjfdiimapojaa.stateAll
open Go.ChangeShapes Go.WideShapes Go.ChangeAt Go.RowKit
set_option maxHeartbeats 16000000
set_option maxRecDepth 100000
set_option linter.unusedVariables false
theorem own : ownKnob Try.prog.godebug = none:=by kernel_rfl
theorem lifted (os : Os) (started : os.Started) (H : Type) (enc : TypeId × Value → H) :
  ReturnsInHanded {} Try.checked os 4 .any (Rows.stateAllSpec.pre6 enc Try.prog Try.f4 Rows.stateAllRow.domain false) (Rows.stateAllSpec.post enc Try.prog Try.f4 false true false false):=by
 refine returnsInHanded_of_change_sized (C:=Try.checked) own started (by kernel_rfl) Try.func4
  (ChangeSpec.witness6 (enc:=enc) (C:=Try.checked) false ⟨#[],#[.slice none 0 0],[]⟩ 8 (by kernel_rfl) (by kernel_rfl) (by kernel_rfl) (by kernel_rfl)) ?_
 intro W base args ds gs before hval0 hW hcnd hsz0 _
 have hsz : (DataW.weightsEach Try.prog (Try.f4.params.toList ++ Rows.stateAllSpec.plain.varTypes Try.prog) (ds ++ gs)).all (· ≤ reachBytes) = true:=hsz0
 have hval : ∀ (j : Nat) t v,Try.f4.params[j]? = some t → args[j]? = some v → Value.okWide Try.prog W .any base t v:=hval0
 have hW':=hW
 obtain ⟨p,q,hA0,hV,rfl,hfz,hnd⟩:=hW
 have hA : DataW.TrodAll enc Try.prog W 0 (fun _ => true) true Try.f4.params.toList args.toList ds p:=hA0
 have hAk : DataW.TrodAll enc Try.prog W 0 (fun _ => true) true [31] args.toList ds p:=by rw [Try.params4] at hA; exact hA
 have hlt : ∀ x ∈ p,x.block < W.heap.size:=fun x hx => by simpa using hW'.lt x (List.mem_append.2 (.inl hx))
 rw [Try.params4] at hA hval hsz
 obtain ⟨v0,vs0,d0,ds0,p0,q0,hargs,rfl,rfl,h0,r0⟩:=trodAll_cons hA
 obtain ⟨rfl,rfl,rfl⟩:=trodAll_nil r0
 obtain rfl : args = #[v0]:=by cases args; simp_all
 obtain ⟨rfl,rfl⟩:=trodVars_none hV
 obtain ⟨ar0,len0,cap0,rfl,hlen0,hAsk0⟩:=open_asksz (hval 0 31 v0 rfl rfl) h0 (fun m hm => by simpa using List.all_eq_true.1 hsz m (DataW.weights_mem_each (j:=0) rfl rfl m hm))
 clear hA0 hval0
 refine (stateAll_true ar0 len0 cap0 hlen0 W hAsk0).mono fun e W' ⟨he,hk⟩ => ?_
 subst he
 have hg:=hk.grown
 refine ⟨_,rfl,post_of_same (pa:=p0 ++ ([])) (pv:=[]) hW' (fun _ _ _ => (trodAll_cons_mk (shut_bool Try.underlying4 _) trodAll_mk0)) (fun sp hsp => ?_) (fun _ _ => rfl) rfl (hg.frame _) hg.2.1 (ok_one (by kernel_rfl) rfl (okWide_bool_mk Try.underlying4 _))⟩
 have:=trodAll_stays (sp:=sp) (W':=W') (fun t ht => ?_) hAk (fun x hx => hk.below.same (hlt x hx)) (fun x hx => hsp x (List.mem_append.2 (.inl hx)))
 ·exact (show Try.f4.params.toList = [31] by rw [Try.params4]) ▸ this
 ·have hall : ([31].all fun u => Try.prog.readableRec u && decide (u < Try.prog.types.size)) = true:=by kernel_rfl
  have:=List.all_eq_true.1 hall t ht
  simp only [Bool.and_eq_true,decide_eq_true_eq] at this
  exact this
theorem over : Rows.stateAllRow.holds Try.pinned (OpenSpec.ofChange Rows.stateAllSpec) :=
 OpenClaim.holds_of_wide 4 Try.f4 rfl rfl rfl rfl rfl rfl rfl ⟨rfl,rfl,rfl,rfl,rfl⟩ rfl rfl rfl rfl rfl (by kernel_rfl) Try.func4 (by kernel_rfl)
  (of_decide_eq_true (by kernel_rfl)) (by unfold Func.isWrapper; first | (rw [if_pos (by decide +kernel)]; kernel_rfl) | (rw [if_neg (by decide +kernel)]; exact ⟨rfl,rfl⟩))
  (fun os started H enc _ => lifted os started H enc)
/-- The statement of the row. -/
theorem proved : Rows.StateAllSaid :=
 over
end Go.Proofs.Ytocjfdiimapojaa.stateAll
namespace Go.Proofs.Ytocjfdiimapojaa
set_option maxHeartbeats 16000000
set_option maxRecDepth 100000
theorem stateAll_holds : Rows.StateAllSaid:=stateAll.proved
#print axioms stateAll_holds
end Go.Proofs.Ytocjfdiimapojaa
