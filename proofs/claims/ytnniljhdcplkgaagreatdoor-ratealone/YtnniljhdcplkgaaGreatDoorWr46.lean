/- Regions that draw their order,whose late operations write a cell that earlier ones load,where others that load what stays may come before or behind the late ones: S is asked until the first late one,T behind all. Regions that draw their order,where two or three operations that write or make memory may come up at once. -/
import Derived.Test.YtnniljhdcplkgaaGreatDoorWr39
namespace Go.Proofs.YtnniljhdcplkgaaGreatDoor
open Go
set_option maxHeartbeats 16000000
set_option maxRecDepth 100000
set_option linter.unusedVariables false
section
variable {P : Program} {ops : Array Oper} {Q : Exit → Act → World → Prop} {md : Region.Mode} {S T : World → Prop} {D : List Nat}
/-- Has a late one come? -/
def anyL (D : List Nat) (listed : Array Bool) : Bool:=D.any fun j => listed.getD j false
def wpAnyT (P : Program) (md : Region.Mode) (ops : Array Oper) (Q : Exit → Act → World → Prop) (S T : World → Prop) (D : List Nat) : Nat → Array Bool → Act → World → Prop
 | 0,listed,a,w => Region.ready md ops listed = [] ∧ Q .normal a w
 | fuel + 1,listed,a,w =>
  (Region.ready md ops listed = [] → Q .normal a w) ∧
  ∀ i ∈ Region.ready md ops listed,wpOp P ops Q i (fun a' w' => ((anyL D (listed.setIfInBounds i true) = false → S w') ∧ T w') ∧ wpAnyT P md ops Q S T D fuel (listed.setIfInBounds i true) a' w') a w
theorem wpAny_of_lateT : ∀ (fuel : Nat) (listed : Array Bool) (a : Act) (w : World),wpAnyT P md ops Q S T D fuel listed a w → wpAny P md ops Q fuel listed a w
 | 0,_,_,_,h => h
 | fuel + 1,_,_,_,h => ⟨h.1,fun i hi => wpOp_mono (fun a' w' h' => wpAny_of_lateT fuel _ a' w' h'.2) (h.2 i hi)⟩
theorem getD_set_f {listed : Array Bool} {i k : Nat} (h : i ≠ k) : (listed.setIfInBounds i true).getD k false = listed.getD k false:=by
 simp [Array.getElem?_setIfInBounds_ne h]
theorem anyL_mono {listed : Array Bool} {i : Nat} (h : anyL D (listed.setIfInBounds i true) = false) : anyL D listed = false:=by
 unfold anyL at *
 rw [List.any_eq_false] at *
 intro k hk hc
 refine h k hk ?_
 by_cases hik : i = k
 ·subst hik
  rcases Nat.lt_or_ge i listed.size with h' | h'
  ·simp [h']
  ·simp [Array.getElem?_eq_none h'] at hc
 ·rw [getD_set_f hik]; exact hc
theorem anyL_ne {listed : Array Bool} {i j : Nat} (hi : D.contains i = false) (hij : j ≠ i) (h : anyL D (listed.setIfInBounds j true) = false) : anyL D ((listed.setIfInBounds i true).setIfInBounds j true) = false:=by
 unfold anyL at *
 rw [List.any_eq_false] at *
 intro k hk hc
 have hik : i ≠ k:=fun e => by
  subst e
  have : D.contains i = true:=by simpa using hk
  rw [this] at hi
  cases hi
 refine h k hk ?_
 rw [Array.setIfInBounds_comm _ _ (Ne.symm hij),getD_set_f hik] at hc
 exact hc
/-- One that loads what stays: taken first under T. -/
theorem wpAnyT_any {i : Nat} {oi : Oper} {v : Value} (hi : ops[i]? = some oi) (hsel : ∀ (j : Nat) (o : Oper) cs b,ops[j]? = some o → o.op ≠ .select cs b)
  (hQ : ∀ c a w,Q (.panic c) (a.put oi.dst v) w → Q (.panic c) a w) (hDi : D.contains i = false) :
  ∀ (fuel : Nat) (listed : Array Bool) (a : Act) (w : World),
   (∀ j oj,ops[j]? = some oj → j ≠ i → listed.getD j true = false → (∀ e ∈ oj.after,Region.binds md e = true → e.on ≠ i) → oi.apart ops oj = true) →
   i ∈ Region.ready md ops listed → YieldsIf P ops T oi v a → (anyL D listed = false → S w) → T w →
   wpAnyT P md ops Q S T D fuel (listed.setIfInBounds i true) (a.put oi.dst v) w → wpAnyT P md ops Q S T D (fuel + 1) listed a w:=by
 intro fuel
 induction fuel with
 | zero =>
  intro listed a w _ hr hy hS hTw H
  refine ⟨fun h => (by rw [h] at hr; cases hr),fun j hj => ?_⟩
  by_cases hji : j = i
  ·subst hji; exact hy.wpOp hi hTw ⟨⟨fun h => hS (anyL_mono h),hTw⟩,H⟩
  ·have:=ready_mono hj hji
   rw [H.1] at this
   cases this
 | succ fuel ih =>
  intro listed a w hfree hr hy hS hTw H
  refine ⟨fun h => (by rw [h] at hr; cases hr),fun j hj => ?_⟩
  by_cases hji : j = i
  ·subst hji; exact hy.wpOp hi hTw ⟨⟨fun h => hS (anyL_mono h),hTw⟩,H⟩
  ·have h1:=H.2 j (ready_mono hj hji)
   obtain ⟨hjun,oj,hoj,hall⟩:=mem_ready.1 hj
   have hnot : ∀ e ∈ oj.after,Region.binds md e = true → e.on ≠ i:=fun e he hb heq => by
    have h1:=hall e he hb
    rw [heq] at h1
    exact getD_ff (mem_ready.1 hr).1 h1
   have h2:=wpOp_putIf hoj (hfree j oj hoj hji hjun hnot) (fun cs b => hsel i oi cs b hi) (fun cs b => hsel j oj cs b hoj) hQ hy h1
   have hfree' : ∀ k ok,ops[k]? = some ok → k ≠ i → (listed.setIfInBounds j true).getD k true = false →
     (∀ e ∈ ok.after,Region.binds md e = true → e.on ≠ i) → oi.apart ops ok = true:=fun k ok hk hki hun hno => by
    refine hfree k ok hk hki ?_ hno
    by_cases hjk : j = k
    ·subst hjk; exact hjun
    ·rw [getD_set_ne true hjk] at hun; exact hun
   refine wpOp_mono (fun a' w' h3 => ⟨⟨fun h => h3.2.1.1 (anyL_ne hDi hji h),h3.2.1.2⟩,ih (listed.setIfInBounds j true) a' w' hfree' (ready_mono hr (Ne.symm hji)) h3.1 (fun h => h3.2.1.1 (anyL_ne hDi hji h)) h3.2.1.2 ?_⟩) h2
   rw [Array.setIfInBounds_comm _ _ hji]
   exact h3.2.2
theorem wpAnyT_take2 {i : Nat} {oi : Oper} {v : Value} {fuel : Nat} {listed : Array Bool} {a : Act} {w : World} (hi : ops[i]? = some oi)
  (hs : Region.noSelect ops = true) (hf : Region.free md ops listed i = true) (hr : (Region.ready md ops listed).contains i = true) (hd : D.contains i = false)
  (hQ : ∀ c a w,Q (.panic c) (a.put oi.dst v) w → Q (.panic c) a w) (hy : YieldsIf P ops T oi v a) (hS : anyL D listed = false → S w) (hT : T w)
  (h : wpAnyT P md ops Q S T D fuel (listed.setIfInBounds i true) (a.put oi.dst v) w) : wpAnyT P md ops Q S T D (fuel + 1) listed a w :=
 wpAnyT_any hi (Region.noSelect_spec hs) hQ hd fuel listed a w (Region.free_spec hi hf) (by simpa using hr) hy hS hT h
theorem wpAnyT_late {i : Nat} {o : Oper} {fuel : Nat} {listed : Array Bool} {a : Act} {w : World} (hr : Region.ready md ops listed = [i]) (ho : ops[i]? = some o) (hd : anyL D (listed.setIfInBounds i true) = true)
  (h : ∀ K' : Act → World → Prop,Shut (∀ a w,T w → (T w → wpAnyT P md ops Q S T D fuel (listed.setIfInBounds i true) a w) → K' a w) → if Region.wanted o (yielded ops a.tmps) = true then Oper.wp P o a w K' Q else K' (a.put o.dst undef) w) :
  wpAnyT P md ops Q S T D (fuel + 1) listed a w:=by
 refine ⟨fun h0 => (by rw [h0] at hr; cases hr),fun j hj => ?_⟩
 rw [hr] at hj
 obtain rfl:=List.mem_singleton.1 hj
 exact wpOp_step ho (fun K' hK => h K' (fun a w hT hW => hK a w ⟨⟨fun hc => (by rw [hd] at hc; cases hc),hT⟩,hW hT⟩))
theorem wpAnyT_done {listed : Array Bool} {a : Act} {w : World} (hr : Region.ready md ops listed = []) (h : Q .normal a w) :
  ∀ fuel,wpAnyT P md ops Q S T D fuel listed a w
 | 0 => ⟨hr,h⟩
 | _ + 1 => ⟨fun _ => h,by rw [hr]; simp⟩
theorem wp_region_lateT {id : Nat} {a : Act} {w : World} (D : List Nat) (S T : World → Prop) (hm : P.follows .mixedOrders = true) (hS : S w.drew) (hT : T w.drew)
  (h : S w.drew → T w.drew → wpAnyT P .any ops Q S T D ops.size (Array.replicate ops.size false) a w.drew) : (Code.region id ops true).wp P Q a w :=
 wp_region_any hm (wpAny_of_lateT _ _ _ _ (h hS hT))
end
theorem tkU {P : Program} {ops : Array Oper} {Q : Exit → Act → World → Prop} {md : Region.Mode} {S T : World → Prop} {D : List Nat} {i : Nat} {oi : Oper} {v : Value} {fuel : Nat} {listed : Array Bool} {a : Act} {w : World} (hi : ops[i]? = some oi) (hS : anyL D listed = false → S w) (hT : T w) (h : wpAnyT P md ops Q S T D fuel (listed.setIfInBounds i true) (a.put oi.dst v) w) (hy : YieldsIf P ops T oi v a := by exact .inl ⟨by rfl, by (intro w hSw; (try dsimp only at hSw); go_simp; try (with_reducible rfl))⟩) (hs : Region.noSelect ops = true := by kernel_rfl) (hf : Region.free md ops listed i = true := by kernel_rfl) (hr : (Region.ready md ops listed).contains i = true := by kernel_rfl) (hd : D.contains i = false := by kernel_rfl) (hQ : ∀ c a w, Q (.panic c) (a.put oi.dst v) w → Q (.panic c) a w := by exact fun _ _ _ h => h) : wpAnyT P md ops Q S T D (fuel + 1) listed a w := wpAnyT_take2 hi hs hf hr hd hQ hy hS hT h
end Go.Proofs.YtnniljhdcplkgaaGreatDoor

namespace Go.Proofs.YtnniljhdcplkgaaGreatDoor
open Go
set_option maxHeartbeats 16000000
set_option maxRecDepth 100000
set_option linter.unusedVariables false
section
variable {P : Program} {ops : Array Oper} {Q : Exit → Act → World → Prop} {md : Region.Mode} {S T : World → Prop} {D : List Nat}
/-- what is to be shown where operation i comes next -/
abbrev NextT (P : Program) (md : Region.Mode) (ops : Array Oper) (Q : Exit → Act → World → Prop) (S T : World → Prop) (D : List Nat) (fuel : Nat) (listed : Array Bool) (a : Act) (w : World) (i : Nat) (o : Oper) : Prop :=
 ∀ K' : Act → World → Prop,Shut (∀ a w,S w → T w → (S w → T w → wpAnyT P md ops Q S T D fuel (listed.setIfInBounds i true) a w) → K' a w) → if Region.wanted o (yielded ops a.tmps) = true then Oper.wp P o a w K' Q else K' (a.put o.dst undef) w
theorem wpAnyT_two {i j : Nat} {o o' : Oper} {fuel : Nat} {listed : Array Bool} {a : Act} {w : World} (hr : Region.ready md ops listed = [i,j]) (ho : ops[i]? = some o) (ho' : ops[j]? = some o')
  (h : NextT P md ops Q S T D fuel listed a w i o) (h' : NextT P md ops Q S T D fuel listed a w j o') :
  wpAnyT P md ops Q S T D (fuel + 1) listed a w:=by
 refine ⟨fun h0 => (by rw [h0] at hr; cases hr),fun k hk => ?_⟩
 rw [hr] at hk
 rcases List.mem_cons.1 hk with rfl | hk
 ·exact wpOp_step ho (fun K' hK => h K' (fun a w hS hT hW => hK a w ⟨⟨fun _ => hS,hT⟩,hW hS hT⟩))
 ·obtain rfl:=List.mem_singleton.1 hk
  exact wpOp_step ho' (fun K' hK => h' K' (fun a w hS hT hW => hK a w ⟨⟨fun _ => hS,hT⟩,hW hS hT⟩))
theorem wpAnyT_three {i j m : Nat} {o o' o'' : Oper} {fuel : Nat} {listed : Array Bool} {a : Act} {w : World} (hr : Region.ready md ops listed = [i,j,m]) (ho : ops[i]? = some o) (ho' : ops[j]? = some o') (ho'' : ops[m]? = some o'')
  (h : NextT P md ops Q S T D fuel listed a w i o) (h' : NextT P md ops Q S T D fuel listed a w j o') (h'' : NextT P md ops Q S T D fuel listed a w m o'') :
  wpAnyT P md ops Q S T D (fuel + 1) listed a w:=by
 refine ⟨fun h0 => (by rw [h0] at hr; cases hr),fun k hk => ?_⟩
 rw [hr] at hk
 rcases List.mem_cons.1 hk with rfl | hk
 ·exact wpOp_step ho (fun K' hK => h K' (fun a w hS hT hW => hK a w ⟨⟨fun _ => hS,hT⟩,hW hS hT⟩))
 ·rcases List.mem_cons.1 hk with rfl | hk
  ·exact wpOp_step ho' (fun K' hK => h' K' (fun a w hS hT hW => hK a w ⟨⟨fun _ => hS,hT⟩,hW hS hT⟩))
  ·obtain rfl:=List.mem_singleton.1 hk
   exact wpOp_step ho'' (fun K' hK => h'' K' (fun a w hS hT hW => hK a w ⟨⟨fun _ => hS,hT⟩,hW hS hT⟩))
/-- one alone,which is not late -/
theorem wpAnyT_one {i : Nat} {o : Oper} {fuel : Nat} {listed : Array Bool} {a : Act} {w : World} (hr : Region.ready md ops listed = [i]) (ho : ops[i]? = some o) (h : NextT P md ops Q S T D fuel listed a w i o) :
  wpAnyT P md ops Q S T D (fuel + 1) listed a w:=by
 refine ⟨fun h0 => (by rw [h0] at hr; cases hr),fun k hk => ?_⟩
 rw [hr] at hk
 obtain rfl:=List.mem_singleton.1 hk
 exact wpOp_step ho (fun K' hK => h K' (fun a w hS hT hW => hK a w ⟨⟨fun _ => hS,hT⟩,hW hS hT⟩))
end
end Go.Proofs.YtnniljhdcplkgaaGreatDoor
