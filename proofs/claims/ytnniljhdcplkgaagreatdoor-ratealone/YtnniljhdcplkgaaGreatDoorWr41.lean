/- Package rate: the table of kinds. Package rate: its small calls over contracts. -/
import Derived.Test.YtnniljhdcplkgaaGreatDoorWr02
import Derived.MapKept
import Derived.Test.YtnniljhdcplkgaaGreatDoorWr40
namespace Go.Proofs.YtnniljhdcplkgaaGreatDoor
open Go.ChangeShapes Go.WideShapes Go.ChangeAt Go.RowKit
set_option maxHeartbeats 16000000
set_option maxRecDepth 100000
set_option linter.unusedVariables false
set_option linter.unusedSimpArgs false
theorem kept_map (w : World) (es : Array MapEntry) (c : Nat) : Kept w (w.alloc (.map es c)):=by
 refine ⟨(Below.refl _ _).alloc (Nat.le_refl _) _,fun x => ?_⟩
 by_cases h : x.block = w.heap.size
 ·have e1 : (w.alloc (.map es c)).heap[x.block]? = some (.map es c):=by rw [h]; exact (MapKept.heap_alloc w _).1
  have e2 : w.heap[x.block]? = none:=by rw [h]; simp
  simp [World.frozen?,e1,e2]
 ·have e1 : (w.alloc (.map es c)).heap[x.block]? = w.heap[x.block]?:=by
   rcases Nat.lt_or_ge x.block w.heap.size with h1 | h1
   ·exact (MapKept.heap_alloc w _).2 _ h1
   ·have : (w.alloc (.map es c)).heap.size ≤ x.block:=by simp; omega
    rw [Array.getElem?_eq_none this,Array.getElem?_eq_none h1]
  exact World.frozen?_of_block e1
theorem upd_new (w : World) (es : Array MapEntry) (c : Nat) (key : Int) (val : Value) (hf : Instr.findNow (.int .i64) (.int .i64 key) es.toList 0 = some none) : (Instr.mapUpdate 61 (.map (some w.heap.size)) (.int .i64 key) val).run Tryz.prog (w.alloc (.map es c)) = .ok () (w.alloc (.map (es.push ⟨.int .i64 key,val,c⟩) (c + 1))):=by
 have hb:=(MapKept.heap_alloc w (.map es c)).1
 have hs : ({ w.alloc (.map es c) with heap:=(w.alloc (.map es c)).heap.setIfInBounds w.heap.size (.map (es.push ⟨.int .i64 key,val,c⟩) (c + 1)) } : World) = w.alloc (.map (es.push ⟨.int .i64 key,val,c⟩) (c + 1)):=by
  have e : ∀ a b : Obj,(w.heap.push a).setIfInBounds w.heap.size b = w.heap.push b:=fun a b => by
   apply Array.ext'
   rw [Array.toList_setIfInBounds,Array.toList_push,Array.toList_push,List.set_append_right _ _ (by simp)]
   simp
  show ({ w with heap:=(w.heap.push (.map es c)).setIfInBounds w.heap.size _ } : World) = { w with heap:=w.heap.push _ }
  rw [e]
 have h1:=MapKept.run_findKey (P:=Tryz.prog) (w:=w.alloc (.map es c)) Tryz.underlying3 hf
 have h2:=MapKept.run_checkKey (P:=Tryz.prog) (w:=w.alloc (.map es c)) (k:=.int .i64 key) Tryz.underlying3 rfl false 9999
 simp [Instr.mapUpdate,run_underlying Tryz.underlying61,MapKept.run_getObj_map hb,h1,h2,MapKept.run_setObj_map _ hb,Result.andThen]
 exact hs
/-- the table -/
def kEs : Array MapEntry:=#[⟨.int .i64 0,.func (.func 61) #[] #[],0⟩,⟨.int .i64 1,.func (.func 62) #[] #[],1⟩,⟨.int .i64 2,.func (.func 63) #[] #[],2⟩,⟨.int .i64 3,.func (.func 64) #[] #[],3⟩,⟨.int .i64 4,.func (.func 65) #[] #[],4⟩,⟨.int .i64 5,.func (.func 66) #[] #[],5⟩]
theorem allKinds_any (w : World) : Calls Tryz.prog 38 #[] w fun e w' => e = .returned (.map (some w.heap.size)) ∧ w' = w.alloc (.map kEs 6):=by
 have hmm:=@run_makeMap Tryz.prog
 have u0:=upd_new w #[] 0 0 (.func (.func 61) #[] #[]) rfl
 have u1:=upd_new w #[⟨.int .i64 0,.func (.func 61) #[] #[],0⟩] 1 1 (.func (.func 62) #[] #[]) rfl
 have u2:=upd_new w #[⟨.int .i64 0,.func (.func 61) #[] #[],0⟩,⟨.int .i64 1,.func (.func 62) #[] #[],1⟩] 2 2 (.func (.func 63) #[] #[]) rfl
 have u3:=upd_new w #[⟨.int .i64 0,.func (.func 61) #[] #[],0⟩,⟨.int .i64 1,.func (.func 62) #[] #[],1⟩,⟨.int .i64 2,.func (.func 63) #[] #[],2⟩] 3 3 (.func (.func 64) #[] #[]) rfl
 have u4:=upd_new w #[⟨.int .i64 0,.func (.func 61) #[] #[],0⟩,⟨.int .i64 1,.func (.func 62) #[] #[],1⟩,⟨.int .i64 2,.func (.func 63) #[] #[],2⟩,⟨.int .i64 3,.func (.func 64) #[] #[],3⟩] 4 4 (.func (.func 65) #[] #[]) rfl
 have u5:=upd_new w #[⟨.int .i64 0,.func (.func 61) #[] #[],0⟩,⟨.int .i64 1,.func (.func 62) #[] #[],1⟩,⟨.int .i64 2,.func (.func 63) #[] #[],2⟩,⟨.int .i64 3,.func (.func 64) #[] #[],3⟩,⟨.int .i64 4,.func (.func 65) #[] #[],4⟩] 5 5 (.func (.func 66) #[] #[]) rfl
 simp only [List.push_toArray,List.nil_append,List.cons_append] at u0 u1 u2 u3 u4 u5
 go_enter Tryz.func38,Tryz.ntmps38
 go_wp2
 go_ret
 exact ⟨rfl,rfl⟩
/-- what is told of a number's kind -/
def kFn (x : Int) : Value:=if x = 0 then .func (.func 61) #[] #[] else if x = 1 then .func (.func 62) #[] #[] else if x = 2 then .func (.func 63) #[] #[] else if x = 3 then .func (.func 64) #[] #[] else if x = 4 then .func (.func 65) #[] #[] else if x = 5 then .func (.func 66) #[] #[] else .nilFunc
theorem look_kinds (w : World) (x : Int) : (Instr.lookup 61 (.map (some w.heap.size)) (.int .i64 x) true).run Tryz.prog (w.alloc (.map kEs 6)) = .ok (.tuple #[kFn x,.bool (decide (0 ≤ x ∧ x ≤ 5))]) (w.alloc (.map kEs 6)):=by
 have hb:=(MapKept.heap_alloc w (.map kEs 6)).1
 have h2:=MapKept.run_checkKey (P:=Tryz.prog) (w:=w.alloc (.map kEs 6)) (k:=.int .i64 x) Tryz.underlying3 rfl kEs.isEmpty 9999
 have hz : (zeroValue 34).run Tryz.prog (w.alloc (.map kEs 6)) = .ok .nilFunc (w.alloc (.map kEs 6)):=by kernel_rfl
 have key : ∀ (r : Option (Nat × Value)) (v : Value) (ok : Bool),Instr.findNow (.int .i64) (.int .i64 x) kEs.toList 0 = some r → ((∃ i,r = some (i,v) ∧ ok = true) ∨ (r = none ∧ v = .nilFunc ∧ ok = false)) → (Instr.lookup 61 (.map (some w.heap.size)) (.int .i64 x) true).run Tryz.prog (w.alloc (.map kEs 6)) = .ok (.tuple #[v,.bool ok]) (w.alloc (.map kEs 6)):=fun r v ok hf hr => by
  have h1:=MapKept.run_findKey (P:=Tryz.prog) (w:=w.alloc (.map kEs 6)) Tryz.underlying3 hf
  rcases hr with ⟨i,rfl,rfl⟩ | ⟨rfl,rfl,rfl⟩
  ·simp [Instr.lookup,run_underlying Tryz.underlying61,MapKept.run_getObj_map hb,h1,h2,Result.andThen]
  ·simp [Instr.lookup,run_underlying Tryz.underlying61,MapKept.run_getObj_map hb,h1,h2,hz,Result.andThen]
 by_cases h0 : 0 ≤ x ∧ x ≤ 5
 ·rw [decide_eq_true h0]
  rcases (show x = 0 ∨ x = 1 ∨ x = 2 ∨ x = 3 ∨ x = 4 ∨ x = 5 by omega) with rfl | rfl | rfl | rfl | rfl | rfl
  ·exact key _ _ _ rfl (.inl ⟨0,rfl,rfl⟩)
  ·exact key _ _ _ rfl (.inl ⟨1,rfl,rfl⟩)
  ·exact key _ _ _ rfl (.inl ⟨2,rfl,rfl⟩)
  ·exact key _ _ _ rfl (.inl ⟨3,rfl,rfl⟩)
  ·exact key _ _ _ rfl (.inl ⟨4,rfl,rfl⟩)
  ·exact key _ _ _ rfl (.inl ⟨5,rfl,rfl⟩)
 ·rw [decide_eq_false h0]
  have e0 : (x == 0) = false:=by simp; omega
  have e1 : (x == 1) = false:=by simp; omega
  have e2 : (x == 2) = false:=by simp; omega
  have e3 : (x == 3) = false:=by simp; omega
  have e4 : (x == 4) = false:=by simp; omega
  have e5 : (x == 5) = false:=by simp; omega
  have ek : kFn x = .nilFunc:=by unfold kFn; rw [if_neg (by omega),if_neg (by omega),if_neg (by omega),if_neg (by omega),if_neg (by omega),if_neg (by omega)]
  rw [ek]
  exact key none _ _ (by simp [kEs,Instr.findNow,Instr.sameNow,e0,e1,e2,e3,e4,e5]) (.inr ⟨rfl,rfl,rfl⟩)
theorem kindOf_any (x : Int) (w : World) : Calls Tryz.prog 19 #[.int .i64 x] w fun e w' => e = .returned (.tuple #[kFn x,.bool (decide (0 ≤ x ∧ x ≤ 5))]) ∧ Kept w w':=by
 have hl:=look_kinds w x
 obtain ⟨fx,hfx⟩ : ∃ f,kFn x = f:=⟨_,rfl⟩
 obtain ⟨bx,hbx⟩ : ∃ b,decide (0 ≤ x ∧ x ≤ 5) = b:=⟨_,rfl⟩
 rw [hfx,hbx] at hl ⊢
 have HK : Hid (Kept w (w.alloc (.map kEs 6))):=kept_map w _ _
 clear hfx hbx
 go_enter Tryz.func19,Tryz.ntmps19
 go_wp2_with fail
 refine (allKinds_any _).mono ?_
 rintro e w1 ⟨rfl,rfl⟩
 go_wp2_with fail
 exact bodyPost_ret (v:=.tuple #[fx,.bool bx]) (by simp [results,Tryz.results19,go_sem]) rfl ⟨rfl,HK.out⟩
end Go.Proofs.YtnniljhdcplkgaaGreatDoor

namespace Go.Proofs.YtnniljhdcplkgaaGreatDoor
open Go.ChangeShapes Go.WideShapes Go.ChangeAt Go.RowKit
set_option maxHeartbeats 16000000
set_option maxRecDepth 100000
set_option linter.unusedVariables false
set_option linter.unusedSimpArgs false
theorem share_walk (b : Int) (n1 : Bool) (a1 : Option Addr) (l1 c1 : Nat) (x1 : Int) (n2 : Bool) (a2 : Option Addr) (l2 c2 : Nat) (x2 : Int) (x y : Nm) (s : Int) (w : World)
  (KO : Hid (∀ u,Kept w u → Calls Tryz.prog 42 #[.int .i64 b,.int .i64 64] u fun e w' => ∃ v,e = .returned v ∧ New u w' v x ∧ Kept u w'))
  (KM : Hid (∀ u v,Kept w u → NumAt u v x → Calls Tryz.prog 41 #[v,.agg #[.bool n1,.slice a1 l1 c1,.int .i64 x1]] u fun e w' => ∃ v,e = .returned v ∧ New u w' v y ∧ Kept u w'))
  (KQ : Hid (∀ u v,Kept w u → NumAt u v y → Calls Tryz.prog 40 #[v,.agg #[.bool n2,.slice a2 l2 c2,.int .i64 x2],.int .i64 64] u fun e w' => e = .returned (.int .i64 s) ∧ Kept u w')) :
  Calls Tryz.prog 22 #[.int .i64 b,.agg #[.bool n1,.slice a1 l1 c1,.int .i64 x1],.agg #[.bool n2,.slice a2 l2 c2,.int .i64 x2]] w fun e w' => e = .returned (.int .i64 s) ∧ Kept w w':=by
 obtain ⟨X,hX⟩ : ∃ X,X = (w.alloc (.cells #[.bool n1,.slice a1 l1 c1,.int .i64 x1] 43)).alloc (.cells #[.bool n2,.slice a2 l2 c2,.int .i64 x2] 43):=⟨_,rfl⟩
 have hK : Kept w X:=by rw [hX]; exact ((Kept.refl w).alloc _ _).alloc _ _
 have HS0 : Hid (∀ u,Kept X u → (u.cell? ⟨w.heap.size,0,none⟩ = some (.bool n1) ∧ u.cell? ⟨w.heap.size,1,none⟩ = some (.slice a1 l1 c1) ∧ u.cell? ⟨w.heap.size,2,none⟩ = some (.int .i64 x1)) ∧ (u.cell? ⟨w.heap.size + 1,0,none⟩ = some (.bool n2) ∧ u.cell? ⟨w.heap.size + 1,1,none⟩ = some (.slice a2 l2 c2) ∧ u.cell? ⟨w.heap.size + 1,2,none⟩ = some (.int .i64 x2))):=fun u k => by
  have hs : X.heap.size = w.heap.size + 2:=by rw [hX]; simp
  refine ⟨⟨(k.below.cell (p:=⟨w.heap.size,0,none⟩) (by simp only; omega)).trans ?_,(k.below.cell (p:=⟨w.heap.size,1,none⟩) (by simp only; omega)).trans ?_,(k.below.cell (p:=⟨w.heap.size,2,none⟩) (by simp only; omega)).trans ?_⟩,⟨(k.below.cell (p:=⟨w.heap.size + 1,0,none⟩) (by simp only; omega)).trans ?_,(k.below.cell (p:=⟨w.heap.size + 1,1,none⟩) (by simp only; omega)).trans ?_,(k.below.cell (p:=⟨w.heap.size + 1,2,none⟩) (by simp only; omega)).trans ?_⟩⟩ <;> (rw [hX]; simp [go_sem])
 obtain ⟨B0,hB0⟩ : ∃ B,B = w.heap.size:=⟨_,rfl⟩
 obtain ⟨B1,hB1⟩ : ∃ B,B = w.heap.size + 1:=⟨_,rfl⟩
 rw [← hB1,← hB0] at HS0
 have HS : Hid (∀ u,Kept X u → Kept X u ∧ (u.cell? ⟨B0,0,none⟩ = some (.bool n1) ∧ u.cell? ⟨B0,1,none⟩ = some (.slice a1 l1 c1) ∧ u.cell? ⟨B0,2,none⟩ = some (.int .i64 x1)) ∧ (u.cell? ⟨B1,0,none⟩ = some (.bool n2) ∧ u.cell? ⟨B1,1,none⟩ = some (.slice a2 l2 c2) ∧ u.cell? ⟨B1,2,none⟩ = some (.int .i64 x2))):=fun u k => ⟨k,HS0.out u k⟩
 go_enter Tryz.func22,Tryz.ntmps22
 go_upto_region 1 with fail
 rw [← hX,← hB1,← hB0]
 clear hX hB0 hB1
 refine wp_region_held_drew (S:=fun u => Kept X u ∧ (u.cell? ⟨B0,0,none⟩ = some (.bool n1) ∧ u.cell? ⟨B0,1,none⟩ = some (.slice a1 l1 c1) ∧ u.cell? ⟨B0,2,none⟩ = some (.int .i64 x1)) ∧ (u.cell? ⟨B1,0,none⟩ = some (.bool n2) ∧ u.cell? ⟨B1,1,none⟩ = some (.slice a2 l2 c2) ∧ u.cell? ⟨B1,2,none⟩ = some (.int .i64 x2))) (by kernel_rfl) (HS.out _ (Kept.refl X).drew) (fun hHeld => ?_)
 refine tk (i:=0) (v:=?_) rfl ?_
 simp only [Act.put,zA,zB,zC,zD,zE,zF]
 refine tk (i:=2) (v:=?_) rfl ?_
 simp only [Act.put,zA,zB,zC,zD,zE,zF]
 refine tk (i:=4) (v:=?_) rfl ?_
 simp only [Act.put,zA,zB,zC,zD,zE,zF]
 refine wpAnyH_ready (rs:=[1]) (by kernel_rfl) (by simp) ?_
 refine AllReadyH.cons rfl (fun K hK9 => ?_) AllReadyH.nil
 go_simp
 go_wp2_with fail
 refine (KO.out _ (hK.trans (Kept.refl X).drew)).mono ?_
 rintro e u1 ⟨v1,rfl,N1,k1⟩
 have q1:=(Kept.refl X).drew.trans k1
 have e1:=HS.out _ q1
 refine hK9.out _ _ e1 (fun hHeld1 => ?_)
 clear hK9 K
 (try simp only [Act.put,zA,zB,zC,zD,zE,zF])
 refine wpAnyH_ready (rs:=[3]) (by kernel_rfl) (by simp) ?_
 refine AllReadyH.cons rfl (fun K hK9 => ?_) AllReadyH.nil
 go_simp
 go_wp2_with fail
 refine (KM.out _ _ (hK.trans q1) N1.numAt).mono ?_
 rintro e u2 ⟨v2,rfl,N2,k2⟩
 have q2:=q1.trans k2
 have e2:=HS.out _ q2
 refine hK9.out _ _ e2 (fun hHeld2 => ?_)
 clear hK9 K
 (try simp only [Act.put,zA,zB,zC,zD,zE,zF])
 refine wpAnyH_ready (rs:=[5]) (by kernel_rfl) (by simp) ?_
 refine AllReadyH.cons rfl (fun K hK9 => ?_) AllReadyH.nil
 go_simp
 go_wp2_with fail
 refine (KQ.out _ _ (hK.trans q2) N2.numAt).mono ?_
 rintro e u3 ⟨rfl,k3⟩
 have q3:=q2.trans k3
 have e3:=HS.out _ q3
 refine hK9.out _ _ e3 (fun hHeld3 => ?_)
 clear hK9 K
 (try simp only [Act.put,zA,zB,zC,zD,zE,zF])
 refine tk (i:=6) (v:=?_) rfl ?_
 simp only [Act.put,zA,zB,zC,zD,zE,zF]
 refine wpAnyH_done (by kernel_rfl) ?_ _
 go_wp2_with fail
 go_ret
 exact ⟨rfl,hK.trans q3⟩
end Go.Proofs.YtnniljhdcplkgaaGreatDoor
