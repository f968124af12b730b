/- The laws of chapter 16: the walk of StartAgain. How arguments are read: exact numbers,lists of ints; and that they read behind the call as before. The laws of chapter 16: StartAgain. -/
import Derived.Test.YtelbefihigkhjaaGreatDoorWa46
import Derived.Test.YtelbefihigkhjaaGreatDoorWa07
import Derived.ProofKit
import Derived.OpenShut
import Derived.Carry
import Derived.Lib.SmallJoins
import Derived.ChangeSlices
namespace Go.Proofs.YtelbefihigkhjaaGreatDoor
open Go.ChangeShapes Go.WideShapes Go.ChangeAt Go.RowKit
set_option maxHeartbeats 16000000
set_option maxRecDepth 100000
set_option linter.unusedVariables false
set_option linter.unusedSimpArgs false
theorem again_walk (ki1 ro1 co1 wi1 va1 vb1 ki2 ro2 co2 wi2 va2 vb2 seed stream : Int) (p : Option Addr) (L : List Int) (cap : Nat) (l1 l2 : Bool) (q : Int) (z0 z1 z2 : Int) (M : Nat) (R : World → Option Addr → Prop) (w : World) (hS : Sl w (.slice p L.length cap) L)
  (sR : Hid (∀ u u' v,R u v → Kept u u' → R u' v))
  (KA : Hid (∀ u,Kept w u → Calls Tryz.prog 9 #[] u fun e w' => e = .returned (.bool true) ∧ Kept u w'))
  (KL1 : Hid (∀ u,Calls Tryz.prog 10 #[.agg #[.int .i64 ki1,.int .i64 ro1,.int .i64 co1,.int .i64 wi1,.int .i64 va1,.int .i64 vb1]] u fun e w' => e = .returned (.bool l1) ∧ Kept u w'))
  (KL2 : Hid (∀ u,Calls Tryz.prog 10 #[.agg #[.int .i64 ki2,.int .i64 ro2,.int .i64 co2,.int .i64 wi2,.int .i64 va2,.int .i64 vb2]] u fun e w' => e = .returned (.bool l2) ∧ Kept u w'))
  (KX : Hid (∀ u,Kept w u → Calls Tryz.prog 11 #[.agg #[.int .i64 ki1,.int .i64 ro1,.int .i64 co1,.int .i64 wi1,.int .i64 va1,.int .i64 vb1],.int .i64 seed,.int .i64 stream] u fun e w' => ∃ v,e = .returned (.tuple #[.agg #[.int .i64 z0,.int .i64 z1,.int .i64 z2,.slice v M M],.int .i64 q]) ∧ R w' v ∧ Kept u w'))
  (KO : Hid (∀ u i,Kept w u → Calls Tryz.prog 11 #[.agg #[.int .i64 ki2,.int .i64 ro2,.int .i64 co2,.int .i64 wi2,.int .i64 va2,.int .i64 vb2],.int .i64 i,.int .i64 stream] u fun e w' => ∃ v,e = .returned v ∧ Kept u w'))
  (KY : Hid (∀ u i,Kept w u → Calls Tryz.prog 11 #[.agg #[.int .i64 ki1,.int .i64 ro1,.int .i64 co1,.int .i64 wi1,.int .i64 va1,.int .i64 vb1],.int .i64 seed,.int .i64 i] u fun e w' => ∃ v,e = .returned v ∧ Kept u w'))
  (KS : Hid (∀ u v v',R u v → R u v' → Calls Tryz.prog 13 #[.agg #[.int .i64 z0,.int .i64 z1,.int .i64 z2,.slice v M M],.agg #[.int .i64 z0,.int .i64 z1,.int .i64 z2,.slice v' M M]] u fun e w' => e = .returned (.bool true) ∧ Kept u w')) :
  Calls Tryz.prog 6 #[.agg #[.int .i64 ki1,.int .i64 ro1,.int .i64 co1,.int .i64 wi1,.int .i64 va1,.int .i64 vb1],.agg #[.int .i64 ki2,.int .i64 ro2,.int .i64 co2,.int .i64 wi2,.int .i64 va2,.int .i64 vb2],.int .i64 seed,.int .i64 stream,.slice p L.length cap] w fun e w' => e = .returned (.bool true) ∧ Kept w w':=by
 obtain ⟨X,hX⟩ : ∃ X,X = (w.alloc (.cells #[.int .i64 ki1,.int .i64 ro1,.int .i64 co1,.int .i64 wi1,.int .i64 va1,.int .i64 vb1] 23)).alloc (.cells #[.int .i64 ki2,.int .i64 ro2,.int .i64 co2,.int .i64 wi2,.int .i64 va2,.int .i64 vb2] 23):=⟨_,rfl⟩
 obtain ⟨B0,hB0⟩ : ∃ B,B = w.heap.size:=⟨_,rfl⟩
 obtain ⟨B1,hB1⟩ : ∃ B,B = B0 + 1:=⟨_,rfl⟩
 have hK : Kept w X:=by rw [hX]; exact ((Kept.refl w).alloc _ _).alloc _ _
 have hP0 : Q6 X B0 (.int .i64 ki1) (.int .i64 ro1) (.int .i64 co1) (.int .i64 wi1) (.int .i64 va1) (.int .i64 vb1):=by rw [hX,hB0]; exact (Q6.new w _ _ _ _ _ _ _).alloc _ _
 have hP1 : Q6 X B1 (.int .i64 ki2) (.int .i64 ro2) (.int .i64 co2) (.int .i64 wi2) (.int .i64 va2) (.int .i64 vb2):=by
  rw [hX,hB1,hB0]
  have:=Q6.new (w.alloc (.cells #[.int .i64 ki1,.int .i64 ro1,.int .i64 co1,.int .i64 wi1,.int .i64 va1,.int .i64 vb1] 23)) (.int .i64 ki2) (.int .i64 ro2) (.int .i64 co2) (.int .i64 wi2) (.int .i64 va2) (.int .i64 vb2) 23
  simpa using this
 have HP0 : Hid (∀ u,Kept X u → Q6 u B0 (.int .i64 ki1) (.int .i64 ro1) (.int .i64 co1) (.int .i64 wi1) (.int .i64 va1) (.int .i64 vb1)):=fun u k => hP0.kept k
 have HP1 : Hid (∀ u,Kept X u → Q6 u B1 (.int .i64 ki2) (.int .i64 ro2) (.int .i64 co2) (.int .i64 wi2) (.int .i64 va2) (.int .i64 vb2)):=fun u k => hP1.kept k
 have HL : Hid (Sl w (.slice p L.length cap) L):=hS
 clear hP0 hP1 hS
 go_enter Tryz.func6,Tryz.ntmps6
 go_upto_region 1 with fail
 rw [← hX,← hB0,← hB1]
 clear hX hB0 hB1
 go_wp2_with fail
 refine (KA.out _ hK).mono ?_
 rintro e w1 ⟨rfl,k1⟩
 obtain ⟨p0,p1,p2,p3,p4,p5⟩:=HP0.out _ k1
 go_wp2_with fail
 refine (KL1.out _).mono ?_
 rintro e w2 ⟨rfl,k2⟩
 clear p0 p1 p2 p3 p4 p5
 have k12:=k1.trans k2
 clear k1 k2
 cases l1
 ·go_wp2_with fail
  refine (KA.out _ (hK.trans k12)).mono ?_
  rintro e w9 ⟨rfl,k9⟩
  go_wp2_with fail
  go_ret
  exact ⟨rfl,(hK.trans k12).trans k9⟩
 obtain ⟨r0,r1,r2,r3,r4,r5⟩:=HP1.out _ k12
 go_wp2_with fail
 refine (KL2.out _).mono ?_
 rintro e w3 ⟨rfl,k3⟩
 clear r0 r1 r2 r3 r4 r5
 have k13:=k12.trans k3
 clear k12 k3
 cases l2
 ·go_wp2_with fail
  refine (KA.out _ (hK.trans k13)).mono ?_
  rintro e w9 ⟨rfl,k9⟩
  go_wp2_with fail
  go_ret
  exact ⟨rfl,(hK.trans k13).trans k9⟩
 by_cases hl : 20 < L.length
 ·have tl : decide ((20 : Int) < (L.length : Int)) = true:=decide_eq_true (by omega)
  go_wp2_with fail
  refine (KA.out _ (hK.trans k13)).mono ?_
  rintro e w9 ⟨rfl,k9⟩
  go_wp2_with fail
  go_ret
  exact ⟨rfl,(hK.trans k13).trans k9⟩
 have tl : decide ((20 : Int) < (L.length : Int)) = false:=decide_eq_false (by omega)
 obtain ⟨p0,p1,p2,p3,p4,p5⟩:=HP0.out _ k13
 go_wp2_with fail
 refine (KX.out _ (hK.trans k13)).mono ?_
 rintro e w4 ⟨v,rfl,rv,k4⟩
 clear p0 p1 p2 p3 p4 p5 tl
 go_upto_region 4 with fail
 obtain ⟨V,hV⟩ : ∃ V,V = w4.alloc (.cells #[.int .i64 z0,.int .i64 z1,.int .i64 z2,.slice v M M] 28):=⟨_,rfl⟩
 obtain ⟨B8,hB8⟩ : ∃ B,B = w4.heap.size:=⟨_,rfl⟩
 have kV : Kept X V:=by rw [hV]; exact (k13.trans k4).alloc _ _
 have hP8 : Q4 V B8 (.int .i64 z0) (.int .i64 z1) (.int .i64 z2) (.slice v M M):=by rw [hV,hB8]; exact Q4.new w4 _ _ _ _ _
 have HP8 : Hid (∀ u,Kept V u → Q4 u B8 (.int .i64 z0) (.int .i64 z1) (.int .i64 z2) (.slice v M M)):=fun u k => hP8.kept k
 have rV : Hid (∀ u,Kept V u → R u v):=fun u k => sR.out _ _ _ (sR.out _ _ _ rv (by rw [hV]; exact (Kept.refl w4).alloc _ _)) k
 rw [← hV,← hB8]
 clear hV hB8 k4 k13 hP8 rv
 go_wp2_with fail
 go_loopw [13] (fun i wr => ∃ k : Nat,k ≤ L.length ∧ i = .int .i64 k ∧ Kept V wr) (fun i _ => L.length - (intOf i).toNat)
 case atStart => exact ⟨0,Nat.zero_le _,rfl,Kept.refl V⟩
 case round =>
  obtain ⟨k,hkN,rfl,hk⟩:=hrel
  by_cases hlt : k < L.length
  ·obtain ⟨ao,cp,e9,h1,h2,h3⟩:=HL.out
   obtain ⟨b,off,hao,hb,hrd⟩:=h3 (by intro h; rw [h] at hlt; exact absurd hlt (by simp))
   obtain ⟨rfl,rfl⟩ : p = ao ∧ cap = cp:=by simpa using e9
   clear e9
   subst hao
   have HC : Hid (∀ u,Kept wr u → u.cell? ⟨b,off + k,none⟩ = some (.int .i64 (L.getD k 0))):=fun u q => (((hrd.kept hb (hK.trans kV)).kept (Nat.lt_of_lt_of_le hb (hK.trans kV).below.size) hk).kept (Nat.lt_of_lt_of_le hb ((hK.trans kV).trans hk).below.size) q) k hlt
   have kw : Hid (Kept w wr):=(hK.trans kV).trans hk
   have HS7 : Hid (∀ u,Kept wr u → Kept wr u ∧ u.cell? ⟨b,off + k,none⟩ = some (.int .i64 (L.getD k 0)) ∧ u.cell? ⟨B1,0,none⟩ = some (.int .i64 ki2) ∧ u.cell? ⟨B1,1,none⟩ = some (.int .i64 ro2) ∧ u.cell? ⟨B1,2,none⟩ = some (.int .i64 co2) ∧ u.cell? ⟨B1,3,none⟩ = some (.int .i64 wi2) ∧ u.cell? ⟨B1,4,none⟩ = some (.int .i64 va2) ∧ u.cell? ⟨B1,5,none⟩ = some (.int .i64 vb2)):=fun u q => ⟨q,HC.out u q,(HP1.out _ ((kV.trans hk).trans q)).c0,(HP1.out _ ((kV.trans hk).trans q)).c1,(HP1.out _ ((kV.trans hk).trans q)).c2,(HP1.out _ ((kV.trans hk).trans q)).c3,(HP1.out _ ((kV.trans hk).trans q)).c4,(HP1.out _ ((kV.trans hk).trans q)).c5⟩
   have HS8 : Hid (∀ u,Kept wr u → Kept wr u ∧ u.cell? ⟨b,off + k,none⟩ = some (.int .i64 (L.getD k 0)) ∧ u.cell? ⟨B0,0,none⟩ = some (.int .i64 ki1) ∧ u.cell? ⟨B0,1,none⟩ = some (.int .i64 ro1) ∧ u.cell? ⟨B0,2,none⟩ = some (.int .i64 co1) ∧ u.cell? ⟨B0,3,none⟩ = some (.int .i64 wi1) ∧ u.cell? ⟨B0,4,none⟩ = some (.int .i64 va1) ∧ u.cell? ⟨B0,5,none⟩ = some (.int .i64 vb1)):=fun u q => ⟨q,HC.out u q,(HP0.out _ ((kV.trans hk).trans q)).c0,(HP0.out _ ((kV.trans hk).trans q)).c1,(HP0.out _ ((kV.trans hk).trans q)).c2,(HP0.out _ ((kV.trans hk).trans q)).c3,(HP0.out _ ((kV.trans hk).trans q)).c4,(HP0.out _ ((kV.trans hk).trans q)).c5⟩
   clear hrd h1 h2 h3 hb
   go_upto_region 7 with fail
   refine wp_region_late [] (fun u => Kept wr u ∧ u.cell? ⟨b,off + k,none⟩ = some (.int .i64 (L.getD k 0)) ∧ u.cell? ⟨B1,0,none⟩ = some (.int .i64 ki2) ∧ u.cell? ⟨B1,1,none⟩ = some (.int .i64 ro2) ∧ u.cell? ⟨B1,2,none⟩ = some (.int .i64 co2) ∧ u.cell? ⟨B1,3,none⟩ = some (.int .i64 wi2) ∧ u.cell? ⟨B1,4,none⟩ = some (.int .i64 va2) ∧ u.cell? ⟨B1,5,none⟩ = some (.int .i64 vb2)) (by kernel_rfl) (HS7.out _ (Kept.refl wr).drew) (fun hHeld => ?_)
   refine tkD (i:=0) (v:=?_) rfl hHeld ?_
   (try simp only [Act.put,zA,zB,zC,zD,zE,zF])
   refine tkD (i:=1) (v:=?_) rfl hHeld ?_
   (try simp only [Act.put,zA,zB,zC,zD,zE,zF])
   refine tkD (i:=2) (v:=?_) rfl hHeld ?_
   (try simp only [Act.put,zA,zB,zC,zD,zE,zF])
   refine tkD (i:=3) (v:=?_) rfl hHeld ?_
   (try simp only [Act.put,zA,zB,zC,zD,zE,zF])
   refine tkD (i:=4) (v:=?_) rfl hHeld ?_
   (try simp only [Act.put,zA,zB,zC,zD,zE,zF])
   refine tkD (i:=5) (v:=?_) rfl hHeld ?_
   (try simp only [Act.put,zA,zB,zC,zD,zE,zF])
   refine wpAnyD_step (i:=6) (by kernel_rfl) rfl (fun K hK9 => ?_)
   go_simp
   go_wp2_with fail
   refine (KO.out _ _ (kw.out.trans hHeld.1)).mono ?_
   rintro e u7 ⟨vo,rfl,k7⟩
   refine hK9.out _ _ (HS7.out _ (hHeld.1.trans k7)) (fun hH7 => ?_)
   clear hK9 K
   (try simp only [Act.put,zA,zB,zC,zD,zE,zF])
   refine wpAnyD_done (by kernel_rfl) ?_ _
   (try simp only [Act.put,zA,zB,zC,zD,zE,zF])
   have q7:=hH7.1
   clear hH7 hHeld k7
   go_upto_region 8 with fail
   refine wp_region_late [] (fun u => Kept wr u ∧ u.cell? ⟨b,off + k,none⟩ = some (.int .i64 (L.getD k 0)) ∧ u.cell? ⟨B0,0,none⟩ = some (.int .i64 ki1) ∧ u.cell? ⟨B0,1,none⟩ = some (.int .i64 ro1) ∧ u.cell? ⟨B0,2,none⟩ = some (.int .i64 co1) ∧ u.cell? ⟨B0,3,none⟩ = some (.int .i64 wi1) ∧ u.cell? ⟨B0,4,none⟩ = some (.int .i64 va1) ∧ u.cell? ⟨B0,5,none⟩ = some (.int .i64 vb1)) (by kernel_rfl) (HS8.out _ (q7.trans (Kept.refl u7).drew)) (fun hHeld => ?_)
   refine tkD (i:=0) (v:=?_) rfl hHeld ?_
   (try simp only [Act.put,zA,zB,zC,zD,zE,zF])
   refine tkD (i:=1) (v:=?_) rfl hHeld ?_
   (try simp only [Act.put,zA,zB,zC,zD,zE,zF])
   refine tkD (i:=2) (v:=?_) rfl hHeld ?_
   (try simp only [Act.put,zA,zB,zC,zD,zE,zF])
   refine tkD (i:=3) (v:=?_) rfl hHeld ?_
   (try simp only [Act.put,zA,zB,zC,zD,zE,zF])
   refine tkD (i:=4) (v:=?_) rfl hHeld ?_
   (try simp only [Act.put,zA,zB,zC,zD,zE,zF])
   refine tkD (i:=5) (v:=?_) rfl hHeld ?_
   (try simp only [Act.put,zA,zB,zC,zD,zE,zF])
   refine wpAnyD_step (i:=6) (by kernel_rfl) rfl (fun K hK9 => ?_)
   go_simp
   go_wp2_with fail
   refine (KY.out _ _ (kw.out.trans hHeld.1)).mono ?_
   rintro e u8 ⟨vy,rfl,k8⟩
   refine hK9.out _ _ (HS8.out _ (hHeld.1.trans k8)) (fun hH8 => ?_)
   clear hK9 K
   (try simp only [Act.put,zA,zB,zC,zD,zE,zF])
   refine wpAnyD_done (by kernel_rfl) ?_ _
   (try simp only [Act.put,zA,zB,zC,zD,zE,zF])
   have q8:=hH8.1
   clear hH8 hHeld k8
   go_wp2_with fail
   go_roundw
   case rel => exact ⟨k + 1,by omega,by go_num,hk.trans q8⟩
   case measure => simp [intOf]; omega
  ·obtain rfl : k = L.length:=by omega
   obtain ⟨p0,p1,p2,p3,p4,p5⟩:=HP0.out _ (kV.trans hk)
   go_wp2_with fail
   refine (KX.out _ ((hK.trans kV).trans hk)).mono ?_
   rintro e w6 ⟨v6,rfl,rv6,k6⟩
   clear p0 p1 p2 p3 p4 p5
   go_upto_region 10 with fail
   obtain ⟨U,hU⟩ : ∃ U,U = w6.alloc (.cells #[.int .i64 z0,.int .i64 z1,.int .i64 z2,.slice v6 M M] 28):=⟨_,rfl⟩
   obtain ⟨B9,hB9⟩ : ∃ B,B = w6.heap.size:=⟨_,rfl⟩
   have kU : Kept V U:=by rw [hU]; exact (hk.trans k6).alloc _ _
   have hP9 : Q4 U B9 (.int .i64 z0) (.int .i64 z1) (.int .i64 z2) (.slice v6 M M):=by rw [hU,hB9]; exact Q4.new w6 _ _ _ _ _
   have r6 : R U v6:=sR.out _ _ _ rv6 (by rw [hU]; exact (Kept.refl w6).alloc _ _)
   rw [← hU,← hB9]
   clear hU hB9 k6 rv6
   obtain ⟨p0,p1,p2,p3,pf⟩:=HP8.out _ kU
   obtain ⟨s0,s1,s2,s3,sf⟩:=hP9
   go_wp2_with fail
   refine (KS.out _ _ _ (rV.out _ kU) r6).mono ?_
   rintro e w9 ⟨rfl,k9⟩
   go_wp2_with fail
   go_ret
   exact ⟨rfl,((hK.trans kV).trans kU).trans k9⟩
end Go.Proofs.YtelbefihigkhjaaGreatDoor

namespace Go.Proofs.YtelbefihigkhjaaGreatDoor
open Go.ChangeShapes Go.WideShapes Go.ChangeAt Go.RowKit Go.Joins
set_option maxHeartbeats 16000000
set_option maxRecDepth 100000
set_option linter.unusedVariables false
theorem laid_out : laidOutB Tryz.prog = true:=by kernel_rfl
theorem cells_int : Tryz.prog.cellsOf 3 = 1:=by kernel_rfl
theorem wf_rng (n : Int) (h : (Lit.int .i64 n).wf = true) : -9223372036854775808 ≤ n ∧ n ≤ 9223372036854775807:=by
 have e1 : IntKind.i64.min = -9223372036854775808:=rfl
 have e2 : IntKind.i64.max = 9223372036854775807:=rfl
 simp [Lit.wf] at h
 omega
section
variable {H : Type} {enc : TypeId × Value → H} {W : World}
theorem open_lst {fuel : Nat} {cs : List Value} {x : DataW H × List MemPlace} (h : DataW.trod enc Tryz.prog W 0 (fun _ => true) true fuel 26 cs = some x) :
  ∃ (L : List Int) (ar : Option Addr) (cr : Nat),cs = [.slice ar L.length cr] ∧ (ar = none → cr = 0) ∧ Rg L ∧ Sl W (.slice ar L.length cr) L:=by
 rcases open_ints Tryz.underlying26 Tryz.underlying3 cells_int h with ⟨rfl,-⟩ | ⟨a,len,cap,zs,rfl,-,hl,hm,hz,-,hcell,hwf⟩
 ·exact ⟨[],none,0,rfl,fun _ => rfl,fun d hd => (by cases hd),none,0,rfl,Nat.le_refl _,by simp [maxLen],fun h => absurd rfl h⟩
 ·have hlen : (zs.take len).length = len:=by
   rw [List.length_take,hz]
   simp
   omega
  refine ⟨zs.take len,some a,cap,by rw [hlen],fun h => (by cases h),fun d hd => wf_rng d (hwf d (List.mem_of_mem_take hd)),some a,cap,by rw [hlen],by rw [hlen]; exact hl,hm,fun hne => ?_⟩
  have hpos : 0 < len:=by
   rcases Nat.eq_zero_or_pos len with h0 | h0
   ·subst h0; simp at hne
   ·exact h0
  have hzl : len ≤ zs.length:=by rw [hz]; simp; omega
  have h0:=hcell 0 (by omega)
  have hs:=World.cell?_spot h0
  have hb:=World.block_lt_of_cell? W _ h0
  obtain ⟨ab,ao,asp⟩:=a
  simp [Addr.add] at hs hb
  subst hs
  refine ⟨ab,ao,rfl,hb,fun i hi => ?_⟩
  rw [hlen] at hi
  have:=hcell i (by omega)
  rw [Addr.add_lit] at this
  rw [this,List.getD_eq_getElem?_getD,List.getD_eq_getElem?_getD,List.getElem?_take,if_pos hi]
theorem trodAll_stays {W' : World} {sp : Nat → Bool} : ∀ {ts : List TypeId} {vs : List Value} {ds : List (DataW H)} {p : List MemPlace},(∀ t ∈ ts,Tryz.prog.readableRec t = true ∧ t < Tryz.prog.types.size) → DataW.TrodAll enc Tryz.prog W 0 (fun _ => true) true ts vs ds p → (∀ x ∈ p,W.sameAt W' x) → (∀ x ∈ p,sp x.block = true) → DataW.TrodAll enc Tryz.prog W' 0 sp true ts vs ds p
 | [],_,_,_,_,h,_,_ => by
  obtain ⟨rfl,rfl,rfl⟩:=trodAll_nil h
  exact trodAll_mk0
 | t :: ts,_,_,_,hr,h,hs,hp => by
  obtain ⟨v,vs1,d,ds1,a,b,rfl,rfl,rfl,h1,h2⟩:=trodAll_cons h
  obtain ⟨r1,r2⟩:=hr t (by simp)
  exact trodAll_cons_mk (WideElems.Trod_stays laid_out r1 r2 h1 (fun x hx => hs x (by simp [hx])) (fun x hx => hp x (by simp [hx]))) (trodAll_stays (fun t' ht' => hr t' (by simp [ht'])) h2 (fun x hx => hs x (by simp [hx])) (fun x hx => hp x (by simp [hx])))
end
end Go.Proofs.YtelbefihigkhjaaGreatDoor

namespace Go.Proofs.YtelbefihigkhjaaGreatDoor
open Go.ChangeShapes Go.WideShapes Go.ChangeAt Go.RowKit
set_option maxHeartbeats 16000000
set_option maxRecDepth 100000
set_option linter.unusedVariables false
set_option linter.unusedSimpArgs false
theorem MkA.ret {q rows cols wd : Int} {N : Nat} {L : List Int} {w w' : World} {e : Ending} (h : MkA q rows cols wd N L w e w') : ∃ v,e = .returned v ∧ Kept w w':=by
 obtain ⟨k,⟨-,g,he,-,-⟩ | ⟨-,he⟩⟩:=h
 ·exact ⟨_,he,k⟩
 ·exact ⟨_,he,k⟩
theorem make_ret (kd rows cols wd va vb s t : Int) (ha : -9223372036854775808 ≤ va ∧ va ≤ 9223372036854775807) (hb : -9223372036854775808 ≤ vb ∧ vb ≤ 9223372036854775807) (w : World) (hT : Tab w) : Calls Tryz.prog 11 #[initV kd rows cols wd va vb,.int .i64 s,.int .i64 t] w fun e w' => ∃ v,e = .returned v ∧ Kept w w':=by
 obtain ⟨q,N,L,-,-,h⟩:=make_any kd rows cols wd va vb s t ha hb
 exact (h w hT).mono fun e w' h => h.ret
theorem startAgain_true (W : World) (hT : Tab W) (ki1 ro1 co1 wi1 va1 vb1 ki2 ro2 co2 wi2 va2 vb2 seed stream : Int) (p : Option Addr) (L : List Int) (cap : Nat) (w1 : (Lit.int .i64 va1).wf = true) (w2 : (Lit.int .i64 vb1).wf = true) (w3 : (Lit.int .i64 va2).wf = true) (w4 : (Lit.int .i64 vb2).wf = true) (hS : Sl W (.slice p L.length cap) L) : Calls Tryz.prog 6 #[initV ki1 ro1 co1 wi1 va1 vb1,initV ki2 ro2 co2 wi2 va2 vb2,.int .i64 seed,.int .i64 stream,.slice p L.length cap] W fun e w' => e = .returned (.bool true) ∧ Kept W w':=by
 have w1:=wf_rng _ w1
 have w2:=wf_rng _ w2
 have w3:=wf_rng _ w3
 have w4:=wf_rng _ w4
 obtain ⟨q,N,M,hM,hN,KM⟩:=make_any ki1 ro1 co1 wi1 va1 vb1 seed stream w1 w2
 have KA : ∀ u,Kept W u → Calls Tryz.prog 9 #[] u fun e w' => e = .returned (.bool true) ∧ Kept u w':=fun u k => alive16 u (hT.kept k)
 have KO:=fun u (i : Int) (k : Kept W u) => make_ret ki2 ro2 co2 wi2 va2 vb2 i stream w3 w4 u (hT.kept k)
 have KY:=fun u (i : Int) (k : Kept W u) => make_ret ki1 ro1 co1 wi1 va1 vb1 seed i w1 w2 u (hT.kept k)
 have K1:=fun u => light_any ki1 ro1 co1 wi1 va1 vb1 u
 have K2:=fun u => light_any ki2 ro2 co2 wi2 va2 vb2 u
 cases hq : (q == 0)
 ·refine again_walk ki1 ro1 co1 wi1 va1 vb1 ki2 ro2 co2 wi2 va2 vb2 seed stream p L cap _ _ q 0 0 0 0 (fun _ pp => pp = none) W hS (fun _ _ _ h _ => h) KA K1 K2 (fun u k => (KM u (hT.kept k)).mono ?_) KO KY (fun u v v' h h' => ?_)
  ·rintro e w' ⟨k',⟨h0,-⟩ | ⟨-,he⟩⟩
   ·rw [h0] at hq; exact absurd hq (by decide)
   ·exact ⟨none,he,rfl,k'⟩
  ·rw [h,h']
   exact same_nil u
 ·have hq : q = 0:=by simpa using hq
  refine again_walk ki1 ro1 co1 wi1 va1 vb1 ki2 ro2 co2 wi2 va2 vb2 seed stream p L cap _ _ q ro1 co1 wi1 N (fun u pp => ∃ g,pp = some ⟨g,0,none⟩ ∧ Own u g N M) W hS (fun u u' v h k => ?_) KA K1 K2 (fun u k => (KM u (hT.kept k)).mono ?_) KO KY (fun u v v' h h' => ?_)
  ·obtain ⟨g,rfl,ho⟩:=h
   exact ⟨g,rfl,ho.kept k⟩
  ·rintro e w' ⟨k',⟨-,g,he,-,ho⟩ | ⟨h0,-⟩⟩
   ·exact ⟨_,by rw [hq]; exact he,⟨g,rfl,ho⟩,k'⟩
   ·rw [hq] at h0; exact absurd h0 (by decide)
  ·obtain ⟨g,rfl,ho⟩:=h
   obtain ⟨g',rfl,ho'⟩:=h'
   exact same_walk ro1 co1 wi1 N (by omega) M hM g g' u ho ho'
end Go.Proofs.YtelbefihigkhjaaGreatDoor
