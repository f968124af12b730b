/- The laws of chapter 18: RateAlone. How a Schedule is read. -/
import Derived.Test.YtnniljhdcplkgaaGreatDoorWr51
namespace Go.Proofs.YtnniljhdcplkgaaGreatDoor
open Go.ChangeShapes Go.WideShapes Go.ChangeAt Go.RowKit
set_option maxHeartbeats 16000000
set_option maxRecDepth 100000
set_option linter.unusedVariables false
set_option linter.unusedSimpArgs false
theorem ralone_walk (kd1 ba1 fa1 wa1 ev1 tt1 kd2 ba2 fa2 wa2 ev2 tt2 : Int) (st : Int) (p : Option Addr) (L : List Int) (cap : Nat) (a q : Int) (w : World) (hS : Sl w (.slice p L.length cap) L)
  (KA : Hid (∀ u,Kept w u → Calls Tryz.prog 5 #[] u fun e w' => e = .returned (.bool true) ∧ Kept u w'))
  (KX : Hid (∀ u,Kept w u → Calls Tryz.prog 6 #[.agg #[.int .i64 kd1,.int .i64 ba1,.int .i64 fa1,.int .i64 wa1,.int .i64 ev1,.int .i64 tt1],.int .i64 st] u fun e w' => e = .returned (.tuple #[.int .i64 a,.int .i64 q]) ∧ Kept u w'))
  (KO : Hid (∀ u i,Kept w u → Calls Tryz.prog 6 #[.agg #[.int .i64 kd2,.int .i64 ba2,.int .i64 fa2,.int .i64 wa2,.int .i64 ev2,.int .i64 tt2],.int .i64 i] u fun e w' => ∃ v,e = .returned v ∧ Kept u w'))
  (KY : Hid (∀ u i,Kept w u → Calls Tryz.prog 6 #[.agg #[.int .i64 kd1,.int .i64 ba1,.int .i64 fa1,.int .i64 wa1,.int .i64 ev1,.int .i64 tt1],.int .i64 i] u fun e w' => ∃ v,e = .returned v ∧ Kept u w')) :
  Calls Tryz.prog 3 #[.agg #[.int .i64 kd1,.int .i64 ba1,.int .i64 fa1,.int .i64 wa1,.int .i64 ev1,.int .i64 tt1],.agg #[.int .i64 kd2,.int .i64 ba2,.int .i64 fa2,.int .i64 wa2,.int .i64 ev2,.int .i64 tt2],.int .i64 st,.slice p L.length cap] w fun e w' => e = .returned (.bool true) ∧ Kept w w':=by
 obtain ⟨X1,hX1⟩ : ∃ X,X = w.alloc (.cells #[.int .i64 kd1,.int .i64 ba1,.int .i64 fa1,.int .i64 wa1,.int .i64 ev1,.int .i64 tt1] 23):=⟨_,rfl⟩
 obtain ⟨X,hX⟩ : ∃ X,X = X1.alloc (.cells #[.int .i64 kd2,.int .i64 ba2,.int .i64 fa2,.int .i64 wa2,.int .i64 ev2,.int .i64 tt2] 23):=⟨_,rfl⟩
 have k11 : Kept w X1:=by rw [hX1]; exact (Kept.refl w).alloc _ _
 have k1X : Kept X1 X:=by rw [hX]; exact (Kept.refl X1).alloc _ _
 have hK : Kept w X:=k11.trans k1X
 have HP0 : Hid (∀ u,Kept X u → u.cell? ⟨w.heap.size,0,none⟩ = some (.int .i64 kd1) ∧ u.cell? ⟨w.heap.size,1,none⟩ = some (.int .i64 ba1) ∧ u.cell? ⟨w.heap.size,2,none⟩ = some (.int .i64 fa1) ∧ u.cell? ⟨w.heap.size,3,none⟩ = some (.int .i64 wa1) ∧ u.cell? ⟨w.heap.size,4,none⟩ = some (.int .i64 ev1) ∧ u.cell? ⟨w.heap.size,5,none⟩ = some (.int .i64 tt1)):=fun u k => sch_cells w kd1 ba1 fa1 wa1 ev1 tt1 _ X1 hX1 u (k1X.trans k)
 have HP1 : Hid (∀ u,Kept X u → u.cell? ⟨X1.heap.size,0,none⟩ = some (.int .i64 kd2) ∧ u.cell? ⟨X1.heap.size,1,none⟩ = some (.int .i64 ba2) ∧ u.cell? ⟨X1.heap.size,2,none⟩ = some (.int .i64 fa2) ∧ u.cell? ⟨X1.heap.size,3,none⟩ = some (.int .i64 wa2) ∧ u.cell? ⟨X1.heap.size,4,none⟩ = some (.int .i64 ev2) ∧ u.cell? ⟨X1.heap.size,5,none⟩ = some (.int .i64 tt2)):=fun u k => sch_cells X1 kd2 ba2 fa2 wa2 ev2 tt2 _ X hX u k
 obtain ⟨B0,hB0⟩ : ∃ B,B = w.heap.size:=⟨_,rfl⟩
 obtain ⟨B1,hB1⟩ : ∃ B,B = X1.heap.size:=⟨_,rfl⟩
 have hB01 : B1 = B0 + 1:=by rw [hB1,hB0,hX1]; simp
 rw [← hB0] at HP0
 rw [← hB1] at HP1
 rw [hX1] at hX
 have HL : Hid (Sl w (.slice p L.length cap) L):=hS
 clear hS hX1 hB1 k11 k1X
 go_enter Tryz.func3,Tryz.ntmps3
 go_upto_region 1 with fail
 rw [← hX,← hB0,← hB01]
 clear hX hB0 hB01
 go_wp2_with fail
 refine (KA.out _ hK).mono ?_
 rintro e w1 ⟨rfl,k1⟩
 by_cases hl : 20 < L.length
 ·have tl : decide ((20 : Int) < (L.length : Int)) = true:=decide_eq_true (by omega)
  go_wp2_with fail
  refine (KA.out _ (hK.trans k1)).mono ?_
  rintro e w9 ⟨rfl,k9⟩
  go_wp2_with fail
  go_ret
  exact ⟨rfl,(hK.trans k1).trans k9⟩
 have tl : decide ((20 : Int) < (L.length : Int)) = false:=decide_eq_false (by omega)
 obtain ⟨p0,p1,p2,p3,p4,p5⟩:=HP0.out _ k1
 go_wp2_with fail
 refine (KX.out _ (hK.trans k1)).mono ?_
 rintro e w4 ⟨rfl,k4⟩
 clear p0 p1 p2 p3 p4 p5 tl
 have kV : Kept X w4:=k1.trans k4
 clear k1 k4
 go_wp2_with fail
 go_loopw [11] (fun i wr => ∃ k : Nat,k ≤ L.length ∧ i = .int .i64 k ∧ Kept w4 wr) (fun i _ => L.length - (intOf i).toNat)
 case atStart => exact ⟨0,Nat.zero_le _,rfl,Kept.refl w4⟩
 case round =>
  obtain ⟨k,hkN,rfl,hk⟩:=hrel
  by_cases hlt : k < L.length
  ·obtain ⟨ao,cp,e9,h1,h2,h3⟩:=HL.out
   obtain ⟨b,off,hao,hb,hrd⟩:=h3 (by intro h; rw [h] at hlt; exact absurd hlt (by simp))
   obtain ⟨rfl,rfl⟩ : p = ao ∧ cap = cp:=by simpa using e9
   clear e9
   subst hao
   have HC : Hid (∀ u,Kept wr u → u.cell? ⟨b,off + k,none⟩ = some (.int .i64 (L.getD k 0))):=fun u q => (((hrd.kept hb (hK.trans kV)).kept (Nat.lt_of_lt_of_le hb (hK.trans kV).below.size) hk).kept (Nat.lt_of_lt_of_le hb ((hK.trans kV).trans hk).below.size) q) k hlt
   have kw : Hid (Kept w wr):=(hK.trans kV).trans hk
   have HS7 : Hid (∀ u,Kept wr u → Kept wr u ∧ u.cell? ⟨b,off + k,none⟩ = some (.int .i64 (L.getD k 0)) ∧ u.cell? ⟨B1,0,none⟩ = some (.int .i64 kd2) ∧ u.cell? ⟨B1,1,none⟩ = some (.int .i64 ba2) ∧ u.cell? ⟨B1,2,none⟩ = some (.int .i64 fa2) ∧ u.cell? ⟨B1,3,none⟩ = some (.int .i64 wa2) ∧ u.cell? ⟨B1,4,none⟩ = some (.int .i64 ev2) ∧ u.cell? ⟨B1,5,none⟩ = some (.int .i64 tt2)):=fun u q => ⟨q,HC.out u q,HP1.out _ ((kV.trans hk).trans q)⟩
   have HS8 : Hid (∀ u,Kept wr u → Kept wr u ∧ u.cell? ⟨b,off + k,none⟩ = some (.int .i64 (L.getD k 0)) ∧ u.cell? ⟨B0,0,none⟩ = some (.int .i64 kd1) ∧ u.cell? ⟨B0,1,none⟩ = some (.int .i64 ba1) ∧ u.cell? ⟨B0,2,none⟩ = some (.int .i64 fa1) ∧ u.cell? ⟨B0,3,none⟩ = some (.int .i64 wa1) ∧ u.cell? ⟨B0,4,none⟩ = some (.int .i64 ev1) ∧ u.cell? ⟨B0,5,none⟩ = some (.int .i64 tt1)):=fun u q => ⟨q,HC.out u q,HP0.out _ ((kV.trans hk).trans q)⟩
   clear hrd h1 h2 h3 hb
   go_upto_region 7 with fail
   refine wp_region_late [] (fun u => Kept wr u ∧ u.cell? ⟨b,off + k,none⟩ = some (.int .i64 (L.getD k 0)) ∧ u.cell? ⟨B1,0,none⟩ = some (.int .i64 kd2) ∧ u.cell? ⟨B1,1,none⟩ = some (.int .i64 ba2) ∧ u.cell? ⟨B1,2,none⟩ = some (.int .i64 fa2) ∧ u.cell? ⟨B1,3,none⟩ = some (.int .i64 wa2) ∧ u.cell? ⟨B1,4,none⟩ = some (.int .i64 ev2) ∧ u.cell? ⟨B1,5,none⟩ = some (.int .i64 tt2)) (by kernel_rfl) (HS7.out _ (Kept.refl wr).drew) (fun hHeld => ?_)
   refine tkD (i:=0) (v:=?_) rfl hHeld ?_
   (try simp only [Act.put,zA,zB,zC,zD,zE,zF])
   refine tkD (i:=1) (v:=?_) rfl hHeld ?_
   (try simp only [Act.put,zA,zB,zC,zD,zE,zF])
   refine tkD (i:=2) (v:=?_) rfl hHeld ?_
   (try simp only [Act.put,zA,zB,zC,zD,zE,zF])
   refine tkD (i:=3) (v:=?_) rfl hHeld ?_
   (try simp only [Act.put,zA,zB,zC,zD,zE,zF])
   refine tkD (i:=4) (v:=?_) rfl hHeld ?_
   (try simp only [Act.put,zA,zB,zC,zD,zE,zF])
   refine wpAnyD_step (i:=5) (by kernel_rfl) rfl (fun K hK9 => ?_)
   go_simp
   go_wp2_with fail
   refine (KO.out _ _ (kw.out.trans hHeld.1)).mono ?_
   rintro e u7 ⟨vo,rfl,k7⟩
   refine hK9.out _ _ (HS7.out _ (hHeld.1.trans k7)) (fun hH7 => ?_)
   clear hK9 K
   (try simp only [Act.put,zA,zB,zC,zD,zE,zF])
   refine wpAnyD_done (by kernel_rfl) ?_ _
   (try simp only [Act.put,zA,zB,zC,zD,zE,zF])
   have q7:=hH7.1
   clear hH7 hHeld k7
   go_upto_region 8 with fail
   refine wp_region_late [] (fun u => Kept wr u ∧ u.cell? ⟨b,off + k,none⟩ = some (.int .i64 (L.getD k 0)) ∧ u.cell? ⟨B0,0,none⟩ = some (.int .i64 kd1) ∧ u.cell? ⟨B0,1,none⟩ = some (.int .i64 ba1) ∧ u.cell? ⟨B0,2,none⟩ = some (.int .i64 fa1) ∧ u.cell? ⟨B0,3,none⟩ = some (.int .i64 wa1) ∧ u.cell? ⟨B0,4,none⟩ = some (.int .i64 ev1) ∧ u.cell? ⟨B0,5,none⟩ = some (.int .i64 tt1)) (by kernel_rfl) (HS8.out _ (q7.trans (Kept.refl u7).drew)) (fun hHeld => ?_)
   refine tkD (i:=0) (v:=?_) rfl hHeld ?_
   (try simp only [Act.put,zA,zB,zC,zD,zE,zF])
   refine tkD (i:=1) (v:=?_) rfl hHeld ?_
   (try simp only [Act.put,zA,zB,zC,zD,zE,zF])
   refine tkD (i:=2) (v:=?_) rfl hHeld ?_
   (try simp only [Act.put,zA,zB,zC,zD,zE,zF])
   refine tkD (i:=3) (v:=?_) rfl hHeld ?_
   (try simp only [Act.put,zA,zB,zC,zD,zE,zF])
   refine tkD (i:=4) (v:=?_) rfl hHeld ?_
   (try simp only [Act.put,zA,zB,zC,zD,zE,zF])
   refine wpAnyD_step (i:=5) (by kernel_rfl) rfl (fun K hK9 => ?_)
   go_simp
   go_wp2_with fail
   refine (KY.out _ _ (kw.out.trans hHeld.1)).mono ?_
   rintro e u8 ⟨vy,rfl,k8⟩
   refine hK9.out _ _ (HS8.out _ (hHeld.1.trans k8)) (fun hH8 => ?_)
   clear hK9 K
   (try simp only [Act.put,zA,zB,zC,zD,zE,zF])
   refine wpAnyD_done (by kernel_rfl) ?_ _
   (try simp only [Act.put,zA,zB,zC,zD,zE,zF])
   have q8:=hH8.1
   clear hH8 hHeld k8
   go_wp2_with fail
   go_roundw
   case rel => exact ⟨k + 1,by omega,by go_num,hk.trans q8⟩
   case measure => simp [intOf]; omega
  ·obtain rfl : k = L.length:=by omega
   obtain ⟨p0,p1,p2,p3,p4,p5⟩:=HP0.out _ (kV.trans hk)
   go_wp2_with fail
   refine (KX.out _ ((hK.trans kV).trans hk)).mono ?_
   rintro e w6 ⟨rfl,k6⟩
   clear p0 p1 p2 p3 p4 p5
   go_wp2_with fail
   go_ret
   exact ⟨rfl,((hK.trans kV).trans hk).trans k6⟩
theorem rateAlone_true (W : World) (hT : Tab W) (kd1 ba1 fa1 wa1 ev1 tt1 kd2 ba2 fa2 wa2 ev2 tt2 : Int) (st : Int) (p : Option Addr) (L : List Int) (cap : Nat) (h1 : (Lit.int .i64 ba1).wf = true) (h2 : (Lit.int .i64 fa1).wf = true) (h3 : (Lit.int .i64 ba2).wf = true) (h4 : (Lit.int .i64 fa2).wf = true) (hS : Sl W (.slice p L.length cap) L) : Calls Tryz.prog 3 #[.agg #[.int .i64 kd1,.int .i64 ba1,.int .i64 fa1,.int .i64 wa1,.int .i64 ev1,.int .i64 tt1],.agg #[.int .i64 kd2,.int .i64 ba2,.int .i64 fa2,.int .i64 wa2,.int .i64 ev2,.int .i64 tt2],.int .i64 st,.slice p L.length cap] W fun e w' => e = .returned (.bool true) ∧ Kept W w':=by
 have w1:=wf_rng _ h1
 have w2:=wf_rng _ h2
 have w3:=wf_rng _ h3
 have w4:=wf_rng _ h4
 obtain ⟨V,⟨a,q,rfl⟩,KV⟩:=At_det kd1 ba1 fa1 wa1 ev1 tt1 w1.1 w1.2 w2.1 w2.2 st
 refine ralone_walk kd1 ba1 fa1 wa1 ev1 tt1 kd2 ba2 fa2 wa2 ev2 tt2 st p L cap a q W hS (fun u k => alive18 u (hT.kept k)) (fun u k => KV u (hT.kept k)) (fun u i k => ?_) (fun u i k => ?_)
 ·obtain ⟨V,-,K⟩:=At_det kd2 ba2 fa2 wa2 ev2 tt2 w3.1 w3.2 w4.1 w4.2 i
  exact (K u (hT.kept k)).mono fun e w' h => ⟨_,h⟩
 ·obtain ⟨V,-,K⟩:=At_det kd1 ba1 fa1 wa1 ev1 tt1 w1.1 w1.2 w2.1 w2.2 i
  exact (K u (hT.kept k)).mono fun e w' h => ⟨_,h⟩
end Go.Proofs.YtnniljhdcplkgaaGreatDoor

namespace Go.Proofs.YtnniljhdcplkgaaGreatDoor
open Go.ChangeShapes Go.WideShapes Go.ChangeAt Go.RowKit Go.Joins
set_option maxHeartbeats 16000000
set_option maxRecDepth 100000
set_option linter.unusedVariables false
set_option linter.unusedSimpArgs false
theorem cells_sched : Tryz.prog.cellsOf 23 = 6:=by kernel_rfl
section
variable {H : Type} {enc : TypeId × Value → H} {W : World}
theorem array6k {cs : Array Value} (h : cs.size = 6) : ∃ c0 c1 c2 c3 c4 c5,cs = #[c0,c1,c2,c3,c4,c5]:=by
 obtain ⟨l⟩:=cs
 match l,h with
 | [c0,c1,c2,c3,c4,c5],_ => exact ⟨c0,c1,c2,c3,c4,c5,rfl⟩
theorem open_sched {b0 : Nat} {v : Value} {d : DataW H} {p : List MemPlace} (hv : Value.okWide Tryz.prog W .any b0 23 v) (h : DataW.Trod enc Tryz.prog W 0 (fun _ => true) true 23 v d p) :
  ∃ (k r c n a b : Int),v = .agg #[.int .i64 k,.int .i64 r,.int .i64 c,.int .i64 n,.int .i64 a,.int .i64 b] ∧ (Lit.int .i64 r).wf = true ∧ (Lit.int .i64 c).wf = true:=by
 obtain ⟨cs,rfl,hsz⟩:=okWide_struct Tryz.underlying23 hv
 obtain ⟨c0,c1,c2,c3,c4,c5,rfl⟩:=array6k (hsz.trans cells_sched)
 obtain ⟨fuel,hf⟩:=h
 obtain ⟨xs,n,-,-,-,hlen,hg⟩:=DataW.trod_struct Tryz.underlying23 hf
 match xs,hlen with
 | [y0,y1,y2,y3,y4,y5],_ =>
  have h0 := hg 0 { name := "Kind", type := 3, offset := 0, embedded := false, tag := "", pkgPath := "", byteOffset := 0 } rfl
  have h1 := hg 1 { name := "Base", type := 3, offset := 1, embedded := false, tag := "", pkgPath := "", byteOffset := 8 } rfl
  have h2 := hg 2 { name := "Factor", type := 3, offset := 2, embedded := false, tag := "", pkgPath := "", byteOffset := 16 } rfl
  have h3 := hg 3 { name := "Warm", type := 3, offset := 3, embedded := false, tag := "", pkgPath := "", byteOffset := 24 } rfl
  have h4 := hg 4 { name := "Every", type := 3, offset := 4, embedded := false, tag := "", pkgPath := "", byteOffset := 32 } rfl
  have h5 := hg 5 { name := "Total", type := 3, offset := 5, embedded := false, tag := "", pkgPath := "", byteOffset := 40 } rfl
  simp only [Value.cells,cells_int,List.drop_zero,List.drop_succ_cons,List.take_succ_cons,List.take_zero,List.getElem?_cons_zero,List.getElem?_cons_succ] at h0 h1 h2 h3 h4 h5
  obtain ⟨x0,e0,-,w0⟩:=DataW.trod_int Tryz.underlying3 h0
  obtain ⟨x1,e1,-,w1⟩:=DataW.trod_int Tryz.underlying3 h1
  obtain ⟨x2,e2,-,w2⟩:=DataW.trod_int Tryz.underlying3 h2
  obtain ⟨x3,e3,-,w3⟩:=DataW.trod_int Tryz.underlying3 h3
  obtain ⟨x4,e4,-,w4⟩:=DataW.trod_int Tryz.underlying3 h4
  obtain ⟨x5,e5,-,w5⟩:=DataW.trod_int Tryz.underlying3 h5
  simp only [Value.cells,cells_int,List.drop_zero,List.drop_succ_cons,List.take_succ_cons,List.take_zero,List.cons.injEq,and_true] at e0 e1 e2 e3 e4 e5
  subst e0 e1 e2 e3 e4 e5
  exact ⟨x0,x1,x2,x3,x4,x5,rfl,w1,w2⟩
end
end Go.Proofs.YtnniljhdcplkgaaGreatDoor
