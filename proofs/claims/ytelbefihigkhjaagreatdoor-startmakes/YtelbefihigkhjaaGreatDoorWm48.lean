/-  -/
import Derived.Test.YtelbefihigkhjaaGreatDoorWm43
import Derived.Test.YtelbefihigkhjaaGreatDoorWm44
import Derived.Test.YtelbefihigkhjaaGreatDoorWm45
import Derived.Test.YtelbefihigkhjaaGreatDoorWm37
namespace Go.Proofs.YtelbefihigkhjaaGreatDoor
open Go.ChangeShapes Go.WideShapes Go.ChangeAt Go.RowKit
set_option maxHeartbeats 16000000
set_option maxRecDepth 100000
set_option linter.unusedVariables false
set_option linter.unusedSimpArgs false
theorem qf2 (kd wd va vb seed stream:Int)(R C N:Nat)(hN:N≤4096)(hk:kd=2)(y6 yn:Nm)(nn L6:Int)(hn:nn=(R:Int))(bt:Nat→Int)(af:Nat→Int)(haf:af 0=0)(hwd:wd=64∨wd=32)(haf1:∀i:Nat,af (i+1)=af (i+1))(q1 q:Int)(w:World)
  (ru:Nat→Int) (D:Int) (Tm Sm:Nat→Int)
  (HBT:Hid (∀i r,Vz (-2148) (Sm i) r→rzN wd 0 r=bt i))
  (KU:Hid (∀u i,Calls Tryz.prog 36 #[.agg #[.int .i64 seed,.int .i64 stream,.int .i64 (af i)],.int .i64 64] u fun e w'=>e=.returned (.tuple #[.int .i64 (ru i),.agg #[.int .i64 seed,.int .i64 stream,.int .i64 (af (i+1))]])∧Kept u w'))
  (KNa:Hid (∀u,Calls Tryz.prog 35 #[.int .i64 va] u fun e w'=>∃v,e=.returned v∧VN (qj u.heap.size) w' v (-1074) (zf va 64)∧Kept u w'))
  (KNb:Hid (∀u,Calls Tryz.prog 35 #[.int .i64 vb] u fun e w'=>∃v,e=.returned v∧VN (qj u.heap.size) w' v (-1074) (zf vb 64)∧Kept u w'))
  (KNu:Hid (∀u i,Calls Tryz.prog 35 #[.int .i64 (ru i)] u fun e w'=>∃v,e=.returned v∧VN (qj u.heap.size) w' v (-1074) (zf (ru i) 64)∧Kept u w'))
  (KM:Hid (∀u B v2 v1,B<u.heap.size→VN (fun b=>b≠B) u v2 (-1074) (zf vb 64)→VN (fun b=>b≠B) u v1 (-1074) (zf va 64)→Calls Tryz.prog 39 #[v2,v1] u fun e w'=>∃v,e=.returned v∧VN (fun b=>b≠B) w' v (-1074) D∧Kept u w'))
  (KT:Hid (∀u i B v2 v1,B<u.heap.size→VN (fun b=>b≠B) u v2 (-1074) D→VN (fun b=>b≠B) u v1 (-1074) (zf (ru i) 64)→Calls Tryz.prog 38 #[v2,v1] u fun e w'=>∃v,e=.returned v∧VN (fun b=>b≠B) w' v (-2148) (Tm i)∧Kept u w'))
  (KP:Hid (∀u i B v2 v1,B<u.heap.size→VN (fun b=>b≠B) u v2 (-1074) (zf va 64)→VN (fun b=>b≠B) u v1 (-2148) (Tm i)→Calls Tryz.prog 37 #[v2,v1] u fun e w'=>∃v,e=.returned v∧VN (fun b=>b≠B) w' v (-2148) (Sm i)∧Kept u w'))
  (KS:Hid (∀u g,Own u g N (stl N bt N)→Calls Tryz.prog 41 #[.agg #[.int .i64 (R:Int),.int .i64 (C:Int),.int .i64 wd,.slice (some ⟨g,0,none⟩) N N]] u fun e w'=>e=.returned (.tuple #[.int .i64 q1,.int .i64 q])∧Kept u w'))
  (KR:Hid (∀u,Kept w u→Calls Tryz.prog 30 #[.agg #[.int .i64 kd,.int .i64 (R:Int),.int .i64 (C:Int),.int .i64 wd,.int .i64 va,.int .i64 vb]] u fun e w'=>e=.returned (.int .i64 0)∧Kept u w'))
  (KZ:Hid (∀u,Calls Tryz.prog 31 #[.agg #[.int .i64 (R:Int),.int .i64 (C:Int),.int .i64 wd]] u fun e w'=>∃g,e=.returned (.agg #[.int .i64 (R:Int),.int .i64 (C:Int),.int .i64 wd,.slice (some ⟨g,0,none⟩) N N])∧u.heap.size≤g∧Own w' g N (List.replicate N 0)∧Kept u w'))
  (KW6:Hid (∀u,Kept w u→Calls Tryz.prog 34 #[.int .i64 6] u fun e w'=>∃v,e=.returned v∧RT w' v y6∧Kept u w'))
  (KWn:Hid (∀u,Kept w u→Calls Tryz.prog 34 #[.int .i64 nn] u fun e w'=>∃v,e=.returned v∧RT w' v yn∧Kept u w'))
  (KQ:Hid (∀u v1 v2,Kept w u→RT u v1 y6→RT u v2 yn→Calls Tryz.prog 33 #[v1,v2,.int .i64 wd] u fun e w'=>e=.returned (.int .i64 L6)∧Kept u w'))
  (KX:Hid (∀u,Kept w u→Calls Tryz.prog 32 #[.int .i64 L6,.int .i64 wd] u fun e w'=>∃v,e=.returned v∧VN (qj u.heap.size) w' v (-1074) (zf L6 wd)∧Kept u w')):
  Calls Tryz.prog 12 #[.agg #[.int .i64 kd,.int .i64 (R:Int),.int .i64 (C:Int),.int .i64 wd,.int .i64 va,.int .i64 vb],.int .i64 seed,.int .i64 stream] w fun e w'=>MkA q (R:Int) (C:Int) wd N (stl N bt N) w e w':=by
 obtain⟨W0,hW0⟩:∃W0,W0=(w.alloc (.cells #[.int .i64 kd,.int .i64 (R:Int),.int .i64 (C:Int),.int .i64 wd,.int .i64 va,.int .i64 vb] 23)).alloc (.cells #[.int .i64 0,.int .i64 0,.int .i64 0,.slice none 0 0] 28):=⟨_,rfl⟩
 have hK:Kept w W0:=by rw[hW0];exact((qlv w).alloc _ _).alloc _ _
 obtain⟨B3,hB3⟩:∃B,B=w.heap.size:=⟨_,rfl⟩
 obtain⟨B6,hB6⟩:∃B,B=B3+1:=⟨_,rfl⟩
 have hP:Q6 W0 B3 (.int .i64 kd) (.int .i64 (R:Int)) (.int .i64 (C:Int)) (.int .i64 wd) (.int .i64 va) (.int .i64 vb):=by rw[hW0,hB3];exact(Q6.new w _ _ _ _ _ _ _).alloc _ _
 have hb6:Bk W0 B6 [.int .i64 0,.int .i64 0,.int .i64 0,.slice none 0 0]:=by
  rw[hW0,hB6,hB3]
  have:=Bk.new (w.alloc (.cells #[.int .i64 kd,.int .i64 (R:Int),.int .i64 (C:Int),.int .i64 wd,.int .i64 va,.int .i64 vb] 23)) [.int .i64 0,.int .i64 0,.int .i64 0,.slice none 0 0] 28
  simpa using this
 have HP:=(show Hid (∀u,Kept W0 u→Q6 u B3 (.int .i64 kd) (.int .i64 (R:Int)) (.int .i64 (C:Int)) (.int .i64 wd) (.int .i64 va) (.int .i64 vb))from fun u k=>hP.kept k)
 have HB6:=(show Hid (∀u,Kept W0 u→Bk u B6 [.int .i64 0,.int .i64 0,.int .i64 0,.slice none 0 0])from fun u k=>hb6.kept k)
 have HKW:=(show Hid (Kept w W0)from hK)
 have h6w:w.heap.size≤B6:=by omega
 have H6W:=(show Hid (w.heap.size≤B6)from h6w)
 clear h6w
 clear hP hb6 hK
 subst hk
 subst hn
 go_enter Tryz.func12,Tryz.ntmps12
 go_upto_region 1 with fail
 rw[←hW0,←hB3,←hB6]
 clear hW0 hB3 hB6
 obtain⟨p0,p1,p2,p3,p4,p5⟩:=HP.out _ (qlv W0)
 go_wp2_with fail
 refine(KR.out _ HKW.out).mono ?_
 rintro e w1 ⟨rfl,k1⟩
 clear p0 p1 p2 p3 p4 p5
 obtain⟨p0,p1,p2,p3,p4,p5⟩:=HP.out _ k1
 go_wp2_with fail
 refine(KZ.out _).mono ?_
 rintro e w2 ⟨g,rfl,hg,ho,k2⟩
 clear p0 p1 p2 p3 p4 p5
 have k12:=k1.trans k2
 obtain⟨U1,hU1⟩:∃U,U=w2.alloc (.cells #[.int .i64 (R:Int),.int .i64 (C:Int),.int .i64 wd,.slice (some ⟨g,0,none⟩) N N] 28):=⟨_,rfl⟩
 obtain⟨B9,hB9⟩:∃B,B=w2.heap.size:=⟨_,rfl⟩
 have kU1:Kept w2 U1:=by rw[hU1];exact(qlv w2).alloc _ _
 have b9:Bk U1 B9 [.int .i64 (R:Int),.int .i64 (C:Int),.int .i64 wd,.slice (some ⟨g,0,none⟩) N N]:=by rw[hU1,hB9];exact Bk.new w2 _ _
 go_upto_region 5 with fail
 rw[←hU1,←hB9]
 have hs1:W0.heap.size≤g:=qlp k1.below.size hg
 have hs2:g<B9:=by rw[hB9];exact ho.lt
 clear hU1 hB9
 obtain⟨U2,hU2⟩:∃U,U=U1.alloc (.cells #[.int .i64 seed,.int .i64 stream,.int .i64 0] 72):=⟨_,rfl⟩
 obtain⟨B10,hB10⟩:∃B,B=U1.heap.size:=⟨_,rfl⟩
 have kU2:Kept U1 U2:=by rw[hU2];exact(qlv U1).alloc _ _
 have b10:Bk U2 B10 [.int .i64 seed,.int .i64 stream,.int .i64 0]:=by rw[hU2,hB10];exact Bk.new U1 _ _
 have hs3:B9<B10:=by rw[hB10];exact b9.lt
 have HO:=(show Hid (Own U2 g N (List.replicate N 0)∧Bk U2 B9 [.int .i64 (R:Int),.int .i64 (C:Int),.int .i64 wd,.slice (some ⟨g,0,none⟩) N N]∧Bk U2 B10 [.int .i64 seed,.int .i64 stream,.int .i64 0]∧W0.heap.size≤g∧g<B9∧B9<B10)from⟨ho.kept (kU1.trans kU2),b9.kept kU2,b10,hs1,hs2,hs3⟩)
 have kW2:Kept W0 U2:=k12.trans (kU1.trans kU2)
 have HK2:=(show Hid (Kept W0 U2)from kW2)
 have hKU:Hid (∀u,Kept U2 u→Kept w u):=fun u k=>HKW.out.trans (kW2.trans k)
 have HS:Hid (∀u,Kept U2 u→u.cell? ⟨B3,3,none⟩=some (.int .i64 wd)):=fun u k=>(HP.out u (kW2.trans k)).c3
 clear ho b9 b10 hs1 hs2 hs3 k1 k2 k12 kU1 kU2 kW2 hg
 go_upto_region 6 with fail
 rw[←hU2,←hB10]
 clear hU2 hB10
 obtain⟨p0,p1,p2,p3,p4,p5⟩:=HP.out _ HK2.out
 go_upto_region 9 with fail
 clear p0 p1 p2 p3 p4 p5
 refine qi [10] (fun u=>u.cell? ⟨B3,3,none⟩=some (.int .i64 wd)) (by kernel_rfl) (HS.out _ (qlv U2).drew) (fun hHeld=>?_)
 refine tkD (i:=1) (v:=?_) rfl hHeld ?_
 try simp only[zz]
 refine tkD (i:=3) (v:=?_) rfl hHeld ?_
 try simp only[zz]
 refine tkD (i:=4) (v:=?_) rfl hHeld ?_
 try simp only[zz]
 refine tkD (i:=6) (v:=?_) rfl hHeld ?_
 try simp only[zz]
 refine tkD (i:=7) (v:=?_) rfl hHeld ?_
 try simp only[zz]
 refine yk (i1:=9) (d1:=12) (I:=JB U2 [.bool false,.slice none 0 0,.int .i64 0] (fun _=>True)) (JB.start (qlv U2).drew trivial) ?_
 refine qD (c:=0) (I':=fun v x u=>JB U2 [.bool false,.slice none 0 0,.int .i64 0] (fun u=>RT u v y6) x u) rfl (by kernel_rfl) rfl rfl (qP qB (fun _ _ _ h=>h) (fun u k=>HS.out u k) rfl ⟨rfl,rfl,rfl⟩) (fun v x w h=>HS.out w h.k) (fun xF uF hJ K hK9=>?_) (fun v2=>?_)
 ·rcases xF with _|xF
  all_goals (
   (try simp only[fpt,zz])
   go_simp
   go_wp2_with fail
   refine(KW6.out _ (hKU.out _ hJ.k)).mono ?_
   rintro e u1 ⟨v,rfl,hv,k1⟩
   exact hK9.out _ _ _ (by first|rfl|(simp only[fpt,zz])) (hJ.next k1 hv)
  )
 try simp only[zz]
 refine qD (c:=2) (I':=fun v x u=>JB U2 [.bool false,.slice none 0 0,.int .i64 0] (fun u=>RT u v2 y6∧RT u v yn) x u) rfl (by kernel_rfl) rfl rfl (qP qB (fun _ _ k h=>h.kept k) (fun u k=>HS.out u k) rfl ⟨rfl,rfl,rfl⟩) (fun v x w h=>HS.out w h.k) (fun xF uF hJ K hK9=>?_) (fun v3=>?_)
 ·rcases xF with _|xF
  all_goals (
   (try simp only[fpt,zz])
   go_simp
   go_wp2_with fail
   refine(KWn.out _ (hKU.out _ hJ.k)).mono ?_
   rintro e u1 ⟨v,rfl,hv,k1⟩
   exact hK9.out _ _ _ (by first|rfl|(simp only[fpt,zz])) (hJ.next k1 ⟨hJ.v.kept k1,hv⟩)
  )
 try simp only[zz]
 refine qD (c:=5) (I':=fun v x u=>JB U2 [.bool false,.slice none 0 0,.int .i64 0] (fun u=>v=.int .i64 L6) x u) rfl (by kernel_rfl) rfl rfl (qP qB (fun _ _ k h=>⟨h.1.kept k,h.2.kept k⟩) (fun u k=>HS.out u k) rfl ⟨rfl,rfl,rfl⟩) (fun v x w h=>HS.out w h.k) (fun xF uF hJ K hK9=>?_) (fun v4=>?_)
 ·rcases xF with _|xF
  all_goals (
   (try simp only[fpt,zz])
   go_simp
   go_wp2_with fail
   refine(KQ.out _ v2 v3 (hKU.out _ hJ.k) hJ.v.1 hJ.v.2).mono ?_
   rintro e u1 ⟨rfl,k1⟩
   exact hK9.out _ _ _ (by first|rfl|(simp only[fpt,zz])) (hJ.next k1 rfl)
  )
 try simp only[zz]
 refine fun xG wG hG=>?_
 have hv4:=hG.v
 subst hv4
 replace hG:JB U2 [.bool false,.slice none 0 0,.int .i64 0] (fun _=>True) xG wG:=⟨hG.k,trivial,hG.n⟩
 revert xG wG
 show F1 _ _ _ _ _ _ _ _ _ _ _ (JB U2 [.bool false,.slice none 0 0,.int .i64 0] (fun _=>True))
 refine qD (c:=8) (I':=fun v x u=>J2x U2 [.bool false,.slice none 0 0,.int .i64 0] (fun x u=>VN (fun b=>(U2.heap.size≤b∧b<u.heap.size)∧nbx x b) u v (-1074) (zf L6 wd)) x u) rfl (by kernel_rfl) rfl rfl (qP qB (fun _ _ _ h=>h) (fun u k=>HS.out u k) rfl ⟨rfl,rfl,rfl⟩) (fun v x w h=>HS.out w h.k) (fun xF uF hJ K hK9=>?_) (fun v5=>?_)
 ·rcases xF with _|xF
  all_goals (
   (try simp only[fpt,zz])
   go_simp
   go_wp2_with fail
   refine(KX.out _ (hKU.out _ hJ.k)).mono ?_
   rintro e u1 ⟨v,rfl,hv,k1⟩
   exact hK9.out _ _ _ (by first|rfl|(simp only[fpt,zz])) (⟨hJ.k.trans k1,hv.here.imp (fun b hb=>⟨⟨qlp hJ.k.below.size hb.1,hb.2⟩,fun p hp=>by first|(obtain⟨b2,e2,-,hb2⟩:=hJ.n _ hp;cases e2;have h7:=hb2.lt;have h8:_≤b:=hb.1;omega)|cases hp⟩),hJ.n.kept k1⟩)
  )
 try simp only[zz]
 refine xk (.inr (by kernel_rfl)) (x8 qB (fun w0 h=>(h.kept ((qlv w0).alloc _ _)).imp (fun b hb=>⟨⟨hb.1.1,by have:=hb.1.2;simp;omega⟩,fun p hp=>by cases hp;have:=hb.1.2;omega⟩)) (fun u k=>HS.out u k) rfl ⟨rfl,rfl,rfl⟩) (fun xF uF hJ=>?_)
 obtain⟨B12,rfl,ob,bb⟩:=hJ.n _ rfl
 have kU:=hJ.k
 have hVL:=hJ.v.imp (Q:=fun b=>U2.heap.size≤b∧b≠B12) (fun b hb=>⟨hb.1.1,hb.2 _ rfl⟩)
 clear hJ
 obtain⟨ln,la,ll,lc,lx,rfl⟩:=hVL.shape
 try simp only[zz]
 have e0:=bb.c 0 _ rfl
 have e1:=bb.c 1 _ rfl
 have e2:=bb.c 2 _ rfl
 have ef:=bb.fz
 obtain⟨Y,hY⟩:∃Y,Y=((uF.setCell ⟨B12,0,none⟩ (.bool ln)).setCell ⟨B12,1,none⟩ (.slice la ll lc)).setCell ⟨B12,2,none⟩ (.int .i64 lx):=⟨_,rfl⟩
 have kY:Kept U2 Y:=by rw[hY];exact(((kU.setCell ob _).setCell ob _).setCell ob _)
 have bY:Bk Y B12 [.bool ln,.slice la ll lc,.int .i64 lx]:=by rw[hY];exact(((bb.set 0 _).set 1 _).set 2 _)
 have vY:VN (fun b=>U2.heap.size≤b∧b≠B12) Y (.agg #[.bool ln,.slice la ll lc,.int .i64 lx]) (-1074) (zf L6 wd):=by
  rw[hY]
  exact((hVL.set ⟨B12,0,none⟩ (fun b hb=>hb.2) _).set ⟨B12,1,none⟩ (fun b hb=>hb.2) _).set ⟨B12,2,none⟩ (fun b hb=>hb.2) _
 refine qo (i:=10) (by kernel_rfl) rfl rfl (fun K hK9=>?_)
 go_simp
 refine hK9.out _ _ ?_
 clear hK9 K
 try simp only[zz]
 refine qk (by kernel_rfl) ?_ _
 try simp only[zz]
 rw[←hY]
 have HL:=(show Hid (Bk Y B12 [.bool ln,.slice la ll lc,.int .i64 lx]∧VN (fun b=>U2.heap.size≤b∧b≠B12) Y (.agg #[.bool ln,.slice la ll lc,.int .i64 lx]) (-1074) (zf L6 wd)∧U2.heap.size≤B12)from⟨bY,vY,ob⟩)
 have HKY:=(show Hid (Kept W0 Y)from HK2.out.trans kY)
 have HOY:=(show Hid (Own Y g N (List.replicate N 0)∧Bk Y B9 [.int .i64 (R:Int),.int .i64 (C:Int),.int .i64 wd,.slice (some ⟨g,0,none⟩) N N]∧Bk Y B10 [.int .i64 seed,.int .i64 stream,.int .i64 0]∧W0.heap.size≤g∧g<B9∧B9<B10∧B10<U2.heap.size)from⟨HO.out.1.kept kY,HO.out.2.1.kept kY,HO.out.2.2.1.kept kY,HO.out.2.2.2.1,HO.out.2.2.2.2.1,HO.out.2.2.2.2.2,HO.out.2.2.1.lt⟩)
 clear hY kY bY vY hVL e0 e1 e2 ef bb kU ob HS hKU KQ KX KW6 KWn KZ KR HO hHeld
 go_upto_region 10 with fail
 have HQ:=(show Hid (∀u,Gs [g,B10] Y u→Q6 u B3 (.int .i64 2) (.int .i64 (R:Int)) (.int .i64 (C:Int)) (.int .i64 wd) (.int .i64 va) (.int .i64 vb)∧Bk u B9 [.int .i64 (R:Int),.int .i64 (C:Int),.int .i64 wd,.slice (some ⟨g,0,none⟩) N N])from fun u k=>by
  have q:=HP.out _ HKY.out
  have o:=HOY.out
  have l3:B3<W0.heap.size:=World.block_lt_of_cell? _ _ (HP.out _ (qlv W0)).c0
  have n3:B3∉[g,B10]:=by simp;omega
  have l3y:=qlf l3 HKY.out.below.size
  exact⟨⟨(k.cell B3 0 l3y n3).trans q.c0,(k.cell B3 1 l3y n3).trans q.c1,(k.cell B3 2 l3y n3).trans q.c2,(k.cell B3 3 l3y n3).trans q.c3,(k.cell B3 4 l3y n3).trans q.c4,(k.cell B3 5 l3y n3).trans q.c5⟩,o.2.1.gs k (by simp;omega)⟩)
 go_wp2_with fail
 go_loopw [13] (fun iv wr=>∃i:Nat,i≤N∧iv=.int .i64 (i:Int)∧Own wr g N (stl N bt i)∧Gs [g,B10] Y wr∧Bk wr B10 [.int .i64 seed,.int .i64 stream,.int .i64 (af i)]) (fun iv _=>N-(intOf iv).toNat)
 case atStart=>exact⟨0,Nat.zero_le _,rfl,by rw[jA];exact HOY.out.1,Gs.refl _ _,by rw[haf];exact HOY.out.2.2.1⟩
 case round=>
  obtain⟨i,hi,rfl,hO,hG,hB⟩:=hrel
  have HOi:=(show Hid (Own wr g N (stl N bt i))from hO)
  have HGi:=(show Hid (Gs [g,B10] Y wr)from hG)
  have HBi:=(show Hid (Bk wr B10 [.int .i64 seed,.int .i64 stream,.int .i64 (af i)])from hB)
  clear hO hG hB
  obtain⟨⟨p0,p1,p2,p3,p4,p5⟩,b9⟩:=HQ.out _ HGi.out
  have m3:=b9.c 3 _ rfl
  by_cases hiN:i<N
  ·have hii:(i:Int)<(N:Int):=by omega
   obtain⟨V0,hV0⟩:∃V,V=wr.alloc (.cells #[.bool false,.slice none 0 0,.int .i64 0] 78):=⟨_,rfl⟩
   obtain⟨B15,hB15⟩:∃B,B=wr.heap.size:=⟨_,rfl⟩
   have kV0:Kept wr V0:=by rw[hV0];exact(qlv wr).alloc _ _
   have b15:Bk V0 B15 [.bool false,.slice none 0 0,.int .i64 0]:=by rw[hV0,hB15];exact Bk.new wr _ _
   have HV:=(show Hid (Kept wr V0∧Bk V0 B15 [.bool false,.slice none 0 0,.int .i64 0]∧B15=wr.heap.size)from⟨kV0,b15,hB15⟩)
   go_upto_region 15 with fail
   rw[←hV0,←hB15]
   clear hV0 hB15 kV0 b15 p0 p1 p2 p3 p4 p5 b9 m3
   obtain⟨⟨p0,p1,p2,p3,p4,p5⟩,b9⟩:=HQ.out _ (HGi.out.kept HV.out.1)
   have d10:=HBi.out.kept HV.out.1
   have d0:=d10.c 0 _ rfl
   have d1:=d10.c 1 _ rfl
   have d2:=d10.c 2 _ rfl
   go_wp2_with fail
   refine(KU.out _ i).mono ?_
   rintro e u1 ⟨rfl,k1⟩
   clear d0 d1 d2 p0 p1 p2 p3 p4 p5 b9
   have c10:=d10.kept k1
   have d0:=c10.c 0 _ rfl
   have d1:=c10.c 1 _ rfl
   have d2:=c10.c 2 _ rfl
   have df:=c10.fz
   obtain⟨Z1,hZ1⟩:∃Z,Z=((u1.setCell ⟨B10,0,none⟩ (.int .i64 seed)).setCell ⟨B10,1,none⟩ (.int .i64 stream)).setCell ⟨B10,2,none⟩ (.int .i64 (af (i+1))):=⟨_,rfl⟩
   have gk:Kept wr u1:=HV.out.1.trans k1
   have G1:Gs [g,B10] Y Z1:=by rw[hZ1];exact(((HGi.out.kept gk).setCell (.inl (by simp)) _).setCell (.inl (by simp)) _).setCell (.inl (by simp)) _
   have n10:g≠B10:=by have o:=HOY.out;omega
   have O1:Own Z1 g N (stl N bt i):=by rw[hZ1];exact(((HOi.out.kept gk).setOther n10 _).setOther n10 _).setOther n10 _
   have D1:Bk Z1 B10 [.int .i64 seed,.int .i64 stream,.int .i64 (af (i+1))]:=by rw[hZ1];exact((c10.set 0 _).set 1 _).set 2 _
   have n15:B15≠B10:=by have h1:=HV.out.2.2;have h2:=HBi.out.lt;omega
   have E1:Bk Z1 B15 [.bool false,.slice none 0 0,.int .i64 0]:=by rw[hZ1];exact(((HV.out.2.1.kept k1).far (p:=⟨B10,0,none⟩) n15 _).far (p:=⟨B10,1,none⟩) n15 _).far (p:=⟨B10,2,none⟩) n15 _
   have HG1:=(show Hid (Gs [g,B10] Y Z1∧Own Z1 g N (stl N bt i)∧Bk Z1 B10 [.int .i64 seed,.int .i64 stream,.int .i64 (af (i+1))]∧Bk Z1 B15 [.bool false,.slice none 0 0,.int .i64 0])from⟨G1,O1,D1,E1⟩)
   go_upto_region 20 with fail
   rw[←hZ1]
   clear hZ1 d0 d1 d2 df c10 d10 gk G1 O1 D1 E1 n10 n15 k1
   have HS2:Hid (∀u,Kept Z1 u→(u.cell? ⟨B3,4,none⟩=some (.int .i64 va)∧u.cell? ⟨B3,5,none⟩=some (.int .i64 vb))∧Kept Z1 u):=fun u k=>⟨⟨(HQ.out _ (HG1.out.1.kept k)).1.c4,(HQ.out _ (HG1.out.1.kept k)).1.c5⟩,k⟩
   have HFr:Hid (∀u b,Kept Z1 u→qj u.heap.size b→b≠B15):=fun u b k hb h=>by have h1:u.heap.size≤b:=hb;have h2:=HG1.out.2.2.2.lt;have h3:=k.below.size;omega
   have hlt:Hid (∀u,Kept Z1 u→B15<u.heap.size):=fun u k=>qlf HG1.out.2.2.2.lt k.below.size
   have kd:=(qlv Z1).drew
   refine qi [14] (fun u=>(u.cell? ⟨B3,4,none⟩=some (.int .i64 va)∧u.cell? ⟨B3,5,none⟩=some (.int .i64 vb))∧Kept Z1 u) (by kernel_rfl) (HS2.out _ kd) (fun hHeld=>?_)
   refine tkD (i:=0) (v:=?_) rfl hHeld ?_
   try simp only[zz]
   refine tkD (i:=1) (v:=?_) rfl hHeld ?_
   try simp only[zz]
   refine tkD (i:=3) (v:=?_) rfl hHeld ?_
   try simp only[zz]
   refine tkD (i:=4) (v:=?_) rfl hHeld ?_
   try simp only[zz]
   refine tkD (i:=6) (v:=?_) rfl hHeld ?_
   try simp only[zz]
   refine tkD (i:=7) (v:=?_) rfl hHeld ?_
   try simp only[zz]
   refine tkD (i:=10) (v:=?_) rfl hHeld ?_
   try simp only[zz]
   refine qg (i:=2) (by kernel_rfl) rfl (fun K hK9=>?_)
   go_simp
   go_wp2_with fail
   refine(KNa.out _).mono ?_
   rintro e u1 ⟨v1,rfl,hv1,j1⟩
   refine hK9.out _ _ (HS2.out _ (kd.trans j1)) (fun hH1=>?_)
   clear hK9 K
   have q1:=kd.trans j1
   replace hv1:=hv1.imp (fun b hb=>HFr.out _ b kd hb)
   refine qg (i:=5) (by kernel_rfl) rfl (fun K hK9=>?_)
   go_simp
   go_wp2_with fail
   refine(KNb.out _).mono ?_
   rintro e u2 ⟨v2,rfl,hv2,j2⟩
   refine hK9.out _ _ (HS2.out _ (q1.trans j2)) (fun hH2=>?_)
   clear hK9 K
   have q2:=q1.trans j2
   replace hv2:=hv2.imp (fun b hb=>HFr.out _ b q1 hb)
   refine qg (i:=8) (by kernel_rfl) rfl (fun K hK9=>?_)
   go_simp
   go_wp2_with fail
   refine(KNa.out _).mono ?_
   rintro e u3 ⟨v3,rfl,hv3,j3⟩
   refine hK9.out _ _ (HS2.out _ (q2.trans j3)) (fun hH3=>?_)
   clear hK9 K
   have q3:=q2.trans j3
   replace hv3:=hv3.imp (fun b hb=>HFr.out _ b q2 hb)
   refine qg (i:=9) (by kernel_rfl) rfl (fun K hK9=>?_)
   go_simp
   go_wp2_with fail
   refine(KM.out _ B15 v2 v3 (hlt.out _ q3) (hv2.kept j3) hv3).mono ?_
   rintro e u4 ⟨v4,rfl,hv4,j4⟩
   refine hK9.out _ _ (HS2.out _ (q3.trans j4)) (fun hH4=>?_)
   clear hK9 K
   have q4:=q3.trans j4
   refine qg (i:=11) (by kernel_rfl) rfl (fun K hK9=>?_)
   go_simp
   go_wp2_with fail
   refine(KNu.out _ i).mono ?_
   rintro e u5 ⟨v5,rfl,hv5,j5⟩
   refine hK9.out _ _ (HS2.out _ (q4.trans j5)) (fun hH5=>?_)
   clear hK9 K
   have q5:=q4.trans j5
   replace hv5:=hv5.imp (fun b hb=>HFr.out _ b q4 hb)
   refine qg (i:=12) (by kernel_rfl) rfl (fun K hK9=>?_)
   go_simp
   go_wp2_with fail
   refine(KT.out _ i B15 v4 v5 (hlt.out _ q5) (hv4.kept j5) hv5).mono ?_
   rintro e u6 ⟨v6,rfl,hv6,j6⟩
   refine hK9.out _ _ (HS2.out _ (q5.trans j6)) (fun hH6=>?_)
   clear hK9 K
   have q6:=q5.trans j6
   refine qg (i:=13) (by kernel_rfl) rfl (fun K hK9=>?_)
   go_simp
   go_wp2_with fail
   refine(KP.out _ i B15 v1 v6 (hlt.out _ q6) (((((hv1.kept j2).kept j3).kept j4).kept j5).kept j6) hv6).mono ?_
   rintro e u7 ⟨v7,rfl,hv7,j7⟩
   refine hK9.out _ _ (HS2.out _ (q6.trans j7)) (fun hH7=>?_)
   clear hK9 K
   have q7:=q6.trans j7
   obtain⟨r,hr,hz⟩:=hv7
   obtain⟨vn,va1,vl,vc,vx,rfl⟩:=hr.shape5
   have b1:=HG1.out.2.2.2.kept q7
   have e0:=b1.c 0 _ rfl
   have e1:=b1.c 1 _ rfl
   have e2:=b1.c 2 _ rfl
   have ef:=b1.fz
   obtain⟨Z,hZ⟩:∃Z,Z=((u7.setCell ⟨B15,0,none⟩ (.bool vn)).setCell ⟨B15,1,none⟩ (.slice va1 vl vc)).setCell ⟨B15,2,none⟩ (.int .i64 vx):=⟨_,rfl⟩
   have hYB:Y.heap.size≤B15:=by have h1:=HV.out.2.2;have h2:=HGi.out.size;omega
   have GZ:Gs [g,B10] Y Z:=by rw[hZ];exact(((HG1.out.1.kept q7).setCell (.inr hYB) _).setCell (.inr hYB) _).setCell (.inr hYB) _
   have ng15:g≠B15:=by have h1:=HV.out.2.2;have h2:=HOi.out.lt;omega
   have nb15:B10≠B15:=by have h1:=HV.out.2.2;have h2:=HBi.out.lt;omega
   have OZ:Own Z g N (stl N bt i):=by rw[hZ];exact(((HG1.out.2.1.kept q7).setOther ng15 _).setOther ng15 _).setOther ng15 _
   have DZ:Bk Z B10 [.int .i64 seed,.int .i64 stream,.int .i64 (af (i+1))]:=by rw[hZ];exact(((HG1.out.2.2.1.kept q7).far (p:=⟨B15,0,none⟩) nb15 _).far (p:=⟨B15,1,none⟩) nb15 _).far (p:=⟨B15,2,none⟩) nb15 _
   have bZ:Bk Z B15 [.bool vn,.slice va1 vl vc,.int .i64 vx]:=by rw[hZ];exact(((b1.set 0 _).set 1 _).set 2 _)
   have rZ:RT Z (.agg #[.bool vn,.slice va1 vl vc,.int .i64 vx]) r:=by
    rw[hZ]
    exact(((hr.set ⟨B15,0,none⟩ (fun b hb=>hb) _).set ⟨B15,1,none⟩ (fun b hb=>hb) _).set ⟨B15,2,none⟩ (fun b hb=>hb) _).rt
   have hbi:rzN wd 0 r=bt i:=HBT.out i r hz
   have hrv:vld r=true:=hz.ok
   have HGZ:=(show Hid (Gs [g,B10] Y Z)from GZ)
   have HOZ:=(show Hid (Own Z g N (stl N bt i))from OZ)
   have HBZ:=(show Hid (Bk Z B10 [.int .i64 seed,.int .i64 stream,.int .i64 (af (i+1))])from DZ)
   refine qo (i:=14) (by kernel_rfl) rfl rfl (fun K hK9=>?_)
   go_simp
   refine hK9.out _ _ ?_
   clear hK9 K
   try simp only[zz]
   refine qk (by kernel_rfl) ?_ _
   try simp only[zz]
   go_upto_region 33 with fail
   rw[←hZ]
   clear hZ e0 e1 e2 ef b1 hr hz GZ OZ DZ hYB ng15 nb15 hHeld hH1 hH2 hH3 hH4 hH5 hH6 hH7 kd
   have HS:Hid (∀u,Kept Z u→u.cell? ⟨B9,3,none⟩=some (.slice (some ⟨g,0,none⟩) N N)∧(u.cell? ⟨B15,0,none⟩=some (.bool vn)∧u.cell? ⟨B15,1,none⟩=some (.slice va1 vl vc)∧u.cell? ⟨B15,2,none⟩=some (.int .i64 vx))∧u.cell? ⟨B3,3,none⟩=some (.int .i64 wd)):=fun u k=>by
    obtain⟨q,b⟩:=HQ.out _ (HGZ.out.kept k)
    have b2:=bZ.kept k
    exact⟨b.c 3 _ rfl,⟨b2.c 0 _ rfl,b2.c 1 _ rfl,b2.c 2 _ rfl⟩,q.c3⟩
   have kd:=(qlv Z).drew
   have HRZ:=(show Hid (∀u,Kept Z u→Calls Tryz.prog 40 #[.agg #[.bool vn,.slice va1 vl vc,.int .i64 vx],.int .i64 wd] u fun e w'=>e=.returned (.int .i64 (bt i))∧Kept u w')from fun u k=>by rw[←hbi];exact Za wd hwd r hrv _ u (rZ.kept k))
   clear bZ rZ hbi hrv
   refine qi [8] (fun u=>u.cell? ⟨B9,3,none⟩=some (.slice (some ⟨g,0,none⟩) N N)∧(u.cell? ⟨B15,0,none⟩=some (.bool vn)∧u.cell? ⟨B15,1,none⟩=some (.slice va1 vl vc)∧u.cell? ⟨B15,2,none⟩=some (.int .i64 vx))∧u.cell? ⟨B3,3,none⟩=some (.int .i64 wd)) (by kernel_rfl) (HS.out _ kd) (fun hHeld=>?_)
   refine tkD (i:=0) (v:=?_) rfl hHeld ?_
   try simp only[zz]
   refine tkD (i:=1) (v:=?_) rfl hHeld ?_
   try simp only[zz]
   refine tkD (i:=2) (v:=?_) rfl hHeld ?_
   try simp only[zz]
   refine tkD (i:=3) (v:=?_) rfl hHeld ?_
   try simp only[zz]
   refine tkD (i:=4) (v:=?_) rfl hHeld ?_
   try simp only[zz]
   refine tkD (i:=5) (v:=?_) rfl hHeld ?_
   try simp only[zz]
   refine qg (i:=6) (by kernel_rfl) rfl (fun K hK9=>?_)
   go_simp
   go_wp2_with fail
   refine(HRZ.out _ kd).mono ?_
   rintro e uq ⟨rfl,k2⟩
   refine hK9.out _ _ (HS.out _ (kd.trans k2)) (fun hH6=>?_)
   clear hK9 K
   refine tkD (i:=7) (v:=?_) rfl hH6 ?_
   try simp only[zz]
   have oz:=(HOZ.out.kept (kd.trans k2))
   have cz1:=oz.cell i (by rw[jc];exact hiN)
   have cz2:=oz.free i
   have oz2:=oz.set i (bt i)
   rw[xj N bt i hiN]at oz2
   have gz:Gs [g,B10] Y (uq.setCell ⟨g,i,none⟩ (.int .i64 (bt i))):=((HGZ.out.kept (kd.trans k2)).setCell (.inl (by simp)) _)
   have bz:=(HBZ.out.kept (kd.trans k2)).far (p:=⟨g,i,none⟩) (by have o:=HOY.out;simp;omega) (.int .i64 (bt i))
   have HZ:=(show Hid (Own (uq.setCell ⟨g,i,none⟩ (.int .i64 (bt i))) g N (stl N bt (i+1))∧Gs [g,B10] Y (uq.setCell ⟨g,i,none⟩ (.int .i64 (bt i)))∧Bk (uq.setCell ⟨g,i,none⟩ (.int .i64 (bt i))) B10 [.int .i64 seed,.int .i64 stream,.int .i64 (af (i+1))])from⟨oz2,gz,bz⟩)
   clear oz oz2 gz bz
   obtain⟨bi,hbi⟩:∃b,b=bt i:=⟨_,rfl⟩
   rw[←hbi]at HZ ⊢
   clear hbi
   refine qo (i:=8) (by kernel_rfl) rfl rfl (fun K hK9=>?_)
   go_simp
   refine hK9.out _ _ ?_
   clear hK9 K
   try simp only[zz]
   refine qk (by kernel_rfl) ?_ _
   try simp only[zz]
   clear hHeld hH6 HS HRZ cz1 cz2
   go_wp2_with fail
   go_roundw
   case rel=>exact⟨i+1,by omega,by go_num,HZ.out.1,HZ.out.2.1,HZ.out.2.2⟩
   case measure=>simp[intOf];omega
  ·obtain rfl:i=N:=by omega
   have o:=HOY.out
   have kwr:Kept W0 wr:=HKY.out.gsn (fun b hb=>by simp at hb;omega) HGi.out
   clear o
   have m0:=b9.c 0 _ rfl
   have m1:=b9.c 1 _ rfl
   have m2:=b9.c 2 _ rfl
   clear p0 p1 p2 p3 p4 p5
   go_wp2_with fail
   refine(KS.out _ g HOi.out).mono ?_
   rintro e u1 ⟨rfl,k1⟩
   clear m0 m1 m2 m3 b9
   obtain⟨-,b9⟩:=HQ.out _ (HGi.out.kept k1)
   have m0:=b9.c 0 _ rfl
   have m1:=b9.c 1 _ rfl
   have m2:=b9.c 2 _ rfl
   have m3:=b9.c 3 _ rfl
   have b6:=(HB6.out _ kwr).kept k1
   have e0:=b6.c 0 _ rfl
   have e1:=b6.c 1 _ rfl
   have e2:=b6.c 2 _ rfl
   have e3:=b6.c 3 _ rfl
   have ef:=b6.fz
   have kw:Kept w u1:=HKW.out.trans (kwr.trans k1)
   have ho6:=(HOi.out.kept k1)
   have hg6:g≠B6:=by have o:=HOY.out;have h:=(HB6.out _ (qlv W0)).lt;omega
   have hwg:w.heap.size≤g:=qlp HKW.out.below.size HOY.out.2.2.2.1
   have h6w:=H6W.out
   clear b9 kwr b6
   by_cases hq:q=0
   ·subst hq
    go_wp2_with fail
    refine qlu (v:=.tuple #[.agg #[.int .i64 (R:Int),.int .i64 (C:Int),.int .i64 wd,.slice (some ⟨g,0,none⟩) i i],.int .i64 0]) (by simp[results,Tryz.results12,go_sem,e0,e1,e2,e3]) rfl ⟨?_,.inl ⟨rfl,g,rfl,hwg,?_⟩⟩
    ·exact(((kw.setCell h6w _).setCell h6w _).setCell h6w _).setCell h6w _
    ·exact(((ho6.setOther hg6 _).setOther hg6 _).setOther hg6 _).setOther hg6 _
   ·have hq0:(q==0)=false:=by simpa using hq
    have hq1:(q != 0)=true:=by simpa using hq
    go_wp2_with fail
    refine qlu (v:=.tuple #[zy,.int .i64 q]) (by simp[results,Tryz.results12,go_sem,e0,e1,e2,e3]) rfl ⟨?_,.inr ⟨hq0,rfl⟩⟩
    exact(((kw.setCell h6w _).setCell h6w _).setCell h6w _).setCell h6w _
end Go.Proofs.YtelbefihigkhjaaGreatDoor
