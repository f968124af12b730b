/-  -/
import Derived.Test.YtaglkncdedeipaaGreatDoorWs06
import Derived.Test.YtaglkncdedeipaaGreatDoorWs02
import Derived.Test.YtaglkncdedeipaaGreatDoorWs01
import Derived.Deep.RegionHeld
namespace Go.Proofs.YtaglkncdedeipaaGreatDoor
open Go.ChangeShapes Go.WideShapes Go.ChangeAt Go.RowKit Ieee
set_option linter.unusedVariables false
set_option linter.unusedSimpArgs false
set_option maxHeartbeats 16000000
set_option maxRecDepth 100000
theorem kl {n:Int}{x y:Nat}{k j:Int}(hx:Fl n x k)(hy:Fl n y j)(w:World):Calls Tryz.prog 46 #[fv2 x y,.int .i64 n,.int .i64 0] w fun e w'=>e=.returned (.tuple #[sp2 (pz n k) (pz n j),.int .i64 0])∧Kept w w':=by
 obtain⟨X,hX⟩:∃X,X=(w.alloc (.cells #[.float .f64 x,.float .f64 y] 68)).alloc (.cells #[.int .i64 0,.int .i64 0] 23):=⟨_,rfl⟩
 have hP:P2 X w.heap.size (.float .f64 x) (.float .f64 y):=by
  rw[hX]
  exact(P2.new w _ _ _).alloc _ _
 have hQ:P2 X (w.heap.size+1) (.int .i64 0) (.int .i64 0):=by
  rw[hX]
  have:=P2.new (w.alloc (.cells #[.float .f64 x,.float .f64 y] 68)) (.int .i64 0) (.int .i64 0) 23
  simpa using this
 have hK:Kept w X:=by
  rw[hX]
  exact((qia w).alloc _ _).alloc _ _
 have kd:Kept X X.drew:=(qia X).drew
 have HS:Hid (∀u,Kept X u→u.cell? ⟨w.heap.size,0,none⟩=some (.float .f64 x)∧u.cell? ⟨w.heap.size,1,none⟩=some (.float .f64 y)):=fun u k=>⟨(hP.kept k).c0,(hP.kept k).c1⟩
 have KP:Hid (∀u z p,(z=x∧p=pz n k∨z=y∧p=pz n j)→Kept X u→Calls Tryz.prog 76 #[.float .f64 z,.int .i64 n] u fun e w'=>e=.returned (.int .i64 p)∧Kept X w'∧Kept u w'):=fun u z p h kk=>by
  rcases h with ⟨rfl,rfl⟩|⟨rfl,rfl⟩
  ·refine(yd hx u).mono ?_
   rintro e w' ⟨rfl,k'⟩
   exact⟨rfl,kk.trans k',k'⟩
  ·refine(yd hy u).mono ?_
   rintro e w' ⟨rfl,k'⟩
   exact⟨rfl,kk.trans k',k'⟩
 clear hx hy
 generalize pz n k=p at *
 generalize pz n j=q at *
 obtain⟨H1,hH1⟩:∃H,H=w.heap.size+1:=⟨_,rfl⟩
 rw[←hH1]at hQ
 have o1:w.heap.size≤H1:=by omega
 have n1:¬H1=w.heap.size:=by omega
 have n2:¬w.heap.size=H1:=by omega
 have HQ:Hid (∀u,Kept X u→u.cell? ⟨H1,0,none⟩=some (.int .i64 0)∧u.cell? ⟨H1,1,none⟩=some (.int .i64 0)∧∀o,u.frozen? ⟨H1,o,none⟩=false):=fun u k=>⟨(hQ.kept k).c0,(hQ.kept k).c1,(hQ.kept k).fz⟩
 go_enter Tryz.func46,Tryz.ntmps46
 go_upto_region 1 with fail
 rw[←hX,←hH1]
 clear hX hH1
 go_upto_region 3 with fail
 refine qib (S:=fun u=>u.cell? ⟨w.heap.size,0,none⟩=some (.float .f64 x)∧u.cell? ⟨w.heap.size,1,none⟩=some (.float .f64 y)) (by kernel_rfl) (HS.out _ kd) (fun hHeld=>?_)
 refine tk (i:=0) (v:=?_) rfl ?_
 simp only[zz]
 refine tk (i:=1) (v:=?_) rfl ?_
 simp only[zz]
 refine tk (i:=2) (v:=?_) rfl ?_
 simp only[zz]
 refine tk (i:=4) (v:=?_) rfl ?_
 simp only[zz]
 refine tk (i:=5) (v:=?_) rfl ?_
 simp only[zz]
 refine tk (i:=6) (v:=?_) rfl ?_
 simp only[zz]
 refine qh8 (rs:=[3]) (by kernel_rfl) (by simp) ?_
 refine qh6 rfl (fun K hK9=>?_) qh7
 go_simp
 go_wp2_with fail
 refine(KP.out _ _ _ (.inl ⟨rfl,rfl⟩) kd).mono ?_
 rintro e u1 ⟨rfl,k1,j1⟩
 have e1:=HS.out _ k1
 refine hK9.out _ _ e1 (fun hHeld1=>?_)
 clear hK9 K
 refine qh8 (rs:=[7]) (by kernel_rfl) (by simp) ?_
 refine qh6 rfl (fun K hK9=>?_) qh7
 go_simp
 go_wp2_with fail
 refine(KP.out _ _ _ (.inr ⟨rfl,rfl⟩) k1).mono ?_
 rintro e u2 ⟨rfl,k2,j2⟩
 have e2:=HS.out _ k2
 refine hK9.out _ _ e2 (fun hHeld2=>?_)
 clear hK9 K
 refine tk (i:=8) (v:=?_) rfl ?_
 simp only[zz]
 obtain⟨c0,c1,cf⟩:=HQ.out _ k2
 refine qh8 (rs:=[9]) (by kernel_rfl) (by simp) ?_
 refine qh6 rfl (fun K hK9=>?_) qh7
 go_simp
 have e3:=((hP.kept k2).set H1 0 n1 (.int .i64 p)).set H1 1 n1 (.int .i64 q)
 refine hK9.out _ _ ⟨e3.c0,e3.c1⟩ (fun hHeld3=>?_)
 clear hK9 K
 refine tk (i:=10) (v:=?_) rfl ?_
 simp only[zz]
 refine qic (by kernel_rfl) ?_ _
 go_wp2_with fail
 have hz:=(P2.mk c0 c1 cf).put (.int .i64 p) (.int .i64 q)
 obtain⟨d0,d1,df⟩:=hz
 exact qh9 (v:=.tuple #[sp2 p q,.int .i64 0]) (by simp[results,Tryz.results46,go_sem,d0,d1]) rfl ⟨rfl,((hK.trans k2).setCell o1 _).setCell o1 _⟩
theorem vK (b n:Int)(hn:n=64∨n=32)(hi:qh b n=true)(h1:RB b):fin b n=decide (¬(qd b n=(ifn n:Int)∨qd b n=-(ifn n:Int))):=by
 have hc:cls b n≠4:=by
  unfold qh at hi
  rw[qh1]at hi
  exact hi.2
 unfold fin
 rw[Bool.eq_iff_iff,qh1,qh1]
 rcases hn with rfl|rfl
 ·have hm:=(jg b).1 hi
  have i1:(ifn 64:Int)=9218868437227405312:=by decide
  rw[J0,i1]
  unfold cls zc
  simp only[if_pos]
  unfold RB at h1
  split<;>(repeat' split)<;>simp<;>omega
 ·have hm:=(jh b).1 hi
  have i1:(ifn 32:Int)=2139095040:=by decide
  rw[vJ,i1]
  unfold cls zc
  rw[if_neg (by decide:¬(32:Int)=64),if_pos rfl,if_pos hm.1]
  split<;>(repeat' split)<;>simp<;>omega
def mnL (k:Int)(f:Nat→Int):Nat→Int
 |0=>k
 |m+1=>min (mnL k f m) (f m)
def mxL (k:Int)(f:Nat→Int):Nat→Int
 |0=>k
 |m+1=>max (mxL k f m) (f m)
def Ivs (w:World)(ao:Option Addr)(m:Nat)(fx fy:Nat→Nat):Prop:=∀u,Kept w u→∀i,i<m→∃b off,ao=some ⟨b,off,none⟩∧u.cell? ⟨b,off+i*2,none⟩=some (.float .f64 (fx i))∧u.cell? ⟨b,off+i*2+1,none⟩=some (.float .f64 (fy i))
theorem Vs (n:Int)(x0 y0:Nat)(k0 j0:Int)(hx:Fl n x0 k0)(hy:Fl n y0 j0)(m:Nat)(hm:m<100000)(fx fy:Nat→Nat)(fk fj:Nat→Int)(hF:∀i,i<m→Fl n (fx i) (fk i)∧Fl n (fy i) (fj i))(ao:Option Addr)(c:Nat)(w:World)(hI:Ivs w ao m fx fy):
  Calls Tryz.prog 58 #[fv2 x0 y0,.slice ao m c] w fun e w'=>∃x y,e=.returned (fv2 x y)∧Fl n x (mnL k0 fk m)∧Fl n y (mxL j0 fj m)∧Kept w w':=by
 have HI:Hid (Ivs w ao m fx fy):=hI
 have HF:Hid (∀i,i<m→Fl n (fx i) (fk i)∧Fl n (fy i) (fj i)):=hF
 have HX:Hid (Fl n x0 k0):=hx
 have HY:Hid (Fl n y0 j0):=hy
 clear hI hF hx hy
 have hSF:=j6
 obtain⟨X,hX⟩:∃X,X=(w.alloc (.cells #[.float .f64 x0,.float .f64 y0] 68)).alloc (.cells #[.float .f64 0,.float .f64 0] 68):=⟨_,rfl⟩
 have hP:P2 X w.heap.size (.float .f64 x0) (.float .f64 y0):=by
  rw[hX]
  exact(P2.new w _ _ _).alloc _ _
 have hQ:P2 X (w.heap.size+1) (.float .f64 0) (.float .f64 0):=by
  rw[hX]
  have:=P2.new (w.alloc (.cells #[.float .f64 x0,.float .f64 y0] 68)) (.float .f64 0) (.float .f64 0) 68
  simpa using this
 have hK:Kept w X:=by
  rw[hX]
  exact((qia w).alloc _ _).alloc _ _
 obtain⟨H0,hH0⟩:∃H,H=w.heap.size:=⟨_,rfl⟩
 obtain⟨H1,hH1⟩:∃H,H=H0+1:=⟨_,rfl⟩
 rw[←hH0,←hH1]at hQ
 rw[←hH0]at hP
 have o0:w.heap.size≤H0:=by omega
 have o1:w.heap.size≤H1:=by omega
 have n1:¬H1=H0:=by omega
 have n2:¬H0=H1:=by omega
 go_enter Tryz.func58,Tryz.ntmps58
 go_upto_region 1 with fail
 rw[←hX,←hH0,←hH1]
 clear hX hH1 hH0
 go_wp2_with fail
 go_loopw [9] (fun i wr=>∃(k:Nat) (x y:Nat),k≤m∧i=.int .i64 k∧Fl n x (mnL k0 fk k)∧Fl n y (mxL j0 fj k)∧P2 wr H0 (.float .f64 x) (.float .f64 y)∧P2 wr H1 (.float .f64 0) (.float .f64 0)∧Kept w wr) (fun i _=>m-(intOf i).toNat)
 case atStart=>exact⟨0,x0,y0,Nat.zero_le _,rfl,HX.out,HY.out,hP,hQ,hK⟩
 case round=>
  clear hP hQ hK
  obtain⟨k,x,y,hk,rfl,fx1,fy1,hP,hQ,hK⟩:=hrel
  by_cases hkm:k<m
  ·obtain⟨b,off,rfl,ci0,ci1⟩:=HI.out _ hK k hkm
   obtain⟨g1,g2⟩:=HF.out k hkm
   obtain⟨z1,hz1,r1⟩:=Vo (P:=Tryz.prog) n x (fx k) _ _ fx1 g1
   obtain⟨z2,hz2,r2⟩:=Vp (P:=Tryz.prog) n y (fy k) _ _ fy1 g2
   have Hz:Hid (Fl n z1 (mnL k0 fk (k+1))∧Fl n z2 (mxL j0 fj (k+1))):=⟨hz1,hz2⟩
   clear g1 g2 hz1 hz2 fx1 fy1
   generalize fx k=xk at *
   generalize fy k=yk at *
   have hPk:=(hP.put (.float .f64 z1) (.float .f64 z2)).alloc #[.float .f64 xk,.float .f64 yk] 68
   have hQk:=((hQ.set H0 0 n2 (.float .f64 z1)).set H0 1 n2 (.float .f64 z2)).alloc #[.float .f64 xk,.float .f64 yk] 68
   have hKk:=((hK.setCell (p:=⟨H0,0,none⟩) o0 (.float .f64 z1)).setCell (p:=⟨H0,1,none⟩) o0 (.float .f64 z2)).alloc #[.float .f64 xk,.float .f64 yk] 68
   have lt0:=hP.lt
   have lt1:=hQ.lt
   obtain⟨p0,p1,pf⟩:=hP
   go_wp2_with fail
   go_roundw
   case rel=>exact⟨k+1,z1,z2,by omega,by go_num,Hz.out.1,Hz.out.2,hPk,hQk,hKk⟩
   case measure=>simp[intOf];omega
  ·have hkm':k=m:=by omega
   subst hkm'
   have hz:=hQ.put (.float .f64 x) (.float .f64 y)
   obtain⟨d0,d1,df⟩:=hz
   obtain⟨p0,p1,pf⟩:=hP
   obtain⟨q0,q1,qf⟩:=hQ
   go_wp2_with fail
   exact qh9 (v:=fv2 x y) (by simp[results,Tryz.results58,go_sem,d0,d1]) rfl ⟨x,y,rfl,fx1,fy1,(hK.setCell o1 _).setCell o1 _⟩
def btE (a1 b1 a2 b2 n:Int):Int:=if opE a1 b1 n=0 then opE a2 b2 n else opE a1 b1 n
theorem vL (a1 b1 a2 b2 n:Int):btE a1 b1 a2 b2 n=0↔vsp a1 b1 n=true∧vsp a2 b2 n=true:=by
 unfold btE
 rw[←jJ,←jJ]
 split
 ·rename_i h;simp[h]
 ·rename_i h;simp[h]
structure Bt (a1 b1 a2 b2 n:Int) (x1 y1 x2 y2:Nat) (q:Int):Prop where
 err:q=btE a1 b1 a2 b2 n
 ok:q=0→Fl n x1 (qd a1 n)∧Fl n y1 (qd b1 n)∧Fl n x2 (qd a2 n)∧Fl n y2 (qd b2 n)
 no:q≠0→x1=0∧y1=0∧x2=0∧y2=0
theorem jw (a b n:Int)(h:vsp a b n=true):qh a n=true∧qh b n=true∧qd a n≤qd b n∧qd a n≠(ifn n:Int)∧qd b n≠-(ifn n:Int):=by
 unfold vsp at h
 simp only[Bool.and_eq_true,qh1]at h
 exact⟨h.1.1.1.1,h.1.1.1.2,h.1.1.2,h.1.2,h.2⟩
theorem J6 (a1 b1 a2 b2 n:Int)(r1:RB a1)(r2:RB b1)(r3:RB a2)(r4:RB b2):∃x1 y1 x2 y2 q,Bt a1 b1 a2 b2 n x1 y1 x2 y2 q∧∀w,Calls Tryz.prog 45 #[sp2 a1 b1,sp2 a2 b2,.int .i64 n] w fun e w'=>e=.returned (.tuple #[fv2 x1 y1,fv2 x2 y2,.int .i64 q])∧Kept w w':=by
 obtain⟨x1,y1,f1,g1,-⟩:=J5 a1 b1 n
 obtain⟨x2,y2,f2,g2,-⟩:=J5 a2 b2 n
 have KO:Hid (∀u a b x y q,(a=a1∧b=b1∧x=x1∧y=y1∧q=opE a1 b1 n∨a=a2∧b=b2∧x=x2∧y=y2∧q=opE a2 b2 n)→Calls Tryz.prog 66 #[sp2 a b,.int .i64 n] u fun e w'=>e=.returned (.tuple #[fv2 x y,.int .i64 q])∧Kept u w'):=fun u a b x y q h=>by
  rcases h with ⟨rfl,rfl,rfl,rfl,rfl⟩|⟨rfl,rfl,rfl,rfl,rfl⟩
  ·rw[←f1];exact jV _ _ n r1 r2 u
  ·rw[←f2];exact jV _ _ n r3 r4 u
 by_cases h:opE a1 b1 n=0∧opE a2 b2 n=0
 ·have hv1:=(jJ _ _ _).1 h.1
  have hv2:=(jJ _ _ _).1 h.2
  obtain⟨i1,i2,-⟩:=jw _ _ _ hv1
  obtain⟨i3,i4,-⟩:=jw _ _ _ hv2
  refine⟨x1,y1,x2,y2,0,⟨((vL _ _ _ _ _).2 ⟨hv1,hv2⟩).symm,fun _=>?_,fun h=>absurd rfl h⟩,fun w=>?_⟩
  ·rw[(g1 hv1).1,(g1 hv1).2,(g2 hv2).1,(g2 hv2).2]
   exact⟨Fl.flv i1 r1.1 r1.2,Fl.flv i2 r2.1 r2.2,Fl.flv i3 r3.1 r3.2,Fl.flv i4 r4.1 r4.2⟩
  ·have:=QM a1 b1 a2 b2 n x1 y1 x2 y2 _ _ w KO
   rw[if_pos h]at this
   exact this
 ·refine⟨0,0,0,0,btE a1 b1 a2 b2 n,⟨rfl,fun g=>?_,fun _=>⟨rfl,rfl,rfl,rfl⟩⟩,fun w=>?_⟩
  ·have:=(vL _ _ _ _ _).1 g
   exact absurd ⟨(jJ _ _ _).2 this.1,(jJ _ _ _).2 this.2⟩ h
  ·have:=QM a1 b1 a2 b2 n x1 y1 x2 y2 _ _ w KO
   rw[if_neg h]at this
   exact this
theorem Bt.fl {a1 b1 a2 b2 n:Int}{x1 y1 x2 y2:Nat}{q:Int}(h:Bt a1 b1 a2 b2 n x1 y1 x2 y2 q):∃(m:Int) (k1 j1 k2 j2:Int),Fl m x1 k1∧Fl m y1 j1∧Fl m x2 k2∧Fl m y2 j2∧(q=0→m=n∧k1=qd a1 n∧j1=qd b1 n∧k2=qd a2 n∧j2=qd b2 n):=by
 by_cases hq:q=0
 ·obtain⟨f1,f2,f3,f4⟩:=h.ok hq
  exact⟨n,_,_,_,_,f1,f2,f3,f4,fun _=>⟨rfl,rfl,rfl,rfl,rfl⟩⟩
 ·obtain⟨rfl,rfl,rfl,rfl⟩:=h.no hq
  have z:=Fl.zero 64 (.inl rfl)
  exact⟨64,0,0,0,0,z,z,z,z,fun g=>absurd g hq⟩
end Go.Proofs.YtaglkncdedeipaaGreatDoor
namespace Go.Proofs.YtaglkncdedeipaaGreatDoor
open Go.ChangeShapes Go.WideShapes Go.ChangeAt Go.RowKit
set_option linter.unusedVariables false
set_option linter.unusedSimpArgs false
set_option maxHeartbeats 16000000
set_option maxRecDepth 100000
def Reads (w:World)(b off:Nat)(L:List Int):Prop:=∀i,i<L.length→w.cell? ⟨b,off+i,none⟩=some (.int .i64 (L.getD i 0))
def Sl (w:World)(v:Value)(L:List Int):Prop:=
 ∃ao cap,v=.slice ao L.length cap∧L.length≤cap∧cap≤maxLen∧(L≠[]→∃b off,ao=some ⟨b,off,none⟩∧b<w.heap.size∧Reads w b off L)
theorem Reads.kept {w w':World}{b off:Nat}{L:List Int}(h:Reads w b off L)(hb:b<w.heap.size)(k:Kept w w'):Reads w' b off L:=
 fun i hi=>(k.below.cell (p:=⟨b,off+i,none⟩) hb).trans (h i hi)
theorem Sl.kept {w w':World}{v:Value}{L:List Int}(h:Sl w v L)(k:Kept w w'):Sl w' v L:=by
 obtain⟨ao,cap,e,hc,hm,hr⟩:=h
 refine⟨ao,cap,e,hc,hm,fun hne=>?_⟩
 obtain⟨b,off,e2,hb,hr⟩:=hr hne
 exact⟨b,off,e2,qhu hb k.below.size,hr.kept hb k⟩
def dig (L:List Int)(i:Int):Int:=if 0≤i then L.getD i.toNat 0 else 0
theorem qac (L:List Int)(b off cap:Nat)(i:Nat)(hi:i<L.length)(w:World)(hr:Reads w b off L):Calls Tryz.prog 171 #[.slice (some ⟨b,off,none⟩) L.length cap,.int .i64 (i:Int)] w fun e w'=>e=.returned (.int .i64 (L.getD i 0))∧w=w':=by
 have h1:=hr i hi
 have h2:((i:Int)<0)=False:=by simp
 have h3:((L.length:Int)≤(i:Int))=False:=by simp;omega
 generalize L.getD i 0=d at *
 generalize L.length=n at *
 clear hr
 go_enter Tryz.func171,Tryz.ntmps171
 go_wp2
 go_ret
 exact⟨rfl,rfl⟩
theorem Yx (n:Nat)(ao:Option Addr)(cap:Nat)(i:Int)(hi:i<0∨(n:Int)≤i)(w:World):Calls Tryz.prog 171 #[.slice ao n cap,.int .i64 i] w fun e w'=>e=.returned (.int .i64 0)∧w=w':=by
 rcases(show i<0∨(0≤i∧(n:Int)≤i) by omega)with h|⟨h0,h⟩
 ·go_enter Tryz.func171,Tryz.ntmps171
  go_wp2
  go_ret
  exact⟨rfl,rfl⟩
 ·go_enter Tryz.func171,Tryz.ntmps171
  go_wp2
  go_ret
  exact⟨rfl,rfl⟩
theorem Qn (L:List Int)(v:Value)(i:Int)(w:World)(h:Sl w v L):Calls Tryz.prog 171 #[v,.int .i64 i] w fun e w'=>e=.returned (.int .i64 (dig L i))∧w=w':=by
 obtain⟨ao,cap,rfl,hc,hm,hr⟩:=h
 by_cases hi:0≤i∧i<L.length
 ·obtain⟨b,off,rfl,-,hr⟩:=hr (by intro h;subst h;simp at hi;omega)
  have:=qac L b off cap i.toNat (by omega) w hr
  rw[Int.toNat_of_nonneg hi.1]at this
  rw[dig,if_pos hi.1]
  exact this
 ·have:dig L i=0:=by
   unfold dig
   split
   ·rw[qhx,List.getElem?_eq_none (by omega)];rfl
   ·rfl
  rw[this]
  exact Yx _ _ _ _ (by omega) w
theorem Q6 (L:List Int)(h:Dg L)(q:Nat):dig L (q:Int)=((nv L/2^(30*q)%1073741824:Nat):Int):=by
 have h1:=zg L h q
 have h2:=h.getD q
 rw[dig,if_pos (by omega),Int.toNat_natCast]
 omega
theorem VI (L:List Int)(q:Int)(h:q<0):dig L q=0:=by rw[dig,if_neg (by omega)]
def pcq (L:List Int)(q:Int)(s:Nat):Int:=bits .and .i64 (bits .or .i64 (dig L q/2^s) (IntKind.i64.wrap (dig L (q+1)*2^(30-s)))) 1073741823
theorem Q7 (x y s:Nat)(hs:s<30)(hx:x<1073741824)(hy:y<1073741824):bits .and .i64 (bits .or .i64 ((x:Int)/2^s) (IntKind.i64.wrap ((y:Int)*2^(30-s)))) 1073741823=(((x/2^s+y*2^(30-s))%1073741824:Nat):Int):=by
 obtain⟨p,q,hp,hq,e⟩:∃p q:Nat,2^s=p∧2^(30-s)=q∧p*q=1073741824:=⟨_,_,rfl,rfl,by rw[←qhv,show s+(30-s)=30 by omega]⟩
 have hp0:0<p:=by rw[←hp];exact qht _
 have hq0:0<q:=by rw[←hq];exact qht _
 have hq1:q≤1073741824:=by rw[←e];exact Nat.le_mul_of_pos_left _ hp0
 have e1:(x:Int)/2^s=((x/2^s:Nat):Int):=by rw[Int.natCast_ediv,Int.natCast_pow];rfl
 have e2:(y:Int)*2^(30-s)=((y*2^(30-s):Nat):Int):=by rw[Int.natCast_mul,Int.natCast_pow];rfl
 have h1:x/2^s<2^(30-s):=by
  rw[hp,hq]
  exact(Nat.div_lt_iff_lt_mul hp0).2 (by rw[qh0];omega)
 have h2:y*2^(30-s)<1152921504606846976:=by
  rw[hq]
  calc y*q≤y*1073741824:=Nat.mul_le_mul_left _ hq1
   _<1152921504606846976:=by omega
 have e3:IntKind.i64.wrap ((y*2^(30-s):Nat):Int)=((y*2^(30-s):Nat):Int):=by
  rw[qc];omega
 rw[e1,e2,e3,qax _ _ _ h1 (by have:x/2^s≤x:=Nat.div_le_self _ _;omega),jR]
 rfl
theorem qad (L:List Int)(h:Dg L)(q:Int)(s:Nat)(hs:s<30):pcq L q s=pcz (nv L) (30*q+s):=by
 unfold pcq pcz
 by_cases h0:0≤q
 ·obtain⟨n,rfl⟩:∃n:Nat,q=n:=⟨q.toNat,by omega⟩
  rw[if_pos (by omega),show((n:Int)+1)=((n+1:Nat):Int) by omega,Q6 L h,Q6 L h,Q7 _ _ s hs (Nat.mod_lt _ (by decide)) (Nat.mod_lt _ (by decide)),Qy _ s hs,show(30*(n:Int)+(s:Int)).toNat=30*n+s by omega]
 ·rw[if_neg (by omega),VI L q (by omega)]
  by_cases h1:q=-1
  ·subst h1
   have e:=Q6 L h 0
   rw[show(-1+1:Int)=((0:Nat):Int) by rfl,e,show(0:Int)=((0:Nat):Int)from rfl,Q7 0 _ s hs (by decide) (Nat.mod_lt _ (by decide)),show(-(30*(-1)+(s:Int))).toNat=30-s by omega]
   simp[Nat.mod_mul_mod]
  ·rw[VI L (q+1) (by omega),show(0:Int)=((0:Nat):Int)from rfl,Q7 0 0 s hs (by decide) (by decide)]
   obtain⟨k,hk⟩:∃k,(-(30*q+(s:Int))).toNat=30+k:=⟨(-(30*q+(s:Int))).toNat-30,by omega⟩
   have e:nv L*(2^30*2^k)%1073741824=0:=by
    rw[Nat.mul_left_comm]
    exact Nat.mul_mod_right _ _
   rw[hk,qhv,e]
   simp
theorem Q8 (p q s:Int)(h0:0≤s)(hs:s<30)(hp:p=30*q+s)(hc:0≤q∨s=0):p.tdiv 30=q∧p.tmod 30=s:=by
 by_cases h:0≤p
 ·rw[Int.tdiv_eq_ediv_of_nonneg (by omega),Int.tmod_eq_emod_of_nonneg (by omega)]
  omega
 ·have e:p.tdiv 30=-((-p).tdiv 30):=by rw[Int.neg_tdiv];omega
  have f:p.tmod 30=-((-p).tmod 30):=by rw[Int.neg_tmod];omega
  rw[e,f,Int.tdiv_eq_ediv_of_nonneg (by omega),Int.tmod_eq_emod_of_nonneg (by omega)]
  omega
theorem XF (p q s:Int)(h0:0<s)(hs:s<30)(hp:p=30*q+s)(hc:q<0):p.tdiv 30=q+1∧p.tmod 30=s-30:=by
 have e:p.tdiv 30=-((-p).tdiv 30):=by rw[Int.neg_tdiv];omega
 have f:p.tmod 30=-((-p).tmod 30):=by rw[Int.neg_tmod];omega
 rw[e,f,Int.tdiv_eq_ediv_of_nonneg (by omega),Int.tmod_eq_emod_of_nonneg (by omega)]
 omega
theorem Je (L:List Int)(v:Value)(q:Int)(s:Nat)(hs:s<30)(hq:q<100000000)(hq0:-100000000<q)(p:Int)(hp:p=30*(q:Int)+s)(hc:0≤q∨(s:Int)=0)(w:World)(h:Sl w v L):Calls Tryz.prog 149 #[v,.int .i64 p] w fun e w'=>e=.returned (.int .i64 (pcq L q s))∧Kept w w':=by
 have H:Hid (Sl w v L):=h
 clear h
 obtain⟨e1,e2⟩:=Q8 p q s (by omega) (by omega) hp hc
 clear hp hc
 have hK:=qia w
 have e3:IntKind.i64.wrap (q+1)=q+1:=by rw[qc];omega
 have e4:IntKind.i64.wrap (30-(s:Int))=((30-s:Nat):Int):=by rw[qc];omega
 go_enter Tryz.func149,Tryz.ntmps149
 go_wp2_with fail
 go_region_held (fun u=>Kept w u) (first|exact hK.drew|assumption) (first|(go_at_call 171;refine(Qn L v _ _ (H.out.kept (by assumption))).mono ?_;rintro e w1 ⟨rfl,rfl⟩))
 go_wp2
 go_ret
 exact⟨rfl,hK.drew⟩
theorem Jf (L:List Int)(v:Value)(q:Int)(s:Nat)(hs:s<30)(hq:q<0)(hq0:-100000000<q)(p:Int)(hp:p=30*(q:Int)+s)(hc:0<s)(w:World)(h:Sl w v L):Calls Tryz.prog 149 #[v,.int .i64 p] w fun e w'=>e=.returned (.int .i64 (pcq L q s))∧Kept w w':=by
 have H:Hid (Sl w v L):=h
 clear h
 obtain⟨e1,e2⟩:=XF p q s (by omega) (by omega) hp hq
 clear hp
 have hK:=qia w
 have e3:IntKind.i64.wrap (q+1)=q+1:=by rw[qc];omega
 have e5:IntKind.i64.wrap (q+1-1)=q:=by rw[qc];omega
 have e6:IntKind.i64.wrap ((s:Int)-30+30)=(s:Int):=by rw[qc];omega
 have e4:IntKind.i64.wrap (30-(s:Int))=((30-s:Nat):Int):=by rw[qc];omega
 go_enter Tryz.func149,Tryz.ntmps149
 go_wp2_with fail
 go_region_held (fun u=>Kept w u) (first|exact hK.drew|assumption) (first|(go_at_call 171;refine(Qn L v _ _ (H.out.kept (by assumption))).mono ?_;rintro e w1 ⟨rfl,rfl⟩))
 go_wp2
 go_ret
 exact⟨rfl,hK.drew⟩
theorem Qo (L:List Int)(hL:Dg L)(v:Value)(p:Int)(h1:-1000000000<p)(h2:p<1000000000)(w:World)(h:Sl w v L):Calls Tryz.prog 149 #[v,.int .i64 p] w fun e w'=>e=.returned (.int .i64 (pcz (nv L) p))∧Kept w w':=by
 obtain⟨s,hs⟩:∃s:Nat,p%30=s:=⟨(p%30).toNat,by omega⟩
 have e:30*(p/30)+(s:Int)=p:=by omega
 have:=qad L hL (p/30) s (by omega)
 rw[e]at this
 rw[←this]
 by_cases hc:0≤p/30∨(s:Int)=0
 ·exact Je L v (p/30) s (by omega) (by omega) (by omega) p e.symm hc w h
 ·exact Jf L v (p/30) s (by omega) (by omega) (by omega) p e.symm (by omega) w h
theorem vS {x v:World}{c:Array Value}{t:TypeId}(h:Kept (x.alloc (.cells c t)) v):Kept (x.alloc (.cells c t)) v.drew∧∀o,v.drew.cell? ⟨x.heap.size,o,none⟩=(x.alloc (.cells c t)).cell? ⟨x.heap.size,o,none⟩:=⟨h.drew,qg h.drew⟩
theorem qan {x v v':World}{c:Array Value}{t:TypeId}(h:Kept (x.alloc (.cells c t)) v∧∀o,v.cell? ⟨x.heap.size,o,none⟩=(x.alloc (.cells c t)).cell? ⟨x.heap.size,o,none⟩)(k:Kept v v'):Kept (x.alloc (.cells c t)) v'∧∀o,v'.cell? ⟨x.heap.size,o,none⟩=(x.alloc (.cells c t)).cell? ⟨x.heap.size,o,none⟩:=⟨h.1.trans k,qg (h.1.trans k)⟩
theorem Qu (p:Bool)(v r q:Int)(hr:bits .or .i64 v (-9223372036854775808)=r)(hq:(if p=true then r else v)=q)(w:World):Calls Tryz.prog 167 #[.agg #[.int .i64 (-9223372036854775808),.int .i64 9218868437227405312,.int .i64 9221120237041090561,.int .i64 52,.int .i64 (-1074)],.bool p,.int .i64 v] w fun e w'=>e=.returned (.int .i64 q)∧Kept w w':=by
 subst hq
 go_enter Tryz.func167,Tryz.ntmps167
 cases p
 ·go_wp2
  go_ret
  exact⟨rfl,(qia _).alloc _ _⟩
 ·go_wp2
  go_ret
  exact⟨rfl,(qia _).alloc _ _⟩
theorem Zj (p:Bool)(x e:Int)(k:Nat)(hx0:0<x)(hx1:x≤9223372036854775807)(he1:-2000≤e)(he2:e≤2000)(hk:k<64)(o:Int)(L:Nat)(ho0:0<o)(ho1:o≤9223372036854775807)(hL:L≤64)(hsh:x/2^k=o)
  (Kz:Hid (∀w:World,Tab w→Calls Tryz.prog 168 #[.int .u64 x] w fun e w'=>e=.returned (.int .i64 (k:Int))∧w=w'))
  (Kl:Hid (∀w:World,Calls Tryz.prog 145 #[.int .u64 (IntKind.u64.wrap o)] w fun e w'=>e=.returned (.int .i64 (L:Int))∧w=w')) (U:Int) (hu:min (53-(L:Int)) (e+(k:Int)+1074)=U) (hU:0≤U) (hU2:U≤64) (hs:2047≤e+(k:Int)-U+1074+1) (w:World) (hT:Tab w):Calls Tryz.prog 147 #[.bool p,.int .i64 x,.int .i64 e,.int .i64 64] w fun e w'=>e=.returned (.tuple #[.int .i64 0,.bool false])∧Kept w w':=by
 have HT:Hid (Tab w):=hT
 clear hT
 go_enter Tryz.func147,Tryz.ntmps147
 go_wp2_with fail
 refine(qL _).mono ?_
 rintro e w1 ⟨rfl,hk1⟩
 go_wp2_with fail
 refine(Kz.out _ (HT.out.kept (hk1.alloc _ _))).mono ?_
 rintro e w2 ⟨rfl,rfl⟩
 go_wp2
 have hK:=qia (w1.alloc (.cells #[.int .i64 (-9223372036854775808),.int .i64 9218868437227405312,.int .i64 9221120237041090561,.int .i64 52,.int .i64 (-1074)] 166))
 go_region_held (fun v=>Kept (w1.alloc (.cells #[.int .i64 (-9223372036854775808),.int .i64 9218868437227405312,.int .i64 9221120237041090561,.int .i64 52,.int .i64 (-1074)] 166)) v∧∀o,v.cell? ⟨w1.heap.size,o,none⟩=(w1.alloc (.cells #[.int .i64 (-9223372036854775808),.int .i64 9218868437227405312,.int .i64 9221120237041090561,.int .i64 52,.int .i64 (-1074)] 166)).cell? ⟨w1.heap.size,o,none⟩) (first|exact vS hK|assumption) (first|(go_at_call 145;refine(Kl.out _).mono ?_;rintro e w3 ⟨rfl,rfl⟩))
 go_wp2
 go_ret2
 exact⟨rfl,(hk1.alloc _ _).drew⟩
theorem Jq (p:Bool)(x e:Int)(k:Nat)(hx0:0<x)(hx1:x≤9223372036854775807)(he1:-2000≤e)(he2:e≤2000)(hk:k<64)(o:Int)(L:Nat)(ho0:0<o)(ho1:o≤9223372036854775807)(hL:L≤64)(hsh:x/2^k=o)
  (Kz:Hid (∀w:World,Tab w→Calls Tryz.prog 168 #[.int .u64 x] w fun e w'=>e=.returned (.int .i64 (k:Int))∧w=w'))
  (Kl:Hid (∀w:World,Calls Tryz.prog 145 #[.int .u64 (IntKind.u64.wrap o)] w fun e w'=>e=.returned (.int .i64 (L:Int))∧w=w')) (U:Nat) (hu:min (53-(L:Int)) (e+(k:Int)+1074)=(U:Int)) (hU2:U<64) (hs:e+(k:Int)-(U:Int)+1074+1<2047) (hs0:0≤e+(k:Int)-(U:Int)+1074) (v r:Int) (hv:0≤o*2^U) (hv2:o*2^U<2*4503599627370496) (hve:(e+(k:Int)-(U:Int)+1074)*4503599627370496+o*2^U=v) (hr:bits .or .i64 v (-9223372036854775808)=r) (q:Int) (hq0:(if p=true then r else v)=q) (w:World) (hT:Tab w):Calls Tryz.prog 147 #[.bool p,.int .i64 x,.int .i64 e,.int .i64 64] w fun e w'=>e=.returned (.tuple #[.int .i64 q,.bool true])∧Kept w w':=by
 have HQ:Hid ((if p=true then r else v)=q):=hq0
 clear hq0
 obtain⟨Q,hQ⟩:∃Q,Q=o*2^U:=⟨_,rfl⟩
 have HM:Hid (min (IntKind.i64.wrap (IntKind.i64.wrap 53-(L:Int))) (IntKind.i64.wrap (e+(k:Int)+1074))=(U:Int)):=by
  show min (IntKind.i64.wrap (IntKind.i64.wrap 53-(L:Int))) (IntKind.i64.wrap (e+(k:Int)+1074))=(U:Int)
  rw[qc,qc,qc]
  omega
 have HW:Hid (IntKind.i64.wrap (IntKind.i64.wrap ((e+(k:Int)-(U:Int)+1074)*4503599627370496)+IntKind.i64.wrap (o*2^U))=v):=by
  show IntKind.i64.wrap (IntKind.i64.wrap ((e+(k:Int)-(U:Int)+1074)*4503599627370496)+IntKind.i64.wrap (o*2^U))=v
  rw[←hQ]at hv hv2 hve ⊢
  rw[qc,qc,qc]
  omega
 clear hve hv hv2 hQ
 have HT:Hid (Tab w):=hT
 clear hT
 go_enter Tryz.func147,Tryz.ntmps147
 go_wp2_with fail
 refine(qL _).mono ?_
 rintro e w1 ⟨rfl,hk1⟩
 go_wp2_with fail
 refine(Kz.out _ (HT.out.kept (hk1.alloc _ _))).mono ?_
 rintro e w2 ⟨rfl,rfl⟩
 go_wp2
 have hK:=qia (w1.alloc (.cells #[.int .i64 (-9223372036854775808),.int .i64 9218868437227405312,.int .i64 9221120237041090561,.int .i64 52,.int .i64 (-1074)] 166))
 go_region_held (fun v=>Kept (w1.alloc (.cells #[.int .i64 (-9223372036854775808),.int .i64 9218868437227405312,.int .i64 9221120237041090561,.int .i64 52,.int .i64 (-1074)] 166)) v∧∀o,v.cell? ⟨w1.heap.size,o,none⟩=(w1.alloc (.cells #[.int .i64 (-9223372036854775808),.int .i64 9218868437227405312,.int .i64 9221120237041090561,.int .i64 52,.int .i64 (-1074)] 166)).cell? ⟨w1.heap.size,o,none⟩) (first|exact vS hK|assumption) (first|(go_at_call 145;refine(Kl.out _).mono ?_;rintro e w3 ⟨rfl,rfl⟩))
 go_wp2
 have hK2:=hK.drew
 rw[HM.out]
 go_region_held (fun v=>Kept (w1.alloc (.cells #[.int .i64 (-9223372036854775808),.int .i64 9218868437227405312,.int .i64 9221120237041090561,.int .i64 52,.int .i64 (-1074)] 166)) v∧∀o,v.cell? ⟨w1.heap.size,o,none⟩=(w1.alloc (.cells #[.int .i64 (-9223372036854775808),.int .i64 9218868437227405312,.int .i64 9221120237041090561,.int .i64 52,.int .i64 (-1074)] 166)).cell? ⟨w1.heap.size,o,none⟩) (first|exact vS hK2|(refine qan ?_ hk5;assumption)) (first|(go_at_call 167;rw[HW.out];refine(Qu p v r q hr HQ.out _).mono ?_;rintro e w5 ⟨rfl,hk5⟩))
 go_wp2
 go_ret2
 exact⟨rfl,(hk1.trans (((qia _).alloc _ _).trans (And.left ‹_›)))⟩
theorem Qv (p:Bool)(v r q:Int)(hr:bits .or .i64 v 2147483648=r)(hq:(if p=true then r else v)=q)(w:World):Calls Tryz.prog 167 #[.agg #[.int .i64 2147483648,.int .i64 2139095040,.int .i64 2143289345,.int .i64 23,.int .i64 (-149)],.bool p,.int .i64 v] w fun e w'=>e=.returned (.int .i64 q)∧Kept w w':=by
 subst hq
 go_enter Tryz.func167,Tryz.ntmps167
 cases p
 ·go_wp2
  go_ret
  exact⟨rfl,(qia _).alloc _ _⟩
 ·go_wp2
  go_ret
  exact⟨rfl,(qia _).alloc _ _⟩
theorem Zk (p:Bool)(x e:Int)(k:Nat)(hx0:0<x)(hx1:x≤9223372036854775807)(he1:-2000≤e)(he2:e≤2000)(hk:k<64)(o:Int)(L:Nat)(ho0:0<o)(ho1:o≤9223372036854775807)(hL:L≤64)(hsh:x/2^k=o)
  (Kz:Hid (∀w:World,Tab w→Calls Tryz.prog 168 #[.int .u64 x] w fun e w'=>e=.returned (.int .i64 (k:Int))∧w=w'))
  (Kl:Hid (∀w:World,Calls Tryz.prog 145 #[.int .u64 (IntKind.u64.wrap o)] w fun e w'=>e=.returned (.int .i64 (L:Int))∧w=w')) (U:Int) (hu:min (24-(L:Int)) (e+(k:Int)+149)=U) (hU:0≤U) (hU2:U≤64) (hs:255≤e+(k:Int)-U+149+1) (w:World) (hT:Tab w):Calls Tryz.prog 147 #[.bool p,.int .i64 x,.int .i64 e,.int .i64 32] w fun e w'=>e=.returned (.tuple #[.int .i64 0,.bool false])∧Kept w w':=by
 have HT:Hid (Tab w):=hT
 clear hT
 go_enter Tryz.func147,Tryz.ntmps147
 go_wp2_with fail
 refine(qM _).mono ?_
 rintro e w1 ⟨rfl,hk1⟩
 go_wp2_with fail
 refine(Kz.out _ (HT.out.kept (hk1.alloc _ _))).mono ?_
 rintro e w2 ⟨rfl,rfl⟩
 go_wp2
 have hK:=qia (w1.alloc (.cells #[.int .i64 2147483648,.int .i64 2139095040,.int .i64 2143289345,.int .i64 23,.int .i64 (-149)] 166))
 go_region_held (fun v=>Kept (w1.alloc (.cells #[.int .i64 2147483648,.int .i64 2139095040,.int .i64 2143289345,.int .i64 23,.int .i64 (-149)] 166)) v∧∀o,v.cell? ⟨w1.heap.size,o,none⟩=(w1.alloc (.cells #[.int .i64 2147483648,.int .i64 2139095040,.int .i64 2143289345,.int .i64 23,.int .i64 (-149)] 166)).cell? ⟨w1.heap.size,o,none⟩) (first|exact vS hK|assumption) (first|(go_at_call 145;refine(Kl.out _).mono ?_;rintro e w3 ⟨rfl,rfl⟩))
 go_wp2
 go_ret2
 exact⟨rfl,(hk1.alloc _ _).drew⟩
theorem Jr (p:Bool)(x e:Int)(k:Nat)(hx0:0<x)(hx1:x≤9223372036854775807)(he1:-2000≤e)(he2:e≤2000)(hk:k<64)(o:Int)(L:Nat)(ho0:0<o)(ho1:o≤9223372036854775807)(hL:L≤64)(hsh:x/2^k=o)
  (Kz:Hid (∀w:World,Tab w→Calls Tryz.prog 168 #[.int .u64 x] w fun e w'=>e=.returned (.int .i64 (k:Int))∧w=w'))
  (Kl:Hid (∀w:World,Calls Tryz.prog 145 #[.int .u64 (IntKind.u64.wrap o)] w fun e w'=>e=.returned (.int .i64 (L:Int))∧w=w')) (U:Nat) (hu:min (24-(L:Int)) (e+(k:Int)+149)=(U:Int)) (hU2:U<64) (hs:e+(k:Int)-(U:Int)+149+1<255) (hs0:0≤e+(k:Int)-(U:Int)+149) (v r:Int) (hv:0≤o*2^U) (hv2:o*2^U<2*8388608) (hve:(e+(k:Int)-(U:Int)+149)*8388608+o*2^U=v) (hr:bits .or .i64 v 2147483648=r) (q:Int) (hq0:(if p=true then r else v)=q) (w:World) (hT:Tab w):Calls Tryz.prog 147 #[.bool p,.int .i64 x,.int .i64 e,.int .i64 32] w fun e w'=>e=.returned (.tuple #[.int .i64 q,.bool true])∧Kept w w':=by
 have HQ:Hid ((if p=true then r else v)=q):=hq0
 clear hq0
 obtain⟨Q,hQ⟩:∃Q,Q=o*2^U:=⟨_,rfl⟩
 have HM:Hid (min (IntKind.i64.wrap (IntKind.i64.wrap 24-(L:Int))) (IntKind.i64.wrap (e+(k:Int)+149))=(U:Int)):=by
  show min (IntKind.i64.wrap (IntKind.i64.wrap 24-(L:Int))) (IntKind.i64.wrap (e+(k:Int)+149))=(U:Int)
  rw[qc,qc,qc]
  omega
 have HW:Hid (IntKind.i64.wrap (IntKind.i64.wrap ((e+(k:Int)-(U:Int)+149)*8388608)+IntKind.i64.wrap (o*2^U))=v):=by
  show IntKind.i64.wrap (IntKind.i64.wrap ((e+(k:Int)-(U:Int)+149)*8388608)+IntKind.i64.wrap (o*2^U))=v
  rw[←hQ]at hv hv2 hve ⊢
  rw[qc,qc,qc]
  omega
 clear hve hv hv2 hQ
 have HT:Hid (Tab w):=hT
 clear hT
 go_enter Tryz.func147,Tryz.ntmps147
 go_wp2_with fail
 refine(qM _).mono ?_
 rintro e w1 ⟨rfl,hk1⟩
 go_wp2_with fail
 refine(Kz.out _ (HT.out.kept (hk1.alloc _ _))).mono ?_
 rintro e w2 ⟨rfl,rfl⟩
 go_wp2
 have hK:=qia (w1.alloc (.cells #[.int .i64 2147483648,.int .i64 2139095040,.int .i64 2143289345,.int .i64 23,.int .i64 (-149)] 166))
 go_region_held (fun v=>Kept (w1.alloc (.cells #[.int .i64 2147483648,.int .i64 2139095040,.int .i64 2143289345,.int .i64 23,.int .i64 (-149)] 166)) v∧∀o,v.cell? ⟨w1.heap.size,o,none⟩=(w1.alloc (.cells #[.int .i64 2147483648,.int .i64 2139095040,.int .i64 2143289345,.int .i64 23,.int .i64 (-149)] 166)).cell? ⟨w1.heap.size,o,none⟩) (first|exact vS hK|assumption) (first|(go_at_call 145;refine(Kl.out _).mono ?_;rintro e w3 ⟨rfl,rfl⟩))
 go_wp2
 have hK2:=hK.drew
 rw[HM.out]
 go_region_held (fun v=>Kept (w1.alloc (.cells #[.int .i64 2147483648,.int .i64 2139095040,.int .i64 2143289345,.int .i64 23,.int .i64 (-149)] 166)) v∧∀o,v.cell? ⟨w1.heap.size,o,none⟩=(w1.alloc (.cells #[.int .i64 2147483648,.int .i64 2139095040,.int .i64 2143289345,.int .i64 23,.int .i64 (-149)] 166)).cell? ⟨w1.heap.size,o,none⟩) (first|exact vS hK2|(refine qan ?_ hk5;assumption)) (first|(go_at_call 167;rw[HW.out];refine(Qv p v r q hr HQ.out _).mono ?_;rintro e w5 ⟨rfl,hk5⟩))
 go_wp2
 go_ret2
 exact⟨rfl,(hk1.trans (((qia _).alloc _ _).trans (And.left ‹_›)))⟩
end Go.Proofs.YtaglkncdedeipaaGreatDoor
